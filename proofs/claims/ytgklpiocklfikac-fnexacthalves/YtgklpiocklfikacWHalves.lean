/- The walk of the law on Halves. -/
import Derived.Test.YtgklpiocklfikacNetList
import Derived.Test.YtgklpiocklfikacToNet
namespace Go.Proofs.Ytgklpiocklfikac
open Go.RowKit Go.Sort

theorem halvesAt_yes {w w' : World} {a l : Int} {v : Value} (h : HalvesAt w w' a l v) (hb : halfB a l = true) : ∃ g, v = .slice (some ⟨g, 0, none⟩) 2 2 ∧ w.heap.size ≤ g ∧ Row w' g 25 (nets2 a (l + 1) (a + (gap (l + 1) : Int)) (l + 1)) := by
  unfold HalvesAt at h; rwa [if_pos hb] at h
theorem halvesAt_no {w w' : World} {a l : Int} {v : Value} (h : HalvesAt w w' a l v) (hb : ¬ halfB a l = true) : ∃ x c, v = .slice x 0 c := by
  unfold HalvesAt at h; rwa [if_neg hb] at h
set_option maxRecDepth 100000 in
theorem fnExactHalves_walk (a l : Int) (w : World) (_wa : (Lit.int .i64 a).wf = true) (_wl : (Lit.int .i64 l).wf = true) :
    Calls Try.prog 4 #[.agg #[.int .i64 a, .int .i64 l]] w fun e w' => e = .returned (.bool true) ∧ Below w.heap.size w w' := by
  have HT : Hid (∀ w, Calls Try.prog 6 #[.agg #[.int .i64 a, .int .i64 l]] w fun e w' => e = .returned (.agg #[.int .i64 a, .int .i64 l]) ∧ Below w.heap.size w w') := toNet_any a l
  by_cases hh : halfB a l = true
  · have HS : Hid (∀ w, Calls Try.prog 8 #[.agg #[.int .i64 a, .int .i64 l]] w fun e w' => ∃ g, e = .returned (.slice (some ⟨g, 0, none⟩) 2 2) ∧ w.heap.size ≤ g ∧ Row w' g 25 (nets2 a (l + 1) (a + (gap (l + 1) : Int)) (l + 1)) ∧ Below w.heap.size w w') :=
      fun w => (specHalves_any a l w).mono fun e w' ⟨v, he, hv, hb⟩ => by obtain ⟨g, rfl, h1, h2⟩ := halvesAt_yes hv hh; exact ⟨g, he, h1, h2, hb⟩
    have HI : Hid (∀ w, Calls Try.prog 9 #[.agg #[.int .i64 a, .int .i64 l]] w fun e w' => ∃ g, e = .returned (.slice (some ⟨g, 0, none⟩) 2 2) ∧ w.heap.size ≤ g ∧ Row w' g 25 (nets2 a (l + 1) (a + (gap (l + 1) : Int)) (l + 1)) ∧ Below w.heap.size w w') :=
      fun w => (implHalves_any a l w).mono fun e w' ⟨v, he, hv, hb⟩ => by obtain ⟨g, rfl, h1, h2⟩ := halvesAt_yes hv hh; exact ⟨g, he, h1, h2, hb⟩
    clear hh
    generalize a + (gap (l + 1) : Int) = b at *
    generalize l + 1 = m at *
    go_enter Try.func4, Try.ntmps4
    go_wp2_with fail
    refine (HT.out _).mono ?_
    rintro e w1 ⟨rfl, hb1⟩
    obtain ⟨c0, c1, hs1, hB1⟩ := cell2_later rfl hb1
    clear hb1
    go_wp2_with fail
    refine (HS.out _).mono ?_
    rintro e w2 ⟨g, rfl, hg, r2, hb2⟩
    obtain ⟨d0, d1⟩ := two_later c0 c1 hb2
    have hB2 := below_next hB1 hb2 hB1.size
    have hs2 : w.heap.size < w2.heap.size := by have := hb2.size; omega
    clear hb2 c0 c1
    go_wp2_with fail
    refine (HT.out _).mono ?_
    rintro e w3 ⟨rfl, hb3⟩
    obtain ⟨c0, c1⟩ := two_later d0 d1 hb3
    have r3 := r2.below hb3 r2.lt
    have hB3 := below_next hB2 hb3 hB2.size
    have hs3 : g < w3.heap.size := r3.lt
    clear hb3 d0 d1 r2 hB2
    go_wp2_with fail
    refine (HI.out _).mono ?_
    rintro e w4 ⟨k, rfl, hk, q4, hb4⟩
    obtain ⟨d0, d1⟩ := two_later c0 c1 hb4
    have r4 := r3.below hb4 r3.lt
    have hB4 := below_next hB3 hb4 hB3.size
    clear hb4 c0 c1 r3 hB3
    go_wp2_with fail
    refine (eqNetS_2 k g _ _ _ _ _ q4 r4).mono ?_
    rintro e w5 ⟨rfl, hb5⟩
    obtain ⟨c0, c1⟩ := two_later d0 d1 hb5
    have r5 := r4.below hb5 r4.lt
    have q5 := q4.below hb5 q4.lt
    have hB5 := below_next hB4 hb5 hB4.size
    clear hb5 d0 d1 r4 q4 hB4
    go_wp2_with fail
    refine (markNetS_2 k _ _ _ _ _ q5).mono ?_
    rintro e w6 ⟨rfl, q6, hb6⟩
    have r6 := r5.below hb6 (by omega)
    have d0 : w6.cell? ⟨w.heap.size, 0, none⟩ = some (.int .i64 a) := by rw [hb6.cell (p := ⟨w.heap.size, 0, none⟩) (by show w.heap.size < k; omega)]; exact c0
    have d1 : w6.cell? ⟨w.heap.size, 1, none⟩ = some (.int .i64 l) := by rw [hb6.cell (p := ⟨w.heap.size, 1, none⟩) (by show w.heap.size < k; omega)]; exact c1
    have hB6 : Below w.heap.size w w6 := hB5.trans (hb6.mono (by omega))
    clear hb6 c0 c1 r5 q5 hB5
    go_wp2_with fail
    refine (heldNetS_2 k _ q6).mono ?_
    rintro e w7 ⟨rfl, rfl⟩
    go_wp2_with fail
    refine (HT.out _).mono ?_
    rintro e w7 ⟨rfl, hb7⟩
    have r7 := r6.below hb7 r6.lt
    have q7 := q6.below hb7 q6.lt
    have hB7 := below_next hB6 hb7 hB6.size
    clear hb7 d0 d1 r6 q6 hB6
    go_wp2_with fail
    refine (HI.out _).mono ?_
    rintro e w8 ⟨p, rfl, hp, s8, hb8⟩
    have r8 := r7.below hb8 r7.lt
    have q8 := q7.below hb8 q7.lt
    have hB8 := below_next hB7 hb8 hB7.size
    clear hb8 r7 q7 hB7
    go_wp2_with fail
    refine (eqNetS_2 p g _ _ _ _ _ s8 r8).mono ?_
    rintro e w9 ⟨rfl, hb9⟩
    have q9 := q8.below hb9 q8.lt
    have hB9 := below_next hB8 hb9 hB8.size
    clear hb9 r8 q8 s8 hB8
    go_wp2_with fail
    refine (heldNetS_2 k _ q9).mono ?_
    rintro e w10 ⟨rfl, rfl⟩
    go_wp2
    go_ret
    exact ⟨rfl, hB9⟩
  · have HS : Hid (∀ w, Calls Try.prog 8 #[.agg #[.int .i64 a, .int .i64 l]] w fun e w' => ∃ x c, e = .returned (.slice x 0 c) ∧ Below w.heap.size w w') :=
      fun w => (specHalves_any a l w).mono fun e w' ⟨v, he, hv, hb⟩ => by obtain ⟨x, c, rfl⟩ := halvesAt_no hv hh; exact ⟨x, c, he, hb⟩
    have HI : Hid (∀ w, Calls Try.prog 9 #[.agg #[.int .i64 a, .int .i64 l]] w fun e w' => ∃ x c, e = .returned (.slice x 0 c) ∧ Below w.heap.size w w') :=
      fun w => (implHalves_any a l w).mono fun e w' ⟨v, he, hv, hb⟩ => by obtain ⟨x, c, rfl⟩ := halvesAt_no hv hh; exact ⟨x, c, he, hb⟩
    clear hh
    go_enter Try.func4, Try.ntmps4
    go_wp2_with fail
    refine (HT.out _).mono ?_
    rintro e w1 ⟨rfl, hb1⟩
    obtain ⟨c0, c1, hs1, hB1⟩ := cell2_later rfl hb1
    clear hb1
    go_wp2_with fail
    refine (HS.out _).mono ?_
    rintro e w2 ⟨x, c, rfl, hb2⟩
    obtain ⟨d0, d1⟩ := two_later c0 c1 hb2
    have hB2 := below_next hB1 hb2 hB1.size
    clear hb2 c0 c1
    go_wp2_with fail
    refine (HT.out _).mono ?_
    rintro e w3 ⟨rfl, hb3⟩
    obtain ⟨c0, c1⟩ := two_later d0 d1 hb3
    have hB3 := below_next hB2 hb3 hB2.size
    clear hb3 d0 d1 hB2
    go_wp2_with fail
    refine (HI.out _).mono ?_
    rintro e w4 ⟨y, d, rfl, hb4⟩
    obtain ⟨d0, d1⟩ := two_later c0 c1 hb4
    have hB4 := below_next hB3 hb4 hB3.size
    clear hb4 c0 c1 hB3
    go_wp2_with fail
    refine (eqNetS_0 _ _ _ _ _).mono ?_
    rintro e w5 ⟨rfl, rfl⟩
    go_wp2_with fail
    refine (markNetS_0 _ _ _).mono ?_
    rintro e w5 ⟨rfl, rfl⟩
    go_wp2_with fail
    refine (heldNetS_0 _ _ _).mono ?_
    rintro e w5 ⟨rfl, rfl⟩
    go_wp2_with fail
    refine (HT.out _).mono ?_
    rintro e w7 ⟨rfl, hb7⟩
    have hB7 := below_next hB4 hb7 hB4.size
    clear hb7 d0 d1 hB4
    go_wp2_with fail
    refine (HI.out _).mono ?_
    rintro e w8 ⟨z, f, rfl, hb8⟩
    have hB8 := below_next hB7 hb8 hB7.size
    clear hb8 hB7
    go_wp2_with fail
    refine (eqNetS_0 _ _ _ _ _).mono ?_
    rintro e w9 ⟨rfl, rfl⟩
    go_wp2_with fail
    refine (heldNetS_0 _ _ _).mono ?_
    rintro e w10 ⟨rfl, rfl⟩
    go_wp2
    go_ret
    exact ⟨rfl, hB8⟩
end Go.Proofs.Ytgklpiocklfikac
