/- The walk of the law on RibRight. -/
import Derived.Test.YtkkhjeigndcmaaaRibLaw
import Derived.Test.YtkkhjeigndcmaaaRibR
namespace Go.Proofs.Ytkkhjeigndcmaaa
open Go.RowKit Go.Sort

set_option maxRecDepth 100000 in
theorem fnExactRibRight_walk (x : Option Addr) (len cap : Nat) (es : List Rt) (w : World) (h : ArgR w x len es) :
    Calls Try.prog 4 #[ribV x len cap] w fun r w' => r = .returned (.bool true) ∧ Below w.heap.size w w' := by
  obtain rfl : es.length = len := h.1
  have hml := h.2.1
  have HZ : Hid (∀ w, Calls Try.prog 8 #[ribV x es.length cap, .int .i64 1048576] w fun e w' => e = .returned (.int .i64 (if es.length ≤ 1048576 then 1048576 - (es.length : Int) else -1)) ∧ Below w.heap.size w w') := fun w => szRib_any x es.length cap w hml
  have HX : Hid (ArgR w x es.length es) := h
  clear h hml
  by_cases hn : es.length ≤ 1048576
  · have d : decide (1048576 - (es.length : Int) < 0) = false := by simp; omega
    have HT : Hid (∀ w, ArgR w x es.length es → Calls Try.prog 10 #[ribV x es.length cap] w fun e w' => ∃ g, e = .returned (ribV (some ⟨g, 0, none⟩) es.length es.length) ∧ w.heap.size ≤ g ∧ Row w' g 29 (rowR es) ∧ Below w.heap.size w w') := fun w h => toRib_any x cap es w h hn
    have HS : Hid (∀ p cap w, RtsIn w p es → Calls Try.prog 9 #[ribV p es.length cap] w fun e w' => e = .returned (.bool (ribB es)) ∧ Below w.heap.size w w') := fun p cap w h => specRib_any p cap es w h (by omega)
    have HI : Hid (∀ p cap w, RtsIn w p es → Calls Try.prog 11 #[ribV p es.length cap] w fun e w' => e = .returned (.bool (ribB es)) ∧ Below w.heap.size w w') := fun p cap w h => implRib_any p cap es w h (by omega)
    have HQ : Hid (∀ p q a b w, RtsIn w p es → RtsIn w q es → Calls Try.prog 12 #[ribV p es.length a, ribV q es.length b] w fun r w' => r = .returned (.bool true) ∧ Below w.heap.size w w') := fun p q a b w h1 h2 => eqRib_any p q a b es w h1 h2 (by omega)
    rw [if_pos hn] at HZ
    generalize ribB es = B at *
    unfold ribV at *
    generalize es.length = N at *
    go_enter Try.func4, Try.ntmps4
    go_wp2_with fail
    refine (HZ.out _).mono ?_
    rintro e w1 ⟨rfl, hb1⟩
    obtain ⟨c0, hB1⟩ := box1 hb1
    clear hb1 HZ
    go_wp2_with fail
    refine (HT.out _ (HX.out.below hB1)).mono ?_
    rintro e w2 ⟨g2, rfl, hg2, r2, hb2⟩
    have d0 := one_later c0 hb2
    have hB2 := below_next hB1 hb2 hB1.size
    clear hb2 c0 hB1
    go_wp2_with fail
    refine (HS.out _ _ _ (rtsIn_row r2)).mono ?_
    rintro e w3 ⟨rfl, hb3⟩
    have c0 := one_later d0 hb3
    have hB3 := below_next hB2 hb3 hB2.size
    have hs3 : w.heap.size < w3.heap.size := World.block_lt_of_cell? w3 _ c0
    clear hb3 d0 hB2 r2 hg2
    go_wp2_with fail
    refine (HT.out _ (HX.out.below hB3)).mono ?_
    rintro e w4 ⟨g4, rfl, hg4, r4, hb4⟩
    have d0 := one_later c0 hb4
    have hB4 := below_next hB3 hb4 hB3.size
    clear hb4 c0 hB3
    have q5 := Row.new w4 39 [.slice (some ⟨g4, 0, none⟩) N N]
    have r5 := r4.alloc (.cells #[.slice (some ⟨g4, 0, none⟩) N N] 39)
    have e5 := one_later d0 (ent_new0 w4 (.cells #[.slice (some ⟨g4, 0, none⟩) N N] 39))
    have hB5 := below_next hB4 (ent_new0 w4 (.cells #[.slice (some ⟨g4, 0, none⟩) N N] 39)) hB4.size
    go_wp2_with fail
    refine (HI.out _ _ _ (rtsIn_row r5)).mono ?_
    rintro e w6 ⟨rfl, hb6⟩
    have c0 := one_later e5 hb6
    have q6 := q5.below hb6 q5.lt
    have r6 := r5.below hb6 r5.lt
    have hB6 := below_next hB5 hb6 hB5.size
    clear hb6 q5 r5 r4 e5 hB5 hB4 d0 HI HS
    have x0 : w6.cell? ⟨w4.heap.size, 0, none⟩ = some (.slice (some ⟨g4, 0, none⟩) N N) := q6.cell 0
    have hBB : (B != B) = false := by simp
    go_wp2_with fail
    have hGN : (([(22, Is (.agg #[.slice (some ⟨g4, 0, none⟩) N N])), (23, Is (.agg #[.slice x N cap])), (24, fun v W => ∃ g, v = .agg #[.slice (some ⟨g, 0, none⟩) N N] ∧ Row W g 29 (rowR es)), (25, Is (.bool true)), (26, Is (.bool false))] : List (Nat × (Value → World → Prop))).map (·.1)).Nodup := by simp
    refine wp_region_steady 5 (SlotG [(22, Is (.agg #[.slice (some ⟨g4, 0, none⟩) N N])), (23, Is (.agg #[.slice x N cap])), (24, fun v W => ∃ g, v = .agg #[.slice (some ⟨g, 0, none⟩) N N] ∧ Row W g 29 (rowR es)), (25, Is (.bool true)), (26, Is (.bool false))]) (by kernel_rfl) (by kernel_rfl) (Stabs.all ⟨stab_is _, stab_is _, stab_ribRow _, stab_is _, stab_is _, trivial⟩) ?_ ?_
    · intro o ho
      simp only [List.take_succ_cons, List.take_zero, List.mem_cons, List.not_mem_nil, or_false] at ho
      rcases ho with rfl | rfl | rfl | rfl | rfl
      · intro a' w' hb ha hdep
        have d5 : a'.tmps.getD 5 undef = .pointer (some ⟨w4.heap.size, 0, none⟩) := ha.at 5 (by kernel_rfl)
        have hmk := fun (x : Value) (W : World) => SlotG.mk (x := x) (w := W) 0 rfl hGN
        clear hGN ha hdep
        have k0 := one_later x0 hb
        go_simp
        exact ⟨_, rfl, Below.refl _ _, hmk _ _ rfl⟩
      · intro a' w' hb ha hdep
        have d1 : a'.tmps.getD 1 undef = .pointer (some ⟨w.heap.size, 0, none⟩) := ha.at 1 (by kernel_rfl)
        have hmk := fun (x : Value) (W : World) => SlotG.mk (x := x) (w := W) 1 rfl hGN
        clear hGN ha hdep
        have k0 := one_later c0 hb
        go_simp
        exact ⟨_, rfl, Below.refl _ _, hmk _ _ rfl⟩
      · intro a' w' hb ha hdep
        have d23 : a'.tmps.getD 23 undef = .agg #[.slice x N cap] := (hdep 23 (of_decide_eq_true (by kernel_rfl))).is 1 rfl
        have hmk := fun (x : Value) (W : World) => SlotG.mk (x := x) (w := W) 2 rfl hGN
        clear hGN ha hdep
        go_simp
        refine (HT.out _ (HX.out.below (below_next hB6 hb hB6.size))).mono ?_
        rintro e w2 ⟨g, rfl, _, r7, hb2⟩
        exact ⟨_, rfl, hb2, hmk _ _ ⟨g, rfl, r7⟩⟩
      · intro a' w' hb ha hdep
        have d22 : a'.tmps.getD 22 undef = .agg #[.slice (some ⟨g4, 0, none⟩) N N] := (hdep 22 (of_decide_eq_true (by kernel_rfl))).is 0 rfl
        have D24 := (hdep 24 (of_decide_eq_true (by kernel_rfl))).get 2 rfl
        have hmk := fun (x : Value) (W : World) => SlotG.mk (x := x) (w := W) 3 rfl hGN
        clear hGN ha hdep
        obtain ⟨g, e24, r7⟩ := D24
        go_simp
        refine (HQ.out _ _ _ _ _ (rtsIn_row (r6.below hb r6.lt)) (rtsIn_row r7)).mono ?_
        rintro e w2 ⟨rfl, hb2⟩
        exact ⟨_, rfl, hb2, hmk _ _ rfl⟩
      · intro a' w' hb ha hdep
        have d25 : a'.tmps.getD 25 undef = .bool true := (hdep 25 (of_decide_eq_true (by kernel_rfl))).is 3 rfl
        have hmk := fun (x : Value) (W : World) => SlotG.mk (x := x) (w := W) 4 rfl hGN
        clear hGN ha hdep
        go_simp
        exact ⟨_, rfl, Below.refl _ _, hmk _ _ rfl⟩
    · intro a' w' hb ha hG
      clear hGN
      have d26 : a'.tmps.getD 26 undef = .bool false := (hG _ (List.mem_of_getElem? (i := 4) rfl) 26 rfl).is 4 rfl
      have e2 : a' = ⟨#[a'.tmps.getD 0 undef, a'.tmps.getD 1 undef, a'.tmps.getD 2 undef, a'.tmps.getD 3 undef, a'.tmps.getD 4 undef, a'.tmps.getD 5 undef, a'.tmps.getD 6 undef, a'.tmps.getD 7 undef, a'.tmps.getD 8 undef, a'.tmps.getD 9 undef, a'.tmps.getD 10 undef, a'.tmps.getD 11 undef, a'.tmps.getD 12 undef, a'.tmps.getD 13 undef, a'.tmps.getD 14 undef, a'.tmps.getD 15 undef, a'.tmps.getD 16 undef, a'.tmps.getD 17 undef, a'.tmps.getD 18 undef, a'.tmps.getD 19 undef, a'.tmps.getD 20 undef, a'.tmps.getD 21 undef, a'.tmps.getD 22 undef, a'.tmps.getD 23 undef, a'.tmps.getD 24 undef, a'.tmps.getD 25 undef, a'.tmps.getD 26 undef], []⟩ := by rw [← (show a'.defers = [] from ha.2.1)]; exact act_eq a' 27 ha.1
      rw [d26] at e2
      clear hG ha d26
      generalize a'.tmps.getD 0 undef = x0 at *
      generalize a'.tmps.getD 1 undef = x1 at *
      generalize a'.tmps.getD 2 undef = x2 at *
      generalize a'.tmps.getD 3 undef = x3 at *
      generalize a'.tmps.getD 4 undef = x4 at *
      generalize a'.tmps.getD 5 undef = x5 at *
      generalize a'.tmps.getD 6 undef = x6 at *
      generalize a'.tmps.getD 7 undef = x7 at *
      generalize a'.tmps.getD 8 undef = x8 at *
      generalize a'.tmps.getD 9 undef = x9 at *
      generalize a'.tmps.getD 10 undef = x10 at *
      generalize a'.tmps.getD 11 undef = x11 at *
      generalize a'.tmps.getD 12 undef = x12 at *
      generalize a'.tmps.getD 13 undef = x13 at *
      generalize a'.tmps.getD 14 undef = x14 at *
      generalize a'.tmps.getD 15 undef = x15 at *
      generalize a'.tmps.getD 16 undef = x16 at *
      generalize a'.tmps.getD 17 undef = x17 at *
      generalize a'.tmps.getD 18 undef = x18 at *
      generalize a'.tmps.getD 19 undef = x19 at *
      generalize a'.tmps.getD 20 undef = x20 at *
      generalize a'.tmps.getD 21 undef = x21 at *
      generalize a'.tmps.getD 22 undef = x22 at *
      generalize a'.tmps.getD 23 undef = x23 at *
      generalize a'.tmps.getD 24 undef = x24 at *
      generalize a'.tmps.getD 25 undef = x25 at *
      subst e2
      simp only [List.drop_succ_cons, List.drop_zero]
      have hB7 := below_next hB6 hb hB6.size
      clear hb
      go_wp2
      go_ret
      exact ⟨rfl, hB7⟩
  · rw [if_neg hn] at HZ
    unfold ribV at *
    go_enter Try.func4, Try.ntmps4
    go_wp2_with fail
    refine (HZ.out _).mono ?_
    rintro e w1 ⟨rfl, hb1⟩
    have hB1 := (ent_new0 w _).trans (hb1.mono (by simp))
    clear hb1
    go_wp2
    go_ret
    exact ⟨rfl, hB1⟩
end Go.Proofs.Ytkkhjeigndcmaaa
