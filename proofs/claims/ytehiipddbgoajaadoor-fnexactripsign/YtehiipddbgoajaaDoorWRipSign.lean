/- The walk of the law on RipSign. -/
import Derived.Test.YtehiipddbgoajaaDoorPack1
import Derived.Test.YtehiipddbgoajaaDoorPack2
namespace Go.Proofs.YtehiipddbgoajaaDoor
open Go.RowKit Go.Sort

set_option maxRecDepth 100000 in
theorem fnExactRipSign_walk (c : Int) (x : Option Addr) (len cap : Nat) (es : List Ent) (k : ByteArray) (seq : Int) (w : World) (h : ArgE w x len es) (hk : k.size ≤ maxLen) (hq0 : (Lit.int .i64 seq).wf = true) (hL : Laid w) :
    Calls Tryd.prog 4 #[ripV c x len cap, .string k, .int .i64 seq] w fun r w' => r = .returned (.bool true) ∧ Below w.heap.size w w' := by
  obtain rfl : es.length = len := h.1
  have hml := h.2.1
  have HZ : Hid (∀ w, Calls Tryd.prog 10 #[ripV c x es.length cap, .int .i64 1048576] w fun e w' => e = .returned (.int .i64 (if es.length ≤ 1048576 then 1048576 - (es.length : Int) else -1)) ∧ Below w.heap.size w w') := fun w => szRip_any c x es.length cap w hml
  have HX : Hid (ArgE w x es.length es) := h
  clear h hml
  have hk3 := hk
  unfold maxLen at hk3
  by_cases hz : k.size ≤ 1048576
  case neg =>
    have dz : decide (1048576 < (k.size : Int)) = true := by simp; omega
    unfold ripV at *
    go_enter Tryd.func4, Tryd.ntmps4
    go_wp2
    go_ret
    exact ⟨rfl, ent_new0 w _⟩
  have dz : decide (1048576 < (k.size : Int)) = false := by simp; omega
  by_cases hn : es.length ≤ 1048576
  · have d : decide (1048576 - (es.length : Int) < 0) = false := by simp; omega
    have HT : Hid (∀ w, ArgE w x es.length es → Calls Tryd.prog 12 #[ripV c x es.length cap] w fun e w' => ∃ g, e = .returned (ripV c (some ⟨g, 0, none⟩) es.length es.length) ∧ w.heap.size ≤ g ∧ Row w' g 44 (rowE es) ∧ Below w.heap.size w w') := fun w h => toRip_any c x cap es w h hn
    have HS : Hid (∀ p cap w, EntsIn w p es → Calls Tryd.prog 11 #[ripV c p es.length cap, .string k, .int .i64 seq] w fun e w' => e = .returned (.string (signO c es k seq)) ∧ Below w.heap.size w w') := fun p cap w h => specRipSign_any c p cap es k seq w h (by omega) hz
    have HI : Hid (∀ p cap w, EntsIn w p es → Laid w → Calls Tryd.prog 13 #[ripV c p es.length cap, .string k, .int .i64 seq] w fun e w' => e = .returned (.string (signO c es k seq)) ∧ Below w.heap.size w w') := fun p cap w h hL => implRipSign_any c p cap es k seq w h (by omega) hk (bounds_i64 hq0) hL
    have HQ : Hid (∀ p q a b w, EntsIn w p es → EntsIn w q es → Calls Tryd.prog 14 #[ripV c p es.length a, ripV c q es.length b] w fun r w' => r = .returned (.bool true) ∧ Below w.heap.size w w') := fun p q a b w h1 h2 => eqRip_any c p q a b es w h1 h2 (by omega)
    rw [if_pos hn] at HZ
    generalize signO c es k seq = B at *
    unfold ripV at *
    generalize es.length = N at *
    go_enter Tryd.func4, Tryd.ntmps4
    go_wp2_with fail
    refine (HZ.out _).mono ?_
    rintro e w1 ⟨rfl, hb1⟩
    obtain ⟨c0, c1, hs1, hB1⟩ := cell2_later rfl hb1
    clear hb1 HZ
    go_wp2_with fail
    refine (HT.out _ (HX.out.below hB1)).mono ?_
    rintro e w2 ⟨g2, rfl, hg2, r2, hb2⟩
    obtain ⟨d0, d1⟩ := two_later c0 c1 hb2
    have hB2 := below_next hB1 hb2 hB1.size
    clear hb2 c0 c1 hB1
    go_wp2_with fail
    refine (HS.out _ _ _ (entsIn_row r2)).mono ?_
    rintro e w3 ⟨rfl, hb3⟩
    obtain ⟨c0, c1⟩ := two_later d0 d1 hb3
    have hB3 := below_next hB2 hb3 hB2.size
    have hs3 : w.heap.size < w3.heap.size := World.block_lt_of_cell? w3 _ c0
    clear hb3 d0 d1 hB2 r2 hg2
    go_wp2_with fail
    refine (HT.out _ (HX.out.below hB3)).mono ?_
    rintro e w4 ⟨g4, rfl, hg4, r4, hb4⟩
    obtain ⟨d0, d1⟩ := two_later c0 c1 hb4
    have hB4 := below_next hB3 hb4 hB3.size
    clear hb4 c0 c1 hB3
    have q5 := Row.new w4 24 [.int .i64 c, .slice (some ⟨g4, 0, none⟩) N N]
    have r5 := r4.alloc (.cells #[.int .i64 c, .slice (some ⟨g4, 0, none⟩) N N] 24)
    have e5 := two_later d0 d1 (ent_new0 w4 (.cells #[.int .i64 c, .slice (some ⟨g4, 0, none⟩) N N] 24))
    have hB5 := below_next hB4 (ent_new0 w4 (.cells #[.int .i64 c, .slice (some ⟨g4, 0, none⟩) N N] 24)) hB4.size
    go_wp2_with fail
    refine (HI.out _ _ _ (entsIn_row r5) (hL.below hB5)).mono ?_
    rintro e w6 ⟨rfl, hb6⟩
    obtain ⟨c0, c1⟩ := two_after e5 hb6
    have q6 := q5.below hb6 q5.lt
    have r6 := r5.below hb6 r5.lt
    have hB6 := below_next hB5 hb6 hB5.size
    clear hb6 q5 r5 r4 e5 hB5 hB4 d0 d1 HI HS
    have x0 : w6.cell? ⟨w4.heap.size, 0, none⟩ = some (.int .i64 c) := q6.cell 0
    have x1 : w6.cell? ⟨w4.heap.size, 1, none⟩ = some (.slice (some ⟨g4, 0, none⟩) N N) := q6.cell 1
    go_wp2_with fail
    have hGN : (([(33, Is (.agg #[.int .i64 c, .slice (some ⟨g4, 0, none⟩) N N])), (34, Is (.agg #[.int .i64 c, .slice x N cap])), (35, fun v W => ∃ g, v = .agg #[.int .i64 c, .slice (some ⟨g, 0, none⟩) N N] ∧ Row W g 44 (rowE es)), (36, Is (.bool true)), (37, Is (.bool false))] : List (Nat × (Value → World → Prop))).map (·.1)).Nodup := by simp
    refine wp_region_steady 5 (SlotG [(33, Is (.agg #[.int .i64 c, .slice (some ⟨g4, 0, none⟩) N N])), (34, Is (.agg #[.int .i64 c, .slice x N cap])), (35, fun v W => ∃ g, v = .agg #[.int .i64 c, .slice (some ⟨g, 0, none⟩) N N] ∧ Row W g 44 (rowE es)), (36, Is (.bool true)), (37, Is (.bool false))]) (by kernel_rfl) (by kernel_rfl) (Stabs.all ⟨stab_is _, stab_is _, stab_ripRow _, stab_is _, stab_is _, trivial⟩) ?_ ?_
    · intro o ho
      simp only [List.take_succ_cons, List.take_zero, List.mem_cons, List.not_mem_nil, or_false] at ho
      rcases ho with rfl | rfl | rfl | rfl | rfl
      · intro a' w' hb ha hdep
        have d9 : a'.tmps.getD 9 undef = .pointer (some ⟨w4.heap.size, 0, none⟩) := ha.at 9 (by kernel_rfl)
        have hmk := fun (x : Value) (W : World) => SlotG.mk (x := x) (w := W) 0 rfl hGN
        clear hGN ha hdep
        obtain ⟨k0, k1⟩ := two_later x0 x1 hb
        go_simp
        exact ⟨_, rfl, Below.refl _ _, hmk _ _ rfl⟩
      · intro a' w' hb ha hdep
        have d3 : a'.tmps.getD 3 undef = .pointer (some ⟨w.heap.size, 0, none⟩) := ha.at 3 (by kernel_rfl)
        have hmk := fun (x : Value) (W : World) => SlotG.mk (x := x) (w := W) 1 rfl hGN
        clear hGN ha hdep
        obtain ⟨k0, k1⟩ := two_later c0 c1 hb
        go_simp
        exact ⟨_, rfl, Below.refl _ _, hmk _ _ rfl⟩
      · intro a' w' hb ha hdep
        have d34 : a'.tmps.getD 34 undef = .agg #[.int .i64 c, .slice x N cap] := (hdep 34 (of_decide_eq_true (by kernel_rfl))).is 1 rfl
        have hmk := fun (x : Value) (W : World) => SlotG.mk (x := x) (w := W) 2 rfl hGN
        clear hGN ha hdep
        go_simp
        refine (HT.out _ (HX.out.below (below_next hB6 hb hB6.size))).mono ?_
        rintro e w2 ⟨g, rfl, _, r7, hb2⟩
        exact ⟨_, rfl, hb2, hmk _ _ ⟨g, rfl, r7⟩⟩
      · intro a' w' hb ha hdep
        have d33 : a'.tmps.getD 33 undef = .agg #[.int .i64 c, .slice (some ⟨g4, 0, none⟩) N N] := (hdep 33 (of_decide_eq_true (by kernel_rfl))).is 0 rfl
        have D35 := (hdep 35 (of_decide_eq_true (by kernel_rfl))).get 2 rfl
        have hmk := fun (x : Value) (W : World) => SlotG.mk (x := x) (w := W) 3 rfl hGN
        clear hGN ha hdep
        obtain ⟨g, e24, r7⟩ := D35
        go_simp
        refine (HQ.out _ _ _ _ _ (entsIn_row (r6.below hb r6.lt)) (entsIn_row r7)).mono ?_
        rintro e w2 ⟨rfl, hb2⟩
        exact ⟨_, rfl, hb2, hmk _ _ rfl⟩
      · intro a' w' hb ha hdep
        have d36 : a'.tmps.getD 36 undef = .bool true := (hdep 36 (of_decide_eq_true (by kernel_rfl))).is 3 rfl
        have hmk := fun (x : Value) (W : World) => SlotG.mk (x := x) (w := W) 4 rfl hGN
        clear hGN ha hdep
        go_simp
        exact ⟨_, rfl, Below.refl _ _, hmk _ _ rfl⟩
    · intro a' w' hb ha hG
      clear hGN
      have d37 : a'.tmps.getD 37 undef = .bool false := (hG _ (List.mem_of_getElem? (i := 4) rfl) 37 rfl).is 4 rfl
      have e2 : a' = ⟨#[a'.tmps.getD 0 undef, a'.tmps.getD 1 undef, a'.tmps.getD 2 undef, a'.tmps.getD 3 undef, a'.tmps.getD 4 undef, a'.tmps.getD 5 undef, a'.tmps.getD 6 undef, a'.tmps.getD 7 undef, a'.tmps.getD 8 undef, a'.tmps.getD 9 undef, a'.tmps.getD 10 undef, a'.tmps.getD 11 undef, a'.tmps.getD 12 undef, a'.tmps.getD 13 undef, a'.tmps.getD 14 undef, a'.tmps.getD 15 undef, a'.tmps.getD 16 undef, a'.tmps.getD 17 undef, a'.tmps.getD 18 undef, a'.tmps.getD 19 undef, a'.tmps.getD 20 undef, a'.tmps.getD 21 undef, a'.tmps.getD 22 undef, a'.tmps.getD 23 undef, a'.tmps.getD 24 undef, a'.tmps.getD 25 undef, a'.tmps.getD 26 undef, a'.tmps.getD 27 undef, a'.tmps.getD 28 undef, a'.tmps.getD 29 undef, a'.tmps.getD 30 undef, a'.tmps.getD 31 undef, a'.tmps.getD 32 undef, a'.tmps.getD 33 undef, a'.tmps.getD 34 undef, a'.tmps.getD 35 undef, a'.tmps.getD 36 undef, a'.tmps.getD 37 undef], []⟩ := by rw [← (show a'.defers = [] from ha.2.1)]; exact act_eq a' 38 ha.1
      rw [d37] at e2
      clear hG ha d37
      generalize a'.tmps.getD 0 undef = x0 at *
      generalize a'.tmps.getD 1 undef = x1 at *
      generalize a'.tmps.getD 2 undef = x2 at *
      generalize a'.tmps.getD 3 undef = x3 at *
      generalize a'.tmps.getD 4 undef = x4 at *
      generalize a'.tmps.getD 5 undef = x5 at *
      generalize a'.tmps.getD 6 undef = x6 at *
      generalize a'.tmps.getD 7 undef = x7 at *
      generalize a'.tmps.getD 8 undef = x8 at *
      generalize a'.tmps.getD 9 undef = x9 at *
      generalize a'.tmps.getD 10 undef = x10 at *
      generalize a'.tmps.getD 11 undef = x11 at *
      generalize a'.tmps.getD 12 undef = x12 at *
      generalize a'.tmps.getD 13 undef = x13 at *
      generalize a'.tmps.getD 14 undef = x14 at *
      generalize a'.tmps.getD 15 undef = x15 at *
      generalize a'.tmps.getD 16 undef = x16 at *
      generalize a'.tmps.getD 17 undef = x17 at *
      generalize a'.tmps.getD 18 undef = x18 at *
      generalize a'.tmps.getD 19 undef = x19 at *
      generalize a'.tmps.getD 20 undef = x20 at *
      generalize a'.tmps.getD 21 undef = x21 at *
      generalize a'.tmps.getD 22 undef = x22 at *
      generalize a'.tmps.getD 23 undef = x23 at *
      generalize a'.tmps.getD 24 undef = x24 at *
      generalize a'.tmps.getD 25 undef = x25 at *
      generalize a'.tmps.getD 26 undef = x26 at *
      generalize a'.tmps.getD 27 undef = x27 at *
      generalize a'.tmps.getD 28 undef = x28 at *
      generalize a'.tmps.getD 29 undef = x29 at *
      generalize a'.tmps.getD 30 undef = x30 at *
      generalize a'.tmps.getD 31 undef = x31 at *
      generalize a'.tmps.getD 32 undef = x32 at *
      generalize a'.tmps.getD 33 undef = x33 at *
      generalize a'.tmps.getD 34 undef = x34 at *
      generalize a'.tmps.getD 35 undef = x35 at *
      generalize a'.tmps.getD 36 undef = x36 at *
      subst e2
      simp only [List.drop_succ_cons, List.drop_zero]
      have hB7 := below_next hB6 hb hB6.size
      clear hb
      go_wp2
      go_ret
      exact ⟨rfl, hB7⟩
  · rw [if_neg hn] at HZ
    unfold ripV at *
    go_enter Tryd.func4, Tryd.ntmps4
    go_wp2_with fail
    refine (HZ.out _).mono ?_
    rintro e w1 ⟨rfl, hb1⟩
    have hB1 := (ent_new0 w _).trans (hb1.mono (by simp))
    clear hb1
    go_wp2
    go_ret
    exact ⟨rfl, hB1⟩
end Go.Proofs.YtehiipddbgoajaaDoor
