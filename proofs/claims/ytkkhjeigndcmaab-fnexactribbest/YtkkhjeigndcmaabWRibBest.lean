/- The walk of the law on RibBest. (Written by gen_wbest.py.) -/
import Derived.Test.YtkkhjeigndcmaabBestS
import Derived.Test.YtkkhjeigndcmaabRibLaw
namespace Go.Proofs.Ytkkhjeigndcmaab
open Go.RowKit Go.Sort

theorem one_box (w : World) (x : List Value) (t1 : TypeId) {w1 : World} (h : Below (w.alloc (.cells x.toArray t1)).heap.size (w.alloc (.cells x.toArray t1)) w1) : Row w1 w.heap.size t1 x ∧ Below w.heap.size w w1 := by
  have q0 := Row.new w t1 x
  exact ⟨q0.below h q0.lt, (ent_new0 w _).trans (h.mono (by simp))⟩
set_option maxRecDepth 100000 in
set_option maxHeartbeats 4000000 in
theorem fnExactRibBest_walk (x : Option Addr) (len cap : Nat) (rs : List Rt) (a : Int) (w : World) (h : ArgR w x len rs) (_ha : (Lit.int .i64 a).wf = true) :
    Calls Try.prog 4 #[ribV x len cap, .int .i64 a] w fun r w' => r = .returned (.bool true) ∧ Below w.heap.size w w' := by
  obtain rfl : rs.length = len := h.1
  have hml := h.2.1
  have HZ : Hid (∀ w, Calls Try.prog 8 #[ribV x rs.length cap, .int .i64 1048576] w fun e w' => e = .returned (.int .i64 (if rs.length ≤ 1048576 then 1048576 - (rs.length : Int) else -1)) ∧ Below w.heap.size w w') := fun w => szRib_any x rs.length cap w hml
  have HX : Hid (ArgR w x rs.length rs) := h
  clear h hml
  by_cases hn : rs.length ≤ 1048576
  · have d : decide (1048576 - (rs.length : Int) < 0) = false := by simp; omega
    have HT : Hid (∀ w, ArgR w x rs.length rs → Calls Try.prog 10 #[ribV x rs.length cap] w fun e w' => ∃ g, e = .returned (ribV (some ⟨g, 0, none⟩) rs.length rs.length) ∧ w.heap.size ≤ g ∧ Row w' g 30 (rowR rs) ∧ Below w.heap.size w w') := fun w h => toRib_any x cap rs w h hn
    have HS : Hid (∀ p cap w, RtsIn w p rs → Calls Try.prog 15 #[ribV p rs.length cap, .int .i64 a] w fun e w' => e = .returned (rtV (bestR rs a)) ∧ Below w.heap.size w w') := fun p cap w h => specBest_any p cap rs a w h (by omega)
    have HI : Hid (∀ p cap w, RtsIn w p rs → Calls Try.prog 16 #[ribV p rs.length cap, .int .i64 a] w fun e w' => e = .returned (rtV (bestR rs a)) ∧ Below w.heap.size w w') := fun p cap w h => implBest_any p cap rs a w h (by omega)
    have HQ : Hid (∀ p q a b w, RtsIn w p rs → RtsIn w q rs → Calls Try.prog 14 #[ribV p rs.length a, ribV q rs.length b] w fun r w' => r = .returned (.bool true) ∧ Below w.heap.size w w') := fun p q a b w h1 h2 => eqRib_any p q a b rs w h1 h2 (by omega)
    have HE : Hid (∀ w, Calls Try.prog 13 #[rtV (bestR rs a), rtV (bestR rs a)] w fun r w' => r = .returned (.bool true) ∧ Below w.heap.size w w') := eqRoute_same _
    rw [if_pos hn] at HZ
    generalize bestR rs a = V at *
    obtain ⟨A, L, M, O, I, T, U, E, C⟩ := V
    unfold ribV at *
    unfold rtV rtA at HS HI HE
    simp only at HS HI HE
    generalize rs.length = N at *
    go_enter Try.func4, Try.ntmps4
    go_wp2_with fail
    refine (HZ.out _).mono ?_
    rintro e w1 ⟨rfl, hb1⟩
    obtain ⟨q0, hB1⟩ := one_box w [.slice x N cap] 24 hb1
    clear hb1 HZ
    have x0 : w1.cell? ⟨w.heap.size, 0, none⟩ = some (.slice x N cap) := q0.cell 0
    go_wp2_with fail
    refine (HT.out _ (HX.out.below hB1)).mono ?_
    rintro e w2 ⟨g2, rfl, _, r2, hb2⟩
    have q0 := q0.below hb2 q0.lt
    have hB2 := hB1.trans (hb2.mono hB1.size)
    clear x0 hB1 hb2
    go_wp2_with fail
    refine (HS.out _ _ _ (rtsIn_row r2)).mono ?_
    rintro e w3 ⟨rfl, hb3⟩
    have q0 := (q0.below hb3 q0.lt).alloc (.cells #[.int .i64 A, .int .i64 L, .int .i64 M, .int .i64 O, .int .i64 I, .int .i64 T, .int .i64 U, .int .i64 E, .bool C] 30)
    have q6 := Row.new w3 30 [.int .i64 A, .int .i64 L, .int .i64 M, .int .i64 O, .int .i64 I, .int .i64 T, .int .i64 U, .int .i64 E, .bool C]
    have hB3 := (hB2.trans (hb3.mono hB2.size)).alloc (by have := hb3.size; have := hB2.size; omega) (.cells #[.int .i64 A, .int .i64 L, .int .i64 M, .int .i64 O, .int .i64 I, .int .i64 T, .int .i64 U, .int .i64 E, .bool C] 30)
    have x0 : (w3.alloc (.cells #[.int .i64 A, .int .i64 L, .int .i64 M, .int .i64 O, .int .i64 I, .int .i64 T, .int .i64 U, .int .i64 E, .bool C] 30)).cell? ⟨w.heap.size, 0, none⟩ = some (.slice x N cap) := q0.cell 0
    have HE3 : Hid _ := And.intro q0 (And.intro q6 hB3)
    clear HS r2 hB2 hb3 q0 q6 hB3
    go_wp2_with fail
    obtain ⟨q0, q6, hB3⟩ := HE3.out
    refine (HT.out _ (HX.out.below hB3)).mono ?_
    rintro e w4 ⟨g5, rfl, _, r5, hb4⟩
    generalize w3.heap.size = b6 at *
    have q0 := (q0.below hb4 q0.lt).alloc (.cells #[.slice (some ⟨g5, 0, none⟩) N N] 34)
    have q6 := (q6.below hb4 q6.lt).alloc (.cells #[.slice (some ⟨g5, 0, none⟩) N N] 34)
    have q5 := r5.alloc (.cells #[.slice (some ⟨g5, 0, none⟩) N N] 34)
    have q7 := Row.new w4 34 [.slice (some ⟨g5, 0, none⟩) N N]
    have hB4 := (hB3.trans (hb4.mono hB3.size)).alloc (by have := hb4.size; have := hB3.size; omega) (.cells #[.slice (some ⟨g5, 0, none⟩) N N] 34)
    have HE4 : Hid _ := And.intro q0 (And.intro q6 (And.intro q5 (And.intro q7 hB4)))
    clear HE3 x0 hB3 hb4 r5 q0 q6 q5 q7 hB4
    go_wp2_with fail
    generalize hb7 : w4.heap.size = b7 at *
    generalize w4.alloc (.cells #[.slice (some ⟨g5, 0, none⟩) N N] 34) = W7 at *
    clear hb7
    obtain ⟨q0, q6, q5, q7, hB4⟩ := HE4.out
    refine (HI.out _ _ _ (rtsIn_row q5)).mono ?_
    rintro e w5 ⟨rfl, hb5⟩
    have q0 := (q0.below hb5 q0.lt).alloc (.cells #[.int .i64 A, .int .i64 L, .int .i64 M, .int .i64 O, .int .i64 I, .int .i64 T, .int .i64 U, .int .i64 E, .bool C] 30)
    have q5 := (q5.below hb5 q5.lt).alloc (.cells #[.int .i64 A, .int .i64 L, .int .i64 M, .int .i64 O, .int .i64 I, .int .i64 T, .int .i64 U, .int .i64 E, .bool C] 30)
    have q6 := (q6.below hb5 q6.lt).alloc (.cells #[.int .i64 A, .int .i64 L, .int .i64 M, .int .i64 O, .int .i64 I, .int .i64 T, .int .i64 U, .int .i64 E, .bool C] 30)
    have q7 := (q7.below hb5 q7.lt).alloc (.cells #[.int .i64 A, .int .i64 L, .int .i64 M, .int .i64 O, .int .i64 I, .int .i64 T, .int .i64 U, .int .i64 E, .bool C] 30)
    have q8 := Row.new w5 30 [.int .i64 A, .int .i64 L, .int .i64 M, .int .i64 O, .int .i64 I, .int .i64 T, .int .i64 U, .int .i64 E, .bool C]
    have hB5 := (hB4.trans (hb5.mono hB4.size)).alloc (by have := hb5.size; have := hB4.size; omega) (.cells #[.int .i64 A, .int .i64 L, .int .i64 M, .int .i64 O, .int .i64 I, .int .i64 T, .int .i64 U, .int .i64 E, .bool C] 30)
    have x0 : (w5.alloc (.cells #[.int .i64 A, .int .i64 L, .int .i64 M, .int .i64 O, .int .i64 I, .int .i64 T, .int .i64 U, .int .i64 E, .bool C] 30)).cell? ⟨b6, 0, none⟩ = some (.int .i64 A) := q6.cell 0
    have x1 : (w5.alloc (.cells #[.int .i64 A, .int .i64 L, .int .i64 M, .int .i64 O, .int .i64 I, .int .i64 T, .int .i64 U, .int .i64 E, .bool C] 30)).cell? ⟨b6, 1, none⟩ = some (.int .i64 L) := q6.cell 1
    have x2 : (w5.alloc (.cells #[.int .i64 A, .int .i64 L, .int .i64 M, .int .i64 O, .int .i64 I, .int .i64 T, .int .i64 U, .int .i64 E, .bool C] 30)).cell? ⟨b6, 2, none⟩ = some (.int .i64 M) := q6.cell 2
    have x3 : (w5.alloc (.cells #[.int .i64 A, .int .i64 L, .int .i64 M, .int .i64 O, .int .i64 I, .int .i64 T, .int .i64 U, .int .i64 E, .bool C] 30)).cell? ⟨b6, 3, none⟩ = some (.int .i64 O) := q6.cell 3
    have x4 : (w5.alloc (.cells #[.int .i64 A, .int .i64 L, .int .i64 M, .int .i64 O, .int .i64 I, .int .i64 T, .int .i64 U, .int .i64 E, .bool C] 30)).cell? ⟨b6, 4, none⟩ = some (.int .i64 I) := q6.cell 4
    have x5 : (w5.alloc (.cells #[.int .i64 A, .int .i64 L, .int .i64 M, .int .i64 O, .int .i64 I, .int .i64 T, .int .i64 U, .int .i64 E, .bool C] 30)).cell? ⟨b6, 5, none⟩ = some (.int .i64 T) := q6.cell 5
    have x6 : (w5.alloc (.cells #[.int .i64 A, .int .i64 L, .int .i64 M, .int .i64 O, .int .i64 I, .int .i64 T, .int .i64 U, .int .i64 E, .bool C] 30)).cell? ⟨b6, 6, none⟩ = some (.int .i64 U) := q6.cell 6
    have x7 : (w5.alloc (.cells #[.int .i64 A, .int .i64 L, .int .i64 M, .int .i64 O, .int .i64 I, .int .i64 T, .int .i64 U, .int .i64 E, .bool C] 30)).cell? ⟨b6, 7, none⟩ = some (.int .i64 E) := q6.cell 7
    have x8 : (w5.alloc (.cells #[.int .i64 A, .int .i64 L, .int .i64 M, .int .i64 O, .int .i64 I, .int .i64 T, .int .i64 U, .int .i64 E, .bool C] 30)).cell? ⟨b6, 8, none⟩ = some (.bool C) := q6.cell 8
    have HE5 : Hid _ := And.intro q0 (And.intro q5 (And.intro q7 hB5))
    clear HE4 HI hB4 hb5 q0 q5 q6 q7 q8 hB5
    go_wp2_with fail
    clear x0 x1 x2 x3 x4 x5 x6 x7 x8
    generalize w5.alloc (.cells #[.int .i64 A, .int .i64 L, .int .i64 M, .int .i64 O, .int .i64 I, .int .i64 T, .int .i64 U, .int .i64 E, .bool C] 30) = W8 at *
    refine (HE.out _).mono ?_
    rintro e w9 ⟨rfl, hb9⟩
    obtain ⟨h0, h5, h7, h8⟩ := HE5.out
    have k0 := h0.below hb9 h0.lt
    have k7 := h7.below hb9 h7.lt
    have k5 := h5.below hb9 h5.lt
    have hB9 := h8.trans (hb9.mono h8.size)
    clear h0 h7 h5 h8 hb9 HE5 HE
    go_wp2_with fail
    have hGN : (([(27, Is (.agg #[.slice (some ⟨g5, 0, none⟩) N N])), (28, Is (.agg #[.slice x N cap])), (29, fun v W => ∃ g, v = .agg #[.slice (some ⟨g, 0, none⟩) N N] ∧ Row W g 30 (rowR rs)), (30, Is (.bool true)), (31, Is (.bool false))] : List (Nat × (Value → World → Prop))).map (·.1)).Nodup := by simp
    refine wp_region_steady 5 (SlotG [(27, Is (.agg #[.slice (some ⟨g5, 0, none⟩) N N])), (28, Is (.agg #[.slice x N cap])), (29, fun v W => ∃ g, v = .agg #[.slice (some ⟨g, 0, none⟩) N N] ∧ Row W g 30 (rowR rs)), (30, Is (.bool true)), (31, Is (.bool false))]) (by kernel_rfl) (by kernel_rfl) (Stabs.all ⟨stab_is _, stab_is _, stab_ribRow _, stab_is _, stab_is _, trivial⟩) ?_ ?_
    · intro o ho
      simp only [List.take_succ_cons, List.take_zero, List.mem_cons, List.not_mem_nil, or_false] at ho
      rcases ho with rfl | rfl | rfl | rfl | rfl
      · intro a' w' hb ha hdep
        have d7 : a'.tmps.getD 7 undef = .pointer (some ⟨b7, 0, none⟩) := ha.at 7 (by kernel_rfl)
        have hmk := fun (x : Value) (W : World) => SlotG.mk (x := x) (w := W) 0 rfl hGN
        clear hGN ha hdep
        have y0 : w'.cell? ⟨b7, 0, none⟩ = some (.slice (some ⟨g5, 0, none⟩) N N) := (k7.below hb k7.lt).cell 0
        go_simp
        exact ⟨_, rfl, Below.refl _ _, hmk _ _ rfl⟩
      · intro a' w' hb ha hdep
        have d2 : a'.tmps.getD 2 undef = .pointer (some ⟨w.heap.size, 0, none⟩) := ha.at 2 (by kernel_rfl)
        have hmk := fun (x : Value) (W : World) => SlotG.mk (x := x) (w := W) 1 rfl hGN
        clear hGN ha hdep
        have y0 : w'.cell? ⟨w.heap.size, 0, none⟩ = some (.slice x N cap) := (k0.below hb k0.lt).cell 0
        go_simp
        exact ⟨_, rfl, Below.refl _ _, hmk _ _ rfl⟩
      · intro a' w' hb ha hdep
        have d28 : a'.tmps.getD 28 undef = .agg #[.slice x N cap] := (hdep 28 (of_decide_eq_true (by kernel_rfl))).is 1 rfl
        have hmk := fun (x : Value) (W : World) => SlotG.mk (x := x) (w := W) 2 rfl hGN
        clear hGN ha hdep
        go_simp
        refine (HT.out _ (HX.out.below (hB9.trans (hb.mono hB9.size)))).mono ?_
        rintro e w2 ⟨g, rfl, _, r7, hb2⟩
        exact ⟨_, rfl, hb2, hmk _ _ ⟨g, rfl, r7⟩⟩
      · intro a' w' hb ha hdep
        have d27 : a'.tmps.getD 27 undef = .agg #[.slice (some ⟨g5, 0, none⟩) N N] := (hdep 27 (of_decide_eq_true (by kernel_rfl))).is 0 rfl
        have D29 := (hdep 29 (of_decide_eq_true (by kernel_rfl))).get 2 rfl
        have hmk := fun (x : Value) (W : World) => SlotG.mk (x := x) (w := W) 3 rfl hGN
        clear hGN ha hdep
        obtain ⟨g, d29, r29⟩ := D29
        go_simp
        refine (HQ.out _ _ _ _ _ (rtsIn_row (k5.below hb k5.lt)) (rtsIn_row r29)).mono ?_
        rintro e w2 ⟨rfl, hb2⟩
        exact ⟨_, rfl, hb2, hmk _ _ rfl⟩
      · intro a' w' hb ha hdep
        have d30 : a'.tmps.getD 30 undef = .bool true := (hdep 30 (of_decide_eq_true (by kernel_rfl))).is 3 rfl
        have hmk := fun (x : Value) (W : World) => SlotG.mk (x := x) (w := W) 4 rfl hGN
        clear hGN ha hdep
        go_simp
        exact ⟨_, rfl, Below.refl _ _, hmk _ _ rfl⟩
    · intro a' w' hb ha hG
      clear hGN
      have d31 : a'.tmps.getD 31 undef = .bool false := (hG _ (List.mem_of_getElem? (i := 4) rfl) 31 rfl).is 4 rfl
      have e2 : a' = ⟨#[a'.tmps.getD 0 undef, a'.tmps.getD 1 undef, a'.tmps.getD 2 undef, a'.tmps.getD 3 undef, a'.tmps.getD 4 undef, a'.tmps.getD 5 undef, a'.tmps.getD 6 undef, a'.tmps.getD 7 undef, a'.tmps.getD 8 undef, a'.tmps.getD 9 undef, a'.tmps.getD 10 undef, a'.tmps.getD 11 undef, a'.tmps.getD 12 undef, a'.tmps.getD 13 undef, a'.tmps.getD 14 undef, a'.tmps.getD 15 undef, a'.tmps.getD 16 undef, a'.tmps.getD 17 undef, a'.tmps.getD 18 undef, a'.tmps.getD 19 undef, a'.tmps.getD 20 undef, a'.tmps.getD 21 undef, a'.tmps.getD 22 undef, a'.tmps.getD 23 undef, a'.tmps.getD 24 undef, a'.tmps.getD 25 undef, a'.tmps.getD 26 undef, a'.tmps.getD 27 undef, a'.tmps.getD 28 undef, a'.tmps.getD 29 undef, a'.tmps.getD 30 undef, a'.tmps.getD 31 undef], []⟩ := by rw [← (show a'.defers = [] from ha.2.1)]; exact act_eq a' 32 ha.1
      rw [d31] at e2
      clear hG ha d31
      generalize a'.tmps.getD 0 undef = x0 at *
      generalize a'.tmps.getD 1 undef = x1 at *
      generalize a'.tmps.getD 2 undef = x2 at *
      generalize a'.tmps.getD 3 undef = x3 at *
      generalize a'.tmps.getD 4 undef = x4 at *
      generalize a'.tmps.getD 5 undef = x5 at *
      generalize a'.tmps.getD 6 undef = x6 at *
      generalize a'.tmps.getD 7 undef = x7 at *
      generalize a'.tmps.getD 8 undef = x8 at *
      generalize a'.tmps.getD 9 undef = x9 at *
      generalize a'.tmps.getD 10 undef = x10 at *
      generalize a'.tmps.getD 11 undef = x11 at *
      generalize a'.tmps.getD 12 undef = x12 at *
      generalize a'.tmps.getD 13 undef = x13 at *
      generalize a'.tmps.getD 14 undef = x14 at *
      generalize a'.tmps.getD 15 undef = x15 at *
      generalize a'.tmps.getD 16 undef = x16 at *
      generalize a'.tmps.getD 17 undef = x17 at *
      generalize a'.tmps.getD 18 undef = x18 at *
      generalize a'.tmps.getD 19 undef = x19 at *
      generalize a'.tmps.getD 20 undef = x20 at *
      generalize a'.tmps.getD 21 undef = x21 at *
      generalize a'.tmps.getD 22 undef = x22 at *
      generalize a'.tmps.getD 23 undef = x23 at *
      generalize a'.tmps.getD 24 undef = x24 at *
      generalize a'.tmps.getD 25 undef = x25 at *
      generalize a'.tmps.getD 26 undef = x26 at *
      generalize a'.tmps.getD 27 undef = x27 at *
      generalize a'.tmps.getD 28 undef = x28 at *
      generalize a'.tmps.getD 29 undef = x29 at *
      generalize a'.tmps.getD 30 undef = x30 at *
      subst e2
      simp only [List.drop_succ_cons, List.drop_zero]
      have hB10 := hB9.trans (hb.mono hB9.size)
      clear hb
      go_wp2
      go_ret
      exact ⟨rfl, hB10⟩
  · rw [if_neg hn] at HZ
    unfold ribV at *
    go_enter Try.func4, Try.ntmps4
    go_wp2_with fail
    refine (HZ.out _).mono ?_
    rintro e w1 ⟨rfl, hb1⟩
    obtain ⟨q0, hB1⟩ := one_box w [.slice x rs.length cap] 24 hb1
    clear hb1
    go_wp2
    go_ret
    exact ⟨rfl, hB1⟩
end Go.Proofs.Ytkkhjeigndcmaab
