/- The walk of the law on RibFind. (Written by gen_wfind.py.) -/
import Derived.Test.YtkkhjeigndcmaabFindI
import Derived.Test.YtkkhjeigndcmaabFindS
import Derived.Test.YtkkhjeigndcmaabRibLaw
namespace Go.Proofs.Ytkkhjeigndcmaab
open Go.RowKit Go.Sort

theorem two_boxes (w : World) (x y : List Value) (t1 t2 : TypeId) {w1 : World} (h : Below ((w.alloc (.cells x.toArray t1)).alloc (.cells y.toArray t2)).heap.size ((w.alloc (.cells x.toArray t1)).alloc (.cells y.toArray t2)) w1) : Row w1 w.heap.size t1 x ∧ Row w1 (w.heap.size + 1) t2 y ∧ Below w.heap.size w w1 := by
  have q0 := (Row.new w t1 x).alloc (.cells y.toArray t2)
  have q1 := Row.new (w.alloc (.cells x.toArray t1)) t2 y
  rw [show (w.alloc (.cells x.toArray t1)).heap.size = w.heap.size + 1 by simp] at q1
  exact ⟨q0.below h q0.lt, q1.below h q1.lt, ((ent_new0 w _).alloc (by simp) _).trans (h.mono (by simp; omega))⟩
set_option maxRecDepth 100000 in
set_option maxHeartbeats 4000000 in
theorem fnExactRibFind_walk (x : Option Addr) (len cap : Nat) (rs : List Rt) (a l : Int) (w : World) (h : ArgR w x len rs) (_ha : (Lit.int .i64 a).wf = true) (_hl : (Lit.int .i64 l).wf = true) :
    Calls Try.prog 3 #[ribV x len cap, .agg #[.int .i64 a, .int .i64 l]] w fun r w' => r = .returned (.bool true) ∧ Below w.heap.size w w' := by
  obtain rfl : rs.length = len := h.1
  have hml := h.2.1
  have HZ : Hid (∀ w, Calls Try.prog 8 #[ribV x rs.length cap, .int .i64 1048576] w fun e w' => e = .returned (.int .i64 (if rs.length ≤ 1048576 then 1048576 - (rs.length : Int) else -1)) ∧ Below w.heap.size w w') := fun w => szRib_any x rs.length cap w hml
  have HX : Hid (ArgR w x rs.length rs) := h
  clear h hml
  by_cases hn : rs.length ≤ 1048576
  · have d : decide (1048576 - (rs.length : Int) < 0) = false := by simp; omega
    have HT : Hid (∀ w, ArgR w x rs.length rs → Calls Try.prog 10 #[ribV x rs.length cap] w fun e w' => ∃ g, e = .returned (ribV (some ⟨g, 0, none⟩) rs.length rs.length) ∧ w.heap.size ≤ g ∧ Row w' g 30 (rowR rs) ∧ Below w.heap.size w w') := fun w h => toRib_any x cap rs w h hn
    have HN : Hid (∀ w, Calls Try.prog 11 #[.agg #[.int .i64 a, .int .i64 l]] w fun e w' => e = .returned (.agg #[.int .i64 a, .int .i64 l]) ∧ Below w.heap.size w w') := toNet_any a l
    have HS : Hid (∀ p cap w, RtsIn w p rs → Calls Try.prog 9 #[ribV p rs.length cap, .agg #[.int .i64 a, .int .i64 l]] w fun e w' => e = .returned (rtV (findR rs a l)) ∧ Below w.heap.size w w') := fun p cap w h => specFind_any p cap rs a l w h (by omega)
    have HI : Hid (∀ p cap w, RtsIn w p rs → Calls Try.prog 12 #[ribV p rs.length cap, .agg #[.int .i64 a, .int .i64 l]] w fun e w' => e = .returned (rtV (findR rs a l)) ∧ Below w.heap.size w w') := fun p cap w h => implFind_any p cap rs a l w h (by omega)
    have HQ : Hid (∀ p q a b w, RtsIn w p rs → RtsIn w q rs → Calls Try.prog 14 #[ribV p rs.length a, ribV q rs.length b] w fun r w' => r = .returned (.bool true) ∧ Below w.heap.size w w') := fun p q a b w h1 h2 => eqRib_any p q a b rs w h1 h2 (by omega)
    have HE : Hid (∀ w, Calls Try.prog 13 #[rtV (findR rs a l), rtV (findR rs a l)] w fun r w' => r = .returned (.bool true) ∧ Below w.heap.size w w') := eqRoute_same _
    rw [if_pos hn] at HZ
    generalize findR rs a l = V at *
    obtain ⟨A, L, M, O, I, T, U, E, C⟩ := V
    unfold ribV at *
    unfold rtV rtA at HS HI HE
    simp only at HS HI HE
    generalize rs.length = N at *
    go_enter Try.func3, Try.ntmps3
    go_wp2_with fail
    refine (HZ.out _).mono ?_
    rintro e w1 ⟨rfl, hb1⟩
    obtain ⟨q0, q1, hB1⟩ := two_boxes w [.slice x N cap] [.int .i64 a, .int .i64 l] 24 26 hb1
    clear hb1 HZ
    go_wp2_with fail
    have hGN : (([(14, Is (.agg #[.slice x N cap])), (15, fun v W => ∃ g, v = .agg #[.slice (some ⟨g, 0, none⟩) N N] ∧ Row W g 30 (rowR rs)), (16, Is (.agg #[.int .i64 a, .int .i64 l])), (17, Is (.agg #[.int .i64 a, .int .i64 l])), (18, Is (.agg #[.int .i64 A, .int .i64 L, .int .i64 M, .int .i64 O, .int .i64 I, .int .i64 T, .int .i64 U, .int .i64 E, .bool C])), (6, fun v W => ∃ g, v = .pointer (some ⟨g, 0, none⟩) ∧ w1.heap.size ≤ g ∧ Row W g 30 [.int .i64 0, .int .i64 0, .int .i64 0, .int .i64 0, .int .i64 0, .int .i64 0, .int .i64 0, .int .i64 0, .bool false])] : List (Nat × (Value → World → Prop))).map (·.1)).Nodup := by simp
    refine wp_region_steady 6 (SlotG [(14, Is (.agg #[.slice x N cap])), (15, fun v W => ∃ g, v = .agg #[.slice (some ⟨g, 0, none⟩) N N] ∧ Row W g 30 (rowR rs)), (16, Is (.agg #[.int .i64 a, .int .i64 l])), (17, Is (.agg #[.int .i64 a, .int .i64 l])), (18, Is (.agg #[.int .i64 A, .int .i64 L, .int .i64 M, .int .i64 O, .int .i64 I, .int .i64 T, .int .i64 U, .int .i64 E, .bool C])), (6, fun v W => ∃ g, v = .pointer (some ⟨g, 0, none⟩) ∧ w1.heap.size ≤ g ∧ Row W g 30 [.int .i64 0, .int .i64 0, .int .i64 0, .int .i64 0, .int .i64 0, .int .i64 0, .int .i64 0, .int .i64 0, .bool false])]) (by kernel_rfl) (by kernel_rfl) (Stabs.all ⟨stab_is _, stab_ribRow _, stab_is _, stab_is _, stab_is _, stab_new w1.heap.size 30 [.int .i64 0, .int .i64 0, .int .i64 0, .int .i64 0, .int .i64 0, .int .i64 0, .int .i64 0, .int .i64 0, .bool false], trivial⟩) ?_ ?_
    · intro o ho
      simp only [List.take_succ_cons, List.take_zero, List.mem_cons, List.not_mem_nil, or_false] at ho
      rcases ho with rfl | rfl | rfl | rfl | rfl | rfl
      · intro a' w' hb ha hdep
        have d2 : a'.tmps.getD 2 undef = .pointer (some ⟨w.heap.size, 0, none⟩) := ha.at 2 (by kernel_rfl)
        have hmk := fun (x : Value) (W : World) => SlotG.mk (x := x) (w := W) 0 rfl hGN
        clear hGN ha hdep
        have y0 : w'.cell? ⟨w.heap.size, 0, none⟩ = some (.slice x N cap) := (q0.below hb q0.lt).cell 0
        go_simp
        exact ⟨_, rfl, Below.refl _ _, hmk _ _ rfl⟩
      · intro a' w' hb ha hdep
        have d14 : a'.tmps.getD 14 undef = .agg #[.slice x N cap] := (hdep 14 (of_decide_eq_true (by kernel_rfl))).is 0 rfl
        have hmk := fun (x : Value) (W : World) => SlotG.mk (x := x) (w := W) 1 rfl hGN
        clear hGN ha hdep
        go_simp
        refine (HT.out _ (HX.out.below (hB1.trans (hb.mono hB1.size)))).mono ?_
        rintro e w2 ⟨g, rfl, _, r7, hb2⟩
        exact ⟨_, rfl, hb2, hmk _ _ ⟨g, rfl, r7⟩⟩
      · intro a' w' hb ha hdep
        have d3 : a'.tmps.getD 3 undef = .pointer (some ⟨w.heap.size + 1, 0, none⟩) := ha.at 3 (by kernel_rfl)
        have hmk := fun (x : Value) (W : World) => SlotG.mk (x := x) (w := W) 2 rfl hGN
        clear hGN ha hdep
        have y0 : w'.cell? ⟨w.heap.size + 1, 0, none⟩ = some (.int .i64 a) := (q1.below hb q1.lt).cell 0
        have y1 : w'.cell? ⟨w.heap.size + 1, 1, none⟩ = some (.int .i64 l) := (q1.below hb q1.lt).cell 1
        go_simp
        exact ⟨_, rfl, Below.refl _ _, hmk _ _ rfl⟩
      · intro a' w' hb ha hdep
        have d16 : a'.tmps.getD 16 undef = .agg #[.int .i64 a, .int .i64 l] := (hdep 16 (of_decide_eq_true (by kernel_rfl))).is 2 rfl
        have hmk := fun (x : Value) (W : World) => SlotG.mk (x := x) (w := W) 3 rfl hGN
        clear hGN ha hdep
        go_simp
        refine (HN.out _).mono ?_
        rintro e w2 ⟨rfl, hb2⟩
        exact ⟨_, rfl, hb2, hmk _ _ rfl⟩
      · intro a' w' hb ha hdep
        have D15 := (hdep 15 (of_decide_eq_true (by kernel_rfl))).get 1 rfl
        have d17 : a'.tmps.getD 17 undef = .agg #[.int .i64 a, .int .i64 l] := (hdep 17 (of_decide_eq_true (by kernel_rfl))).is 3 rfl
        have hmk := fun (x : Value) (W : World) => SlotG.mk (x := x) (w := W) 4 rfl hGN
        clear hGN ha hdep
        obtain ⟨g, d15, r15⟩ := D15
        go_simp
        refine (HS.out _ _ _ (rtsIn_row r15)).mono ?_
        rintro e w2 ⟨rfl, hb2⟩
        exact ⟨_, rfl, hb2, hmk _ _ rfl⟩
      · intro a' w' hb ha hdep
        have hmk := fun (x : Value) (W : World) => SlotG.mk (x := x) (w := W) 5 rfl hGN
        clear hGN ha hdep
        go_simp
        exact ⟨_, rfl, ent_new0 _ _, hmk _ _ ⟨w'.heap.size, rfl, hb.size, Row.new w' 30 [.int .i64 0, .int .i64 0, .int .i64 0, .int .i64 0, .int .i64 0, .int .i64 0, .int .i64 0, .int .i64 0, .bool false]⟩⟩
    · intro a' w' hb ha hG
      clear hGN
      have d18 : a'.tmps.getD 18 undef = .agg #[.int .i64 A, .int .i64 L, .int .i64 M, .int .i64 O, .int .i64 I, .int .i64 T, .int .i64 U, .int .i64 E, .bool C] := (hG _ (List.mem_of_getElem? (i := 4) rfl) 18 rfl).is 4 rfl
      have D6 := (hG _ (List.mem_of_getElem? (i := 5) rfl) 6 rfl).get 5 rfl
      have d2 : a'.tmps.getD 2 undef = .pointer (some ⟨w.heap.size, 0, none⟩) := ha.at 2 (by kernel_rfl)
      have d3 : a'.tmps.getD 3 undef = .pointer (some ⟨w.heap.size + 1, 0, none⟩) := ha.at 3 (by kernel_rfl)
      have e2 : a' = ⟨#[a'.tmps.getD 0 undef, a'.tmps.getD 1 undef, a'.tmps.getD 2 undef, a'.tmps.getD 3 undef, a'.tmps.getD 4 undef, a'.tmps.getD 5 undef, a'.tmps.getD 6 undef, a'.tmps.getD 7 undef, a'.tmps.getD 8 undef, a'.tmps.getD 9 undef, a'.tmps.getD 10 undef, a'.tmps.getD 11 undef, a'.tmps.getD 12 undef, a'.tmps.getD 13 undef, a'.tmps.getD 14 undef, a'.tmps.getD 15 undef, a'.tmps.getD 16 undef, a'.tmps.getD 17 undef, a'.tmps.getD 18 undef, a'.tmps.getD 19 undef, a'.tmps.getD 20 undef, a'.tmps.getD 21 undef, a'.tmps.getD 22 undef, a'.tmps.getD 23 undef, a'.tmps.getD 24 undef, a'.tmps.getD 25 undef, a'.tmps.getD 26 undef, a'.tmps.getD 27 undef, a'.tmps.getD 28 undef, a'.tmps.getD 29 undef, a'.tmps.getD 30 undef, a'.tmps.getD 31 undef, a'.tmps.getD 32 undef, a'.tmps.getD 33 undef], []⟩ := by rw [← (show a'.defers = [] from ha.2.1)]; exact act_eq a' 34 ha.1
      rw [d18, d2, d3] at e2
      clear hG ha d18 d2 d3
      generalize a'.tmps.getD 0 undef = x0 at *
      generalize a'.tmps.getD 1 undef = x1 at *
      generalize a'.tmps.getD 4 undef = x4 at *
      generalize a'.tmps.getD 5 undef = x5 at *
      generalize a'.tmps.getD 6 undef = x6 at *
      generalize a'.tmps.getD 7 undef = x7 at *
      generalize a'.tmps.getD 8 undef = x8 at *
      generalize a'.tmps.getD 9 undef = x9 at *
      generalize a'.tmps.getD 10 undef = x10 at *
      generalize a'.tmps.getD 11 undef = x11 at *
      generalize a'.tmps.getD 12 undef = x12 at *
      generalize a'.tmps.getD 13 undef = x13 at *
      generalize a'.tmps.getD 14 undef = x14 at *
      generalize a'.tmps.getD 15 undef = x15 at *
      generalize a'.tmps.getD 16 undef = x16 at *
      generalize a'.tmps.getD 17 undef = x17 at *
      generalize a'.tmps.getD 19 undef = x19 at *
      generalize a'.tmps.getD 20 undef = x20 at *
      generalize a'.tmps.getD 21 undef = x21 at *
      generalize a'.tmps.getD 22 undef = x22 at *
      generalize a'.tmps.getD 23 undef = x23 at *
      generalize a'.tmps.getD 24 undef = x24 at *
      generalize a'.tmps.getD 25 undef = x25 at *
      generalize a'.tmps.getD 26 undef = x26 at *
      generalize a'.tmps.getD 27 undef = x27 at *
      generalize a'.tmps.getD 28 undef = x28 at *
      generalize a'.tmps.getD 29 undef = x29 at *
      generalize a'.tmps.getD 30 undef = x30 at *
      generalize a'.tmps.getD 31 undef = x31 at *
      generalize a'.tmps.getD 32 undef = x32 at *
      generalize a'.tmps.getD 33 undef = x33 at *
      subst e2
      simp only [List.drop_succ_cons, List.drop_zero]
      obtain ⟨g6, rfl, hg6, r6⟩ := D6
      have q0' := q0.below hb q0.lt
      have q1' := q1.below hb q1.lt
      have hB2 := hB1.trans (hb.mono hB1.size)
      have n0 : ¬ w.heap.size = g6 := by have := q0.lt; omega
      have n1 : ¬ w.heap.size + 1 = g6 := by have := q1.lt; omega
      have m0 : ¬ g6 = w.heap.size := fun h => n0 h.symm
      have m1 : ¬ g6 = w.heap.size + 1 := fun h => n1 h.symm
      have z0 : w'.cell? ⟨w.heap.size, 0, none⟩ = some (.slice x N cap) := q0'.cell 0
      have e0 : w'.cell? ⟨g6, 0, none⟩ = some (.int .i64 0) := r6.cell 0
      have e1 : w'.cell? ⟨g6, 1, none⟩ = some (.int .i64 0) := r6.cell 1
      have e2 : w'.cell? ⟨g6, 2, none⟩ = some (.int .i64 0) := r6.cell 2
      have e3 : w'.cell? ⟨g6, 3, none⟩ = some (.int .i64 0) := r6.cell 3
      have e4 : w'.cell? ⟨g6, 4, none⟩ = some (.int .i64 0) := r6.cell 4
      have e5 : w'.cell? ⟨g6, 5, none⟩ = some (.int .i64 0) := r6.cell 5
      have e6 : w'.cell? ⟨g6, 6, none⟩ = some (.int .i64 0) := r6.cell 6
      have e7 : w'.cell? ⟨g6, 7, none⟩ = some (.int .i64 0) := r6.cell 7
      have e8 : w'.cell? ⟨g6, 8, none⟩ = some (.bool false) := r6.cell 8
      have f0 : w'.frozen? ⟨g6, 0, none⟩ = false := r6.frozen 0
      have f1 : w'.frozen? ⟨g6, 1, none⟩ = false := r6.frozen 1
      have f2 : w'.frozen? ⟨g6, 2, none⟩ = false := r6.frozen 2
      have f3 : w'.frozen? ⟨g6, 3, none⟩ = false := r6.frozen 3
      have f4 : w'.frozen? ⟨g6, 4, none⟩ = false := r6.frozen 4
      have f5 : w'.frozen? ⟨g6, 5, none⟩ = false := r6.frozen 5
      have f6 : w'.frozen? ⟨g6, 6, none⟩ = false := r6.frozen 6
      have f7 : w'.frozen? ⟨g6, 7, none⟩ = false := r6.frozen 7
      have f8 : w'.frozen? ⟨g6, 8, none⟩ = false := r6.frozen 8
      have HH : Hid (Row (nineV w' g6 ⟨A, L, M, O, I, T, U, E, C⟩) w.heap.size 24 [.slice x N cap] ∧ Row (nineV w' g6 ⟨A, L, M, O, I, T, U, E, C⟩) (w.heap.size + 1) 26 [.int .i64 a, .int .i64 l] ∧ Row (nineV w' g6 ⟨A, L, M, O, I, T, U, E, C⟩) g6 30 [.int .i64 A, .int .i64 L, .int .i64 M, .int .i64 O, .int .i64 I, .int .i64 T, .int .i64 U, .int .i64 E, .bool C] ∧ Below w.heap.size w (nineV w' g6 ⟨A, L, M, O, I, T, U, E, C⟩)) := ⟨nineV_other _ q0' n0, nineV_other _ q1' n1, nineV_row ⟨A, L, M, O, I, T, U, E, C⟩ zeroR r6, nineV_below hB2 g6 (by have := q0.lt; omega) _⟩
      clear hb q0 q1 q0' q1' hB1 hB2 r6 hg6 HS
      go_wp2_with fail
      rw [show (((((((((w'.setCell ⟨g6, 0, none⟩ (.int .i64 A)).setCell ⟨g6, 1, none⟩ (.int .i64 L)).setCell ⟨g6, 2, none⟩ (.int .i64 M)).setCell ⟨g6, 3, none⟩ (.int .i64 O)).setCell ⟨g6, 4, none⟩ (.int .i64 I)).setCell ⟨g6, 5, none⟩ (.int .i64 T)).setCell ⟨g6, 6, none⟩ (.int .i64 U)).setCell ⟨g6, 7, none⟩ (.int .i64 E)).setCell ⟨g6, 8, none⟩ (.bool C)) = nineV w' g6 ⟨A, L, M, O, I, T, U, E, C⟩ from rfl]
      clear e0 f0 e1 f1 e2 f2 e3 f3 e4 f4 e5 f5 e6 f6 e7 f7 e8 f8 z0
      generalize nineV w' g6 ⟨A, L, M, O, I, T, U, E, C⟩ = Z6 at *
      obtain ⟨h0, h1, h6, h8⟩ := HH.out
      clear HH n0 n1 m0 m1
      refine (HT.out _ (HX.out.below h8)).mono ?_
      rintro e w5 ⟨g5, rfl, hg5, r5, hb5⟩
      have i0 := (h0.below hb5 h0.lt).alloc (.cells #[.slice (some ⟨g5, 0, none⟩) N N] 34)
      have i1 := (h1.below hb5 h1.lt).alloc (.cells #[.slice (some ⟨g5, 0, none⟩) N N] 34)
      have i6 := (h6.below hb5 h6.lt).alloc (.cells #[.slice (some ⟨g5, 0, none⟩) N N] 34)
      have i5 := r5.alloc (.cells #[.slice (some ⟨g5, 0, none⟩) N N] 34)
      have i7 := Row.new w5 34 [.slice (some ⟨g5, 0, none⟩) N N]
      have i8 := (h8.trans (hb5.mono h8.size)).alloc (by have := hb5.size; have := h8.size; omega) (.cells #[.slice (some ⟨g5, 0, none⟩) N N] 34)
      have HI7 : Hid _ := And.intro i0 (And.intro i1 (And.intro i6 (And.intro i5 (And.intro i7 i8))))
      clear i0 i1 i6 i5 i7 i8 h0 h1 h6 h8 hb5 r5 hg5
      go_wp2_with fail
      generalize hb7 : w5.heap.size = b7 at *
      generalize w5.alloc (.cells #[.slice (some ⟨g5, 0, none⟩) N N] 34) = W7 at *
      clear hb7
      obtain ⟨j0, j1, j6, j5, j7, hB7⟩ := HI7.out
      clear HI7
      have hGN : (([(21, Is (.agg #[.slice (some ⟨g5, 0, none⟩) N N])), (22, Is (.agg #[.int .i64 a, .int .i64 l])), (23, Is (.agg #[.int .i64 a, .int .i64 l])), (24, Is (.agg #[.int .i64 A, .int .i64 L, .int .i64 M, .int .i64 O, .int .i64 I, .int .i64 T, .int .i64 U, .int .i64 E, .bool C])), (8, fun v W => ∃ g, v = .pointer (some ⟨g, 0, none⟩) ∧ W7.heap.size ≤ g ∧ Row W g 30 [.int .i64 0, .int .i64 0, .int .i64 0, .int .i64 0, .int .i64 0, .int .i64 0, .int .i64 0, .int .i64 0, .bool false])] : List (Nat × (Value → World → Prop))).map (·.1)).Nodup := by simp
      refine wp_region_steady 5 (SlotG [(21, Is (.agg #[.slice (some ⟨g5, 0, none⟩) N N])), (22, Is (.agg #[.int .i64 a, .int .i64 l])), (23, Is (.agg #[.int .i64 a, .int .i64 l])), (24, Is (.agg #[.int .i64 A, .int .i64 L, .int .i64 M, .int .i64 O, .int .i64 I, .int .i64 T, .int .i64 U, .int .i64 E, .bool C])), (8, fun v W => ∃ g, v = .pointer (some ⟨g, 0, none⟩) ∧ W7.heap.size ≤ g ∧ Row W g 30 [.int .i64 0, .int .i64 0, .int .i64 0, .int .i64 0, .int .i64 0, .int .i64 0, .int .i64 0, .int .i64 0, .bool false])]) (by kernel_rfl) (by kernel_rfl) (Stabs.all ⟨stab_is _, stab_is _, stab_is _, stab_is _, stab_new W7.heap.size 30 [.int .i64 0, .int .i64 0, .int .i64 0, .int .i64 0, .int .i64 0, .int .i64 0, .int .i64 0, .int .i64 0, .bool false], trivial⟩) ?_ ?_
      · intro o ho
        simp only [List.take_succ_cons, List.take_zero, List.mem_cons, List.not_mem_nil, or_false] at ho
        rcases ho with rfl | rfl | rfl | rfl | rfl
        · intro a' w' hb ha hdep
          have d7 : a'.tmps.getD 7 undef = .pointer (some ⟨b7, 0, none⟩) := ha.at 7 (by kernel_rfl)
          have hmk := fun (x : Value) (W : World) => SlotG.mk (x := x) (w := W) 0 rfl hGN
          clear hGN ha hdep
          have y0 : w'.cell? ⟨b7, 0, none⟩ = some (.slice (some ⟨g5, 0, none⟩) N N) := (j7.below hb j7.lt).cell 0
          go_simp
          exact ⟨_, rfl, Below.refl _ _, hmk _ _ rfl⟩
        · intro a' w' hb ha hdep
          have d3 : a'.tmps.getD 3 undef = .pointer (some ⟨w.heap.size + 1, 0, none⟩) := ha.at 3 (by kernel_rfl)
          have hmk := fun (x : Value) (W : World) => SlotG.mk (x := x) (w := W) 1 rfl hGN
          clear hGN ha hdep
          have y0 : w'.cell? ⟨w.heap.size + 1, 0, none⟩ = some (.int .i64 a) := (j1.below hb j1.lt).cell 0
          have y1 : w'.cell? ⟨w.heap.size + 1, 1, none⟩ = some (.int .i64 l) := (j1.below hb j1.lt).cell 1
          go_simp
          exact ⟨_, rfl, Below.refl _ _, hmk _ _ rfl⟩
        · intro a' w' hb ha hdep
          have d22 : a'.tmps.getD 22 undef = .agg #[.int .i64 a, .int .i64 l] := (hdep 22 (of_decide_eq_true (by kernel_rfl))).is 1 rfl
          have hmk := fun (x : Value) (W : World) => SlotG.mk (x := x) (w := W) 2 rfl hGN
          clear hGN ha hdep
          go_simp
          refine (HN.out _).mono ?_
          rintro e w2 ⟨rfl, hb2⟩
          exact ⟨_, rfl, hb2, hmk _ _ rfl⟩
        · intro a' w' hb ha hdep
          have d21 : a'.tmps.getD 21 undef = .agg #[.slice (some ⟨g5, 0, none⟩) N N] := (hdep 21 (of_decide_eq_true (by kernel_rfl))).is 0 rfl
          have d23 : a'.tmps.getD 23 undef = .agg #[.int .i64 a, .int .i64 l] := (hdep 23 (of_decide_eq_true (by kernel_rfl))).is 2 rfl
          have hmk := fun (x : Value) (W : World) => SlotG.mk (x := x) (w := W) 3 rfl hGN
          clear hGN ha hdep
          go_simp
          refine (HI.out _ _ _ (rtsIn_row (j5.below hb j5.lt))).mono ?_
          rintro e w2 ⟨rfl, hb2⟩
          exact ⟨_, rfl, hb2, hmk _ _ rfl⟩
        · intro a' w' hb ha hdep
          have hmk := fun (x : Value) (W : World) => SlotG.mk (x := x) (w := W) 4 rfl hGN
          clear hGN ha hdep
          go_simp
          exact ⟨_, rfl, ent_new0 _ _, hmk _ _ ⟨w'.heap.size, rfl, hb.size, Row.new w' 30 [.int .i64 0, .int .i64 0, .int .i64 0, .int .i64 0, .int .i64 0, .int .i64 0, .int .i64 0, .int .i64 0, .bool false]⟩⟩
      · intro a' w' hb ha hG
        clear hGN
        have d24 : a'.tmps.getD 24 undef = .agg #[.int .i64 A, .int .i64 L, .int .i64 M, .int .i64 O, .int .i64 I, .int .i64 T, .int .i64 U, .int .i64 E, .bool C] := (hG _ (List.mem_of_getElem? (i := 3) rfl) 24 rfl).is 3 rfl
        have D8 := (hG _ (List.mem_of_getElem? (i := 4) rfl) 8 rfl).get 4 rfl
        have d2 : a'.tmps.getD 2 undef = .pointer (some ⟨w.heap.size, 0, none⟩) := ha.at 2 (by kernel_rfl)
        have d3 : a'.tmps.getD 3 undef = .pointer (some ⟨w.heap.size + 1, 0, none⟩) := ha.at 3 (by kernel_rfl)
        have d6 : a'.tmps.getD 6 undef = .pointer (some ⟨g6, 0, none⟩) := ha.at 6 (by kernel_rfl)
        have d7 : a'.tmps.getD 7 undef = .pointer (some ⟨b7, 0, none⟩) := ha.at 7 (by kernel_rfl)
        have e2 : a' = ⟨#[a'.tmps.getD 0 undef, a'.tmps.getD 1 undef, a'.tmps.getD 2 undef, a'.tmps.getD 3 undef, a'.tmps.getD 4 undef, a'.tmps.getD 5 undef, a'.tmps.getD 6 undef, a'.tmps.getD 7 undef, a'.tmps.getD 8 undef, a'.tmps.getD 9 undef, a'.tmps.getD 10 undef, a'.tmps.getD 11 undef, a'.tmps.getD 12 undef, a'.tmps.getD 13 undef, a'.tmps.getD 14 undef, a'.tmps.getD 15 undef, a'.tmps.getD 16 undef, a'.tmps.getD 17 undef, a'.tmps.getD 18 undef, a'.tmps.getD 19 undef, a'.tmps.getD 20 undef, a'.tmps.getD 21 undef, a'.tmps.getD 22 undef, a'.tmps.getD 23 undef, a'.tmps.getD 24 undef, a'.tmps.getD 25 undef, a'.tmps.getD 26 undef, a'.tmps.getD 27 undef, a'.tmps.getD 28 undef, a'.tmps.getD 29 undef, a'.tmps.getD 30 undef, a'.tmps.getD 31 undef, a'.tmps.getD 32 undef, a'.tmps.getD 33 undef], []⟩ := by rw [← (show a'.defers = [] from ha.2.1)]; exact act_eq a' 34 ha.1
        rw [d24, d2, d3, d6, d7] at e2
        clear hG ha d24 d2 d3 d6 d7
        generalize a'.tmps.getD 0 undef = x0 at *
        generalize a'.tmps.getD 1 undef = x1 at *
        generalize a'.tmps.getD 4 undef = x4 at *
        generalize a'.tmps.getD 5 undef = x5 at *
        generalize a'.tmps.getD 8 undef = x8 at *
        generalize a'.tmps.getD 9 undef = x9 at *
        generalize a'.tmps.getD 10 undef = x10 at *
        generalize a'.tmps.getD 11 undef = x11 at *
        generalize a'.tmps.getD 12 undef = x12 at *
        generalize a'.tmps.getD 13 undef = x13 at *
        generalize a'.tmps.getD 14 undef = x14 at *
        generalize a'.tmps.getD 15 undef = x15 at *
        generalize a'.tmps.getD 16 undef = x16 at *
        generalize a'.tmps.getD 17 undef = x17 at *
        generalize a'.tmps.getD 18 undef = x18 at *
        generalize a'.tmps.getD 19 undef = x19 at *
        generalize a'.tmps.getD 20 undef = x20 at *
        generalize a'.tmps.getD 21 undef = x21 at *
        generalize a'.tmps.getD 22 undef = x22 at *
        generalize a'.tmps.getD 23 undef = x23 at *
        generalize a'.tmps.getD 25 undef = x25 at *
        generalize a'.tmps.getD 26 undef = x26 at *
        generalize a'.tmps.getD 27 undef = x27 at *
        generalize a'.tmps.getD 28 undef = x28 at *
        generalize a'.tmps.getD 29 undef = x29 at *
        generalize a'.tmps.getD 30 undef = x30 at *
        generalize a'.tmps.getD 31 undef = x31 at *
        generalize a'.tmps.getD 32 undef = x32 at *
        generalize a'.tmps.getD 33 undef = x33 at *
        subst e2
        simp only [List.drop_succ_cons, List.drop_zero]
        obtain ⟨g8, rfl, hg8, r8⟩ := D8
        have k0' := j0.below hb j0.lt
        have k6' := j6.below hb j6.lt
        have k7' := j7.below hb j7.lt
        have k5' := j5.below hb j5.lt
        have hB8' := hB7.trans (hb.mono hB7.size)
        have n0 : ¬ w.heap.size = g8 := by have := j0.lt; omega
        have n6 : ¬ g6 = g8 := by have := j6.lt; omega
        have n7 : ¬ b7 = g8 := by have := j7.lt; omega
        have n5 : ¬ g5 = g8 := by have := j5.lt; omega
        have m0 : ¬ g8 = w.heap.size := fun h => n0 h.symm
        have m6 : ¬ g8 = g6 := fun h => n6 h.symm
        have e0 : w'.cell? ⟨g8, 0, none⟩ = some (.int .i64 0) := r8.cell 0
        have e1 : w'.cell? ⟨g8, 1, none⟩ = some (.int .i64 0) := r8.cell 1
        have e2 : w'.cell? ⟨g8, 2, none⟩ = some (.int .i64 0) := r8.cell 2
        have e3 : w'.cell? ⟨g8, 3, none⟩ = some (.int .i64 0) := r8.cell 3
        have e4 : w'.cell? ⟨g8, 4, none⟩ = some (.int .i64 0) := r8.cell 4
        have e5 : w'.cell? ⟨g8, 5, none⟩ = some (.int .i64 0) := r8.cell 5
        have e6 : w'.cell? ⟨g8, 6, none⟩ = some (.int .i64 0) := r8.cell 6
        have e7 : w'.cell? ⟨g8, 7, none⟩ = some (.int .i64 0) := r8.cell 7
        have e8 : w'.cell? ⟨g8, 8, none⟩ = some (.bool false) := r8.cell 8
        have f0 : w'.frozen? ⟨g8, 0, none⟩ = false := r8.frozen 0
        have f1 : w'.frozen? ⟨g8, 1, none⟩ = false := r8.frozen 1
        have f2 : w'.frozen? ⟨g8, 2, none⟩ = false := r8.frozen 2
        have f3 : w'.frozen? ⟨g8, 3, none⟩ = false := r8.frozen 3
        have f4 : w'.frozen? ⟨g8, 4, none⟩ = false := r8.frozen 4
        have f5 : w'.frozen? ⟨g8, 5, none⟩ = false := r8.frozen 5
        have f6 : w'.frozen? ⟨g8, 6, none⟩ = false := r8.frozen 6
        have f7 : w'.frozen? ⟨g8, 7, none⟩ = false := r8.frozen 7
        have f8 : w'.frozen? ⟨g8, 8, none⟩ = false := r8.frozen 8
        have i0 : w'.cell? ⟨g6, 0, none⟩ = some (.int .i64 A) := k6'.cell 0
        have i1 : w'.cell? ⟨g6, 1, none⟩ = some (.int .i64 L) := k6'.cell 1
        have i2 : w'.cell? ⟨g6, 2, none⟩ = some (.int .i64 M) := k6'.cell 2
        have i3 : w'.cell? ⟨g6, 3, none⟩ = some (.int .i64 O) := k6'.cell 3
        have i4 : w'.cell? ⟨g6, 4, none⟩ = some (.int .i64 I) := k6'.cell 4
        have i5 : w'.cell? ⟨g6, 5, none⟩ = some (.int .i64 T) := k6'.cell 5
        have i6 : w'.cell? ⟨g6, 6, none⟩ = some (.int .i64 U) := k6'.cell 6
        have i7 : w'.cell? ⟨g6, 7, none⟩ = some (.int .i64 E) := k6'.cell 7
        have i8 : w'.cell? ⟨g6, 8, none⟩ = some (.bool C) := k6'.cell 8
        have HH : Hid (Row (nineV w' g8 ⟨A, L, M, O, I, T, U, E, C⟩) w.heap.size 24 [.slice x N cap] ∧ Row (nineV w' g8 ⟨A, L, M, O, I, T, U, E, C⟩) b7 34 [.slice (some ⟨g5, 0, none⟩) N N] ∧ Row (nineV w' g8 ⟨A, L, M, O, I, T, U, E, C⟩) g5 30 (rowR rs) ∧ Below w.heap.size w (nineV w' g8 ⟨A, L, M, O, I, T, U, E, C⟩)) := ⟨nineV_other _ k0' n0, nineV_other _ k7' n7, nineV_other _ k5' n5, nineV_below hB8' g8 (by have := j0.lt; omega) _⟩
        clear hb k0' k6' k7' k5' hB8' r8 j0 j1 j5 j6 j7 hB7 HN HI hg8
        go_wp2_with fail
        rw [show (((((((((w'.setCell ⟨g8, 0, none⟩ (.int .i64 A)).setCell ⟨g8, 1, none⟩ (.int .i64 L)).setCell ⟨g8, 2, none⟩ (.int .i64 M)).setCell ⟨g8, 3, none⟩ (.int .i64 O)).setCell ⟨g8, 4, none⟩ (.int .i64 I)).setCell ⟨g8, 5, none⟩ (.int .i64 T)).setCell ⟨g8, 6, none⟩ (.int .i64 U)).setCell ⟨g8, 7, none⟩ (.int .i64 E)).setCell ⟨g8, 8, none⟩ (.bool C)) = nineV w' g8 ⟨A, L, M, O, I, T, U, E, C⟩ from rfl]
        clear e0 f0 e1 f1 e2 f2 e3 f3 e4 f4 e5 f5 e6 f6 e7 f7 e8 f8 i0 i1 i2 i3 i4 i5 i6 i7 i8
        generalize nineV w' g8 ⟨A, L, M, O, I, T, U, E, C⟩ = Z8 at *
        refine (HE.out _).mono ?_
        rintro e w9 ⟨rfl, hb9⟩
        obtain ⟨h0, h7, h5, h8⟩ := HH.out
        have k0 := h0.below hb9 h0.lt
        have k7 := h7.below hb9 h7.lt
        have k5 := h5.below hb9 h5.lt
        have hB9 := h8.trans (hb9.mono h8.size)
        clear h0 h7 h5 h8 hb9 HH n0 n6 n7 n5 m0 m6 HE
        go_wp2_with fail
        have hGN : (([(29, Is (.agg #[.slice (some ⟨g5, 0, none⟩) N N])), (30, Is (.agg #[.slice x N cap])), (31, fun v W => ∃ g, v = .agg #[.slice (some ⟨g, 0, none⟩) N N] ∧ Row W g 30 (rowR rs)), (32, Is (.bool true)), (33, Is (.bool false))] : List (Nat × (Value → World → Prop))).map (·.1)).Nodup := by simp
        refine wp_region_steady 5 (SlotG [(29, Is (.agg #[.slice (some ⟨g5, 0, none⟩) N N])), (30, Is (.agg #[.slice x N cap])), (31, fun v W => ∃ g, v = .agg #[.slice (some ⟨g, 0, none⟩) N N] ∧ Row W g 30 (rowR rs)), (32, Is (.bool true)), (33, Is (.bool false))]) (by kernel_rfl) (by kernel_rfl) (Stabs.all ⟨stab_is _, stab_is _, stab_ribRow _, stab_is _, stab_is _, trivial⟩) ?_ ?_
        · intro o ho
          simp only [List.take_succ_cons, List.take_zero, List.mem_cons, List.not_mem_nil, or_false] at ho
          rcases ho with rfl | rfl | rfl | rfl | rfl
          · intro a' w' hb ha hdep
            have d7 : a'.tmps.getD 7 undef = .pointer (some ⟨b7, 0, none⟩) := ha.at 7 (by kernel_rfl)
            have hmk := fun (x : Value) (W : World) => SlotG.mk (x := x) (w := W) 0 rfl hGN
            clear hGN ha hdep
            have y0 : w'.cell? ⟨b7, 0, none⟩ = some (.slice (some ⟨g5, 0, none⟩) N N) := (k7.below hb k7.lt).cell 0
            go_simp
            exact ⟨_, rfl, Below.refl _ _, hmk _ _ rfl⟩
          · intro a' w' hb ha hdep
            have d2 : a'.tmps.getD 2 undef = .pointer (some ⟨w.heap.size, 0, none⟩) := ha.at 2 (by kernel_rfl)
            have hmk := fun (x : Value) (W : World) => SlotG.mk (x := x) (w := W) 1 rfl hGN
            clear hGN ha hdep
            have y0 : w'.cell? ⟨w.heap.size, 0, none⟩ = some (.slice x N cap) := (k0.below hb k0.lt).cell 0
            go_simp
            exact ⟨_, rfl, Below.refl _ _, hmk _ _ rfl⟩
          · intro a' w' hb ha hdep
            have d30 : a'.tmps.getD 30 undef = .agg #[.slice x N cap] := (hdep 30 (of_decide_eq_true (by kernel_rfl))).is 1 rfl
            have hmk := fun (x : Value) (W : World) => SlotG.mk (x := x) (w := W) 2 rfl hGN
            clear hGN ha hdep
            go_simp
            refine (HT.out _ (HX.out.below (hB9.trans (hb.mono hB9.size)))).mono ?_
            rintro e w2 ⟨g, rfl, _, r7, hb2⟩
            exact ⟨_, rfl, hb2, hmk _ _ ⟨g, rfl, r7⟩⟩
          · intro a' w' hb ha hdep
            have d29 : a'.tmps.getD 29 undef = .agg #[.slice (some ⟨g5, 0, none⟩) N N] := (hdep 29 (of_decide_eq_true (by kernel_rfl))).is 0 rfl
            have D31 := (hdep 31 (of_decide_eq_true (by kernel_rfl))).get 2 rfl
            have hmk := fun (x : Value) (W : World) => SlotG.mk (x := x) (w := W) 3 rfl hGN
            clear hGN ha hdep
            obtain ⟨g, d31, r31⟩ := D31
            go_simp
            refine (HQ.out _ _ _ _ _ (rtsIn_row (k5.below hb k5.lt)) (rtsIn_row r31)).mono ?_
            rintro e w2 ⟨rfl, hb2⟩
            exact ⟨_, rfl, hb2, hmk _ _ rfl⟩
          · intro a' w' hb ha hdep
            have d32 : a'.tmps.getD 32 undef = .bool true := (hdep 32 (of_decide_eq_true (by kernel_rfl))).is 3 rfl
            have hmk := fun (x : Value) (W : World) => SlotG.mk (x := x) (w := W) 4 rfl hGN
            clear hGN ha hdep
            go_simp
            exact ⟨_, rfl, Below.refl _ _, hmk _ _ rfl⟩
        · intro a' w' hb ha hG
          clear hGN
          have d33 : a'.tmps.getD 33 undef = .bool false := (hG _ (List.mem_of_getElem? (i := 4) rfl) 33 rfl).is 4 rfl
          have e2 : a' = ⟨#[a'.tmps.getD 0 undef, a'.tmps.getD 1 undef, a'.tmps.getD 2 undef, a'.tmps.getD 3 undef, a'.tmps.getD 4 undef, a'.tmps.getD 5 undef, a'.tmps.getD 6 undef, a'.tmps.getD 7 undef, a'.tmps.getD 8 undef, a'.tmps.getD 9 undef, a'.tmps.getD 10 undef, a'.tmps.getD 11 undef, a'.tmps.getD 12 undef, a'.tmps.getD 13 undef, a'.tmps.getD 14 undef, a'.tmps.getD 15 undef, a'.tmps.getD 16 undef, a'.tmps.getD 17 undef, a'.tmps.getD 18 undef, a'.tmps.getD 19 undef, a'.tmps.getD 20 undef, a'.tmps.getD 21 undef, a'.tmps.getD 22 undef, a'.tmps.getD 23 undef, a'.tmps.getD 24 undef, a'.tmps.getD 25 undef, a'.tmps.getD 26 undef, a'.tmps.getD 27 undef, a'.tmps.getD 28 undef, a'.tmps.getD 29 undef, a'.tmps.getD 30 undef, a'.tmps.getD 31 undef, a'.tmps.getD 32 undef, a'.tmps.getD 33 undef], []⟩ := by rw [← (show a'.defers = [] from ha.2.1)]; exact act_eq a' 34 ha.1
          rw [d33] at e2
          clear hG ha d33
          generalize a'.tmps.getD 0 undef = x0 at *
          generalize a'.tmps.getD 1 undef = x1 at *
          generalize a'.tmps.getD 2 undef = x2 at *
          generalize a'.tmps.getD 3 undef = x3 at *
          generalize a'.tmps.getD 4 undef = x4 at *
          generalize a'.tmps.getD 5 undef = x5 at *
          generalize a'.tmps.getD 6 undef = x6 at *
          generalize a'.tmps.getD 7 undef = x7 at *
          generalize a'.tmps.getD 8 undef = x8 at *
          generalize a'.tmps.getD 9 undef = x9 at *
          generalize a'.tmps.getD 10 undef = x10 at *
          generalize a'.tmps.getD 11 undef = x11 at *
          generalize a'.tmps.getD 12 undef = x12 at *
          generalize a'.tmps.getD 13 undef = x13 at *
          generalize a'.tmps.getD 14 undef = x14 at *
          generalize a'.tmps.getD 15 undef = x15 at *
          generalize a'.tmps.getD 16 undef = x16 at *
          generalize a'.tmps.getD 17 undef = x17 at *
          generalize a'.tmps.getD 18 undef = x18 at *
          generalize a'.tmps.getD 19 undef = x19 at *
          generalize a'.tmps.getD 20 undef = x20 at *
          generalize a'.tmps.getD 21 undef = x21 at *
          generalize a'.tmps.getD 22 undef = x22 at *
          generalize a'.tmps.getD 23 undef = x23 at *
          generalize a'.tmps.getD 24 undef = x24 at *
          generalize a'.tmps.getD 25 undef = x25 at *
          generalize a'.tmps.getD 26 undef = x26 at *
          generalize a'.tmps.getD 27 undef = x27 at *
          generalize a'.tmps.getD 28 undef = x28 at *
          generalize a'.tmps.getD 29 undef = x29 at *
          generalize a'.tmps.getD 30 undef = x30 at *
          generalize a'.tmps.getD 31 undef = x31 at *
          generalize a'.tmps.getD 32 undef = x32 at *
          subst e2
          simp only [List.drop_succ_cons, List.drop_zero]
          have hB10 := hB9.trans (hb.mono hB9.size)
          clear hb
          go_wp2
          go_ret
          exact ⟨rfl, hB10⟩
  · rw [if_neg hn] at HZ
    unfold ribV at *
    go_enter Try.func3, Try.ntmps3
    go_wp2_with fail
    refine (HZ.out _).mono ?_
    rintro e w1 ⟨rfl, hb1⟩
    obtain ⟨q0, q1, hB1⟩ := two_boxes w [.slice x rs.length cap] [.int .i64 a, .int .i64 l] 24 26 hb1
    clear hb1
    go_wp2
    go_ret
    exact ⟨rfl, hB1⟩
end Go.Proofs.Ytkkhjeigndcmaab
