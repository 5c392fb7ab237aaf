/- The walk of the law on RibLearn. (Written by gen_wout.py.) -/
import Derived.Test.YtaledidomgelcaaPack7
import Derived.Test.YtaledidomgelcaaPack9
namespace Go.Proofs.Ytaledidomgelcaa
open Go.RowKit Go.Sort

set_option maxRecDepth 100000 in
set_option maxHeartbeats 8000000 in
theorem fnExactRibLearn_walk (x : Option Addr) (len cap : Nat) (rs : List Rt) (r : Rt) (i : Int) (w : World) (h : ArgR w x len rs) (_hr : RtW r) (_hi : (Lit.int .i64 i).wf = true) :
    Calls Try.prog 4 #[ribV x len cap, rtV r, .int .i64 i] w fun r w' => r = .returned (.bool true) ∧ Below w.heap.size w w' := by
  obtain rfl : rs.length = len := h.1
  have hml := h.2.1
  have HZ : Hid (∀ w, Calls Try.prog 9 #[ribV x rs.length cap, .int .i64 1048576] w fun e w' => e = .returned (.int .i64 (if rs.length ≤ 1048576 then 1048576 - (rs.length : Int) else -1)) ∧ Below w.heap.size w w') := fun w => szRib_any x rs.length cap w hml
  have HX : Hid (ArgR w x rs.length rs) := h
  clear h hml
  by_cases hn : rs.length ≤ 1048576
  · have d : decide (1048576 - (rs.length : Int) < 0) = false := by simp; omega
    have HT : Hid (∀ w, ArgR w x rs.length rs → Calls Try.prog 11 #[ribV x rs.length cap] w fun e w' => ∃ g, e = .returned (ribV (some ⟨g, 0, none⟩) rs.length rs.length) ∧ w.heap.size ≤ g ∧ Row w' g 46 (rowR rs) ∧ Below w.heap.size w w') := fun w h => toRib_any x cap rs w h hn
    have HN : Hid (∀ w, Calls Try.prog 20 #[rtV r] w fun e w' => e = .returned (rtV r) ∧ Below w.heap.size w w') := toRoute_any r
    have HS : Hid (∀ g w, Row w g 46 (rowR rs) → Calls Try.prog 19 #[ribV (some ⟨g, 0, none⟩) rs.length rs.length, rtV r, .int .i64 i] w fun e w' => OutR w.heap.size (learnO rs r i).1 (learnO rs r i).2 e w' ∧ Below w.heap.size w w') := fun g w h => specLearn_any (some ⟨g, 0, none⟩) rs.length rs r i w (rtsIn_row h) (fun e => by cases e) (Nat.le_refl _) (by omega)
    have HI : Hid (∀ g w, Row w g 46 (rowR rs) → Calls Try.prog 21 #[ribV (some ⟨g, 0, none⟩) rs.length rs.length, rtV r, .int .i64 i] w fun e w' => OutR w.heap.size (learnO rs r i).1 (learnO rs r i).2 e w' ∧ Below w.heap.size w w') := fun g w h => implLearn_any (some ⟨g, 0, none⟩) rs.length rs r i w (rtsIn_row h) (by omega)
    have HQ : Hid (∀ p q a b w, RtsIn w p rs → RtsIn w q rs → Calls Try.prog 15 #[ribV p rs.length a, ribV q rs.length b] w fun r w' => r = .returned (.bool true) ∧ Below w.heap.size w w') := fun p q a b w h1 h2 => eqRib_any p q a b rs w h1 h2 (by omega)
    have HL : Hid ((learnO rs r i).2.length ≤ 8) := learnO_len rs r i
    rw [if_pos hn] at HZ
    generalize (learnO rs r i) = RR at *
    obtain ⟨cc, qs⟩ := RR
    simp only at HS HI HL
    unfold OutR at HS HI
    generalize hM : qs.length = M at *
    have HM : Hid (M = qs.length) := hM.symm
    generalize hNN : rs.length = N at *
    have HNN : Hid (N = rs.length) := hNN.symm
    have hN1 : N ≤ 100000000 := by omega
    clear hM hNN hn
    obtain ⟨a, l, m, n, ii, t, u, b, c⟩ := r
    unfold rtV rtA at *
    simp only at HN HS HI ⊢
    unfold ribV at *
    go_enter Try.func4, Try.ntmps4
    go_wp2_with fail
    refine (HZ.out _).mono ?_
    rintro e w1 ⟨rfl, hb1⟩
    obtain ⟨r0, r1, hB⟩ := two_boxes w [.slice x N cap] [.int .i64 a, .int .i64 l, .int .i64 m, .int .i64 n, .int .i64 ii, .int .i64 t, .int .i64 u, .int .i64 b, .bool c] 24 43 hb1
    clear hb1 HZ
    go_wp2_with fail
    have hGN : (([(20, Is (.agg #[.slice x N cap])), (21, fun v W => ∃ g, v = .agg #[.slice (some ⟨g, 0, none⟩) N N] ∧ Row W g 46 (rowR rs)), (22, Is (.agg #[.int .i64 a, .int .i64 l, .int .i64 m, .int .i64 n, .int .i64 ii, .int .i64 t, .int .i64 u, .int .i64 b, .bool c])), (23, Is (.agg #[.int .i64 a, .int .i64 l, .int .i64 m, .int .i64 n, .int .i64 ii, .int .i64 t, .int .i64 u, .int .i64 b, .bool c])), (24, Is (.int .i64 i)), (25, fun v W => ∃ q c, v = .agg #[.slice q M c, .int .i64 cc] ∧ W.ownsRow w1.heap.size 46 9 (.slice q M c) M (rowR qs)), (8, fun v W => ∃ g, v = .pointer (some ⟨g, 0, none⟩) ∧ w1.heap.size ≤ g ∧ Row W g 32 [.slice none 0 0, .int .i64 0])] : List (Nat × (Value → World → Prop))).map (·.1)).Nodup := by simp
    refine wp_region_steady 7 (SlotG [(20, Is (.agg #[.slice x N cap])), (21, fun v W => ∃ g, v = .agg #[.slice (some ⟨g, 0, none⟩) N N] ∧ Row W g 46 (rowR rs)), (22, Is (.agg #[.int .i64 a, .int .i64 l, .int .i64 m, .int .i64 n, .int .i64 ii, .int .i64 t, .int .i64 u, .int .i64 b, .bool c])), (23, Is (.agg #[.int .i64 a, .int .i64 l, .int .i64 m, .int .i64 n, .int .i64 ii, .int .i64 t, .int .i64 u, .int .i64 b, .bool c])), (24, Is (.int .i64 i)), (25, fun v W => ∃ q c, v = .agg #[.slice q M c, .int .i64 cc] ∧ W.ownsRow w1.heap.size 46 9 (.slice q M c) M (rowR qs)), (8, fun v W => ∃ g, v = .pointer (some ⟨g, 0, none⟩) ∧ w1.heap.size ≤ g ∧ Row W g 32 [.slice none 0 0, .int .i64 0])]) (by kernel_rfl) (by kernel_rfl) (Stabs.all ⟨stab_is _, stab_ribRow _, stab_is _, stab_is _, stab_is _, stab_out w1.heap.size M cc qs, stab_new w1.heap.size 32 [.slice none 0 0, .int .i64 0], trivial⟩) ?_ ?_
    · intro o ho
      simp only [List.take_succ_cons, List.take_zero, List.mem_cons, List.not_mem_nil, or_false] at ho
      rcases ho with rfl | rfl | rfl | rfl | rfl | rfl | rfl
      · intro a' w' hb ha hdep
        have d3 : a'.tmps.getD 3 undef = .pointer (some ⟨w.heap.size, 0, none⟩) := ha.at 3 (by kernel_rfl)
        have hmk := fun (x : Value) (W : World) => SlotG.mk (x := x) (w := W) 0 rfl hGN
        clear hGN ha hdep
        have y0 : w'.cell? ⟨w.heap.size, 0, none⟩ = some (.slice x N cap) := (r0.below hb r0.lt).cell 0
        go_simp
        exact ⟨_, rfl, Below.refl _ _, hmk _ _ rfl⟩
      · intro a' w' hb ha hdep
        have d20 : a'.tmps.getD 20 undef = .agg #[.slice x N cap] := (hdep 20 (of_decide_eq_true (by kernel_rfl))).is 0 rfl
        have hmk := fun (x : Value) (W : World) => SlotG.mk (x := x) (w := W) 1 rfl hGN
        clear hGN ha hdep
        go_simp
        refine (HT.out _ (HX.out.below (hB.trans (hb.mono hB.size)))).mono ?_
        rintro e w2 ⟨g, rfl, _, r7, hb2⟩
        exact ⟨_, rfl, hb2, hmk _ _ ⟨g, rfl, r7⟩⟩
      · intro a' w' hb ha hdep
        have d4 : a'.tmps.getD 4 undef = .pointer (some ⟨w.heap.size + 1, 0, none⟩) := ha.at 4 (by kernel_rfl)
        have hmk := fun (x : Value) (W : World) => SlotG.mk (x := x) (w := W) 2 rfl hGN
        clear hGN ha hdep
        have y0 : w'.cell? ⟨w.heap.size + 1, 0, none⟩ = some (.int .i64 a) := (r1.below hb r1.lt).cell 0
        have y1 : w'.cell? ⟨w.heap.size + 1, 1, none⟩ = some (.int .i64 l) := (r1.below hb r1.lt).cell 1
        have y2 : w'.cell? ⟨w.heap.size + 1, 2, none⟩ = some (.int .i64 m) := (r1.below hb r1.lt).cell 2
        have y3 : w'.cell? ⟨w.heap.size + 1, 3, none⟩ = some (.int .i64 n) := (r1.below hb r1.lt).cell 3
        have y4 : w'.cell? ⟨w.heap.size + 1, 4, none⟩ = some (.int .i64 ii) := (r1.below hb r1.lt).cell 4
        have y5 : w'.cell? ⟨w.heap.size + 1, 5, none⟩ = some (.int .i64 t) := (r1.below hb r1.lt).cell 5
        have y6 : w'.cell? ⟨w.heap.size + 1, 6, none⟩ = some (.int .i64 u) := (r1.below hb r1.lt).cell 6
        have y7 : w'.cell? ⟨w.heap.size + 1, 7, none⟩ = some (.int .i64 b) := (r1.below hb r1.lt).cell 7
        have y8 : w'.cell? ⟨w.heap.size + 1, 8, none⟩ = some (.bool c) := (r1.below hb r1.lt).cell 8
        go_simp
        exact ⟨_, rfl, Below.refl _ _, hmk _ _ rfl⟩
      · intro a' w' hb ha hdep
        have d22 : a'.tmps.getD 22 undef = .agg #[.int .i64 a, .int .i64 l, .int .i64 m, .int .i64 n, .int .i64 ii, .int .i64 t, .int .i64 u, .int .i64 b, .bool c] := (hdep 22 (of_decide_eq_true (by kernel_rfl))).is 2 rfl
        have hmk := fun (x : Value) (W : World) => SlotG.mk (x := x) (w := W) 3 rfl hGN
        clear hGN ha hdep
        go_simp
        refine (HN.out _).mono ?_
        rintro e w2 ⟨rfl, hb2⟩
        exact ⟨_, rfl, hb2, hmk _ _ rfl⟩
      · intro a' w' hb ha hdep
        have d2 : a'.tmps.getD 2 undef = .int .i64 i := ha.at 2 (by kernel_rfl)
        have hmk := fun (x : Value) (W : World) => SlotG.mk (x := x) (w := W) 4 rfl hGN
        clear hGN ha hdep
        go_simp
        exact ⟨_, rfl, Below.refl _ _, hmk _ _ rfl⟩
      · intro a' w' hb ha hdep
        have D21 := (hdep 21 (of_decide_eq_true (by kernel_rfl))).get 1 rfl
        have d23 : a'.tmps.getD 23 undef = .agg #[.int .i64 a, .int .i64 l, .int .i64 m, .int .i64 n, .int .i64 ii, .int .i64 t, .int .i64 u, .int .i64 b, .bool c] := (hdep 23 (of_decide_eq_true (by kernel_rfl))).is 3 rfl
        have d24 : a'.tmps.getD 24 undef = .int .i64 i := (hdep 24 (of_decide_eq_true (by kernel_rfl))).is 4 rfl
        have hmk := fun (x : Value) (W : World) => SlotG.mk (x := x) (w := W) 5 rfl hGN
        clear hGN ha hdep
        obtain ⟨g, d21, rr⟩ := D21
        go_simp
        refine (HS.out g _ rr).mono ?_
        rintro e w2 ⟨⟨q, c, rfl, ho⟩, hb2⟩
        exact ⟨_, rfl, hb2, hmk _ _ ⟨q, c, rfl, ownsR_mono ho hb.size⟩⟩
      · intro a' w' hb ha hdep
        have hmk := fun (x : Value) (W : World) => SlotG.mk (x := x) (w := W) 6 rfl hGN
        clear hGN ha hdep
        go_simp
        exact ⟨_, rfl, ent_new0 _ _, hmk _ _ ⟨w'.heap.size, rfl, hb.size, Row.new w' 32 [.slice none 0 0, .int .i64 0]⟩⟩
    · intro a' w' hb ha hG
      clear hGN
      have D25 := (hG _ (List.mem_of_getElem? (i := 5) rfl) 25 rfl).get 5 rfl
      have D8 := (hG _ (List.mem_of_getElem? (i := 6) rfl) 8 rfl).get 6 rfl
      have d3 : a'.tmps.getD 3 undef = .pointer (some ⟨w.heap.size, 0, none⟩) := ha.at 3 (by kernel_rfl)
      have d2 : a'.tmps.getD 2 undef = .int .i64 i := ha.at 2 (by kernel_rfl)
      have d4 : a'.tmps.getD 4 undef = .pointer (some ⟨w.heap.size + 1, 0, none⟩) := ha.at 4 (by kernel_rfl)
      have e2 : a' = ⟨#[a'.tmps.getD 0 undef, a'.tmps.getD 1 undef, a'.tmps.getD 2 undef, a'.tmps.getD 3 undef, a'.tmps.getD 4 undef, a'.tmps.getD 5 undef, a'.tmps.getD 6 undef, a'.tmps.getD 7 undef, a'.tmps.getD 8 undef, a'.tmps.getD 9 undef, a'.tmps.getD 10 undef, a'.tmps.getD 11 undef, a'.tmps.getD 12 undef, a'.tmps.getD 13 undef, a'.tmps.getD 14 undef, a'.tmps.getD 15 undef, a'.tmps.getD 16 undef, a'.tmps.getD 17 undef, a'.tmps.getD 18 undef, a'.tmps.getD 19 undef, a'.tmps.getD 20 undef, a'.tmps.getD 21 undef, a'.tmps.getD 22 undef, a'.tmps.getD 23 undef, a'.tmps.getD 24 undef, a'.tmps.getD 25 undef, a'.tmps.getD 26 undef, a'.tmps.getD 27 undef, a'.tmps.getD 28 undef, a'.tmps.getD 29 undef, a'.tmps.getD 30 undef, a'.tmps.getD 31 undef, a'.tmps.getD 32 undef, a'.tmps.getD 33 undef, a'.tmps.getD 34 undef, a'.tmps.getD 35 undef, a'.tmps.getD 36 undef, a'.tmps.getD 37 undef, a'.tmps.getD 38 undef, a'.tmps.getD 39 undef, a'.tmps.getD 40 undef, a'.tmps.getD 41 undef, a'.tmps.getD 42 undef, a'.tmps.getD 43 undef, a'.tmps.getD 44 undef, a'.tmps.getD 45 undef, a'.tmps.getD 46 undef, a'.tmps.getD 47 undef, a'.tmps.getD 48 undef, a'.tmps.getD 49 undef, a'.tmps.getD 50 undef, a'.tmps.getD 51 undef, a'.tmps.getD 52 undef, a'.tmps.getD 53 undef, a'.tmps.getD 54 undef, a'.tmps.getD 55 undef, a'.tmps.getD 56 undef, a'.tmps.getD 57 undef, a'.tmps.getD 58 undef, a'.tmps.getD 59 undef, a'.tmps.getD 60 undef, a'.tmps.getD 61 undef, a'.tmps.getD 62 undef, a'.tmps.getD 63 undef, a'.tmps.getD 64 undef, a'.tmps.getD 65 undef, a'.tmps.getD 66 undef, a'.tmps.getD 67 undef, a'.tmps.getD 68 undef, a'.tmps.getD 69 undef, a'.tmps.getD 70 undef, a'.tmps.getD 71 undef, a'.tmps.getD 72 undef, a'.tmps.getD 73 undef, a'.tmps.getD 74 undef, a'.tmps.getD 75 undef, a'.tmps.getD 76 undef, a'.tmps.getD 77 undef, a'.tmps.getD 78 undef, a'.tmps.getD 79 undef, a'.tmps.getD 80 undef, a'.tmps.getD 81 undef], []⟩ := by rw [← (show a'.defers = [] from ha.2.1)]; exact act_eq a' 82 ha.1
      rw [d3, d2, d4] at e2
      clear hG ha d3 d2 d4
      generalize a'.tmps.getD 0 undef = x0 at *
      generalize a'.tmps.getD 1 undef = x1 at *
      generalize a'.tmps.getD 5 undef = x5 at *
      generalize a'.tmps.getD 6 undef = x6 at *
      generalize a'.tmps.getD 7 undef = x7 at *
      generalize a'.tmps.getD 8 undef = x8 at *
      generalize a'.tmps.getD 9 undef = x9 at *
      generalize a'.tmps.getD 10 undef = x10 at *
      generalize a'.tmps.getD 11 undef = x11 at *
      generalize a'.tmps.getD 12 undef = x12 at *
      generalize a'.tmps.getD 13 undef = x13 at *
      generalize a'.tmps.getD 14 undef = x14 at *
      generalize a'.tmps.getD 15 undef = x15 at *
      generalize a'.tmps.getD 16 undef = x16 at *
      generalize a'.tmps.getD 17 undef = x17 at *
      generalize a'.tmps.getD 18 undef = x18 at *
      generalize a'.tmps.getD 19 undef = x19 at *
      generalize a'.tmps.getD 20 undef = x20 at *
      generalize a'.tmps.getD 21 undef = x21 at *
      generalize a'.tmps.getD 22 undef = x22 at *
      generalize a'.tmps.getD 23 undef = x23 at *
      generalize a'.tmps.getD 24 undef = x24 at *
      generalize a'.tmps.getD 25 undef = x25 at *
      generalize a'.tmps.getD 26 undef = x26 at *
      generalize a'.tmps.getD 27 undef = x27 at *
      generalize a'.tmps.getD 28 undef = x28 at *
      generalize a'.tmps.getD 29 undef = x29 at *
      generalize a'.tmps.getD 30 undef = x30 at *
      generalize a'.tmps.getD 31 undef = x31 at *
      generalize a'.tmps.getD 32 undef = x32 at *
      generalize a'.tmps.getD 33 undef = x33 at *
      generalize a'.tmps.getD 34 undef = x34 at *
      generalize a'.tmps.getD 35 undef = x35 at *
      generalize a'.tmps.getD 36 undef = x36 at *
      generalize a'.tmps.getD 37 undef = x37 at *
      generalize a'.tmps.getD 38 undef = x38 at *
      generalize a'.tmps.getD 39 undef = x39 at *
      generalize a'.tmps.getD 40 undef = x40 at *
      generalize a'.tmps.getD 41 undef = x41 at *
      generalize a'.tmps.getD 42 undef = x42 at *
      generalize a'.tmps.getD 43 undef = x43 at *
      generalize a'.tmps.getD 44 undef = x44 at *
      generalize a'.tmps.getD 45 undef = x45 at *
      generalize a'.tmps.getD 46 undef = x46 at *
      generalize a'.tmps.getD 47 undef = x47 at *
      generalize a'.tmps.getD 48 undef = x48 at *
      generalize a'.tmps.getD 49 undef = x49 at *
      generalize a'.tmps.getD 50 undef = x50 at *
      generalize a'.tmps.getD 51 undef = x51 at *
      generalize a'.tmps.getD 52 undef = x52 at *
      generalize a'.tmps.getD 53 undef = x53 at *
      generalize a'.tmps.getD 54 undef = x54 at *
      generalize a'.tmps.getD 55 undef = x55 at *
      generalize a'.tmps.getD 56 undef = x56 at *
      generalize a'.tmps.getD 57 undef = x57 at *
      generalize a'.tmps.getD 58 undef = x58 at *
      generalize a'.tmps.getD 59 undef = x59 at *
      generalize a'.tmps.getD 60 undef = x60 at *
      generalize a'.tmps.getD 61 undef = x61 at *
      generalize a'.tmps.getD 62 undef = x62 at *
      generalize a'.tmps.getD 63 undef = x63 at *
      generalize a'.tmps.getD 64 undef = x64 at *
      generalize a'.tmps.getD 65 undef = x65 at *
      generalize a'.tmps.getD 66 undef = x66 at *
      generalize a'.tmps.getD 67 undef = x67 at *
      generalize a'.tmps.getD 68 undef = x68 at *
      generalize a'.tmps.getD 69 undef = x69 at *
      generalize a'.tmps.getD 70 undef = x70 at *
      generalize a'.tmps.getD 71 undef = x71 at *
      generalize a'.tmps.getD 72 undef = x72 at *
      generalize a'.tmps.getD 73 undef = x73 at *
      generalize a'.tmps.getD 74 undef = x74 at *
      generalize a'.tmps.getD 75 undef = x75 at *
      generalize a'.tmps.getD 76 undef = x76 at *
      generalize a'.tmps.getD 77 undef = x77 at *
      generalize a'.tmps.getD 78 undef = x78 at *
      generalize a'.tmps.getD 79 undef = x79 at *
      generalize a'.tmps.getD 80 undef = x80 at *
      generalize a'.tmps.getD 81 undef = x81 at *
      subst e2
      simp only [List.drop_succ_cons, List.drop_zero]
      obtain ⟨b8, rfl, hb8, rz⟩ := D8
      obtain ⟨q0, c0, rfl, o0⟩ := D25
      have hb0s := hB.size
      have L0 := r0.lt
      have L1 := r1.lt
      have r0 := r0.below hb r0.lt
      have r1 := r1.below hb r1.lt
      have hB := hB.trans (hb.mono hB.size)
      clear hb
      have kr0 : w.heap.size ≠ b8 := by omega
      have kr1 : w.heap.size + 1 ≠ b8 := by omega
      have m0 : ¬ b8 = w.heap.size := by omega
      have m0' : ¬ w.heap.size = b8 := by omega
      have x0 : w'.cell? ⟨w.heap.size, 0, none⟩ = some (.slice x N cap) := r0.cell 0
      have f0 : w'.frozen? ⟨b8, 0, none⟩ = false := rz.frozen 0
      have f1 : w'.frozen? ⟨b8, 1, none⟩ = false := rz.frozen 1
      have z0 : w'.cell? ⟨b8, 0, none⟩ = some (.slice none 0 0) := rz.cell 0
      have z1 : w'.cell? ⟨b8, 1, none⟩ = some (.int .i64 0) := rz.cell 1
      have HH : Hid _ := And.intro ((rz.set 0 (.slice q0 M c0)).set 1 (.int .i64 cc) : Row ((w'.setCell ⟨b8, 0, none⟩ (.slice q0 M c0)).setCell ⟨b8, 1, none⟩ (.int .i64 cc)) b8 32 [.slice q0 M c0, .int .i64 cc]) (And.intro ((r0.other 0 (.slice q0 M c0) kr0).other 1 (.int .i64 cc) kr0) (And.intro ((r1.other 0 (.slice q0 M c0) kr1).other 1 (.int .i64 cc) kr1) (And.intro (ownsR_kept HM.out (ownsR_kept HM.out o0 (fun _ _ _ e hr => hr.other 0 (.slice q0 M c0) (fun h => ownsR_ne o0 rz (by decide) (by rw [e, h])))) (fun _ _ _ e hr => hr.other 1 (.int .i64 cc) (fun h => ownsR_ne o0 rz (by decide) (by rw [e, h])))) (((hB.setCell (p := ⟨b8, 0, none⟩) (by show w.heap.size ≤ b8; omega) (.slice q0 M c0)).setCell (p := ⟨b8, 1, none⟩) (by show w.heap.size ≤ b8; omega) (.int .i64 cc))))))
      clear r0 r1 o0 hB rz kr0 kr1 HS
      go_wp2_with fail
      generalize (w'.setCell ⟨b8, 0, none⟩ (.slice q0 M c0)).setCell ⟨b8, 1, none⟩ (.int .i64 cc) = Z8 at *
      obtain ⟨r8, r0, r1, o0, hB⟩ := HH.out
      clear HH f0 f1 z0 z1 m0 m0' x0
      refine (HT.out _ (HX.out.below hB)).mono ?_
      rintro e w5 ⟨g5, rfl, hg5, r5, hb5⟩
      have G5 : w.heap.size ≤ g5 := Nat.le_trans hB.size hg5
      have L05 := ownsR_lt' o0
      have r0 := (r0.below hb5 r0.lt).alloc (.cells #[.slice (some ⟨g5, 0, none⟩) N N] 30)
      have r1 := (r1.below hb5 r1.lt).alloc (.cells #[.slice (some ⟨g5, 0, none⟩) N N] 30)
      have r8 := (r8.below hb5 r8.lt).alloc (.cells #[.slice (some ⟨g5, 0, none⟩) N N] 30)
      have o0 := World.ownsRow.alloc (ownsR_below o0 hb5) (.cells #[.slice (some ⟨g5, 0, none⟩) N N] 30)
      have r5 := r5.alloc (.cells #[.slice (some ⟨g5, 0, none⟩) N N] 30)
      have r9 := Row.new w5 30 [.slice (some ⟨g5, 0, none⟩) N N]
      have hB := (hB.trans (hb5.mono hB.size)).alloc (by have := hb5.size; have := hB.size; omega) (.cells #[.slice (some ⟨g5, 0, none⟩) N N] 30)
      have L05 := fun b e => Nat.lt_of_lt_of_le (L05 b e) hg5
      have HI7 : Hid _ := And.intro r8 (And.intro o0 (And.intro r5 (And.intro r9 (And.intro hB (And.intro r0 r1)))))
      clear r8 o0 r5 r9 hB hb5 hg5 r0 r1
      go_wp2_with fail
      generalize hb9 : w5.heap.size = b9 at *
      generalize w5.alloc (.cells #[.slice (some ⟨g5, 0, none⟩) N N] 30) = W7 at *
      clear hb9
      obtain ⟨r8, o0, r5, r9, hB, r0, r1⟩ := HI7.out
      clear HI7
      have hGN : (([(28, Is (.agg #[.slice (some ⟨g5, 0, none⟩) N N])), (29, Is (.agg #[.int .i64 a, .int .i64 l, .int .i64 m, .int .i64 n, .int .i64 ii, .int .i64 t, .int .i64 u, .int .i64 b, .bool c])), (30, Is (.agg #[.int .i64 a, .int .i64 l, .int .i64 m, .int .i64 n, .int .i64 ii, .int .i64 t, .int .i64 u, .int .i64 b, .bool c])), (31, Is (.int .i64 i)), (32, fun v W => ∃ q c, v = .agg #[.slice q M c, .int .i64 cc] ∧ W.ownsRow W7.heap.size 46 9 (.slice q M c) M (rowR qs)), (10, fun v W => ∃ g, v = .pointer (some ⟨g, 0, none⟩) ∧ W7.heap.size ≤ g ∧ Row W g 32 [.slice none 0 0, .int .i64 0])] : List (Nat × (Value → World → Prop))).map (·.1)).Nodup := by simp
      refine wp_region_steady 6 (SlotG [(28, Is (.agg #[.slice (some ⟨g5, 0, none⟩) N N])), (29, Is (.agg #[.int .i64 a, .int .i64 l, .int .i64 m, .int .i64 n, .int .i64 ii, .int .i64 t, .int .i64 u, .int .i64 b, .bool c])), (30, Is (.agg #[.int .i64 a, .int .i64 l, .int .i64 m, .int .i64 n, .int .i64 ii, .int .i64 t, .int .i64 u, .int .i64 b, .bool c])), (31, Is (.int .i64 i)), (32, fun v W => ∃ q c, v = .agg #[.slice q M c, .int .i64 cc] ∧ W.ownsRow W7.heap.size 46 9 (.slice q M c) M (rowR qs)), (10, fun v W => ∃ g, v = .pointer (some ⟨g, 0, none⟩) ∧ W7.heap.size ≤ g ∧ Row W g 32 [.slice none 0 0, .int .i64 0])]) (by kernel_rfl) (by kernel_rfl) (Stabs.all ⟨stab_is _, stab_is _, stab_is _, stab_is _, stab_out W7.heap.size M cc qs, stab_new W7.heap.size 32 [.slice none 0 0, .int .i64 0], trivial⟩) ?_ ?_
      · intro o ho
        simp only [List.take_succ_cons, List.take_zero, List.mem_cons, List.not_mem_nil, or_false] at ho
        rcases ho with rfl | rfl | rfl | rfl | rfl | rfl
        · intro a' w' hb ha hdep
          have d9 : a'.tmps.getD 9 undef = .pointer (some ⟨b9, 0, none⟩) := ha.at 9 (by kernel_rfl)
          have hmk := fun (x : Value) (W : World) => SlotG.mk (x := x) (w := W) 0 rfl hGN
          clear hGN ha hdep
          have y0 : w'.cell? ⟨b9, 0, none⟩ = some (.slice (some ⟨g5, 0, none⟩) N N) := (r9.below hb r9.lt).cell 0
          go_simp
          exact ⟨_, rfl, Below.refl _ _, hmk _ _ rfl⟩
        · intro a' w' hb ha hdep
          have d4 : a'.tmps.getD 4 undef = .pointer (some ⟨w.heap.size + 1, 0, none⟩) := ha.at 4 (by kernel_rfl)
          have hmk := fun (x : Value) (W : World) => SlotG.mk (x := x) (w := W) 1 rfl hGN
          clear hGN ha hdep
          have y0 : w'.cell? ⟨w.heap.size + 1, 0, none⟩ = some (.int .i64 a) := (r1.below hb r1.lt).cell 0
          have y1 : w'.cell? ⟨w.heap.size + 1, 1, none⟩ = some (.int .i64 l) := (r1.below hb r1.lt).cell 1
          have y2 : w'.cell? ⟨w.heap.size + 1, 2, none⟩ = some (.int .i64 m) := (r1.below hb r1.lt).cell 2
          have y3 : w'.cell? ⟨w.heap.size + 1, 3, none⟩ = some (.int .i64 n) := (r1.below hb r1.lt).cell 3
          have y4 : w'.cell? ⟨w.heap.size + 1, 4, none⟩ = some (.int .i64 ii) := (r1.below hb r1.lt).cell 4
          have y5 : w'.cell? ⟨w.heap.size + 1, 5, none⟩ = some (.int .i64 t) := (r1.below hb r1.lt).cell 5
          have y6 : w'.cell? ⟨w.heap.size + 1, 6, none⟩ = some (.int .i64 u) := (r1.below hb r1.lt).cell 6
          have y7 : w'.cell? ⟨w.heap.size + 1, 7, none⟩ = some (.int .i64 b) := (r1.below hb r1.lt).cell 7
          have y8 : w'.cell? ⟨w.heap.size + 1, 8, none⟩ = some (.bool c) := (r1.below hb r1.lt).cell 8
          go_simp
          exact ⟨_, rfl, Below.refl _ _, hmk _ _ rfl⟩
        · intro a' w' hb ha hdep
          have d29 : a'.tmps.getD 29 undef = .agg #[.int .i64 a, .int .i64 l, .int .i64 m, .int .i64 n, .int .i64 ii, .int .i64 t, .int .i64 u, .int .i64 b, .bool c] := (hdep 29 (of_decide_eq_true (by kernel_rfl))).is 1 rfl
          have hmk := fun (x : Value) (W : World) => SlotG.mk (x := x) (w := W) 2 rfl hGN
          clear hGN ha hdep
          go_simp
          refine (HN.out _).mono ?_
          rintro e w2 ⟨rfl, hb2⟩
          exact ⟨_, rfl, hb2, hmk _ _ rfl⟩
        · intro a' w' hb ha hdep
          have d2 : a'.tmps.getD 2 undef = .int .i64 i := ha.at 2 (by kernel_rfl)
          have hmk := fun (x : Value) (W : World) => SlotG.mk (x := x) (w := W) 3 rfl hGN
          clear hGN ha hdep
          go_simp
          exact ⟨_, rfl, Below.refl _ _, hmk _ _ rfl⟩
        · intro a' w' hb ha hdep
          have d28 : a'.tmps.getD 28 undef = .agg #[.slice (some ⟨g5, 0, none⟩) N N] := (hdep 28 (of_decide_eq_true (by kernel_rfl))).is 0 rfl
          have d30 : a'.tmps.getD 30 undef = .agg #[.int .i64 a, .int .i64 l, .int .i64 m, .int .i64 n, .int .i64 ii, .int .i64 t, .int .i64 u, .int .i64 b, .bool c] := (hdep 30 (of_decide_eq_true (by kernel_rfl))).is 2 rfl
          have d31 : a'.tmps.getD 31 undef = .int .i64 i := (hdep 31 (of_decide_eq_true (by kernel_rfl))).is 3 rfl
          have hmk := fun (x : Value) (W : World) => SlotG.mk (x := x) (w := W) 4 rfl hGN
          clear hGN ha hdep
          go_simp
          refine (HI.out g5 _ (r5.below hb r5.lt)).mono ?_
          rintro e w2 ⟨⟨q, c, rfl, ho⟩, hb2⟩
          exact ⟨_, rfl, hb2, hmk _ _ ⟨q, c, rfl, ownsR_mono ho hb.size⟩⟩
        · intro a' w' hb ha hdep
          have hmk := fun (x : Value) (W : World) => SlotG.mk (x := x) (w := W) 5 rfl hGN
          clear hGN ha hdep
          go_simp
          exact ⟨_, rfl, ent_new0 _ _, hmk _ _ ⟨w'.heap.size, rfl, hb.size, Row.new w' 32 [.slice none 0 0, .int .i64 0]⟩⟩
      · intro a' w' hb ha hG
        clear hGN
        have D32 := (hG _ (List.mem_of_getElem? (i := 4) rfl) 32 rfl).get 4 rfl
        have D10 := (hG _ (List.mem_of_getElem? (i := 5) rfl) 10 rfl).get 5 rfl
        have d3 : a'.tmps.getD 3 undef = .pointer (some ⟨w.heap.size, 0, none⟩) := ha.at 3 (by kernel_rfl)
        have d2 : a'.tmps.getD 2 undef = .int .i64 i := ha.at 2 (by kernel_rfl)
        have d4 : a'.tmps.getD 4 undef = .pointer (some ⟨w.heap.size + 1, 0, none⟩) := ha.at 4 (by kernel_rfl)
        have d8 : a'.tmps.getD 8 undef = .pointer (some ⟨b8, 0, none⟩) := ha.at 8 (by kernel_rfl)
        have d9 : a'.tmps.getD 9 undef = .pointer (some ⟨b9, 0, none⟩) := ha.at 9 (by kernel_rfl)
        have e2 : a' = ⟨#[a'.tmps.getD 0 undef, a'.tmps.getD 1 undef, a'.tmps.getD 2 undef, a'.tmps.getD 3 undef, a'.tmps.getD 4 undef, a'.tmps.getD 5 undef, a'.tmps.getD 6 undef, a'.tmps.getD 7 undef, a'.tmps.getD 8 undef, a'.tmps.getD 9 undef, a'.tmps.getD 10 undef, a'.tmps.getD 11 undef, a'.tmps.getD 12 undef, a'.tmps.getD 13 undef, a'.tmps.getD 14 undef, a'.tmps.getD 15 undef, a'.tmps.getD 16 undef, a'.tmps.getD 17 undef, a'.tmps.getD 18 undef, a'.tmps.getD 19 undef, a'.tmps.getD 20 undef, a'.tmps.getD 21 undef, a'.tmps.getD 22 undef, a'.tmps.getD 23 undef, a'.tmps.getD 24 undef, a'.tmps.getD 25 undef, a'.tmps.getD 26 undef, a'.tmps.getD 27 undef, a'.tmps.getD 28 undef, a'.tmps.getD 29 undef, a'.tmps.getD 30 undef, a'.tmps.getD 31 undef, a'.tmps.getD 32 undef, a'.tmps.getD 33 undef, a'.tmps.getD 34 undef, a'.tmps.getD 35 undef, a'.tmps.getD 36 undef, a'.tmps.getD 37 undef, a'.tmps.getD 38 undef, a'.tmps.getD 39 undef, a'.tmps.getD 40 undef, a'.tmps.getD 41 undef, a'.tmps.getD 42 undef, a'.tmps.getD 43 undef, a'.tmps.getD 44 undef, a'.tmps.getD 45 undef, a'.tmps.getD 46 undef, a'.tmps.getD 47 undef, a'.tmps.getD 48 undef, a'.tmps.getD 49 undef, a'.tmps.getD 50 undef, a'.tmps.getD 51 undef, a'.tmps.getD 52 undef, a'.tmps.getD 53 undef, a'.tmps.getD 54 undef, a'.tmps.getD 55 undef, a'.tmps.getD 56 undef, a'.tmps.getD 57 undef, a'.tmps.getD 58 undef, a'.tmps.getD 59 undef, a'.tmps.getD 60 undef, a'.tmps.getD 61 undef, a'.tmps.getD 62 undef, a'.tmps.getD 63 undef, a'.tmps.getD 64 undef, a'.tmps.getD 65 undef, a'.tmps.getD 66 undef, a'.tmps.getD 67 undef, a'.tmps.getD 68 undef, a'.tmps.getD 69 undef, a'.tmps.getD 70 undef, a'.tmps.getD 71 undef, a'.tmps.getD 72 undef, a'.tmps.getD 73 undef, a'.tmps.getD 74 undef, a'.tmps.getD 75 undef, a'.tmps.getD 76 undef, a'.tmps.getD 77 undef, a'.tmps.getD 78 undef, a'.tmps.getD 79 undef, a'.tmps.getD 80 undef, a'.tmps.getD 81 undef], []⟩ := by rw [← (show a'.defers = [] from ha.2.1)]; exact act_eq a' 82 ha.1
        rw [d3, d2, d4, d8, d9] at e2
        clear hG ha d3 d2 d4 d8 d9
        generalize a'.tmps.getD 0 undef = x0 at *
        generalize a'.tmps.getD 1 undef = x1 at *
        generalize a'.tmps.getD 5 undef = x5 at *
        generalize a'.tmps.getD 6 undef = x6 at *
        generalize a'.tmps.getD 7 undef = x7 at *
        generalize a'.tmps.getD 10 undef = x10 at *
        generalize a'.tmps.getD 11 undef = x11 at *
        generalize a'.tmps.getD 12 undef = x12 at *
        generalize a'.tmps.getD 13 undef = x13 at *
        generalize a'.tmps.getD 14 undef = x14 at *
        generalize a'.tmps.getD 15 undef = x15 at *
        generalize a'.tmps.getD 16 undef = x16 at *
        generalize a'.tmps.getD 17 undef = x17 at *
        generalize a'.tmps.getD 18 undef = x18 at *
        generalize a'.tmps.getD 19 undef = x19 at *
        generalize a'.tmps.getD 20 undef = x20 at *
        generalize a'.tmps.getD 21 undef = x21 at *
        generalize a'.tmps.getD 22 undef = x22 at *
        generalize a'.tmps.getD 23 undef = x23 at *
        generalize a'.tmps.getD 24 undef = x24 at *
        generalize a'.tmps.getD 25 undef = x25 at *
        generalize a'.tmps.getD 26 undef = x26 at *
        generalize a'.tmps.getD 27 undef = x27 at *
        generalize a'.tmps.getD 28 undef = x28 at *
        generalize a'.tmps.getD 29 undef = x29 at *
        generalize a'.tmps.getD 30 undef = x30 at *
        generalize a'.tmps.getD 31 undef = x31 at *
        generalize a'.tmps.getD 32 undef = x32 at *
        generalize a'.tmps.getD 33 undef = x33 at *
        generalize a'.tmps.getD 34 undef = x34 at *
        generalize a'.tmps.getD 35 undef = x35 at *
        generalize a'.tmps.getD 36 undef = x36 at *
        generalize a'.tmps.getD 37 undef = x37 at *
        generalize a'.tmps.getD 38 undef = x38 at *
        generalize a'.tmps.getD 39 undef = x39 at *
        generalize a'.tmps.getD 40 undef = x40 at *
        generalize a'.tmps.getD 41 undef = x41 at *
        generalize a'.tmps.getD 42 undef = x42 at *
        generalize a'.tmps.getD 43 undef = x43 at *
        generalize a'.tmps.getD 44 undef = x44 at *
        generalize a'.tmps.getD 45 undef = x45 at *
        generalize a'.tmps.getD 46 undef = x46 at *
        generalize a'.tmps.getD 47 undef = x47 at *
        generalize a'.tmps.getD 48 undef = x48 at *
        generalize a'.tmps.getD 49 undef = x49 at *
        generalize a'.tmps.getD 50 undef = x50 at *
        generalize a'.tmps.getD 51 undef = x51 at *
        generalize a'.tmps.getD 52 undef = x52 at *
        generalize a'.tmps.getD 53 undef = x53 at *
        generalize a'.tmps.getD 54 undef = x54 at *
        generalize a'.tmps.getD 55 undef = x55 at *
        generalize a'.tmps.getD 56 undef = x56 at *
        generalize a'.tmps.getD 57 undef = x57 at *
        generalize a'.tmps.getD 58 undef = x58 at *
        generalize a'.tmps.getD 59 undef = x59 at *
        generalize a'.tmps.getD 60 undef = x60 at *
        generalize a'.tmps.getD 61 undef = x61 at *
        generalize a'.tmps.getD 62 undef = x62 at *
        generalize a'.tmps.getD 63 undef = x63 at *
        generalize a'.tmps.getD 64 undef = x64 at *
        generalize a'.tmps.getD 65 undef = x65 at *
        generalize a'.tmps.getD 66 undef = x66 at *
        generalize a'.tmps.getD 67 undef = x67 at *
        generalize a'.tmps.getD 68 undef = x68 at *
        generalize a'.tmps.getD 69 undef = x69 at *
        generalize a'.tmps.getD 70 undef = x70 at *
        generalize a'.tmps.getD 71 undef = x71 at *
        generalize a'.tmps.getD 72 undef = x72 at *
        generalize a'.tmps.getD 73 undef = x73 at *
        generalize a'.tmps.getD 74 undef = x74 at *
        generalize a'.tmps.getD 75 undef = x75 at *
        generalize a'.tmps.getD 76 undef = x76 at *
        generalize a'.tmps.getD 77 undef = x77 at *
        generalize a'.tmps.getD 78 undef = x78 at *
        generalize a'.tmps.getD 79 undef = x79 at *
        generalize a'.tmps.getD 80 undef = x80 at *
        generalize a'.tmps.getD 81 undef = x81 at *
        subst e2
        simp only [List.drop_succ_cons, List.drop_zero]
        obtain ⟨b10, rfl, hb10, rz⟩ := D10
        obtain ⟨q1, c1, rfl, o1⟩ := D32
        have hb0s := hB.size
        have L07 := (ownsR_lt' o0)
        have Lr0 := r0.lt
        have Lr1 := r1.lt
        have Lr8 := r8.lt
        have Lr5 := r5.lt
        have Lr9 := r9.lt
        have r0 := r0.below hb r0.lt
        have r1 := r1.below hb r1.lt
        have r8 := r8.below hb r8.lt
        have r5 := r5.below hb r5.lt
        have r9 := r9.below hb r9.lt
        have o0 := ownsR_below o0 hb
        have hB := hB.trans (hb.mono hB.size)
        have hb7s := hb.size
        generalize hn7 : W7.heap.size = n7 at *
        clear hb
        have kr0 : w.heap.size ≠ b10 := by omega
        have kr1 : w.heap.size + 1 ≠ b10 := by omega
        have kr8 : b8 ≠ b10 := by omega
        have kr5 : g5 ≠ b10 := by omega
        have kr9 : b9 ≠ b10 := by omega
        have m8 : ¬ b10 = b8 := by omega
        have m8' : ¬ b8 = b10 := by omega
        have t0 : w'.cell? ⟨b8, 0, none⟩ = some (.slice q0 M c0) := r8.cell 0
        have t1 : w'.cell? ⟨b8, 1, none⟩ = some (.int .i64 cc) := r8.cell 1
        have f0 : w'.frozen? ⟨b10, 0, none⟩ = false := rz.frozen 0
        have f1 : w'.frozen? ⟨b10, 1, none⟩ = false := rz.frozen 1
        have z0 : w'.cell? ⟨b10, 0, none⟩ = some (.slice none 0 0) := rz.cell 0
        have z1 : w'.cell? ⟨b10, 1, none⟩ = some (.int .i64 0) := rz.cell 1
        have HH : Hid _ := And.intro ((rz.set 0 (.slice q1 M c1)).set 1 (.int .i64 cc) : Row ((w'.setCell ⟨b10, 0, none⟩ (.slice q1 M c1)).setCell ⟨b10, 1, none⟩ (.int .i64 cc)) b10 32 [.slice q1 M c1, .int .i64 cc]) (And.intro ((r0.other 0 (.slice q1 M c1) kr0).other 1 (.int .i64 cc) kr0) (And.intro ((r1.other 0 (.slice q1 M c1) kr1).other 1 (.int .i64 cc) kr1) (And.intro ((r8.other 0 (.slice q1 M c1) kr8).other 1 (.int .i64 cc) kr8) (And.intro ((r5.other 0 (.slice q1 M c1) kr5).other 1 (.int .i64 cc) kr5) (And.intro ((r9.other 0 (.slice q1 M c1) kr9).other 1 (.int .i64 cc) kr9) (And.intro (ownsR_kept HM.out (ownsR_kept HM.out o0 (fun _ _ _ e hr => hr.other 0 (.slice q1 M c1) (fun h => ownsR_ne o0 rz (by decide) (by rw [e, h])))) (fun _ _ _ e hr => hr.other 1 (.int .i64 cc) (fun h => ownsR_ne o0 rz (by decide) (by rw [e, h])))) (And.intro (ownsR_kept HM.out (ownsR_kept HM.out o1 (fun _ _ _ e hr => hr.other 0 (.slice q1 M c1) (fun h => ownsR_ne o1 rz (by decide) (by rw [e, h])))) (fun _ _ _ e hr => hr.other 1 (.int .i64 cc) (fun h => ownsR_ne o1 rz (by decide) (by rw [e, h])))) (((hB.setCell (p := ⟨b10, 0, none⟩) (by show w.heap.size ≤ b10; omega) (.slice q1 M c1)).setCell (p := ⟨b10, 1, none⟩) (by show w.heap.size ≤ b10; omega) (.int .i64 cc))))))))))
        clear r0 r1 r8 r5 r9 o0 o1 hB rz kr0 kr1 kr8 kr5 kr9
        go_wp2_with fail
        generalize (w'.setCell ⟨b10, 0, none⟩ (.slice q1 M c1)).setCell ⟨b10, 1, none⟩ (.int .i64 cc) = Z10 at *
        obtain ⟨r10, r0, r1, r8, r5, r9, o0, o1, hB⟩ := HH.out
        clear HH f0 f1 z0 z1 t0 t1 m8 m8'
        refine (eqRibOut_any cc q1 q0 M c1 c0 qs Z10 HM.out (by have := HL.out; omega) (ownsR_in HM.out o1) (ownsR_in HM.out o0)).mono ?_
        rintro e w10 ⟨rfl, hbe⟩
        have r0 := r0.below hbe r0.lt
        have r1 := r1.below hbe r1.lt
        have r8 := r8.below hbe r8.lt
        have r5 := r5.below hbe r5.lt
        have r9 := r9.below hbe r9.lt
        have r10 := r10.below hbe r10.lt
        have o0 := ownsR_below o0 hbe
        have o1 := ownsR_below o1 hbe
        have hB := hB.trans (hbe.mono hB.size)
        clear hbe
        go_wp2_with fail
        have hGN : (([(37, Is (.agg #[.slice (some ⟨g5, 0, none⟩) N N])), (38, Is (.agg #[.slice x N cap])), (39, fun v W => ∃ g, v = .agg #[.slice (some ⟨g, 0, none⟩) N N] ∧ Row W g 46 (rowR rs)), (40, Is (.bool true)), (41, Is (.bool false))] : List (Nat × (Value → World → Prop))).map (·.1)).Nodup := by simp
        refine wp_region_steady 5 (SlotG [(37, Is (.agg #[.slice (some ⟨g5, 0, none⟩) N N])), (38, Is (.agg #[.slice x N cap])), (39, fun v W => ∃ g, v = .agg #[.slice (some ⟨g, 0, none⟩) N N] ∧ Row W g 46 (rowR rs)), (40, Is (.bool true)), (41, Is (.bool false))]) (by kernel_rfl) (by kernel_rfl) (Stabs.all ⟨stab_is _, stab_is _, stab_ribRow _, stab_is _, stab_is _, trivial⟩) ?_ ?_
        · intro o ho
          simp only [List.take_succ_cons, List.take_zero, List.mem_cons, List.not_mem_nil, or_false] at ho
          rcases ho with rfl | rfl | rfl | rfl | rfl
          · intro a' w' hb ha hdep
            have d9 : a'.tmps.getD 9 undef = .pointer (some ⟨b9, 0, none⟩) := ha.at 9 (by kernel_rfl)
            have hmk := fun (x : Value) (W : World) => SlotG.mk (x := x) (w := W) 0 rfl hGN
            clear hGN ha hdep
            have y0 : w'.cell? ⟨b9, 0, none⟩ = some (.slice (some ⟨g5, 0, none⟩) N N) := (r9.below hb r9.lt).cell 0
            go_simp
            exact ⟨_, rfl, Below.refl _ _, hmk _ _ rfl⟩
          · intro a' w' hb ha hdep
            have d3 : a'.tmps.getD 3 undef = .pointer (some ⟨w.heap.size, 0, none⟩) := ha.at 3 (by kernel_rfl)
            have hmk := fun (x : Value) (W : World) => SlotG.mk (x := x) (w := W) 1 rfl hGN
            clear hGN ha hdep
            have y0 : w'.cell? ⟨w.heap.size, 0, none⟩ = some (.slice x N cap) := (r0.below hb r0.lt).cell 0
            go_simp
            exact ⟨_, rfl, Below.refl _ _, hmk _ _ rfl⟩
          · intro a' w' hb ha hdep
            have d38 : a'.tmps.getD 38 undef = .agg #[.slice x N cap] := (hdep 38 (of_decide_eq_true (by kernel_rfl))).is 1 rfl
            have hmk := fun (x : Value) (W : World) => SlotG.mk (x := x) (w := W) 2 rfl hGN
            clear hGN ha hdep
            go_simp
            refine (HT.out _ (HX.out.below (hB.trans (hb.mono hB.size)))).mono ?_
            rintro e w2 ⟨g, rfl, _, r7, hb2⟩
            exact ⟨_, rfl, hb2, hmk _ _ ⟨g, rfl, r7⟩⟩
          · intro a' w' hb ha hdep
            have d37 : a'.tmps.getD 37 undef = .agg #[.slice (some ⟨g5, 0, none⟩) N N] := (hdep 37 (of_decide_eq_true (by kernel_rfl))).is 0 rfl
            have D39 := (hdep 39 (of_decide_eq_true (by kernel_rfl))).get 2 rfl
            have hmk := fun (x : Value) (W : World) => SlotG.mk (x := x) (w := W) 3 rfl hGN
            clear hGN ha hdep
            obtain ⟨g, d39, rr⟩ := D39
            go_simp
            refine (HQ.out _ _ _ _ _ (rtsIn_row (r5.below hb r5.lt)) (rtsIn_row rr)).mono ?_
            rintro e w2 ⟨rfl, hb2⟩
            exact ⟨_, rfl, hb2, hmk _ _ rfl⟩
          · intro a' w' hb ha hdep
            have d40 : a'.tmps.getD 40 undef = .bool true := (hdep 40 (of_decide_eq_true (by kernel_rfl))).is 3 rfl
            have hmk := fun (x : Value) (W : World) => SlotG.mk (x := x) (w := W) 4 rfl hGN
            clear hGN ha hdep
            go_simp
            exact ⟨_, rfl, Below.refl _ _, hmk _ _ rfl⟩
        · intro a' w' hb ha hG
          clear hGN
          have d41 : a'.tmps.getD 41 undef = .bool false := (hG _ (List.mem_of_getElem? (i := 4) rfl) 41 rfl).is 4 rfl
          have d3 : a'.tmps.getD 3 undef = .pointer (some ⟨w.heap.size, 0, none⟩) := ha.at 3 (by kernel_rfl)
          have d2 : a'.tmps.getD 2 undef = .int .i64 i := ha.at 2 (by kernel_rfl)
          have d4 : a'.tmps.getD 4 undef = .pointer (some ⟨w.heap.size + 1, 0, none⟩) := ha.at 4 (by kernel_rfl)
          have d8 : a'.tmps.getD 8 undef = .pointer (some ⟨b8, 0, none⟩) := ha.at 8 (by kernel_rfl)
          have d9 : a'.tmps.getD 9 undef = .pointer (some ⟨b9, 0, none⟩) := ha.at 9 (by kernel_rfl)
          have d10 : a'.tmps.getD 10 undef = .pointer (some ⟨b10, 0, none⟩) := ha.at 10 (by kernel_rfl)
          have e2 : a' = ⟨#[a'.tmps.getD 0 undef, a'.tmps.getD 1 undef, a'.tmps.getD 2 undef, a'.tmps.getD 3 undef, a'.tmps.getD 4 undef, a'.tmps.getD 5 undef, a'.tmps.getD 6 undef, a'.tmps.getD 7 undef, a'.tmps.getD 8 undef, a'.tmps.getD 9 undef, a'.tmps.getD 10 undef, a'.tmps.getD 11 undef, a'.tmps.getD 12 undef, a'.tmps.getD 13 undef, a'.tmps.getD 14 undef, a'.tmps.getD 15 undef, a'.tmps.getD 16 undef, a'.tmps.getD 17 undef, a'.tmps.getD 18 undef, a'.tmps.getD 19 undef, a'.tmps.getD 20 undef, a'.tmps.getD 21 undef, a'.tmps.getD 22 undef, a'.tmps.getD 23 undef, a'.tmps.getD 24 undef, a'.tmps.getD 25 undef, a'.tmps.getD 26 undef, a'.tmps.getD 27 undef, a'.tmps.getD 28 undef, a'.tmps.getD 29 undef, a'.tmps.getD 30 undef, a'.tmps.getD 31 undef, a'.tmps.getD 32 undef, a'.tmps.getD 33 undef, a'.tmps.getD 34 undef, a'.tmps.getD 35 undef, a'.tmps.getD 36 undef, a'.tmps.getD 37 undef, a'.tmps.getD 38 undef, a'.tmps.getD 39 undef, a'.tmps.getD 40 undef, a'.tmps.getD 41 undef, a'.tmps.getD 42 undef, a'.tmps.getD 43 undef, a'.tmps.getD 44 undef, a'.tmps.getD 45 undef, a'.tmps.getD 46 undef, a'.tmps.getD 47 undef, a'.tmps.getD 48 undef, a'.tmps.getD 49 undef, a'.tmps.getD 50 undef, a'.tmps.getD 51 undef, a'.tmps.getD 52 undef, a'.tmps.getD 53 undef, a'.tmps.getD 54 undef, a'.tmps.getD 55 undef, a'.tmps.getD 56 undef, a'.tmps.getD 57 undef, a'.tmps.getD 58 undef, a'.tmps.getD 59 undef, a'.tmps.getD 60 undef, a'.tmps.getD 61 undef, a'.tmps.getD 62 undef, a'.tmps.getD 63 undef, a'.tmps.getD 64 undef, a'.tmps.getD 65 undef, a'.tmps.getD 66 undef, a'.tmps.getD 67 undef, a'.tmps.getD 68 undef, a'.tmps.getD 69 undef, a'.tmps.getD 70 undef, a'.tmps.getD 71 undef, a'.tmps.getD 72 undef, a'.tmps.getD 73 undef, a'.tmps.getD 74 undef, a'.tmps.getD 75 undef, a'.tmps.getD 76 undef, a'.tmps.getD 77 undef, a'.tmps.getD 78 undef, a'.tmps.getD 79 undef, a'.tmps.getD 80 undef, a'.tmps.getD 81 undef], []⟩ := by rw [← (show a'.defers = [] from ha.2.1)]; exact act_eq a' 82 ha.1
          rw [d41, d3, d2, d4, d8, d9, d10] at e2
          clear hG ha d41 d3 d2 d4 d8 d9 d10
          generalize a'.tmps.getD 0 undef = x0 at *
          generalize a'.tmps.getD 1 undef = x1 at *
          generalize a'.tmps.getD 5 undef = x5 at *
          generalize a'.tmps.getD 6 undef = x6 at *
          generalize a'.tmps.getD 7 undef = x7 at *
          generalize a'.tmps.getD 11 undef = x11 at *
          generalize a'.tmps.getD 12 undef = x12 at *
          generalize a'.tmps.getD 13 undef = x13 at *
          generalize a'.tmps.getD 14 undef = x14 at *
          generalize a'.tmps.getD 15 undef = x15 at *
          generalize a'.tmps.getD 16 undef = x16 at *
          generalize a'.tmps.getD 17 undef = x17 at *
          generalize a'.tmps.getD 18 undef = x18 at *
          generalize a'.tmps.getD 19 undef = x19 at *
          generalize a'.tmps.getD 20 undef = x20 at *
          generalize a'.tmps.getD 21 undef = x21 at *
          generalize a'.tmps.getD 22 undef = x22 at *
          generalize a'.tmps.getD 23 undef = x23 at *
          generalize a'.tmps.getD 24 undef = x24 at *
          generalize a'.tmps.getD 25 undef = x25 at *
          generalize a'.tmps.getD 26 undef = x26 at *
          generalize a'.tmps.getD 27 undef = x27 at *
          generalize a'.tmps.getD 28 undef = x28 at *
          generalize a'.tmps.getD 29 undef = x29 at *
          generalize a'.tmps.getD 30 undef = x30 at *
          generalize a'.tmps.getD 31 undef = x31 at *
          generalize a'.tmps.getD 32 undef = x32 at *
          generalize a'.tmps.getD 33 undef = x33 at *
          generalize a'.tmps.getD 34 undef = x34 at *
          generalize a'.tmps.getD 35 undef = x35 at *
          generalize a'.tmps.getD 36 undef = x36 at *
          generalize a'.tmps.getD 37 undef = x37 at *
          generalize a'.tmps.getD 38 undef = x38 at *
          generalize a'.tmps.getD 39 undef = x39 at *
          generalize a'.tmps.getD 40 undef = x40 at *
          generalize a'.tmps.getD 42 undef = x42 at *
          generalize a'.tmps.getD 43 undef = x43 at *
          generalize a'.tmps.getD 44 undef = x44 at *
          generalize a'.tmps.getD 45 undef = x45 at *
          generalize a'.tmps.getD 46 undef = x46 at *
          generalize a'.tmps.getD 47 undef = x47 at *
          generalize a'.tmps.getD 48 undef = x48 at *
          generalize a'.tmps.getD 49 undef = x49 at *
          generalize a'.tmps.getD 50 undef = x50 at *
          generalize a'.tmps.getD 51 undef = x51 at *
          generalize a'.tmps.getD 52 undef = x52 at *
          generalize a'.tmps.getD 53 undef = x53 at *
          generalize a'.tmps.getD 54 undef = x54 at *
          generalize a'.tmps.getD 55 undef = x55 at *
          generalize a'.tmps.getD 56 undef = x56 at *
          generalize a'.tmps.getD 57 undef = x57 at *
          generalize a'.tmps.getD 58 undef = x58 at *
          generalize a'.tmps.getD 59 undef = x59 at *
          generalize a'.tmps.getD 60 undef = x60 at *
          generalize a'.tmps.getD 61 undef = x61 at *
          generalize a'.tmps.getD 62 undef = x62 at *
          generalize a'.tmps.getD 63 undef = x63 at *
          generalize a'.tmps.getD 64 undef = x64 at *
          generalize a'.tmps.getD 65 undef = x65 at *
          generalize a'.tmps.getD 66 undef = x66 at *
          generalize a'.tmps.getD 67 undef = x67 at *
          generalize a'.tmps.getD 68 undef = x68 at *
          generalize a'.tmps.getD 69 undef = x69 at *
          generalize a'.tmps.getD 70 undef = x70 at *
          generalize a'.tmps.getD 71 undef = x71 at *
          generalize a'.tmps.getD 72 undef = x72 at *
          generalize a'.tmps.getD 73 undef = x73 at *
          generalize a'.tmps.getD 74 undef = x74 at *
          generalize a'.tmps.getD 75 undef = x75 at *
          generalize a'.tmps.getD 76 undef = x76 at *
          generalize a'.tmps.getD 77 undef = x77 at *
          generalize a'.tmps.getD 78 undef = x78 at *
          generalize a'.tmps.getD 79 undef = x79 at *
          generalize a'.tmps.getD 80 undef = x80 at *
          generalize a'.tmps.getD 81 undef = x81 at *
          subst e2
          simp only [List.drop_succ_cons, List.drop_zero]
          have r0 := r0.below hb r0.lt
          have r1 := r1.below hb r1.lt
          have r8 := r8.below hb r8.lt
          have r5 := r5.below hb r5.lt
          have r9 := r9.below hb r9.lt
          have r10 := r10.below hb r10.lt
          have o0 := ownsR_below o0 hb
          have o1 := ownsR_below o1 hb
          have hB := hB.trans (hb.mono hB.size)
          have hb10s := hB.size
          clear hb HQ
          have L8 := r8.lt
          have L5 := r5.lt
          have x9 : w'.cell? ⟨b9, 0, none⟩ = some (.slice (some ⟨g5, 0, none⟩) N N) := r9.cell 0
          have HR : Hid _ := And.intro r0 (And.intro r1 (And.intro r8 (And.intro r10 (And.intro o0 (And.intro o1 (And.intro r5 hB))))))
          clear r0 r1 r8 r10 o0 o1 r5 hB r9
          go_wp2_with fail
          obtain ⟨r0, r1, r8, r10, o0, o1, r5, hB⟩ := HR.out
          clear HR x9
          have o5 := ownsR_row HNN.out hN1 r5
          refine (markRib_any 1 (some ⟨g5, 0, none⟩) N N g5 rs w' HNN.out (by omega) hN1 o5 (by omega)).mono ?_
          rintro e w11 ⟨rfl, -, hb11, hkp⟩
          have r0 := hkp _ _ _ (ownsR_ne o5 r0 (by decide)) r0
          have r1 := hkp _ _ _ (ownsR_ne o5 r1 (by decide)) r1
          have r8 := hkp _ _ _ (ownsR_ne o5 r8 (by decide)) r8
          have r10 := hkp _ _ _ (ownsR_ne o5 r10 (by decide)) r10
          have o0 := ownsR_kept HM.out o0 (fun b t l e hr => hkp b t l (fun e' => ownsR_base5 o0 L05 (by rw [e, ← e'])) hr)
          have o1 := ownsR_kept HM.out o1 (fun b t l e hr => hkp b t l (fun e' => ownsR_base o1 (show g5 < n7 by omega) (by rw [e, ← e'])) hr)
          have hB := hB.trans (hb11.mono (by omega))
          clear hb11 hkp o5 r5
          have dK : decide (((1 : Nat) : Int) + 9 * (N : Int) < 0) = false := by simp; omega
          have s0 : w11.cell? ⟨b10, 0, none⟩ = some (.slice q1 M c1) := r10.cell 0
          have s1 : w11.cell? ⟨b10, 1, none⟩ = some (.int .i64 cc) := r10.cell 1
          have t0 : w11.cell? ⟨b8, 0, none⟩ = some (.slice q0 M c0) := r8.cell 0
          have t1 : w11.cell? ⟨b8, 1, none⟩ = some (.int .i64 cc) := r8.cell 1
          go_wp2_with fail
          refine (eqRibOut_any cc q1 q0 M c1 c0 qs w11 HM.out (by have := HL.out; omega) (ownsR_in HM.out o1) (ownsR_in HM.out o0)).mono ?_
          rintro e w12 ⟨rfl, hbe⟩
          have r0 := r0.below hbe r0.lt
          have r1 := r1.below hbe r1.lt
          have r8 := r8.below hbe r8.lt
          have r10 := r10.below hbe r10.lt
          have o0 := ownsR_below o0 hbe
          have o1 := ownsR_below o1 hbe
          have hB := hB.trans (hbe.mono hB.size)
          clear hbe
          clear s0 s1 t0 t1 dK
          have s0 : w12.cell? ⟨b10, 0, none⟩ = some (.slice q1 M c1) := r10.cell 0
          have s1 : w12.cell? ⟨b10, 1, none⟩ = some (.int .i64 cc) := r10.cell 1
          go_wp2_with fail
          refine (markRibOut_any 1 cc q1 M c1 n7 qs w12 HM.out (by omega) (by have := HL.out; omega) o1 (by have := r10.lt; have := r8.lt; omega)).mono ?_
          rintro e w13' ⟨rfl, o1m, hb13, hkp⟩
          have r0 := hkp _ _ _ (ownsR_ne o1 r0 (by decide)) r0
          have r1 := hkp _ _ _ (ownsR_ne o1 r1 (by decide)) r1
          have r8 := hkp _ _ _ (ownsR_ne o1 r8 (by decide)) r8
          have r10 := hkp _ _ _ (ownsR_ne o1 r10 (by decide)) r10
          have o0 := ownsR_kept HM.out o0 (fun b t l e hr => hkp b t l (fun e' => ownsR_lt0 o0 o1 L07 (by rw [e]) e') hr)
          have hB := hB.trans (hb13.mono (by omega))
          clear hb13 hkp o1 s0 s1
          have o1 := o1m
          clear o1m
          have s0 : w13'.cell? ⟨b10, 0, none⟩ = some (.slice q1 M c1) := r10.cell 0
          have s1 : w13'.cell? ⟨b10, 1, none⟩ = some (.int .i64 cc) := r10.cell 1
          go_wp2_with fail
          refine (heldRibOut_any 1 cc q1 M c1 w13' (by omega) (by have := HL.out; omega) (ownsR_in (marksR_length 1 M).symm o1)).mono ?_
          rintro e w13 ⟨rfl, hbe⟩
          have r0 := r0.below hbe r0.lt
          have r1 := r1.below hbe r1.lt
          have r8 := r8.below hbe r8.lt
          have r10 := r10.below hbe r10.lt
          have o0 := ownsR_below o0 hbe
          have o1 := ownsR_below o1 hbe
          have hB := hB.trans (hbe.mono hB.size)
          clear hbe s0 s1
          have dN : decide (((1 : Nat) : Int) + 9 * (M : Int) < 0) = false := by simp; omega
          have dM : ((((1 : Nat) : Int) + 9 * (M : Int)) != (((1 : Nat) : Int) + 9 * (M : Int))) = false := by simp
          go_wp2_with fail
          have hGN : (([(64, Is (.agg #[.slice x N cap])), (65, fun v W => ∃ g, v = .agg #[.slice (some ⟨g, 0, none⟩) N N] ∧ Row W g 46 (rowR rs)), (66, Is (.agg #[.int .i64 a, .int .i64 l, .int .i64 m, .int .i64 n, .int .i64 ii, .int .i64 t, .int .i64 u, .int .i64 b, .bool c])), (67, Is (.agg #[.int .i64 a, .int .i64 l, .int .i64 m, .int .i64 n, .int .i64 ii, .int .i64 t, .int .i64 u, .int .i64 b, .bool c])), (68, Is (.int .i64 i)), (69, fun v W => ∃ q c, v = .agg #[.slice q M c, .int .i64 cc] ∧ W.ownsRow w13.heap.size 46 9 (.slice q M c) M (rowR qs)), (14, fun v W => ∃ g, v = .pointer (some ⟨g, 0, none⟩) ∧ w13.heap.size ≤ g ∧ Row W g 32 [.slice none 0 0, .int .i64 0])] : List (Nat × (Value → World → Prop))).map (·.1)).Nodup := by simp
          refine wp_region_steady 7 (SlotG [(64, Is (.agg #[.slice x N cap])), (65, fun v W => ∃ g, v = .agg #[.slice (some ⟨g, 0, none⟩) N N] ∧ Row W g 46 (rowR rs)), (66, Is (.agg #[.int .i64 a, .int .i64 l, .int .i64 m, .int .i64 n, .int .i64 ii, .int .i64 t, .int .i64 u, .int .i64 b, .bool c])), (67, Is (.agg #[.int .i64 a, .int .i64 l, .int .i64 m, .int .i64 n, .int .i64 ii, .int .i64 t, .int .i64 u, .int .i64 b, .bool c])), (68, Is (.int .i64 i)), (69, fun v W => ∃ q c, v = .agg #[.slice q M c, .int .i64 cc] ∧ W.ownsRow w13.heap.size 46 9 (.slice q M c) M (rowR qs)), (14, fun v W => ∃ g, v = .pointer (some ⟨g, 0, none⟩) ∧ w13.heap.size ≤ g ∧ Row W g 32 [.slice none 0 0, .int .i64 0])]) (by kernel_rfl) (by kernel_rfl) (Stabs.all ⟨stab_is _, stab_ribRow _, stab_is _, stab_is _, stab_is _, stab_out w13.heap.size M cc qs, stab_new w13.heap.size 32 [.slice none 0 0, .int .i64 0], trivial⟩) ?_ ?_
          · intro o ho
            simp only [List.take_succ_cons, List.take_zero, List.mem_cons, List.not_mem_nil, or_false] at ho
            rcases ho with rfl | rfl | rfl | rfl | rfl | rfl | rfl
            · intro a' w' hb ha hdep
              have d3 : a'.tmps.getD 3 undef = .pointer (some ⟨w.heap.size, 0, none⟩) := ha.at 3 (by kernel_rfl)
              have hmk := fun (x : Value) (W : World) => SlotG.mk (x := x) (w := W) 0 rfl hGN
              clear hGN ha hdep
              have y0 : w'.cell? ⟨w.heap.size, 0, none⟩ = some (.slice x N cap) := (r0.below hb r0.lt).cell 0
              go_simp
              exact ⟨_, rfl, Below.refl _ _, hmk _ _ rfl⟩
            · intro a' w' hb ha hdep
              have d64 : a'.tmps.getD 64 undef = .agg #[.slice x N cap] := (hdep 64 (of_decide_eq_true (by kernel_rfl))).is 0 rfl
              have hmk := fun (x : Value) (W : World) => SlotG.mk (x := x) (w := W) 1 rfl hGN
              clear hGN ha hdep
              go_simp
              refine (HT.out _ (HX.out.below (hB.trans (hb.mono hB.size)))).mono ?_
              rintro e w2 ⟨g, rfl, _, r7, hb2⟩
              exact ⟨_, rfl, hb2, hmk _ _ ⟨g, rfl, r7⟩⟩
            · intro a' w' hb ha hdep
              have d4 : a'.tmps.getD 4 undef = .pointer (some ⟨w.heap.size + 1, 0, none⟩) := ha.at 4 (by kernel_rfl)
              have hmk := fun (x : Value) (W : World) => SlotG.mk (x := x) (w := W) 2 rfl hGN
              clear hGN ha hdep
              have y0 : w'.cell? ⟨w.heap.size + 1, 0, none⟩ = some (.int .i64 a) := (r1.below hb r1.lt).cell 0
              have y1 : w'.cell? ⟨w.heap.size + 1, 1, none⟩ = some (.int .i64 l) := (r1.below hb r1.lt).cell 1
              have y2 : w'.cell? ⟨w.heap.size + 1, 2, none⟩ = some (.int .i64 m) := (r1.below hb r1.lt).cell 2
              have y3 : w'.cell? ⟨w.heap.size + 1, 3, none⟩ = some (.int .i64 n) := (r1.below hb r1.lt).cell 3
              have y4 : w'.cell? ⟨w.heap.size + 1, 4, none⟩ = some (.int .i64 ii) := (r1.below hb r1.lt).cell 4
              have y5 : w'.cell? ⟨w.heap.size + 1, 5, none⟩ = some (.int .i64 t) := (r1.below hb r1.lt).cell 5
              have y6 : w'.cell? ⟨w.heap.size + 1, 6, none⟩ = some (.int .i64 u) := (r1.below hb r1.lt).cell 6
              have y7 : w'.cell? ⟨w.heap.size + 1, 7, none⟩ = some (.int .i64 b) := (r1.below hb r1.lt).cell 7
              have y8 : w'.cell? ⟨w.heap.size + 1, 8, none⟩ = some (.bool c) := (r1.below hb r1.lt).cell 8
              go_simp
              exact ⟨_, rfl, Below.refl _ _, hmk _ _ rfl⟩
            · intro a' w' hb ha hdep
              have d66 : a'.tmps.getD 66 undef = .agg #[.int .i64 a, .int .i64 l, .int .i64 m, .int .i64 n, .int .i64 ii, .int .i64 t, .int .i64 u, .int .i64 b, .bool c] := (hdep 66 (of_decide_eq_true (by kernel_rfl))).is 2 rfl
              have hmk := fun (x : Value) (W : World) => SlotG.mk (x := x) (w := W) 3 rfl hGN
              clear hGN ha hdep
              go_simp
              refine (HN.out _).mono ?_
              rintro e w2 ⟨rfl, hb2⟩
              exact ⟨_, rfl, hb2, hmk _ _ rfl⟩
            · intro a' w' hb ha hdep
              have d2 : a'.tmps.getD 2 undef = .int .i64 i := ha.at 2 (by kernel_rfl)
              have hmk := fun (x : Value) (W : World) => SlotG.mk (x := x) (w := W) 4 rfl hGN
              clear hGN ha hdep
              go_simp
              exact ⟨_, rfl, Below.refl _ _, hmk _ _ rfl⟩
            · intro a' w' hb ha hdep
              have D65 := (hdep 65 (of_decide_eq_true (by kernel_rfl))).get 1 rfl
              have d67 : a'.tmps.getD 67 undef = .agg #[.int .i64 a, .int .i64 l, .int .i64 m, .int .i64 n, .int .i64 ii, .int .i64 t, .int .i64 u, .int .i64 b, .bool c] := (hdep 67 (of_decide_eq_true (by kernel_rfl))).is 3 rfl
              have d68 : a'.tmps.getD 68 undef = .int .i64 i := (hdep 68 (of_decide_eq_true (by kernel_rfl))).is 4 rfl
              have hmk := fun (x : Value) (W : World) => SlotG.mk (x := x) (w := W) 5 rfl hGN
              clear hGN ha hdep
              obtain ⟨g, d65, rr⟩ := D65
              go_simp
              refine (HI.out g _ rr).mono ?_
              rintro e w2 ⟨⟨q, c, rfl, ho⟩, hb2⟩
              exact ⟨_, rfl, hb2, hmk _ _ ⟨q, c, rfl, ownsR_mono ho hb.size⟩⟩
            · intro a' w' hb ha hdep
              have hmk := fun (x : Value) (W : World) => SlotG.mk (x := x) (w := W) 6 rfl hGN
              clear hGN ha hdep
              go_simp
              exact ⟨_, rfl, ent_new0 _ _, hmk _ _ ⟨w'.heap.size, rfl, hb.size, Row.new w' 32 [.slice none 0 0, .int .i64 0]⟩⟩
          · intro a' w' hb ha hG
            clear hGN
            have D69 := (hG _ (List.mem_of_getElem? (i := 5) rfl) 69 rfl).get 5 rfl
            have D14 := (hG _ (List.mem_of_getElem? (i := 6) rfl) 14 rfl).get 6 rfl
            have d3 : a'.tmps.getD 3 undef = .pointer (some ⟨w.heap.size, 0, none⟩) := ha.at 3 (by kernel_rfl)
            have d2 : a'.tmps.getD 2 undef = .int .i64 i := ha.at 2 (by kernel_rfl)
            have d4 : a'.tmps.getD 4 undef = .pointer (some ⟨w.heap.size + 1, 0, none⟩) := ha.at 4 (by kernel_rfl)
            have d8 : a'.tmps.getD 8 undef = .pointer (some ⟨b8, 0, none⟩) := ha.at 8 (by kernel_rfl)
            have d10 : a'.tmps.getD 10 undef = .pointer (some ⟨b10, 0, none⟩) := ha.at 10 (by kernel_rfl)
            have d12 : a'.tmps.getD 12 undef = .int .i64 (((1 : Nat) : Int) + 9 * (M : Int)) := ha.at 12 (by kernel_rfl)
            have e2 : a' = ⟨#[a'.tmps.getD 0 undef, a'.tmps.getD 1 undef, a'.tmps.getD 2 undef, a'.tmps.getD 3 undef, a'.tmps.getD 4 undef, a'.tmps.getD 5 undef, a'.tmps.getD 6 undef, a'.tmps.getD 7 undef, a'.tmps.getD 8 undef, a'.tmps.getD 9 undef, a'.tmps.getD 10 undef, a'.tmps.getD 11 undef, a'.tmps.getD 12 undef, a'.tmps.getD 13 undef, a'.tmps.getD 14 undef, a'.tmps.getD 15 undef, a'.tmps.getD 16 undef, a'.tmps.getD 17 undef, a'.tmps.getD 18 undef, a'.tmps.getD 19 undef, a'.tmps.getD 20 undef, a'.tmps.getD 21 undef, a'.tmps.getD 22 undef, a'.tmps.getD 23 undef, a'.tmps.getD 24 undef, a'.tmps.getD 25 undef, a'.tmps.getD 26 undef, a'.tmps.getD 27 undef, a'.tmps.getD 28 undef, a'.tmps.getD 29 undef, a'.tmps.getD 30 undef, a'.tmps.getD 31 undef, a'.tmps.getD 32 undef, a'.tmps.getD 33 undef, a'.tmps.getD 34 undef, a'.tmps.getD 35 undef, a'.tmps.getD 36 undef, a'.tmps.getD 37 undef, a'.tmps.getD 38 undef, a'.tmps.getD 39 undef, a'.tmps.getD 40 undef, a'.tmps.getD 41 undef, a'.tmps.getD 42 undef, a'.tmps.getD 43 undef, a'.tmps.getD 44 undef, a'.tmps.getD 45 undef, a'.tmps.getD 46 undef, a'.tmps.getD 47 undef, a'.tmps.getD 48 undef, a'.tmps.getD 49 undef, a'.tmps.getD 50 undef, a'.tmps.getD 51 undef, a'.tmps.getD 52 undef, a'.tmps.getD 53 undef, a'.tmps.getD 54 undef, a'.tmps.getD 55 undef, a'.tmps.getD 56 undef, a'.tmps.getD 57 undef, a'.tmps.getD 58 undef, a'.tmps.getD 59 undef, a'.tmps.getD 60 undef, a'.tmps.getD 61 undef, a'.tmps.getD 62 undef, a'.tmps.getD 63 undef, a'.tmps.getD 64 undef, a'.tmps.getD 65 undef, a'.tmps.getD 66 undef, a'.tmps.getD 67 undef, a'.tmps.getD 68 undef, a'.tmps.getD 69 undef, a'.tmps.getD 70 undef, a'.tmps.getD 71 undef, a'.tmps.getD 72 undef, a'.tmps.getD 73 undef, a'.tmps.getD 74 undef, a'.tmps.getD 75 undef, a'.tmps.getD 76 undef, a'.tmps.getD 77 undef, a'.tmps.getD 78 undef, a'.tmps.getD 79 undef, a'.tmps.getD 80 undef, a'.tmps.getD 81 undef], []⟩ := by rw [← (show a'.defers = [] from ha.2.1)]; exact act_eq a' 82 ha.1
            rw [d3, d2, d4, d8, d10, d12] at e2
            clear hG ha d3 d2 d4 d8 d10 d12
            generalize a'.tmps.getD 0 undef = x0 at *
            generalize a'.tmps.getD 1 undef = x1 at *
            generalize a'.tmps.getD 5 undef = x5 at *
            generalize a'.tmps.getD 6 undef = x6 at *
            generalize a'.tmps.getD 7 undef = x7 at *
            generalize a'.tmps.getD 9 undef = x9 at *
            generalize a'.tmps.getD 11 undef = x11 at *
            generalize a'.tmps.getD 13 undef = x13 at *
            generalize a'.tmps.getD 14 undef = x14 at *
            generalize a'.tmps.getD 15 undef = x15 at *
            generalize a'.tmps.getD 16 undef = x16 at *
            generalize a'.tmps.getD 17 undef = x17 at *
            generalize a'.tmps.getD 18 undef = x18 at *
            generalize a'.tmps.getD 19 undef = x19 at *
            generalize a'.tmps.getD 20 undef = x20 at *
            generalize a'.tmps.getD 21 undef = x21 at *
            generalize a'.tmps.getD 22 undef = x22 at *
            generalize a'.tmps.getD 23 undef = x23 at *
            generalize a'.tmps.getD 24 undef = x24 at *
            generalize a'.tmps.getD 25 undef = x25 at *
            generalize a'.tmps.getD 26 undef = x26 at *
            generalize a'.tmps.getD 27 undef = x27 at *
            generalize a'.tmps.getD 28 undef = x28 at *
            generalize a'.tmps.getD 29 undef = x29 at *
            generalize a'.tmps.getD 30 undef = x30 at *
            generalize a'.tmps.getD 31 undef = x31 at *
            generalize a'.tmps.getD 32 undef = x32 at *
            generalize a'.tmps.getD 33 undef = x33 at *
            generalize a'.tmps.getD 34 undef = x34 at *
            generalize a'.tmps.getD 35 undef = x35 at *
            generalize a'.tmps.getD 36 undef = x36 at *
            generalize a'.tmps.getD 37 undef = x37 at *
            generalize a'.tmps.getD 38 undef = x38 at *
            generalize a'.tmps.getD 39 undef = x39 at *
            generalize a'.tmps.getD 40 undef = x40 at *
            generalize a'.tmps.getD 41 undef = x41 at *
            generalize a'.tmps.getD 42 undef = x42 at *
            generalize a'.tmps.getD 43 undef = x43 at *
            generalize a'.tmps.getD 44 undef = x44 at *
            generalize a'.tmps.getD 45 undef = x45 at *
            generalize a'.tmps.getD 46 undef = x46 at *
            generalize a'.tmps.getD 47 undef = x47 at *
            generalize a'.tmps.getD 48 undef = x48 at *
            generalize a'.tmps.getD 49 undef = x49 at *
            generalize a'.tmps.getD 50 undef = x50 at *
            generalize a'.tmps.getD 51 undef = x51 at *
            generalize a'.tmps.getD 52 undef = x52 at *
            generalize a'.tmps.getD 53 undef = x53 at *
            generalize a'.tmps.getD 54 undef = x54 at *
            generalize a'.tmps.getD 55 undef = x55 at *
            generalize a'.tmps.getD 56 undef = x56 at *
            generalize a'.tmps.getD 57 undef = x57 at *
            generalize a'.tmps.getD 58 undef = x58 at *
            generalize a'.tmps.getD 59 undef = x59 at *
            generalize a'.tmps.getD 60 undef = x60 at *
            generalize a'.tmps.getD 61 undef = x61 at *
            generalize a'.tmps.getD 62 undef = x62 at *
            generalize a'.tmps.getD 63 undef = x63 at *
            generalize a'.tmps.getD 64 undef = x64 at *
            generalize a'.tmps.getD 65 undef = x65 at *
            generalize a'.tmps.getD 66 undef = x66 at *
            generalize a'.tmps.getD 67 undef = x67 at *
            generalize a'.tmps.getD 68 undef = x68 at *
            generalize a'.tmps.getD 69 undef = x69 at *
            generalize a'.tmps.getD 70 undef = x70 at *
            generalize a'.tmps.getD 71 undef = x71 at *
            generalize a'.tmps.getD 72 undef = x72 at *
            generalize a'.tmps.getD 73 undef = x73 at *
            generalize a'.tmps.getD 74 undef = x74 at *
            generalize a'.tmps.getD 75 undef = x75 at *
            generalize a'.tmps.getD 76 undef = x76 at *
            generalize a'.tmps.getD 77 undef = x77 at *
            generalize a'.tmps.getD 78 undef = x78 at *
            generalize a'.tmps.getD 79 undef = x79 at *
            generalize a'.tmps.getD 80 undef = x80 at *
            generalize a'.tmps.getD 81 undef = x81 at *
            subst e2
            simp only [List.drop_succ_cons, List.drop_zero]
            obtain ⟨b14, rfl, hb14, rz⟩ := D14
            obtain ⟨q2, c2, rfl, o2⟩ := D69
            have hb0s := hB.size
            have L8 := r8.lt
            have L10 := r10.lt
            have r8 := r8.below hb r8.lt
            have r10 := r10.below hb r10.lt
            have o0 := ownsR_below o0 hb
            have o1 := ownsR_below o1 hb
            have hB := hB.trans (hb.mono hB.size)
            clear hb r0 r1
            have k8 : b8 ≠ b14 := by omega
            have k10 : b10 ≠ b14 := by omega
            have m8 : ¬ b14 = b8 := by omega
            have m8' : ¬ b8 = b14 := by omega
            have t0 : w'.cell? ⟨b8, 0, none⟩ = some (.slice q0 M c0) := r8.cell 0
            have t1 : w'.cell? ⟨b8, 1, none⟩ = some (.int .i64 cc) := r8.cell 1
            have f0 : w'.frozen? ⟨b14, 0, none⟩ = false := rz.frozen 0
            have f1 : w'.frozen? ⟨b14, 1, none⟩ = false := rz.frozen 1
            have z0 : w'.cell? ⟨b14, 0, none⟩ = some (.slice none 0 0) := rz.cell 0
            have z1 : w'.cell? ⟨b14, 1, none⟩ = some (.int .i64 0) := rz.cell 1
            have HH : Hid _ := And.intro ((rz.set 0 (.slice q2 M c2)).set 1 (.int .i64 cc) : Row ((w'.setCell ⟨b14, 0, none⟩ (.slice q2 M c2)).setCell ⟨b14, 1, none⟩ (.int .i64 cc)) b14 32 [.slice q2 M c2, .int .i64 cc]) (And.intro ((r8.other 0 (.slice q2 M c2) k8).other 1 (.int .i64 cc) k8) (And.intro ((r10.other 0 (.slice q2 M c2) k10).other 1 (.int .i64 cc) k10) (And.intro (ownsR_kept HM.out (ownsR_kept HM.out o0 (fun _ _ _ e hr => hr.other 0 (.slice q2 M c2) (fun h => ownsR_ne o0 rz (by decide) (by rw [e, h])))) (fun _ _ _ e hr => hr.other 1 (.int .i64 cc) (fun h => ownsR_ne o0 rz (by decide) (by rw [e, h])))) (And.intro (ownsR_kept (marksR_length 1 M).symm (ownsR_kept (marksR_length 1 M).symm o1 (fun _ _ _ e hr => hr.other 0 (.slice q2 M c2) (fun h => ownsR_ne o1 rz (by decide) (by rw [e, h])))) (fun _ _ _ e hr => hr.other 1 (.int .i64 cc) (fun h => ownsR_ne o1 rz (by decide) (by rw [e, h])))) (And.intro (ownsR_kept HM.out (ownsR_kept HM.out o2 (fun _ _ _ e hr => hr.other 0 (.slice q2 M c2) (fun h => ownsR_ne o2 rz (by decide) (by rw [e, h])))) (fun _ _ _ e hr => hr.other 1 (.int .i64 cc) (fun h => ownsR_ne o2 rz (by decide) (by rw [e, h])))) (((hB.setCell (p := ⟨b14, 0, none⟩) (by show w.heap.size ≤ b14; omega) (.slice q2 M c2)).setCell (p := ⟨b14, 1, none⟩) (by show w.heap.size ≤ b14; omega) (.int .i64 cc))))))))
            clear r8 r10 o0 o1 o2 hB rz k8 k10 HI HT HN
            go_wp2_with fail
            generalize (w'.setCell ⟨b14, 0, none⟩ (.slice q2 M c2)).setCell ⟨b14, 1, none⟩ (.int .i64 cc) = Z14 at *
            obtain ⟨r14, r8, r10, o0, o1, o2, hB⟩ := HH.out
            clear HH f0 f1 z0 z1 t0 t1 m8 m8'
            refine (eqRibOut_any cc q2 q0 M c2 c0 qs Z14 HM.out (by have := HL.out; omega) (ownsR_in HM.out o2) (ownsR_in HM.out o0)).mono ?_
            rintro e w15 ⟨rfl, hbe⟩
            have r10 := r10.below hbe r10.lt
            have o1 := ownsR_below o1 hbe
            have hB := hB.trans (hbe.mono hB.size)
            clear hbe
            have s0 : w15.cell? ⟨b10, 0, none⟩ = some (.slice q1 M c1) := r10.cell 0
            have s1 : w15.cell? ⟨b10, 1, none⟩ = some (.int .i64 cc) := r10.cell 1
            go_wp2_with fail
            refine (heldRibOut_any 1 cc q1 M c1 w15 (by omega) (by have := HL.out; omega) (ownsR_in (marksR_length 1 M).symm o1)).mono ?_
            rintro e w16 ⟨rfl, hb16⟩
            have hB := hB.trans (hb16.mono hB.size)
            clear hb16 s0 s1
            go_wp2
            go_ret
            exact ⟨rfl, hB⟩
  · rw [if_neg hn] at HZ
    obtain ⟨a, l, m, n, ii, t, u, b, c⟩ := r
    unfold rtV rtA
    simp only
    unfold ribV at *
    go_enter Try.func4, Try.ntmps4
    go_wp2_with fail
    refine (HZ.out _).mono ?_
    rintro e w1 ⟨rfl, hb1⟩
    obtain ⟨r0, r1, hB⟩ := two_boxes w [.slice x rs.length cap] [.int .i64 a, .int .i64 l, .int .i64 m, .int .i64 n, .int .i64 ii, .int .i64 t, .int .i64 u, .int .i64 b, .bool c] 24 43 hb1
    clear hb1
    go_wp2
    go_ret
    exact ⟨rfl, hB⟩
end Go.Proofs.Ytaledidomgelcaa
