/- The walk of the law on Near. (Written by gen_near2.py.) -/
import Derived.Test.YtflmbkjnlgibnaaNearS
import Derived.Test.YtflmbkjnlgibnaaStabInst
namespace Go.Proofs.Ytflmbkjnlgibnaa
open Go.RowKit Go.Sort

set_option maxRecDepth 100000 in
set_option maxHeartbeats 4000000 in
theorem fnExactNear_walk (x : Option Addr) (n1 c1 : Nat) (is : List If) (y : Option Addr) (n2 c2 : Nat) (rs : List Rt) (now i fr : Int) (w : World) (h1 : ArgI w x n1 is) (h2 : ArgR w y n2 rs) (_hw : (Lit.int .i64 now).wf = true) (_hi : (Lit.int .i64 i).wf = true) (_hf : (Lit.int .i64 fr).wf = true) :
    Calls Try.prog 5 #[instV x n1 c1 y n2 c2 now, .int .i64 i, .int .i64 fr] w fun r w' => r = .returned (.bool true) ∧ Below w.heap.size w w' := by
  obtain rfl : is.length = n1 := h1.1
  obtain rfl : rs.length = n2 := h2.1
  have HZ : Hid (∀ w, Calls Try.prog 9 #[instV x is.length c1 y rs.length c2 now, .int .i64 1048576] w fun e w' => (∃ v : Int, e = .returned (.int .i64 v) ∧ (v < 0 ∨ 0 ≤ v ∧ is.length ≤ 1048576 ∧ rs.length ≤ 1048576)) ∧ Below w.heap.size w w') := fun w => szInst_any x is.length c1 y rs.length c2 now w h1.2.1 h2.2.1
  have HT0 : Hid (is.length ≤ 1048576 → rs.length ≤ 1048576 → ∀ w, ArgI w x is.length is → ArgR w y rs.length rs → Calls Try.prog 11 #[instV x is.length c1 y rs.length c2 now] w fun e w' => ∃ g h, e = .returned (instV (some ⟨g, 0, none⟩) is.length is.length (some ⟨h, 0, none⟩) rs.length rs.length now) ∧ Row w' g 82 (rowI is) ∧ Row w' h 101 (rowR rs) ∧ Below w.heap.size w w') := fun a b w p q => toInst_any x c1 y c2 is rs now w p q a b
  have HS0 : Hid (is.length ≤ 1048576 → rs.length ≤ 1048576 → ∀ g h w, Row w g 82 (rowI is) → Row w h 101 (rowR rs) → Calls Try.prog 23 #[instV (some ⟨g, 0, none⟩) is.length is.length (some ⟨h, 0, none⟩) rs.length rs.length now, .int .i64 i, .int .i64 fr] w fun e w' => e = .returned (.bool (nearB is rs now i fr)) ∧ Below w.heap.size w w') := fun a b g h w p q => specNear_any _ _ _ _ is rs now i fr w (ifsIn_row p) (Nat.le_refl _) (rtsIn_row q) (by omega) (by omega)
  have HI0 : Hid (is.length ≤ 1048576 → rs.length ≤ 1048576 → ∀ g h w, Row w g 82 (rowI is) → Row w h 101 (rowR rs) → Calls Try.prog 24 #[instV (some ⟨g, 0, none⟩) is.length is.length (some ⟨h, 0, none⟩) rs.length rs.length now, .int .i64 i, .int .i64 fr] w fun e w' => e = .returned (.bool (nearB is rs now i fr)) ∧ Below w.heap.size w w') := fun a b g h w p q => implNear_any _ _ _ _ is rs now i fr w (ifsIn_row p) (Nat.le_refl _) (fun e => by cases e) (rtsIn_row q) (fun e => by cases e) (by omega) (by omega)
  have HE0 : Hid (is.length ≤ 1048576 → rs.length ≤ 1048576 → ∀ p q r s w, IfsIn w p is → IfsIn w q is → RtsIn w r rs → RtsIn w s rs → Calls Try.prog 13 #[instV p is.length is.length r rs.length rs.length now, instV q is.length is.length s rs.length rs.length now] w fun e w' => e = .returned (.bool true) ∧ Below w.heap.size w w') := fun a b p q r s w k1 k2 k3 k4 => eqInst_any p q _ _ r s _ _ is rs now w k1 k2 k3 k4 (by omega) (by omega)
  have HX : Hid (ArgI w x is.length is ∧ ArgR w y rs.length rs) := ⟨h1, h2⟩
  clear h1 h2
  generalize nearB is rs now i fr = R at *
  unfold instV at *
  generalize is.length = n1 at *
  generalize rs.length = n2 at *
  go_enter Try.func5, Try.ntmps5
  go_wp2_with fail
  refine (HZ.out _).mono ?_
  rintro e w1 ⟨⟨v, rfl, hv⟩, hb1⟩
  obtain ⟨k0, hB⟩ := box3i hb1
  clear hb1 HZ
  rcases hv with hv | ⟨hv, hn1, hn2⟩
  · have d : decide (v < 0) = true := by simpa using hv
    clear hv
    go_wp2
    go_ret
    exact ⟨rfl, hB⟩
  · have d : decide (v < 0) = false := by simp; omega
    have HT : Hid _ := HT0.out hn1 hn2
    have HS : Hid _ := HS0.out hn1 hn2
    have HI : Hid _ := HI0.out hn1 hn2
    have HE : Hid _ := HE0.out hn1 hn2
    clear HT0 HS0 HI0 HE0 hv
    have y0 : w1.cell? ⟨w.heap.size, 0, none⟩ = some (.slice x n1 c1) := k0.cell 0
    have y1 : w1.cell? ⟨w.heap.size, 1, none⟩ = some (.slice y n2 c2) := k0.cell 1
    have y2 : w1.cell? ⟨w.heap.size, 2, none⟩ = some (.int .i64 now) := k0.cell 2
    go_wp2_with fail
    refine (HT.out _ (HX.out.1.below hB) (HX.out.2.below hB)).mono ?_
    rintro e w2 ⟨g, h, rfl, rg, rh, hb2⟩
    have k0 := k0.below hb2 k0.lt
    have hB := hB.trans (hb2.mono hB.size)
    clear hb2 y0 y1 y2
    go_wp2_with fail
    refine (HS.out g h _ rg rh).mono ?_
    rintro e w3 ⟨rfl, hb3⟩
    have k0 := k0.below hb3 k0.lt
    have hB := hB.trans (hb3.mono hB.size)
    clear hb3 HS rg rh
    have y0 : w3.cell? ⟨w.heap.size, 0, none⟩ = some (.slice x n1 c1) := k0.cell 0
    have y1 : w3.cell? ⟨w.heap.size, 1, none⟩ = some (.slice y n2 c2) := k0.cell 1
    have y2 : w3.cell? ⟨w.heap.size, 2, none⟩ = some (.int .i64 now) := k0.cell 2
    go_wp2_with fail
    refine (HT.out _ (HX.out.1.below hB) (HX.out.2.below hB)).mono ?_
    rintro e w4 ⟨g5, h5, rfl, kg, kh, hb4⟩
    have k0 := (k0.below hb4 k0.lt).alloc (.cells #[.slice (some ⟨g5, 0, none⟩) n1 n1, .slice (some ⟨h5, 0, none⟩) n2 n2, .int .i64 now] 35)
    have kg := kg.alloc (.cells #[.slice (some ⟨g5, 0, none⟩) n1 n1, .slice (some ⟨h5, 0, none⟩) n2 n2, .int .i64 now] 35)
    have kh := kh.alloc (.cells #[.slice (some ⟨g5, 0, none⟩) n1 n1, .slice (some ⟨h5, 0, none⟩) n2 n2, .int .i64 now] 35)
    have k5 := Row.new w4 35 [.slice (some ⟨g5, 0, none⟩) n1 n1, .slice (some ⟨h5, 0, none⟩) n2 n2, .int .i64 now]
    have hB := (hB.trans (hb4.mono hB.size)).alloc (by have := hb4.size; have := hB.size; omega) (.cells #[.slice (some ⟨g5, 0, none⟩) n1 n1, .slice (some ⟨h5, 0, none⟩) n2 n2, .int .i64 now] 35)
    have HA : Hid _ := And.intro k0 (And.intro kg (And.intro kh (And.intro k5 hB)))
    clear k0 kg kh k5 hB hb4 y0 y1 y2
    go_wp2_with fail
    generalize hb5 : w4.heap.size = b5 at *
    generalize w4.alloc (.cells #[.slice (some ⟨g5, 0, none⟩) n1 n1, .slice (some ⟨h5, 0, none⟩) n2 n2, .int .i64 now] 35) = W5 at *
    clear hb5
    obtain ⟨k0, kg, kh, k5, hB⟩ := HA.out
    clear HA
    refine (HI.out g5 h5 _ kg kh).mono ?_
    rintro e w6 ⟨rfl, hb6⟩
    have k0 := k0.below hb6 k0.lt
    have kg := kg.below hb6 kg.lt
    have kh := kh.below hb6 kh.lt
    have k5 := k5.below hb6 k5.lt
    have hB := hB.trans (hb6.mono hB.size)
    clear hb6 HI
    have dR : (R != R) = false := by simp
    go_wp2_with fail
    have hGN : (([(30, Is (.agg #[.slice (some ⟨g5, 0, none⟩) n1 n1, .slice (some ⟨h5, 0, none⟩) n2 n2, .int .i64 now])), (31, Is (.agg #[.slice x n1 c1, .slice y n2 c2, .int .i64 now])), (32, fun v W => ∃ g h, v = .agg #[.slice (some ⟨g, 0, none⟩) n1 n1, .slice (some ⟨h, 0, none⟩) n2 n2, .int .i64 now] ∧ Row W g 82 (rowI is) ∧ Row W h 101 (rowR rs)), (33, Is (.bool true)), (34, Is (.bool false))] : List (Nat × (Value → World → Prop))).map (·.1)).Nodup := by simp
    refine wp_region_steady 5 (SlotG [(30, Is (.agg #[.slice (some ⟨g5, 0, none⟩) n1 n1, .slice (some ⟨h5, 0, none⟩) n2 n2, .int .i64 now])), (31, Is (.agg #[.slice x n1 c1, .slice y n2 c2, .int .i64 now])), (32, fun v W => ∃ g h, v = .agg #[.slice (some ⟨g, 0, none⟩) n1 n1, .slice (some ⟨h, 0, none⟩) n2 n2, .int .i64 now] ∧ Row W g 82 (rowI is) ∧ Row W h 101 (rowR rs)), (33, Is (.bool true)), (34, Is (.bool false))]) (by kernel_rfl) (by kernel_rfl) (Stabs.all ⟨stab_is _, stab_is _, stab_inst n1 n2 now is rs, stab_is _, stab_is _, trivial⟩) ?_ ?_
    · intro o ho
      simp only [List.take_succ_cons, List.take_zero, List.mem_cons, List.not_mem_nil, or_false] at ho
      rcases ho with rfl | rfl | rfl | rfl | rfl
      · intro a' w' hb ha hdep
        have d9 : a'.tmps.getD 9 undef = .pointer (some ⟨b5, 0, none⟩) := ha.at 9 (by kernel_rfl)
        have hmk := fun (x : Value) (W : World) => SlotG.mk (x := x) (w := W) 0 rfl hGN
        clear hGN ha hdep
        have y0 : w'.cell? ⟨b5, 0, none⟩ = some (.slice (some ⟨g5, 0, none⟩) n1 n1) := (k5.below hb k5.lt).cell 0
        have y1 : w'.cell? ⟨b5, 1, none⟩ = some (.slice (some ⟨h5, 0, none⟩) n2 n2) := (k5.below hb k5.lt).cell 1
        have y2 : w'.cell? ⟨b5, 2, none⟩ = some (.int .i64 now) := (k5.below hb k5.lt).cell 2
        go_simp
        exact ⟨_, rfl, Below.refl _ _, hmk _ _ rfl⟩
      · intro a' w' hb ha hdep
        have d3 : a'.tmps.getD 3 undef = .pointer (some ⟨w.heap.size, 0, none⟩) := ha.at 3 (by kernel_rfl)
        have hmk := fun (x : Value) (W : World) => SlotG.mk (x := x) (w := W) 1 rfl hGN
        clear hGN ha hdep
        have y0 : w'.cell? ⟨w.heap.size, 0, none⟩ = some (.slice x n1 c1) := (k0.below hb k0.lt).cell 0
        have y1 : w'.cell? ⟨w.heap.size, 1, none⟩ = some (.slice y n2 c2) := (k0.below hb k0.lt).cell 1
        have y2 : w'.cell? ⟨w.heap.size, 2, none⟩ = some (.int .i64 now) := (k0.below hb k0.lt).cell 2
        go_simp
        exact ⟨_, rfl, Below.refl _ _, hmk _ _ rfl⟩
      · intro a' w' hb ha hdep
        have d31 : a'.tmps.getD 31 undef = .agg #[.slice x n1 c1, .slice y n2 c2, .int .i64 now] := (hdep 31 (of_decide_eq_true (by kernel_rfl))).is 1 rfl
        have hmk := fun (x : Value) (W : World) => SlotG.mk (x := x) (w := W) 2 rfl hGN
        clear hGN ha hdep
        go_simp
        refine (HT.out _ (HX.out.1.below (hB.trans (hb.mono hB.size))) (HX.out.2.below (hB.trans (hb.mono hB.size)))).mono ?_
        rintro e w2 ⟨g, h, rfl, r7, r8, hb2⟩
        exact ⟨_, rfl, hb2, hmk _ _ ⟨g, h, rfl, r7, r8⟩⟩
      · intro a' w' hb ha hdep
        have d30 : a'.tmps.getD 30 undef = .agg #[.slice (some ⟨g5, 0, none⟩) n1 n1, .slice (some ⟨h5, 0, none⟩) n2 n2, .int .i64 now] := (hdep 30 (of_decide_eq_true (by kernel_rfl))).is 0 rfl
        have D32 := (hdep 32 (of_decide_eq_true (by kernel_rfl))).get 2 rfl
        have hmk := fun (x : Value) (W : World) => SlotG.mk (x := x) (w := W) 3 rfl hGN
        clear hGN ha hdep
        obtain ⟨g, h, d32, r7, r8⟩ := D32
        go_simp
        refine (HE.out _ _ _ _ _ (ifsIn_row (kg.below hb kg.lt)) (ifsIn_row r7) (rtsIn_row (kh.below hb kh.lt)) (rtsIn_row r8)).mono ?_
        rintro e w2 ⟨rfl, hb2⟩
        exact ⟨_, rfl, hb2, hmk _ _ rfl⟩
      · intro a' w' hb ha hdep
        have d33 : a'.tmps.getD 33 undef = .bool true := (hdep 33 (of_decide_eq_true (by kernel_rfl))).is 3 rfl
        have hmk := fun (x : Value) (W : World) => SlotG.mk (x := x) (w := W) 4 rfl hGN
        clear hGN ha hdep
        go_simp
        exact ⟨_, rfl, Below.refl _ _, hmk _ _ rfl⟩
    · intro a' w' hb ha hG
      clear hGN
      have d34 : a'.tmps.getD 34 undef = .bool false := (hG _ (List.mem_of_getElem? (i := 4) rfl) 34 rfl).is 4 rfl
      have e2 : a' = ⟨#[a'.tmps.getD 0 undef, a'.tmps.getD 1 undef, a'.tmps.getD 2 undef, a'.tmps.getD 3 undef, a'.tmps.getD 4 undef, a'.tmps.getD 5 undef, a'.tmps.getD 6 undef, a'.tmps.getD 7 undef, a'.tmps.getD 8 undef, a'.tmps.getD 9 undef, a'.tmps.getD 10 undef, a'.tmps.getD 11 undef, a'.tmps.getD 12 undef, a'.tmps.getD 13 undef, a'.tmps.getD 14 undef, a'.tmps.getD 15 undef, a'.tmps.getD 16 undef, a'.tmps.getD 17 undef, a'.tmps.getD 18 undef, a'.tmps.getD 19 undef, a'.tmps.getD 20 undef, a'.tmps.getD 21 undef, a'.tmps.getD 22 undef, a'.tmps.getD 23 undef, a'.tmps.getD 24 undef, a'.tmps.getD 25 undef, a'.tmps.getD 26 undef, a'.tmps.getD 27 undef, a'.tmps.getD 28 undef, a'.tmps.getD 29 undef, a'.tmps.getD 30 undef, a'.tmps.getD 31 undef, a'.tmps.getD 32 undef, a'.tmps.getD 33 undef, a'.tmps.getD 34 undef], []⟩ := by rw [← (show a'.defers = [] from ha.2.1)]; exact act_eq a' 35 ha.1
      rw [d34] at e2
      clear hG ha d34
      generalize a'.tmps.getD 0 undef = x0 at *
      generalize a'.tmps.getD 1 undef = x1 at *
      generalize a'.tmps.getD 2 undef = x2 at *
      generalize a'.tmps.getD 3 undef = x3 at *
      generalize a'.tmps.getD 4 undef = x4 at *
      generalize a'.tmps.getD 5 undef = x5 at *
      generalize a'.tmps.getD 6 undef = x6 at *
      generalize a'.tmps.getD 7 undef = x7 at *
      generalize a'.tmps.getD 8 undef = x8 at *
      generalize a'.tmps.getD 9 undef = x9 at *
      generalize a'.tmps.getD 10 undef = x10 at *
      generalize a'.tmps.getD 11 undef = x11 at *
      generalize a'.tmps.getD 12 undef = x12 at *
      generalize a'.tmps.getD 13 undef = x13 at *
      generalize a'.tmps.getD 14 undef = x14 at *
      generalize a'.tmps.getD 15 undef = x15 at *
      generalize a'.tmps.getD 16 undef = x16 at *
      generalize a'.tmps.getD 17 undef = x17 at *
      generalize a'.tmps.getD 18 undef = x18 at *
      generalize a'.tmps.getD 19 undef = x19 at *
      generalize a'.tmps.getD 20 undef = x20 at *
      generalize a'.tmps.getD 21 undef = x21 at *
      generalize a'.tmps.getD 22 undef = x22 at *
      generalize a'.tmps.getD 23 undef = x23 at *
      generalize a'.tmps.getD 24 undef = x24 at *
      generalize a'.tmps.getD 25 undef = x25 at *
      generalize a'.tmps.getD 26 undef = x26 at *
      generalize a'.tmps.getD 27 undef = x27 at *
      generalize a'.tmps.getD 28 undef = x28 at *
      generalize a'.tmps.getD 29 undef = x29 at *
      generalize a'.tmps.getD 30 undef = x30 at *
      generalize a'.tmps.getD 31 undef = x31 at *
      generalize a'.tmps.getD 32 undef = x32 at *
      generalize a'.tmps.getD 33 undef = x33 at *
      subst e2
      simp only [List.drop_succ_cons, List.drop_zero]
      have hB10 := hB.trans (hb.mono hB.size)
      clear hb
      go_wp2
      go_ret
      exact ⟨rfl, hB10⟩
end Go.Proofs.Ytflmbkjnlgibnaa
