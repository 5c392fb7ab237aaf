/- Texts that stand on each other, in one file: MetI, MetS. -/
import Derived.Test.YtfmaeicodljgkaaPack18
import Derived.Test.YtfmaeicodljgkaaPack15
/- MetricTo of the program. (Written by gen_metric.py.) -/
namespace Go.Proofs.Ytfmaeicodljgkaa
open Go.RowKit Go.Sort

set_option maxRecDepth 100000 in
set_option maxHeartbeats 4000000 in
theorem implMetric_any (p : Option Addr) (c1 : Nat) (ps : List IvP) (q : Option Addr) (c2 : Nat) (ls : List Li) (r a l : Int) (w : World) (h : IvsIn w p ps) (hL : LisAt w q ls) (hn : ps.length ≤ 100000000) (hl : ls.length ≤ 100000000) (hm : ∀ e ∈ ps, IvM e.1 e.2) :
    Calls Try.prog 19 #[.agg #[.slice p ps.length c1, .slice q ls.length c2], .int .i64 r, .agg #[.int .i64 a, .int .i64 l]] w fun e w' => e = .returned (.int .i64 (metO (ps.map (·.2)) ls r a l)) ∧ Below w.heap.size w w' := by
  have HX : Hid (IvsIn w p ps ∧ LisAt w q ls) := ⟨h, hL⟩
  have HMM : Hid (∀ e ∈ ps, IvM e.1 e.2) := hm
  have HMR : Hid (∀ w, IvsIn w p ps → LisAt w q ls → Calls Try.prog 15 #[.agg #[.slice p ps.length c1, .slice q ls.length c2]] w fun e w' => e = .returned (.bool (meshB (ps.map (·.2)) ls)) ∧ Below w.heap.size w w') := fun w a b => implMesh_any p c1 ps q c2 ls w a b hn hl hm
  have HRE : Hid (metO (ps.map (·.2)) ls r a l = if (meshB (ps.map (·.2)) ls && hasR ps.length r) = true then orK (findR ((ps.map (fun x : IvP => x.2))[r.toNat]!).rs a l).m 16 else 0) := by show _ = _; unfold metO; rw [List.length_map]
  generalize metO (ps.map (·.2)) ls r a l = RES at *
  generalize meshB (ps.map (·.2)) ls = MB at *
  clear h hL hm
  have q0 := (Row.new w 48 [.slice p ps.length c1, .slice q ls.length c2]).alloc (.cells #[.int .i64 a, .int .i64 l] 55)
  have q1 := Row.new (w.alloc (.cells #[.slice p ps.length c1, .slice q ls.length c2] 48)) 55 [.int .i64 a, .int .i64 l]
  rw [show (w.alloc (.cells #[.slice p ps.length c1, .slice q ls.length c2] 48)).heap.size = w.heap.size + 1 by simp] at q1
  have hB : Below w.heap.size w ((w.alloc (.cells #[.slice p ps.length c1, .slice q ls.length c2] 48)).alloc (.cells #[.int .i64 a, .int .i64 l] 55)) := (ent_new0 w _).alloc (by simp) _
  have HQ : Hid _ := And.intro q0 (And.intro q1 hB)
  clear q0 q1 hB
  have HHR : Hid (∀ w, Calls Try.prog 44 #[.agg #[.slice p ps.length c1, .slice q ls.length c2], .int .i64 r] w fun e w' => e = .returned (.bool (hasR ps.length r)) ∧ Below w.heap.size w w') := fun w => hasRouter_any p ps.length c1 q ls.length c2 r w hn
  go_enter Try.func19, Try.ntmps19
  go_wp2_with fail
  obtain ⟨q0, q1, hB⟩ := HQ.out
  refine (HMR.out _ (HX.out.1.below hB) (HX.out.2.below hB)).mono ?_
  rintro e w1 ⟨rfl, hb1⟩
  have q0 := q0.below hb1 q0.lt
  have q1 := q1.below hb1 q1.lt
  have hB := hB.trans (hb1.mono hB.size)
  clear hb1
  have hR := HRE.out
  clear HMR HQ HRE
  cases MB
  · rw [Bool.false_and, if_neg Bool.false_ne_true] at hR
    go_wp2
    go_ret
    exact ⟨by first | rfl | (rw [hR]; rfl), hB⟩
  rw [Bool.true_and] at hR
  have s0 : w1.cell? ⟨w.heap.size, 0, none⟩ = some (.slice p ps.length c1) := q0.cell 0
  have s1 : w1.cell? ⟨w.heap.size, 1, none⟩ = some (.slice q ls.length c2) := q0.cell 1
  go_wp2_with fail
  clear s0 s1
  refine (HHR.out _).mono ?_
  rintro e w2 ⟨rfl, hb2⟩
  have q0 := q0.below hb2 q0.lt
  have q1 := q1.below hb2 q1.lt
  have hB := hB.trans (hb2.mono hB.size)
  clear hb2
  clear HHR
  cases hh : hasR ps.length r
  · rw [hh, if_neg Bool.false_ne_true] at hR
    clear hh
    go_wp2
    go_ret
    exact ⟨by first | rfl | (rw [hR]; rfl), hB⟩
  rw [hh, if_pos rfl] at hR
  unfold hasR at hh
  simp only [Bool.and_eq_true, decide_eq_true_eq] at hh
  obtain ⟨m, rfl⟩ : ∃ m : Nat, r = (m : Int) := ⟨r.toNat, by omega⟩
  have hm : m < ps.length := by omega
  have dm : decide ((m : Int) < (ps.length : Int)) = true := by simpa using hm
  have HG : Hid _ := And.intro q0 (And.intro q1 hB)
  clear q0 q1 hB
  obtain ⟨g, u, t, rfl, hg, hek, hI, y0, y1, y2⟩ := (HX.out.1.below HG.out.2.2).at m hm
  obtain ⟨q0, q1, hB⟩ := HG.out
  clear HG
  have hM := HMM.out _ (List.getElem_mem hm)
  rw [hek] at hM
  rw [Int.toNat_natCast, iv_at hm hek] at hR
  have HF : Hid (∀ w', Below w2.heap.size w2 w' → Calls Try.prog 46 #[.agg #[.slice u.y t.rs.length u.c2], .agg #[.int .i64 a, .int .i64 l]] w' fun e w'' => e = .returned (rtV (findR t.rs a l)) ∧ Below w'.heap.size w' w'') := fun w' hb => implFind_any _ _ _ _ _ w' (hI.2.below hb) hM.2.1
  clear hh hek hI hM HMM HX
  generalize findR t.rs a l = F at *
  obtain ⟨A, L, M, O, I, U, V, E, C⟩ := F
  unfold rtV rtA at HF
  simp only at HF hR
  have HFD : ∀ w, (Instr.field 81 (.agg #[.int .i64 A, .int .i64 L, .int .i64 M, .int .i64 O, .int .i64 I, .int .i64 U, .int .i64 V, .int .i64 E, .bool C]) 1).run Try.prog w = .ok (.int .i64 M) w := fun w => fieldMet_run A L M O I U V E C w
  generalize u.y = uy at *
  generalize u.x = ux at *
  generalize u.c1 = uc1 at *
  generalize u.c2 = uc2 at *
  generalize t.is.length = tn1 at *
  generalize t.rs.length = tn2 at *
  generalize t.now = tw at *
  go_wp2_with fail
  have hGN : (([(16, Is (.pointer (some ⟨w.heap.size, 0, none⟩))), (17, Is (.slice (some ⟨g, 0, none⟩) ps.length c1)), (18, Is (.int .i64 (m : Int))), (19, Is (.pointer (some ⟨g, m * 3, none⟩))), (20, Is (.pointer (some ⟨g, m * 3 + 1, none⟩))), (21, Is (.agg #[.slice uy tn2 uc2])), (22, Is (.agg #[.int .i64 a, .int .i64 l])), (23, Is (.agg #[.int .i64 A, .int .i64 L, .int .i64 M, .int .i64 O, .int .i64 I, .int .i64 U, .int .i64 V, .int .i64 E, .bool C])), (24, Is (.int .i64 M)), (25, fun v W => ∃ g, v = .slice (some ⟨g, 0, none⟩) 2 2 ∧ Row W g 2 [.int .i64 M, .int .i64 16]), (26, Is (.int .i64 (orK M 16)))] : List (Nat × (Value → World → Prop))).map (·.1)).Nodup := by simp
  refine wp_region_steady 11 (SlotG [(16, Is (.pointer (some ⟨w.heap.size, 0, none⟩))), (17, Is (.slice (some ⟨g, 0, none⟩) ps.length c1)), (18, Is (.int .i64 (m : Int))), (19, Is (.pointer (some ⟨g, m * 3, none⟩))), (20, Is (.pointer (some ⟨g, m * 3 + 1, none⟩))), (21, Is (.agg #[.slice uy tn2 uc2])), (22, Is (.agg #[.int .i64 a, .int .i64 l])), (23, Is (.agg #[.int .i64 A, .int .i64 L, .int .i64 M, .int .i64 O, .int .i64 I, .int .i64 U, .int .i64 V, .int .i64 E, .bool C])), (24, Is (.int .i64 M)), (25, fun v W => ∃ g, v = .slice (some ⟨g, 0, none⟩) 2 2 ∧ Row W g 2 [.int .i64 M, .int .i64 16]), (26, Is (.int .i64 (orK M 16)))]) (by kernel_rfl) (by kernel_rfl) (Stabs.all ⟨stab_is _, stab_is _, stab_is _, stab_is _, stab_is _, stab_is _, stab_is _, stab_is _, stab_is _, stab_twoK M 16, stab_is _, trivial⟩) ?_ ?_
  · intro o ho
    simp only [List.take_succ_cons, List.take_zero, List.mem_cons, List.not_mem_nil, or_false] at ho
    rcases ho with rfl | rfl | rfl | rfl | rfl | rfl | rfl | rfl | rfl | rfl | rfl
    · intro a' w' hb ha hdep
      have d3 : a'.tmps.getD 3 undef = .pointer (some ⟨w.heap.size, 0, none⟩) := ha.at 3 (by kernel_rfl)
      have hmk := fun (x : Value) (W : World) => SlotG.mk (x := x) (w := W) 0 rfl hGN
      clear hGN ha hdep
      go_simp
      exact ⟨_, rfl, Below.refl _ _, hmk _ _ rfl⟩
    · intro a' w' hb ha hdep
      have d16 : a'.tmps.getD 16 undef = .pointer (some ⟨w.heap.size, 0, none⟩) := (hdep 16 (of_decide_eq_true (by kernel_rfl))).is 0 rfl
      have hmk := fun (x : Value) (W : World) => SlotG.mk (x := x) (w := W) 1 rfl hGN
      clear hGN ha hdep
      have y : w'.cell? ⟨w.heap.size, 0, none⟩ = some (.slice (some ⟨g, 0, none⟩) ps.length c1) := (q0.below hb q0.lt).cell 0
      go_simp
      exact ⟨_, rfl, Below.refl _ _, hmk _ _ rfl⟩
    · intro a' w' hb ha hdep
      have d1 : a'.tmps.getD 1 undef = .int .i64 (m : Int) := ha.at 1 (by kernel_rfl)
      have hmk := fun (x : Value) (W : World) => SlotG.mk (x := x) (w := W) 2 rfl hGN
      clear hGN ha hdep
      go_simp
      exact ⟨_, rfl, Below.refl _ _, hmk _ _ rfl⟩
    · intro a' w' hb ha hdep
      have d17 : a'.tmps.getD 17 undef = .slice (some ⟨g, 0, none⟩) ps.length c1 := (hdep 17 (of_decide_eq_true (by kernel_rfl))).is 1 rfl
      have d18 : a'.tmps.getD 18 undef = .int .i64 (m : Int) := (hdep 18 (of_decide_eq_true (by kernel_rfl))).is 2 rfl
      have hmk := fun (x : Value) (W : World) => SlotG.mk (x := x) (w := W) 3 rfl hGN
      clear hGN ha hdep
      go_simp
      exact ⟨_, rfl, Below.refl _ _, hmk _ _ rfl⟩
    · intro a' w' hb ha hdep
      have d19 : a'.tmps.getD 19 undef = .pointer (some ⟨g, m * 3, none⟩) := (hdep 19 (of_decide_eq_true (by kernel_rfl))).is 3 rfl
      have hmk := fun (x : Value) (W : World) => SlotG.mk (x := x) (w := W) 4 rfl hGN
      clear hGN ha hdep
      go_simp
      exact ⟨_, rfl, Below.refl _ _, hmk _ _ rfl⟩
    · intro a' w' hb ha hdep
      have d20 : a'.tmps.getD 20 undef = .pointer (some ⟨g, m * 3 + 1, none⟩) := (hdep 20 (of_decide_eq_true (by kernel_rfl))).is 4 rfl
      have hmk := fun (x : Value) (W : World) => SlotG.mk (x := x) (w := W) 5 rfl hGN
      clear hGN ha hdep
      have z : w'.cell? ⟨g, m * 3 + 1, none⟩ = some (.slice uy tn2 uc2) := by rw [hb.cell (p := ⟨g, m * 3 + 1, none⟩) hg]; exact y1
      go_simp
      exact ⟨_, rfl, Below.refl _ _, hmk _ _ rfl⟩
    · intro a' w' hb ha hdep
      have d5 : a'.tmps.getD 5 undef = .pointer (some ⟨w.heap.size + 1, 0, none⟩) := ha.at 5 (by kernel_rfl)
      have hmk := fun (x : Value) (W : World) => SlotG.mk (x := x) (w := W) 6 rfl hGN
      clear hGN ha hdep
      have n0 : w'.cell? ⟨w.heap.size + 1, 0, none⟩ = some (.int .i64 a) := (q1.below hb q1.lt).cell 0
      have n1 : w'.cell? ⟨w.heap.size + 1, 1, none⟩ = some (.int .i64 l) := (q1.below hb q1.lt).cell 1
      go_simp
      exact ⟨_, rfl, Below.refl _ _, hmk _ _ rfl⟩
    · intro a' w' hb ha hdep
      have d21 : a'.tmps.getD 21 undef = .agg #[.slice uy tn2 uc2] := (hdep 21 (of_decide_eq_true (by kernel_rfl))).is 5 rfl
      have d22 : a'.tmps.getD 22 undef = .agg #[.int .i64 a, .int .i64 l] := (hdep 22 (of_decide_eq_true (by kernel_rfl))).is 6 rfl
      have hmk := fun (x : Value) (W : World) => SlotG.mk (x := x) (w := W) 7 rfl hGN
      clear hGN ha hdep
      go_simp
      refine (HF.out _ hb).mono ?_
      rintro e w2 ⟨rfl, hb2⟩
      exact ⟨_, rfl, hb2, hmk _ _ rfl⟩
    · intro a' w' hb ha hdep
      have d23 : a'.tmps.getD 23 undef = .agg #[.int .i64 A, .int .i64 L, .int .i64 M, .int .i64 O, .int .i64 I, .int .i64 U, .int .i64 V, .int .i64 E, .bool C] := (hdep 23 (of_decide_eq_true (by kernel_rfl))).is 7 rfl
      have hmk := fun (x : Value) (W : World) => SlotG.mk (x := x) (w := W) 8 rfl hGN
      clear hGN ha hdep
      go_simp
      exact ⟨_, rfl, Below.refl _ _, hmk _ _ rfl⟩
    · intro a' w' hb ha hdep
      have d24 : a'.tmps.getD 24 undef = .int .i64 M := (hdep 24 (of_decide_eq_true (by kernel_rfl))).is 8 rfl
      have hmk := fun (x : Value) (W : World) => SlotG.mk (x := x) (w := W) 9 rfl hGN
      clear hGN ha hdep
      rw [Array.getD_eq_getD_getElem?] at d24
      go_simp
      exact ⟨_, rfl, ent_new0 _ _, hmk _ _ ⟨_, rfl, Row.new w' 2 _⟩⟩
    · intro a' w' hb ha hdep
      have D25 := (hdep 25 (of_decide_eq_true (by kernel_rfl))).get 9 rfl
      have hmk := fun (x : Value) (W : World) => SlotG.mk (x := x) (w := W) 10 rfl hGN
      clear hGN ha hdep
      obtain ⟨g2, d25, hr⟩ := D25
      go_simp
      refine (cmpOrK_any M 16 g2 _ hr).mono ?_
      rintro e w2 ⟨rfl, rfl⟩
      exact ⟨_, rfl, Below.refl _ _, hmk _ _ rfl⟩
  · intro a' w' hb ha hG
    clear hGN
    have d26 : a'.tmps.getD 26 undef = .int .i64 (orK M 16) := (hG _ (List.mem_of_getElem? (i := 10) rfl) 26 rfl).is 10 rfl
    have e2 : a' = ⟨#[a'.tmps.getD 0 undef, a'.tmps.getD 1 undef, a'.tmps.getD 2 undef, a'.tmps.getD 3 undef, a'.tmps.getD 4 undef, a'.tmps.getD 5 undef, a'.tmps.getD 6 undef, a'.tmps.getD 7 undef, a'.tmps.getD 8 undef, a'.tmps.getD 9 undef, a'.tmps.getD 10 undef, a'.tmps.getD 11 undef, a'.tmps.getD 12 undef, a'.tmps.getD 13 undef, a'.tmps.getD 14 undef, a'.tmps.getD 15 undef, a'.tmps.getD 16 undef, a'.tmps.getD 17 undef, a'.tmps.getD 18 undef, a'.tmps.getD 19 undef, a'.tmps.getD 20 undef, a'.tmps.getD 21 undef, a'.tmps.getD 22 undef, a'.tmps.getD 23 undef, a'.tmps.getD 24 undef, a'.tmps.getD 25 undef, a'.tmps.getD 26 undef], []⟩ := by rw [← (show a'.defers = [] from ha.2.1)]; exact act_eq a' 27 ha.1
    rw [d26] at e2
    clear hG ha d26
    generalize a'.tmps.getD 0 undef = x0 at *
    generalize a'.tmps.getD 1 undef = x1 at *
    generalize a'.tmps.getD 2 undef = x2 at *
    generalize a'.tmps.getD 3 undef = x3 at *
    generalize a'.tmps.getD 4 undef = x4 at *
    generalize a'.tmps.getD 5 undef = x5 at *
    generalize a'.tmps.getD 6 undef = x6 at *
    generalize a'.tmps.getD 7 undef = x7 at *
    generalize a'.tmps.getD 8 undef = x8 at *
    generalize a'.tmps.getD 9 undef = x9 at *
    generalize a'.tmps.getD 10 undef = x10 at *
    generalize a'.tmps.getD 11 undef = x11 at *
    generalize a'.tmps.getD 12 undef = x12 at *
    generalize a'.tmps.getD 13 undef = x13 at *
    generalize a'.tmps.getD 14 undef = x14 at *
    generalize a'.tmps.getD 15 undef = x15 at *
    generalize a'.tmps.getD 16 undef = x16 at *
    generalize a'.tmps.getD 17 undef = x17 at *
    generalize a'.tmps.getD 18 undef = x18 at *
    generalize a'.tmps.getD 19 undef = x19 at *
    generalize a'.tmps.getD 20 undef = x20 at *
    generalize a'.tmps.getD 21 undef = x21 at *
    generalize a'.tmps.getD 22 undef = x22 at *
    generalize a'.tmps.getD 23 undef = x23 at *
    generalize a'.tmps.getD 24 undef = x24 at *
    generalize a'.tmps.getD 25 undef = x25 at *
    subst e2
    simp only [List.drop_succ_cons, List.drop_zero]
    have hB10 := hB.trans (hb.mono hB.size)
    clear hb
    go_wp2
    go_ret
    exact ⟨by first | rfl | (rw [hR]; rfl), hB10⟩
end Go.Proofs.Ytfmaeicodljgkaa
/- MetricTo of the model. (Written by gen_metric.py.) -/
namespace Go.Proofs.Ytfmaeicodljgkaa
open Go.RowKit Go.Sort

set_option maxRecDepth 100000 in
set_option maxHeartbeats 4000000 in
theorem specMetric_any (p : Option Addr) (c1 : Nat) (ps : List IvP) (q : Option Addr) (c2 : Nat) (ls : List Li) (r a l : Int) (w : World) (h : IvsIn w p ps) (hL : LisIn w q ls) (hn : ps.length ≤ 100000000) (hl : ls.length ≤ 100000000) (hm : ∀ e ∈ ps, IvM e.1 e.2) :
    Calls Try.prog 17 #[.agg #[.slice p ps.length c1, .slice q ls.length c2], .int .i64 r, .agg #[.int .i64 a, .int .i64 l]] w fun e w' => e = .returned (.int .i64 (metO (ps.map (·.2)) ls r a l)) ∧ Below w.heap.size w w' := by
  have HX : Hid (IvsIn w p ps ∧ LisIn w q ls) := ⟨h, hL⟩
  have HMM : Hid (∀ e ∈ ps, IvM e.1 e.2) := hm
  have HMR : Hid (∀ w, IvsIn w p ps → LisIn w q ls → Calls Try.prog 13 #[.agg #[.slice p ps.length c1, .slice q ls.length c2]] w fun e w' => e = .returned (.bool (meshB (ps.map (·.2)) ls)) ∧ Below w.heap.size w w') := fun w a b => specMesh_any p c1 ps q c2 ls w a b hn hl hm
  have HRE : Hid (metO (ps.map (·.2)) ls r a l = if (meshB (ps.map (·.2)) ls && hasR ps.length r) = true then orK (findR ((ps.map (fun x : IvP => x.2))[r.toNat]!).rs a l).m 16 else 0) := by show _ = _; unfold metO; rw [List.length_map]
  generalize metO (ps.map (·.2)) ls r a l = RES at *
  generalize meshB (ps.map (·.2)) ls = MB at *
  clear h hL hm
  have q0 := (Row.new w 48 [.slice p ps.length c1, .slice q ls.length c2]).alloc (.cells #[.int .i64 a, .int .i64 l] 55)
  have q1 := Row.new (w.alloc (.cells #[.slice p ps.length c1, .slice q ls.length c2] 48)) 55 [.int .i64 a, .int .i64 l]
  rw [show (w.alloc (.cells #[.slice p ps.length c1, .slice q ls.length c2] 48)).heap.size = w.heap.size + 1 by simp] at q1
  have hB : Below w.heap.size w ((w.alloc (.cells #[.slice p ps.length c1, .slice q ls.length c2] 48)).alloc (.cells #[.int .i64 a, .int .i64 l] 55)) := (ent_new0 w _).alloc (by simp) _
  have HQ : Hid _ := And.intro q0 (And.intro q1 hB)
  clear q0 q1 hB
  have HC : Hid (∀ w, Calls Try.prog 26 #[.int .i64 r, .int .i64 0, .int .i64 ((ps.length : Int) - 1)] w fun e w' => e = .returned (.bool (decide (0 ≤ r ∧ r ≤ (ps.length : Int) - 1))) ∧ w = w') := fun w => l03Is_any r 0 ((ps.length : Int) - 1) w
  have z : IntKind.i64.wrap ((ps.length : Int) - 1) = (ps.length : Int) - 1 := wrap_i64_in _ (by omega) (by omega)
  go_enter Try.func17, Try.ntmps17
  go_wp2_with fail
  obtain ⟨q0, q1, hB⟩ := HQ.out
  refine (HMR.out _ (HX.out.1.below hB) (HX.out.2.below hB)).mono ?_
  rintro e w1 ⟨rfl, hb1⟩
  have q0 := q0.below hb1 q0.lt
  have q1 := q1.below hb1 q1.lt
  have hB := hB.trans (hb1.mono hB.size)
  clear hb1
  have hR := HRE.out
  clear HMR HQ HRE
  cases MB
  · rw [Bool.false_and, if_neg Bool.false_ne_true] at hR
    go_wp2
    go_ret
    exact ⟨by first | rfl | (rw [hR]; rfl), hB⟩
  rw [Bool.true_and] at hR
  have s0 : w1.cell? ⟨w.heap.size, 0, none⟩ = some (.slice p ps.length c1) := q0.cell 0
  have s1 : w1.cell? ⟨w.heap.size, 1, none⟩ = some (.slice q ls.length c2) := q0.cell 1
  go_wp2_with fail
  clear s0 s1
  refine (HC.out _).mono ?_
  rintro e w2 ⟨rfl, rfl⟩
  clear HC z
  by_cases h1 : 0 ≤ r ∧ r ≤ (ps.length : Int) - 1
  case neg =>
    rw [decide_eq_false h1]
    have hn0 : hasR ps.length r = false := by unfold hasR; rw [← Bool.decide_and]; exact decide_eq_false (by omega)
    rw [hn0, if_neg Bool.false_ne_true] at hR
    clear h1 hn0
    go_wp2
    go_ret
    exact ⟨by first | rfl | (rw [hR]; rfl), hB⟩
  rw [decide_eq_true h1]
  have hn0 : hasR ps.length r = true := by unfold hasR; rw [← Bool.decide_and]; exact decide_eq_true (by omega)
  rw [hn0, if_pos rfl] at hR
  obtain ⟨m, rfl⟩ : ∃ m : Nat, r = (m : Int) := ⟨r.toNat, by omega⟩
  have hm : m < ps.length := by omega
  have dm : decide ((m : Int) < (ps.length : Int)) = true := by simpa using hm
  have HG : Hid _ := And.intro q0 (And.intro q1 hB)
  clear q0 q1 hB
  obtain ⟨g, u, t, rfl, hg, hek, hI, y0, y1, y2⟩ := (HX.out.1.below HG.out.2.2).at m hm
  obtain ⟨q0, q1, hB⟩ := HG.out
  clear HG
  have hM := HMM.out _ (List.getElem_mem hm)
  rw [hek] at hM
  rw [Int.toNat_natCast, iv_at hm hek] at hR
  have HF : Hid (∀ w', Below w1.heap.size w1 w' → Calls Try.prog 43 #[.agg #[.slice u.y t.rs.length u.c2], .agg #[.int .i64 a, .int .i64 l]] w' fun e w'' => e = .returned (rtV (findR t.rs a l)) ∧ Below w'.heap.size w' w'') := fun w' hb => specFind_any _ _ _ _ _ w' (hI.2.below hb) hM.2.1
  clear h1 hn0 hek hI hM HMM HX
  generalize findR t.rs a l = F at *
  obtain ⟨A, L, M, O, I, U, V, E, C⟩ := F
  unfold rtV rtA at HF
  simp only at HF hR
  have HFD : ∀ w, (Instr.field 81 (.agg #[.int .i64 A, .int .i64 L, .int .i64 M, .int .i64 O, .int .i64 I, .int .i64 U, .int .i64 V, .int .i64 E, .bool C]) 1).run Try.prog w = .ok (.int .i64 M) w := fun w => fieldMet_run A L M O I U V E C w
  generalize u.y = uy at *
  generalize u.x = ux at *
  generalize u.c1 = uc1 at *
  generalize u.c2 = uc2 at *
  generalize t.is.length = tn1 at *
  generalize t.rs.length = tn2 at *
  generalize t.now = tw at *
  go_wp2_with fail
  have hGN : (([(20, Is (.pointer (some ⟨w.heap.size, 0, none⟩))), (21, Is (.slice (some ⟨g, 0, none⟩) ps.length c1)), (22, Is (.int .i64 (m : Int))), (23, Is (.pointer (some ⟨g, m * 3, none⟩))), (24, Is (.pointer (some ⟨g, m * 3 + 1, none⟩))), (25, Is (.agg #[.slice uy tn2 uc2])), (26, Is (.agg #[.int .i64 a, .int .i64 l])), (27, Is (.agg #[.int .i64 A, .int .i64 L, .int .i64 M, .int .i64 O, .int .i64 I, .int .i64 U, .int .i64 V, .int .i64 E, .bool C])), (7, fun v W => ∃ g, v = .pointer (some ⟨g, 0, none⟩) ∧ w1.heap.size ≤ g ∧ Row W g 81 [.int .i64 0, .int .i64 0, .int .i64 0, .int .i64 0, .int .i64 0, .int .i64 0, .int .i64 0, .int .i64 0, .bool false])] : List (Nat × (Value → World → Prop))).map (·.1)).Nodup := by simp
  refine wp_region_steady 9 (SlotG [(20, Is (.pointer (some ⟨w.heap.size, 0, none⟩))), (21, Is (.slice (some ⟨g, 0, none⟩) ps.length c1)), (22, Is (.int .i64 (m : Int))), (23, Is (.pointer (some ⟨g, m * 3, none⟩))), (24, Is (.pointer (some ⟨g, m * 3 + 1, none⟩))), (25, Is (.agg #[.slice uy tn2 uc2])), (26, Is (.agg #[.int .i64 a, .int .i64 l])), (27, Is (.agg #[.int .i64 A, .int .i64 L, .int .i64 M, .int .i64 O, .int .i64 I, .int .i64 U, .int .i64 V, .int .i64 E, .bool C])), (7, fun v W => ∃ g, v = .pointer (some ⟨g, 0, none⟩) ∧ w1.heap.size ≤ g ∧ Row W g 81 [.int .i64 0, .int .i64 0, .int .i64 0, .int .i64 0, .int .i64 0, .int .i64 0, .int .i64 0, .int .i64 0, .bool false])]) (by kernel_rfl) (by kernel_rfl) (Stabs.all ⟨stab_is _, stab_is _, stab_is _, stab_is _, stab_is _, stab_is _, stab_is _, stab_is _, stab_new w1.heap.size 81 [.int .i64 0, .int .i64 0, .int .i64 0, .int .i64 0, .int .i64 0, .int .i64 0, .int .i64 0, .int .i64 0, .bool false], trivial⟩) ?_ ?_
  · intro o ho
    simp only [List.take_succ_cons, List.take_zero, List.mem_cons, List.not_mem_nil, or_false] at ho
    rcases ho with rfl | rfl | rfl | rfl | rfl | rfl | rfl | rfl | rfl
    · intro a' w' hb ha hdep
      have d3 : a'.tmps.getD 3 undef = .pointer (some ⟨w.heap.size, 0, none⟩) := ha.at 3 (by kernel_rfl)
      have hmk := fun (x : Value) (W : World) => SlotG.mk (x := x) (w := W) 0 rfl hGN
      clear hGN ha hdep
      go_simp
      exact ⟨_, rfl, Below.refl _ _, hmk _ _ rfl⟩
    · intro a' w' hb ha hdep
      have d20 : a'.tmps.getD 20 undef = .pointer (some ⟨w.heap.size, 0, none⟩) := (hdep 20 (of_decide_eq_true (by kernel_rfl))).is 0 rfl
      have hmk := fun (x : Value) (W : World) => SlotG.mk (x := x) (w := W) 1 rfl hGN
      clear hGN ha hdep
      have y : w'.cell? ⟨w.heap.size, 0, none⟩ = some (.slice (some ⟨g, 0, none⟩) ps.length c1) := (q0.below hb q0.lt).cell 0
      go_simp
      exact ⟨_, rfl, Below.refl _ _, hmk _ _ rfl⟩
    · intro a' w' hb ha hdep
      have d1 : a'.tmps.getD 1 undef = .int .i64 (m : Int) := ha.at 1 (by kernel_rfl)
      have hmk := fun (x : Value) (W : World) => SlotG.mk (x := x) (w := W) 2 rfl hGN
      clear hGN ha hdep
      go_simp
      exact ⟨_, rfl, Below.refl _ _, hmk _ _ rfl⟩
    · intro a' w' hb ha hdep
      have d21 : a'.tmps.getD 21 undef = .slice (some ⟨g, 0, none⟩) ps.length c1 := (hdep 21 (of_decide_eq_true (by kernel_rfl))).is 1 rfl
      have d22 : a'.tmps.getD 22 undef = .int .i64 (m : Int) := (hdep 22 (of_decide_eq_true (by kernel_rfl))).is 2 rfl
      have hmk := fun (x : Value) (W : World) => SlotG.mk (x := x) (w := W) 3 rfl hGN
      clear hGN ha hdep
      go_simp
      exact ⟨_, rfl, Below.refl _ _, hmk _ _ rfl⟩
    · intro a' w' hb ha hdep
      have d23 : a'.tmps.getD 23 undef = .pointer (some ⟨g, m * 3, none⟩) := (hdep 23 (of_decide_eq_true (by kernel_rfl))).is 3 rfl
      have hmk := fun (x : Value) (W : World) => SlotG.mk (x := x) (w := W) 4 rfl hGN
      clear hGN ha hdep
      go_simp
      exact ⟨_, rfl, Below.refl _ _, hmk _ _ rfl⟩
    · intro a' w' hb ha hdep
      have d24 : a'.tmps.getD 24 undef = .pointer (some ⟨g, m * 3 + 1, none⟩) := (hdep 24 (of_decide_eq_true (by kernel_rfl))).is 4 rfl
      have hmk := fun (x : Value) (W : World) => SlotG.mk (x := x) (w := W) 5 rfl hGN
      clear hGN ha hdep
      have z : w'.cell? ⟨g, m * 3 + 1, none⟩ = some (.slice uy tn2 uc2) := by rw [hb.cell (p := ⟨g, m * 3 + 1, none⟩) hg]; exact y1
      go_simp
      exact ⟨_, rfl, Below.refl _ _, hmk _ _ rfl⟩
    · intro a' w' hb ha hdep
      have d5 : a'.tmps.getD 5 undef = .pointer (some ⟨w.heap.size + 1, 0, none⟩) := ha.at 5 (by kernel_rfl)
      have hmk := fun (x : Value) (W : World) => SlotG.mk (x := x) (w := W) 6 rfl hGN
      clear hGN ha hdep
      have n0 : w'.cell? ⟨w.heap.size + 1, 0, none⟩ = some (.int .i64 a) := (q1.below hb q1.lt).cell 0
      have n1 : w'.cell? ⟨w.heap.size + 1, 1, none⟩ = some (.int .i64 l) := (q1.below hb q1.lt).cell 1
      go_simp
      exact ⟨_, rfl, Below.refl _ _, hmk _ _ rfl⟩
    · intro a' w' hb ha hdep
      have d25 : a'.tmps.getD 25 undef = .agg #[.slice uy tn2 uc2] := (hdep 25 (of_decide_eq_true (by kernel_rfl))).is 5 rfl
      have d26 : a'.tmps.getD 26 undef = .agg #[.int .i64 a, .int .i64 l] := (hdep 26 (of_decide_eq_true (by kernel_rfl))).is 6 rfl
      have hmk := fun (x : Value) (W : World) => SlotG.mk (x := x) (w := W) 7 rfl hGN
      clear hGN ha hdep
      go_simp
      refine (HF.out _ hb).mono ?_
      rintro e w2 ⟨rfl, hb2⟩
      exact ⟨_, rfl, hb2, hmk _ _ rfl⟩
    · intro a' w' hb ha hdep
      have hmk := fun (x : Value) (W : World) => SlotG.mk (x := x) (w := W) 8 rfl hGN
      clear hGN ha hdep
      have hsz := hb.size
      go_simp
      exact ⟨_, rfl, ent_new0 _ _, hmk _ _ ⟨_, rfl, hsz, Row.new w' 81 [.int .i64 0, .int .i64 0, .int .i64 0, .int .i64 0, .int .i64 0, .int .i64 0, .int .i64 0, .int .i64 0, .bool false]⟩⟩
  · intro a' w' hb ha hG
    clear hGN
    have d27 : a'.tmps.getD 27 undef = .agg #[.int .i64 A, .int .i64 L, .int .i64 M, .int .i64 O, .int .i64 I, .int .i64 U, .int .i64 V, .int .i64 E, .bool C] := (hG _ (List.mem_of_getElem? (i := 7) rfl) 27 rfl).is 7 rfl
    have D7 := (hG _ (List.mem_of_getElem? (i := 8) rfl) 7 rfl).get 8 rfl
    have e2 : a' = ⟨#[a'.tmps.getD 0 undef, a'.tmps.getD 1 undef, a'.tmps.getD 2 undef, a'.tmps.getD 3 undef, a'.tmps.getD 4 undef, a'.tmps.getD 5 undef, a'.tmps.getD 6 undef, a'.tmps.getD 7 undef, a'.tmps.getD 8 undef, a'.tmps.getD 9 undef, a'.tmps.getD 10 undef, a'.tmps.getD 11 undef, a'.tmps.getD 12 undef, a'.tmps.getD 13 undef, a'.tmps.getD 14 undef, a'.tmps.getD 15 undef, a'.tmps.getD 16 undef, a'.tmps.getD 17 undef, a'.tmps.getD 18 undef, a'.tmps.getD 19 undef, a'.tmps.getD 20 undef, a'.tmps.getD 21 undef, a'.tmps.getD 22 undef, a'.tmps.getD 23 undef, a'.tmps.getD 24 undef, a'.tmps.getD 25 undef, a'.tmps.getD 26 undef, a'.tmps.getD 27 undef, a'.tmps.getD 28 undef, a'.tmps.getD 29 undef, a'.tmps.getD 30 undef, a'.tmps.getD 31 undef, a'.tmps.getD 32 undef], []⟩ := by rw [← (show a'.defers = [] from ha.2.1)]; exact act_eq a' 33 ha.1
    rw [d27] at e2
    clear hG ha d27
    generalize a'.tmps.getD 0 undef = x0 at *
    generalize a'.tmps.getD 1 undef = x1 at *
    generalize a'.tmps.getD 2 undef = x2 at *
    generalize a'.tmps.getD 3 undef = x3 at *
    generalize a'.tmps.getD 4 undef = x4 at *
    generalize a'.tmps.getD 5 undef = x5 at *
    generalize a'.tmps.getD 6 undef = x6 at *
    generalize a'.tmps.getD 7 undef = x7 at *
    generalize a'.tmps.getD 8 undef = x8 at *
    generalize a'.tmps.getD 9 undef = x9 at *
    generalize a'.tmps.getD 10 undef = x10 at *
    generalize a'.tmps.getD 11 undef = x11 at *
    generalize a'.tmps.getD 12 undef = x12 at *
    generalize a'.tmps.getD 13 undef = x13 at *
    generalize a'.tmps.getD 14 undef = x14 at *
    generalize a'.tmps.getD 15 undef = x15 at *
    generalize a'.tmps.getD 16 undef = x16 at *
    generalize a'.tmps.getD 17 undef = x17 at *
    generalize a'.tmps.getD 18 undef = x18 at *
    generalize a'.tmps.getD 19 undef = x19 at *
    generalize a'.tmps.getD 20 undef = x20 at *
    generalize a'.tmps.getD 21 undef = x21 at *
    generalize a'.tmps.getD 22 undef = x22 at *
    generalize a'.tmps.getD 23 undef = x23 at *
    generalize a'.tmps.getD 24 undef = x24 at *
    generalize a'.tmps.getD 25 undef = x25 at *
    generalize a'.tmps.getD 26 undef = x26 at *
    generalize a'.tmps.getD 28 undef = x28 at *
    generalize a'.tmps.getD 29 undef = x29 at *
    generalize a'.tmps.getD 30 undef = x30 at *
    generalize a'.tmps.getD 31 undef = x31 at *
    generalize a'.tmps.getD 32 undef = x32 at *
    subst e2
    simp only [List.drop_succ_cons, List.drop_zero]
    generalize x7 = X7 at *
    obtain ⟨g2, rfl, hg2, hrz⟩ := D7
    have hB10 := hB.trans (hb.mono hB.size)
    have hsw := hB.size
    clear hb
    have z0 : w'.cell? ⟨g2, 0, none⟩ = some (.int .i64 0) := hrz.cell 0
    have z1 : w'.cell? ⟨g2, 1, none⟩ = some (.int .i64 0) := hrz.cell 1
    have z2 : w'.cell? ⟨g2, 2, none⟩ = some (.int .i64 0) := hrz.cell 2
    have z3 : w'.cell? ⟨g2, 3, none⟩ = some (.int .i64 0) := hrz.cell 3
    have z4 : w'.cell? ⟨g2, 4, none⟩ = some (.int .i64 0) := hrz.cell 4
    have z5 : w'.cell? ⟨g2, 5, none⟩ = some (.int .i64 0) := hrz.cell 5
    have z6 : w'.cell? ⟨g2, 6, none⟩ = some (.int .i64 0) := hrz.cell 6
    have z7 : w'.cell? ⟨g2, 7, none⟩ = some (.int .i64 0) := hrz.cell 7
    have z8 : w'.cell? ⟨g2, 8, none⟩ = some (.bool false) := hrz.cell 8
    have f0 : w'.frozen? ⟨g2, 0, none⟩ = false := hrz.frozen 0
    have f1 : w'.frozen? ⟨g2, 1, none⟩ = false := hrz.frozen 1
    have f2 : w'.frozen? ⟨g2, 2, none⟩ = false := hrz.frozen 2
    have f3 : w'.frozen? ⟨g2, 3, none⟩ = false := hrz.frozen 3
    have f4 : w'.frozen? ⟨g2, 4, none⟩ = false := hrz.frozen 4
    have f5 : w'.frozen? ⟨g2, 5, none⟩ = false := hrz.frozen 5
    have f6 : w'.frozen? ⟨g2, 6, none⟩ = false := hrz.frozen 6
    have f7 : w'.frozen? ⟨g2, 7, none⟩ = false := hrz.frozen 7
    have f8 : w'.frozen? ⟨g2, 8, none⟩ = false := hrz.frozen 8
    have HN : Hid (Row (((((((((w'.setCell ⟨g2, 0, none⟩ (.int .i64 A)).setCell ⟨g2, 1, none⟩ (.int .i64 L)).setCell ⟨g2, 2, none⟩ (.int .i64 M)).setCell ⟨g2, 3, none⟩ (.int .i64 O)).setCell ⟨g2, 4, none⟩ (.int .i64 I)).setCell ⟨g2, 5, none⟩ (.int .i64 U)).setCell ⟨g2, 6, none⟩ (.int .i64 V)).setCell ⟨g2, 7, none⟩ (.int .i64 E)).setCell ⟨g2, 8, none⟩ (.bool C)) g2 81 [.int .i64 A, .int .i64 L, .int .i64 M, .int .i64 O, .int .i64 I, .int .i64 U, .int .i64 V, .int .i64 E, .bool C] ∧ Below w.heap.size w (((((((((w'.setCell ⟨g2, 0, none⟩ (.int .i64 A)).setCell ⟨g2, 1, none⟩ (.int .i64 L)).setCell ⟨g2, 2, none⟩ (.int .i64 M)).setCell ⟨g2, 3, none⟩ (.int .i64 O)).setCell ⟨g2, 4, none⟩ (.int .i64 I)).setCell ⟨g2, 5, none⟩ (.int .i64 U)).setCell ⟨g2, 6, none⟩ (.int .i64 V)).setCell ⟨g2, 7, none⟩ (.int .i64 E)).setCell ⟨g2, 8, none⟩ (.bool C))) := ⟨(((((((((hrz.set 0 (.int .i64 A)).set 1 (.int .i64 L)).set 2 (.int .i64 M)).set 3 (.int .i64 O)).set 4 (.int .i64 I)).set 5 (.int .i64 U)).set 6 (.int .i64 V)).set 7 (.int .i64 E)).set 8 (.bool C)), (((((((((hB10.setCell (p := ⟨g2, 0, none⟩) (by show w.heap.size ≤ g2; omega) (.int .i64 A)).setCell (p := ⟨g2, 1, none⟩) (by show w.heap.size ≤ g2; omega) (.int .i64 L)).setCell (p := ⟨g2, 2, none⟩) (by show w.heap.size ≤ g2; omega) (.int .i64 M)).setCell (p := ⟨g2, 3, none⟩) (by show w.heap.size ≤ g2; omega) (.int .i64 O)).setCell (p := ⟨g2, 4, none⟩) (by show w.heap.size ≤ g2; omega) (.int .i64 I)).setCell (p := ⟨g2, 5, none⟩) (by show w.heap.size ≤ g2; omega) (.int .i64 U)).setCell (p := ⟨g2, 6, none⟩) (by show w.heap.size ≤ g2; omega) (.int .i64 V)).setCell (p := ⟨g2, 7, none⟩) (by show w.heap.size ≤ g2; omega) (.int .i64 E)).setCell (p := ⟨g2, 8, none⟩) (by show w.heap.size ≤ g2; omega) (.bool C))⟩
    have e2 : (((((((((w'.setCell ⟨g2, 0, none⟩ (.int .i64 A)).setCell ⟨g2, 1, none⟩ (.int .i64 L)).setCell ⟨g2, 2, none⟩ (.int .i64 M)).setCell ⟨g2, 3, none⟩ (.int .i64 O)).setCell ⟨g2, 4, none⟩ (.int .i64 I)).setCell ⟨g2, 5, none⟩ (.int .i64 U)).setCell ⟨g2, 6, none⟩ (.int .i64 V)).setCell ⟨g2, 7, none⟩ (.int .i64 E)).setCell ⟨g2, 8, none⟩ (.bool C)).cell? ⟨g2, 2, none⟩ = some (.int .i64 M) := HN.out.1.cell 2
    clear hrz hB10 hB
    by_cases hM0 : M = 0
    · have dM : (M == 0) = true := by simpa using hM0
      have hR : RES = 16 := by rw [hR]; unfold orK; rw [if_pos hM0]
      clear hM0
      go_wp2
      go_ret
      exact ⟨by first | rfl | (rw [hR]; rfl), HN.out.2⟩
    · have dM : (M == 0) = false := by simpa using hM0
      have hR : RES = M := by rw [hR]; unfold orK; rw [if_neg hM0]
      clear hM0
      go_wp2
      go_ret
      exact ⟨by first | rfl | (rw [hR]; rfl), HN.out.2⟩
end Go.Proofs.Ytfmaeicodljgkaa
