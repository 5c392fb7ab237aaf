/- The walk of the law on MetricTo. (Written by gen_metric.py.) -/
import Derived.Test.YtfmaeicodljgkaaPack19
import Derived.Test.YtfmaeicodljgkaaPack17
import Derived.Test.YtfmaeicodljgkaaPack9
namespace Go.Proofs.Ytfmaeicodljgkaa
open Go.RowKit Go.Sort

set_option maxRecDepth 100000 in
set_option maxHeartbeats 4000000 in
theorem fnExactMetricTo_walk (p : Option Addr) (c1 : Nat) (q : Option Addr) (c2 : Nat) (ps : List IvP) (ls : List Li) (r xa xl : Int) (w : World) (hA : ArgM w p ps q ls) (_hr : (Lit.int .i64 r).wf = true) (_ha : (Lit.int .i64 xa).wf = true) (_hl : (Lit.int .i64 xl).wf = true) :
    Calls Try.prog 5 #[meshV p c1 q c2 ps ls, .int .i64 r, .agg #[.int .i64 xa, .int .i64 xl]] w fun r w' => r = .returned (.bool true) ∧ Below w.heap.size w w' := by
  have HX : Hid (ArgM w p ps q ls) := hA
  have HZ : Hid (∀ w1, Below w.heap.size w w1 → Calls Try.prog 12 #[.agg #[.slice p ps.length c1, .slice q ls.length c2], .int .i64 1048576] w1 fun e w' => (∃ v : Int, e = .returned (.int .i64 v) ∧ v ≤ 1048576 ∧ (v < 0 ∨ 0 ≤ v ∧ ps.length ≤ 1048576 ∧ ls.length ≤ 1048576 ∧ ∀ e ∈ ps, IvS e.2)) ∧ Below w1.heap.size w1 w') := fun w1 hb => szMesh_any p c1 q c2 ps ls 1048576 _ (hA.below hb) (by omega) (by omega)
  have HT0 : Hid (ps.length ≤ 1048576 → ls.length ≤ 1048576 → (∀ e ∈ ps, IvS e.2) → ∀ w, ArgM w p ps q ls → Calls Try.prog 14 #[.agg #[.slice p ps.length c1, .slice q ls.length c2]] w fun e w' => ∃ (g : Nat) (qs : List IvP) (h : Nat), e = .returned (.agg #[.slice (some ⟨g, 0, none⟩) ps.length ps.length, .slice (some ⟨h, 0, none⟩) ls.length ls.length]) ∧ w.heap.size ≤ g ∧ w.heap.size ≤ h ∧ qs.map (·.2) = ps.map (·.2) ∧ Row w' g 35 (rowIv qs) ∧ (∀ e ∈ qs, PlIv w' (g + 1) e.1 e.2) ∧ Row w' h 70 (rowLi ls) ∧ Below w.heap.size w w') := fun a b c w k => toMesh_any p c1 q c2 ps ls w k ⟨a, b, c⟩
  have HS0 : Hid (ps.length ≤ 1048576 → ls.length ≤ 1048576 → (∀ e ∈ ps, IvS e.2) → ∀ (g : Nat) (qs : List IvP) (h : Nat) w, qs.map (·.2) = ps.map (·.2) → Row w g 35 (rowIv qs) → (∀ e ∈ qs, PlIv w (g + 1) e.1 e.2) → Row w h 70 (rowLi ls) → Calls Try.prog 17 #[.agg #[.slice (some ⟨g, 0, none⟩) ps.length ps.length, .slice (some ⟨h, 0, none⟩) ls.length ls.length], .int .i64 r, .agg #[.int .i64 xa, .int .i64 xl]] w fun e w' => e = .returned (.int .i64 (metO (ps.map (·.2)) ls r xa xl)) ∧ Below w.heap.size w w') := fun a b s g qs h w em k1 k2 k3 => by
    have hl := len_sndI em
    have := specMetric_any (some ⟨g, 0, none⟩) ps.length qs (some ⟨h, 0, none⟩) ls.length ls r xa xl w (ivsIn_row k1 (fun e he => (k2 e he).inIv)) (lisAt_row k3).lisIn (by omega) (by omega) (fun e he => ⟨(same_sndI em s e he).m.1, (same_sndI em s e he).m.2, (k2 e he).c⟩)
    rw [em, hl] at this
    exact this
  have HI0 : Hid (ps.length ≤ 1048576 → ls.length ≤ 1048576 → (∀ e ∈ ps, IvS e.2) → ∀ (g : Nat) (qs : List IvP) (h : Nat) w, qs.map (·.2) = ps.map (·.2) → Row w g 35 (rowIv qs) → (∀ e ∈ qs, PlIv w (g + 1) e.1 e.2) → Row w h 70 (rowLi ls) → Calls Try.prog 19 #[.agg #[.slice (some ⟨g, 0, none⟩) ps.length ps.length, .slice (some ⟨h, 0, none⟩) ls.length ls.length], .int .i64 r, .agg #[.int .i64 xa, .int .i64 xl]] w fun e w' => e = .returned (.int .i64 (metO (ps.map (·.2)) ls r xa xl)) ∧ Below w.heap.size w w') := fun a b s g qs h w em k1 k2 k3 => by
    have hl := len_sndI em
    have := implMetric_any (some ⟨g, 0, none⟩) ps.length qs (some ⟨h, 0, none⟩) ls.length ls r xa xl w (ivsIn_row k1 (fun e he => (k2 e he).inIv)) (lisAt_row k3) (by omega) (by omega) (fun e he => ⟨(same_sndI em s e he).m.1, (same_sndI em s e he).m.2, (k2 e he).c⟩)
    rw [em, hl] at this
    exact this
  have HE0 : Hid (ps.length ≤ 1048576 → ls.length ≤ 1048576 → (∀ e ∈ ps, IvS e.2) → ∀ (p0 q0 p1 q1 : Option Addr) (qs qs' : List IvP) w, qs.map (·.2) = ps.map (·.2) → qs'.map (·.2) = ps.map (·.2) → IvsIn w p0 qs → LisIn w q0 ls → IvsIn w p1 qs' → LisIn w q1 ls → Calls Try.prog 16 #[.agg #[.slice p0 ps.length ps.length, .slice q0 ls.length ls.length], .agg #[.slice p1 ps.length ps.length, .slice q1 ls.length ls.length]] w fun e w' => e = .returned (.bool true) ∧ Below w.heap.size w w') := fun a b s p0 q0 p1 q1 qs qs' w em em' k0 k1 k2 k3 => by
    have hl := len_sndI em
    have := eqMesh_any p0 ps.length q0 ls.length p1 ps.length q1 ls.length qs qs' ls w ⟨⟨k0, k1⟩, ⟨k2, k3⟩⟩ (em.trans em'.symm) ⟨by omega, b, same_sndI em s⟩
    rw [hl] at this
    exact this
  clear hA
  have HNt : Hid (∀ w, Calls Try.prog 18 #[.agg #[.int .i64 xa, .int .i64 xl]] w fun e w' => e = .returned (.agg #[.int .i64 xa, .int .i64 xl]) ∧ Below w.heap.size w w') := fun w => toNet_any xa xl w
  generalize metO (ps.map (·.2)) ls r xa xl = R at *
  have dR : (R != R) = false := by simp
  unfold meshV
  generalize ps.length = n1 at *
  generalize ls.length = n2 at *
  have r0 := (Row.new w 42 [.slice p n1 c1, .slice q n2 c2]).alloc (.cells #[.int .i64 xa, .int .i64 xl] 53)
  have r9 := Row.new (w.alloc (.cells #[.slice p n1 c1, .slice q n2 c2] 42)) 53 [.int .i64 xa, .int .i64 xl]
  rw [show (w.alloc (.cells #[.slice p n1 c1, .slice q n2 c2] 42)).heap.size = w.heap.size + 1 by simp] at r9
  have hB : Below w.heap.size w ((w.alloc (.cells #[.slice p n1 c1, .slice q n2 c2] 42)).alloc (.cells #[.int .i64 xa, .int .i64 xl] 53)) := (ent_new0 w _).alloc (by simp) _
  have HQ : Hid _ := And.intro r0 (And.intro r9 hB)
  clear r0 r9 hB
  go_enter Try.func5, Try.ntmps5
  go_wp2_with fail
  refine (HZ.out _ HQ.out.2.2).mono ?_
  rintro e w1 ⟨⟨v, rfl, -, hv⟩, hb1⟩
  obtain ⟨r0, r9, hB⟩ := HQ.out
  have r0 := r0.below hb1 r0.lt
  have r9 := r9.below hb1 r9.lt
  have hB := hB.trans (hb1.mono hB.size)
  clear hb1
  clear HZ HQ
  rcases hv with hv | ⟨hv, m1, m2, m3⟩
  · have d : decide (v < 0) = true := by simpa using hv
    clear hv
    go_wp2
    go_ret
    exact ⟨rfl, hB⟩
  have d : decide (v < 0) = false := by simp; omega
  have HT : Hid _ := HT0.out m1 m2 m3
  have HS : Hid _ := HS0.out m1 m2 m3
  have HI : Hid _ := HI0.out m1 m2 m3
  have HE : Hid _ := HE0.out m1 m2 m3
  clear HT0 HS0 HI0 HE0 hv m1 m2 m3
  go_wp2_with fail
  have hGN : (([(16, Is (.agg #[.slice p n1 c1, .slice q n2 c2])), (17, HandedM ps ls n1 n2), (18, Is (.int .i64 r)), (19, Is (.agg #[.int .i64 xa, .int .i64 xl])), (20, Is (.agg #[.int .i64 xa, .int .i64 xl])), (21, Is (.int .i64 R))] : List (Nat × (Value → World → Prop))).map (·.1)).Nodup := by simp
  refine wp_region_steady 6 (SlotG [(16, Is (.agg #[.slice p n1 c1, .slice q n2 c2])), (17, HandedM ps ls n1 n2), (18, Is (.int .i64 r)), (19, Is (.agg #[.int .i64 xa, .int .i64 xl])), (20, Is (.agg #[.int .i64 xa, .int .i64 xl])), (21, Is (.int .i64 R))]) (by kernel_rfl) (by kernel_rfl) (Stabs.all ⟨stab_is _, stab_mesh ps ls n1 n2, stab_is _, stab_is _, stab_is _, stab_is _, trivial⟩) ?_ ?_
  · intro o ho
    simp only [List.take_succ_cons, List.take_zero, List.mem_cons, List.not_mem_nil, or_false] at ho
    rcases ho with rfl | rfl | rfl | rfl | rfl | rfl
    · intro a' w' hb ha hdep
      have d3 : a'.tmps.getD 3 undef = .pointer (some ⟨w.heap.size, 0, none⟩) := ha.at 3 (by kernel_rfl)
      have hmk := fun (x : Value) (W : World) => SlotG.mk (x := x) (w := W) 0 rfl hGN
      clear hGN ha hdep
      have y0 : w'.cell? ⟨w.heap.size, 0, none⟩ = some (.slice p n1 c1) := (r0.below hb r0.lt).cell 0
      have y1 : w'.cell? ⟨w.heap.size, 1, none⟩ = some (.slice q n2 c2) := (r0.below hb r0.lt).cell 1
      go_simp
      exact ⟨_, rfl, Below.refl _ _, hmk _ _ rfl⟩
    · intro a' w' hb ha hdep
      have d16 : a'.tmps.getD 16 undef = .agg #[.slice p n1 c1, .slice q n2 c2] := (hdep 16 (of_decide_eq_true (by kernel_rfl))).is 0 rfl
      have hmk := fun (x : Value) (W : World) => SlotG.mk (x := x) (w := W) 1 rfl hGN
      clear hGN ha hdep
      go_simp
      refine (HT.out _ (HX.out.below (hB.trans (hb.mono hB.size)))).mono ?_
      rintro e w2 ⟨g, qs, h, rfl, -, -, em, r6, r7, r8, hb2⟩
      exact ⟨_, rfl, hb2, hmk _ _ ⟨g, qs, h, rfl, em, r6, r7, r8⟩⟩
    · intro a' w' hb ha hdep
      have d1 : a'.tmps.getD 1 undef = .int .i64 r := ha.at 1 (by kernel_rfl)
      have hmk := fun (x : Value) (W : World) => SlotG.mk (x := x) (w := W) 2 rfl hGN
      clear hGN ha hdep
      go_simp
      exact ⟨_, rfl, Below.refl _ _, hmk _ _ rfl⟩
    · intro a' w' hb ha hdep
      have d5 : a'.tmps.getD 5 undef = .pointer (some ⟨w.heap.size + 1, 0, none⟩) := ha.at 5 (by kernel_rfl)
      have hmk := fun (x : Value) (W : World) => SlotG.mk (x := x) (w := W) 3 rfl hGN
      clear hGN ha hdep
      have z0 : w'.cell? ⟨w.heap.size + 1, 0, none⟩ = some (.int .i64 xa) := (r9.below hb r9.lt).cell 0
      have z1 : w'.cell? ⟨w.heap.size + 1, 1, none⟩ = some (.int .i64 xl) := (r9.below hb r9.lt).cell 1
      go_simp
      exact ⟨_, rfl, Below.refl _ _, hmk _ _ rfl⟩
    · intro a' w' hb ha hdep
      have d19 : a'.tmps.getD 19 undef = .agg #[.int .i64 xa, .int .i64 xl] := (hdep 19 (of_decide_eq_true (by kernel_rfl))).is 3 rfl
      have hmk := fun (x : Value) (W : World) => SlotG.mk (x := x) (w := W) 4 rfl hGN
      clear hGN ha hdep
      go_simp
      refine (HNt.out _).mono ?_
      rintro e w2 ⟨rfl, hb2⟩
      exact ⟨_, rfl, hb2, hmk _ _ rfl⟩
    · intro a' w' hb ha hdep
      have D17 := (hdep 17 (of_decide_eq_true (by kernel_rfl))).get 1 rfl
      have d18 : a'.tmps.getD 18 undef = .int .i64 r := (hdep 18 (of_decide_eq_true (by kernel_rfl))).is 2 rfl
      have d20 : a'.tmps.getD 20 undef = .agg #[.int .i64 xa, .int .i64 xl] := (hdep 20 (of_decide_eq_true (by kernel_rfl))).is 4 rfl
      have hmk := fun (x : Value) (W : World) => SlotG.mk (x := x) (w := W) 5 rfl hGN
      clear hGN ha hdep
      obtain ⟨g, qs, h, d17, em, r6, r7, r8⟩ := D17
      go_simp
      refine (HS.out g qs h _ em r6 r7 r8).mono ?_
      rintro e w2 ⟨rfl, hb2⟩
      exact ⟨_, rfl, hb2, hmk _ _ rfl⟩
  · intro a' w' hb ha hG
    clear hGN
    have d21 : a'.tmps.getD 21 undef = .int .i64 R := (hG _ (List.mem_of_getElem? (i := 5) rfl) 21 rfl).is 5 rfl
    have d3 : a'.tmps.getD 3 undef = .pointer (some ⟨w.heap.size, 0, none⟩) := ha.at 3 (by kernel_rfl)
    have d1 : a'.tmps.getD 1 undef = .int .i64 r := ha.at 1 (by kernel_rfl)
    have d5 : a'.tmps.getD 5 undef = .pointer (some ⟨w.heap.size + 1, 0, none⟩) := ha.at 5 (by kernel_rfl)
    have e2 : a' = ⟨#[a'.tmps.getD 0 undef, a'.tmps.getD 1 undef, a'.tmps.getD 2 undef, a'.tmps.getD 3 undef, a'.tmps.getD 4 undef, a'.tmps.getD 5 undef, a'.tmps.getD 6 undef, a'.tmps.getD 7 undef, a'.tmps.getD 8 undef, a'.tmps.getD 9 undef, a'.tmps.getD 10 undef, a'.tmps.getD 11 undef, a'.tmps.getD 12 undef, a'.tmps.getD 13 undef, a'.tmps.getD 14 undef, a'.tmps.getD 15 undef, a'.tmps.getD 16 undef, a'.tmps.getD 17 undef, a'.tmps.getD 18 undef, a'.tmps.getD 19 undef, a'.tmps.getD 20 undef, a'.tmps.getD 21 undef, a'.tmps.getD 22 undef, a'.tmps.getD 23 undef, a'.tmps.getD 24 undef, a'.tmps.getD 25 undef, a'.tmps.getD 26 undef, a'.tmps.getD 27 undef, a'.tmps.getD 28 undef, a'.tmps.getD 29 undef, a'.tmps.getD 30 undef, a'.tmps.getD 31 undef, a'.tmps.getD 32 undef, a'.tmps.getD 33 undef, a'.tmps.getD 34 undef, a'.tmps.getD 35 undef, a'.tmps.getD 36 undef], []⟩ := by rw [← (show a'.defers = [] from ha.2.1)]; exact act_eq a' 37 ha.1
    rw [d21, d3, d1, d5] at e2
    clear hG ha d21 d3 d1 d5
    generalize a'.tmps.getD 0 undef = x0 at *
    generalize a'.tmps.getD 2 undef = x2 at *
    generalize a'.tmps.getD 4 undef = x4 at *
    generalize a'.tmps.getD 6 undef = x6 at *
    generalize a'.tmps.getD 7 undef = x7 at *
    generalize a'.tmps.getD 8 undef = x8 at *
    generalize a'.tmps.getD 9 undef = x9 at *
    generalize a'.tmps.getD 10 undef = x10 at *
    generalize a'.tmps.getD 11 undef = x11 at *
    generalize a'.tmps.getD 12 undef = x12 at *
    generalize a'.tmps.getD 13 undef = x13 at *
    generalize a'.tmps.getD 14 undef = x14 at *
    generalize a'.tmps.getD 15 undef = x15 at *
    generalize a'.tmps.getD 16 undef = x16 at *
    generalize a'.tmps.getD 17 undef = x17 at *
    generalize a'.tmps.getD 18 undef = x18 at *
    generalize a'.tmps.getD 19 undef = x19 at *
    generalize a'.tmps.getD 20 undef = x20 at *
    generalize a'.tmps.getD 22 undef = x22 at *
    generalize a'.tmps.getD 23 undef = x23 at *
    generalize a'.tmps.getD 24 undef = x24 at *
    generalize a'.tmps.getD 25 undef = x25 at *
    generalize a'.tmps.getD 26 undef = x26 at *
    generalize a'.tmps.getD 27 undef = x27 at *
    generalize a'.tmps.getD 28 undef = x28 at *
    generalize a'.tmps.getD 29 undef = x29 at *
    generalize a'.tmps.getD 30 undef = x30 at *
    generalize a'.tmps.getD 31 undef = x31 at *
    generalize a'.tmps.getD 32 undef = x32 at *
    generalize a'.tmps.getD 33 undef = x33 at *
    generalize a'.tmps.getD 34 undef = x34 at *
    generalize a'.tmps.getD 35 undef = x35 at *
    generalize a'.tmps.getD 36 undef = x36 at *
    subst e2
    simp only [List.drop_succ_cons, List.drop_zero]
    have r0 := r0.below hb r0.lt
    have r9 := r9.below hb r9.lt
    have hB := hB.trans (hb.mono hB.size)
    clear hb
    clear HS
    have y0 : w'.cell? ⟨w.heap.size, 0, none⟩ = some (.slice p n1 c1) := r0.cell 0
    have y1 : w'.cell? ⟨w.heap.size, 1, none⟩ = some (.slice q n2 c2) := r0.cell 1
    go_wp2_with fail
    clear y0 y1
    refine (HT.out _ (HX.out.below hB)).mono ?_
    rintro e w4 ⟨g5, qs, h5, rfl, -, -, hqm, kg, hp, kh, hb4⟩
    have r0 := r0.below hb4 r0.lt
    have r9 := r9.below hb4 r9.lt
    have hB := hB.trans (hb4.mono hB.size)
    clear hb4
    have r0 := r0.alloc (.cells #[.slice (some ⟨g5, 0, none⟩) n1 n1, .slice (some ⟨h5, 0, none⟩) n2 n2] 48)
    have kg := kg.alloc (.cells #[.slice (some ⟨g5, 0, none⟩) n1 n1, .slice (some ⟨h5, 0, none⟩) n2 n2] 48)
    have kh := kh.alloc (.cells #[.slice (some ⟨g5, 0, none⟩) n1 n1, .slice (some ⟨h5, 0, none⟩) n2 n2] 48)
    have r9 := r9.alloc (.cells #[.slice (some ⟨g5, 0, none⟩) n1 n1, .slice (some ⟨h5, 0, none⟩) n2 n2] 48)
    have hp := fun e he => (hp e he).below (ent_new0 w4 (.cells #[.slice (some ⟨g5, 0, none⟩) n1 n1, .slice (some ⟨h5, 0, none⟩) n2 n2] 48))
    have k5 := Row.new w4 48 [.slice (some ⟨g5, 0, none⟩) n1 n1, .slice (some ⟨h5, 0, none⟩) n2 n2]
    have hB := hB.alloc (by have := hB.size; omega) (.cells #[.slice (some ⟨g5, 0, none⟩) n1 n1, .slice (some ⟨h5, 0, none⟩) n2 n2] 48)
    have y0 : (w4.alloc (.cells #[.slice (some ⟨g5, 0, none⟩) n1 n1, .slice (some ⟨h5, 0, none⟩) n2 n2] 48)).cell? ⟨w4.heap.size, 0, none⟩ = some (.slice (some ⟨g5, 0, none⟩) n1 n1) := k5.cell 0
    have y1 : (w4.alloc (.cells #[.slice (some ⟨g5, 0, none⟩) n1 n1, .slice (some ⟨h5, 0, none⟩) n2 n2] 48)).cell? ⟨w4.heap.size, 1, none⟩ = some (.slice (some ⟨h5, 0, none⟩) n2 n2) := k5.cell 1
    have HA : Hid _ := And.intro r0 (And.intro kg (And.intro kh (And.intro r9 (And.intro hp (And.intro k5 (hB))))))
    clear r0 kg kh r9 hp k5 hB
    go_wp2_with fail
    generalize hbx : w4.heap.size = b5 at *
    generalize w4.alloc (.cells #[.slice (some ⟨g5, 0, none⟩) n1 n1, .slice (some ⟨h5, 0, none⟩) n2 n2] 48) = W5 at *
    clear hbx
    obtain ⟨r0, kg, kh, r9, hp, k5, hB⟩ := HA.out
    clear HA y0 y1
    have hGN : (([(24, Is (.agg #[.slice (some ⟨g5, 0, none⟩) n1 n1, .slice (some ⟨h5, 0, none⟩) n2 n2])), (25, Is (.int .i64 r)), (26, Is (.agg #[.int .i64 xa, .int .i64 xl])), (27, Is (.agg #[.int .i64 xa, .int .i64 xl])), (28, Is (.int .i64 R))] : List (Nat × (Value → World → Prop))).map (·.1)).Nodup := by simp
    refine wp_region_steady 5 (SlotG [(24, Is (.agg #[.slice (some ⟨g5, 0, none⟩) n1 n1, .slice (some ⟨h5, 0, none⟩) n2 n2])), (25, Is (.int .i64 r)), (26, Is (.agg #[.int .i64 xa, .int .i64 xl])), (27, Is (.agg #[.int .i64 xa, .int .i64 xl])), (28, Is (.int .i64 R))]) (by kernel_rfl) (by kernel_rfl) (Stabs.all ⟨stab_is _, stab_is _, stab_is _, stab_is _, stab_is _, trivial⟩) ?_ ?_
    · intro o ho
      simp only [List.take_succ_cons, List.take_zero, List.mem_cons, List.not_mem_nil, or_false] at ho
      rcases ho with rfl | rfl | rfl | rfl | rfl
      · intro a' w' hb ha hdep
        have d9 : a'.tmps.getD 9 undef = .pointer (some ⟨b5, 0, none⟩) := ha.at 9 (by kernel_rfl)
        have hmk := fun (x : Value) (W : World) => SlotG.mk (x := x) (w := W) 0 rfl hGN
        clear hGN ha hdep
        have y0 : w'.cell? ⟨b5, 0, none⟩ = some (.slice (some ⟨g5, 0, none⟩) n1 n1) := (k5.below hb k5.lt).cell 0
        have y1 : w'.cell? ⟨b5, 1, none⟩ = some (.slice (some ⟨h5, 0, none⟩) n2 n2) := (k5.below hb k5.lt).cell 1
        go_simp
        exact ⟨_, rfl, Below.refl _ _, hmk _ _ rfl⟩
      · intro a' w' hb ha hdep
        have d1 : a'.tmps.getD 1 undef = .int .i64 r := ha.at 1 (by kernel_rfl)
        have hmk := fun (x : Value) (W : World) => SlotG.mk (x := x) (w := W) 1 rfl hGN
        clear hGN ha hdep
        go_simp
        exact ⟨_, rfl, Below.refl _ _, hmk _ _ rfl⟩
      · intro a' w' hb ha hdep
        have d5 : a'.tmps.getD 5 undef = .pointer (some ⟨w.heap.size + 1, 0, none⟩) := ha.at 5 (by kernel_rfl)
        have hmk := fun (x : Value) (W : World) => SlotG.mk (x := x) (w := W) 2 rfl hGN
        clear hGN ha hdep
        have z0 : w'.cell? ⟨w.heap.size + 1, 0, none⟩ = some (.int .i64 xa) := (r9.below hb r9.lt).cell 0
        have z1 : w'.cell? ⟨w.heap.size + 1, 1, none⟩ = some (.int .i64 xl) := (r9.below hb r9.lt).cell 1
        go_simp
        exact ⟨_, rfl, Below.refl _ _, hmk _ _ rfl⟩
      · intro a' w' hb ha hdep
        have d26 : a'.tmps.getD 26 undef = .agg #[.int .i64 xa, .int .i64 xl] := (hdep 26 (of_decide_eq_true (by kernel_rfl))).is 2 rfl
        have hmk := fun (x : Value) (W : World) => SlotG.mk (x := x) (w := W) 3 rfl hGN
        clear hGN ha hdep
        go_simp
        refine (HNt.out _).mono ?_
        rintro e w2 ⟨rfl, hb2⟩
        exact ⟨_, rfl, hb2, hmk _ _ rfl⟩
      · intro a' w' hb ha hdep
        have d24 : a'.tmps.getD 24 undef = .agg #[.slice (some ⟨g5, 0, none⟩) n1 n1, .slice (some ⟨h5, 0, none⟩) n2 n2] := (hdep 24 (of_decide_eq_true (by kernel_rfl))).is 0 rfl
        have d25 : a'.tmps.getD 25 undef = .int .i64 r := (hdep 25 (of_decide_eq_true (by kernel_rfl))).is 1 rfl
        have d27 : a'.tmps.getD 27 undef = .agg #[.int .i64 xa, .int .i64 xl] := (hdep 27 (of_decide_eq_true (by kernel_rfl))).is 3 rfl
        have hmk := fun (x : Value) (W : World) => SlotG.mk (x := x) (w := W) 4 rfl hGN
        clear hGN ha hdep
        go_simp
        refine (HI.out g5 qs h5 _ hqm (kg.below hb kg.lt) (fun e he => (hp e he).below hb) (kh.below hb kh.lt)).mono ?_
        rintro e w2 ⟨rfl, hb2⟩
        exact ⟨_, rfl, hb2, hmk _ _ rfl⟩
    · intro a' w' hb ha hG
      clear hGN
      have d28 : a'.tmps.getD 28 undef = .int .i64 R := (hG _ (List.mem_of_getElem? (i := 4) rfl) 28 rfl).is 4 rfl
      have d8 : a'.tmps.getD 8 undef = .int .i64 R := ha.at 8 (by kernel_rfl)
      have d3 : a'.tmps.getD 3 undef = .pointer (some ⟨w.heap.size, 0, none⟩) := ha.at 3 (by kernel_rfl)
      have d1 : a'.tmps.getD 1 undef = .int .i64 r := ha.at 1 (by kernel_rfl)
      have d5 : a'.tmps.getD 5 undef = .pointer (some ⟨w.heap.size + 1, 0, none⟩) := ha.at 5 (by kernel_rfl)
      have d9 : a'.tmps.getD 9 undef = .pointer (some ⟨b5, 0, none⟩) := ha.at 9 (by kernel_rfl)
      have e2 : a' = ⟨#[a'.tmps.getD 0 undef, a'.tmps.getD 1 undef, a'.tmps.getD 2 undef, a'.tmps.getD 3 undef, a'.tmps.getD 4 undef, a'.tmps.getD 5 undef, a'.tmps.getD 6 undef, a'.tmps.getD 7 undef, a'.tmps.getD 8 undef, a'.tmps.getD 9 undef, a'.tmps.getD 10 undef, a'.tmps.getD 11 undef, a'.tmps.getD 12 undef, a'.tmps.getD 13 undef, a'.tmps.getD 14 undef, a'.tmps.getD 15 undef, a'.tmps.getD 16 undef, a'.tmps.getD 17 undef, a'.tmps.getD 18 undef, a'.tmps.getD 19 undef, a'.tmps.getD 20 undef, a'.tmps.getD 21 undef, a'.tmps.getD 22 undef, a'.tmps.getD 23 undef, a'.tmps.getD 24 undef, a'.tmps.getD 25 undef, a'.tmps.getD 26 undef, a'.tmps.getD 27 undef, a'.tmps.getD 28 undef, a'.tmps.getD 29 undef, a'.tmps.getD 30 undef, a'.tmps.getD 31 undef, a'.tmps.getD 32 undef, a'.tmps.getD 33 undef, a'.tmps.getD 34 undef, a'.tmps.getD 35 undef, a'.tmps.getD 36 undef], []⟩ := by rw [← (show a'.defers = [] from ha.2.1)]; exact act_eq a' 37 ha.1
      rw [d28, d8, d3, d1, d5, d9] at e2
      clear hG ha d28 d8 d3 d1 d5 d9
      generalize a'.tmps.getD 0 undef = x0 at *
      generalize a'.tmps.getD 2 undef = x2 at *
      generalize a'.tmps.getD 4 undef = x4 at *
      generalize a'.tmps.getD 6 undef = x6 at *
      generalize a'.tmps.getD 7 undef = x7 at *
      generalize a'.tmps.getD 10 undef = x10 at *
      generalize a'.tmps.getD 11 undef = x11 at *
      generalize a'.tmps.getD 12 undef = x12 at *
      generalize a'.tmps.getD 13 undef = x13 at *
      generalize a'.tmps.getD 14 undef = x14 at *
      generalize a'.tmps.getD 15 undef = x15 at *
      generalize a'.tmps.getD 16 undef = x16 at *
      generalize a'.tmps.getD 17 undef = x17 at *
      generalize a'.tmps.getD 18 undef = x18 at *
      generalize a'.tmps.getD 19 undef = x19 at *
      generalize a'.tmps.getD 20 undef = x20 at *
      generalize a'.tmps.getD 21 undef = x21 at *
      generalize a'.tmps.getD 22 undef = x22 at *
      generalize a'.tmps.getD 23 undef = x23 at *
      generalize a'.tmps.getD 24 undef = x24 at *
      generalize a'.tmps.getD 25 undef = x25 at *
      generalize a'.tmps.getD 26 undef = x26 at *
      generalize a'.tmps.getD 27 undef = x27 at *
      generalize a'.tmps.getD 29 undef = x29 at *
      generalize a'.tmps.getD 30 undef = x30 at *
      generalize a'.tmps.getD 31 undef = x31 at *
      generalize a'.tmps.getD 32 undef = x32 at *
      generalize a'.tmps.getD 33 undef = x33 at *
      generalize a'.tmps.getD 34 undef = x34 at *
      generalize a'.tmps.getD 35 undef = x35 at *
      generalize a'.tmps.getD 36 undef = x36 at *
      subst e2
      simp only [List.drop_succ_cons, List.drop_zero]
      have r0 := r0.below hb r0.lt
      have kg := kg.below hb kg.lt
      have kh := kh.below hb kh.lt
      have k5 := k5.below hb k5.lt
      have hp := fun e he => (hp e he).below hb
      have hB := hB.trans (hb.mono hB.size)
      clear hb
      clear HI r9
      go_wp2_with fail
      have hGN : (([(32, Is (.agg #[.slice (some ⟨g5, 0, none⟩) n1 n1, .slice (some ⟨h5, 0, none⟩) n2 n2])), (33, Is (.agg #[.slice p n1 c1, .slice q n2 c2])), (34, HandedM ps ls n1 n2), (35, Is (.bool true)), (36, Is (.bool false))] : List (Nat × (Value → World → Prop))).map (·.1)).Nodup := by simp
      refine wp_region_steady 5 (SlotG [(32, Is (.agg #[.slice (some ⟨g5, 0, none⟩) n1 n1, .slice (some ⟨h5, 0, none⟩) n2 n2])), (33, Is (.agg #[.slice p n1 c1, .slice q n2 c2])), (34, HandedM ps ls n1 n2), (35, Is (.bool true)), (36, Is (.bool false))]) (by kernel_rfl) (by kernel_rfl) (Stabs.all ⟨stab_is _, stab_is _, stab_mesh ps ls n1 n2, stab_is _, stab_is _, trivial⟩) ?_ ?_
      · intro o ho
        simp only [List.take_succ_cons, List.take_zero, List.mem_cons, List.not_mem_nil, or_false] at ho
        rcases ho with rfl | rfl | rfl | rfl | rfl
        · intro a' w' hb ha hdep
          have d9 : a'.tmps.getD 9 undef = .pointer (some ⟨b5, 0, none⟩) := ha.at 9 (by kernel_rfl)
          have hmk := fun (x : Value) (W : World) => SlotG.mk (x := x) (w := W) 0 rfl hGN
          clear hGN ha hdep
          have y0 : w'.cell? ⟨b5, 0, none⟩ = some (.slice (some ⟨g5, 0, none⟩) n1 n1) := (k5.below hb k5.lt).cell 0
          have y1 : w'.cell? ⟨b5, 1, none⟩ = some (.slice (some ⟨h5, 0, none⟩) n2 n2) := (k5.below hb k5.lt).cell 1
          go_simp
          exact ⟨_, rfl, Below.refl _ _, hmk _ _ rfl⟩
        · intro a' w' hb ha hdep
          have d3 : a'.tmps.getD 3 undef = .pointer (some ⟨w.heap.size, 0, none⟩) := ha.at 3 (by kernel_rfl)
          have hmk := fun (x : Value) (W : World) => SlotG.mk (x := x) (w := W) 1 rfl hGN
          clear hGN ha hdep
          have y0 : w'.cell? ⟨w.heap.size, 0, none⟩ = some (.slice p n1 c1) := (r0.below hb r0.lt).cell 0
          have y1 : w'.cell? ⟨w.heap.size, 1, none⟩ = some (.slice q n2 c2) := (r0.below hb r0.lt).cell 1
          go_simp
          exact ⟨_, rfl, Below.refl _ _, hmk _ _ rfl⟩
        · intro a' w' hb ha hdep
          have d33 : a'.tmps.getD 33 undef = .agg #[.slice p n1 c1, .slice q n2 c2] := (hdep 33 (of_decide_eq_true (by kernel_rfl))).is 1 rfl
          have hmk := fun (x : Value) (W : World) => SlotG.mk (x := x) (w := W) 2 rfl hGN
          clear hGN ha hdep
          go_simp
          refine (HT.out _ (HX.out.below (hB.trans (hb.mono hB.size)))).mono ?_
          rintro e w2 ⟨g, qs, h, rfl, -, -, em, r6, r7, r8, hb2⟩
          exact ⟨_, rfl, hb2, hmk _ _ ⟨g, qs, h, rfl, em, r6, r7, r8⟩⟩
        · intro a' w' hb ha hdep
          have d32 : a'.tmps.getD 32 undef = .agg #[.slice (some ⟨g5, 0, none⟩) n1 n1, .slice (some ⟨h5, 0, none⟩) n2 n2] := (hdep 32 (of_decide_eq_true (by kernel_rfl))).is 0 rfl
          have D34 := (hdep 34 (of_decide_eq_true (by kernel_rfl))).get 2 rfl
          have hmk := fun (x : Value) (W : World) => SlotG.mk (x := x) (w := W) 3 rfl hGN
          clear hGN ha hdep
          obtain ⟨g, qs, h, d34, em, r6, r7, r8⟩ := D34
          go_simp
          refine (HE.out _ _ _ _ _ _ _ hqm em (ivsIn_row (kg.below hb kg.lt) (fun e he => ((hp e he).below hb).inIv)) (lisAt_row (kh.below hb kh.lt)).lisIn (ivsIn_row r6 (fun e he => (r7 e he).inIv)) (lisAt_row r8).lisIn).mono ?_
          rintro e w2 ⟨rfl, hb2⟩
          exact ⟨_, rfl, hb2, hmk _ _ rfl⟩
        · intro a' w' hb ha hdep
          have d35 : a'.tmps.getD 35 undef = .bool true := (hdep 35 (of_decide_eq_true (by kernel_rfl))).is 3 rfl
          have hmk := fun (x : Value) (W : World) => SlotG.mk (x := x) (w := W) 4 rfl hGN
          clear hGN ha hdep
          go_simp
          exact ⟨_, rfl, Below.refl _ _, hmk _ _ rfl⟩
      · intro a' w' hb ha hG
        clear hGN
        have d36 : a'.tmps.getD 36 undef = .bool false := (hG _ (List.mem_of_getElem? (i := 4) rfl) 36 rfl).is 4 rfl
        have d9 : a'.tmps.getD 9 undef = .pointer (some ⟨b5, 0, none⟩) := ha.at 9 (by kernel_rfl)
        have d3 : a'.tmps.getD 3 undef = .pointer (some ⟨w.heap.size, 0, none⟩) := ha.at 3 (by kernel_rfl)
        have e2 : a' = ⟨#[a'.tmps.getD 0 undef, a'.tmps.getD 1 undef, a'.tmps.getD 2 undef, a'.tmps.getD 3 undef, a'.tmps.getD 4 undef, a'.tmps.getD 5 undef, a'.tmps.getD 6 undef, a'.tmps.getD 7 undef, a'.tmps.getD 8 undef, a'.tmps.getD 9 undef, a'.tmps.getD 10 undef, a'.tmps.getD 11 undef, a'.tmps.getD 12 undef, a'.tmps.getD 13 undef, a'.tmps.getD 14 undef, a'.tmps.getD 15 undef, a'.tmps.getD 16 undef, a'.tmps.getD 17 undef, a'.tmps.getD 18 undef, a'.tmps.getD 19 undef, a'.tmps.getD 20 undef, a'.tmps.getD 21 undef, a'.tmps.getD 22 undef, a'.tmps.getD 23 undef, a'.tmps.getD 24 undef, a'.tmps.getD 25 undef, a'.tmps.getD 26 undef, a'.tmps.getD 27 undef, a'.tmps.getD 28 undef, a'.tmps.getD 29 undef, a'.tmps.getD 30 undef, a'.tmps.getD 31 undef, a'.tmps.getD 32 undef, a'.tmps.getD 33 undef, a'.tmps.getD 34 undef, a'.tmps.getD 35 undef, a'.tmps.getD 36 undef], []⟩ := by rw [← (show a'.defers = [] from ha.2.1)]; exact act_eq a' 37 ha.1
        rw [d36, d9, d3] at e2
        clear hG ha d36 d9 d3
        generalize a'.tmps.getD 0 undef = x0 at *
        generalize a'.tmps.getD 1 undef = x1 at *
        generalize a'.tmps.getD 2 undef = x2 at *
        generalize a'.tmps.getD 4 undef = x4 at *
        generalize a'.tmps.getD 5 undef = x5 at *
        generalize a'.tmps.getD 6 undef = x6 at *
        generalize a'.tmps.getD 7 undef = x7 at *
        generalize a'.tmps.getD 8 undef = x8 at *
        generalize a'.tmps.getD 10 undef = x10 at *
        generalize a'.tmps.getD 11 undef = x11 at *
        generalize a'.tmps.getD 12 undef = x12 at *
        generalize a'.tmps.getD 13 undef = x13 at *
        generalize a'.tmps.getD 14 undef = x14 at *
        generalize a'.tmps.getD 15 undef = x15 at *
        generalize a'.tmps.getD 16 undef = x16 at *
        generalize a'.tmps.getD 17 undef = x17 at *
        generalize a'.tmps.getD 18 undef = x18 at *
        generalize a'.tmps.getD 19 undef = x19 at *
        generalize a'.tmps.getD 20 undef = x20 at *
        generalize a'.tmps.getD 21 undef = x21 at *
        generalize a'.tmps.getD 22 undef = x22 at *
        generalize a'.tmps.getD 23 undef = x23 at *
        generalize a'.tmps.getD 24 undef = x24 at *
        generalize a'.tmps.getD 25 undef = x25 at *
        generalize a'.tmps.getD 26 undef = x26 at *
        generalize a'.tmps.getD 27 undef = x27 at *
        generalize a'.tmps.getD 28 undef = x28 at *
        generalize a'.tmps.getD 29 undef = x29 at *
        generalize a'.tmps.getD 30 undef = x30 at *
        generalize a'.tmps.getD 31 undef = x31 at *
        generalize a'.tmps.getD 32 undef = x32 at *
        generalize a'.tmps.getD 33 undef = x33 at *
        generalize a'.tmps.getD 34 undef = x34 at *
        generalize a'.tmps.getD 35 undef = x35 at *
        subst e2
        simp only [List.drop_succ_cons, List.drop_zero]
        have hB10 := hB.trans (hb.mono hB.size)
        clear hb
        go_wp2
        go_ret
        exact ⟨rfl, hB10⟩
end Go.Proofs.Ytfmaeicodljgkaa
