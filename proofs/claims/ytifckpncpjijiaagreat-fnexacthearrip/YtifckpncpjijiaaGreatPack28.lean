/- Texts that stand on each other, in one file: RLearnS. -/
import Derived.Test.YtifckpncpjijiaaGreatPack23
import Derived.Test.YtifckpncpjijiaaGreatPack27
import Derived.Test.YtifckpncpjijiaaGreatPack3
import Derived.Test.YtifckpncpjijiaaGreatPack16
/- RibLearn of the model, of what is right. (Written by gen_rlearns.py.) -/
namespace Go.Proofs.YtifckpncpjijiaaGreat
open Go.RowKit Go.Sort

theorem ownsR_monoS {w : World} {base base' n : Nat} {v : Value} {xs : List Value} (h : w.ownsRow base 98 9 v n xs) (hb : base' ≤ base) : w.ownsRow base' 98 9 v n xs := ownsR_mono h hb
theorem stab_rib (B : Nat) (qs : List Rt) : ∀ (x : Value) (w1 w2 : World), (∃ q c, x = .agg #[.slice q qs.length c] ∧ w1.ownsRow B 98 9 (.slice q qs.length c) qs.length (rowR qs)) → Below w1.heap.size w1 w2 → ∃ q c, x = .agg #[.slice q qs.length c] ∧ w2.ownsRow B 98 9 (.slice q qs.length c) qs.length (rowR qs) := by
  rintro x w1 w2 ⟨q, c, e, h⟩ hb
  exact ⟨q, c, e, ownsR_below h hb⟩
theorem rts_some {w : World} {p : Option Addr} {rs : List Rt} {k : Nat} (h : RtsIn w p rs) (hk : k < rs.length) : ∃ g, p = some ⟨g, 0, none⟩ := by
  rcases h with rfl | ⟨g, e, _⟩
  · simp at hk
  · exact ⟨g, e⟩
theorem rts_nine {w : World} {g : Nat} {rs : List Rt} {k : Nat} {v : Rt} (h : RtsIn w (some ⟨g, 0, none⟩) rs) (hk : k < rs.length) (he : rs[k] = v) : w.cell? ⟨g, k * 9, none⟩ = some (.int .i64 v.a) ∧ w.cell? ⟨g, k * 9 + 1, none⟩ = some (.int .i64 v.l) ∧ w.cell? ⟨g, k * 9 + 2, none⟩ = some (.int .i64 v.m) ∧ w.cell? ⟨g, k * 9 + 3, none⟩ = some (.int .i64 v.n) ∧ w.cell? ⟨g, k * 9 + 4, none⟩ = some (.int .i64 v.i) ∧ w.cell? ⟨g, k * 9 + 5, none⟩ = some (.int .i64 v.t) ∧ w.cell? ⟨g, k * 9 + 6, none⟩ = some (.int .i64 v.u) ∧ w.cell? ⟨g, k * 9 + 7, none⟩ = some (.int .i64 v.b) ∧ w.cell? ⟨g, k * 9 + 8, none⟩ = some (.bool v.c) := by
  subst he
  rcases h with rfl | ⟨g', e, hg, hc⟩
  · simp at hk
  · cases e
    exact ⟨hc _ _ (rowR_get rs k 0 hk (by omega)), hc _ _ (rowR_get rs k 1 hk (by omega)), hc _ _ (rowR_get rs k 2 hk (by omega)), hc _ _ (rowR_get rs k 3 hk (by omega)), hc _ _ (rowR_get rs k 4 hk (by omega)), hc _ _ (rowR_get rs k 5 hk (by omega)), hc _ _ (rowR_get rs k 6 hk (by omega)), hc _ _ (rowR_get rs k 7 hk (by omega)), hc _ _ (rowR_get rs k 8 hk (by omega))⟩
theorem look_at {rs : List Rt} {a l : Int} {old : Rt} (h : lookN rs a l = some old) : ∃ k, ∃ hlr : k < rs.length, atV rs a l = (k : Int) ∧ rs[k] = old := by
  have hs : (idxN rs a l).isSome = true := by rw [← look_idx, h]; rfl
  obtain ⟨k, hk⟩ := Option.isSome_iff_exists.1 hs
  obtain ⟨hlt, hl, _⟩ := idx_get hk
  rw [h] at hl
  refine ⟨k, hlt, ?_, by simpa using hl.symm⟩
  unfold atV
  rw [hk]
theorem look_no {rs : List Rt} {a l : Int} (h : lookN rs a l = none) : atV rs a l = -1 := by
  have hs : (idxN rs a l).isSome = false := by rw [← look_idx, h]; rfl
  unfold atV
  cases hi : idxN rs a l with
  | none => rfl
  | some k => rw [hi] at hs; cases hs
set_option maxRecDepth 100000 in
set_option maxHeartbeats 4000000 in
theorem learnS_gone (p : Option Addr) (cap : Nat) (rs : List Rt) (r : Rt) (now : Int) (w : World) (h : RtsIn w p rs) (hc : p = none → cap = 0) (hcl : rs.length ≤ cap) (hr : ribB rs = true) (_h0 : 0 ≤ now) (_h1 : now ≤ 999900) (hk : lookN rs r.a r.l = none) (hm : r.m = 16) :
    Calls Tryz.prog 98 #[ribV p rs.length cap, rtV r, .int .i64 now] w fun e w' => OutR w.heap.size 0 rs e w' ∧ Below w.heap.size w w' := by
  have HA : Hid (∀ w, RtsIn w p rs → Calls Tryz.prog 120 #[.agg #[.slice p rs.length cap], .agg #[.int .i64 r.a, .int .i64 r.l]] w fun e w' => e = .returned (.int .i64 (atV rs r.a r.l)) ∧ Below w.heap.size w w') := fun w h => l06At_any p cap rs r.a r.l w h (by have := ribB_len hr; omega)
  have HCp : Hid (∀ w, RtsIn w p rs → Calls Tryz.prog 117 #[.agg #[.slice p rs.length cap]] w fun e w' => ∃ q c, e = .returned (.agg #[.slice q rs.length c]) ∧ w'.ownsRow w.heap.size 98 9 (.slice q rs.length c) rs.length (rowR rs) ∧ Below w.heap.size w w') := fun w h => l06Copy_any p cap rs w h hc hcl (by have := ribB_len hr; omega)
  have HIl : Hid (∀ c w, Calls Tryz.prog 121 #[.int .i64 c] w fun e w' => e = .returned (.agg #[.slice none 0 0, .int .i64 c]) ∧ Below w.heap.size w w') := l06Ill_any
  have HP0 : Hid (∀ R w, RtsIn w p rs → Calls Tryz.prog 122 #[.agg #[.slice p rs.length cap], rtV R] w fun e w' => ∃ q c, e = .returned (.agg #[.slice q (insR rs R).length c]) ∧ w'.ownsRow w.heap.size 98 9 (.slice q (insR rs R).length c) (insR rs R).length (rowR (insR rs R)) ∧ Below w.heap.size w w') := fun R w h => l06Put_any p cap rs R w h hc hcl (by have := ribB_len hr; omega)
  have h8 := ribB_len hr
  have HX : Hid (RtsIn w p rs) := h
  rw [look_no hk] at HA
  have d16 : (r.m == 16) = true := by simpa using hm
  unfold OutR
  clear h hc hcl hr _h0 _h1 hk hm HIl HP0
  obtain ⟨a, l, m, n, ii, t, u, b, c⟩ := r
  generalize rs.length = N at *
  unfold ribV
  unfold rtV rtA
  simp only at HA d16 ⊢
  obtain ⟨W, hW, q0, q1, q2, hB, hS, -⟩ := rows3 w [.slice p N cap] [.int .i64 a, .int .i64 l, .int .i64 m, .int .i64 n, .int .i64 ii, .int .i64 t, .int .i64 u, .int .i64 b, .bool c] [.slice none 0 0, .int .i64 0] 36 98 112
  have HW : Hid _ := hW
  have HQ : Hid _ := And.intro q0 (And.intro q1 (And.intro q2 hB))
  have x0 : W.cell? ⟨w.heap.size, 0, none⟩ = some (.slice p N cap) := q0.cell 0
  have y0 : W.cell? ⟨w.heap.size + 1, 0, none⟩ = some (.int .i64 a) := q1.cell 0
  have y1 : W.cell? ⟨w.heap.size + 1, 1, none⟩ = some (.int .i64 l) := q1.cell 1
  rw [hW] at x0 y0 y1
  clear hW q0 q1 q2 hB
  go_enter Tryz.func98, Tryz.ntmps98
  go_wp2_with fail
  rw [← HW.out]
  obtain ⟨q0, q1, q2, hB⟩ := HQ.out
  clear HQ x0 y0 y1
  refine (HA.out _ ((HX.out).below hB)).mono ?_
  rintro e w1 ⟨rfl, hb1⟩
  have q0 := q0.below hb1 (by omega)
  have q1 := q1.below hb1 (by omega)
  have q2 := q2.below hb1 (by omega)
  have hB := hB.trans (hb1.mono (by omega))
  have hs1 := hb1.size
  clear hb1
  clear HA HW
  have x0 : w1.cell? ⟨w.heap.size, 0, none⟩ = some (.slice p N cap) := q0.cell 0
  have y2 : w1.cell? ⟨w.heap.size + 1, 2, none⟩ = some (.int .i64 m) := q1.cell 2
  go_wp2_with fail
  refine (HCp.out w1 ((HX.out).below hB)).mono ?_
  rintro e w2 ⟨q, cq, rfl, ho, hbc⟩
  have qr := q2.below hbc q2.lt
  have l2 := q2.lt
  have hB := hB.trans (hbc.mono hB.size)
  clear HCp q0 q1 q2
  have f0 : w2.frozen? ⟨w.heap.size + 1 + 1, 0, none⟩ = false := qr.frozen 0
  have f1 : w2.frozen? ⟨w.heap.size + 1 + 1, 1, none⟩ = false := qr.frozen 1
  have z0 : w2.cell? ⟨w.heap.size + 1 + 1, 0, none⟩ = some (.slice none 0 0) := qr.cell 0
  have z1 : w2.cell? ⟨w.heap.size + 1 + 1, 1, none⟩ = some (.int .i64 0) := qr.cell 1
  have HE2 : Hid _ := And.intro ((qr.set 0 (.slice q N cq)).set 1 (.int .i64 0)) (And.intro ((hB.setCell (p := ⟨w.heap.size + 1 + 1, 0, none⟩) (by show w.heap.size ≤ w.heap.size + 1 + 1; omega) (.slice q N cq)).setCell (p := ⟨w.heap.size + 1 + 1, 1, none⟩) (by show w.heap.size ≤ w.heap.size + 1 + 1; omega) (.int .i64 0)) (ownR_set (base' := w.heap.size) (ownR_set (base' := w.heap.size + 1 + 1 + 1) ho ⟨w.heap.size + 1 + 1, 0, none⟩ (by show w.heap.size + 1 + 1 < _; omega) (.slice q N cq) (by omega)) ⟨w.heap.size + 1 + 1, 1, none⟩ (by show w.heap.size + 1 + 1 < _; omega) (.int .i64 0) (by omega)))
  clear qr hB ho hbc
  go_wp2_with fail
  obtain ⟨h1, h2, h3⟩ := HE2.out
  clear HE2 f0 f1 z0 z1
  generalize (w2.setCell ⟨w.heap.size + 1 + 1, 0, none⟩ (.slice q N cq)).setCell ⟨w.heap.size + 1 + 1, 1, none⟩ (.int .i64 0) = Z at *
  have e0 : Z.cell? ⟨w.heap.size + 1 + 1, 0, none⟩ = some (.slice q N cq) := h1.cell 0
  have e1 : Z.cell? ⟨w.heap.size + 1 + 1, 1, none⟩ = some (.int .i64 0) := h1.cell 1
  exact bodyPost_ret (v := .agg #[.slice q N cq, .int .i64 0]) (by simp [results, Tryz.results98, go_sem, e0, e1]) rfl ⟨⟨_, _, rfl, h3⟩, h2⟩
set_option maxRecDepth 100000 in
set_option maxHeartbeats 4000000 in
theorem learnS_full (p : Option Addr) (cap : Nat) (rs : List Rt) (r : Rt) (now : Int) (w : World) (h : RtsIn w p rs) (hc : p = none → cap = 0) (hcl : rs.length ≤ cap) (hr : ribB rs = true) (_h0 : 0 ≤ now) (_h1 : now ≤ 999900) (hk : lookN rs r.a r.l = none) (hm : ¬ r.m = 16) (hf : 8 ≤ rs.length) :
    Calls Tryz.prog 98 #[ribV p rs.length cap, rtV r, .int .i64 now] w fun e w' => OutR w.heap.size 9 [] e w' ∧ Below w.heap.size w w' := by
  have HA : Hid (∀ w, RtsIn w p rs → Calls Tryz.prog 120 #[.agg #[.slice p rs.length cap], .agg #[.int .i64 r.a, .int .i64 r.l]] w fun e w' => e = .returned (.int .i64 (atV rs r.a r.l)) ∧ Below w.heap.size w w') := fun w h => l06At_any p cap rs r.a r.l w h (by have := ribB_len hr; omega)
  have HCp : Hid (∀ w, RtsIn w p rs → Calls Tryz.prog 117 #[.agg #[.slice p rs.length cap]] w fun e w' => ∃ q c, e = .returned (.agg #[.slice q rs.length c]) ∧ w'.ownsRow w.heap.size 98 9 (.slice q rs.length c) rs.length (rowR rs) ∧ Below w.heap.size w w') := fun w h => l06Copy_any p cap rs w h hc hcl (by have := ribB_len hr; omega)
  have HIl : Hid (∀ c w, Calls Tryz.prog 121 #[.int .i64 c] w fun e w' => e = .returned (.agg #[.slice none 0 0, .int .i64 c]) ∧ Below w.heap.size w w') := l06Ill_any
  have HP0 : Hid (∀ R w, RtsIn w p rs → Calls Tryz.prog 122 #[.agg #[.slice p rs.length cap], rtV R] w fun e w' => ∃ q c, e = .returned (.agg #[.slice q (insR rs R).length c]) ∧ w'.ownsRow w.heap.size 98 9 (.slice q (insR rs R).length c) (insR rs R).length (rowR (insR rs R)) ∧ Below w.heap.size w w') := fun R w h => l06Put_any p cap rs R w h hc hcl (by have := ribB_len hr; omega)
  have h8 := ribB_len hr
  have HX : Hid (RtsIn w p rs) := h
  rw [look_no hk] at HA
  have d16 : (r.m == 16) = false := by simpa using hm
  have d8 : decide ((8 : Int) ≤ (rs.length : Int)) = true := by simp; omega
  clear h hc hcl hr _h0 _h1 hk hm HCp HP0
  obtain ⟨a, l, m, n, ii, t, u, b, c⟩ := r
  generalize rs.length = N at *
  unfold ribV
  unfold rtV rtA
  simp only at HA d16 ⊢
  obtain ⟨W, hW, q0, q1, q2, hB, hS, -⟩ := rows3 w [.slice p N cap] [.int .i64 a, .int .i64 l, .int .i64 m, .int .i64 n, .int .i64 ii, .int .i64 t, .int .i64 u, .int .i64 b, .bool c] [.slice none 0 0, .int .i64 0] 36 98 112
  have HW : Hid _ := hW
  have HQ : Hid _ := And.intro q0 (And.intro q1 (And.intro q2 hB))
  have x0 : W.cell? ⟨w.heap.size, 0, none⟩ = some (.slice p N cap) := q0.cell 0
  have y0 : W.cell? ⟨w.heap.size + 1, 0, none⟩ = some (.int .i64 a) := q1.cell 0
  have y1 : W.cell? ⟨w.heap.size + 1, 1, none⟩ = some (.int .i64 l) := q1.cell 1
  rw [hW] at x0 y0 y1
  clear hW q0 q1 q2 hB
  go_enter Tryz.func98, Tryz.ntmps98
  go_wp2_with fail
  rw [← HW.out]
  obtain ⟨q0, q1, q2, hB⟩ := HQ.out
  clear HQ x0 y0 y1
  refine (HA.out _ ((HX.out).below hB)).mono ?_
  rintro e w1 ⟨rfl, hb1⟩
  have q0 := q0.below hb1 (by omega)
  have q1 := q1.below hb1 (by omega)
  have q2 := q2.below hb1 (by omega)
  have hB := hB.trans (hb1.mono (by omega))
  have hs1 := hb1.size
  clear hb1
  clear HA HW
  have x0 : w1.cell? ⟨w.heap.size, 0, none⟩ = some (.slice p N cap) := q0.cell 0
  have y2 : w1.cell? ⟨w.heap.size + 1, 2, none⟩ = some (.int .i64 m) := q1.cell 2
  go_wp2_with fail
  refine (HIl.out 9 _).mono ?_
  rintro e w2 ⟨rfl, hb2⟩
  have qr := q2.below hb2 q2.lt
  have hB := hB.trans (hb2.mono hB.size)
  clear HIl q0 q1 q2 x0 y2
  have f0 : w2.frozen? ⟨w.heap.size + 1 + 1, 0, none⟩ = false := qr.frozen 0
  have f1 : w2.frozen? ⟨w.heap.size + 1 + 1, 1, none⟩ = false := qr.frozen 1
  have z0 : w2.cell? ⟨w.heap.size + 1 + 1, 0, none⟩ = some (.slice none 0 0) := qr.cell 0
  have z1 : w2.cell? ⟨w.heap.size + 1 + 1, 1, none⟩ = some (.int .i64 0) := qr.cell 1
  have HE2 : Hid _ := And.intro ((qr.set 0 (.slice none 0 0)).set 1 (.int .i64 9)) (And.intro ((hB.setCell (p := ⟨w.heap.size + 1 + 1, 0, none⟩) (by show w.heap.size ≤ w.heap.size + 1 + 1; omega) (.slice none 0 0)).setCell (p := ⟨w.heap.size + 1 + 1, 1, none⟩) (by show w.heap.size ≤ w.heap.size + 1 + 1; omega) (.int .i64 9)) trivial)
  clear qr hB hb2
  go_wp2_with fail
  obtain ⟨h1, h2, h3⟩ := HE2.out
  clear HE2 f0 f1 z0 z1
  generalize (w2.setCell ⟨w.heap.size + 1 + 1, 0, none⟩ (.slice none 0 0)).setCell ⟨w.heap.size + 1 + 1, 1, none⟩ (.int .i64 9) = Z at *
  have e0 : Z.cell? ⟨w.heap.size + 1 + 1, 0, none⟩ = some (.slice none 0 0) := h1.cell 0
  have e1 : Z.cell? ⟨w.heap.size + 1 + 1, 1, none⟩ = some (.int .i64 9) := h1.cell 1
  exact bodyPost_ret (v := .agg #[.slice none 0 0, .int .i64 9]) (by simp [results, Tryz.results98, go_sem, e0, e1]) rfl ⟨⟨_, _, rfl, World.ownsRow_nil _ _ _ 9⟩, h2⟩
set_option maxRecDepth 100000 in
set_option maxHeartbeats 4000000 in
theorem learnS_new (p : Option Addr) (cap : Nat) (rs : List Rt) (r : Rt) (now : Int) (w : World) (h : RtsIn w p rs) (hc : p = none → cap = 0) (hcl : rs.length ≤ cap) (hr : ribB rs = true) (h0 : 0 ≤ now) (h1 : now ≤ 999900) (hk : lookN rs r.a r.l = none) (hm : ¬ r.m = 16) (hf : rs.length < 8) :
    Calls Tryz.prog 98 #[ribV p rs.length cap, rtV r, .int .i64 now] w fun e w' => OutR w.heap.size 0 (insR rs (freshR r now)) e w' ∧ Below w.heap.size w w' := by
  have HA : Hid (∀ w, RtsIn w p rs → Calls Tryz.prog 120 #[.agg #[.slice p rs.length cap], .agg #[.int .i64 r.a, .int .i64 r.l]] w fun e w' => e = .returned (.int .i64 (atV rs r.a r.l)) ∧ Below w.heap.size w w') := fun w h => l06At_any p cap rs r.a r.l w h (by have := ribB_len hr; omega)
  have HCp : Hid (∀ w, RtsIn w p rs → Calls Tryz.prog 117 #[.agg #[.slice p rs.length cap]] w fun e w' => ∃ q c, e = .returned (.agg #[.slice q rs.length c]) ∧ w'.ownsRow w.heap.size 98 9 (.slice q rs.length c) rs.length (rowR rs) ∧ Below w.heap.size w w') := fun w h => l06Copy_any p cap rs w h hc hcl (by have := ribB_len hr; omega)
  have HIl : Hid (∀ c w, Calls Tryz.prog 121 #[.int .i64 c] w fun e w' => e = .returned (.agg #[.slice none 0 0, .int .i64 c]) ∧ Below w.heap.size w w') := l06Ill_any
  have HP0 : Hid (∀ R w, RtsIn w p rs → Calls Tryz.prog 122 #[.agg #[.slice p rs.length cap], rtV R] w fun e w' => ∃ q c, e = .returned (.agg #[.slice q (insR rs R).length c]) ∧ w'.ownsRow w.heap.size 98 9 (.slice q (insR rs R).length c) (insR rs R).length (rowR (insR rs R)) ∧ Below w.heap.size w w') := fun R w h => l06Put_any p cap rs R w h hc hcl (by have := ribB_len hr; omega)
  have h8 := ribB_len hr
  have HX : Hid (RtsIn w p rs) := h
  rw [look_no hk] at HA
  have d16 : (r.m == 16) = false := by simpa using hm
  have d8 : decide ((8 : Int) ≤ (rs.length : Int)) = false := by simp; omega
  have HC : Hid (∀ w, Calls Tryz.prog 139 #[rtV r, .int .i64 now] w fun e w' => e = .returned (rtV (freshR r now)) ∧ Below w.heap.size w w') := fun w => l06Fresh_any r now w h0 h1
  have HP : Hid _ := HP0.out (freshR r now)
  clear h hc hcl hr h0 h1 hk hm HCp HIl HP0
  generalize insR rs (freshR r now) = qs at *
  generalize freshR r now = RR at *
  obtain ⟨a, l, m, n, ii, t, u, b, c⟩ := r
  generalize rs.length = N at *
  unfold ribV
  unfold rtV rtA
  simp only at HA d16 ⊢
  obtain ⟨Q0, Q1, Q2, Q3, Q4, Q5, Q6, Q7, Q8⟩ := RR
  unfold rtV rtA at HC HP
  simp only at HC HP
  obtain ⟨W, hW, q0, q1, q2, hB, hS, -⟩ := rows3 w [.slice p N cap] [.int .i64 a, .int .i64 l, .int .i64 m, .int .i64 n, .int .i64 ii, .int .i64 t, .int .i64 u, .int .i64 b, .bool c] [.slice none 0 0, .int .i64 0] 36 98 112
  have HW : Hid _ := hW
  have HQ : Hid _ := And.intro q0 (And.intro q1 (And.intro q2 hB))
  have x0 : W.cell? ⟨w.heap.size, 0, none⟩ = some (.slice p N cap) := q0.cell 0
  have y0 : W.cell? ⟨w.heap.size + 1, 0, none⟩ = some (.int .i64 a) := q1.cell 0
  have y1 : W.cell? ⟨w.heap.size + 1, 1, none⟩ = some (.int .i64 l) := q1.cell 1
  rw [hW] at x0 y0 y1
  clear hW q0 q1 q2 hB
  go_enter Tryz.func98, Tryz.ntmps98
  go_wp2_with fail
  rw [← HW.out]
  obtain ⟨q0, q1, q2, hB⟩ := HQ.out
  clear HQ x0 y0 y1
  refine (HA.out _ ((HX.out).below hB)).mono ?_
  rintro e w1 ⟨rfl, hb1⟩
  have q0 := q0.below hb1 (by omega)
  have q1 := q1.below hb1 (by omega)
  have q2 := q2.below hb1 (by omega)
  have hB := hB.trans (hb1.mono (by omega))
  have hs1 := hb1.size
  clear hb1
  clear HA HW
  have x0 : w1.cell? ⟨w.heap.size, 0, none⟩ = some (.slice p N cap) := q0.cell 0
  have y2 : w1.cell? ⟨w.heap.size + 1, 2, none⟩ = some (.int .i64 m) := q1.cell 2
  go_wp2_with fail
  clear x0 y2
  have hGN : (([(26, Is (.agg #[.slice p N cap])), (27, Is (.agg #[.int .i64 a, .int .i64 l, .int .i64 m, .int .i64 n, .int .i64 ii, .int .i64 t, .int .i64 u, .int .i64 b, .bool c])), (28, Is (.int .i64 now)), (29, Is (.agg #[.int .i64 Q0, .int .i64 Q1, .int .i64 Q2, .int .i64 Q3, .int .i64 Q4, .int .i64 Q5, .int .i64 Q6, .int .i64 Q7, .bool Q8])), (30, fun v W => ∃ q c, v = .agg #[.slice q qs.length c] ∧ W.ownsRow w1.heap.size 98 9 (.slice q qs.length c) qs.length (rowR qs))] : List (Nat × (Value → World → Prop))).map (·.1)).Nodup := by simp
  refine wp_region_steady 5 (SlotG [(26, Is (.agg #[.slice p N cap])), (27, Is (.agg #[.int .i64 a, .int .i64 l, .int .i64 m, .int .i64 n, .int .i64 ii, .int .i64 t, .int .i64 u, .int .i64 b, .bool c])), (28, Is (.int .i64 now)), (29, Is (.agg #[.int .i64 Q0, .int .i64 Q1, .int .i64 Q2, .int .i64 Q3, .int .i64 Q4, .int .i64 Q5, .int .i64 Q6, .int .i64 Q7, .bool Q8])), (30, fun v W => ∃ q c, v = .agg #[.slice q qs.length c] ∧ W.ownsRow w1.heap.size 98 9 (.slice q qs.length c) qs.length (rowR qs))]) (by kernel_rfl) (by kernel_rfl) (Stabs.all ⟨stab_is _, stab_is _, stab_is _, stab_is _, stab_rib w1.heap.size qs, trivial⟩) ?_ ?_
  · intro o ho
    simp only [List.take_succ_cons, List.take_zero, List.mem_cons, List.not_mem_nil, or_false] at ho
    rcases ho with rfl | rfl | rfl | rfl | rfl
    · intro a' w' hb ha hdep
      have d3 : a'.tmps.getD 3 undef = .pointer (some ⟨w.heap.size, 0, none⟩) := ha.at 3 (by kernel_rfl)
      have hmk := fun (x : Value) (W : World) => SlotG.mk (x := x) (w := W) 0 rfl hGN
      clear hGN ha hdep
      have y0 : w'.cell? ⟨w.heap.size, 0, none⟩ = some (.slice p N cap) := (q0.below hb q0.lt).cell 0
      go_simp
      exact ⟨_, rfl, Below.refl _ _, hmk _ _ rfl⟩
    · intro a' w' hb ha hdep
      have d4 : a'.tmps.getD 4 undef = .pointer (some ⟨w.heap.size + 1, 0, none⟩) := ha.at 4 (by kernel_rfl)
      have hmk := fun (x : Value) (W : World) => SlotG.mk (x := x) (w := W) 1 rfl hGN
      clear hGN ha hdep
      have y0 : w'.cell? ⟨w.heap.size + 1, 0, none⟩ = some (.int .i64 a) := (q1.below hb q1.lt).cell 0
      have y1 : w'.cell? ⟨w.heap.size + 1, 1, none⟩ = some (.int .i64 l) := (q1.below hb q1.lt).cell 1
      have y2 : w'.cell? ⟨w.heap.size + 1, 2, none⟩ = some (.int .i64 m) := (q1.below hb q1.lt).cell 2
      have y3 : w'.cell? ⟨w.heap.size + 1, 3, none⟩ = some (.int .i64 n) := (q1.below hb q1.lt).cell 3
      have y4 : w'.cell? ⟨w.heap.size + 1, 4, none⟩ = some (.int .i64 ii) := (q1.below hb q1.lt).cell 4
      have y5 : w'.cell? ⟨w.heap.size + 1, 5, none⟩ = some (.int .i64 t) := (q1.below hb q1.lt).cell 5
      have y6 : w'.cell? ⟨w.heap.size + 1, 6, none⟩ = some (.int .i64 u) := (q1.below hb q1.lt).cell 6
      have y7 : w'.cell? ⟨w.heap.size + 1, 7, none⟩ = some (.int .i64 b) := (q1.below hb q1.lt).cell 7
      have y8 : w'.cell? ⟨w.heap.size + 1, 8, none⟩ = some (.bool c) := (q1.below hb q1.lt).cell 8
      go_simp
      exact ⟨_, rfl, Below.refl _ _, hmk _ _ rfl⟩
    · intro a' w' hb ha hdep
      have d2 : a'.tmps.getD 2 undef = .int .i64 now := ha.at 2 (by kernel_rfl)
      have hmk := fun (x : Value) (W : World) => SlotG.mk (x := x) (w := W) 2 rfl hGN
      clear hGN ha hdep
      go_simp
      exact ⟨_, rfl, Below.refl _ _, hmk _ _ rfl⟩
    · intro a' w' hb ha hdep
      have d27 : a'.tmps.getD 27 undef = .agg #[.int .i64 a, .int .i64 l, .int .i64 m, .int .i64 n, .int .i64 ii, .int .i64 t, .int .i64 u, .int .i64 b, .bool c] := (hdep 27 (of_decide_eq_true (by kernel_rfl))).is 1 rfl
      have d28 : a'.tmps.getD 28 undef = .int .i64 now := (hdep 28 (of_decide_eq_true (by kernel_rfl))).is 2 rfl
      have hmk := fun (x : Value) (W : World) => SlotG.mk (x := x) (w := W) 3 rfl hGN
      clear hGN ha hdep
      go_simp
      refine (HC.out _).mono ?_
      rintro e w2 ⟨rfl, hb2⟩
      exact ⟨_, rfl, hb2, hmk _ _ rfl⟩
    · intro a' w' hb ha hdep
      have d26 : a'.tmps.getD 26 undef = .agg #[.slice p N cap] := (hdep 26 (of_decide_eq_true (by kernel_rfl))).is 0 rfl
      have d29 : a'.tmps.getD 29 undef = .agg #[.int .i64 Q0, .int .i64 Q1, .int .i64 Q2, .int .i64 Q3, .int .i64 Q4, .int .i64 Q5, .int .i64 Q6, .int .i64 Q7, .bool Q8] := (hdep 29 (of_decide_eq_true (by kernel_rfl))).is 3 rfl
      have hmk := fun (x : Value) (W : World) => SlotG.mk (x := x) (w := W) 4 rfl hGN
      clear hGN ha hdep
      go_simp
      refine (HP.out _ ((HX.out).below (hB.trans (hb.mono hB.size)))).mono ?_
      rintro e w2 ⟨q, c, rfl, ho, hb2⟩
      exact ⟨_, rfl, hb2, hmk _ _ ⟨q, c, rfl, ownsR_monoS ho hb.size⟩⟩
  · intro a' w' hb ha hG
    clear hGN
    have D30 := (hG _ (List.mem_of_getElem? (i := 4) rfl) 30 rfl).get 4 rfl
    have d6 : a'.tmps.getD 6 undef = .pointer (some ⟨w.heap.size + 1 + 1, 0, none⟩) := ha.at 6 (by kernel_rfl)
    have e2 : a' = ⟨#[a'.tmps.getD 0 undef, a'.tmps.getD 1 undef, a'.tmps.getD 2 undef, a'.tmps.getD 3 undef, a'.tmps.getD 4 undef, a'.tmps.getD 5 undef, a'.tmps.getD 6 undef, a'.tmps.getD 7 undef, a'.tmps.getD 8 undef, a'.tmps.getD 9 undef, a'.tmps.getD 10 undef, a'.tmps.getD 11 undef, a'.tmps.getD 12 undef, a'.tmps.getD 13 undef, a'.tmps.getD 14 undef, a'.tmps.getD 15 undef, a'.tmps.getD 16 undef, a'.tmps.getD 17 undef, a'.tmps.getD 18 undef, a'.tmps.getD 19 undef, a'.tmps.getD 20 undef, a'.tmps.getD 21 undef, a'.tmps.getD 22 undef, a'.tmps.getD 23 undef, a'.tmps.getD 24 undef, a'.tmps.getD 25 undef, a'.tmps.getD 26 undef, a'.tmps.getD 27 undef, a'.tmps.getD 28 undef, a'.tmps.getD 29 undef, a'.tmps.getD 30 undef, a'.tmps.getD 31 undef, a'.tmps.getD 32 undef, a'.tmps.getD 33 undef, a'.tmps.getD 34 undef, a'.tmps.getD 35 undef, a'.tmps.getD 36 undef, a'.tmps.getD 37 undef, a'.tmps.getD 38 undef, a'.tmps.getD 39 undef, a'.tmps.getD 40 undef, a'.tmps.getD 41 undef, a'.tmps.getD 42 undef, a'.tmps.getD 43 undef, a'.tmps.getD 44 undef, a'.tmps.getD 45 undef, a'.tmps.getD 46 undef, a'.tmps.getD 47 undef, a'.tmps.getD 48 undef, a'.tmps.getD 49 undef, a'.tmps.getD 50 undef, a'.tmps.getD 51 undef, a'.tmps.getD 52 undef, a'.tmps.getD 53 undef, a'.tmps.getD 54 undef, a'.tmps.getD 55 undef, a'.tmps.getD 56 undef, a'.tmps.getD 57 undef, a'.tmps.getD 58 undef, a'.tmps.getD 59 undef, a'.tmps.getD 60 undef, a'.tmps.getD 61 undef, a'.tmps.getD 62 undef, a'.tmps.getD 63 undef, a'.tmps.getD 64 undef, a'.tmps.getD 65 undef, a'.tmps.getD 66 undef, a'.tmps.getD 67 undef, a'.tmps.getD 68 undef, a'.tmps.getD 69 undef, a'.tmps.getD 70 undef, a'.tmps.getD 71 undef, a'.tmps.getD 72 undef, a'.tmps.getD 73 undef, a'.tmps.getD 74 undef, a'.tmps.getD 75 undef, a'.tmps.getD 76 undef, a'.tmps.getD 77 undef, a'.tmps.getD 78 undef], []⟩ := by rw [← (show a'.defers = [] from ha.2.1)]; exact act_eq a' 79 ha.1
    rw [d6] at e2
    clear hG ha d6
    generalize a'.tmps.getD 0 undef = x0 at *
    generalize a'.tmps.getD 1 undef = x1 at *
    generalize a'.tmps.getD 2 undef = x2 at *
    generalize a'.tmps.getD 3 undef = x3 at *
    generalize a'.tmps.getD 4 undef = x4 at *
    generalize a'.tmps.getD 5 undef = x5 at *
    generalize a'.tmps.getD 7 undef = x7 at *
    generalize a'.tmps.getD 8 undef = x8 at *
    generalize a'.tmps.getD 9 undef = x9 at *
    generalize a'.tmps.getD 10 undef = x10 at *
    generalize a'.tmps.getD 11 undef = x11 at *
    generalize a'.tmps.getD 12 undef = x12 at *
    generalize a'.tmps.getD 13 undef = x13 at *
    generalize a'.tmps.getD 14 undef = x14 at *
    generalize a'.tmps.getD 15 undef = x15 at *
    generalize a'.tmps.getD 16 undef = x16 at *
    generalize a'.tmps.getD 17 undef = x17 at *
    generalize a'.tmps.getD 18 undef = x18 at *
    generalize a'.tmps.getD 19 undef = x19 at *
    generalize a'.tmps.getD 20 undef = x20 at *
    generalize a'.tmps.getD 21 undef = x21 at *
    generalize a'.tmps.getD 22 undef = x22 at *
    generalize a'.tmps.getD 23 undef = x23 at *
    generalize a'.tmps.getD 24 undef = x24 at *
    generalize a'.tmps.getD 25 undef = x25 at *
    generalize a'.tmps.getD 26 undef = x26 at *
    generalize a'.tmps.getD 27 undef = x27 at *
    generalize a'.tmps.getD 28 undef = x28 at *
    generalize a'.tmps.getD 29 undef = x29 at *
    generalize a'.tmps.getD 30 undef = x30 at *
    generalize a'.tmps.getD 31 undef = x31 at *
    generalize a'.tmps.getD 32 undef = x32 at *
    generalize a'.tmps.getD 33 undef = x33 at *
    generalize a'.tmps.getD 34 undef = x34 at *
    generalize a'.tmps.getD 35 undef = x35 at *
    generalize a'.tmps.getD 36 undef = x36 at *
    generalize a'.tmps.getD 37 undef = x37 at *
    generalize a'.tmps.getD 38 undef = x38 at *
    generalize a'.tmps.getD 39 undef = x39 at *
    generalize a'.tmps.getD 40 undef = x40 at *
    generalize a'.tmps.getD 41 undef = x41 at *
    generalize a'.tmps.getD 42 undef = x42 at *
    generalize a'.tmps.getD 43 undef = x43 at *
    generalize a'.tmps.getD 44 undef = x44 at *
    generalize a'.tmps.getD 45 undef = x45 at *
    generalize a'.tmps.getD 46 undef = x46 at *
    generalize a'.tmps.getD 47 undef = x47 at *
    generalize a'.tmps.getD 48 undef = x48 at *
    generalize a'.tmps.getD 49 undef = x49 at *
    generalize a'.tmps.getD 50 undef = x50 at *
    generalize a'.tmps.getD 51 undef = x51 at *
    generalize a'.tmps.getD 52 undef = x52 at *
    generalize a'.tmps.getD 53 undef = x53 at *
    generalize a'.tmps.getD 54 undef = x54 at *
    generalize a'.tmps.getD 55 undef = x55 at *
    generalize a'.tmps.getD 56 undef = x56 at *
    generalize a'.tmps.getD 57 undef = x57 at *
    generalize a'.tmps.getD 58 undef = x58 at *
    generalize a'.tmps.getD 59 undef = x59 at *
    generalize a'.tmps.getD 60 undef = x60 at *
    generalize a'.tmps.getD 61 undef = x61 at *
    generalize a'.tmps.getD 62 undef = x62 at *
    generalize a'.tmps.getD 63 undef = x63 at *
    generalize a'.tmps.getD 64 undef = x64 at *
    generalize a'.tmps.getD 65 undef = x65 at *
    generalize a'.tmps.getD 66 undef = x66 at *
    generalize a'.tmps.getD 67 undef = x67 at *
    generalize a'.tmps.getD 68 undef = x68 at *
    generalize a'.tmps.getD 69 undef = x69 at *
    generalize a'.tmps.getD 70 undef = x70 at *
    generalize a'.tmps.getD 71 undef = x71 at *
    generalize a'.tmps.getD 72 undef = x72 at *
    generalize a'.tmps.getD 73 undef = x73 at *
    generalize a'.tmps.getD 74 undef = x74 at *
    generalize a'.tmps.getD 75 undef = x75 at *
    generalize a'.tmps.getD 76 undef = x76 at *
    generalize a'.tmps.getD 77 undef = x77 at *
    generalize a'.tmps.getD 78 undef = x78 at *
    subst e2
    simp only [List.drop_succ_cons, List.drop_zero]
    obtain ⟨q, cq, rfl, ho⟩ := D30
    have l2 := q2.lt
    have hsw := hb.size
    have qr := q2.below hb q2.lt
    have hB := hB.trans (hb.mono hB.size)
    clear hb q0 q1 q2 HC HP
    have f0 : w'.frozen? ⟨w.heap.size + 1 + 1, 0, none⟩ = false := qr.frozen 0
    have f1 : w'.frozen? ⟨w.heap.size + 1 + 1, 1, none⟩ = false := qr.frozen 1
    have z0 : w'.cell? ⟨w.heap.size + 1 + 1, 0, none⟩ = some (.slice none 0 0) := qr.cell 0
    have z1 : w'.cell? ⟨w.heap.size + 1 + 1, 1, none⟩ = some (.int .i64 0) := qr.cell 1
    have HE2 : Hid _ := And.intro ((qr.set 0 (.slice q qs.length cq)).set 1 (.int .i64 0)) (And.intro ((hB.setCell (p := ⟨w.heap.size + 1 + 1, 0, none⟩) (by show w.heap.size ≤ w.heap.size + 1 + 1; omega) (.slice q qs.length cq)).setCell (p := ⟨w.heap.size + 1 + 1, 1, none⟩) (by show w.heap.size ≤ w.heap.size + 1 + 1; omega) (.int .i64 0)) (ownR_set (base' := w.heap.size) (ownR_set (base' := w.heap.size + 1 + 1 + 1) ho ⟨w.heap.size + 1 + 1, 0, none⟩ (by show w.heap.size + 1 + 1 < _; omega) (.slice q qs.length cq) (by omega)) ⟨w.heap.size + 1 + 1, 1, none⟩ (by show w.heap.size + 1 + 1 < _; omega) (.int .i64 0) (by omega)))
    clear qr hB ho
    go_wp2_with fail
    obtain ⟨h1, h2, h3⟩ := HE2.out
    clear HE2 f0 f1 z0 z1
    generalize (w'.setCell ⟨w.heap.size + 1 + 1, 0, none⟩ (.slice q qs.length cq)).setCell ⟨w.heap.size + 1 + 1, 1, none⟩ (.int .i64 0) = Z at *
    have e0 : Z.cell? ⟨w.heap.size + 1 + 1, 0, none⟩ = some (.slice q qs.length cq) := h1.cell 0
    have e1 : Z.cell? ⟨w.heap.size + 1 + 1, 1, none⟩ = some (.int .i64 0) := h1.cell 1
    exact bodyPost_ret (v := .agg #[.slice q qs.length cq, .int .i64 0]) (by simp [results, Tryz.results98, go_sem, e0, e1]) rfl ⟨⟨_, _, rfl, h3⟩, h2⟩
set_option maxRecDepth 100000 in
set_option maxHeartbeats 4000000 in
theorem learnS_own (p : Option Addr) (cap : Nat) (rs : List Rt) (r : Rt) (now : Int) (w : World) (h : RtsIn w p rs) (hc : p = none → cap = 0) (hcl : rs.length ≤ cap) (hr : ribB rs = true) (_h0 : 0 ≤ now) (_h1 : now ≤ 999900) (old : Rt) (hk : lookN rs r.a r.l = some old) (c1 : old.n = 0) :
    Calls Tryz.prog 98 #[ribV p rs.length cap, rtV r, .int .i64 now] w fun e w' => OutR w.heap.size 0 rs e w' ∧ Below w.heap.size w w' := by
  have HA : Hid (∀ w, RtsIn w p rs → Calls Tryz.prog 120 #[.agg #[.slice p rs.length cap], .agg #[.int .i64 r.a, .int .i64 r.l]] w fun e w' => e = .returned (.int .i64 (atV rs r.a r.l)) ∧ Below w.heap.size w w') := fun w h => l06At_any p cap rs r.a r.l w h (by have := ribB_len hr; omega)
  have HCp : Hid (∀ w, RtsIn w p rs → Calls Tryz.prog 117 #[.agg #[.slice p rs.length cap]] w fun e w' => ∃ q c, e = .returned (.agg #[.slice q rs.length c]) ∧ w'.ownsRow w.heap.size 98 9 (.slice q rs.length c) rs.length (rowR rs) ∧ Below w.heap.size w w') := fun w h => l06Copy_any p cap rs w h hc hcl (by have := ribB_len hr; omega)
  have HIl : Hid (∀ c w, Calls Tryz.prog 121 #[.int .i64 c] w fun e w' => e = .returned (.agg #[.slice none 0 0, .int .i64 c]) ∧ Below w.heap.size w w') := l06Ill_any
  have HP0 : Hid (∀ R w, RtsIn w p rs → Calls Tryz.prog 122 #[.agg #[.slice p rs.length cap], rtV R] w fun e w' => ∃ q c, e = .returned (.agg #[.slice q (insR rs R).length c]) ∧ w'.ownsRow w.heap.size 98 9 (.slice q (insR rs R).length c) (insR rs R).length (rowR (insR rs R)) ∧ Below w.heap.size w w') := fun R w h => l06Put_any p cap rs R w h hc hcl (by have := ribB_len hr; omega)
  have h8 := ribB_len hr
  have HX : Hid (RtsIn w p rs) := h
  obtain ⟨k, hlr, hidx, hek⟩ : ∃ k, ∃ hlr : k < rs.length, atV rs r.a r.l = (k : Int) ∧ rs[k] = old := look_at hk
  rw [hidx] at HA
  have d0 : (old.n == 0) = true := by simpa using c1
  have hd : decide ((k : Int) < 0) = false := decide_eq_false (by omega)
  have hkN : k < rs.length := hlr
  have hkd : decide ((k : Int) < (rs.length : Int)) = true := by simpa using hlr
  obtain ⟨g, hpg⟩ : ∃ g, p = some ⟨g, 0, none⟩ := rts_some (HX.out) hlr
  subst hpg
  have hv := fun (W : World) (h : RtsIn W (some ⟨g, 0, none⟩) rs) => rts_nine h hlr hek
  have HV : Hid _ := hv
  clear hv hlr hek
  clear h hc hcl hr _h0 _h1 hidx HIl hk c1 HP0
  unfold OutR
  obtain ⟨V0, V1, V2, V3, V4, V5, V6, V7, V8⟩ := old
  obtain ⟨a, l, m, n, ii, t, u, b, c⟩ := r
  generalize rs.length = N at *
  unfold ribV
  unfold rtV rtA
  simp only at HA d0 ⊢
  obtain ⟨W, hW, q0, q1, q2, hB, hS, -⟩ := rows3 w [.slice (some ⟨g, 0, none⟩) N cap] [.int .i64 a, .int .i64 l, .int .i64 m, .int .i64 n, .int .i64 ii, .int .i64 t, .int .i64 u, .int .i64 b, .bool c] [.slice none 0 0, .int .i64 0] 36 98 112
  have HW : Hid _ := hW
  have HQ : Hid _ := And.intro q0 (And.intro q1 (And.intro q2 hB))
  have x0 : W.cell? ⟨w.heap.size, 0, none⟩ = some (.slice (some ⟨g, 0, none⟩) N cap) := q0.cell 0
  have y0 : W.cell? ⟨w.heap.size + 1, 0, none⟩ = some (.int .i64 a) := q1.cell 0
  have y1 : W.cell? ⟨w.heap.size + 1, 1, none⟩ = some (.int .i64 l) := q1.cell 1
  rw [hW] at x0 y0 y1
  clear hW q0 q1 q2 hB
  go_enter Tryz.func98, Tryz.ntmps98
  go_wp2_with fail
  rw [← HW.out]
  obtain ⟨q0, q1, q2, hB⟩ := HQ.out
  clear HQ x0 y0 y1
  refine (HA.out _ ((HX.out).below hB)).mono ?_
  rintro e w1 ⟨rfl, hb1⟩
  have q0 := q0.below hb1 (by omega)
  have q1 := q1.below hb1 (by omega)
  have q2 := q2.below hb1 (by omega)
  have hB := hB.trans (hb1.mono (by omega))
  have hs1 := hb1.size
  clear hb1
  clear HA HW
  have x0 : w1.cell? ⟨w.heap.size, 0, none⟩ = some (.slice (some ⟨g, 0, none⟩) N cap) := q0.cell 0
  have y2 : w1.cell? ⟨w.heap.size + 1, 2, none⟩ = some (.int .i64 m) := q1.cell 2
  obtain ⟨c0, c1, c2, c3, c4, c5, c6, c7, c8⟩ := HV.out _ ((HX.out).below hB)
  have HE : Hid _ := And.intro (q0.alloc (.cells #[.int .i64 V0, .int .i64 V1, .int .i64 V2, .int .i64 V3, .int .i64 V4, .int .i64 V5, .int .i64 V6, .int .i64 V7, .bool V8] 98)) (And.intro (q1.alloc (.cells #[.int .i64 V0, .int .i64 V1, .int .i64 V2, .int .i64 V3, .int .i64 V4, .int .i64 V5, .int .i64 V6, .int .i64 V7, .bool V8] 98)) (And.intro (q2.alloc (.cells #[.int .i64 V0, .int .i64 V1, .int .i64 V2, .int .i64 V3, .int .i64 V4, .int .i64 V5, .int .i64 V6, .int .i64 V7, .bool V8] 98)) (And.intro (Row.new w1 98 [.int .i64 V0, .int .i64 V1, .int .i64 V2, .int .i64 V3, .int .i64 V4, .int .i64 V5, .int .i64 V6, .int .i64 V7, .bool V8]) (hB.alloc hB.size (.cells #[.int .i64 V0, .int .i64 V1, .int .i64 V2, .int .i64 V3, .int .i64 V4, .int .i64 V5, .int .i64 V6, .int .i64 V7, .bool V8] 98)))))
  have p1 := q1.alloc (.cells #[.int .i64 V0, .int .i64 V1, .int .i64 V2, .int .i64 V3, .int .i64 V4, .int .i64 V5, .int .i64 V6, .int .i64 V7, .bool V8] 98)
  have p0 := q0.alloc (.cells #[.int .i64 V0, .int .i64 V1, .int .i64 V2, .int .i64 V3, .int .i64 V4, .int .i64 V5, .int .i64 V6, .int .i64 V7, .bool V8] 98)
  have z2 : (w1.alloc (.cells #[.int .i64 V0, .int .i64 V1, .int .i64 V2, .int .i64 V3, .int .i64 V4, .int .i64 V5, .int .i64 V6, .int .i64 V7, .bool V8] 98)).cell? ⟨w.heap.size + 1, 2, none⟩ = some (.int .i64 m) := p1.cell 2
  have z3 : (w1.alloc (.cells #[.int .i64 V0, .int .i64 V1, .int .i64 V2, .int .i64 V3, .int .i64 V4, .int .i64 V5, .int .i64 V6, .int .i64 V7, .bool V8] 98)).cell? ⟨w.heap.size + 1, 3, none⟩ = some (.int .i64 n) := p1.cell 3
  have z4 : (w1.alloc (.cells #[.int .i64 V0, .int .i64 V1, .int .i64 V2, .int .i64 V3, .int .i64 V4, .int .i64 V5, .int .i64 V6, .int .i64 V7, .bool V8] 98)).cell? ⟨w.heap.size + 1, 4, none⟩ = some (.int .i64 ii) := p1.cell 4
  have zz : (w1.alloc (.cells #[.int .i64 V0, .int .i64 V1, .int .i64 V2, .int .i64 V3, .int .i64 V4, .int .i64 V5, .int .i64 V6, .int .i64 V7, .bool V8] 98)).cell? ⟨w.heap.size, 0, none⟩ = some (.slice (some ⟨g, 0, none⟩) N cap) := p0.cell 0
  clear q0 q1 q2 hB p0 p1 y2
  go_wp2_with fail
  clear HV z2 z3 z4 zz x0 c0 c1 c2 c3 c4 c5 c6 c7 c8
  generalize hb8 : w1.heap.size = b8 at *
  generalize w1.alloc (.cells #[.int .i64 V0, .int .i64 V1, .int .i64 V2, .int .i64 V3, .int .i64 V4, .int .i64 V5, .int .i64 V6, .int .i64 V7, .bool V8] 98) = W1 at *
  clear hb8
  obtain ⟨q0, q1, q2, q8, hB⟩ := HE.out
  clear HE
  refine (HCp.out W1 ((HX.out).below hB)).mono ?_
  rintro e w2 ⟨q, cq, rfl, ho, hbc⟩
  have qr := q2.below hbc q2.lt
  have l2 := q2.lt
  have hB := hB.trans (hbc.mono hB.size)
  clear HCp q0 q1 q2 q8
  have f0 : w2.frozen? ⟨w.heap.size + 1 + 1, 0, none⟩ = false := qr.frozen 0
  have f1 : w2.frozen? ⟨w.heap.size + 1 + 1, 1, none⟩ = false := qr.frozen 1
  have z0 : w2.cell? ⟨w.heap.size + 1 + 1, 0, none⟩ = some (.slice none 0 0) := qr.cell 0
  have z1 : w2.cell? ⟨w.heap.size + 1 + 1, 1, none⟩ = some (.int .i64 0) := qr.cell 1
  have HE2 : Hid _ := And.intro ((qr.set 0 (.slice q N cq)).set 1 (.int .i64 0)) (And.intro ((hB.setCell (p := ⟨w.heap.size + 1 + 1, 0, none⟩) (by show w.heap.size ≤ w.heap.size + 1 + 1; omega) (.slice q N cq)).setCell (p := ⟨w.heap.size + 1 + 1, 1, none⟩) (by show w.heap.size ≤ w.heap.size + 1 + 1; omega) (.int .i64 0)) (ownR_set (base' := w.heap.size) (ownR_set (base' := w.heap.size + 1 + 1 + 1) ho ⟨w.heap.size + 1 + 1, 0, none⟩ (by show w.heap.size + 1 + 1 < _; omega) (.slice q N cq) (by omega)) ⟨w.heap.size + 1 + 1, 1, none⟩ (by show w.heap.size + 1 + 1 < _; omega) (.int .i64 0) (by omega)))
  clear qr hB ho hbc
  go_wp2_with fail
  obtain ⟨h1, h2, h3⟩ := HE2.out
  clear HE2 f0 f1 z0 z1
  generalize (w2.setCell ⟨w.heap.size + 1 + 1, 0, none⟩ (.slice q N cq)).setCell ⟨w.heap.size + 1 + 1, 1, none⟩ (.int .i64 0) = Z at *
  have e0 : Z.cell? ⟨w.heap.size + 1 + 1, 0, none⟩ = some (.slice q N cq) := h1.cell 0
  have e1 : Z.cell? ⟨w.heap.size + 1 + 1, 1, none⟩ = some (.int .i64 0) := h1.cell 1
  exact bodyPost_ret (v := .agg #[.slice q N cq, .int .i64 0]) (by simp [results, Tryz.results98, go_sem, e0, e1]) rfl ⟨⟨_, _, rfl, h3⟩, h2⟩
set_option maxRecDepth 100000 in
set_option maxHeartbeats 4000000 in
theorem learnS_again (p : Option Addr) (cap : Nat) (rs : List Rt) (r : Rt) (now : Int) (w : World) (h : RtsIn w p rs) (hc : p = none → cap = 0) (hcl : rs.length ≤ cap) (hr : ribB rs = true) (h0 : 0 ≤ now) (h1 : now ≤ 999900) (old : Rt) (hk : lookN rs r.a r.l = some old) (c1 : ¬ old.n = 0) (c2 : old.n = r.n ∧ old.i = r.i) :
    Calls Tryz.prog 98 #[ribV p rs.length cap, rtV r, .int .i64 now] w fun e w' => OutR w.heap.size 0 (insR rs (againR old r now)) e w' ∧ Below w.heap.size w w' := by
  have HA : Hid (∀ w, RtsIn w p rs → Calls Tryz.prog 120 #[.agg #[.slice p rs.length cap], .agg #[.int .i64 r.a, .int .i64 r.l]] w fun e w' => e = .returned (.int .i64 (atV rs r.a r.l)) ∧ Below w.heap.size w w') := fun w h => l06At_any p cap rs r.a r.l w h (by have := ribB_len hr; omega)
  have HCp : Hid (∀ w, RtsIn w p rs → Calls Tryz.prog 117 #[.agg #[.slice p rs.length cap]] w fun e w' => ∃ q c, e = .returned (.agg #[.slice q rs.length c]) ∧ w'.ownsRow w.heap.size 98 9 (.slice q rs.length c) rs.length (rowR rs) ∧ Below w.heap.size w w') := fun w h => l06Copy_any p cap rs w h hc hcl (by have := ribB_len hr; omega)
  have HIl : Hid (∀ c w, Calls Tryz.prog 121 #[.int .i64 c] w fun e w' => e = .returned (.agg #[.slice none 0 0, .int .i64 c]) ∧ Below w.heap.size w w') := l06Ill_any
  have HP0 : Hid (∀ R w, RtsIn w p rs → Calls Tryz.prog 122 #[.agg #[.slice p rs.length cap], rtV R] w fun e w' => ∃ q c, e = .returned (.agg #[.slice q (insR rs R).length c]) ∧ w'.ownsRow w.heap.size 98 9 (.slice q (insR rs R).length c) (insR rs R).length (rowR (insR rs R)) ∧ Below w.heap.size w w') := fun R w h => l06Put_any p cap rs R w h hc hcl (by have := ribB_len hr; omega)
  have h8 := ribB_len hr
  have HX : Hid (RtsIn w p rs) := h
  obtain ⟨k, hlr, hidx, hek⟩ : ∃ k, ∃ hlr : k < rs.length, atV rs r.a r.l = (k : Int) ∧ rs[k] = old := look_at hk
  rw [hidx] at HA
  have d0 : (old.n == 0) = false := by simpa using c1
  have d1 : (old.n == r.n) = true := by simp [c2.1]
  have d2 : (old.i == r.i) = true := by simp [c2.2]
  have hd : decide ((k : Int) < 0) = false := decide_eq_false (by omega)
  have hkN : k < rs.length := hlr
  have hkd : decide ((k : Int) < (rs.length : Int)) = true := by simpa using hlr
  obtain ⟨g, hpg⟩ : ∃ g, p = some ⟨g, 0, none⟩ := rts_some (HX.out) hlr
  subst hpg
  have hv := fun (W : World) (h : RtsIn W (some ⟨g, 0, none⟩) rs) => rts_nine h hlr hek
  have HV : Hid _ := hv
  clear hv hlr hek
  have HC : Hid (∀ w, Calls Tryz.prog 140 #[rtV old, rtV r, .int .i64 now] w fun e w' => e = .returned (rtV (againR old r now)) ∧ Below w.heap.size w w') := fun w => l06Again_any old r now w h0 h1
  have HP : Hid _ := HP0.out (againR old r now)
  clear h hc hcl hr h0 h1 hidx HIl hk c1 c2 HP0 HCp
  generalize insR rs (againR old r now) = qs at *
  generalize againR old r now = RR at *
  obtain ⟨V0, V1, V2, V3, V4, V5, V6, V7, V8⟩ := old
  obtain ⟨a, l, m, n, ii, t, u, b, c⟩ := r
  generalize rs.length = N at *
  unfold ribV
  unfold rtV rtA
  simp only at HA d0 d1 d2 ⊢
  obtain ⟨Q0, Q1, Q2, Q3, Q4, Q5, Q6, Q7, Q8⟩ := RR
  unfold rtV rtA at HC HP
  simp only at HC HP
  obtain ⟨W, hW, q0, q1, q2, hB, hS, -⟩ := rows3 w [.slice (some ⟨g, 0, none⟩) N cap] [.int .i64 a, .int .i64 l, .int .i64 m, .int .i64 n, .int .i64 ii, .int .i64 t, .int .i64 u, .int .i64 b, .bool c] [.slice none 0 0, .int .i64 0] 36 98 112
  have HW : Hid _ := hW
  have HQ : Hid _ := And.intro q0 (And.intro q1 (And.intro q2 hB))
  have x0 : W.cell? ⟨w.heap.size, 0, none⟩ = some (.slice (some ⟨g, 0, none⟩) N cap) := q0.cell 0
  have y0 : W.cell? ⟨w.heap.size + 1, 0, none⟩ = some (.int .i64 a) := q1.cell 0
  have y1 : W.cell? ⟨w.heap.size + 1, 1, none⟩ = some (.int .i64 l) := q1.cell 1
  rw [hW] at x0 y0 y1
  clear hW q0 q1 q2 hB
  go_enter Tryz.func98, Tryz.ntmps98
  go_wp2_with fail
  rw [← HW.out]
  obtain ⟨q0, q1, q2, hB⟩ := HQ.out
  clear HQ x0 y0 y1
  refine (HA.out _ ((HX.out).below hB)).mono ?_
  rintro e w1 ⟨rfl, hb1⟩
  have q0 := q0.below hb1 (by omega)
  have q1 := q1.below hb1 (by omega)
  have q2 := q2.below hb1 (by omega)
  have hB := hB.trans (hb1.mono (by omega))
  have hs1 := hb1.size
  clear hb1
  clear HA HW
  have x0 : w1.cell? ⟨w.heap.size, 0, none⟩ = some (.slice (some ⟨g, 0, none⟩) N cap) := q0.cell 0
  have y2 : w1.cell? ⟨w.heap.size + 1, 2, none⟩ = some (.int .i64 m) := q1.cell 2
  obtain ⟨c0, c1, c2, c3, c4, c5, c6, c7, c8⟩ := HV.out _ ((HX.out).below hB)
  have HE : Hid _ := And.intro (q0.alloc (.cells #[.int .i64 V0, .int .i64 V1, .int .i64 V2, .int .i64 V3, .int .i64 V4, .int .i64 V5, .int .i64 V6, .int .i64 V7, .bool V8] 98)) (And.intro (q1.alloc (.cells #[.int .i64 V0, .int .i64 V1, .int .i64 V2, .int .i64 V3, .int .i64 V4, .int .i64 V5, .int .i64 V6, .int .i64 V7, .bool V8] 98)) (And.intro (q2.alloc (.cells #[.int .i64 V0, .int .i64 V1, .int .i64 V2, .int .i64 V3, .int .i64 V4, .int .i64 V5, .int .i64 V6, .int .i64 V7, .bool V8] 98)) (And.intro (Row.new w1 98 [.int .i64 V0, .int .i64 V1, .int .i64 V2, .int .i64 V3, .int .i64 V4, .int .i64 V5, .int .i64 V6, .int .i64 V7, .bool V8]) (hB.alloc hB.size (.cells #[.int .i64 V0, .int .i64 V1, .int .i64 V2, .int .i64 V3, .int .i64 V4, .int .i64 V5, .int .i64 V6, .int .i64 V7, .bool V8] 98)))))
  have p1 := q1.alloc (.cells #[.int .i64 V0, .int .i64 V1, .int .i64 V2, .int .i64 V3, .int .i64 V4, .int .i64 V5, .int .i64 V6, .int .i64 V7, .bool V8] 98)
  have p0 := q0.alloc (.cells #[.int .i64 V0, .int .i64 V1, .int .i64 V2, .int .i64 V3, .int .i64 V4, .int .i64 V5, .int .i64 V6, .int .i64 V7, .bool V8] 98)
  have z2 : (w1.alloc (.cells #[.int .i64 V0, .int .i64 V1, .int .i64 V2, .int .i64 V3, .int .i64 V4, .int .i64 V5, .int .i64 V6, .int .i64 V7, .bool V8] 98)).cell? ⟨w.heap.size + 1, 2, none⟩ = some (.int .i64 m) := p1.cell 2
  have z3 : (w1.alloc (.cells #[.int .i64 V0, .int .i64 V1, .int .i64 V2, .int .i64 V3, .int .i64 V4, .int .i64 V5, .int .i64 V6, .int .i64 V7, .bool V8] 98)).cell? ⟨w.heap.size + 1, 3, none⟩ = some (.int .i64 n) := p1.cell 3
  have z4 : (w1.alloc (.cells #[.int .i64 V0, .int .i64 V1, .int .i64 V2, .int .i64 V3, .int .i64 V4, .int .i64 V5, .int .i64 V6, .int .i64 V7, .bool V8] 98)).cell? ⟨w.heap.size + 1, 4, none⟩ = some (.int .i64 ii) := p1.cell 4
  have zz : (w1.alloc (.cells #[.int .i64 V0, .int .i64 V1, .int .i64 V2, .int .i64 V3, .int .i64 V4, .int .i64 V5, .int .i64 V6, .int .i64 V7, .bool V8] 98)).cell? ⟨w.heap.size, 0, none⟩ = some (.slice (some ⟨g, 0, none⟩) N cap) := p0.cell 0
  clear q0 q1 q2 hB p0 p1 y2
  go_wp2_with fail
  clear HV z2 z3 z4 zz x0 c0 c1 c2 c3 c4 c5 c6 c7 c8
  generalize hb8 : w1.heap.size = b8 at *
  generalize w1.alloc (.cells #[.int .i64 V0, .int .i64 V1, .int .i64 V2, .int .i64 V3, .int .i64 V4, .int .i64 V5, .int .i64 V6, .int .i64 V7, .bool V8] 98) = W1 at *
  clear hb8
  obtain ⟨q0, q1, q2, q8, hB⟩ := HE.out
  clear HE
  have hGN : (([(57, Is (.agg #[.slice (some ⟨g, 0, none⟩) N cap])), (58, Is (.agg #[.int .i64 V0, .int .i64 V1, .int .i64 V2, .int .i64 V3, .int .i64 V4, .int .i64 V5, .int .i64 V6, .int .i64 V7, .bool V8])), (59, Is (.agg #[.int .i64 a, .int .i64 l, .int .i64 m, .int .i64 n, .int .i64 ii, .int .i64 t, .int .i64 u, .int .i64 b, .bool c])), (60, Is (.int .i64 now)), (61, Is (.agg #[.int .i64 Q0, .int .i64 Q1, .int .i64 Q2, .int .i64 Q3, .int .i64 Q4, .int .i64 Q5, .int .i64 Q6, .int .i64 Q7, .bool Q8])), (62, fun v W => ∃ q c, v = .agg #[.slice q qs.length c] ∧ W.ownsRow W1.heap.size 98 9 (.slice q qs.length c) qs.length (rowR qs))] : List (Nat × (Value → World → Prop))).map (·.1)).Nodup := by simp
  refine wp_region_steady 6 (SlotG [(57, Is (.agg #[.slice (some ⟨g, 0, none⟩) N cap])), (58, Is (.agg #[.int .i64 V0, .int .i64 V1, .int .i64 V2, .int .i64 V3, .int .i64 V4, .int .i64 V5, .int .i64 V6, .int .i64 V7, .bool V8])), (59, Is (.agg #[.int .i64 a, .int .i64 l, .int .i64 m, .int .i64 n, .int .i64 ii, .int .i64 t, .int .i64 u, .int .i64 b, .bool c])), (60, Is (.int .i64 now)), (61, Is (.agg #[.int .i64 Q0, .int .i64 Q1, .int .i64 Q2, .int .i64 Q3, .int .i64 Q4, .int .i64 Q5, .int .i64 Q6, .int .i64 Q7, .bool Q8])), (62, fun v W => ∃ q c, v = .agg #[.slice q qs.length c] ∧ W.ownsRow W1.heap.size 98 9 (.slice q qs.length c) qs.length (rowR qs))]) (by kernel_rfl) (by kernel_rfl) (Stabs.all ⟨stab_is _, stab_is _, stab_is _, stab_is _, stab_is _, stab_rib W1.heap.size qs, trivial⟩) ?_ ?_
  · intro o ho
    simp only [List.take_succ_cons, List.take_zero, List.mem_cons, List.not_mem_nil, or_false] at ho
    rcases ho with rfl | rfl | rfl | rfl | rfl | rfl
    · intro a' w' hb ha hdep
      have d3 : a'.tmps.getD 3 undef = .pointer (some ⟨w.heap.size, 0, none⟩) := ha.at 3 (by kernel_rfl)
      have hmk := fun (x : Value) (W : World) => SlotG.mk (x := x) (w := W) 0 rfl hGN
      clear hGN ha hdep
      have y0 : w'.cell? ⟨w.heap.size, 0, none⟩ = some (.slice (some ⟨g, 0, none⟩) N cap) := (q0.below hb q0.lt).cell 0
      go_simp
      exact ⟨_, rfl, Below.refl _ _, hmk _ _ rfl⟩
    · intro a' w' hb ha hdep
      have d8 : a'.tmps.getD 8 undef = .pointer (some ⟨b8, 0, none⟩) := ha.at 8 (by kernel_rfl)
      have hmk := fun (x : Value) (W : World) => SlotG.mk (x := x) (w := W) 1 rfl hGN
      clear hGN ha hdep
      have y0 : w'.cell? ⟨b8, 0, none⟩ = some (.int .i64 V0) := (q8.below hb q8.lt).cell 0
      have y1 : w'.cell? ⟨b8, 1, none⟩ = some (.int .i64 V1) := (q8.below hb q8.lt).cell 1
      have y2 : w'.cell? ⟨b8, 2, none⟩ = some (.int .i64 V2) := (q8.below hb q8.lt).cell 2
      have y3 : w'.cell? ⟨b8, 3, none⟩ = some (.int .i64 V3) := (q8.below hb q8.lt).cell 3
      have y4 : w'.cell? ⟨b8, 4, none⟩ = some (.int .i64 V4) := (q8.below hb q8.lt).cell 4
      have y5 : w'.cell? ⟨b8, 5, none⟩ = some (.int .i64 V5) := (q8.below hb q8.lt).cell 5
      have y6 : w'.cell? ⟨b8, 6, none⟩ = some (.int .i64 V6) := (q8.below hb q8.lt).cell 6
      have y7 : w'.cell? ⟨b8, 7, none⟩ = some (.int .i64 V7) := (q8.below hb q8.lt).cell 7
      have y8 : w'.cell? ⟨b8, 8, none⟩ = some (.bool V8) := (q8.below hb q8.lt).cell 8
      go_simp
      exact ⟨_, rfl, Below.refl _ _, hmk _ _ rfl⟩
    · intro a' w' hb ha hdep
      have d4 : a'.tmps.getD 4 undef = .pointer (some ⟨w.heap.size + 1, 0, none⟩) := ha.at 4 (by kernel_rfl)
      have hmk := fun (x : Value) (W : World) => SlotG.mk (x := x) (w := W) 2 rfl hGN
      clear hGN ha hdep
      have y0 : w'.cell? ⟨w.heap.size + 1, 0, none⟩ = some (.int .i64 a) := (q1.below hb q1.lt).cell 0
      have y1 : w'.cell? ⟨w.heap.size + 1, 1, none⟩ = some (.int .i64 l) := (q1.below hb q1.lt).cell 1
      have y2 : w'.cell? ⟨w.heap.size + 1, 2, none⟩ = some (.int .i64 m) := (q1.below hb q1.lt).cell 2
      have y3 : w'.cell? ⟨w.heap.size + 1, 3, none⟩ = some (.int .i64 n) := (q1.below hb q1.lt).cell 3
      have y4 : w'.cell? ⟨w.heap.size + 1, 4, none⟩ = some (.int .i64 ii) := (q1.below hb q1.lt).cell 4
      have y5 : w'.cell? ⟨w.heap.size + 1, 5, none⟩ = some (.int .i64 t) := (q1.below hb q1.lt).cell 5
      have y6 : w'.cell? ⟨w.heap.size + 1, 6, none⟩ = some (.int .i64 u) := (q1.below hb q1.lt).cell 6
      have y7 : w'.cell? ⟨w.heap.size + 1, 7, none⟩ = some (.int .i64 b) := (q1.below hb q1.lt).cell 7
      have y8 : w'.cell? ⟨w.heap.size + 1, 8, none⟩ = some (.bool c) := (q1.below hb q1.lt).cell 8
      go_simp
      exact ⟨_, rfl, Below.refl _ _, hmk _ _ rfl⟩
    · intro a' w' hb ha hdep
      have d2 : a'.tmps.getD 2 undef = .int .i64 now := ha.at 2 (by kernel_rfl)
      have hmk := fun (x : Value) (W : World) => SlotG.mk (x := x) (w := W) 3 rfl hGN
      clear hGN ha hdep
      go_simp
      exact ⟨_, rfl, Below.refl _ _, hmk _ _ rfl⟩
    · intro a' w' hb ha hdep
      have d58 : a'.tmps.getD 58 undef = .agg #[.int .i64 V0, .int .i64 V1, .int .i64 V2, .int .i64 V3, .int .i64 V4, .int .i64 V5, .int .i64 V6, .int .i64 V7, .bool V8] := (hdep 58 (of_decide_eq_true (by kernel_rfl))).is 1 rfl
      have d59 : a'.tmps.getD 59 undef = .agg #[.int .i64 a, .int .i64 l, .int .i64 m, .int .i64 n, .int .i64 ii, .int .i64 t, .int .i64 u, .int .i64 b, .bool c] := (hdep 59 (of_decide_eq_true (by kernel_rfl))).is 2 rfl
      have d60 : a'.tmps.getD 60 undef = .int .i64 now := (hdep 60 (of_decide_eq_true (by kernel_rfl))).is 3 rfl
      have hmk := fun (x : Value) (W : World) => SlotG.mk (x := x) (w := W) 4 rfl hGN
      clear hGN ha hdep
      go_simp
      refine (HC.out _).mono ?_
      rintro e w2 ⟨rfl, hb2⟩
      exact ⟨_, rfl, hb2, hmk _ _ rfl⟩
    · intro a' w' hb ha hdep
      have d57 : a'.tmps.getD 57 undef = .agg #[.slice (some ⟨g, 0, none⟩) N cap] := (hdep 57 (of_decide_eq_true (by kernel_rfl))).is 0 rfl
      have d61 : a'.tmps.getD 61 undef = .agg #[.int .i64 Q0, .int .i64 Q1, .int .i64 Q2, .int .i64 Q3, .int .i64 Q4, .int .i64 Q5, .int .i64 Q6, .int .i64 Q7, .bool Q8] := (hdep 61 (of_decide_eq_true (by kernel_rfl))).is 4 rfl
      have hmk := fun (x : Value) (W : World) => SlotG.mk (x := x) (w := W) 5 rfl hGN
      clear hGN ha hdep
      go_simp
      refine (HP.out _ ((HX.out).below (hB.trans (hb.mono hB.size)))).mono ?_
      rintro e w2 ⟨q, c, rfl, ho, hb2⟩
      exact ⟨_, rfl, hb2, hmk _ _ ⟨q, c, rfl, ownsR_monoS ho hb.size⟩⟩
  · intro a' w' hb ha hG
    clear hGN
    have D62 := (hG _ (List.mem_of_getElem? (i := 5) rfl) 62 rfl).get 5 rfl
    have d6 : a'.tmps.getD 6 undef = .pointer (some ⟨w.heap.size + 1 + 1, 0, none⟩) := ha.at 6 (by kernel_rfl)
    have e2 : a' = ⟨#[a'.tmps.getD 0 undef, a'.tmps.getD 1 undef, a'.tmps.getD 2 undef, a'.tmps.getD 3 undef, a'.tmps.getD 4 undef, a'.tmps.getD 5 undef, a'.tmps.getD 6 undef, a'.tmps.getD 7 undef, a'.tmps.getD 8 undef, a'.tmps.getD 9 undef, a'.tmps.getD 10 undef, a'.tmps.getD 11 undef, a'.tmps.getD 12 undef, a'.tmps.getD 13 undef, a'.tmps.getD 14 undef, a'.tmps.getD 15 undef, a'.tmps.getD 16 undef, a'.tmps.getD 17 undef, a'.tmps.getD 18 undef, a'.tmps.getD 19 undef, a'.tmps.getD 20 undef, a'.tmps.getD 21 undef, a'.tmps.getD 22 undef, a'.tmps.getD 23 undef, a'.tmps.getD 24 undef, a'.tmps.getD 25 undef, a'.tmps.getD 26 undef, a'.tmps.getD 27 undef, a'.tmps.getD 28 undef, a'.tmps.getD 29 undef, a'.tmps.getD 30 undef, a'.tmps.getD 31 undef, a'.tmps.getD 32 undef, a'.tmps.getD 33 undef, a'.tmps.getD 34 undef, a'.tmps.getD 35 undef, a'.tmps.getD 36 undef, a'.tmps.getD 37 undef, a'.tmps.getD 38 undef, a'.tmps.getD 39 undef, a'.tmps.getD 40 undef, a'.tmps.getD 41 undef, a'.tmps.getD 42 undef, a'.tmps.getD 43 undef, a'.tmps.getD 44 undef, a'.tmps.getD 45 undef, a'.tmps.getD 46 undef, a'.tmps.getD 47 undef, a'.tmps.getD 48 undef, a'.tmps.getD 49 undef, a'.tmps.getD 50 undef, a'.tmps.getD 51 undef, a'.tmps.getD 52 undef, a'.tmps.getD 53 undef, a'.tmps.getD 54 undef, a'.tmps.getD 55 undef, a'.tmps.getD 56 undef, a'.tmps.getD 57 undef, a'.tmps.getD 58 undef, a'.tmps.getD 59 undef, a'.tmps.getD 60 undef, a'.tmps.getD 61 undef, a'.tmps.getD 62 undef, a'.tmps.getD 63 undef, a'.tmps.getD 64 undef, a'.tmps.getD 65 undef, a'.tmps.getD 66 undef, a'.tmps.getD 67 undef, a'.tmps.getD 68 undef, a'.tmps.getD 69 undef, a'.tmps.getD 70 undef, a'.tmps.getD 71 undef, a'.tmps.getD 72 undef, a'.tmps.getD 73 undef, a'.tmps.getD 74 undef, a'.tmps.getD 75 undef, a'.tmps.getD 76 undef, a'.tmps.getD 77 undef, a'.tmps.getD 78 undef], []⟩ := by rw [← (show a'.defers = [] from ha.2.1)]; exact act_eq a' 79 ha.1
    rw [d6] at e2
    clear hG ha d6
    generalize a'.tmps.getD 0 undef = x0 at *
    generalize a'.tmps.getD 1 undef = x1 at *
    generalize a'.tmps.getD 2 undef = x2 at *
    generalize a'.tmps.getD 3 undef = x3 at *
    generalize a'.tmps.getD 4 undef = x4 at *
    generalize a'.tmps.getD 5 undef = x5 at *
    generalize a'.tmps.getD 7 undef = x7 at *
    generalize a'.tmps.getD 8 undef = x8 at *
    generalize a'.tmps.getD 9 undef = x9 at *
    generalize a'.tmps.getD 10 undef = x10 at *
    generalize a'.tmps.getD 11 undef = x11 at *
    generalize a'.tmps.getD 12 undef = x12 at *
    generalize a'.tmps.getD 13 undef = x13 at *
    generalize a'.tmps.getD 14 undef = x14 at *
    generalize a'.tmps.getD 15 undef = x15 at *
    generalize a'.tmps.getD 16 undef = x16 at *
    generalize a'.tmps.getD 17 undef = x17 at *
    generalize a'.tmps.getD 18 undef = x18 at *
    generalize a'.tmps.getD 19 undef = x19 at *
    generalize a'.tmps.getD 20 undef = x20 at *
    generalize a'.tmps.getD 21 undef = x21 at *
    generalize a'.tmps.getD 22 undef = x22 at *
    generalize a'.tmps.getD 23 undef = x23 at *
    generalize a'.tmps.getD 24 undef = x24 at *
    generalize a'.tmps.getD 25 undef = x25 at *
    generalize a'.tmps.getD 26 undef = x26 at *
    generalize a'.tmps.getD 27 undef = x27 at *
    generalize a'.tmps.getD 28 undef = x28 at *
    generalize a'.tmps.getD 29 undef = x29 at *
    generalize a'.tmps.getD 30 undef = x30 at *
    generalize a'.tmps.getD 31 undef = x31 at *
    generalize a'.tmps.getD 32 undef = x32 at *
    generalize a'.tmps.getD 33 undef = x33 at *
    generalize a'.tmps.getD 34 undef = x34 at *
    generalize a'.tmps.getD 35 undef = x35 at *
    generalize a'.tmps.getD 36 undef = x36 at *
    generalize a'.tmps.getD 37 undef = x37 at *
    generalize a'.tmps.getD 38 undef = x38 at *
    generalize a'.tmps.getD 39 undef = x39 at *
    generalize a'.tmps.getD 40 undef = x40 at *
    generalize a'.tmps.getD 41 undef = x41 at *
    generalize a'.tmps.getD 42 undef = x42 at *
    generalize a'.tmps.getD 43 undef = x43 at *
    generalize a'.tmps.getD 44 undef = x44 at *
    generalize a'.tmps.getD 45 undef = x45 at *
    generalize a'.tmps.getD 46 undef = x46 at *
    generalize a'.tmps.getD 47 undef = x47 at *
    generalize a'.tmps.getD 48 undef = x48 at *
    generalize a'.tmps.getD 49 undef = x49 at *
    generalize a'.tmps.getD 50 undef = x50 at *
    generalize a'.tmps.getD 51 undef = x51 at *
    generalize a'.tmps.getD 52 undef = x52 at *
    generalize a'.tmps.getD 53 undef = x53 at *
    generalize a'.tmps.getD 54 undef = x54 at *
    generalize a'.tmps.getD 55 undef = x55 at *
    generalize a'.tmps.getD 56 undef = x56 at *
    generalize a'.tmps.getD 57 undef = x57 at *
    generalize a'.tmps.getD 58 undef = x58 at *
    generalize a'.tmps.getD 59 undef = x59 at *
    generalize a'.tmps.getD 60 undef = x60 at *
    generalize a'.tmps.getD 61 undef = x61 at *
    generalize a'.tmps.getD 62 undef = x62 at *
    generalize a'.tmps.getD 63 undef = x63 at *
    generalize a'.tmps.getD 64 undef = x64 at *
    generalize a'.tmps.getD 65 undef = x65 at *
    generalize a'.tmps.getD 66 undef = x66 at *
    generalize a'.tmps.getD 67 undef = x67 at *
    generalize a'.tmps.getD 68 undef = x68 at *
    generalize a'.tmps.getD 69 undef = x69 at *
    generalize a'.tmps.getD 70 undef = x70 at *
    generalize a'.tmps.getD 71 undef = x71 at *
    generalize a'.tmps.getD 72 undef = x72 at *
    generalize a'.tmps.getD 73 undef = x73 at *
    generalize a'.tmps.getD 74 undef = x74 at *
    generalize a'.tmps.getD 75 undef = x75 at *
    generalize a'.tmps.getD 76 undef = x76 at *
    generalize a'.tmps.getD 77 undef = x77 at *
    generalize a'.tmps.getD 78 undef = x78 at *
    subst e2
    simp only [List.drop_succ_cons, List.drop_zero]
    obtain ⟨q, cq, rfl, ho⟩ := D62
    have l2 := q2.lt
    have hsw := hb.size
    have qr := q2.below hb q2.lt
    have hB := hB.trans (hb.mono hB.size)
    clear hb q0 q1 q2 HC HP q8
    have f0 : w'.frozen? ⟨w.heap.size + 1 + 1, 0, none⟩ = false := qr.frozen 0
    have f1 : w'.frozen? ⟨w.heap.size + 1 + 1, 1, none⟩ = false := qr.frozen 1
    have z0 : w'.cell? ⟨w.heap.size + 1 + 1, 0, none⟩ = some (.slice none 0 0) := qr.cell 0
    have z1 : w'.cell? ⟨w.heap.size + 1 + 1, 1, none⟩ = some (.int .i64 0) := qr.cell 1
    have HE2 : Hid _ := And.intro ((qr.set 0 (.slice q qs.length cq)).set 1 (.int .i64 0)) (And.intro ((hB.setCell (p := ⟨w.heap.size + 1 + 1, 0, none⟩) (by show w.heap.size ≤ w.heap.size + 1 + 1; omega) (.slice q qs.length cq)).setCell (p := ⟨w.heap.size + 1 + 1, 1, none⟩) (by show w.heap.size ≤ w.heap.size + 1 + 1; omega) (.int .i64 0)) (ownR_set (base' := w.heap.size) (ownR_set (base' := w.heap.size + 1 + 1 + 1) ho ⟨w.heap.size + 1 + 1, 0, none⟩ (by show w.heap.size + 1 + 1 < _; omega) (.slice q qs.length cq) (by omega)) ⟨w.heap.size + 1 + 1, 1, none⟩ (by show w.heap.size + 1 + 1 < _; omega) (.int .i64 0) (by omega)))
    clear qr hB ho
    go_wp2_with fail
    obtain ⟨h1, h2, h3⟩ := HE2.out
    clear HE2 f0 f1 z0 z1
    generalize (w'.setCell ⟨w.heap.size + 1 + 1, 0, none⟩ (.slice q qs.length cq)).setCell ⟨w.heap.size + 1 + 1, 1, none⟩ (.int .i64 0) = Z at *
    have e0 : Z.cell? ⟨w.heap.size + 1 + 1, 0, none⟩ = some (.slice q qs.length cq) := h1.cell 0
    have e1 : Z.cell? ⟨w.heap.size + 1 + 1, 1, none⟩ = some (.int .i64 0) := h1.cell 1
    exact bodyPost_ret (v := .agg #[.slice q qs.length cq, .int .i64 0]) (by simp [results, Tryz.results98, go_sem, e0, e1]) rfl ⟨⟨_, _, rfl, h3⟩, h2⟩
set_option maxRecDepth 100000 in
set_option maxHeartbeats 4000000 in
theorem learnS_near (p : Option Addr) (cap : Nat) (rs : List Rt) (r : Rt) (now : Int) (w : World) (h : RtsIn w p rs) (hc : p = none → cap = 0) (hcl : rs.length ≤ cap) (hr : ribB rs = true) (h0 : 0 ≤ now) (h1 : now ≤ 999900) (old : Rt) (hk : lookN rs r.a r.l = some old) (c1 : ¬ old.n = 0) (c2 : ¬ (old.n = r.n ∧ old.i = r.i)) (c3 : r.m < old.m) :
    Calls Tryz.prog 98 #[ribV p rs.length cap, rtV r, .int .i64 now] w fun e w' => OutR w.heap.size 0 (insR rs (freshR r now)) e w' ∧ Below w.heap.size w w' := by
  have HA : Hid (∀ w, RtsIn w p rs → Calls Tryz.prog 120 #[.agg #[.slice p rs.length cap], .agg #[.int .i64 r.a, .int .i64 r.l]] w fun e w' => e = .returned (.int .i64 (atV rs r.a r.l)) ∧ Below w.heap.size w w') := fun w h => l06At_any p cap rs r.a r.l w h (by have := ribB_len hr; omega)
  have HCp : Hid (∀ w, RtsIn w p rs → Calls Tryz.prog 117 #[.agg #[.slice p rs.length cap]] w fun e w' => ∃ q c, e = .returned (.agg #[.slice q rs.length c]) ∧ w'.ownsRow w.heap.size 98 9 (.slice q rs.length c) rs.length (rowR rs) ∧ Below w.heap.size w w') := fun w h => l06Copy_any p cap rs w h hc hcl (by have := ribB_len hr; omega)
  have HIl : Hid (∀ c w, Calls Tryz.prog 121 #[.int .i64 c] w fun e w' => e = .returned (.agg #[.slice none 0 0, .int .i64 c]) ∧ Below w.heap.size w w') := l06Ill_any
  have HP0 : Hid (∀ R w, RtsIn w p rs → Calls Tryz.prog 122 #[.agg #[.slice p rs.length cap], rtV R] w fun e w' => ∃ q c, e = .returned (.agg #[.slice q (insR rs R).length c]) ∧ w'.ownsRow w.heap.size 98 9 (.slice q (insR rs R).length c) (insR rs R).length (rowR (insR rs R)) ∧ Below w.heap.size w w') := fun R w h => l06Put_any p cap rs R w h hc hcl (by have := ribB_len hr; omega)
  have h8 := ribB_len hr
  have HX : Hid (RtsIn w p rs) := h
  obtain ⟨k, hlr, hidx, hek⟩ : ∃ k, ∃ hlr : k < rs.length, atV rs r.a r.l = (k : Int) ∧ rs[k] = old := look_at hk
  rw [hidx] at HA
  have d0 : (old.n == 0) = false := by simpa using c1
  have d3 : decide (r.m < old.m) = true := by simpa using c3
  have hns := c2
  clear c2
  have hd : decide ((k : Int) < 0) = false := decide_eq_false (by omega)
  have hkN : k < rs.length := hlr
  have hkd : decide ((k : Int) < (rs.length : Int)) = true := by simpa using hlr
  obtain ⟨g, hpg⟩ : ∃ g, p = some ⟨g, 0, none⟩ := rts_some (HX.out) hlr
  subst hpg
  have hv := fun (W : World) (h : RtsIn W (some ⟨g, 0, none⟩) rs) => rts_nine h hlr hek
  have HV : Hid _ := hv
  clear hv hlr hek
  have HC : Hid (∀ w, Calls Tryz.prog 139 #[rtV r, .int .i64 now] w fun e w' => e = .returned (rtV (freshR r now)) ∧ Below w.heap.size w w') := fun w => l06Fresh_any r now w h0 h1
  have HP : Hid _ := HP0.out (freshR r now)
  clear h hc hcl hr h0 h1 hidx HIl hk c1 c3 HP0 HCp
  generalize insR rs (freshR r now) = qs at *
  generalize freshR r now = RR at *
  obtain ⟨V0, V1, V2, V3, V4, V5, V6, V7, V8⟩ := old
  obtain ⟨a, l, m, n, ii, t, u, b, c⟩ := r
  generalize rs.length = N at *
  unfold ribV
  unfold rtV rtA
  simp only at HA d0 d3 hns ⊢
  obtain ⟨Q0, Q1, Q2, Q3, Q4, Q5, Q6, Q7, Q8⟩ := RR
  unfold rtV rtA at HC HP
  simp only at HC HP
  by_cases e1 : V3 = n
  · have d1 : (V3 == n) = true := by simpa using e1
    have d2 : (V4 == ii) = false := by have := hns; simp only [e1, true_and] at this; simpa using this
    clear e1 hns
    obtain ⟨W, hW, q0, q1, q2, hB, hS, -⟩ := rows3 w [.slice (some ⟨g, 0, none⟩) N cap] [.int .i64 a, .int .i64 l, .int .i64 m, .int .i64 n, .int .i64 ii, .int .i64 t, .int .i64 u, .int .i64 b, .bool c] [.slice none 0 0, .int .i64 0] 36 98 112
    have HW : Hid _ := hW
    have HQ : Hid _ := And.intro q0 (And.intro q1 (And.intro q2 hB))
    have x0 : W.cell? ⟨w.heap.size, 0, none⟩ = some (.slice (some ⟨g, 0, none⟩) N cap) := q0.cell 0
    have y0 : W.cell? ⟨w.heap.size + 1, 0, none⟩ = some (.int .i64 a) := q1.cell 0
    have y1 : W.cell? ⟨w.heap.size + 1, 1, none⟩ = some (.int .i64 l) := q1.cell 1
    rw [hW] at x0 y0 y1
    clear hW q0 q1 q2 hB
    go_enter Tryz.func98, Tryz.ntmps98
    go_wp2_with fail
    rw [← HW.out]
    obtain ⟨q0, q1, q2, hB⟩ := HQ.out
    clear HQ x0 y0 y1
    refine (HA.out _ ((HX.out).below hB)).mono ?_
    rintro e w1 ⟨rfl, hb1⟩
    have q0 := q0.below hb1 (by omega)
    have q1 := q1.below hb1 (by omega)
    have q2 := q2.below hb1 (by omega)
    have hB := hB.trans (hb1.mono (by omega))
    have hs1 := hb1.size
    clear hb1
    clear HA HW
    have x0 : w1.cell? ⟨w.heap.size, 0, none⟩ = some (.slice (some ⟨g, 0, none⟩) N cap) := q0.cell 0
    have y2 : w1.cell? ⟨w.heap.size + 1, 2, none⟩ = some (.int .i64 m) := q1.cell 2
    obtain ⟨c0, c1, c2, c3, c4, c5, c6, c7, c8⟩ := HV.out _ ((HX.out).below hB)
    have HE : Hid _ := And.intro (q0.alloc (.cells #[.int .i64 V0, .int .i64 V1, .int .i64 V2, .int .i64 V3, .int .i64 V4, .int .i64 V5, .int .i64 V6, .int .i64 V7, .bool V8] 98)) (And.intro (q1.alloc (.cells #[.int .i64 V0, .int .i64 V1, .int .i64 V2, .int .i64 V3, .int .i64 V4, .int .i64 V5, .int .i64 V6, .int .i64 V7, .bool V8] 98)) (And.intro (q2.alloc (.cells #[.int .i64 V0, .int .i64 V1, .int .i64 V2, .int .i64 V3, .int .i64 V4, .int .i64 V5, .int .i64 V6, .int .i64 V7, .bool V8] 98)) (And.intro (Row.new w1 98 [.int .i64 V0, .int .i64 V1, .int .i64 V2, .int .i64 V3, .int .i64 V4, .int .i64 V5, .int .i64 V6, .int .i64 V7, .bool V8]) (hB.alloc hB.size (.cells #[.int .i64 V0, .int .i64 V1, .int .i64 V2, .int .i64 V3, .int .i64 V4, .int .i64 V5, .int .i64 V6, .int .i64 V7, .bool V8] 98)))))
    have p1 := q1.alloc (.cells #[.int .i64 V0, .int .i64 V1, .int .i64 V2, .int .i64 V3, .int .i64 V4, .int .i64 V5, .int .i64 V6, .int .i64 V7, .bool V8] 98)
    have p0 := q0.alloc (.cells #[.int .i64 V0, .int .i64 V1, .int .i64 V2, .int .i64 V3, .int .i64 V4, .int .i64 V5, .int .i64 V6, .int .i64 V7, .bool V8] 98)
    have z2 : (w1.alloc (.cells #[.int .i64 V0, .int .i64 V1, .int .i64 V2, .int .i64 V3, .int .i64 V4, .int .i64 V5, .int .i64 V6, .int .i64 V7, .bool V8] 98)).cell? ⟨w.heap.size + 1, 2, none⟩ = some (.int .i64 m) := p1.cell 2
    have z3 : (w1.alloc (.cells #[.int .i64 V0, .int .i64 V1, .int .i64 V2, .int .i64 V3, .int .i64 V4, .int .i64 V5, .int .i64 V6, .int .i64 V7, .bool V8] 98)).cell? ⟨w.heap.size + 1, 3, none⟩ = some (.int .i64 n) := p1.cell 3
    have z4 : (w1.alloc (.cells #[.int .i64 V0, .int .i64 V1, .int .i64 V2, .int .i64 V3, .int .i64 V4, .int .i64 V5, .int .i64 V6, .int .i64 V7, .bool V8] 98)).cell? ⟨w.heap.size + 1, 4, none⟩ = some (.int .i64 ii) := p1.cell 4
    have zz : (w1.alloc (.cells #[.int .i64 V0, .int .i64 V1, .int .i64 V2, .int .i64 V3, .int .i64 V4, .int .i64 V5, .int .i64 V6, .int .i64 V7, .bool V8] 98)).cell? ⟨w.heap.size, 0, none⟩ = some (.slice (some ⟨g, 0, none⟩) N cap) := p0.cell 0
    clear q0 q1 q2 hB p0 p1 y2
    go_wp2_with fail
    clear HV z2 z3 z4 zz x0 c0 c1 c2 c3 c4 c5 c6 c7 c8
    generalize hb8 : w1.heap.size = b8 at *
    generalize w1.alloc (.cells #[.int .i64 V0, .int .i64 V1, .int .i64 V2, .int .i64 V3, .int .i64 V4, .int .i64 V5, .int .i64 V6, .int .i64 V7, .bool V8] 98) = W1 at *
    clear hb8
    obtain ⟨q0, q1, q2, q8, hB⟩ := HE.out
    clear HE
    have hGN : (([(70, Is (.agg #[.slice (some ⟨g, 0, none⟩) N cap])), (71, Is (.agg #[.int .i64 a, .int .i64 l, .int .i64 m, .int .i64 n, .int .i64 ii, .int .i64 t, .int .i64 u, .int .i64 b, .bool c])), (72, Is (.int .i64 now)), (73, Is (.agg #[.int .i64 Q0, .int .i64 Q1, .int .i64 Q2, .int .i64 Q3, .int .i64 Q4, .int .i64 Q5, .int .i64 Q6, .int .i64 Q7, .bool Q8])), (74, fun v W => ∃ q c, v = .agg #[.slice q qs.length c] ∧ W.ownsRow W1.heap.size 98 9 (.slice q qs.length c) qs.length (rowR qs))] : List (Nat × (Value → World → Prop))).map (·.1)).Nodup := by simp
    refine wp_region_steady 5 (SlotG [(70, Is (.agg #[.slice (some ⟨g, 0, none⟩) N cap])), (71, Is (.agg #[.int .i64 a, .int .i64 l, .int .i64 m, .int .i64 n, .int .i64 ii, .int .i64 t, .int .i64 u, .int .i64 b, .bool c])), (72, Is (.int .i64 now)), (73, Is (.agg #[.int .i64 Q0, .int .i64 Q1, .int .i64 Q2, .int .i64 Q3, .int .i64 Q4, .int .i64 Q5, .int .i64 Q6, .int .i64 Q7, .bool Q8])), (74, fun v W => ∃ q c, v = .agg #[.slice q qs.length c] ∧ W.ownsRow W1.heap.size 98 9 (.slice q qs.length c) qs.length (rowR qs))]) (by kernel_rfl) (by kernel_rfl) (Stabs.all ⟨stab_is _, stab_is _, stab_is _, stab_is _, stab_rib W1.heap.size qs, trivial⟩) ?_ ?_
    · intro o ho
      simp only [List.take_succ_cons, List.take_zero, List.mem_cons, List.not_mem_nil, or_false] at ho
      rcases ho with rfl | rfl | rfl | rfl | rfl
      · intro a' w' hb ha hdep
        have d3 : a'.tmps.getD 3 undef = .pointer (some ⟨w.heap.size, 0, none⟩) := ha.at 3 (by kernel_rfl)
        have hmk := fun (x : Value) (W : World) => SlotG.mk (x := x) (w := W) 0 rfl hGN
        clear hGN ha hdep
        have y0 : w'.cell? ⟨w.heap.size, 0, none⟩ = some (.slice (some ⟨g, 0, none⟩) N cap) := (q0.below hb q0.lt).cell 0
        go_simp
        exact ⟨_, rfl, Below.refl _ _, hmk _ _ rfl⟩
      · intro a' w' hb ha hdep
        have d4 : a'.tmps.getD 4 undef = .pointer (some ⟨w.heap.size + 1, 0, none⟩) := ha.at 4 (by kernel_rfl)
        have hmk := fun (x : Value) (W : World) => SlotG.mk (x := x) (w := W) 1 rfl hGN
        clear hGN ha hdep
        have y0 : w'.cell? ⟨w.heap.size + 1, 0, none⟩ = some (.int .i64 a) := (q1.below hb q1.lt).cell 0
        have y1 : w'.cell? ⟨w.heap.size + 1, 1, none⟩ = some (.int .i64 l) := (q1.below hb q1.lt).cell 1
        have y2 : w'.cell? ⟨w.heap.size + 1, 2, none⟩ = some (.int .i64 m) := (q1.below hb q1.lt).cell 2
        have y3 : w'.cell? ⟨w.heap.size + 1, 3, none⟩ = some (.int .i64 n) := (q1.below hb q1.lt).cell 3
        have y4 : w'.cell? ⟨w.heap.size + 1, 4, none⟩ = some (.int .i64 ii) := (q1.below hb q1.lt).cell 4
        have y5 : w'.cell? ⟨w.heap.size + 1, 5, none⟩ = some (.int .i64 t) := (q1.below hb q1.lt).cell 5
        have y6 : w'.cell? ⟨w.heap.size + 1, 6, none⟩ = some (.int .i64 u) := (q1.below hb q1.lt).cell 6
        have y7 : w'.cell? ⟨w.heap.size + 1, 7, none⟩ = some (.int .i64 b) := (q1.below hb q1.lt).cell 7
        have y8 : w'.cell? ⟨w.heap.size + 1, 8, none⟩ = some (.bool c) := (q1.below hb q1.lt).cell 8
        go_simp
        exact ⟨_, rfl, Below.refl _ _, hmk _ _ rfl⟩
      · intro a' w' hb ha hdep
        have d2 : a'.tmps.getD 2 undef = .int .i64 now := ha.at 2 (by kernel_rfl)
        have hmk := fun (x : Value) (W : World) => SlotG.mk (x := x) (w := W) 2 rfl hGN
        clear hGN ha hdep
        go_simp
        exact ⟨_, rfl, Below.refl _ _, hmk _ _ rfl⟩
      · intro a' w' hb ha hdep
        have d71 : a'.tmps.getD 71 undef = .agg #[.int .i64 a, .int .i64 l, .int .i64 m, .int .i64 n, .int .i64 ii, .int .i64 t, .int .i64 u, .int .i64 b, .bool c] := (hdep 71 (of_decide_eq_true (by kernel_rfl))).is 1 rfl
        have d72 : a'.tmps.getD 72 undef = .int .i64 now := (hdep 72 (of_decide_eq_true (by kernel_rfl))).is 2 rfl
        have hmk := fun (x : Value) (W : World) => SlotG.mk (x := x) (w := W) 3 rfl hGN
        clear hGN ha hdep
        go_simp
        refine (HC.out _).mono ?_
        rintro e w2 ⟨rfl, hb2⟩
        exact ⟨_, rfl, hb2, hmk _ _ rfl⟩
      · intro a' w' hb ha hdep
        have d70 : a'.tmps.getD 70 undef = .agg #[.slice (some ⟨g, 0, none⟩) N cap] := (hdep 70 (of_decide_eq_true (by kernel_rfl))).is 0 rfl
        have d73 : a'.tmps.getD 73 undef = .agg #[.int .i64 Q0, .int .i64 Q1, .int .i64 Q2, .int .i64 Q3, .int .i64 Q4, .int .i64 Q5, .int .i64 Q6, .int .i64 Q7, .bool Q8] := (hdep 73 (of_decide_eq_true (by kernel_rfl))).is 3 rfl
        have hmk := fun (x : Value) (W : World) => SlotG.mk (x := x) (w := W) 4 rfl hGN
        clear hGN ha hdep
        go_simp
        refine (HP.out _ ((HX.out).below (hB.trans (hb.mono hB.size)))).mono ?_
        rintro e w2 ⟨q, c, rfl, ho, hb2⟩
        exact ⟨_, rfl, hb2, hmk _ _ ⟨q, c, rfl, ownsR_monoS ho hb.size⟩⟩
    · intro a' w' hb ha hG
      clear hGN
      have D74 := (hG _ (List.mem_of_getElem? (i := 4) rfl) 74 rfl).get 4 rfl
      have d6 : a'.tmps.getD 6 undef = .pointer (some ⟨w.heap.size + 1 + 1, 0, none⟩) := ha.at 6 (by kernel_rfl)
      have e2 : a' = ⟨#[a'.tmps.getD 0 undef, a'.tmps.getD 1 undef, a'.tmps.getD 2 undef, a'.tmps.getD 3 undef, a'.tmps.getD 4 undef, a'.tmps.getD 5 undef, a'.tmps.getD 6 undef, a'.tmps.getD 7 undef, a'.tmps.getD 8 undef, a'.tmps.getD 9 undef, a'.tmps.getD 10 undef, a'.tmps.getD 11 undef, a'.tmps.getD 12 undef, a'.tmps.getD 13 undef, a'.tmps.getD 14 undef, a'.tmps.getD 15 undef, a'.tmps.getD 16 undef, a'.tmps.getD 17 undef, a'.tmps.getD 18 undef, a'.tmps.getD 19 undef, a'.tmps.getD 20 undef, a'.tmps.getD 21 undef, a'.tmps.getD 22 undef, a'.tmps.getD 23 undef, a'.tmps.getD 24 undef, a'.tmps.getD 25 undef, a'.tmps.getD 26 undef, a'.tmps.getD 27 undef, a'.tmps.getD 28 undef, a'.tmps.getD 29 undef, a'.tmps.getD 30 undef, a'.tmps.getD 31 undef, a'.tmps.getD 32 undef, a'.tmps.getD 33 undef, a'.tmps.getD 34 undef, a'.tmps.getD 35 undef, a'.tmps.getD 36 undef, a'.tmps.getD 37 undef, a'.tmps.getD 38 undef, a'.tmps.getD 39 undef, a'.tmps.getD 40 undef, a'.tmps.getD 41 undef, a'.tmps.getD 42 undef, a'.tmps.getD 43 undef, a'.tmps.getD 44 undef, a'.tmps.getD 45 undef, a'.tmps.getD 46 undef, a'.tmps.getD 47 undef, a'.tmps.getD 48 undef, a'.tmps.getD 49 undef, a'.tmps.getD 50 undef, a'.tmps.getD 51 undef, a'.tmps.getD 52 undef, a'.tmps.getD 53 undef, a'.tmps.getD 54 undef, a'.tmps.getD 55 undef, a'.tmps.getD 56 undef, a'.tmps.getD 57 undef, a'.tmps.getD 58 undef, a'.tmps.getD 59 undef, a'.tmps.getD 60 undef, a'.tmps.getD 61 undef, a'.tmps.getD 62 undef, a'.tmps.getD 63 undef, a'.tmps.getD 64 undef, a'.tmps.getD 65 undef, a'.tmps.getD 66 undef, a'.tmps.getD 67 undef, a'.tmps.getD 68 undef, a'.tmps.getD 69 undef, a'.tmps.getD 70 undef, a'.tmps.getD 71 undef, a'.tmps.getD 72 undef, a'.tmps.getD 73 undef, a'.tmps.getD 74 undef, a'.tmps.getD 75 undef, a'.tmps.getD 76 undef, a'.tmps.getD 77 undef, a'.tmps.getD 78 undef], []⟩ := by rw [← (show a'.defers = [] from ha.2.1)]; exact act_eq a' 79 ha.1
      rw [d6] at e2
      clear hG ha d6
      generalize a'.tmps.getD 0 undef = x0 at *
      generalize a'.tmps.getD 1 undef = x1 at *
      generalize a'.tmps.getD 2 undef = x2 at *
      generalize a'.tmps.getD 3 undef = x3 at *
      generalize a'.tmps.getD 4 undef = x4 at *
      generalize a'.tmps.getD 5 undef = x5 at *
      generalize a'.tmps.getD 7 undef = x7 at *
      generalize a'.tmps.getD 8 undef = x8 at *
      generalize a'.tmps.getD 9 undef = x9 at *
      generalize a'.tmps.getD 10 undef = x10 at *
      generalize a'.tmps.getD 11 undef = x11 at *
      generalize a'.tmps.getD 12 undef = x12 at *
      generalize a'.tmps.getD 13 undef = x13 at *
      generalize a'.tmps.getD 14 undef = x14 at *
      generalize a'.tmps.getD 15 undef = x15 at *
      generalize a'.tmps.getD 16 undef = x16 at *
      generalize a'.tmps.getD 17 undef = x17 at *
      generalize a'.tmps.getD 18 undef = x18 at *
      generalize a'.tmps.getD 19 undef = x19 at *
      generalize a'.tmps.getD 20 undef = x20 at *
      generalize a'.tmps.getD 21 undef = x21 at *
      generalize a'.tmps.getD 22 undef = x22 at *
      generalize a'.tmps.getD 23 undef = x23 at *
      generalize a'.tmps.getD 24 undef = x24 at *
      generalize a'.tmps.getD 25 undef = x25 at *
      generalize a'.tmps.getD 26 undef = x26 at *
      generalize a'.tmps.getD 27 undef = x27 at *
      generalize a'.tmps.getD 28 undef = x28 at *
      generalize a'.tmps.getD 29 undef = x29 at *
      generalize a'.tmps.getD 30 undef = x30 at *
      generalize a'.tmps.getD 31 undef = x31 at *
      generalize a'.tmps.getD 32 undef = x32 at *
      generalize a'.tmps.getD 33 undef = x33 at *
      generalize a'.tmps.getD 34 undef = x34 at *
      generalize a'.tmps.getD 35 undef = x35 at *
      generalize a'.tmps.getD 36 undef = x36 at *
      generalize a'.tmps.getD 37 undef = x37 at *
      generalize a'.tmps.getD 38 undef = x38 at *
      generalize a'.tmps.getD 39 undef = x39 at *
      generalize a'.tmps.getD 40 undef = x40 at *
      generalize a'.tmps.getD 41 undef = x41 at *
      generalize a'.tmps.getD 42 undef = x42 at *
      generalize a'.tmps.getD 43 undef = x43 at *
      generalize a'.tmps.getD 44 undef = x44 at *
      generalize a'.tmps.getD 45 undef = x45 at *
      generalize a'.tmps.getD 46 undef = x46 at *
      generalize a'.tmps.getD 47 undef = x47 at *
      generalize a'.tmps.getD 48 undef = x48 at *
      generalize a'.tmps.getD 49 undef = x49 at *
      generalize a'.tmps.getD 50 undef = x50 at *
      generalize a'.tmps.getD 51 undef = x51 at *
      generalize a'.tmps.getD 52 undef = x52 at *
      generalize a'.tmps.getD 53 undef = x53 at *
      generalize a'.tmps.getD 54 undef = x54 at *
      generalize a'.tmps.getD 55 undef = x55 at *
      generalize a'.tmps.getD 56 undef = x56 at *
      generalize a'.tmps.getD 57 undef = x57 at *
      generalize a'.tmps.getD 58 undef = x58 at *
      generalize a'.tmps.getD 59 undef = x59 at *
      generalize a'.tmps.getD 60 undef = x60 at *
      generalize a'.tmps.getD 61 undef = x61 at *
      generalize a'.tmps.getD 62 undef = x62 at *
      generalize a'.tmps.getD 63 undef = x63 at *
      generalize a'.tmps.getD 64 undef = x64 at *
      generalize a'.tmps.getD 65 undef = x65 at *
      generalize a'.tmps.getD 66 undef = x66 at *
      generalize a'.tmps.getD 67 undef = x67 at *
      generalize a'.tmps.getD 68 undef = x68 at *
      generalize a'.tmps.getD 69 undef = x69 at *
      generalize a'.tmps.getD 70 undef = x70 at *
      generalize a'.tmps.getD 71 undef = x71 at *
      generalize a'.tmps.getD 72 undef = x72 at *
      generalize a'.tmps.getD 73 undef = x73 at *
      generalize a'.tmps.getD 74 undef = x74 at *
      generalize a'.tmps.getD 75 undef = x75 at *
      generalize a'.tmps.getD 76 undef = x76 at *
      generalize a'.tmps.getD 77 undef = x77 at *
      generalize a'.tmps.getD 78 undef = x78 at *
      subst e2
      simp only [List.drop_succ_cons, List.drop_zero]
      obtain ⟨q, cq, rfl, ho⟩ := D74
      have l2 := q2.lt
      have hsw := hb.size
      have qr := q2.below hb q2.lt
      have hB := hB.trans (hb.mono hB.size)
      clear hb q0 q1 q2 HC HP
      have f0 : w'.frozen? ⟨w.heap.size + 1 + 1, 0, none⟩ = false := qr.frozen 0
      have f1 : w'.frozen? ⟨w.heap.size + 1 + 1, 1, none⟩ = false := qr.frozen 1
      have z0 : w'.cell? ⟨w.heap.size + 1 + 1, 0, none⟩ = some (.slice none 0 0) := qr.cell 0
      have z1 : w'.cell? ⟨w.heap.size + 1 + 1, 1, none⟩ = some (.int .i64 0) := qr.cell 1
      have HE2 : Hid _ := And.intro ((qr.set 0 (.slice q qs.length cq)).set 1 (.int .i64 0)) (And.intro ((hB.setCell (p := ⟨w.heap.size + 1 + 1, 0, none⟩) (by show w.heap.size ≤ w.heap.size + 1 + 1; omega) (.slice q qs.length cq)).setCell (p := ⟨w.heap.size + 1 + 1, 1, none⟩) (by show w.heap.size ≤ w.heap.size + 1 + 1; omega) (.int .i64 0)) (ownR_set (base' := w.heap.size) (ownR_set (base' := w.heap.size + 1 + 1 + 1) ho ⟨w.heap.size + 1 + 1, 0, none⟩ (by show w.heap.size + 1 + 1 < _; omega) (.slice q qs.length cq) (by omega)) ⟨w.heap.size + 1 + 1, 1, none⟩ (by show w.heap.size + 1 + 1 < _; omega) (.int .i64 0) (by omega)))
      clear qr hB ho
      go_wp2_with fail
      obtain ⟨h1, h2, h3⟩ := HE2.out
      clear HE2 f0 f1 z0 z1
      generalize (w'.setCell ⟨w.heap.size + 1 + 1, 0, none⟩ (.slice q qs.length cq)).setCell ⟨w.heap.size + 1 + 1, 1, none⟩ (.int .i64 0) = Z at *
      have e0 : Z.cell? ⟨w.heap.size + 1 + 1, 0, none⟩ = some (.slice q qs.length cq) := h1.cell 0
      have e1 : Z.cell? ⟨w.heap.size + 1 + 1, 1, none⟩ = some (.int .i64 0) := h1.cell 1
      exact bodyPost_ret (v := .agg #[.slice q qs.length cq, .int .i64 0]) (by simp [results, Tryz.results98, go_sem, e0, e1]) rfl ⟨⟨_, _, rfl, h3⟩, h2⟩
  · have d1 : (V3 == n) = false := by simpa using e1
    clear e1 hns
    obtain ⟨W, hW, q0, q1, q2, hB, hS, -⟩ := rows3 w [.slice (some ⟨g, 0, none⟩) N cap] [.int .i64 a, .int .i64 l, .int .i64 m, .int .i64 n, .int .i64 ii, .int .i64 t, .int .i64 u, .int .i64 b, .bool c] [.slice none 0 0, .int .i64 0] 36 98 112
    have HW : Hid _ := hW
    have HQ : Hid _ := And.intro q0 (And.intro q1 (And.intro q2 hB))
    have x0 : W.cell? ⟨w.heap.size, 0, none⟩ = some (.slice (some ⟨g, 0, none⟩) N cap) := q0.cell 0
    have y0 : W.cell? ⟨w.heap.size + 1, 0, none⟩ = some (.int .i64 a) := q1.cell 0
    have y1 : W.cell? ⟨w.heap.size + 1, 1, none⟩ = some (.int .i64 l) := q1.cell 1
    rw [hW] at x0 y0 y1
    clear hW q0 q1 q2 hB
    go_enter Tryz.func98, Tryz.ntmps98
    go_wp2_with fail
    rw [← HW.out]
    obtain ⟨q0, q1, q2, hB⟩ := HQ.out
    clear HQ x0 y0 y1
    refine (HA.out _ ((HX.out).below hB)).mono ?_
    rintro e w1 ⟨rfl, hb1⟩
    have q0 := q0.below hb1 (by omega)
    have q1 := q1.below hb1 (by omega)
    have q2 := q2.below hb1 (by omega)
    have hB := hB.trans (hb1.mono (by omega))
    have hs1 := hb1.size
    clear hb1
    clear HA HW
    have x0 : w1.cell? ⟨w.heap.size, 0, none⟩ = some (.slice (some ⟨g, 0, none⟩) N cap) := q0.cell 0
    have y2 : w1.cell? ⟨w.heap.size + 1, 2, none⟩ = some (.int .i64 m) := q1.cell 2
    obtain ⟨c0, c1, c2, c3, c4, c5, c6, c7, c8⟩ := HV.out _ ((HX.out).below hB)
    have HE : Hid _ := And.intro (q0.alloc (.cells #[.int .i64 V0, .int .i64 V1, .int .i64 V2, .int .i64 V3, .int .i64 V4, .int .i64 V5, .int .i64 V6, .int .i64 V7, .bool V8] 98)) (And.intro (q1.alloc (.cells #[.int .i64 V0, .int .i64 V1, .int .i64 V2, .int .i64 V3, .int .i64 V4, .int .i64 V5, .int .i64 V6, .int .i64 V7, .bool V8] 98)) (And.intro (q2.alloc (.cells #[.int .i64 V0, .int .i64 V1, .int .i64 V2, .int .i64 V3, .int .i64 V4, .int .i64 V5, .int .i64 V6, .int .i64 V7, .bool V8] 98)) (And.intro (Row.new w1 98 [.int .i64 V0, .int .i64 V1, .int .i64 V2, .int .i64 V3, .int .i64 V4, .int .i64 V5, .int .i64 V6, .int .i64 V7, .bool V8]) (hB.alloc hB.size (.cells #[.int .i64 V0, .int .i64 V1, .int .i64 V2, .int .i64 V3, .int .i64 V4, .int .i64 V5, .int .i64 V6, .int .i64 V7, .bool V8] 98)))))
    have p1 := q1.alloc (.cells #[.int .i64 V0, .int .i64 V1, .int .i64 V2, .int .i64 V3, .int .i64 V4, .int .i64 V5, .int .i64 V6, .int .i64 V7, .bool V8] 98)
    have p0 := q0.alloc (.cells #[.int .i64 V0, .int .i64 V1, .int .i64 V2, .int .i64 V3, .int .i64 V4, .int .i64 V5, .int .i64 V6, .int .i64 V7, .bool V8] 98)
    have z2 : (w1.alloc (.cells #[.int .i64 V0, .int .i64 V1, .int .i64 V2, .int .i64 V3, .int .i64 V4, .int .i64 V5, .int .i64 V6, .int .i64 V7, .bool V8] 98)).cell? ⟨w.heap.size + 1, 2, none⟩ = some (.int .i64 m) := p1.cell 2
    have z3 : (w1.alloc (.cells #[.int .i64 V0, .int .i64 V1, .int .i64 V2, .int .i64 V3, .int .i64 V4, .int .i64 V5, .int .i64 V6, .int .i64 V7, .bool V8] 98)).cell? ⟨w.heap.size + 1, 3, none⟩ = some (.int .i64 n) := p1.cell 3
    have z4 : (w1.alloc (.cells #[.int .i64 V0, .int .i64 V1, .int .i64 V2, .int .i64 V3, .int .i64 V4, .int .i64 V5, .int .i64 V6, .int .i64 V7, .bool V8] 98)).cell? ⟨w.heap.size + 1, 4, none⟩ = some (.int .i64 ii) := p1.cell 4
    have zz : (w1.alloc (.cells #[.int .i64 V0, .int .i64 V1, .int .i64 V2, .int .i64 V3, .int .i64 V4, .int .i64 V5, .int .i64 V6, .int .i64 V7, .bool V8] 98)).cell? ⟨w.heap.size, 0, none⟩ = some (.slice (some ⟨g, 0, none⟩) N cap) := p0.cell 0
    clear q0 q1 q2 hB p0 p1 y2
    go_wp2_with fail
    clear HV z2 z3 z4 zz x0 c0 c1 c2 c3 c4 c5 c6 c7 c8
    generalize hb8 : w1.heap.size = b8 at *
    generalize w1.alloc (.cells #[.int .i64 V0, .int .i64 V1, .int .i64 V2, .int .i64 V3, .int .i64 V4, .int .i64 V5, .int .i64 V6, .int .i64 V7, .bool V8] 98) = W1 at *
    clear hb8
    obtain ⟨q0, q1, q2, q8, hB⟩ := HE.out
    clear HE
    have hGN : (([(70, Is (.agg #[.slice (some ⟨g, 0, none⟩) N cap])), (71, Is (.agg #[.int .i64 a, .int .i64 l, .int .i64 m, .int .i64 n, .int .i64 ii, .int .i64 t, .int .i64 u, .int .i64 b, .bool c])), (72, Is (.int .i64 now)), (73, Is (.agg #[.int .i64 Q0, .int .i64 Q1, .int .i64 Q2, .int .i64 Q3, .int .i64 Q4, .int .i64 Q5, .int .i64 Q6, .int .i64 Q7, .bool Q8])), (74, fun v W => ∃ q c, v = .agg #[.slice q qs.length c] ∧ W.ownsRow W1.heap.size 98 9 (.slice q qs.length c) qs.length (rowR qs))] : List (Nat × (Value → World → Prop))).map (·.1)).Nodup := by simp
    refine wp_region_steady 5 (SlotG [(70, Is (.agg #[.slice (some ⟨g, 0, none⟩) N cap])), (71, Is (.agg #[.int .i64 a, .int .i64 l, .int .i64 m, .int .i64 n, .int .i64 ii, .int .i64 t, .int .i64 u, .int .i64 b, .bool c])), (72, Is (.int .i64 now)), (73, Is (.agg #[.int .i64 Q0, .int .i64 Q1, .int .i64 Q2, .int .i64 Q3, .int .i64 Q4, .int .i64 Q5, .int .i64 Q6, .int .i64 Q7, .bool Q8])), (74, fun v W => ∃ q c, v = .agg #[.slice q qs.length c] ∧ W.ownsRow W1.heap.size 98 9 (.slice q qs.length c) qs.length (rowR qs))]) (by kernel_rfl) (by kernel_rfl) (Stabs.all ⟨stab_is _, stab_is _, stab_is _, stab_is _, stab_rib W1.heap.size qs, trivial⟩) ?_ ?_
    · intro o ho
      simp only [List.take_succ_cons, List.take_zero, List.mem_cons, List.not_mem_nil, or_false] at ho
      rcases ho with rfl | rfl | rfl | rfl | rfl
      · intro a' w' hb ha hdep
        have d3 : a'.tmps.getD 3 undef = .pointer (some ⟨w.heap.size, 0, none⟩) := ha.at 3 (by kernel_rfl)
        have hmk := fun (x : Value) (W : World) => SlotG.mk (x := x) (w := W) 0 rfl hGN
        clear hGN ha hdep
        have y0 : w'.cell? ⟨w.heap.size, 0, none⟩ = some (.slice (some ⟨g, 0, none⟩) N cap) := (q0.below hb q0.lt).cell 0
        go_simp
        exact ⟨_, rfl, Below.refl _ _, hmk _ _ rfl⟩
      · intro a' w' hb ha hdep
        have d4 : a'.tmps.getD 4 undef = .pointer (some ⟨w.heap.size + 1, 0, none⟩) := ha.at 4 (by kernel_rfl)
        have hmk := fun (x : Value) (W : World) => SlotG.mk (x := x) (w := W) 1 rfl hGN
        clear hGN ha hdep
        have y0 : w'.cell? ⟨w.heap.size + 1, 0, none⟩ = some (.int .i64 a) := (q1.below hb q1.lt).cell 0
        have y1 : w'.cell? ⟨w.heap.size + 1, 1, none⟩ = some (.int .i64 l) := (q1.below hb q1.lt).cell 1
        have y2 : w'.cell? ⟨w.heap.size + 1, 2, none⟩ = some (.int .i64 m) := (q1.below hb q1.lt).cell 2
        have y3 : w'.cell? ⟨w.heap.size + 1, 3, none⟩ = some (.int .i64 n) := (q1.below hb q1.lt).cell 3
        have y4 : w'.cell? ⟨w.heap.size + 1, 4, none⟩ = some (.int .i64 ii) := (q1.below hb q1.lt).cell 4
        have y5 : w'.cell? ⟨w.heap.size + 1, 5, none⟩ = some (.int .i64 t) := (q1.below hb q1.lt).cell 5
        have y6 : w'.cell? ⟨w.heap.size + 1, 6, none⟩ = some (.int .i64 u) := (q1.below hb q1.lt).cell 6
        have y7 : w'.cell? ⟨w.heap.size + 1, 7, none⟩ = some (.int .i64 b) := (q1.below hb q1.lt).cell 7
        have y8 : w'.cell? ⟨w.heap.size + 1, 8, none⟩ = some (.bool c) := (q1.below hb q1.lt).cell 8
        go_simp
        exact ⟨_, rfl, Below.refl _ _, hmk _ _ rfl⟩
      · intro a' w' hb ha hdep
        have d2 : a'.tmps.getD 2 undef = .int .i64 now := ha.at 2 (by kernel_rfl)
        have hmk := fun (x : Value) (W : World) => SlotG.mk (x := x) (w := W) 2 rfl hGN
        clear hGN ha hdep
        go_simp
        exact ⟨_, rfl, Below.refl _ _, hmk _ _ rfl⟩
      · intro a' w' hb ha hdep
        have d71 : a'.tmps.getD 71 undef = .agg #[.int .i64 a, .int .i64 l, .int .i64 m, .int .i64 n, .int .i64 ii, .int .i64 t, .int .i64 u, .int .i64 b, .bool c] := (hdep 71 (of_decide_eq_true (by kernel_rfl))).is 1 rfl
        have d72 : a'.tmps.getD 72 undef = .int .i64 now := (hdep 72 (of_decide_eq_true (by kernel_rfl))).is 2 rfl
        have hmk := fun (x : Value) (W : World) => SlotG.mk (x := x) (w := W) 3 rfl hGN
        clear hGN ha hdep
        go_simp
        refine (HC.out _).mono ?_
        rintro e w2 ⟨rfl, hb2⟩
        exact ⟨_, rfl, hb2, hmk _ _ rfl⟩
      · intro a' w' hb ha hdep
        have d70 : a'.tmps.getD 70 undef = .agg #[.slice (some ⟨g, 0, none⟩) N cap] := (hdep 70 (of_decide_eq_true (by kernel_rfl))).is 0 rfl
        have d73 : a'.tmps.getD 73 undef = .agg #[.int .i64 Q0, .int .i64 Q1, .int .i64 Q2, .int .i64 Q3, .int .i64 Q4, .int .i64 Q5, .int .i64 Q6, .int .i64 Q7, .bool Q8] := (hdep 73 (of_decide_eq_true (by kernel_rfl))).is 3 rfl
        have hmk := fun (x : Value) (W : World) => SlotG.mk (x := x) (w := W) 4 rfl hGN
        clear hGN ha hdep
        go_simp
        refine (HP.out _ ((HX.out).below (hB.trans (hb.mono hB.size)))).mono ?_
        rintro e w2 ⟨q, c, rfl, ho, hb2⟩
        exact ⟨_, rfl, hb2, hmk _ _ ⟨q, c, rfl, ownsR_monoS ho hb.size⟩⟩
    · intro a' w' hb ha hG
      clear hGN
      have D74 := (hG _ (List.mem_of_getElem? (i := 4) rfl) 74 rfl).get 4 rfl
      have d6 : a'.tmps.getD 6 undef = .pointer (some ⟨w.heap.size + 1 + 1, 0, none⟩) := ha.at 6 (by kernel_rfl)
      have e2 : a' = ⟨#[a'.tmps.getD 0 undef, a'.tmps.getD 1 undef, a'.tmps.getD 2 undef, a'.tmps.getD 3 undef, a'.tmps.getD 4 undef, a'.tmps.getD 5 undef, a'.tmps.getD 6 undef, a'.tmps.getD 7 undef, a'.tmps.getD 8 undef, a'.tmps.getD 9 undef, a'.tmps.getD 10 undef, a'.tmps.getD 11 undef, a'.tmps.getD 12 undef, a'.tmps.getD 13 undef, a'.tmps.getD 14 undef, a'.tmps.getD 15 undef, a'.tmps.getD 16 undef, a'.tmps.getD 17 undef, a'.tmps.getD 18 undef, a'.tmps.getD 19 undef, a'.tmps.getD 20 undef, a'.tmps.getD 21 undef, a'.tmps.getD 22 undef, a'.tmps.getD 23 undef, a'.tmps.getD 24 undef, a'.tmps.getD 25 undef, a'.tmps.getD 26 undef, a'.tmps.getD 27 undef, a'.tmps.getD 28 undef, a'.tmps.getD 29 undef, a'.tmps.getD 30 undef, a'.tmps.getD 31 undef, a'.tmps.getD 32 undef, a'.tmps.getD 33 undef, a'.tmps.getD 34 undef, a'.tmps.getD 35 undef, a'.tmps.getD 36 undef, a'.tmps.getD 37 undef, a'.tmps.getD 38 undef, a'.tmps.getD 39 undef, a'.tmps.getD 40 undef, a'.tmps.getD 41 undef, a'.tmps.getD 42 undef, a'.tmps.getD 43 undef, a'.tmps.getD 44 undef, a'.tmps.getD 45 undef, a'.tmps.getD 46 undef, a'.tmps.getD 47 undef, a'.tmps.getD 48 undef, a'.tmps.getD 49 undef, a'.tmps.getD 50 undef, a'.tmps.getD 51 undef, a'.tmps.getD 52 undef, a'.tmps.getD 53 undef, a'.tmps.getD 54 undef, a'.tmps.getD 55 undef, a'.tmps.getD 56 undef, a'.tmps.getD 57 undef, a'.tmps.getD 58 undef, a'.tmps.getD 59 undef, a'.tmps.getD 60 undef, a'.tmps.getD 61 undef, a'.tmps.getD 62 undef, a'.tmps.getD 63 undef, a'.tmps.getD 64 undef, a'.tmps.getD 65 undef, a'.tmps.getD 66 undef, a'.tmps.getD 67 undef, a'.tmps.getD 68 undef, a'.tmps.getD 69 undef, a'.tmps.getD 70 undef, a'.tmps.getD 71 undef, a'.tmps.getD 72 undef, a'.tmps.getD 73 undef, a'.tmps.getD 74 undef, a'.tmps.getD 75 undef, a'.tmps.getD 76 undef, a'.tmps.getD 77 undef, a'.tmps.getD 78 undef], []⟩ := by rw [← (show a'.defers = [] from ha.2.1)]; exact act_eq a' 79 ha.1
      rw [d6] at e2
      clear hG ha d6
      generalize a'.tmps.getD 0 undef = x0 at *
      generalize a'.tmps.getD 1 undef = x1 at *
      generalize a'.tmps.getD 2 undef = x2 at *
      generalize a'.tmps.getD 3 undef = x3 at *
      generalize a'.tmps.getD 4 undef = x4 at *
      generalize a'.tmps.getD 5 undef = x5 at *
      generalize a'.tmps.getD 7 undef = x7 at *
      generalize a'.tmps.getD 8 undef = x8 at *
      generalize a'.tmps.getD 9 undef = x9 at *
      generalize a'.tmps.getD 10 undef = x10 at *
      generalize a'.tmps.getD 11 undef = x11 at *
      generalize a'.tmps.getD 12 undef = x12 at *
      generalize a'.tmps.getD 13 undef = x13 at *
      generalize a'.tmps.getD 14 undef = x14 at *
      generalize a'.tmps.getD 15 undef = x15 at *
      generalize a'.tmps.getD 16 undef = x16 at *
      generalize a'.tmps.getD 17 undef = x17 at *
      generalize a'.tmps.getD 18 undef = x18 at *
      generalize a'.tmps.getD 19 undef = x19 at *
      generalize a'.tmps.getD 20 undef = x20 at *
      generalize a'.tmps.getD 21 undef = x21 at *
      generalize a'.tmps.getD 22 undef = x22 at *
      generalize a'.tmps.getD 23 undef = x23 at *
      generalize a'.tmps.getD 24 undef = x24 at *
      generalize a'.tmps.getD 25 undef = x25 at *
      generalize a'.tmps.getD 26 undef = x26 at *
      generalize a'.tmps.getD 27 undef = x27 at *
      generalize a'.tmps.getD 28 undef = x28 at *
      generalize a'.tmps.getD 29 undef = x29 at *
      generalize a'.tmps.getD 30 undef = x30 at *
      generalize a'.tmps.getD 31 undef = x31 at *
      generalize a'.tmps.getD 32 undef = x32 at *
      generalize a'.tmps.getD 33 undef = x33 at *
      generalize a'.tmps.getD 34 undef = x34 at *
      generalize a'.tmps.getD 35 undef = x35 at *
      generalize a'.tmps.getD 36 undef = x36 at *
      generalize a'.tmps.getD 37 undef = x37 at *
      generalize a'.tmps.getD 38 undef = x38 at *
      generalize a'.tmps.getD 39 undef = x39 at *
      generalize a'.tmps.getD 40 undef = x40 at *
      generalize a'.tmps.getD 41 undef = x41 at *
      generalize a'.tmps.getD 42 undef = x42 at *
      generalize a'.tmps.getD 43 undef = x43 at *
      generalize a'.tmps.getD 44 undef = x44 at *
      generalize a'.tmps.getD 45 undef = x45 at *
      generalize a'.tmps.getD 46 undef = x46 at *
      generalize a'.tmps.getD 47 undef = x47 at *
      generalize a'.tmps.getD 48 undef = x48 at *
      generalize a'.tmps.getD 49 undef = x49 at *
      generalize a'.tmps.getD 50 undef = x50 at *
      generalize a'.tmps.getD 51 undef = x51 at *
      generalize a'.tmps.getD 52 undef = x52 at *
      generalize a'.tmps.getD 53 undef = x53 at *
      generalize a'.tmps.getD 54 undef = x54 at *
      generalize a'.tmps.getD 55 undef = x55 at *
      generalize a'.tmps.getD 56 undef = x56 at *
      generalize a'.tmps.getD 57 undef = x57 at *
      generalize a'.tmps.getD 58 undef = x58 at *
      generalize a'.tmps.getD 59 undef = x59 at *
      generalize a'.tmps.getD 60 undef = x60 at *
      generalize a'.tmps.getD 61 undef = x61 at *
      generalize a'.tmps.getD 62 undef = x62 at *
      generalize a'.tmps.getD 63 undef = x63 at *
      generalize a'.tmps.getD 64 undef = x64 at *
      generalize a'.tmps.getD 65 undef = x65 at *
      generalize a'.tmps.getD 66 undef = x66 at *
      generalize a'.tmps.getD 67 undef = x67 at *
      generalize a'.tmps.getD 68 undef = x68 at *
      generalize a'.tmps.getD 69 undef = x69 at *
      generalize a'.tmps.getD 70 undef = x70 at *
      generalize a'.tmps.getD 71 undef = x71 at *
      generalize a'.tmps.getD 72 undef = x72 at *
      generalize a'.tmps.getD 73 undef = x73 at *
      generalize a'.tmps.getD 74 undef = x74 at *
      generalize a'.tmps.getD 75 undef = x75 at *
      generalize a'.tmps.getD 76 undef = x76 at *
      generalize a'.tmps.getD 77 undef = x77 at *
      generalize a'.tmps.getD 78 undef = x78 at *
      subst e2
      simp only [List.drop_succ_cons, List.drop_zero]
      obtain ⟨q, cq, rfl, ho⟩ := D74
      have l2 := q2.lt
      have hsw := hb.size
      have qr := q2.below hb q2.lt
      have hB := hB.trans (hb.mono hB.size)
      clear hb q0 q1 q2 HC HP
      have f0 : w'.frozen? ⟨w.heap.size + 1 + 1, 0, none⟩ = false := qr.frozen 0
      have f1 : w'.frozen? ⟨w.heap.size + 1 + 1, 1, none⟩ = false := qr.frozen 1
      have z0 : w'.cell? ⟨w.heap.size + 1 + 1, 0, none⟩ = some (.slice none 0 0) := qr.cell 0
      have z1 : w'.cell? ⟨w.heap.size + 1 + 1, 1, none⟩ = some (.int .i64 0) := qr.cell 1
      have HE2 : Hid _ := And.intro ((qr.set 0 (.slice q qs.length cq)).set 1 (.int .i64 0)) (And.intro ((hB.setCell (p := ⟨w.heap.size + 1 + 1, 0, none⟩) (by show w.heap.size ≤ w.heap.size + 1 + 1; omega) (.slice q qs.length cq)).setCell (p := ⟨w.heap.size + 1 + 1, 1, none⟩) (by show w.heap.size ≤ w.heap.size + 1 + 1; omega) (.int .i64 0)) (ownR_set (base' := w.heap.size) (ownR_set (base' := w.heap.size + 1 + 1 + 1) ho ⟨w.heap.size + 1 + 1, 0, none⟩ (by show w.heap.size + 1 + 1 < _; omega) (.slice q qs.length cq) (by omega)) ⟨w.heap.size + 1 + 1, 1, none⟩ (by show w.heap.size + 1 + 1 < _; omega) (.int .i64 0) (by omega)))
      clear qr hB ho
      go_wp2_with fail
      obtain ⟨h1, h2, h3⟩ := HE2.out
      clear HE2 f0 f1 z0 z1
      generalize (w'.setCell ⟨w.heap.size + 1 + 1, 0, none⟩ (.slice q qs.length cq)).setCell ⟨w.heap.size + 1 + 1, 1, none⟩ (.int .i64 0) = Z at *
      have e0 : Z.cell? ⟨w.heap.size + 1 + 1, 0, none⟩ = some (.slice q qs.length cq) := h1.cell 0
      have e1 : Z.cell? ⟨w.heap.size + 1 + 1, 1, none⟩ = some (.int .i64 0) := h1.cell 1
      exact bodyPost_ret (v := .agg #[.slice q qs.length cq, .int .i64 0]) (by simp [results, Tryz.results98, go_sem, e0, e1]) rfl ⟨⟨_, _, rfl, h3⟩, h2⟩
set_option maxRecDepth 100000 in
set_option maxHeartbeats 4000000 in
theorem learnS_stay (p : Option Addr) (cap : Nat) (rs : List Rt) (r : Rt) (now : Int) (w : World) (h : RtsIn w p rs) (hc : p = none → cap = 0) (hcl : rs.length ≤ cap) (hr : ribB rs = true) (_h0 : 0 ≤ now) (_h1 : now ≤ 999900) (old : Rt) (hk : lookN rs r.a r.l = some old) (c1 : ¬ old.n = 0) (c2 : ¬ (old.n = r.n ∧ old.i = r.i)) (c3 : ¬ r.m < old.m) :
    Calls Tryz.prog 98 #[ribV p rs.length cap, rtV r, .int .i64 now] w fun e w' => OutR w.heap.size 0 rs e w' ∧ Below w.heap.size w w' := by
  have HA : Hid (∀ w, RtsIn w p rs → Calls Tryz.prog 120 #[.agg #[.slice p rs.length cap], .agg #[.int .i64 r.a, .int .i64 r.l]] w fun e w' => e = .returned (.int .i64 (atV rs r.a r.l)) ∧ Below w.heap.size w w') := fun w h => l06At_any p cap rs r.a r.l w h (by have := ribB_len hr; omega)
  have HCp : Hid (∀ w, RtsIn w p rs → Calls Tryz.prog 117 #[.agg #[.slice p rs.length cap]] w fun e w' => ∃ q c, e = .returned (.agg #[.slice q rs.length c]) ∧ w'.ownsRow w.heap.size 98 9 (.slice q rs.length c) rs.length (rowR rs) ∧ Below w.heap.size w w') := fun w h => l06Copy_any p cap rs w h hc hcl (by have := ribB_len hr; omega)
  have HIl : Hid (∀ c w, Calls Tryz.prog 121 #[.int .i64 c] w fun e w' => e = .returned (.agg #[.slice none 0 0, .int .i64 c]) ∧ Below w.heap.size w w') := l06Ill_any
  have HP0 : Hid (∀ R w, RtsIn w p rs → Calls Tryz.prog 122 #[.agg #[.slice p rs.length cap], rtV R] w fun e w' => ∃ q c, e = .returned (.agg #[.slice q (insR rs R).length c]) ∧ w'.ownsRow w.heap.size 98 9 (.slice q (insR rs R).length c) (insR rs R).length (rowR (insR rs R)) ∧ Below w.heap.size w w') := fun R w h => l06Put_any p cap rs R w h hc hcl (by have := ribB_len hr; omega)
  have h8 := ribB_len hr
  have HX : Hid (RtsIn w p rs) := h
  obtain ⟨k, hlr, hidx, hek⟩ : ∃ k, ∃ hlr : k < rs.length, atV rs r.a r.l = (k : Int) ∧ rs[k] = old := look_at hk
  rw [hidx] at HA
  have d0 : (old.n == 0) = false := by simpa using c1
  have d3 : decide (r.m < old.m) = false := by simpa using c3
  have hns := c2
  clear c2
  have hd : decide ((k : Int) < 0) = false := decide_eq_false (by omega)
  have hkN : k < rs.length := hlr
  have hkd : decide ((k : Int) < (rs.length : Int)) = true := by simpa using hlr
  obtain ⟨g, hpg⟩ : ∃ g, p = some ⟨g, 0, none⟩ := rts_some (HX.out) hlr
  subst hpg
  have hv := fun (W : World) (h : RtsIn W (some ⟨g, 0, none⟩) rs) => rts_nine h hlr hek
  have HV : Hid _ := hv
  clear hv hlr hek
  clear h hc hcl hr _h0 _h1 hidx HIl hk c1 c3 HP0
  unfold OutR
  obtain ⟨V0, V1, V2, V3, V4, V5, V6, V7, V8⟩ := old
  obtain ⟨a, l, m, n, ii, t, u, b, c⟩ := r
  generalize rs.length = N at *
  unfold ribV
  unfold rtV rtA
  simp only at HA d0 d3 hns ⊢
  by_cases e1 : V3 = n
  · have d1 : (V3 == n) = true := by simpa using e1
    have d2 : (V4 == ii) = false := by have := hns; simp only [e1, true_and] at this; simpa using this
    clear e1 hns
    obtain ⟨W, hW, q0, q1, q2, hB, hS, -⟩ := rows3 w [.slice (some ⟨g, 0, none⟩) N cap] [.int .i64 a, .int .i64 l, .int .i64 m, .int .i64 n, .int .i64 ii, .int .i64 t, .int .i64 u, .int .i64 b, .bool c] [.slice none 0 0, .int .i64 0] 36 98 112
    have HW : Hid _ := hW
    have HQ : Hid _ := And.intro q0 (And.intro q1 (And.intro q2 hB))
    have x0 : W.cell? ⟨w.heap.size, 0, none⟩ = some (.slice (some ⟨g, 0, none⟩) N cap) := q0.cell 0
    have y0 : W.cell? ⟨w.heap.size + 1, 0, none⟩ = some (.int .i64 a) := q1.cell 0
    have y1 : W.cell? ⟨w.heap.size + 1, 1, none⟩ = some (.int .i64 l) := q1.cell 1
    rw [hW] at x0 y0 y1
    clear hW q0 q1 q2 hB
    go_enter Tryz.func98, Tryz.ntmps98
    go_wp2_with fail
    rw [← HW.out]
    obtain ⟨q0, q1, q2, hB⟩ := HQ.out
    clear HQ x0 y0 y1
    refine (HA.out _ ((HX.out).below hB)).mono ?_
    rintro e w1 ⟨rfl, hb1⟩
    have q0 := q0.below hb1 (by omega)
    have q1 := q1.below hb1 (by omega)
    have q2 := q2.below hb1 (by omega)
    have hB := hB.trans (hb1.mono (by omega))
    have hs1 := hb1.size
    clear hb1
    clear HA HW
    have x0 : w1.cell? ⟨w.heap.size, 0, none⟩ = some (.slice (some ⟨g, 0, none⟩) N cap) := q0.cell 0
    have y2 : w1.cell? ⟨w.heap.size + 1, 2, none⟩ = some (.int .i64 m) := q1.cell 2
    obtain ⟨c0, c1, c2, c3, c4, c5, c6, c7, c8⟩ := HV.out _ ((HX.out).below hB)
    have HE : Hid _ := And.intro (q0.alloc (.cells #[.int .i64 V0, .int .i64 V1, .int .i64 V2, .int .i64 V3, .int .i64 V4, .int .i64 V5, .int .i64 V6, .int .i64 V7, .bool V8] 98)) (And.intro (q1.alloc (.cells #[.int .i64 V0, .int .i64 V1, .int .i64 V2, .int .i64 V3, .int .i64 V4, .int .i64 V5, .int .i64 V6, .int .i64 V7, .bool V8] 98)) (And.intro (q2.alloc (.cells #[.int .i64 V0, .int .i64 V1, .int .i64 V2, .int .i64 V3, .int .i64 V4, .int .i64 V5, .int .i64 V6, .int .i64 V7, .bool V8] 98)) (And.intro (Row.new w1 98 [.int .i64 V0, .int .i64 V1, .int .i64 V2, .int .i64 V3, .int .i64 V4, .int .i64 V5, .int .i64 V6, .int .i64 V7, .bool V8]) (hB.alloc hB.size (.cells #[.int .i64 V0, .int .i64 V1, .int .i64 V2, .int .i64 V3, .int .i64 V4, .int .i64 V5, .int .i64 V6, .int .i64 V7, .bool V8] 98)))))
    have p1 := q1.alloc (.cells #[.int .i64 V0, .int .i64 V1, .int .i64 V2, .int .i64 V3, .int .i64 V4, .int .i64 V5, .int .i64 V6, .int .i64 V7, .bool V8] 98)
    have p0 := q0.alloc (.cells #[.int .i64 V0, .int .i64 V1, .int .i64 V2, .int .i64 V3, .int .i64 V4, .int .i64 V5, .int .i64 V6, .int .i64 V7, .bool V8] 98)
    have z2 : (w1.alloc (.cells #[.int .i64 V0, .int .i64 V1, .int .i64 V2, .int .i64 V3, .int .i64 V4, .int .i64 V5, .int .i64 V6, .int .i64 V7, .bool V8] 98)).cell? ⟨w.heap.size + 1, 2, none⟩ = some (.int .i64 m) := p1.cell 2
    have z3 : (w1.alloc (.cells #[.int .i64 V0, .int .i64 V1, .int .i64 V2, .int .i64 V3, .int .i64 V4, .int .i64 V5, .int .i64 V6, .int .i64 V7, .bool V8] 98)).cell? ⟨w.heap.size + 1, 3, none⟩ = some (.int .i64 n) := p1.cell 3
    have z4 : (w1.alloc (.cells #[.int .i64 V0, .int .i64 V1, .int .i64 V2, .int .i64 V3, .int .i64 V4, .int .i64 V5, .int .i64 V6, .int .i64 V7, .bool V8] 98)).cell? ⟨w.heap.size + 1, 4, none⟩ = some (.int .i64 ii) := p1.cell 4
    have zz : (w1.alloc (.cells #[.int .i64 V0, .int .i64 V1, .int .i64 V2, .int .i64 V3, .int .i64 V4, .int .i64 V5, .int .i64 V6, .int .i64 V7, .bool V8] 98)).cell? ⟨w.heap.size, 0, none⟩ = some (.slice (some ⟨g, 0, none⟩) N cap) := p0.cell 0
    clear q0 q1 q2 hB p0 p1 y2
    go_wp2_with fail
    clear HV z2 z3 z4 zz x0 c0 c1 c2 c3 c4 c5 c6 c7 c8
    generalize hb8 : w1.heap.size = b8 at *
    generalize w1.alloc (.cells #[.int .i64 V0, .int .i64 V1, .int .i64 V2, .int .i64 V3, .int .i64 V4, .int .i64 V5, .int .i64 V6, .int .i64 V7, .bool V8] 98) = W1 at *
    clear hb8
    obtain ⟨q0, q1, q2, q8, hB⟩ := HE.out
    clear HE
    refine (HCp.out W1 ((HX.out).below hB)).mono ?_
    rintro e w2 ⟨q, cq, rfl, ho, hbc⟩
    have qr := q2.below hbc q2.lt
    have l2 := q2.lt
    have hB := hB.trans (hbc.mono hB.size)
    clear HCp q0 q1 q2 q8
    have f0 : w2.frozen? ⟨w.heap.size + 1 + 1, 0, none⟩ = false := qr.frozen 0
    have f1 : w2.frozen? ⟨w.heap.size + 1 + 1, 1, none⟩ = false := qr.frozen 1
    have z0 : w2.cell? ⟨w.heap.size + 1 + 1, 0, none⟩ = some (.slice none 0 0) := qr.cell 0
    have z1 : w2.cell? ⟨w.heap.size + 1 + 1, 1, none⟩ = some (.int .i64 0) := qr.cell 1
    have HE2 : Hid _ := And.intro ((qr.set 0 (.slice q N cq)).set 1 (.int .i64 0)) (And.intro ((hB.setCell (p := ⟨w.heap.size + 1 + 1, 0, none⟩) (by show w.heap.size ≤ w.heap.size + 1 + 1; omega) (.slice q N cq)).setCell (p := ⟨w.heap.size + 1 + 1, 1, none⟩) (by show w.heap.size ≤ w.heap.size + 1 + 1; omega) (.int .i64 0)) (ownR_set (base' := w.heap.size) (ownR_set (base' := w.heap.size + 1 + 1 + 1) ho ⟨w.heap.size + 1 + 1, 0, none⟩ (by show w.heap.size + 1 + 1 < _; omega) (.slice q N cq) (by omega)) ⟨w.heap.size + 1 + 1, 1, none⟩ (by show w.heap.size + 1 + 1 < _; omega) (.int .i64 0) (by omega)))
    clear qr hB ho hbc
    go_wp2_with fail
    obtain ⟨h1, h2, h3⟩ := HE2.out
    clear HE2 f0 f1 z0 z1
    generalize (w2.setCell ⟨w.heap.size + 1 + 1, 0, none⟩ (.slice q N cq)).setCell ⟨w.heap.size + 1 + 1, 1, none⟩ (.int .i64 0) = Z at *
    have e0 : Z.cell? ⟨w.heap.size + 1 + 1, 0, none⟩ = some (.slice q N cq) := h1.cell 0
    have e1 : Z.cell? ⟨w.heap.size + 1 + 1, 1, none⟩ = some (.int .i64 0) := h1.cell 1
    exact bodyPost_ret (v := .agg #[.slice q N cq, .int .i64 0]) (by simp [results, Tryz.results98, go_sem, e0, e1]) rfl ⟨⟨_, _, rfl, h3⟩, h2⟩
  · have d1 : (V3 == n) = false := by simpa using e1
    clear e1 hns
    obtain ⟨W, hW, q0, q1, q2, hB, hS, -⟩ := rows3 w [.slice (some ⟨g, 0, none⟩) N cap] [.int .i64 a, .int .i64 l, .int .i64 m, .int .i64 n, .int .i64 ii, .int .i64 t, .int .i64 u, .int .i64 b, .bool c] [.slice none 0 0, .int .i64 0] 36 98 112
    have HW : Hid _ := hW
    have HQ : Hid _ := And.intro q0 (And.intro q1 (And.intro q2 hB))
    have x0 : W.cell? ⟨w.heap.size, 0, none⟩ = some (.slice (some ⟨g, 0, none⟩) N cap) := q0.cell 0
    have y0 : W.cell? ⟨w.heap.size + 1, 0, none⟩ = some (.int .i64 a) := q1.cell 0
    have y1 : W.cell? ⟨w.heap.size + 1, 1, none⟩ = some (.int .i64 l) := q1.cell 1
    rw [hW] at x0 y0 y1
    clear hW q0 q1 q2 hB
    go_enter Tryz.func98, Tryz.ntmps98
    go_wp2_with fail
    rw [← HW.out]
    obtain ⟨q0, q1, q2, hB⟩ := HQ.out
    clear HQ x0 y0 y1
    refine (HA.out _ ((HX.out).below hB)).mono ?_
    rintro e w1 ⟨rfl, hb1⟩
    have q0 := q0.below hb1 (by omega)
    have q1 := q1.below hb1 (by omega)
    have q2 := q2.below hb1 (by omega)
    have hB := hB.trans (hb1.mono (by omega))
    have hs1 := hb1.size
    clear hb1
    clear HA HW
    have x0 : w1.cell? ⟨w.heap.size, 0, none⟩ = some (.slice (some ⟨g, 0, none⟩) N cap) := q0.cell 0
    have y2 : w1.cell? ⟨w.heap.size + 1, 2, none⟩ = some (.int .i64 m) := q1.cell 2
    obtain ⟨c0, c1, c2, c3, c4, c5, c6, c7, c8⟩ := HV.out _ ((HX.out).below hB)
    have HE : Hid _ := And.intro (q0.alloc (.cells #[.int .i64 V0, .int .i64 V1, .int .i64 V2, .int .i64 V3, .int .i64 V4, .int .i64 V5, .int .i64 V6, .int .i64 V7, .bool V8] 98)) (And.intro (q1.alloc (.cells #[.int .i64 V0, .int .i64 V1, .int .i64 V2, .int .i64 V3, .int .i64 V4, .int .i64 V5, .int .i64 V6, .int .i64 V7, .bool V8] 98)) (And.intro (q2.alloc (.cells #[.int .i64 V0, .int .i64 V1, .int .i64 V2, .int .i64 V3, .int .i64 V4, .int .i64 V5, .int .i64 V6, .int .i64 V7, .bool V8] 98)) (And.intro (Row.new w1 98 [.int .i64 V0, .int .i64 V1, .int .i64 V2, .int .i64 V3, .int .i64 V4, .int .i64 V5, .int .i64 V6, .int .i64 V7, .bool V8]) (hB.alloc hB.size (.cells #[.int .i64 V0, .int .i64 V1, .int .i64 V2, .int .i64 V3, .int .i64 V4, .int .i64 V5, .int .i64 V6, .int .i64 V7, .bool V8] 98)))))
    have p1 := q1.alloc (.cells #[.int .i64 V0, .int .i64 V1, .int .i64 V2, .int .i64 V3, .int .i64 V4, .int .i64 V5, .int .i64 V6, .int .i64 V7, .bool V8] 98)
    have p0 := q0.alloc (.cells #[.int .i64 V0, .int .i64 V1, .int .i64 V2, .int .i64 V3, .int .i64 V4, .int .i64 V5, .int .i64 V6, .int .i64 V7, .bool V8] 98)
    have z2 : (w1.alloc (.cells #[.int .i64 V0, .int .i64 V1, .int .i64 V2, .int .i64 V3, .int .i64 V4, .int .i64 V5, .int .i64 V6, .int .i64 V7, .bool V8] 98)).cell? ⟨w.heap.size + 1, 2, none⟩ = some (.int .i64 m) := p1.cell 2
    have z3 : (w1.alloc (.cells #[.int .i64 V0, .int .i64 V1, .int .i64 V2, .int .i64 V3, .int .i64 V4, .int .i64 V5, .int .i64 V6, .int .i64 V7, .bool V8] 98)).cell? ⟨w.heap.size + 1, 3, none⟩ = some (.int .i64 n) := p1.cell 3
    have z4 : (w1.alloc (.cells #[.int .i64 V0, .int .i64 V1, .int .i64 V2, .int .i64 V3, .int .i64 V4, .int .i64 V5, .int .i64 V6, .int .i64 V7, .bool V8] 98)).cell? ⟨w.heap.size + 1, 4, none⟩ = some (.int .i64 ii) := p1.cell 4
    have zz : (w1.alloc (.cells #[.int .i64 V0, .int .i64 V1, .int .i64 V2, .int .i64 V3, .int .i64 V4, .int .i64 V5, .int .i64 V6, .int .i64 V7, .bool V8] 98)).cell? ⟨w.heap.size, 0, none⟩ = some (.slice (some ⟨g, 0, none⟩) N cap) := p0.cell 0
    clear q0 q1 q2 hB p0 p1 y2
    go_wp2_with fail
    clear HV z2 z3 z4 zz x0 c0 c1 c2 c3 c4 c5 c6 c7 c8
    generalize hb8 : w1.heap.size = b8 at *
    generalize w1.alloc (.cells #[.int .i64 V0, .int .i64 V1, .int .i64 V2, .int .i64 V3, .int .i64 V4, .int .i64 V5, .int .i64 V6, .int .i64 V7, .bool V8] 98) = W1 at *
    clear hb8
    obtain ⟨q0, q1, q2, q8, hB⟩ := HE.out
    clear HE
    refine (HCp.out W1 ((HX.out).below hB)).mono ?_
    rintro e w2 ⟨q, cq, rfl, ho, hbc⟩
    have qr := q2.below hbc q2.lt
    have l2 := q2.lt
    have hB := hB.trans (hbc.mono hB.size)
    clear HCp q0 q1 q2 q8
    have f0 : w2.frozen? ⟨w.heap.size + 1 + 1, 0, none⟩ = false := qr.frozen 0
    have f1 : w2.frozen? ⟨w.heap.size + 1 + 1, 1, none⟩ = false := qr.frozen 1
    have z0 : w2.cell? ⟨w.heap.size + 1 + 1, 0, none⟩ = some (.slice none 0 0) := qr.cell 0
    have z1 : w2.cell? ⟨w.heap.size + 1 + 1, 1, none⟩ = some (.int .i64 0) := qr.cell 1
    have HE2 : Hid _ := And.intro ((qr.set 0 (.slice q N cq)).set 1 (.int .i64 0)) (And.intro ((hB.setCell (p := ⟨w.heap.size + 1 + 1, 0, none⟩) (by show w.heap.size ≤ w.heap.size + 1 + 1; omega) (.slice q N cq)).setCell (p := ⟨w.heap.size + 1 + 1, 1, none⟩) (by show w.heap.size ≤ w.heap.size + 1 + 1; omega) (.int .i64 0)) (ownR_set (base' := w.heap.size) (ownR_set (base' := w.heap.size + 1 + 1 + 1) ho ⟨w.heap.size + 1 + 1, 0, none⟩ (by show w.heap.size + 1 + 1 < _; omega) (.slice q N cq) (by omega)) ⟨w.heap.size + 1 + 1, 1, none⟩ (by show w.heap.size + 1 + 1 < _; omega) (.int .i64 0) (by omega)))
    clear qr hB ho hbc
    go_wp2_with fail
    obtain ⟨h1, h2, h3⟩ := HE2.out
    clear HE2 f0 f1 z0 z1
    generalize (w2.setCell ⟨w.heap.size + 1 + 1, 0, none⟩ (.slice q N cq)).setCell ⟨w.heap.size + 1 + 1, 1, none⟩ (.int .i64 0) = Z at *
    have e0 : Z.cell? ⟨w.heap.size + 1 + 1, 0, none⟩ = some (.slice q N cq) := h1.cell 0
    have e1 : Z.cell? ⟨w.heap.size + 1 + 1, 1, none⟩ = some (.int .i64 0) := h1.cell 1
    exact bodyPost_ret (v := .agg #[.slice q N cq, .int .i64 0]) (by simp [results, Tryz.results98, go_sem, e0, e1]) rfl ⟨⟨_, _, rfl, h3⟩, h2⟩
end Go.Proofs.YtifckpncpjijiaaGreat
