/- Texts that stand on each other, in one file: HeardI, WithI. -/
import Derived.Test.YtaledidomgelcaaPack7
import Derived.Test.YtaledidomgelcaaPack4
import Derived.WideLaws
/- What stands in a route's place once another one is told: by the program. (Written by gen_learn.py.) -/
namespace Go.Proofs.Ytaledidomgelcaa
open Go.RowKit Go.Sort

set_option maxRecDepth 100000 in
set_option maxHeartbeats 4000000 in
theorem heard_any (old r : Rt) (now : Int) (w : World) (h0 : 0 ≤ now) (h1 : now ≤ 999900) : Calls Try.prog 55 #[rtV old, rtV r, .int .i64 now] w fun e w' => e = .returned (rtV (heardR old r now)) ∧ Below w.heap.size w w' := by
  have HO : Hid (∀ w, Calls Try.prog 52 #[rtV old] w fun e w' => e = .returned (.bool (decide (old.n = 0))) ∧ Below w.heap.size w w') := isOwn_any old
  unfold heardR
  by_cases c1 : old.n = 0
  · rw [if_pos c1]
    rw [decide_eq_true c1] at HO
    clear h0 h1 c1
    obtain ⟨A, L, M, O, I, T, U, E, C⟩ := old
    obtain ⟨a, l, m, n, ii, t, u, b, c⟩ := r
    unfold rtV rtA at *
    simp only at HO ⊢
    obtain ⟨W, hW, q0, q1, q2, hB, hS, -⟩ := rows3 w [.int .i64 A, .int .i64 L, .int .i64 M, .int .i64 O, .int .i64 I, .int .i64 T, .int .i64 U, .int .i64 E, .bool C] [.int .i64 a, .int .i64 l, .int .i64 m, .int .i64 n, .int .i64 ii, .int .i64 t, .int .i64 u, .int .i64 b, .bool c] [.int .i64 0, .int .i64 0, .int .i64 0, .int .i64 0, .int .i64 0, .int .i64 0, .int .i64 0, .int .i64 0, .bool false] 46 46 46
    have HW : Hid _ := hW
    have HQ : Hid _ := And.intro q0 (And.intro q1 (And.intro q2 hB))
    have x0 : W.cell? ⟨w.heap.size, 0, none⟩ = some (.int .i64 A) := q0.cell 0
    have x1 : W.cell? ⟨w.heap.size, 1, none⟩ = some (.int .i64 L) := q0.cell 1
    have x2 : W.cell? ⟨w.heap.size, 2, none⟩ = some (.int .i64 M) := q0.cell 2
    have x3 : W.cell? ⟨w.heap.size, 3, none⟩ = some (.int .i64 O) := q0.cell 3
    have x4 : W.cell? ⟨w.heap.size, 4, none⟩ = some (.int .i64 I) := q0.cell 4
    have x5 : W.cell? ⟨w.heap.size, 5, none⟩ = some (.int .i64 T) := q0.cell 5
    have x6 : W.cell? ⟨w.heap.size, 6, none⟩ = some (.int .i64 U) := q0.cell 6
    have x7 : W.cell? ⟨w.heap.size, 7, none⟩ = some (.int .i64 E) := q0.cell 7
    have x8 : W.cell? ⟨w.heap.size, 8, none⟩ = some (.bool C) := q0.cell 8
    have y0 : W.cell? ⟨w.heap.size + 1, 0, none⟩ = some (.int .i64 a) := q1.cell 0
    have y1 : W.cell? ⟨w.heap.size + 1, 1, none⟩ = some (.int .i64 l) := q1.cell 1
    have y2 : W.cell? ⟨w.heap.size + 1, 2, none⟩ = some (.int .i64 m) := q1.cell 2
    have y3 : W.cell? ⟨w.heap.size + 1, 3, none⟩ = some (.int .i64 n) := q1.cell 3
    have y4 : W.cell? ⟨w.heap.size + 1, 4, none⟩ = some (.int .i64 ii) := q1.cell 4
    have y5 : W.cell? ⟨w.heap.size + 1, 5, none⟩ = some (.int .i64 t) := q1.cell 5
    have y6 : W.cell? ⟨w.heap.size + 1, 6, none⟩ = some (.int .i64 u) := q1.cell 6
    have y7 : W.cell? ⟨w.heap.size + 1, 7, none⟩ = some (.int .i64 b) := q1.cell 7
    have y8 : W.cell? ⟨w.heap.size + 1, 8, none⟩ = some (.bool c) := q1.cell 8
    rw [hW] at x0 x1 x2 x3 x4 x5 x6 x7 x8 y0 y1 y2 y3 y4 y5 y6 y7 y8
    clear hW q0 q1 q2 hB
    go_enter Try.func55, Try.ntmps55
    go_wp2_with fail
    rw [← HW.out]
    obtain ⟨q0, q1, q2, hB⟩ := HQ.out
    clear HQ x0 x1 x2 x3 x4 x5 x6 x7 x8 y0 y1 y2 y3 y4 y5 y6 y7 y8
    refine (HO.out _).mono ?_
    rintro e w1 ⟨rfl, hb1⟩
    have q0 := q0.below hb1 (by omega)
    have q1 := q1.below hb1 (by omega)
    have q2 := q2.below hb1 (by omega)
    have hB := hB.trans (hb1.mono (by omega))
    have hs1 := hb1.size
    clear hb1
    have x0 : w1.cell? ⟨w.heap.size, 0, none⟩ = some (.int .i64 A) := q0.cell 0
    have x1 : w1.cell? ⟨w.heap.size, 1, none⟩ = some (.int .i64 L) := q0.cell 1
    have x2 : w1.cell? ⟨w.heap.size, 2, none⟩ = some (.int .i64 M) := q0.cell 2
    have x3 : w1.cell? ⟨w.heap.size, 3, none⟩ = some (.int .i64 O) := q0.cell 3
    have x4 : w1.cell? ⟨w.heap.size, 4, none⟩ = some (.int .i64 I) := q0.cell 4
    have x5 : w1.cell? ⟨w.heap.size, 5, none⟩ = some (.int .i64 T) := q0.cell 5
    have x6 : w1.cell? ⟨w.heap.size, 6, none⟩ = some (.int .i64 U) := q0.cell 6
    have x7 : w1.cell? ⟨w.heap.size, 7, none⟩ = some (.int .i64 E) := q0.cell 7
    have x8 : w1.cell? ⟨w.heap.size, 8, none⟩ = some (.bool C) := q0.cell 8
    have y0 : w1.cell? ⟨w.heap.size + 1, 0, none⟩ = some (.int .i64 a) := q1.cell 0
    have y1 : w1.cell? ⟨w.heap.size + 1, 1, none⟩ = some (.int .i64 l) := q1.cell 1
    have y2 : w1.cell? ⟨w.heap.size + 1, 2, none⟩ = some (.int .i64 m) := q1.cell 2
    have y3 : w1.cell? ⟨w.heap.size + 1, 3, none⟩ = some (.int .i64 n) := q1.cell 3
    have y4 : w1.cell? ⟨w.heap.size + 1, 4, none⟩ = some (.int .i64 ii) := q1.cell 4
    have y5 : w1.cell? ⟨w.heap.size + 1, 5, none⟩ = some (.int .i64 t) := q1.cell 5
    have y6 : w1.cell? ⟨w.heap.size + 1, 6, none⟩ = some (.int .i64 u) := q1.cell 6
    have y7 : w1.cell? ⟨w.heap.size + 1, 7, none⟩ = some (.int .i64 b) := q1.cell 7
    have y8 : w1.cell? ⟨w.heap.size + 1, 8, none⟩ = some (.bool c) := q1.cell 8
    clear HO
    have z0 : w1.cell? ⟨w.heap.size + 1 + 1, 0, none⟩ = some (.int .i64 0) := q2.cell 0
    have z1 : w1.cell? ⟨w.heap.size + 1 + 1, 1, none⟩ = some (.int .i64 0) := q2.cell 1
    have z2 : w1.cell? ⟨w.heap.size + 1 + 1, 2, none⟩ = some (.int .i64 0) := q2.cell 2
    have z3 : w1.cell? ⟨w.heap.size + 1 + 1, 3, none⟩ = some (.int .i64 0) := q2.cell 3
    have z4 : w1.cell? ⟨w.heap.size + 1 + 1, 4, none⟩ = some (.int .i64 0) := q2.cell 4
    have z5 : w1.cell? ⟨w.heap.size + 1 + 1, 5, none⟩ = some (.int .i64 0) := q2.cell 5
    have z6 : w1.cell? ⟨w.heap.size + 1 + 1, 6, none⟩ = some (.int .i64 0) := q2.cell 6
    have z7 : w1.cell? ⟨w.heap.size + 1 + 1, 7, none⟩ = some (.int .i64 0) := q2.cell 7
    have z8 : w1.cell? ⟨w.heap.size + 1 + 1, 8, none⟩ = some (.bool false) := q2.cell 8
    have f0 : w1.frozen? ⟨w.heap.size + 1 + 1, 0, none⟩ = false := q2.frozen 0
    have f1 : w1.frozen? ⟨w.heap.size + 1 + 1, 1, none⟩ = false := q2.frozen 1
    have f2 : w1.frozen? ⟨w.heap.size + 1 + 1, 2, none⟩ = false := q2.frozen 2
    have f3 : w1.frozen? ⟨w.heap.size + 1 + 1, 3, none⟩ = false := q2.frozen 3
    have f4 : w1.frozen? ⟨w.heap.size + 1 + 1, 4, none⟩ = false := q2.frozen 4
    have f5 : w1.frozen? ⟨w.heap.size + 1 + 1, 5, none⟩ = false := q2.frozen 5
    have f6 : w1.frozen? ⟨w.heap.size + 1 + 1, 6, none⟩ = false := q2.frozen 6
    have f7 : w1.frozen? ⟨w.heap.size + 1 + 1, 7, none⟩ = false := q2.frozen 7
    have f8 : w1.frozen? ⟨w.heap.size + 1 + 1, 8, none⟩ = false := q2.frozen 8
    have HE : Hid _ := And.intro (nine0_row q2 (.int .i64 A) (.int .i64 L) (.int .i64 M) (.int .i64 O) (.int .i64 I) (.int .i64 T) (.int .i64 U) (.int .i64 E) (.bool C)) (nine0_below hB (w.heap.size + 1 + 1) (by omega) (.int .i64 A) (.int .i64 L) (.int .i64 M) (.int .i64 O) (.int .i64 I) (.int .i64 T) (.int .i64 U) (.int .i64 E) (.bool C))
    clear q2 hB q0 q1 HW
    go_wp2_with fail
    have hF := HE.out
    clear HE z0 z1 z2 z3 z4 z5 z6 z7 z8 f0 f1 f2 f3 f4 f5 f6 f7 f8
    unfold nine0 at hF
    generalize (((((((((w1.setCell ⟨w.heap.size + 1 + 1, 0, none⟩ (.int .i64 A)).setCell ⟨w.heap.size + 1 + 1, 1, none⟩ (.int .i64 L)).setCell ⟨w.heap.size + 1 + 1, 2, none⟩ (.int .i64 M)).setCell ⟨w.heap.size + 1 + 1, 3, none⟩ (.int .i64 O)).setCell ⟨w.heap.size + 1 + 1, 4, none⟩ (.int .i64 I)).setCell ⟨w.heap.size + 1 + 1, 5, none⟩ (.int .i64 T)).setCell ⟨w.heap.size + 1 + 1, 6, none⟩ (.int .i64 U)).setCell ⟨w.heap.size + 1 + 1, 7, none⟩ (.int .i64 E)).setCell ⟨w.heap.size + 1 + 1, 8, none⟩ (.bool C)) = Z at *
    obtain ⟨h1, h2⟩ := hF
    have e0 : Z.cell? ⟨w.heap.size + 1 + 1, 0, none⟩ = some (.int .i64 A) := h1.cell 0
    have e1 : Z.cell? ⟨w.heap.size + 1 + 1, 1, none⟩ = some (.int .i64 L) := h1.cell 1
    have e2 : Z.cell? ⟨w.heap.size + 1 + 1, 2, none⟩ = some (.int .i64 M) := h1.cell 2
    have e3 : Z.cell? ⟨w.heap.size + 1 + 1, 3, none⟩ = some (.int .i64 O) := h1.cell 3
    have e4 : Z.cell? ⟨w.heap.size + 1 + 1, 4, none⟩ = some (.int .i64 I) := h1.cell 4
    have e5 : Z.cell? ⟨w.heap.size + 1 + 1, 5, none⟩ = some (.int .i64 T) := h1.cell 5
    have e6 : Z.cell? ⟨w.heap.size + 1 + 1, 6, none⟩ = some (.int .i64 U) := h1.cell 6
    have e7 : Z.cell? ⟨w.heap.size + 1 + 1, 7, none⟩ = some (.int .i64 E) := h1.cell 7
    have e8 : Z.cell? ⟨w.heap.size + 1 + 1, 8, none⟩ = some (.bool C) := h1.cell 8
    exact bodyPost_ret (v := .agg #[.int .i64 A, .int .i64 L, .int .i64 M, .int .i64 O, .int .i64 I, .int .i64 T, .int .i64 U, .int .i64 E, .bool C]) (by simp [results, Try.results55, go_sem, e0, e1, e2, e3, e4, e5, e6, e7, e8]) rfl ⟨rfl, h2⟩
  · rw [if_neg c1]
    rw [decide_eq_false c1] at HO
    clear c1
    by_cases c2 : old.n = r.n ∧ old.i = r.i
    · rw [if_pos c2]
      have HC : Hid (∀ w, Calls Try.prog 88 #[rtV old, rtV r, .int .i64 now] w fun e w' => e = .returned (rtV (againR old r now)) ∧ Below w.heap.size w w') := fun w => again_any old r now w h0 h1
      have d1 : (old.n == r.n) = true := by simp [c2.1]
      have d2 : (old.i == r.i) = true := by simp [c2.2]
      clear h0 h1 c2
      generalize againR old r now = RR at *
      obtain ⟨A, L, M, O, I, T, U, E, C⟩ := old
      obtain ⟨a, l, m, n, ii, t, u, b, c⟩ := r
      obtain ⟨V0, V1, V2, V3, V4, V5, V6, V7, V8⟩ := RR
      unfold rtV rtA at *
      simp only at HO HC d1 d2 ⊢
      obtain ⟨W, hW, q0, q1, q2, hB, hS, -⟩ := rows3 w [.int .i64 A, .int .i64 L, .int .i64 M, .int .i64 O, .int .i64 I, .int .i64 T, .int .i64 U, .int .i64 E, .bool C] [.int .i64 a, .int .i64 l, .int .i64 m, .int .i64 n, .int .i64 ii, .int .i64 t, .int .i64 u, .int .i64 b, .bool c] [.int .i64 0, .int .i64 0, .int .i64 0, .int .i64 0, .int .i64 0, .int .i64 0, .int .i64 0, .int .i64 0, .bool false] 46 46 46
      have HW : Hid _ := hW
      have HQ : Hid _ := And.intro q0 (And.intro q1 (And.intro q2 hB))
      have x0 : W.cell? ⟨w.heap.size, 0, none⟩ = some (.int .i64 A) := q0.cell 0
      have x1 : W.cell? ⟨w.heap.size, 1, none⟩ = some (.int .i64 L) := q0.cell 1
      have x2 : W.cell? ⟨w.heap.size, 2, none⟩ = some (.int .i64 M) := q0.cell 2
      have x3 : W.cell? ⟨w.heap.size, 3, none⟩ = some (.int .i64 O) := q0.cell 3
      have x4 : W.cell? ⟨w.heap.size, 4, none⟩ = some (.int .i64 I) := q0.cell 4
      have x5 : W.cell? ⟨w.heap.size, 5, none⟩ = some (.int .i64 T) := q0.cell 5
      have x6 : W.cell? ⟨w.heap.size, 6, none⟩ = some (.int .i64 U) := q0.cell 6
      have x7 : W.cell? ⟨w.heap.size, 7, none⟩ = some (.int .i64 E) := q0.cell 7
      have x8 : W.cell? ⟨w.heap.size, 8, none⟩ = some (.bool C) := q0.cell 8
      have y0 : W.cell? ⟨w.heap.size + 1, 0, none⟩ = some (.int .i64 a) := q1.cell 0
      have y1 : W.cell? ⟨w.heap.size + 1, 1, none⟩ = some (.int .i64 l) := q1.cell 1
      have y2 : W.cell? ⟨w.heap.size + 1, 2, none⟩ = some (.int .i64 m) := q1.cell 2
      have y3 : W.cell? ⟨w.heap.size + 1, 3, none⟩ = some (.int .i64 n) := q1.cell 3
      have y4 : W.cell? ⟨w.heap.size + 1, 4, none⟩ = some (.int .i64 ii) := q1.cell 4
      have y5 : W.cell? ⟨w.heap.size + 1, 5, none⟩ = some (.int .i64 t) := q1.cell 5
      have y6 : W.cell? ⟨w.heap.size + 1, 6, none⟩ = some (.int .i64 u) := q1.cell 6
      have y7 : W.cell? ⟨w.heap.size + 1, 7, none⟩ = some (.int .i64 b) := q1.cell 7
      have y8 : W.cell? ⟨w.heap.size + 1, 8, none⟩ = some (.bool c) := q1.cell 8
      rw [hW] at x0 x1 x2 x3 x4 x5 x6 x7 x8 y0 y1 y2 y3 y4 y5 y6 y7 y8
      clear hW q0 q1 q2 hB
      go_enter Try.func55, Try.ntmps55
      go_wp2_with fail
      rw [← HW.out]
      obtain ⟨q0, q1, q2, hB⟩ := HQ.out
      clear HQ x0 x1 x2 x3 x4 x5 x6 x7 x8 y0 y1 y2 y3 y4 y5 y6 y7 y8
      refine (HO.out _).mono ?_
      rintro e w1 ⟨rfl, hb1⟩
      have q0 := q0.below hb1 (by omega)
      have q1 := q1.below hb1 (by omega)
      have q2 := q2.below hb1 (by omega)
      have hB := hB.trans (hb1.mono (by omega))
      have hs1 := hb1.size
      clear hb1
      have x0 : w1.cell? ⟨w.heap.size, 0, none⟩ = some (.int .i64 A) := q0.cell 0
      have x1 : w1.cell? ⟨w.heap.size, 1, none⟩ = some (.int .i64 L) := q0.cell 1
      have x2 : w1.cell? ⟨w.heap.size, 2, none⟩ = some (.int .i64 M) := q0.cell 2
      have x3 : w1.cell? ⟨w.heap.size, 3, none⟩ = some (.int .i64 O) := q0.cell 3
      have x4 : w1.cell? ⟨w.heap.size, 4, none⟩ = some (.int .i64 I) := q0.cell 4
      have x5 : w1.cell? ⟨w.heap.size, 5, none⟩ = some (.int .i64 T) := q0.cell 5
      have x6 : w1.cell? ⟨w.heap.size, 6, none⟩ = some (.int .i64 U) := q0.cell 6
      have x7 : w1.cell? ⟨w.heap.size, 7, none⟩ = some (.int .i64 E) := q0.cell 7
      have x8 : w1.cell? ⟨w.heap.size, 8, none⟩ = some (.bool C) := q0.cell 8
      have y0 : w1.cell? ⟨w.heap.size + 1, 0, none⟩ = some (.int .i64 a) := q1.cell 0
      have y1 : w1.cell? ⟨w.heap.size + 1, 1, none⟩ = some (.int .i64 l) := q1.cell 1
      have y2 : w1.cell? ⟨w.heap.size + 1, 2, none⟩ = some (.int .i64 m) := q1.cell 2
      have y3 : w1.cell? ⟨w.heap.size + 1, 3, none⟩ = some (.int .i64 n) := q1.cell 3
      have y4 : w1.cell? ⟨w.heap.size + 1, 4, none⟩ = some (.int .i64 ii) := q1.cell 4
      have y5 : w1.cell? ⟨w.heap.size + 1, 5, none⟩ = some (.int .i64 t) := q1.cell 5
      have y6 : w1.cell? ⟨w.heap.size + 1, 6, none⟩ = some (.int .i64 u) := q1.cell 6
      have y7 : w1.cell? ⟨w.heap.size + 1, 7, none⟩ = some (.int .i64 b) := q1.cell 7
      have y8 : w1.cell? ⟨w.heap.size + 1, 8, none⟩ = some (.bool c) := q1.cell 8
      go_wp2_with fail
      refine (HC.out _).mono ?_
      rintro e w2 ⟨rfl, hb2⟩
      clear x0 x1 x2 x3 x4 x5 x6 x7 x8 y0 y1 y2 y3 y4 y5 y6 y7 y8
      have q0 := q0.below hb2 (by omega)
      have q1 := q1.below hb2 (by omega)
      have q2 := q2.below hb2 (by omega)
      have hB := hB.trans (hb2.mono (by omega))
      have hs2 := hb2.size
      clear hb2
      clear HC HO
      have z0 : w2.cell? ⟨w.heap.size + 1 + 1, 0, none⟩ = some (.int .i64 0) := q2.cell 0
      have z1 : w2.cell? ⟨w.heap.size + 1 + 1, 1, none⟩ = some (.int .i64 0) := q2.cell 1
      have z2 : w2.cell? ⟨w.heap.size + 1 + 1, 2, none⟩ = some (.int .i64 0) := q2.cell 2
      have z3 : w2.cell? ⟨w.heap.size + 1 + 1, 3, none⟩ = some (.int .i64 0) := q2.cell 3
      have z4 : w2.cell? ⟨w.heap.size + 1 + 1, 4, none⟩ = some (.int .i64 0) := q2.cell 4
      have z5 : w2.cell? ⟨w.heap.size + 1 + 1, 5, none⟩ = some (.int .i64 0) := q2.cell 5
      have z6 : w2.cell? ⟨w.heap.size + 1 + 1, 6, none⟩ = some (.int .i64 0) := q2.cell 6
      have z7 : w2.cell? ⟨w.heap.size + 1 + 1, 7, none⟩ = some (.int .i64 0) := q2.cell 7
      have z8 : w2.cell? ⟨w.heap.size + 1 + 1, 8, none⟩ = some (.bool false) := q2.cell 8
      have f0 : w2.frozen? ⟨w.heap.size + 1 + 1, 0, none⟩ = false := q2.frozen 0
      have f1 : w2.frozen? ⟨w.heap.size + 1 + 1, 1, none⟩ = false := q2.frozen 1
      have f2 : w2.frozen? ⟨w.heap.size + 1 + 1, 2, none⟩ = false := q2.frozen 2
      have f3 : w2.frozen? ⟨w.heap.size + 1 + 1, 3, none⟩ = false := q2.frozen 3
      have f4 : w2.frozen? ⟨w.heap.size + 1 + 1, 4, none⟩ = false := q2.frozen 4
      have f5 : w2.frozen? ⟨w.heap.size + 1 + 1, 5, none⟩ = false := q2.frozen 5
      have f6 : w2.frozen? ⟨w.heap.size + 1 + 1, 6, none⟩ = false := q2.frozen 6
      have f7 : w2.frozen? ⟨w.heap.size + 1 + 1, 7, none⟩ = false := q2.frozen 7
      have f8 : w2.frozen? ⟨w.heap.size + 1 + 1, 8, none⟩ = false := q2.frozen 8
      have HE : Hid _ := And.intro (nine0_row q2 (.int .i64 V0) (.int .i64 V1) (.int .i64 V2) (.int .i64 V3) (.int .i64 V4) (.int .i64 V5) (.int .i64 V6) (.int .i64 V7) (.bool V8)) (nine0_below hB (w.heap.size + 1 + 1) (by omega) (.int .i64 V0) (.int .i64 V1) (.int .i64 V2) (.int .i64 V3) (.int .i64 V4) (.int .i64 V5) (.int .i64 V6) (.int .i64 V7) (.bool V8))
      clear q2 hB q0 q1 HW
      go_wp2_with fail
      have hF := HE.out
      clear HE z0 z1 z2 z3 z4 z5 z6 z7 z8 f0 f1 f2 f3 f4 f5 f6 f7 f8
      unfold nine0 at hF
      generalize (((((((((w2.setCell ⟨w.heap.size + 1 + 1, 0, none⟩ (.int .i64 V0)).setCell ⟨w.heap.size + 1 + 1, 1, none⟩ (.int .i64 V1)).setCell ⟨w.heap.size + 1 + 1, 2, none⟩ (.int .i64 V2)).setCell ⟨w.heap.size + 1 + 1, 3, none⟩ (.int .i64 V3)).setCell ⟨w.heap.size + 1 + 1, 4, none⟩ (.int .i64 V4)).setCell ⟨w.heap.size + 1 + 1, 5, none⟩ (.int .i64 V5)).setCell ⟨w.heap.size + 1 + 1, 6, none⟩ (.int .i64 V6)).setCell ⟨w.heap.size + 1 + 1, 7, none⟩ (.int .i64 V7)).setCell ⟨w.heap.size + 1 + 1, 8, none⟩ (.bool V8)) = Z at *
      obtain ⟨h1, h2⟩ := hF
      have e0 : Z.cell? ⟨w.heap.size + 1 + 1, 0, none⟩ = some (.int .i64 V0) := h1.cell 0
      have e1 : Z.cell? ⟨w.heap.size + 1 + 1, 1, none⟩ = some (.int .i64 V1) := h1.cell 1
      have e2 : Z.cell? ⟨w.heap.size + 1 + 1, 2, none⟩ = some (.int .i64 V2) := h1.cell 2
      have e3 : Z.cell? ⟨w.heap.size + 1 + 1, 3, none⟩ = some (.int .i64 V3) := h1.cell 3
      have e4 : Z.cell? ⟨w.heap.size + 1 + 1, 4, none⟩ = some (.int .i64 V4) := h1.cell 4
      have e5 : Z.cell? ⟨w.heap.size + 1 + 1, 5, none⟩ = some (.int .i64 V5) := h1.cell 5
      have e6 : Z.cell? ⟨w.heap.size + 1 + 1, 6, none⟩ = some (.int .i64 V6) := h1.cell 6
      have e7 : Z.cell? ⟨w.heap.size + 1 + 1, 7, none⟩ = some (.int .i64 V7) := h1.cell 7
      have e8 : Z.cell? ⟨w.heap.size + 1 + 1, 8, none⟩ = some (.bool V8) := h1.cell 8
      exact bodyPost_ret (v := .agg #[.int .i64 V0, .int .i64 V1, .int .i64 V2, .int .i64 V3, .int .i64 V4, .int .i64 V5, .int .i64 V6, .int .i64 V7, .bool V8]) (by simp [results, Try.results55, go_sem, e0, e1, e2, e3, e4, e5, e6, e7, e8]) rfl ⟨rfl, h2⟩
    · rw [if_neg c2]
      have HD : Hid ((if (old.n == r.n) = true then (old.i == r.i) else false) = false) := by
        show _ = _
        by_cases e1 : old.n = r.n
        · have : ¬ old.i = r.i := fun e2 => c2 ⟨e1, e2⟩
          simp [e1, this]
        · simp [e1]
      clear c2
      by_cases c3 : r.m < old.m
      · rw [if_pos c3]
        have HC : Hid (∀ w, Calls Try.prog 57 #[rtV r, .int .i64 now] w fun e w' => e = .returned (rtV (freshR r now)) ∧ Below w.heap.size w w') := fun w => fresh_any r now w h0 h1
        have d3 : decide (r.m < old.m) = true := by simpa using c3
        clear h0 h1 c3
        generalize freshR r now = RR at *
        obtain ⟨A, L, M, O, I, T, U, E, C⟩ := old
        obtain ⟨a, l, m, n, ii, t, u, b, c⟩ := r
        obtain ⟨V0, V1, V2, V3, V4, V5, V6, V7, V8⟩ := RR
        unfold rtV rtA at *
        simp only at HO HC HD d3 ⊢
        by_cases e1 : O = n
        · have d1 : (O == n) = true := by simpa using e1
          have d2 : (I == ii) = false := by have := HD.out; rw [if_pos d1] at this; exact this
          clear HD e1
          obtain ⟨W, hW, q0, q1, q2, hB, hS, -⟩ := rows3 w [.int .i64 A, .int .i64 L, .int .i64 M, .int .i64 O, .int .i64 I, .int .i64 T, .int .i64 U, .int .i64 E, .bool C] [.int .i64 a, .int .i64 l, .int .i64 m, .int .i64 n, .int .i64 ii, .int .i64 t, .int .i64 u, .int .i64 b, .bool c] [.int .i64 0, .int .i64 0, .int .i64 0, .int .i64 0, .int .i64 0, .int .i64 0, .int .i64 0, .int .i64 0, .bool false] 46 46 46
          have HW : Hid _ := hW
          have HQ : Hid _ := And.intro q0 (And.intro q1 (And.intro q2 hB))
          have x0 : W.cell? ⟨w.heap.size, 0, none⟩ = some (.int .i64 A) := q0.cell 0
          have x1 : W.cell? ⟨w.heap.size, 1, none⟩ = some (.int .i64 L) := q0.cell 1
          have x2 : W.cell? ⟨w.heap.size, 2, none⟩ = some (.int .i64 M) := q0.cell 2
          have x3 : W.cell? ⟨w.heap.size, 3, none⟩ = some (.int .i64 O) := q0.cell 3
          have x4 : W.cell? ⟨w.heap.size, 4, none⟩ = some (.int .i64 I) := q0.cell 4
          have x5 : W.cell? ⟨w.heap.size, 5, none⟩ = some (.int .i64 T) := q0.cell 5
          have x6 : W.cell? ⟨w.heap.size, 6, none⟩ = some (.int .i64 U) := q0.cell 6
          have x7 : W.cell? ⟨w.heap.size, 7, none⟩ = some (.int .i64 E) := q0.cell 7
          have x8 : W.cell? ⟨w.heap.size, 8, none⟩ = some (.bool C) := q0.cell 8
          have y0 : W.cell? ⟨w.heap.size + 1, 0, none⟩ = some (.int .i64 a) := q1.cell 0
          have y1 : W.cell? ⟨w.heap.size + 1, 1, none⟩ = some (.int .i64 l) := q1.cell 1
          have y2 : W.cell? ⟨w.heap.size + 1, 2, none⟩ = some (.int .i64 m) := q1.cell 2
          have y3 : W.cell? ⟨w.heap.size + 1, 3, none⟩ = some (.int .i64 n) := q1.cell 3
          have y4 : W.cell? ⟨w.heap.size + 1, 4, none⟩ = some (.int .i64 ii) := q1.cell 4
          have y5 : W.cell? ⟨w.heap.size + 1, 5, none⟩ = some (.int .i64 t) := q1.cell 5
          have y6 : W.cell? ⟨w.heap.size + 1, 6, none⟩ = some (.int .i64 u) := q1.cell 6
          have y7 : W.cell? ⟨w.heap.size + 1, 7, none⟩ = some (.int .i64 b) := q1.cell 7
          have y8 : W.cell? ⟨w.heap.size + 1, 8, none⟩ = some (.bool c) := q1.cell 8
          rw [hW] at x0 x1 x2 x3 x4 x5 x6 x7 x8 y0 y1 y2 y3 y4 y5 y6 y7 y8
          clear hW q0 q1 q2 hB
          go_enter Try.func55, Try.ntmps55
          go_wp2_with fail
          rw [← HW.out]
          obtain ⟨q0, q1, q2, hB⟩ := HQ.out
          clear HQ x0 x1 x2 x3 x4 x5 x6 x7 x8 y0 y1 y2 y3 y4 y5 y6 y7 y8
          refine (HO.out _).mono ?_
          rintro e w1 ⟨rfl, hb1⟩
          have q0 := q0.below hb1 (by omega)
          have q1 := q1.below hb1 (by omega)
          have q2 := q2.below hb1 (by omega)
          have hB := hB.trans (hb1.mono (by omega))
          have hs1 := hb1.size
          clear hb1
          have x0 : w1.cell? ⟨w.heap.size, 0, none⟩ = some (.int .i64 A) := q0.cell 0
          have x1 : w1.cell? ⟨w.heap.size, 1, none⟩ = some (.int .i64 L) := q0.cell 1
          have x2 : w1.cell? ⟨w.heap.size, 2, none⟩ = some (.int .i64 M) := q0.cell 2
          have x3 : w1.cell? ⟨w.heap.size, 3, none⟩ = some (.int .i64 O) := q0.cell 3
          have x4 : w1.cell? ⟨w.heap.size, 4, none⟩ = some (.int .i64 I) := q0.cell 4
          have x5 : w1.cell? ⟨w.heap.size, 5, none⟩ = some (.int .i64 T) := q0.cell 5
          have x6 : w1.cell? ⟨w.heap.size, 6, none⟩ = some (.int .i64 U) := q0.cell 6
          have x7 : w1.cell? ⟨w.heap.size, 7, none⟩ = some (.int .i64 E) := q0.cell 7
          have x8 : w1.cell? ⟨w.heap.size, 8, none⟩ = some (.bool C) := q0.cell 8
          have y0 : w1.cell? ⟨w.heap.size + 1, 0, none⟩ = some (.int .i64 a) := q1.cell 0
          have y1 : w1.cell? ⟨w.heap.size + 1, 1, none⟩ = some (.int .i64 l) := q1.cell 1
          have y2 : w1.cell? ⟨w.heap.size + 1, 2, none⟩ = some (.int .i64 m) := q1.cell 2
          have y3 : w1.cell? ⟨w.heap.size + 1, 3, none⟩ = some (.int .i64 n) := q1.cell 3
          have y4 : w1.cell? ⟨w.heap.size + 1, 4, none⟩ = some (.int .i64 ii) := q1.cell 4
          have y5 : w1.cell? ⟨w.heap.size + 1, 5, none⟩ = some (.int .i64 t) := q1.cell 5
          have y6 : w1.cell? ⟨w.heap.size + 1, 6, none⟩ = some (.int .i64 u) := q1.cell 6
          have y7 : w1.cell? ⟨w.heap.size + 1, 7, none⟩ = some (.int .i64 b) := q1.cell 7
          have y8 : w1.cell? ⟨w.heap.size + 1, 8, none⟩ = some (.bool c) := q1.cell 8
          go_wp2_with fail
          refine (HC.out _).mono ?_
          rintro e w2 ⟨rfl, hb2⟩
          clear x0 x1 x2 x3 x4 x5 x6 x7 x8 y0 y1 y2 y3 y4 y5 y6 y7 y8
          have q0 := q0.below hb2 (by omega)
          have q1 := q1.below hb2 (by omega)
          have q2 := q2.below hb2 (by omega)
          have hB := hB.trans (hb2.mono (by omega))
          have hs2 := hb2.size
          clear hb2
          clear HC HO
          have z0 : w2.cell? ⟨w.heap.size + 1 + 1, 0, none⟩ = some (.int .i64 0) := q2.cell 0
          have z1 : w2.cell? ⟨w.heap.size + 1 + 1, 1, none⟩ = some (.int .i64 0) := q2.cell 1
          have z2 : w2.cell? ⟨w.heap.size + 1 + 1, 2, none⟩ = some (.int .i64 0) := q2.cell 2
          have z3 : w2.cell? ⟨w.heap.size + 1 + 1, 3, none⟩ = some (.int .i64 0) := q2.cell 3
          have z4 : w2.cell? ⟨w.heap.size + 1 + 1, 4, none⟩ = some (.int .i64 0) := q2.cell 4
          have z5 : w2.cell? ⟨w.heap.size + 1 + 1, 5, none⟩ = some (.int .i64 0) := q2.cell 5
          have z6 : w2.cell? ⟨w.heap.size + 1 + 1, 6, none⟩ = some (.int .i64 0) := q2.cell 6
          have z7 : w2.cell? ⟨w.heap.size + 1 + 1, 7, none⟩ = some (.int .i64 0) := q2.cell 7
          have z8 : w2.cell? ⟨w.heap.size + 1 + 1, 8, none⟩ = some (.bool false) := q2.cell 8
          have f0 : w2.frozen? ⟨w.heap.size + 1 + 1, 0, none⟩ = false := q2.frozen 0
          have f1 : w2.frozen? ⟨w.heap.size + 1 + 1, 1, none⟩ = false := q2.frozen 1
          have f2 : w2.frozen? ⟨w.heap.size + 1 + 1, 2, none⟩ = false := q2.frozen 2
          have f3 : w2.frozen? ⟨w.heap.size + 1 + 1, 3, none⟩ = false := q2.frozen 3
          have f4 : w2.frozen? ⟨w.heap.size + 1 + 1, 4, none⟩ = false := q2.frozen 4
          have f5 : w2.frozen? ⟨w.heap.size + 1 + 1, 5, none⟩ = false := q2.frozen 5
          have f6 : w2.frozen? ⟨w.heap.size + 1 + 1, 6, none⟩ = false := q2.frozen 6
          have f7 : w2.frozen? ⟨w.heap.size + 1 + 1, 7, none⟩ = false := q2.frozen 7
          have f8 : w2.frozen? ⟨w.heap.size + 1 + 1, 8, none⟩ = false := q2.frozen 8
          have HE : Hid _ := And.intro (nine0_row q2 (.int .i64 V0) (.int .i64 V1) (.int .i64 V2) (.int .i64 V3) (.int .i64 V4) (.int .i64 V5) (.int .i64 V6) (.int .i64 V7) (.bool V8)) (nine0_below hB (w.heap.size + 1 + 1) (by omega) (.int .i64 V0) (.int .i64 V1) (.int .i64 V2) (.int .i64 V3) (.int .i64 V4) (.int .i64 V5) (.int .i64 V6) (.int .i64 V7) (.bool V8))
          clear q2 hB q0 q1 HW
          go_wp2_with fail
          have hF := HE.out
          clear HE z0 z1 z2 z3 z4 z5 z6 z7 z8 f0 f1 f2 f3 f4 f5 f6 f7 f8
          unfold nine0 at hF
          generalize (((((((((w2.setCell ⟨w.heap.size + 1 + 1, 0, none⟩ (.int .i64 V0)).setCell ⟨w.heap.size + 1 + 1, 1, none⟩ (.int .i64 V1)).setCell ⟨w.heap.size + 1 + 1, 2, none⟩ (.int .i64 V2)).setCell ⟨w.heap.size + 1 + 1, 3, none⟩ (.int .i64 V3)).setCell ⟨w.heap.size + 1 + 1, 4, none⟩ (.int .i64 V4)).setCell ⟨w.heap.size + 1 + 1, 5, none⟩ (.int .i64 V5)).setCell ⟨w.heap.size + 1 + 1, 6, none⟩ (.int .i64 V6)).setCell ⟨w.heap.size + 1 + 1, 7, none⟩ (.int .i64 V7)).setCell ⟨w.heap.size + 1 + 1, 8, none⟩ (.bool V8)) = Z at *
          obtain ⟨h1, h2⟩ := hF
          have e0 : Z.cell? ⟨w.heap.size + 1 + 1, 0, none⟩ = some (.int .i64 V0) := h1.cell 0
          have e1 : Z.cell? ⟨w.heap.size + 1 + 1, 1, none⟩ = some (.int .i64 V1) := h1.cell 1
          have e2 : Z.cell? ⟨w.heap.size + 1 + 1, 2, none⟩ = some (.int .i64 V2) := h1.cell 2
          have e3 : Z.cell? ⟨w.heap.size + 1 + 1, 3, none⟩ = some (.int .i64 V3) := h1.cell 3
          have e4 : Z.cell? ⟨w.heap.size + 1 + 1, 4, none⟩ = some (.int .i64 V4) := h1.cell 4
          have e5 : Z.cell? ⟨w.heap.size + 1 + 1, 5, none⟩ = some (.int .i64 V5) := h1.cell 5
          have e6 : Z.cell? ⟨w.heap.size + 1 + 1, 6, none⟩ = some (.int .i64 V6) := h1.cell 6
          have e7 : Z.cell? ⟨w.heap.size + 1 + 1, 7, none⟩ = some (.int .i64 V7) := h1.cell 7
          have e8 : Z.cell? ⟨w.heap.size + 1 + 1, 8, none⟩ = some (.bool V8) := h1.cell 8
          exact bodyPost_ret (v := .agg #[.int .i64 V0, .int .i64 V1, .int .i64 V2, .int .i64 V3, .int .i64 V4, .int .i64 V5, .int .i64 V6, .int .i64 V7, .bool V8]) (by simp [results, Try.results55, go_sem, e0, e1, e2, e3, e4, e5, e6, e7, e8]) rfl ⟨rfl, h2⟩
        · have d1 : (O == n) = false := by simpa using e1
          clear HD e1
          obtain ⟨W, hW, q0, q1, q2, hB, hS, -⟩ := rows3 w [.int .i64 A, .int .i64 L, .int .i64 M, .int .i64 O, .int .i64 I, .int .i64 T, .int .i64 U, .int .i64 E, .bool C] [.int .i64 a, .int .i64 l, .int .i64 m, .int .i64 n, .int .i64 ii, .int .i64 t, .int .i64 u, .int .i64 b, .bool c] [.int .i64 0, .int .i64 0, .int .i64 0, .int .i64 0, .int .i64 0, .int .i64 0, .int .i64 0, .int .i64 0, .bool false] 46 46 46
          have HW : Hid _ := hW
          have HQ : Hid _ := And.intro q0 (And.intro q1 (And.intro q2 hB))
          have x0 : W.cell? ⟨w.heap.size, 0, none⟩ = some (.int .i64 A) := q0.cell 0
          have x1 : W.cell? ⟨w.heap.size, 1, none⟩ = some (.int .i64 L) := q0.cell 1
          have x2 : W.cell? ⟨w.heap.size, 2, none⟩ = some (.int .i64 M) := q0.cell 2
          have x3 : W.cell? ⟨w.heap.size, 3, none⟩ = some (.int .i64 O) := q0.cell 3
          have x4 : W.cell? ⟨w.heap.size, 4, none⟩ = some (.int .i64 I) := q0.cell 4
          have x5 : W.cell? ⟨w.heap.size, 5, none⟩ = some (.int .i64 T) := q0.cell 5
          have x6 : W.cell? ⟨w.heap.size, 6, none⟩ = some (.int .i64 U) := q0.cell 6
          have x7 : W.cell? ⟨w.heap.size, 7, none⟩ = some (.int .i64 E) := q0.cell 7
          have x8 : W.cell? ⟨w.heap.size, 8, none⟩ = some (.bool C) := q0.cell 8
          have y0 : W.cell? ⟨w.heap.size + 1, 0, none⟩ = some (.int .i64 a) := q1.cell 0
          have y1 : W.cell? ⟨w.heap.size + 1, 1, none⟩ = some (.int .i64 l) := q1.cell 1
          have y2 : W.cell? ⟨w.heap.size + 1, 2, none⟩ = some (.int .i64 m) := q1.cell 2
          have y3 : W.cell? ⟨w.heap.size + 1, 3, none⟩ = some (.int .i64 n) := q1.cell 3
          have y4 : W.cell? ⟨w.heap.size + 1, 4, none⟩ = some (.int .i64 ii) := q1.cell 4
          have y5 : W.cell? ⟨w.heap.size + 1, 5, none⟩ = some (.int .i64 t) := q1.cell 5
          have y6 : W.cell? ⟨w.heap.size + 1, 6, none⟩ = some (.int .i64 u) := q1.cell 6
          have y7 : W.cell? ⟨w.heap.size + 1, 7, none⟩ = some (.int .i64 b) := q1.cell 7
          have y8 : W.cell? ⟨w.heap.size + 1, 8, none⟩ = some (.bool c) := q1.cell 8
          rw [hW] at x0 x1 x2 x3 x4 x5 x6 x7 x8 y0 y1 y2 y3 y4 y5 y6 y7 y8
          clear hW q0 q1 q2 hB
          go_enter Try.func55, Try.ntmps55
          go_wp2_with fail
          rw [← HW.out]
          obtain ⟨q0, q1, q2, hB⟩ := HQ.out
          clear HQ x0 x1 x2 x3 x4 x5 x6 x7 x8 y0 y1 y2 y3 y4 y5 y6 y7 y8
          refine (HO.out _).mono ?_
          rintro e w1 ⟨rfl, hb1⟩
          have q0 := q0.below hb1 (by omega)
          have q1 := q1.below hb1 (by omega)
          have q2 := q2.below hb1 (by omega)
          have hB := hB.trans (hb1.mono (by omega))
          have hs1 := hb1.size
          clear hb1
          have x0 : w1.cell? ⟨w.heap.size, 0, none⟩ = some (.int .i64 A) := q0.cell 0
          have x1 : w1.cell? ⟨w.heap.size, 1, none⟩ = some (.int .i64 L) := q0.cell 1
          have x2 : w1.cell? ⟨w.heap.size, 2, none⟩ = some (.int .i64 M) := q0.cell 2
          have x3 : w1.cell? ⟨w.heap.size, 3, none⟩ = some (.int .i64 O) := q0.cell 3
          have x4 : w1.cell? ⟨w.heap.size, 4, none⟩ = some (.int .i64 I) := q0.cell 4
          have x5 : w1.cell? ⟨w.heap.size, 5, none⟩ = some (.int .i64 T) := q0.cell 5
          have x6 : w1.cell? ⟨w.heap.size, 6, none⟩ = some (.int .i64 U) := q0.cell 6
          have x7 : w1.cell? ⟨w.heap.size, 7, none⟩ = some (.int .i64 E) := q0.cell 7
          have x8 : w1.cell? ⟨w.heap.size, 8, none⟩ = some (.bool C) := q0.cell 8
          have y0 : w1.cell? ⟨w.heap.size + 1, 0, none⟩ = some (.int .i64 a) := q1.cell 0
          have y1 : w1.cell? ⟨w.heap.size + 1, 1, none⟩ = some (.int .i64 l) := q1.cell 1
          have y2 : w1.cell? ⟨w.heap.size + 1, 2, none⟩ = some (.int .i64 m) := q1.cell 2
          have y3 : w1.cell? ⟨w.heap.size + 1, 3, none⟩ = some (.int .i64 n) := q1.cell 3
          have y4 : w1.cell? ⟨w.heap.size + 1, 4, none⟩ = some (.int .i64 ii) := q1.cell 4
          have y5 : w1.cell? ⟨w.heap.size + 1, 5, none⟩ = some (.int .i64 t) := q1.cell 5
          have y6 : w1.cell? ⟨w.heap.size + 1, 6, none⟩ = some (.int .i64 u) := q1.cell 6
          have y7 : w1.cell? ⟨w.heap.size + 1, 7, none⟩ = some (.int .i64 b) := q1.cell 7
          have y8 : w1.cell? ⟨w.heap.size + 1, 8, none⟩ = some (.bool c) := q1.cell 8
          go_wp2_with fail
          refine (HC.out _).mono ?_
          rintro e w2 ⟨rfl, hb2⟩
          clear x0 x1 x2 x3 x4 x5 x6 x7 x8 y0 y1 y2 y3 y4 y5 y6 y7 y8
          have q0 := q0.below hb2 (by omega)
          have q1 := q1.below hb2 (by omega)
          have q2 := q2.below hb2 (by omega)
          have hB := hB.trans (hb2.mono (by omega))
          have hs2 := hb2.size
          clear hb2
          clear HC HO
          have z0 : w2.cell? ⟨w.heap.size + 1 + 1, 0, none⟩ = some (.int .i64 0) := q2.cell 0
          have z1 : w2.cell? ⟨w.heap.size + 1 + 1, 1, none⟩ = some (.int .i64 0) := q2.cell 1
          have z2 : w2.cell? ⟨w.heap.size + 1 + 1, 2, none⟩ = some (.int .i64 0) := q2.cell 2
          have z3 : w2.cell? ⟨w.heap.size + 1 + 1, 3, none⟩ = some (.int .i64 0) := q2.cell 3
          have z4 : w2.cell? ⟨w.heap.size + 1 + 1, 4, none⟩ = some (.int .i64 0) := q2.cell 4
          have z5 : w2.cell? ⟨w.heap.size + 1 + 1, 5, none⟩ = some (.int .i64 0) := q2.cell 5
          have z6 : w2.cell? ⟨w.heap.size + 1 + 1, 6, none⟩ = some (.int .i64 0) := q2.cell 6
          have z7 : w2.cell? ⟨w.heap.size + 1 + 1, 7, none⟩ = some (.int .i64 0) := q2.cell 7
          have z8 : w2.cell? ⟨w.heap.size + 1 + 1, 8, none⟩ = some (.bool false) := q2.cell 8
          have f0 : w2.frozen? ⟨w.heap.size + 1 + 1, 0, none⟩ = false := q2.frozen 0
          have f1 : w2.frozen? ⟨w.heap.size + 1 + 1, 1, none⟩ = false := q2.frozen 1
          have f2 : w2.frozen? ⟨w.heap.size + 1 + 1, 2, none⟩ = false := q2.frozen 2
          have f3 : w2.frozen? ⟨w.heap.size + 1 + 1, 3, none⟩ = false := q2.frozen 3
          have f4 : w2.frozen? ⟨w.heap.size + 1 + 1, 4, none⟩ = false := q2.frozen 4
          have f5 : w2.frozen? ⟨w.heap.size + 1 + 1, 5, none⟩ = false := q2.frozen 5
          have f6 : w2.frozen? ⟨w.heap.size + 1 + 1, 6, none⟩ = false := q2.frozen 6
          have f7 : w2.frozen? ⟨w.heap.size + 1 + 1, 7, none⟩ = false := q2.frozen 7
          have f8 : w2.frozen? ⟨w.heap.size + 1 + 1, 8, none⟩ = false := q2.frozen 8
          have HE : Hid _ := And.intro (nine0_row q2 (.int .i64 V0) (.int .i64 V1) (.int .i64 V2) (.int .i64 V3) (.int .i64 V4) (.int .i64 V5) (.int .i64 V6) (.int .i64 V7) (.bool V8)) (nine0_below hB (w.heap.size + 1 + 1) (by omega) (.int .i64 V0) (.int .i64 V1) (.int .i64 V2) (.int .i64 V3) (.int .i64 V4) (.int .i64 V5) (.int .i64 V6) (.int .i64 V7) (.bool V8))
          clear q2 hB q0 q1 HW
          go_wp2_with fail
          have hF := HE.out
          clear HE z0 z1 z2 z3 z4 z5 z6 z7 z8 f0 f1 f2 f3 f4 f5 f6 f7 f8
          unfold nine0 at hF
          generalize (((((((((w2.setCell ⟨w.heap.size + 1 + 1, 0, none⟩ (.int .i64 V0)).setCell ⟨w.heap.size + 1 + 1, 1, none⟩ (.int .i64 V1)).setCell ⟨w.heap.size + 1 + 1, 2, none⟩ (.int .i64 V2)).setCell ⟨w.heap.size + 1 + 1, 3, none⟩ (.int .i64 V3)).setCell ⟨w.heap.size + 1 + 1, 4, none⟩ (.int .i64 V4)).setCell ⟨w.heap.size + 1 + 1, 5, none⟩ (.int .i64 V5)).setCell ⟨w.heap.size + 1 + 1, 6, none⟩ (.int .i64 V6)).setCell ⟨w.heap.size + 1 + 1, 7, none⟩ (.int .i64 V7)).setCell ⟨w.heap.size + 1 + 1, 8, none⟩ (.bool V8)) = Z at *
          obtain ⟨h1, h2⟩ := hF
          have e0 : Z.cell? ⟨w.heap.size + 1 + 1, 0, none⟩ = some (.int .i64 V0) := h1.cell 0
          have e1 : Z.cell? ⟨w.heap.size + 1 + 1, 1, none⟩ = some (.int .i64 V1) := h1.cell 1
          have e2 : Z.cell? ⟨w.heap.size + 1 + 1, 2, none⟩ = some (.int .i64 V2) := h1.cell 2
          have e3 : Z.cell? ⟨w.heap.size + 1 + 1, 3, none⟩ = some (.int .i64 V3) := h1.cell 3
          have e4 : Z.cell? ⟨w.heap.size + 1 + 1, 4, none⟩ = some (.int .i64 V4) := h1.cell 4
          have e5 : Z.cell? ⟨w.heap.size + 1 + 1, 5, none⟩ = some (.int .i64 V5) := h1.cell 5
          have e6 : Z.cell? ⟨w.heap.size + 1 + 1, 6, none⟩ = some (.int .i64 V6) := h1.cell 6
          have e7 : Z.cell? ⟨w.heap.size + 1 + 1, 7, none⟩ = some (.int .i64 V7) := h1.cell 7
          have e8 : Z.cell? ⟨w.heap.size + 1 + 1, 8, none⟩ = some (.bool V8) := h1.cell 8
          exact bodyPost_ret (v := .agg #[.int .i64 V0, .int .i64 V1, .int .i64 V2, .int .i64 V3, .int .i64 V4, .int .i64 V5, .int .i64 V6, .int .i64 V7, .bool V8]) (by simp [results, Try.results55, go_sem, e0, e1, e2, e3, e4, e5, e6, e7, e8]) rfl ⟨rfl, h2⟩
      · rw [if_neg c3]
        have d3 : decide (r.m < old.m) = false := by simpa using c3
        clear h0 h1 c3
        obtain ⟨A, L, M, O, I, T, U, E, C⟩ := old
        obtain ⟨a, l, m, n, ii, t, u, b, c⟩ := r
        unfold rtV rtA at *
        simp only at HO HD d3 ⊢
        by_cases e1 : O = n
        · have d1 : (O == n) = true := by simpa using e1
          have d2 : (I == ii) = false := by have := HD.out; rw [if_pos d1] at this; exact this
          clear HD e1
          obtain ⟨W, hW, q0, q1, q2, hB, hS, -⟩ := rows3 w [.int .i64 A, .int .i64 L, .int .i64 M, .int .i64 O, .int .i64 I, .int .i64 T, .int .i64 U, .int .i64 E, .bool C] [.int .i64 a, .int .i64 l, .int .i64 m, .int .i64 n, .int .i64 ii, .int .i64 t, .int .i64 u, .int .i64 b, .bool c] [.int .i64 0, .int .i64 0, .int .i64 0, .int .i64 0, .int .i64 0, .int .i64 0, .int .i64 0, .int .i64 0, .bool false] 46 46 46
          have HW : Hid _ := hW
          have HQ : Hid _ := And.intro q0 (And.intro q1 (And.intro q2 hB))
          have x0 : W.cell? ⟨w.heap.size, 0, none⟩ = some (.int .i64 A) := q0.cell 0
          have x1 : W.cell? ⟨w.heap.size, 1, none⟩ = some (.int .i64 L) := q0.cell 1
          have x2 : W.cell? ⟨w.heap.size, 2, none⟩ = some (.int .i64 M) := q0.cell 2
          have x3 : W.cell? ⟨w.heap.size, 3, none⟩ = some (.int .i64 O) := q0.cell 3
          have x4 : W.cell? ⟨w.heap.size, 4, none⟩ = some (.int .i64 I) := q0.cell 4
          have x5 : W.cell? ⟨w.heap.size, 5, none⟩ = some (.int .i64 T) := q0.cell 5
          have x6 : W.cell? ⟨w.heap.size, 6, none⟩ = some (.int .i64 U) := q0.cell 6
          have x7 : W.cell? ⟨w.heap.size, 7, none⟩ = some (.int .i64 E) := q0.cell 7
          have x8 : W.cell? ⟨w.heap.size, 8, none⟩ = some (.bool C) := q0.cell 8
          have y0 : W.cell? ⟨w.heap.size + 1, 0, none⟩ = some (.int .i64 a) := q1.cell 0
          have y1 : W.cell? ⟨w.heap.size + 1, 1, none⟩ = some (.int .i64 l) := q1.cell 1
          have y2 : W.cell? ⟨w.heap.size + 1, 2, none⟩ = some (.int .i64 m) := q1.cell 2
          have y3 : W.cell? ⟨w.heap.size + 1, 3, none⟩ = some (.int .i64 n) := q1.cell 3
          have y4 : W.cell? ⟨w.heap.size + 1, 4, none⟩ = some (.int .i64 ii) := q1.cell 4
          have y5 : W.cell? ⟨w.heap.size + 1, 5, none⟩ = some (.int .i64 t) := q1.cell 5
          have y6 : W.cell? ⟨w.heap.size + 1, 6, none⟩ = some (.int .i64 u) := q1.cell 6
          have y7 : W.cell? ⟨w.heap.size + 1, 7, none⟩ = some (.int .i64 b) := q1.cell 7
          have y8 : W.cell? ⟨w.heap.size + 1, 8, none⟩ = some (.bool c) := q1.cell 8
          rw [hW] at x0 x1 x2 x3 x4 x5 x6 x7 x8 y0 y1 y2 y3 y4 y5 y6 y7 y8
          clear hW q0 q1 q2 hB
          go_enter Try.func55, Try.ntmps55
          go_wp2_with fail
          rw [← HW.out]
          obtain ⟨q0, q1, q2, hB⟩ := HQ.out
          clear HQ x0 x1 x2 x3 x4 x5 x6 x7 x8 y0 y1 y2 y3 y4 y5 y6 y7 y8
          refine (HO.out _).mono ?_
          rintro e w1 ⟨rfl, hb1⟩
          have q0 := q0.below hb1 (by omega)
          have q1 := q1.below hb1 (by omega)
          have q2 := q2.below hb1 (by omega)
          have hB := hB.trans (hb1.mono (by omega))
          have hs1 := hb1.size
          clear hb1
          have x0 : w1.cell? ⟨w.heap.size, 0, none⟩ = some (.int .i64 A) := q0.cell 0
          have x1 : w1.cell? ⟨w.heap.size, 1, none⟩ = some (.int .i64 L) := q0.cell 1
          have x2 : w1.cell? ⟨w.heap.size, 2, none⟩ = some (.int .i64 M) := q0.cell 2
          have x3 : w1.cell? ⟨w.heap.size, 3, none⟩ = some (.int .i64 O) := q0.cell 3
          have x4 : w1.cell? ⟨w.heap.size, 4, none⟩ = some (.int .i64 I) := q0.cell 4
          have x5 : w1.cell? ⟨w.heap.size, 5, none⟩ = some (.int .i64 T) := q0.cell 5
          have x6 : w1.cell? ⟨w.heap.size, 6, none⟩ = some (.int .i64 U) := q0.cell 6
          have x7 : w1.cell? ⟨w.heap.size, 7, none⟩ = some (.int .i64 E) := q0.cell 7
          have x8 : w1.cell? ⟨w.heap.size, 8, none⟩ = some (.bool C) := q0.cell 8
          have y0 : w1.cell? ⟨w.heap.size + 1, 0, none⟩ = some (.int .i64 a) := q1.cell 0
          have y1 : w1.cell? ⟨w.heap.size + 1, 1, none⟩ = some (.int .i64 l) := q1.cell 1
          have y2 : w1.cell? ⟨w.heap.size + 1, 2, none⟩ = some (.int .i64 m) := q1.cell 2
          have y3 : w1.cell? ⟨w.heap.size + 1, 3, none⟩ = some (.int .i64 n) := q1.cell 3
          have y4 : w1.cell? ⟨w.heap.size + 1, 4, none⟩ = some (.int .i64 ii) := q1.cell 4
          have y5 : w1.cell? ⟨w.heap.size + 1, 5, none⟩ = some (.int .i64 t) := q1.cell 5
          have y6 : w1.cell? ⟨w.heap.size + 1, 6, none⟩ = some (.int .i64 u) := q1.cell 6
          have y7 : w1.cell? ⟨w.heap.size + 1, 7, none⟩ = some (.int .i64 b) := q1.cell 7
          have y8 : w1.cell? ⟨w.heap.size + 1, 8, none⟩ = some (.bool c) := q1.cell 8
          clear HO
          have z0 : w1.cell? ⟨w.heap.size + 1 + 1, 0, none⟩ = some (.int .i64 0) := q2.cell 0
          have z1 : w1.cell? ⟨w.heap.size + 1 + 1, 1, none⟩ = some (.int .i64 0) := q2.cell 1
          have z2 : w1.cell? ⟨w.heap.size + 1 + 1, 2, none⟩ = some (.int .i64 0) := q2.cell 2
          have z3 : w1.cell? ⟨w.heap.size + 1 + 1, 3, none⟩ = some (.int .i64 0) := q2.cell 3
          have z4 : w1.cell? ⟨w.heap.size + 1 + 1, 4, none⟩ = some (.int .i64 0) := q2.cell 4
          have z5 : w1.cell? ⟨w.heap.size + 1 + 1, 5, none⟩ = some (.int .i64 0) := q2.cell 5
          have z6 : w1.cell? ⟨w.heap.size + 1 + 1, 6, none⟩ = some (.int .i64 0) := q2.cell 6
          have z7 : w1.cell? ⟨w.heap.size + 1 + 1, 7, none⟩ = some (.int .i64 0) := q2.cell 7
          have z8 : w1.cell? ⟨w.heap.size + 1 + 1, 8, none⟩ = some (.bool false) := q2.cell 8
          have f0 : w1.frozen? ⟨w.heap.size + 1 + 1, 0, none⟩ = false := q2.frozen 0
          have f1 : w1.frozen? ⟨w.heap.size + 1 + 1, 1, none⟩ = false := q2.frozen 1
          have f2 : w1.frozen? ⟨w.heap.size + 1 + 1, 2, none⟩ = false := q2.frozen 2
          have f3 : w1.frozen? ⟨w.heap.size + 1 + 1, 3, none⟩ = false := q2.frozen 3
          have f4 : w1.frozen? ⟨w.heap.size + 1 + 1, 4, none⟩ = false := q2.frozen 4
          have f5 : w1.frozen? ⟨w.heap.size + 1 + 1, 5, none⟩ = false := q2.frozen 5
          have f6 : w1.frozen? ⟨w.heap.size + 1 + 1, 6, none⟩ = false := q2.frozen 6
          have f7 : w1.frozen? ⟨w.heap.size + 1 + 1, 7, none⟩ = false := q2.frozen 7
          have f8 : w1.frozen? ⟨w.heap.size + 1 + 1, 8, none⟩ = false := q2.frozen 8
          have HE : Hid _ := And.intro (nine0_row q2 (.int .i64 A) (.int .i64 L) (.int .i64 M) (.int .i64 O) (.int .i64 I) (.int .i64 T) (.int .i64 U) (.int .i64 E) (.bool C)) (nine0_below hB (w.heap.size + 1 + 1) (by omega) (.int .i64 A) (.int .i64 L) (.int .i64 M) (.int .i64 O) (.int .i64 I) (.int .i64 T) (.int .i64 U) (.int .i64 E) (.bool C))
          clear q2 hB q0 q1 HW
          go_wp2_with fail
          have hF := HE.out
          clear HE z0 z1 z2 z3 z4 z5 z6 z7 z8 f0 f1 f2 f3 f4 f5 f6 f7 f8
          unfold nine0 at hF
          generalize (((((((((w1.setCell ⟨w.heap.size + 1 + 1, 0, none⟩ (.int .i64 A)).setCell ⟨w.heap.size + 1 + 1, 1, none⟩ (.int .i64 L)).setCell ⟨w.heap.size + 1 + 1, 2, none⟩ (.int .i64 M)).setCell ⟨w.heap.size + 1 + 1, 3, none⟩ (.int .i64 O)).setCell ⟨w.heap.size + 1 + 1, 4, none⟩ (.int .i64 I)).setCell ⟨w.heap.size + 1 + 1, 5, none⟩ (.int .i64 T)).setCell ⟨w.heap.size + 1 + 1, 6, none⟩ (.int .i64 U)).setCell ⟨w.heap.size + 1 + 1, 7, none⟩ (.int .i64 E)).setCell ⟨w.heap.size + 1 + 1, 8, none⟩ (.bool C)) = Z at *
          obtain ⟨h1, h2⟩ := hF
          have e0 : Z.cell? ⟨w.heap.size + 1 + 1, 0, none⟩ = some (.int .i64 A) := h1.cell 0
          have e1 : Z.cell? ⟨w.heap.size + 1 + 1, 1, none⟩ = some (.int .i64 L) := h1.cell 1
          have e2 : Z.cell? ⟨w.heap.size + 1 + 1, 2, none⟩ = some (.int .i64 M) := h1.cell 2
          have e3 : Z.cell? ⟨w.heap.size + 1 + 1, 3, none⟩ = some (.int .i64 O) := h1.cell 3
          have e4 : Z.cell? ⟨w.heap.size + 1 + 1, 4, none⟩ = some (.int .i64 I) := h1.cell 4
          have e5 : Z.cell? ⟨w.heap.size + 1 + 1, 5, none⟩ = some (.int .i64 T) := h1.cell 5
          have e6 : Z.cell? ⟨w.heap.size + 1 + 1, 6, none⟩ = some (.int .i64 U) := h1.cell 6
          have e7 : Z.cell? ⟨w.heap.size + 1 + 1, 7, none⟩ = some (.int .i64 E) := h1.cell 7
          have e8 : Z.cell? ⟨w.heap.size + 1 + 1, 8, none⟩ = some (.bool C) := h1.cell 8
          exact bodyPost_ret (v := .agg #[.int .i64 A, .int .i64 L, .int .i64 M, .int .i64 O, .int .i64 I, .int .i64 T, .int .i64 U, .int .i64 E, .bool C]) (by simp [results, Try.results55, go_sem, e0, e1, e2, e3, e4, e5, e6, e7, e8]) rfl ⟨rfl, h2⟩
        · have d1 : (O == n) = false := by simpa using e1
          clear HD e1
          obtain ⟨W, hW, q0, q1, q2, hB, hS, -⟩ := rows3 w [.int .i64 A, .int .i64 L, .int .i64 M, .int .i64 O, .int .i64 I, .int .i64 T, .int .i64 U, .int .i64 E, .bool C] [.int .i64 a, .int .i64 l, .int .i64 m, .int .i64 n, .int .i64 ii, .int .i64 t, .int .i64 u, .int .i64 b, .bool c] [.int .i64 0, .int .i64 0, .int .i64 0, .int .i64 0, .int .i64 0, .int .i64 0, .int .i64 0, .int .i64 0, .bool false] 46 46 46
          have HW : Hid _ := hW
          have HQ : Hid _ := And.intro q0 (And.intro q1 (And.intro q2 hB))
          have x0 : W.cell? ⟨w.heap.size, 0, none⟩ = some (.int .i64 A) := q0.cell 0
          have x1 : W.cell? ⟨w.heap.size, 1, none⟩ = some (.int .i64 L) := q0.cell 1
          have x2 : W.cell? ⟨w.heap.size, 2, none⟩ = some (.int .i64 M) := q0.cell 2
          have x3 : W.cell? ⟨w.heap.size, 3, none⟩ = some (.int .i64 O) := q0.cell 3
          have x4 : W.cell? ⟨w.heap.size, 4, none⟩ = some (.int .i64 I) := q0.cell 4
          have x5 : W.cell? ⟨w.heap.size, 5, none⟩ = some (.int .i64 T) := q0.cell 5
          have x6 : W.cell? ⟨w.heap.size, 6, none⟩ = some (.int .i64 U) := q0.cell 6
          have x7 : W.cell? ⟨w.heap.size, 7, none⟩ = some (.int .i64 E) := q0.cell 7
          have x8 : W.cell? ⟨w.heap.size, 8, none⟩ = some (.bool C) := q0.cell 8
          have y0 : W.cell? ⟨w.heap.size + 1, 0, none⟩ = some (.int .i64 a) := q1.cell 0
          have y1 : W.cell? ⟨w.heap.size + 1, 1, none⟩ = some (.int .i64 l) := q1.cell 1
          have y2 : W.cell? ⟨w.heap.size + 1, 2, none⟩ = some (.int .i64 m) := q1.cell 2
          have y3 : W.cell? ⟨w.heap.size + 1, 3, none⟩ = some (.int .i64 n) := q1.cell 3
          have y4 : W.cell? ⟨w.heap.size + 1, 4, none⟩ = some (.int .i64 ii) := q1.cell 4
          have y5 : W.cell? ⟨w.heap.size + 1, 5, none⟩ = some (.int .i64 t) := q1.cell 5
          have y6 : W.cell? ⟨w.heap.size + 1, 6, none⟩ = some (.int .i64 u) := q1.cell 6
          have y7 : W.cell? ⟨w.heap.size + 1, 7, none⟩ = some (.int .i64 b) := q1.cell 7
          have y8 : W.cell? ⟨w.heap.size + 1, 8, none⟩ = some (.bool c) := q1.cell 8
          rw [hW] at x0 x1 x2 x3 x4 x5 x6 x7 x8 y0 y1 y2 y3 y4 y5 y6 y7 y8
          clear hW q0 q1 q2 hB
          go_enter Try.func55, Try.ntmps55
          go_wp2_with fail
          rw [← HW.out]
          obtain ⟨q0, q1, q2, hB⟩ := HQ.out
          clear HQ x0 x1 x2 x3 x4 x5 x6 x7 x8 y0 y1 y2 y3 y4 y5 y6 y7 y8
          refine (HO.out _).mono ?_
          rintro e w1 ⟨rfl, hb1⟩
          have q0 := q0.below hb1 (by omega)
          have q1 := q1.below hb1 (by omega)
          have q2 := q2.below hb1 (by omega)
          have hB := hB.trans (hb1.mono (by omega))
          have hs1 := hb1.size
          clear hb1
          have x0 : w1.cell? ⟨w.heap.size, 0, none⟩ = some (.int .i64 A) := q0.cell 0
          have x1 : w1.cell? ⟨w.heap.size, 1, none⟩ = some (.int .i64 L) := q0.cell 1
          have x2 : w1.cell? ⟨w.heap.size, 2, none⟩ = some (.int .i64 M) := q0.cell 2
          have x3 : w1.cell? ⟨w.heap.size, 3, none⟩ = some (.int .i64 O) := q0.cell 3
          have x4 : w1.cell? ⟨w.heap.size, 4, none⟩ = some (.int .i64 I) := q0.cell 4
          have x5 : w1.cell? ⟨w.heap.size, 5, none⟩ = some (.int .i64 T) := q0.cell 5
          have x6 : w1.cell? ⟨w.heap.size, 6, none⟩ = some (.int .i64 U) := q0.cell 6
          have x7 : w1.cell? ⟨w.heap.size, 7, none⟩ = some (.int .i64 E) := q0.cell 7
          have x8 : w1.cell? ⟨w.heap.size, 8, none⟩ = some (.bool C) := q0.cell 8
          have y0 : w1.cell? ⟨w.heap.size + 1, 0, none⟩ = some (.int .i64 a) := q1.cell 0
          have y1 : w1.cell? ⟨w.heap.size + 1, 1, none⟩ = some (.int .i64 l) := q1.cell 1
          have y2 : w1.cell? ⟨w.heap.size + 1, 2, none⟩ = some (.int .i64 m) := q1.cell 2
          have y3 : w1.cell? ⟨w.heap.size + 1, 3, none⟩ = some (.int .i64 n) := q1.cell 3
          have y4 : w1.cell? ⟨w.heap.size + 1, 4, none⟩ = some (.int .i64 ii) := q1.cell 4
          have y5 : w1.cell? ⟨w.heap.size + 1, 5, none⟩ = some (.int .i64 t) := q1.cell 5
          have y6 : w1.cell? ⟨w.heap.size + 1, 6, none⟩ = some (.int .i64 u) := q1.cell 6
          have y7 : w1.cell? ⟨w.heap.size + 1, 7, none⟩ = some (.int .i64 b) := q1.cell 7
          have y8 : w1.cell? ⟨w.heap.size + 1, 8, none⟩ = some (.bool c) := q1.cell 8
          clear HO
          have z0 : w1.cell? ⟨w.heap.size + 1 + 1, 0, none⟩ = some (.int .i64 0) := q2.cell 0
          have z1 : w1.cell? ⟨w.heap.size + 1 + 1, 1, none⟩ = some (.int .i64 0) := q2.cell 1
          have z2 : w1.cell? ⟨w.heap.size + 1 + 1, 2, none⟩ = some (.int .i64 0) := q2.cell 2
          have z3 : w1.cell? ⟨w.heap.size + 1 + 1, 3, none⟩ = some (.int .i64 0) := q2.cell 3
          have z4 : w1.cell? ⟨w.heap.size + 1 + 1, 4, none⟩ = some (.int .i64 0) := q2.cell 4
          have z5 : w1.cell? ⟨w.heap.size + 1 + 1, 5, none⟩ = some (.int .i64 0) := q2.cell 5
          have z6 : w1.cell? ⟨w.heap.size + 1 + 1, 6, none⟩ = some (.int .i64 0) := q2.cell 6
          have z7 : w1.cell? ⟨w.heap.size + 1 + 1, 7, none⟩ = some (.int .i64 0) := q2.cell 7
          have z8 : w1.cell? ⟨w.heap.size + 1 + 1, 8, none⟩ = some (.bool false) := q2.cell 8
          have f0 : w1.frozen? ⟨w.heap.size + 1 + 1, 0, none⟩ = false := q2.frozen 0
          have f1 : w1.frozen? ⟨w.heap.size + 1 + 1, 1, none⟩ = false := q2.frozen 1
          have f2 : w1.frozen? ⟨w.heap.size + 1 + 1, 2, none⟩ = false := q2.frozen 2
          have f3 : w1.frozen? ⟨w.heap.size + 1 + 1, 3, none⟩ = false := q2.frozen 3
          have f4 : w1.frozen? ⟨w.heap.size + 1 + 1, 4, none⟩ = false := q2.frozen 4
          have f5 : w1.frozen? ⟨w.heap.size + 1 + 1, 5, none⟩ = false := q2.frozen 5
          have f6 : w1.frozen? ⟨w.heap.size + 1 + 1, 6, none⟩ = false := q2.frozen 6
          have f7 : w1.frozen? ⟨w.heap.size + 1 + 1, 7, none⟩ = false := q2.frozen 7
          have f8 : w1.frozen? ⟨w.heap.size + 1 + 1, 8, none⟩ = false := q2.frozen 8
          have HE : Hid _ := And.intro (nine0_row q2 (.int .i64 A) (.int .i64 L) (.int .i64 M) (.int .i64 O) (.int .i64 I) (.int .i64 T) (.int .i64 U) (.int .i64 E) (.bool C)) (nine0_below hB (w.heap.size + 1 + 1) (by omega) (.int .i64 A) (.int .i64 L) (.int .i64 M) (.int .i64 O) (.int .i64 I) (.int .i64 T) (.int .i64 U) (.int .i64 E) (.bool C))
          clear q2 hB q0 q1 HW
          go_wp2_with fail
          have hF := HE.out
          clear HE z0 z1 z2 z3 z4 z5 z6 z7 z8 f0 f1 f2 f3 f4 f5 f6 f7 f8
          unfold nine0 at hF
          generalize (((((((((w1.setCell ⟨w.heap.size + 1 + 1, 0, none⟩ (.int .i64 A)).setCell ⟨w.heap.size + 1 + 1, 1, none⟩ (.int .i64 L)).setCell ⟨w.heap.size + 1 + 1, 2, none⟩ (.int .i64 M)).setCell ⟨w.heap.size + 1 + 1, 3, none⟩ (.int .i64 O)).setCell ⟨w.heap.size + 1 + 1, 4, none⟩ (.int .i64 I)).setCell ⟨w.heap.size + 1 + 1, 5, none⟩ (.int .i64 T)).setCell ⟨w.heap.size + 1 + 1, 6, none⟩ (.int .i64 U)).setCell ⟨w.heap.size + 1 + 1, 7, none⟩ (.int .i64 E)).setCell ⟨w.heap.size + 1 + 1, 8, none⟩ (.bool C)) = Z at *
          obtain ⟨h1, h2⟩ := hF
          have e0 : Z.cell? ⟨w.heap.size + 1 + 1, 0, none⟩ = some (.int .i64 A) := h1.cell 0
          have e1 : Z.cell? ⟨w.heap.size + 1 + 1, 1, none⟩ = some (.int .i64 L) := h1.cell 1
          have e2 : Z.cell? ⟨w.heap.size + 1 + 1, 2, none⟩ = some (.int .i64 M) := h1.cell 2
          have e3 : Z.cell? ⟨w.heap.size + 1 + 1, 3, none⟩ = some (.int .i64 O) := h1.cell 3
          have e4 : Z.cell? ⟨w.heap.size + 1 + 1, 4, none⟩ = some (.int .i64 I) := h1.cell 4
          have e5 : Z.cell? ⟨w.heap.size + 1 + 1, 5, none⟩ = some (.int .i64 T) := h1.cell 5
          have e6 : Z.cell? ⟨w.heap.size + 1 + 1, 6, none⟩ = some (.int .i64 U) := h1.cell 6
          have e7 : Z.cell? ⟨w.heap.size + 1 + 1, 7, none⟩ = some (.int .i64 E) := h1.cell 7
          have e8 : Z.cell? ⟨w.heap.size + 1 + 1, 8, none⟩ = some (.bool C) := h1.cell 8
          exact bodyPost_ret (v := .agg #[.int .i64 A, .int .i64 L, .int .i64 M, .int .i64 O, .int .i64 I, .int .i64 T, .int .i64 U, .int .i64 E, .bool C]) (by simp [results, Try.results55, go_sem, e0, e1, e2, e3, e4, e5, e6, e7, e8]) rfl ⟨rfl, h2⟩
end Go.Proofs.Ytaledidomgelcaa
/- withRoute. (Written by gen_with.py.) -/
namespace Go.Proofs.Ytaledidomgelcaa
open Go.RowKit Go.Sort

theorem MapIs.size {w : World} {b : Nat} {rs : List Rt} (h : MapIs w b rs) : ∃ es clock, w.heap[b]? = some (.map es clock) ∧ es.size = rs.length := by
  obtain ⟨es, clock, hb, hh, _⟩ := h
  exact ⟨es, clock, hb, by have := hh.nil_iff; simpa using this⟩
set_option maxRecDepth 100000 in
set_option maxHeartbeats 1000000 in
theorem withRoute_any (B : Nat) (ms rs : List Rt) (r : Rt) (w : World) (hM : MapIs w B ms) (hp : (putN ms r).Perm rs) (hr : rs.length ≤ 8 → ribB rs = true) :
    Calls Try.prog 45 #[tabV B, rtV r] w fun e w' => (8 < rs.length ∧ e = .returned (.agg #[.slice none 0 0, .int .i64 9]) ∨ rs.length ≤ 8 ∧ ∃ p cap, e = .returned (.agg #[.slice p rs.length cap, .int .i64 0]) ∧ w'.ownsRow w.heap.size 46 9 (.slice p rs.length cap) rs.length (rowR rs)) ∧ Below B w w' := by
  have HP : Hid (∀ w, MapIs w B ms → Calls Try.prog 62 #[tabV B, netV r.a r.l, rtV r] w fun e w' => e = .returned (.tuple #[]) ∧ MapIs w' B (putN ms r) ∧ w.grownBy w' (some B)) := fun w h => put_any B ms r w h
  have HO : Hid (∀ w, rs.length ≤ 8 → MapIs w B (putN ms r) → Calls Try.prog 56 #[tabV B] w fun e w' => ∃ p cap, e = .returned (ribV p rs.length cap) ∧ w'.ownsRow w.heap.size 46 9 (.slice p rs.length cap) rs.length (rowR rs) ∧ Below w.heap.size w w') := fun w h8 h => ribOf_any B (putN ms r) rs hp (hr h8) w h
  have HL : Hid ((putN ms r).length = rs.length) := hp.length_eq
  have HM : Hid (MapIs w B ms) := hM
  clear hp hr hM
  generalize putN ms r = qs at *
  obtain ⟨A, L, M, O, I, T, U, E, C⟩ := r
  unfold tabV netV rtV rtA at *
  simp only at HP
  have HK : Hid (B < w.heap.size) := (HM.out).lt
  obtain ⟨W, hW, q0, q1, q2, hB, hS, -⟩ := rows3 w [.map (some B), .func (.func 82) #[] #[]] [.int .i64 A, .int .i64 L, .int .i64 M, .int .i64 O, .int .i64 I, .int .i64 T, .int .i64 U, .int .i64 E, .bool C] [.slice none 0 0, .int .i64 0] 82 46 32
  have HW : Hid _ := hW
  have HQ : Hid _ := And.intro q0 (And.intro q2 (And.intro hB hS))
  clear hW q0 q1 q2 hB hS
  go_enter Try.func45, Try.ntmps45
  go_wp2_with fail
  rw [← HW.out]
  obtain ⟨q0, q2, hB, hS⟩ := HQ.out
  have hlt := HK.out
  refine (HP.out _ ((HM.out).below hB hlt)).mono ?_
  rintro e w1 ⟨rfl, hM1, hg1⟩
  have q0 : Row w1 w.heap.size 82 [.map (some B), .func (.func 82) #[] #[]] := (hg1.block _ q0.lt (by intro e; cases e; omega)).trans q0
  have q2 : Row w1 (w.heap.size + 1 + 1) 32 [.slice none 0 0, .int .i64 0] := (hg1.block _ q2.lt (by intro e; cases e; omega)).trans q2
  have hB1 : Below B w w1 := (hB.mono (by omega)).trans ((Below.refl B W).grown hg1 (by omega) (fun k e => by cases e; omega))
  have hsz : w.heap.size + 1 + 1 + 1 ≤ w1.heap.size := by have := q2.lt; omega
  clear HP HM HW HQ hg1 hB hS
  obtain ⟨es, clock, hb, hes⟩ := hM1.size
  have x0 : w1.cell? ⟨w.heap.size, 0, none⟩ = some (.map (some B)) := q0.cell 0
  have x1 : w1.cell? ⟨w.heap.size, 1, none⟩ = some (.func (.func 82) #[] #[]) := q0.cell 1
  have hlen := run_len_map (P := Try.prog) (w := w1) 79 3 B es clock (by kernel_rfl) hb
  rw [hes, HL.out] at hlen
  have HE : Hid _ := And.intro q2 (And.intro hB1 (And.intro hM1 (And.intro hlt hsz)))
  have f0 : w1.frozen? ⟨w.heap.size + 1 + 1, 0, none⟩ = false := q2.frozen 0
  have f1 : w1.frozen? ⟨w.heap.size + 1 + 1, 1, none⟩ = false := q2.frozen 1
  have z0 : w1.cell? ⟨w.heap.size + 1 + 1, 0, none⟩ = some (.slice none 0 0) := q2.cell 0
  have z1 : w1.cell? ⟨w.heap.size + 1 + 1, 1, none⟩ = some (.int .i64 0) := q2.cell 1
  clear q0 q2 hB1 hM1 hlt hsz hb hes HL
  by_cases h8 : rs.length ≤ 8
  · have d8 : decide (8 < (rs.length : Int)) = false := by simp; omega
    go_wp2_with fail
    refine (HO.out _ h8 (HE.out).2.2.1).mono ?_
    rintro e w2 ⟨p, cap, rfl, hown, hb2⟩
    obtain ⟨q2, hB1, -, hlt, hsz⟩ := HE.out
    have q2 := q2.below hb2 q2.lt
    have hB2 := hB1.trans (hb2.mono (by omega))
    have HE2 : Hid _ := And.intro ((q2.set 0 (.slice p rs.length cap)).set 1 (.int .i64 0)) (And.intro ((hB2.setCell (p := ⟨w.heap.size + 1 + 1, 0, none⟩) (by show B ≤ w.heap.size + 1 + 1; omega) (.slice p rs.length cap)).setCell (p := ⟨w.heap.size + 1 + 1, 1, none⟩) (by show B ≤ w.heap.size + 1 + 1; omega) (.int .i64 0)) (ownR_set (base' := w.heap.size) (ownR_set (base' := w.heap.size + 1 + 1 + 1) hown ⟨w.heap.size + 1 + 1, 0, none⟩ (by show w.heap.size + 1 + 1 < _; omega) (.slice p rs.length cap) hsz) ⟨w.heap.size + 1 + 1, 1, none⟩ (by show w.heap.size + 1 + 1 < _; omega) (.int .i64 0) (by omega)))
    have f0 : w2.frozen? ⟨w.heap.size + 1 + 1, 0, none⟩ = false := q2.frozen 0
    have f1 : w2.frozen? ⟨w.heap.size + 1 + 1, 1, none⟩ = false := q2.frozen 1
    have z0 : w2.cell? ⟨w.heap.size + 1 + 1, 0, none⟩ = some (.slice none 0 0) := q2.cell 0
    have z1 : w2.cell? ⟨w.heap.size + 1 + 1, 1, none⟩ = some (.int .i64 0) := q2.cell 1
    clear HE HO q2 hB1 hB2 hown hb2 hlen d8
    unfold ribV
    go_wp2_with fail
    have h2 := HE2.out
    clear HE2 f0 f1 z0 z1
    generalize (w2.setCell ⟨w.heap.size + 1 + 1, 0, none⟩ (.slice p rs.length cap)).setCell ⟨w.heap.size + 1 + 1, 1, none⟩ (.int .i64 0) = Z at *
    obtain ⟨h1, h2, h3⟩ := h2
    have e0 : Z.cell? ⟨w.heap.size + 1 + 1, 0, none⟩ = some (.slice p rs.length cap) := h1.cell 0
    have e1 : Z.cell? ⟨w.heap.size + 1 + 1, 1, none⟩ = some (.int .i64 0) := h1.cell 1
    refine bodyPost_ret (v := .agg #[.slice p rs.length cap, .int .i64 0]) (by simp [results, Try.results45, go_sem, e0, e1]) rfl ⟨.inr ⟨h8, p, cap, rfl, h3⟩, h2⟩
  · have d8 : decide (8 < (rs.length : Int)) = true := by simp; omega
    obtain ⟨q2, hB1, -, hlt, hsz⟩ := HE.out
    have HE2 : Hid _ := And.intro ((q2.set 0 (.slice none 0 0)).set 1 (.int .i64 9)) ((hB1.setCell (p := ⟨w.heap.size + 1 + 1, 0, none⟩) (by show B ≤ w.heap.size + 1 + 1; omega) (.slice none 0 0)).setCell (p := ⟨w.heap.size + 1 + 1, 1, none⟩) (by show B ≤ w.heap.size + 1 + 1; omega) (.int .i64 9))
    clear HE HO q2 hB1
    go_wp2_with fail
    have h2 := HE2.out
    clear HE2 f0 f1 z0 z1 x0 x1 hlen
    generalize (w1.setCell ⟨w.heap.size + 1 + 1, 0, none⟩ (.slice none 0 0)).setCell ⟨w.heap.size + 1 + 1, 1, none⟩ (.int .i64 9) = Z at *
    obtain ⟨h1, h2⟩ := h2
    have e0 : Z.cell? ⟨w.heap.size + 1 + 1, 0, none⟩ = some (.slice none 0 0) := h1.cell 0
    have e1 : Z.cell? ⟨w.heap.size + 1 + 1, 1, none⟩ = some (.int .i64 9) := h1.cell 1
    refine bodyPost_ret (v := .agg #[.slice none 0 0, .int .i64 9]) (by simp [results, Try.results45, go_sem, e0, e1]) rfl ⟨.inl ⟨by omega, rfl⟩, h2⟩
end Go.Proofs.Ytaledidomgelcaa
