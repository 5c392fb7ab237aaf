/- Texts that stand on each other, in one file: AgainS, ToRts, ToRib, AppS, SortI, SortM, KeysM, KeysI, AppN. -/
import Derived.Test.YtaledidomgelcaaPack2
import Derived.Test.YtaledidomgelcaaPack1
import Derived.OwnWalk
import Derived.Lib.QuietBelow
import Derived.BigQuiet
import Derived.Maps.RangeRun
import Derived.RangeFuncNested
import Derived.RangeFuncBound
import Derived.RangeFuncCalls
import Derived.RangeFuncLeaves
import Derived.Shelf.Abstract
import Derived.Shelf.RegionOpen
import Derived.WalkKit
import Derived.OwnWalkIn
import Derived.TacticsInMore
import Derived.LoopNIn
import Derived.LoopIn
import Derived.Maps.AppendAt
/- Routes that are told: by the model. (Written by gen_learn.py.) -/
namespace Go.Proofs.Ytaledidomgelcaa
open Go.RowKit Go.Sort

set_option maxRecDepth 100000 in
theorem l06Fresh_any (r : Rt) (now : Int) (w : World) (h0 : 0 ≤ now) (h1 : now ≤ 999900) : Calls Try.prog 85 #[rtV r, .int .i64 now] w fun e w' => e = .returned (rtV (freshR r now)) ∧ Below w.heap.size w w' := by
  obtain ⟨a, l, m, n, ii, t, u, b, c⟩ := r
  unfold rtV rtA freshR
  simp only
  go_enter Try.func85, Try.ntmps85
  go_wp2_with fail
  exact bodyPost_ret (v := .agg #[.int .i64 a, .int .i64 l, .int .i64 m, .int .i64 n, .int .i64 ii, .int .i64 t, .int .i64 (now + 6), .int .i64 0, .bool true]) (by simp [results, Try.results85, go_sem]) rfl ⟨rfl, two_newS _ _ _⟩
set_option maxRecDepth 100000 in
set_option maxHeartbeats 4000000 in
theorem l06Again_any (old r : Rt) (now : Int) (w : World) (h0 : 0 ≤ now) (h1 : now ≤ 999900) : Calls Try.prog 86 #[rtV old, rtV r, .int .i64 now] w fun e w' => e = .returned (rtV (againR old r now)) ∧ Below w.heap.size w w' := by
  have HF : Hid (∀ w, Calls Try.prog 85 #[rtV r, .int .i64 now] w fun e w' => e = .returned (rtV (freshR r now)) ∧ Below w.heap.size w w') := fun w => l06Fresh_any r now w h0 h1
  have HD : Hid (∀ w, Calls Try.prog 90 #[rtV old, .int .i64 now] w fun e w' => e = .returned (rtV (deadR old now)) ∧ Below w.heap.size w w') := fun w => l06Dead_any old now w h0 h1
  clear h0 h1
  unfold againR
  by_cases hm : r.m = 16
  · rw [if_pos hm]
    clear HF
    unfold reachR
    by_cases ho : old.m = 16
    · rw [if_pos ho]
      clear HD
      obtain ⟨A, L, M, O, I, T, U, E, C⟩ := old
      obtain ⟨a, l, m, n, ii, t, u, b, c⟩ := r
      unfold rtV rtA at *
      simp only at hm ho ⊢
      subst hm ho
      go_enter Try.func86, Try.ntmps86
      go_wp2_with fail
      exact bodyPost_ret (v := .agg #[.int .i64 A, .int .i64 L, .int .i64 16, .int .i64 O, .int .i64 I, .int .i64 T, .int .i64 U, .int .i64 E, .bool C]) (by simp [results, Try.results86, go_sem]) rfl ⟨rfl, ((ent_new0 w _).alloc (by simp) _).alloc (by simp; omega) _⟩
    · rw [if_neg ho]
      have d2 : (old.m == 16) = false := by simpa using ho
      generalize deadR old now = RR at *
      obtain ⟨A, L, M, O, I, T, U, E, C⟩ := old
      obtain ⟨a, l, m, n, ii, t, u, b, c⟩ := r
      obtain ⟨V0, V1, V2, V3, V4, V5, V6, V7, V8⟩ := RR
      unfold rtV rtA at *
      simp only at HD hm d2 ⊢
      subst hm
      obtain ⟨W, hW, q0, q1, q2, hB, hS, -⟩ := rows3 w [.int .i64 A, .int .i64 L, .int .i64 M, .int .i64 O, .int .i64 I, .int .i64 T, .int .i64 U, .int .i64 E, .bool C] [.int .i64 a, .int .i64 l, .int .i64 16, .int .i64 n, .int .i64 ii, .int .i64 t, .int .i64 u, .int .i64 b, .bool c] [.int .i64 0, .int .i64 0, .int .i64 0, .int .i64 0, .int .i64 0, .int .i64 0, .int .i64 0, .int .i64 0, .bool false] 46 46 46
      have HW : Hid _ := hW
      have HQ : Hid _ := And.intro q0 (And.intro q1 (And.intro q2 hB))
      have x0 : W.cell? ⟨w.heap.size, 0, none⟩ = some (.int .i64 A) := q0.cell 0
      have x1 : W.cell? ⟨w.heap.size, 1, none⟩ = some (.int .i64 L) := q0.cell 1
      have x2 : W.cell? ⟨w.heap.size, 2, none⟩ = some (.int .i64 M) := q0.cell 2
      have x3 : W.cell? ⟨w.heap.size, 3, none⟩ = some (.int .i64 O) := q0.cell 3
      have x4 : W.cell? ⟨w.heap.size, 4, none⟩ = some (.int .i64 I) := q0.cell 4
      have x5 : W.cell? ⟨w.heap.size, 5, none⟩ = some (.int .i64 T) := q0.cell 5
      have x6 : W.cell? ⟨w.heap.size, 6, none⟩ = some (.int .i64 U) := q0.cell 6
      have x7 : W.cell? ⟨w.heap.size, 7, none⟩ = some (.int .i64 E) := q0.cell 7
      have x8 : W.cell? ⟨w.heap.size, 8, none⟩ = some (.bool C) := q0.cell 8
      have y0 : W.cell? ⟨w.heap.size + 1, 0, none⟩ = some (.int .i64 a) := q1.cell 0
      have y1 : W.cell? ⟨w.heap.size + 1, 1, none⟩ = some (.int .i64 l) := q1.cell 1
      have y2 : W.cell? ⟨w.heap.size + 1, 2, none⟩ = some (.int .i64 16) := q1.cell 2
      have y3 : W.cell? ⟨w.heap.size + 1, 3, none⟩ = some (.int .i64 n) := q1.cell 3
      have y4 : W.cell? ⟨w.heap.size + 1, 4, none⟩ = some (.int .i64 ii) := q1.cell 4
      have y5 : W.cell? ⟨w.heap.size + 1, 5, none⟩ = some (.int .i64 t) := q1.cell 5
      have y6 : W.cell? ⟨w.heap.size + 1, 6, none⟩ = some (.int .i64 u) := q1.cell 6
      have y7 : W.cell? ⟨w.heap.size + 1, 7, none⟩ = some (.int .i64 b) := q1.cell 7
      have y8 : W.cell? ⟨w.heap.size + 1, 8, none⟩ = some (.bool c) := q1.cell 8
      rw [hW] at x0 x1 x2 x3 x4 x5 x6 x7 x8 y0 y1 y2 y3 y4 y5 y6 y7 y8
      clear hW q0 q1 q2 hB
      go_enter Try.func86, Try.ntmps86
      go_wp2_with fail
      rw [← HW.out]
      obtain ⟨q0, q1, q2, hB⟩ := HQ.out
      clear HQ x0 x1 x2 x3 x4 x5 x6 x7 x8 y0 y1 y2 y3 y4 y5 y6 y7 y8
      refine (HD.out _).mono ?_
      rintro e w1 ⟨rfl, hb1⟩
      have q0 := q0.below hb1 (by omega)
      have q1 := q1.below hb1 (by omega)
      have q2 := q2.below hb1 (by omega)
      have hB := hB.trans (hb1.mono (by omega))
      have hs1 := hb1.size
      clear hb1
      have z0 : w1.cell? ⟨w.heap.size + 1 + 1, 0, none⟩ = some (.int .i64 0) := q2.cell 0
      have z1 : w1.cell? ⟨w.heap.size + 1 + 1, 1, none⟩ = some (.int .i64 0) := q2.cell 1
      have z2 : w1.cell? ⟨w.heap.size + 1 + 1, 2, none⟩ = some (.int .i64 0) := q2.cell 2
      have z3 : w1.cell? ⟨w.heap.size + 1 + 1, 3, none⟩ = some (.int .i64 0) := q2.cell 3
      have z4 : w1.cell? ⟨w.heap.size + 1 + 1, 4, none⟩ = some (.int .i64 0) := q2.cell 4
      have z5 : w1.cell? ⟨w.heap.size + 1 + 1, 5, none⟩ = some (.int .i64 0) := q2.cell 5
      have z6 : w1.cell? ⟨w.heap.size + 1 + 1, 6, none⟩ = some (.int .i64 0) := q2.cell 6
      have z7 : w1.cell? ⟨w.heap.size + 1 + 1, 7, none⟩ = some (.int .i64 0) := q2.cell 7
      have z8 : w1.cell? ⟨w.heap.size + 1 + 1, 8, none⟩ = some (.bool false) := q2.cell 8
      have f0 : w1.frozen? ⟨w.heap.size + 1 + 1, 0, none⟩ = false := q2.frozen 0
      have f1 : w1.frozen? ⟨w.heap.size + 1 + 1, 1, none⟩ = false := q2.frozen 1
      have f2 : w1.frozen? ⟨w.heap.size + 1 + 1, 2, none⟩ = false := q2.frozen 2
      have f3 : w1.frozen? ⟨w.heap.size + 1 + 1, 3, none⟩ = false := q2.frozen 3
      have f4 : w1.frozen? ⟨w.heap.size + 1 + 1, 4, none⟩ = false := q2.frozen 4
      have f5 : w1.frozen? ⟨w.heap.size + 1 + 1, 5, none⟩ = false := q2.frozen 5
      have f6 : w1.frozen? ⟨w.heap.size + 1 + 1, 6, none⟩ = false := q2.frozen 6
      have f7 : w1.frozen? ⟨w.heap.size + 1 + 1, 7, none⟩ = false := q2.frozen 7
      have f8 : w1.frozen? ⟨w.heap.size + 1 + 1, 8, none⟩ = false := q2.frozen 8
      have HE : Hid _ := And.intro (nine0_row q2 (.int .i64 V0) (.int .i64 V1) (.int .i64 V2) (.int .i64 V3) (.int .i64 V4) (.int .i64 V5) (.int .i64 V6) (.int .i64 V7) (.bool V8)) (nine0_below hB (w.heap.size + 1 + 1) (by omega) (.int .i64 V0) (.int .i64 V1) (.int .i64 V2) (.int .i64 V3) (.int .i64 V4) (.int .i64 V5) (.int .i64 V6) (.int .i64 V7) (.bool V8))
      clear q2 hB q0 q1 HD HW
      go_wp2_with fail
      have hF := HE.out
      clear HE z0 z1 z2 z3 z4 z5 z6 z7 z8 f0 f1 f2 f3 f4 f5 f6 f7 f8
      unfold nine0 at hF
      generalize (((((((((w1.setCell ⟨w.heap.size + 1 + 1, 0, none⟩ (.int .i64 V0)).setCell ⟨w.heap.size + 1 + 1, 1, none⟩ (.int .i64 V1)).setCell ⟨w.heap.size + 1 + 1, 2, none⟩ (.int .i64 V2)).setCell ⟨w.heap.size + 1 + 1, 3, none⟩ (.int .i64 V3)).setCell ⟨w.heap.size + 1 + 1, 4, none⟩ (.int .i64 V4)).setCell ⟨w.heap.size + 1 + 1, 5, none⟩ (.int .i64 V5)).setCell ⟨w.heap.size + 1 + 1, 6, none⟩ (.int .i64 V6)).setCell ⟨w.heap.size + 1 + 1, 7, none⟩ (.int .i64 V7)).setCell ⟨w.heap.size + 1 + 1, 8, none⟩ (.bool V8)) = Z at *
      obtain ⟨h1, h2⟩ := hF
      have e0 : Z.cell? ⟨w.heap.size + 1 + 1, 0, none⟩ = some (.int .i64 V0) := h1.cell 0
      have e1 : Z.cell? ⟨w.heap.size + 1 + 1, 1, none⟩ = some (.int .i64 V1) := h1.cell 1
      have e2 : Z.cell? ⟨w.heap.size + 1 + 1, 2, none⟩ = some (.int .i64 V2) := h1.cell 2
      have e3 : Z.cell? ⟨w.heap.size + 1 + 1, 3, none⟩ = some (.int .i64 V3) := h1.cell 3
      have e4 : Z.cell? ⟨w.heap.size + 1 + 1, 4, none⟩ = some (.int .i64 V4) := h1.cell 4
      have e5 : Z.cell? ⟨w.heap.size + 1 + 1, 5, none⟩ = some (.int .i64 V5) := h1.cell 5
      have e6 : Z.cell? ⟨w.heap.size + 1 + 1, 6, none⟩ = some (.int .i64 V6) := h1.cell 6
      have e7 : Z.cell? ⟨w.heap.size + 1 + 1, 7, none⟩ = some (.int .i64 V7) := h1.cell 7
      have e8 : Z.cell? ⟨w.heap.size + 1 + 1, 8, none⟩ = some (.bool V8) := h1.cell 8
      exact bodyPost_ret (v := .agg #[.int .i64 V0, .int .i64 V1, .int .i64 V2, .int .i64 V3, .int .i64 V4, .int .i64 V5, .int .i64 V6, .int .i64 V7, .bool V8]) (by simp [results, Try.results86, go_sem, e0, e1, e2, e3, e4, e5, e6, e7, e8]) rfl ⟨rfl, h2⟩
  · rw [if_neg hm]
    clear HD
    have d16 : decide (r.m = 16) = false := by simpa using hm
    unfold freshR at HF
    have hmk : markB old r = (old.c || (old.m != r.m || old.t != r.t)) := rfl
    generalize markB old r = MB at *
    obtain ⟨A, L, M, O, I, T, U, E, C⟩ := old
    obtain ⟨a, l, m, n, ii, t, u, b, c⟩ := r
    unfold rtV rtA at *
    simp only at HF hm hmk d16 ⊢
    have HMK : Hid _ := hmk
    clear hmk
    obtain ⟨W, hW, q0, q1, q2, hB, hS, -⟩ := rows3 w [.int .i64 A, .int .i64 L, .int .i64 M, .int .i64 O, .int .i64 I, .int .i64 T, .int .i64 U, .int .i64 E, .bool C] [.int .i64 a, .int .i64 l, .int .i64 m, .int .i64 n, .int .i64 ii, .int .i64 t, .int .i64 u, .int .i64 b, .bool c] [.int .i64 0, .int .i64 0, .int .i64 0, .int .i64 0, .int .i64 0, .int .i64 0, .int .i64 0, .int .i64 0, .bool false] 46 46 46
    have HW : Hid _ := hW
    have HQ : Hid _ := And.intro q0 (And.intro q1 (And.intro q2 hB))
    have x0 : W.cell? ⟨w.heap.size, 0, none⟩ = some (.int .i64 A) := q0.cell 0
    have x1 : W.cell? ⟨w.heap.size, 1, none⟩ = some (.int .i64 L) := q0.cell 1
    have x2 : W.cell? ⟨w.heap.size, 2, none⟩ = some (.int .i64 M) := q0.cell 2
    have x3 : W.cell? ⟨w.heap.size, 3, none⟩ = some (.int .i64 O) := q0.cell 3
    have x4 : W.cell? ⟨w.heap.size, 4, none⟩ = some (.int .i64 I) := q0.cell 4
    have x5 : W.cell? ⟨w.heap.size, 5, none⟩ = some (.int .i64 T) := q0.cell 5
    have x6 : W.cell? ⟨w.heap.size, 6, none⟩ = some (.int .i64 U) := q0.cell 6
    have x7 : W.cell? ⟨w.heap.size, 7, none⟩ = some (.int .i64 E) := q0.cell 7
    have x8 : W.cell? ⟨w.heap.size, 8, none⟩ = some (.bool C) := q0.cell 8
    have y0 : W.cell? ⟨w.heap.size + 1, 0, none⟩ = some (.int .i64 a) := q1.cell 0
    have y1 : W.cell? ⟨w.heap.size + 1, 1, none⟩ = some (.int .i64 l) := q1.cell 1
    have y2 : W.cell? ⟨w.heap.size + 1, 2, none⟩ = some (.int .i64 m) := q1.cell 2
    have y3 : W.cell? ⟨w.heap.size + 1, 3, none⟩ = some (.int .i64 n) := q1.cell 3
    have y4 : W.cell? ⟨w.heap.size + 1, 4, none⟩ = some (.int .i64 ii) := q1.cell 4
    have y5 : W.cell? ⟨w.heap.size + 1, 5, none⟩ = some (.int .i64 t) := q1.cell 5
    have y6 : W.cell? ⟨w.heap.size + 1, 6, none⟩ = some (.int .i64 u) := q1.cell 6
    have y7 : W.cell? ⟨w.heap.size + 1, 7, none⟩ = some (.int .i64 b) := q1.cell 7
    have y8 : W.cell? ⟨w.heap.size + 1, 8, none⟩ = some (.bool c) := q1.cell 8
    rw [hW] at x0 x1 x2 x3 x4 x5 x6 x7 x8 y0 y1 y2 y3 y4 y5 y6 y7 y8
    clear hW q0 q1 q2 hB
    go_enter Try.func86, Try.ntmps86
    go_wp2_with fail
    rw [← HW.out]
    obtain ⟨q0, q1, q2, hB⟩ := HQ.out
    clear HQ x0 x1 x2 x3 x4 x5 x6 x7 x8 y0 y1 y2 y3 y4 y5 y6 y7 y8
    refine (HF.out _).mono ?_
    rintro e w1 ⟨rfl, hb1⟩
    have q0 := q0.below hb1 (by omega)
    have q1 := q1.below hb1 (by omega)
    have q2 := q2.below hb1 (by omega)
    have hB := hB.trans (hb1.mono (by omega))
    have hs1 := hb1.size
    clear hb1
    have hMB := HMK.out
    clear HMK
    cases C
    · by_cases hM : M = m
      · subst hM
        by_cases hT : T = t
        · subst hT
          obtain rfl : MB = false := by rw [hMB]; simp
          have d1 : (M != M) = false := by simp
          have d2 : (T != T) = false := by simp
          clear hMB
          have p0 := q0.alloc (.cells #[.int .i64 a, .int .i64 l, .int .i64 M, .int .i64 n, .int .i64 ii, .int .i64 T, .int .i64 (now + 6), .int .i64 0, .bool true] 46)
          have p1 := q1.alloc (.cells #[.int .i64 a, .int .i64 l, .int .i64 M, .int .i64 n, .int .i64 ii, .int .i64 T, .int .i64 (now + 6), .int .i64 0, .bool true] 46)
          have q2 := q2.alloc (.cells #[.int .i64 a, .int .i64 l, .int .i64 M, .int .i64 n, .int .i64 ii, .int .i64 T, .int .i64 (now + 6), .int .i64 0, .bool false] 46)
          have hB := hB.alloc hB.size (.cells #[.int .i64 a, .int .i64 l, .int .i64 M, .int .i64 n, .int .i64 ii, .int .i64 T, .int .i64 (now + 6), .int .i64 0, .bool false] 46)
          have x2 : (w1.alloc (.cells #[.int .i64 a, .int .i64 l, .int .i64 M, .int .i64 n, .int .i64 ii, .int .i64 T, .int .i64 (now + 6), .int .i64 0, .bool true] 46)).cell? ⟨w.heap.size, 2, none⟩ = some (.int .i64 M) := p0.cell 2
          have x5 : (w1.alloc (.cells #[.int .i64 a, .int .i64 l, .int .i64 M, .int .i64 n, .int .i64 ii, .int .i64 T, .int .i64 (now + 6), .int .i64 0, .bool true] 46)).cell? ⟨w.heap.size, 5, none⟩ = some (.int .i64 T) := p0.cell 5
          have x8 : (w1.alloc (.cells #[.int .i64 a, .int .i64 l, .int .i64 M, .int .i64 n, .int .i64 ii, .int .i64 T, .int .i64 (now + 6), .int .i64 0, .bool true] 46)).cell? ⟨w.heap.size, 8, none⟩ = some (.bool false) := p0.cell 8
          have y2 : (w1.alloc (.cells #[.int .i64 a, .int .i64 l, .int .i64 M, .int .i64 n, .int .i64 ii, .int .i64 T, .int .i64 (now + 6), .int .i64 0, .bool true] 46)).cell? ⟨w.heap.size + 1, 2, none⟩ = some (.int .i64 M) := p1.cell 2
          have y5 : (w1.alloc (.cells #[.int .i64 a, .int .i64 l, .int .i64 M, .int .i64 n, .int .i64 ii, .int .i64 T, .int .i64 (now + 6), .int .i64 0, .bool true] 46)).cell? ⟨w.heap.size + 1, 5, none⟩ = some (.int .i64 T) := p1.cell 5
          clear p0 p1
          have z0 : (w1.alloc (.cells #[.int .i64 a, .int .i64 l, .int .i64 M, .int .i64 n, .int .i64 ii, .int .i64 T, .int .i64 (now + 6), .int .i64 0, .bool false] 46)).cell? ⟨w.heap.size + 1 + 1, 0, none⟩ = some (.int .i64 0) := q2.cell 0
          have z1 : (w1.alloc (.cells #[.int .i64 a, .int .i64 l, .int .i64 M, .int .i64 n, .int .i64 ii, .int .i64 T, .int .i64 (now + 6), .int .i64 0, .bool false] 46)).cell? ⟨w.heap.size + 1 + 1, 1, none⟩ = some (.int .i64 0) := q2.cell 1
          have z2 : (w1.alloc (.cells #[.int .i64 a, .int .i64 l, .int .i64 M, .int .i64 n, .int .i64 ii, .int .i64 T, .int .i64 (now + 6), .int .i64 0, .bool false] 46)).cell? ⟨w.heap.size + 1 + 1, 2, none⟩ = some (.int .i64 0) := q2.cell 2
          have z3 : (w1.alloc (.cells #[.int .i64 a, .int .i64 l, .int .i64 M, .int .i64 n, .int .i64 ii, .int .i64 T, .int .i64 (now + 6), .int .i64 0, .bool false] 46)).cell? ⟨w.heap.size + 1 + 1, 3, none⟩ = some (.int .i64 0) := q2.cell 3
          have z4 : (w1.alloc (.cells #[.int .i64 a, .int .i64 l, .int .i64 M, .int .i64 n, .int .i64 ii, .int .i64 T, .int .i64 (now + 6), .int .i64 0, .bool false] 46)).cell? ⟨w.heap.size + 1 + 1, 4, none⟩ = some (.int .i64 0) := q2.cell 4
          have z5 : (w1.alloc (.cells #[.int .i64 a, .int .i64 l, .int .i64 M, .int .i64 n, .int .i64 ii, .int .i64 T, .int .i64 (now + 6), .int .i64 0, .bool false] 46)).cell? ⟨w.heap.size + 1 + 1, 5, none⟩ = some (.int .i64 0) := q2.cell 5
          have z6 : (w1.alloc (.cells #[.int .i64 a, .int .i64 l, .int .i64 M, .int .i64 n, .int .i64 ii, .int .i64 T, .int .i64 (now + 6), .int .i64 0, .bool false] 46)).cell? ⟨w.heap.size + 1 + 1, 6, none⟩ = some (.int .i64 0) := q2.cell 6
          have z7 : (w1.alloc (.cells #[.int .i64 a, .int .i64 l, .int .i64 M, .int .i64 n, .int .i64 ii, .int .i64 T, .int .i64 (now + 6), .int .i64 0, .bool false] 46)).cell? ⟨w.heap.size + 1 + 1, 7, none⟩ = some (.int .i64 0) := q2.cell 7
          have z8 : (w1.alloc (.cells #[.int .i64 a, .int .i64 l, .int .i64 M, .int .i64 n, .int .i64 ii, .int .i64 T, .int .i64 (now + 6), .int .i64 0, .bool false] 46)).cell? ⟨w.heap.size + 1 + 1, 8, none⟩ = some (.bool false) := q2.cell 8
          have f0 : (w1.alloc (.cells #[.int .i64 a, .int .i64 l, .int .i64 M, .int .i64 n, .int .i64 ii, .int .i64 T, .int .i64 (now + 6), .int .i64 0, .bool false] 46)).frozen? ⟨w.heap.size + 1 + 1, 0, none⟩ = false := q2.frozen 0
          have f1 : (w1.alloc (.cells #[.int .i64 a, .int .i64 l, .int .i64 M, .int .i64 n, .int .i64 ii, .int .i64 T, .int .i64 (now + 6), .int .i64 0, .bool false] 46)).frozen? ⟨w.heap.size + 1 + 1, 1, none⟩ = false := q2.frozen 1
          have f2 : (w1.alloc (.cells #[.int .i64 a, .int .i64 l, .int .i64 M, .int .i64 n, .int .i64 ii, .int .i64 T, .int .i64 (now + 6), .int .i64 0, .bool false] 46)).frozen? ⟨w.heap.size + 1 + 1, 2, none⟩ = false := q2.frozen 2
          have f3 : (w1.alloc (.cells #[.int .i64 a, .int .i64 l, .int .i64 M, .int .i64 n, .int .i64 ii, .int .i64 T, .int .i64 (now + 6), .int .i64 0, .bool false] 46)).frozen? ⟨w.heap.size + 1 + 1, 3, none⟩ = false := q2.frozen 3
          have f4 : (w1.alloc (.cells #[.int .i64 a, .int .i64 l, .int .i64 M, .int .i64 n, .int .i64 ii, .int .i64 T, .int .i64 (now + 6), .int .i64 0, .bool false] 46)).frozen? ⟨w.heap.size + 1 + 1, 4, none⟩ = false := q2.frozen 4
          have f5 : (w1.alloc (.cells #[.int .i64 a, .int .i64 l, .int .i64 M, .int .i64 n, .int .i64 ii, .int .i64 T, .int .i64 (now + 6), .int .i64 0, .bool false] 46)).frozen? ⟨w.heap.size + 1 + 1, 5, none⟩ = false := q2.frozen 5
          have f6 : (w1.alloc (.cells #[.int .i64 a, .int .i64 l, .int .i64 M, .int .i64 n, .int .i64 ii, .int .i64 T, .int .i64 (now + 6), .int .i64 0, .bool false] 46)).frozen? ⟨w.heap.size + 1 + 1, 6, none⟩ = false := q2.frozen 6
          have f7 : (w1.alloc (.cells #[.int .i64 a, .int .i64 l, .int .i64 M, .int .i64 n, .int .i64 ii, .int .i64 T, .int .i64 (now + 6), .int .i64 0, .bool false] 46)).frozen? ⟨w.heap.size + 1 + 1, 7, none⟩ = false := q2.frozen 7
          have f8 : (w1.alloc (.cells #[.int .i64 a, .int .i64 l, .int .i64 M, .int .i64 n, .int .i64 ii, .int .i64 T, .int .i64 (now + 6), .int .i64 0, .bool false] 46)).frozen? ⟨w.heap.size + 1 + 1, 8, none⟩ = false := q2.frozen 8
          have HE : Hid _ := And.intro (nine0_row q2 (.int .i64 a) (.int .i64 l) (.int .i64 M) (.int .i64 n) (.int .i64 ii) (.int .i64 T) (.int .i64 (now + 6)) (.int .i64 0) (.bool false)) (nine0_below hB (w.heap.size + 1 + 1) (by omega) (.int .i64 a) (.int .i64 l) (.int .i64 M) (.int .i64 n) (.int .i64 ii) (.int .i64 T) (.int .i64 (now + 6)) (.int .i64 0) (.bool false))
          clear q2 hB q0 q1 HW HF
          go_wp2_with fail
          have hF := HE.out
          clear HE z0 z1 z2 z3 z4 z5 z6 z7 z8 f0 f1 f2 f3 f4 f5 f6 f7 f8
          unfold nine0 at hF
          generalize ((((((((((w1.alloc (.cells #[.int .i64 a, .int .i64 l, .int .i64 M, .int .i64 n, .int .i64 ii, .int .i64 T, .int .i64 (now + 6), .int .i64 0, .bool false] 46)).setCell ⟨w.heap.size + 1 + 1, 0, none⟩ (.int .i64 a)).setCell ⟨w.heap.size + 1 + 1, 1, none⟩ (.int .i64 l)).setCell ⟨w.heap.size + 1 + 1, 2, none⟩ (.int .i64 M)).setCell ⟨w.heap.size + 1 + 1, 3, none⟩ (.int .i64 n)).setCell ⟨w.heap.size + 1 + 1, 4, none⟩ (.int .i64 ii)).setCell ⟨w.heap.size + 1 + 1, 5, none⟩ (.int .i64 T)).setCell ⟨w.heap.size + 1 + 1, 6, none⟩ (.int .i64 (now + 6))).setCell ⟨w.heap.size + 1 + 1, 7, none⟩ (.int .i64 0)).setCell ⟨w.heap.size + 1 + 1, 8, none⟩ (.bool false)) = Z at *
          obtain ⟨h1, h2⟩ := hF
          have e0 : Z.cell? ⟨w.heap.size + 1 + 1, 0, none⟩ = some (.int .i64 a) := h1.cell 0
          have e1 : Z.cell? ⟨w.heap.size + 1 + 1, 1, none⟩ = some (.int .i64 l) := h1.cell 1
          have e2 : Z.cell? ⟨w.heap.size + 1 + 1, 2, none⟩ = some (.int .i64 M) := h1.cell 2
          have e3 : Z.cell? ⟨w.heap.size + 1 + 1, 3, none⟩ = some (.int .i64 n) := h1.cell 3
          have e4 : Z.cell? ⟨w.heap.size + 1 + 1, 4, none⟩ = some (.int .i64 ii) := h1.cell 4
          have e5 : Z.cell? ⟨w.heap.size + 1 + 1, 5, none⟩ = some (.int .i64 T) := h1.cell 5
          have e6 : Z.cell? ⟨w.heap.size + 1 + 1, 6, none⟩ = some (.int .i64 (now + 6)) := h1.cell 6
          have e7 : Z.cell? ⟨w.heap.size + 1 + 1, 7, none⟩ = some (.int .i64 0) := h1.cell 7
          have e8 : Z.cell? ⟨w.heap.size + 1 + 1, 8, none⟩ = some (.bool false) := h1.cell 8
          exact bodyPost_ret (v := .agg #[.int .i64 a, .int .i64 l, .int .i64 M, .int .i64 n, .int .i64 ii, .int .i64 T, .int .i64 (now + 6), .int .i64 0, .bool false]) (by simp [results, Try.results86, go_sem, e0, e1, e2, e3, e4, e5, e6, e7, e8]) rfl ⟨rfl, h2⟩
        · obtain rfl : MB = true := by rw [hMB]; simp [hT]
          have d1 : (M != M) = false := by simp
          have d2 : (T != t) = true := by simpa using hT
          clear hMB hT
          have p0 := q0.alloc (.cells #[.int .i64 a, .int .i64 l, .int .i64 M, .int .i64 n, .int .i64 ii, .int .i64 t, .int .i64 (now + 6), .int .i64 0, .bool true] 46)
          have p1 := q1.alloc (.cells #[.int .i64 a, .int .i64 l, .int .i64 M, .int .i64 n, .int .i64 ii, .int .i64 t, .int .i64 (now + 6), .int .i64 0, .bool true] 46)
          have q2 := q2.alloc (.cells #[.int .i64 a, .int .i64 l, .int .i64 M, .int .i64 n, .int .i64 ii, .int .i64 t, .int .i64 (now + 6), .int .i64 0, .bool true] 46)
          have hB := hB.alloc hB.size (.cells #[.int .i64 a, .int .i64 l, .int .i64 M, .int .i64 n, .int .i64 ii, .int .i64 t, .int .i64 (now + 6), .int .i64 0, .bool true] 46)
          have x2 : (w1.alloc (.cells #[.int .i64 a, .int .i64 l, .int .i64 M, .int .i64 n, .int .i64 ii, .int .i64 t, .int .i64 (now + 6), .int .i64 0, .bool true] 46)).cell? ⟨w.heap.size, 2, none⟩ = some (.int .i64 M) := p0.cell 2
          have x5 : (w1.alloc (.cells #[.int .i64 a, .int .i64 l, .int .i64 M, .int .i64 n, .int .i64 ii, .int .i64 t, .int .i64 (now + 6), .int .i64 0, .bool true] 46)).cell? ⟨w.heap.size, 5, none⟩ = some (.int .i64 T) := p0.cell 5
          have x8 : (w1.alloc (.cells #[.int .i64 a, .int .i64 l, .int .i64 M, .int .i64 n, .int .i64 ii, .int .i64 t, .int .i64 (now + 6), .int .i64 0, .bool true] 46)).cell? ⟨w.heap.size, 8, none⟩ = some (.bool false) := p0.cell 8
          have y2 : (w1.alloc (.cells #[.int .i64 a, .int .i64 l, .int .i64 M, .int .i64 n, .int .i64 ii, .int .i64 t, .int .i64 (now + 6), .int .i64 0, .bool true] 46)).cell? ⟨w.heap.size + 1, 2, none⟩ = some (.int .i64 M) := p1.cell 2
          have y5 : (w1.alloc (.cells #[.int .i64 a, .int .i64 l, .int .i64 M, .int .i64 n, .int .i64 ii, .int .i64 t, .int .i64 (now + 6), .int .i64 0, .bool true] 46)).cell? ⟨w.heap.size + 1, 5, none⟩ = some (.int .i64 t) := p1.cell 5
          clear p0 p1
          have z0 : (w1.alloc (.cells #[.int .i64 a, .int .i64 l, .int .i64 M, .int .i64 n, .int .i64 ii, .int .i64 t, .int .i64 (now + 6), .int .i64 0, .bool true] 46)).cell? ⟨w.heap.size + 1 + 1, 0, none⟩ = some (.int .i64 0) := q2.cell 0
          have z1 : (w1.alloc (.cells #[.int .i64 a, .int .i64 l, .int .i64 M, .int .i64 n, .int .i64 ii, .int .i64 t, .int .i64 (now + 6), .int .i64 0, .bool true] 46)).cell? ⟨w.heap.size + 1 + 1, 1, none⟩ = some (.int .i64 0) := q2.cell 1
          have z2 : (w1.alloc (.cells #[.int .i64 a, .int .i64 l, .int .i64 M, .int .i64 n, .int .i64 ii, .int .i64 t, .int .i64 (now + 6), .int .i64 0, .bool true] 46)).cell? ⟨w.heap.size + 1 + 1, 2, none⟩ = some (.int .i64 0) := q2.cell 2
          have z3 : (w1.alloc (.cells #[.int .i64 a, .int .i64 l, .int .i64 M, .int .i64 n, .int .i64 ii, .int .i64 t, .int .i64 (now + 6), .int .i64 0, .bool true] 46)).cell? ⟨w.heap.size + 1 + 1, 3, none⟩ = some (.int .i64 0) := q2.cell 3
          have z4 : (w1.alloc (.cells #[.int .i64 a, .int .i64 l, .int .i64 M, .int .i64 n, .int .i64 ii, .int .i64 t, .int .i64 (now + 6), .int .i64 0, .bool true] 46)).cell? ⟨w.heap.size + 1 + 1, 4, none⟩ = some (.int .i64 0) := q2.cell 4
          have z5 : (w1.alloc (.cells #[.int .i64 a, .int .i64 l, .int .i64 M, .int .i64 n, .int .i64 ii, .int .i64 t, .int .i64 (now + 6), .int .i64 0, .bool true] 46)).cell? ⟨w.heap.size + 1 + 1, 5, none⟩ = some (.int .i64 0) := q2.cell 5
          have z6 : (w1.alloc (.cells #[.int .i64 a, .int .i64 l, .int .i64 M, .int .i64 n, .int .i64 ii, .int .i64 t, .int .i64 (now + 6), .int .i64 0, .bool true] 46)).cell? ⟨w.heap.size + 1 + 1, 6, none⟩ = some (.int .i64 0) := q2.cell 6
          have z7 : (w1.alloc (.cells #[.int .i64 a, .int .i64 l, .int .i64 M, .int .i64 n, .int .i64 ii, .int .i64 t, .int .i64 (now + 6), .int .i64 0, .bool true] 46)).cell? ⟨w.heap.size + 1 + 1, 7, none⟩ = some (.int .i64 0) := q2.cell 7
          have z8 : (w1.alloc (.cells #[.int .i64 a, .int .i64 l, .int .i64 M, .int .i64 n, .int .i64 ii, .int .i64 t, .int .i64 (now + 6), .int .i64 0, .bool true] 46)).cell? ⟨w.heap.size + 1 + 1, 8, none⟩ = some (.bool false) := q2.cell 8
          have f0 : (w1.alloc (.cells #[.int .i64 a, .int .i64 l, .int .i64 M, .int .i64 n, .int .i64 ii, .int .i64 t, .int .i64 (now + 6), .int .i64 0, .bool true] 46)).frozen? ⟨w.heap.size + 1 + 1, 0, none⟩ = false := q2.frozen 0
          have f1 : (w1.alloc (.cells #[.int .i64 a, .int .i64 l, .int .i64 M, .int .i64 n, .int .i64 ii, .int .i64 t, .int .i64 (now + 6), .int .i64 0, .bool true] 46)).frozen? ⟨w.heap.size + 1 + 1, 1, none⟩ = false := q2.frozen 1
          have f2 : (w1.alloc (.cells #[.int .i64 a, .int .i64 l, .int .i64 M, .int .i64 n, .int .i64 ii, .int .i64 t, .int .i64 (now + 6), .int .i64 0, .bool true] 46)).frozen? ⟨w.heap.size + 1 + 1, 2, none⟩ = false := q2.frozen 2
          have f3 : (w1.alloc (.cells #[.int .i64 a, .int .i64 l, .int .i64 M, .int .i64 n, .int .i64 ii, .int .i64 t, .int .i64 (now + 6), .int .i64 0, .bool true] 46)).frozen? ⟨w.heap.size + 1 + 1, 3, none⟩ = false := q2.frozen 3
          have f4 : (w1.alloc (.cells #[.int .i64 a, .int .i64 l, .int .i64 M, .int .i64 n, .int .i64 ii, .int .i64 t, .int .i64 (now + 6), .int .i64 0, .bool true] 46)).frozen? ⟨w.heap.size + 1 + 1, 4, none⟩ = false := q2.frozen 4
          have f5 : (w1.alloc (.cells #[.int .i64 a, .int .i64 l, .int .i64 M, .int .i64 n, .int .i64 ii, .int .i64 t, .int .i64 (now + 6), .int .i64 0, .bool true] 46)).frozen? ⟨w.heap.size + 1 + 1, 5, none⟩ = false := q2.frozen 5
          have f6 : (w1.alloc (.cells #[.int .i64 a, .int .i64 l, .int .i64 M, .int .i64 n, .int .i64 ii, .int .i64 t, .int .i64 (now + 6), .int .i64 0, .bool true] 46)).frozen? ⟨w.heap.size + 1 + 1, 6, none⟩ = false := q2.frozen 6
          have f7 : (w1.alloc (.cells #[.int .i64 a, .int .i64 l, .int .i64 M, .int .i64 n, .int .i64 ii, .int .i64 t, .int .i64 (now + 6), .int .i64 0, .bool true] 46)).frozen? ⟨w.heap.size + 1 + 1, 7, none⟩ = false := q2.frozen 7
          have f8 : (w1.alloc (.cells #[.int .i64 a, .int .i64 l, .int .i64 M, .int .i64 n, .int .i64 ii, .int .i64 t, .int .i64 (now + 6), .int .i64 0, .bool true] 46)).frozen? ⟨w.heap.size + 1 + 1, 8, none⟩ = false := q2.frozen 8
          have HE : Hid _ := And.intro (nine0_row q2 (.int .i64 a) (.int .i64 l) (.int .i64 M) (.int .i64 n) (.int .i64 ii) (.int .i64 t) (.int .i64 (now + 6)) (.int .i64 0) (.bool true)) (nine0_below hB (w.heap.size + 1 + 1) (by omega) (.int .i64 a) (.int .i64 l) (.int .i64 M) (.int .i64 n) (.int .i64 ii) (.int .i64 t) (.int .i64 (now + 6)) (.int .i64 0) (.bool true))
          clear q2 hB q0 q1 HW HF
          go_wp2_with fail
          have hF := HE.out
          clear HE z0 z1 z2 z3 z4 z5 z6 z7 z8 f0 f1 f2 f3 f4 f5 f6 f7 f8
          unfold nine0 at hF
          generalize ((((((((((w1.alloc (.cells #[.int .i64 a, .int .i64 l, .int .i64 M, .int .i64 n, .int .i64 ii, .int .i64 t, .int .i64 (now + 6), .int .i64 0, .bool true] 46)).setCell ⟨w.heap.size + 1 + 1, 0, none⟩ (.int .i64 a)).setCell ⟨w.heap.size + 1 + 1, 1, none⟩ (.int .i64 l)).setCell ⟨w.heap.size + 1 + 1, 2, none⟩ (.int .i64 M)).setCell ⟨w.heap.size + 1 + 1, 3, none⟩ (.int .i64 n)).setCell ⟨w.heap.size + 1 + 1, 4, none⟩ (.int .i64 ii)).setCell ⟨w.heap.size + 1 + 1, 5, none⟩ (.int .i64 t)).setCell ⟨w.heap.size + 1 + 1, 6, none⟩ (.int .i64 (now + 6))).setCell ⟨w.heap.size + 1 + 1, 7, none⟩ (.int .i64 0)).setCell ⟨w.heap.size + 1 + 1, 8, none⟩ (.bool true)) = Z at *
          obtain ⟨h1, h2⟩ := hF
          have e0 : Z.cell? ⟨w.heap.size + 1 + 1, 0, none⟩ = some (.int .i64 a) := h1.cell 0
          have e1 : Z.cell? ⟨w.heap.size + 1 + 1, 1, none⟩ = some (.int .i64 l) := h1.cell 1
          have e2 : Z.cell? ⟨w.heap.size + 1 + 1, 2, none⟩ = some (.int .i64 M) := h1.cell 2
          have e3 : Z.cell? ⟨w.heap.size + 1 + 1, 3, none⟩ = some (.int .i64 n) := h1.cell 3
          have e4 : Z.cell? ⟨w.heap.size + 1 + 1, 4, none⟩ = some (.int .i64 ii) := h1.cell 4
          have e5 : Z.cell? ⟨w.heap.size + 1 + 1, 5, none⟩ = some (.int .i64 t) := h1.cell 5
          have e6 : Z.cell? ⟨w.heap.size + 1 + 1, 6, none⟩ = some (.int .i64 (now + 6)) := h1.cell 6
          have e7 : Z.cell? ⟨w.heap.size + 1 + 1, 7, none⟩ = some (.int .i64 0) := h1.cell 7
          have e8 : Z.cell? ⟨w.heap.size + 1 + 1, 8, none⟩ = some (.bool true) := h1.cell 8
          exact bodyPost_ret (v := .agg #[.int .i64 a, .int .i64 l, .int .i64 M, .int .i64 n, .int .i64 ii, .int .i64 t, .int .i64 (now + 6), .int .i64 0, .bool true]) (by simp [results, Try.results86, go_sem, e0, e1, e2, e3, e4, e5, e6, e7, e8]) rfl ⟨rfl, h2⟩
      · obtain rfl : MB = true := by rw [hMB]; simp [hM]
        have d1 : (M != m) = true := by simpa using hM
        clear hMB hM
        have p0 := q0.alloc (.cells #[.int .i64 a, .int .i64 l, .int .i64 m, .int .i64 n, .int .i64 ii, .int .i64 t, .int .i64 (now + 6), .int .i64 0, .bool true] 46)
        have p1 := q1.alloc (.cells #[.int .i64 a, .int .i64 l, .int .i64 m, .int .i64 n, .int .i64 ii, .int .i64 t, .int .i64 (now + 6), .int .i64 0, .bool true] 46)
        have q2 := q2.alloc (.cells #[.int .i64 a, .int .i64 l, .int .i64 m, .int .i64 n, .int .i64 ii, .int .i64 t, .int .i64 (now + 6), .int .i64 0, .bool true] 46)
        have hB := hB.alloc hB.size (.cells #[.int .i64 a, .int .i64 l, .int .i64 m, .int .i64 n, .int .i64 ii, .int .i64 t, .int .i64 (now + 6), .int .i64 0, .bool true] 46)
        have x2 : (w1.alloc (.cells #[.int .i64 a, .int .i64 l, .int .i64 m, .int .i64 n, .int .i64 ii, .int .i64 t, .int .i64 (now + 6), .int .i64 0, .bool true] 46)).cell? ⟨w.heap.size, 2, none⟩ = some (.int .i64 M) := p0.cell 2
        have x5 : (w1.alloc (.cells #[.int .i64 a, .int .i64 l, .int .i64 m, .int .i64 n, .int .i64 ii, .int .i64 t, .int .i64 (now + 6), .int .i64 0, .bool true] 46)).cell? ⟨w.heap.size, 5, none⟩ = some (.int .i64 T) := p0.cell 5
        have x8 : (w1.alloc (.cells #[.int .i64 a, .int .i64 l, .int .i64 m, .int .i64 n, .int .i64 ii, .int .i64 t, .int .i64 (now + 6), .int .i64 0, .bool true] 46)).cell? ⟨w.heap.size, 8, none⟩ = some (.bool false) := p0.cell 8
        have y2 : (w1.alloc (.cells #[.int .i64 a, .int .i64 l, .int .i64 m, .int .i64 n, .int .i64 ii, .int .i64 t, .int .i64 (now + 6), .int .i64 0, .bool true] 46)).cell? ⟨w.heap.size + 1, 2, none⟩ = some (.int .i64 m) := p1.cell 2
        have y5 : (w1.alloc (.cells #[.int .i64 a, .int .i64 l, .int .i64 m, .int .i64 n, .int .i64 ii, .int .i64 t, .int .i64 (now + 6), .int .i64 0, .bool true] 46)).cell? ⟨w.heap.size + 1, 5, none⟩ = some (.int .i64 t) := p1.cell 5
        clear p0 p1
        have z0 : (w1.alloc (.cells #[.int .i64 a, .int .i64 l, .int .i64 m, .int .i64 n, .int .i64 ii, .int .i64 t, .int .i64 (now + 6), .int .i64 0, .bool true] 46)).cell? ⟨w.heap.size + 1 + 1, 0, none⟩ = some (.int .i64 0) := q2.cell 0
        have z1 : (w1.alloc (.cells #[.int .i64 a, .int .i64 l, .int .i64 m, .int .i64 n, .int .i64 ii, .int .i64 t, .int .i64 (now + 6), .int .i64 0, .bool true] 46)).cell? ⟨w.heap.size + 1 + 1, 1, none⟩ = some (.int .i64 0) := q2.cell 1
        have z2 : (w1.alloc (.cells #[.int .i64 a, .int .i64 l, .int .i64 m, .int .i64 n, .int .i64 ii, .int .i64 t, .int .i64 (now + 6), .int .i64 0, .bool true] 46)).cell? ⟨w.heap.size + 1 + 1, 2, none⟩ = some (.int .i64 0) := q2.cell 2
        have z3 : (w1.alloc (.cells #[.int .i64 a, .int .i64 l, .int .i64 m, .int .i64 n, .int .i64 ii, .int .i64 t, .int .i64 (now + 6), .int .i64 0, .bool true] 46)).cell? ⟨w.heap.size + 1 + 1, 3, none⟩ = some (.int .i64 0) := q2.cell 3
        have z4 : (w1.alloc (.cells #[.int .i64 a, .int .i64 l, .int .i64 m, .int .i64 n, .int .i64 ii, .int .i64 t, .int .i64 (now + 6), .int .i64 0, .bool true] 46)).cell? ⟨w.heap.size + 1 + 1, 4, none⟩ = some (.int .i64 0) := q2.cell 4
        have z5 : (w1.alloc (.cells #[.int .i64 a, .int .i64 l, .int .i64 m, .int .i64 n, .int .i64 ii, .int .i64 t, .int .i64 (now + 6), .int .i64 0, .bool true] 46)).cell? ⟨w.heap.size + 1 + 1, 5, none⟩ = some (.int .i64 0) := q2.cell 5
        have z6 : (w1.alloc (.cells #[.int .i64 a, .int .i64 l, .int .i64 m, .int .i64 n, .int .i64 ii, .int .i64 t, .int .i64 (now + 6), .int .i64 0, .bool true] 46)).cell? ⟨w.heap.size + 1 + 1, 6, none⟩ = some (.int .i64 0) := q2.cell 6
        have z7 : (w1.alloc (.cells #[.int .i64 a, .int .i64 l, .int .i64 m, .int .i64 n, .int .i64 ii, .int .i64 t, .int .i64 (now + 6), .int .i64 0, .bool true] 46)).cell? ⟨w.heap.size + 1 + 1, 7, none⟩ = some (.int .i64 0) := q2.cell 7
        have z8 : (w1.alloc (.cells #[.int .i64 a, .int .i64 l, .int .i64 m, .int .i64 n, .int .i64 ii, .int .i64 t, .int .i64 (now + 6), .int .i64 0, .bool true] 46)).cell? ⟨w.heap.size + 1 + 1, 8, none⟩ = some (.bool false) := q2.cell 8
        have f0 : (w1.alloc (.cells #[.int .i64 a, .int .i64 l, .int .i64 m, .int .i64 n, .int .i64 ii, .int .i64 t, .int .i64 (now + 6), .int .i64 0, .bool true] 46)).frozen? ⟨w.heap.size + 1 + 1, 0, none⟩ = false := q2.frozen 0
        have f1 : (w1.alloc (.cells #[.int .i64 a, .int .i64 l, .int .i64 m, .int .i64 n, .int .i64 ii, .int .i64 t, .int .i64 (now + 6), .int .i64 0, .bool true] 46)).frozen? ⟨w.heap.size + 1 + 1, 1, none⟩ = false := q2.frozen 1
        have f2 : (w1.alloc (.cells #[.int .i64 a, .int .i64 l, .int .i64 m, .int .i64 n, .int .i64 ii, .int .i64 t, .int .i64 (now + 6), .int .i64 0, .bool true] 46)).frozen? ⟨w.heap.size + 1 + 1, 2, none⟩ = false := q2.frozen 2
        have f3 : (w1.alloc (.cells #[.int .i64 a, .int .i64 l, .int .i64 m, .int .i64 n, .int .i64 ii, .int .i64 t, .int .i64 (now + 6), .int .i64 0, .bool true] 46)).frozen? ⟨w.heap.size + 1 + 1, 3, none⟩ = false := q2.frozen 3
        have f4 : (w1.alloc (.cells #[.int .i64 a, .int .i64 l, .int .i64 m, .int .i64 n, .int .i64 ii, .int .i64 t, .int .i64 (now + 6), .int .i64 0, .bool true] 46)).frozen? ⟨w.heap.size + 1 + 1, 4, none⟩ = false := q2.frozen 4
        have f5 : (w1.alloc (.cells #[.int .i64 a, .int .i64 l, .int .i64 m, .int .i64 n, .int .i64 ii, .int .i64 t, .int .i64 (now + 6), .int .i64 0, .bool true] 46)).frozen? ⟨w.heap.size + 1 + 1, 5, none⟩ = false := q2.frozen 5
        have f6 : (w1.alloc (.cells #[.int .i64 a, .int .i64 l, .int .i64 m, .int .i64 n, .int .i64 ii, .int .i64 t, .int .i64 (now + 6), .int .i64 0, .bool true] 46)).frozen? ⟨w.heap.size + 1 + 1, 6, none⟩ = false := q2.frozen 6
        have f7 : (w1.alloc (.cells #[.int .i64 a, .int .i64 l, .int .i64 m, .int .i64 n, .int .i64 ii, .int .i64 t, .int .i64 (now + 6), .int .i64 0, .bool true] 46)).frozen? ⟨w.heap.size + 1 + 1, 7, none⟩ = false := q2.frozen 7
        have f8 : (w1.alloc (.cells #[.int .i64 a, .int .i64 l, .int .i64 m, .int .i64 n, .int .i64 ii, .int .i64 t, .int .i64 (now + 6), .int .i64 0, .bool true] 46)).frozen? ⟨w.heap.size + 1 + 1, 8, none⟩ = false := q2.frozen 8
        have HE : Hid _ := And.intro (nine0_row q2 (.int .i64 a) (.int .i64 l) (.int .i64 m) (.int .i64 n) (.int .i64 ii) (.int .i64 t) (.int .i64 (now + 6)) (.int .i64 0) (.bool true)) (nine0_below hB (w.heap.size + 1 + 1) (by omega) (.int .i64 a) (.int .i64 l) (.int .i64 m) (.int .i64 n) (.int .i64 ii) (.int .i64 t) (.int .i64 (now + 6)) (.int .i64 0) (.bool true))
        clear q2 hB q0 q1 HW HF
        go_wp2_with fail
        have hF := HE.out
        clear HE z0 z1 z2 z3 z4 z5 z6 z7 z8 f0 f1 f2 f3 f4 f5 f6 f7 f8
        unfold nine0 at hF
        generalize ((((((((((w1.alloc (.cells #[.int .i64 a, .int .i64 l, .int .i64 m, .int .i64 n, .int .i64 ii, .int .i64 t, .int .i64 (now + 6), .int .i64 0, .bool true] 46)).setCell ⟨w.heap.size + 1 + 1, 0, none⟩ (.int .i64 a)).setCell ⟨w.heap.size + 1 + 1, 1, none⟩ (.int .i64 l)).setCell ⟨w.heap.size + 1 + 1, 2, none⟩ (.int .i64 m)).setCell ⟨w.heap.size + 1 + 1, 3, none⟩ (.int .i64 n)).setCell ⟨w.heap.size + 1 + 1, 4, none⟩ (.int .i64 ii)).setCell ⟨w.heap.size + 1 + 1, 5, none⟩ (.int .i64 t)).setCell ⟨w.heap.size + 1 + 1, 6, none⟩ (.int .i64 (now + 6))).setCell ⟨w.heap.size + 1 + 1, 7, none⟩ (.int .i64 0)).setCell ⟨w.heap.size + 1 + 1, 8, none⟩ (.bool true)) = Z at *
        obtain ⟨h1, h2⟩ := hF
        have e0 : Z.cell? ⟨w.heap.size + 1 + 1, 0, none⟩ = some (.int .i64 a) := h1.cell 0
        have e1 : Z.cell? ⟨w.heap.size + 1 + 1, 1, none⟩ = some (.int .i64 l) := h1.cell 1
        have e2 : Z.cell? ⟨w.heap.size + 1 + 1, 2, none⟩ = some (.int .i64 m) := h1.cell 2
        have e3 : Z.cell? ⟨w.heap.size + 1 + 1, 3, none⟩ = some (.int .i64 n) := h1.cell 3
        have e4 : Z.cell? ⟨w.heap.size + 1 + 1, 4, none⟩ = some (.int .i64 ii) := h1.cell 4
        have e5 : Z.cell? ⟨w.heap.size + 1 + 1, 5, none⟩ = some (.int .i64 t) := h1.cell 5
        have e6 : Z.cell? ⟨w.heap.size + 1 + 1, 6, none⟩ = some (.int .i64 (now + 6)) := h1.cell 6
        have e7 : Z.cell? ⟨w.heap.size + 1 + 1, 7, none⟩ = some (.int .i64 0) := h1.cell 7
        have e8 : Z.cell? ⟨w.heap.size + 1 + 1, 8, none⟩ = some (.bool true) := h1.cell 8
        exact bodyPost_ret (v := .agg #[.int .i64 a, .int .i64 l, .int .i64 m, .int .i64 n, .int .i64 ii, .int .i64 t, .int .i64 (now + 6), .int .i64 0, .bool true]) (by simp [results, Try.results86, go_sem, e0, e1, e2, e3, e4, e5, e6, e7, e8]) rfl ⟨rfl, h2⟩
    · obtain rfl : MB = true := by rw [hMB]; simp
      clear hMB
      have p0 := q0.alloc (.cells #[.int .i64 a, .int .i64 l, .int .i64 m, .int .i64 n, .int .i64 ii, .int .i64 t, .int .i64 (now + 6), .int .i64 0, .bool true] 46)
      have p1 := q1.alloc (.cells #[.int .i64 a, .int .i64 l, .int .i64 m, .int .i64 n, .int .i64 ii, .int .i64 t, .int .i64 (now + 6), .int .i64 0, .bool true] 46)
      have q2 := q2.alloc (.cells #[.int .i64 a, .int .i64 l, .int .i64 m, .int .i64 n, .int .i64 ii, .int .i64 t, .int .i64 (now + 6), .int .i64 0, .bool true] 46)
      have hB := hB.alloc hB.size (.cells #[.int .i64 a, .int .i64 l, .int .i64 m, .int .i64 n, .int .i64 ii, .int .i64 t, .int .i64 (now + 6), .int .i64 0, .bool true] 46)
      have x2 : (w1.alloc (.cells #[.int .i64 a, .int .i64 l, .int .i64 m, .int .i64 n, .int .i64 ii, .int .i64 t, .int .i64 (now + 6), .int .i64 0, .bool true] 46)).cell? ⟨w.heap.size, 2, none⟩ = some (.int .i64 M) := p0.cell 2
      have x5 : (w1.alloc (.cells #[.int .i64 a, .int .i64 l, .int .i64 m, .int .i64 n, .int .i64 ii, .int .i64 t, .int .i64 (now + 6), .int .i64 0, .bool true] 46)).cell? ⟨w.heap.size, 5, none⟩ = some (.int .i64 T) := p0.cell 5
      have x8 : (w1.alloc (.cells #[.int .i64 a, .int .i64 l, .int .i64 m, .int .i64 n, .int .i64 ii, .int .i64 t, .int .i64 (now + 6), .int .i64 0, .bool true] 46)).cell? ⟨w.heap.size, 8, none⟩ = some (.bool true) := p0.cell 8
      have y2 : (w1.alloc (.cells #[.int .i64 a, .int .i64 l, .int .i64 m, .int .i64 n, .int .i64 ii, .int .i64 t, .int .i64 (now + 6), .int .i64 0, .bool true] 46)).cell? ⟨w.heap.size + 1, 2, none⟩ = some (.int .i64 m) := p1.cell 2
      have y5 : (w1.alloc (.cells #[.int .i64 a, .int .i64 l, .int .i64 m, .int .i64 n, .int .i64 ii, .int .i64 t, .int .i64 (now + 6), .int .i64 0, .bool true] 46)).cell? ⟨w.heap.size + 1, 5, none⟩ = some (.int .i64 t) := p1.cell 5
      clear p0 p1
      have z0 : (w1.alloc (.cells #[.int .i64 a, .int .i64 l, .int .i64 m, .int .i64 n, .int .i64 ii, .int .i64 t, .int .i64 (now + 6), .int .i64 0, .bool true] 46)).cell? ⟨w.heap.size + 1 + 1, 0, none⟩ = some (.int .i64 0) := q2.cell 0
      have z1 : (w1.alloc (.cells #[.int .i64 a, .int .i64 l, .int .i64 m, .int .i64 n, .int .i64 ii, .int .i64 t, .int .i64 (now + 6), .int .i64 0, .bool true] 46)).cell? ⟨w.heap.size + 1 + 1, 1, none⟩ = some (.int .i64 0) := q2.cell 1
      have z2 : (w1.alloc (.cells #[.int .i64 a, .int .i64 l, .int .i64 m, .int .i64 n, .int .i64 ii, .int .i64 t, .int .i64 (now + 6), .int .i64 0, .bool true] 46)).cell? ⟨w.heap.size + 1 + 1, 2, none⟩ = some (.int .i64 0) := q2.cell 2
      have z3 : (w1.alloc (.cells #[.int .i64 a, .int .i64 l, .int .i64 m, .int .i64 n, .int .i64 ii, .int .i64 t, .int .i64 (now + 6), .int .i64 0, .bool true] 46)).cell? ⟨w.heap.size + 1 + 1, 3, none⟩ = some (.int .i64 0) := q2.cell 3
      have z4 : (w1.alloc (.cells #[.int .i64 a, .int .i64 l, .int .i64 m, .int .i64 n, .int .i64 ii, .int .i64 t, .int .i64 (now + 6), .int .i64 0, .bool true] 46)).cell? ⟨w.heap.size + 1 + 1, 4, none⟩ = some (.int .i64 0) := q2.cell 4
      have z5 : (w1.alloc (.cells #[.int .i64 a, .int .i64 l, .int .i64 m, .int .i64 n, .int .i64 ii, .int .i64 t, .int .i64 (now + 6), .int .i64 0, .bool true] 46)).cell? ⟨w.heap.size + 1 + 1, 5, none⟩ = some (.int .i64 0) := q2.cell 5
      have z6 : (w1.alloc (.cells #[.int .i64 a, .int .i64 l, .int .i64 m, .int .i64 n, .int .i64 ii, .int .i64 t, .int .i64 (now + 6), .int .i64 0, .bool true] 46)).cell? ⟨w.heap.size + 1 + 1, 6, none⟩ = some (.int .i64 0) := q2.cell 6
      have z7 : (w1.alloc (.cells #[.int .i64 a, .int .i64 l, .int .i64 m, .int .i64 n, .int .i64 ii, .int .i64 t, .int .i64 (now + 6), .int .i64 0, .bool true] 46)).cell? ⟨w.heap.size + 1 + 1, 7, none⟩ = some (.int .i64 0) := q2.cell 7
      have z8 : (w1.alloc (.cells #[.int .i64 a, .int .i64 l, .int .i64 m, .int .i64 n, .int .i64 ii, .int .i64 t, .int .i64 (now + 6), .int .i64 0, .bool true] 46)).cell? ⟨w.heap.size + 1 + 1, 8, none⟩ = some (.bool false) := q2.cell 8
      have f0 : (w1.alloc (.cells #[.int .i64 a, .int .i64 l, .int .i64 m, .int .i64 n, .int .i64 ii, .int .i64 t, .int .i64 (now + 6), .int .i64 0, .bool true] 46)).frozen? ⟨w.heap.size + 1 + 1, 0, none⟩ = false := q2.frozen 0
      have f1 : (w1.alloc (.cells #[.int .i64 a, .int .i64 l, .int .i64 m, .int .i64 n, .int .i64 ii, .int .i64 t, .int .i64 (now + 6), .int .i64 0, .bool true] 46)).frozen? ⟨w.heap.size + 1 + 1, 1, none⟩ = false := q2.frozen 1
      have f2 : (w1.alloc (.cells #[.int .i64 a, .int .i64 l, .int .i64 m, .int .i64 n, .int .i64 ii, .int .i64 t, .int .i64 (now + 6), .int .i64 0, .bool true] 46)).frozen? ⟨w.heap.size + 1 + 1, 2, none⟩ = false := q2.frozen 2
      have f3 : (w1.alloc (.cells #[.int .i64 a, .int .i64 l, .int .i64 m, .int .i64 n, .int .i64 ii, .int .i64 t, .int .i64 (now + 6), .int .i64 0, .bool true] 46)).frozen? ⟨w.heap.size + 1 + 1, 3, none⟩ = false := q2.frozen 3
      have f4 : (w1.alloc (.cells #[.int .i64 a, .int .i64 l, .int .i64 m, .int .i64 n, .int .i64 ii, .int .i64 t, .int .i64 (now + 6), .int .i64 0, .bool true] 46)).frozen? ⟨w.heap.size + 1 + 1, 4, none⟩ = false := q2.frozen 4
      have f5 : (w1.alloc (.cells #[.int .i64 a, .int .i64 l, .int .i64 m, .int .i64 n, .int .i64 ii, .int .i64 t, .int .i64 (now + 6), .int .i64 0, .bool true] 46)).frozen? ⟨w.heap.size + 1 + 1, 5, none⟩ = false := q2.frozen 5
      have f6 : (w1.alloc (.cells #[.int .i64 a, .int .i64 l, .int .i64 m, .int .i64 n, .int .i64 ii, .int .i64 t, .int .i64 (now + 6), .int .i64 0, .bool true] 46)).frozen? ⟨w.heap.size + 1 + 1, 6, none⟩ = false := q2.frozen 6
      have f7 : (w1.alloc (.cells #[.int .i64 a, .int .i64 l, .int .i64 m, .int .i64 n, .int .i64 ii, .int .i64 t, .int .i64 (now + 6), .int .i64 0, .bool true] 46)).frozen? ⟨w.heap.size + 1 + 1, 7, none⟩ = false := q2.frozen 7
      have f8 : (w1.alloc (.cells #[.int .i64 a, .int .i64 l, .int .i64 m, .int .i64 n, .int .i64 ii, .int .i64 t, .int .i64 (now + 6), .int .i64 0, .bool true] 46)).frozen? ⟨w.heap.size + 1 + 1, 8, none⟩ = false := q2.frozen 8
      have HE : Hid _ := And.intro (nine0_row q2 (.int .i64 a) (.int .i64 l) (.int .i64 m) (.int .i64 n) (.int .i64 ii) (.int .i64 t) (.int .i64 (now + 6)) (.int .i64 0) (.bool true)) (nine0_below hB (w.heap.size + 1 + 1) (by omega) (.int .i64 a) (.int .i64 l) (.int .i64 m) (.int .i64 n) (.int .i64 ii) (.int .i64 t) (.int .i64 (now + 6)) (.int .i64 0) (.bool true))
      clear q2 hB q0 q1 HW HF
      go_wp2_with fail
      have hF := HE.out
      clear HE z0 z1 z2 z3 z4 z5 z6 z7 z8 f0 f1 f2 f3 f4 f5 f6 f7 f8
      unfold nine0 at hF
      generalize ((((((((((w1.alloc (.cells #[.int .i64 a, .int .i64 l, .int .i64 m, .int .i64 n, .int .i64 ii, .int .i64 t, .int .i64 (now + 6), .int .i64 0, .bool true] 46)).setCell ⟨w.heap.size + 1 + 1, 0, none⟩ (.int .i64 a)).setCell ⟨w.heap.size + 1 + 1, 1, none⟩ (.int .i64 l)).setCell ⟨w.heap.size + 1 + 1, 2, none⟩ (.int .i64 m)).setCell ⟨w.heap.size + 1 + 1, 3, none⟩ (.int .i64 n)).setCell ⟨w.heap.size + 1 + 1, 4, none⟩ (.int .i64 ii)).setCell ⟨w.heap.size + 1 + 1, 5, none⟩ (.int .i64 t)).setCell ⟨w.heap.size + 1 + 1, 6, none⟩ (.int .i64 (now + 6))).setCell ⟨w.heap.size + 1 + 1, 7, none⟩ (.int .i64 0)).setCell ⟨w.heap.size + 1 + 1, 8, none⟩ (.bool true)) = Z at *
      obtain ⟨h1, h2⟩ := hF
      have e0 : Z.cell? ⟨w.heap.size + 1 + 1, 0, none⟩ = some (.int .i64 a) := h1.cell 0
      have e1 : Z.cell? ⟨w.heap.size + 1 + 1, 1, none⟩ = some (.int .i64 l) := h1.cell 1
      have e2 : Z.cell? ⟨w.heap.size + 1 + 1, 2, none⟩ = some (.int .i64 m) := h1.cell 2
      have e3 : Z.cell? ⟨w.heap.size + 1 + 1, 3, none⟩ = some (.int .i64 n) := h1.cell 3
      have e4 : Z.cell? ⟨w.heap.size + 1 + 1, 4, none⟩ = some (.int .i64 ii) := h1.cell 4
      have e5 : Z.cell? ⟨w.heap.size + 1 + 1, 5, none⟩ = some (.int .i64 t) := h1.cell 5
      have e6 : Z.cell? ⟨w.heap.size + 1 + 1, 6, none⟩ = some (.int .i64 (now + 6)) := h1.cell 6
      have e7 : Z.cell? ⟨w.heap.size + 1 + 1, 7, none⟩ = some (.int .i64 0) := h1.cell 7
      have e8 : Z.cell? ⟨w.heap.size + 1 + 1, 8, none⟩ = some (.bool true) := h1.cell 8
      exact bodyPost_ret (v := .agg #[.int .i64 a, .int .i64 l, .int .i64 m, .int .i64 n, .int .i64 ii, .int .i64 t, .int .i64 (now + 6), .int .i64 0, .bool true]) (by simp [results, Try.results86, go_sem, e0, e1, e2, e3, e4, e5, e6, e7, e8]) rfl ⟨rfl, h2⟩
end Go.Proofs.Ytaledidomgelcaa
/- The laws' own tables: opened, measured, handed over. (Written by gen_rts.py.) -/
namespace Go.Proofs.Ytaledidomgelcaa
open Go.ChangeShapes Go.WideShapes Go.RowKit Go.Sort Go.Deep Go.Joins

/-- The slice (x, len) that was handed in holds the routes rs. -/
def ArgR (w : World) (x : Option Addr) (len : Nat) (rs : List Rt) : Prop := rs.length = len ∧ len ≤ maxLen ∧ (∀ e ∈ rs, RtW e) ∧ ∀ i, (h : i < rs.length) → ∃ p, x = some p ∧ w.cell? (p.add (i * 9)) = some (.int .i64 rs[i].a) ∧ w.cell? (p.add (i * 9 + 1)) = some (.int .i64 rs[i].l) ∧ w.cell? (p.add (i * 9 + 2)) = some (.int .i64 rs[i].m) ∧ w.cell? (p.add (i * 9 + 3)) = some (.int .i64 rs[i].n) ∧ w.cell? (p.add (i * 9 + 4)) = some (.int .i64 rs[i].i) ∧ w.cell? (p.add (i * 9 + 5)) = some (.int .i64 rs[i].t) ∧ w.cell? (p.add (i * 9 + 6)) = some (.int .i64 rs[i].u) ∧ w.cell? (p.add (i * 9 + 7)) = some (.int .i64 rs[i].b) ∧ w.cell? (p.add (i * 9 + 8)) = some (.bool rs[i].c)
theorem ArgR.below {w w' : World} {x : Option Addr} {len : Nat} {rs : List Rt} (h : ArgR w x len rs) (hb : Below w.heap.size w w') : ArgR w' x len rs := by
  obtain ⟨h1, h2, h3, h4⟩ := h
  refine ⟨h1, h2, h3, fun i hi => ?_⟩
  obtain ⟨p, hp, c0, c1, c2, c3, c4, c5, c6, c7, c8⟩ := h4 i hi
  have hk : ∀ k v, w.cell? (p.add k) = some v → w'.cell? (p.add k) = some v := fun k v hv => by rw [hb.cell (World.block_lt_of_cell? w _ hv)]; exact hv
  exact ⟨p, hp, hk _ _ c0, hk _ _ c1, hk _ _ c2, hk _ _ c3, hk _ _ c4, hk _ _ c5, hk _ _ c6, hk _ _ c7, hk _ _ c8⟩
theorem addr_moreR (p : Addr) (m j : Nat) (hj : j ≠ 0) : p.add (m + j) = ⟨(p.add m).block, (p.add m).off + j, none⟩ := by
  rw [← Addr.add_add]
  generalize p.add m = q
  unfold Addr.add
  rw [if_neg hj]
theorem ArgR.at {w : World} {x : Option Addr} {len : Nat} {rs : List Rt} (h : ArgR w x len rs) (i : Nat) (hi : i < rs.length) : ∃ p a l m n ii t u b c, x = some p ∧ rs[i] = ⟨a, l, m, n, ii, t, u, b, c⟩ ∧ w.cell? (p.add (i * 9)) = some (.int .i64 a) ∧ w.cell? ⟨(p.add (i * 9)).block, (p.add (i * 9)).off + 1, none⟩ = some (.int .i64 l) ∧ w.cell? ⟨(p.add (i * 9)).block, (p.add (i * 9)).off + 2, none⟩ = some (.int .i64 m) ∧ w.cell? ⟨(p.add (i * 9)).block, (p.add (i * 9)).off + 3, none⟩ = some (.int .i64 n) ∧ w.cell? ⟨(p.add (i * 9)).block, (p.add (i * 9)).off + 4, none⟩ = some (.int .i64 ii) ∧ w.cell? ⟨(p.add (i * 9)).block, (p.add (i * 9)).off + 5, none⟩ = some (.int .i64 t) ∧ w.cell? ⟨(p.add (i * 9)).block, (p.add (i * 9)).off + 6, none⟩ = some (.int .i64 u) ∧ w.cell? ⟨(p.add (i * 9)).block, (p.add (i * 9)).off + 7, none⟩ = some (.int .i64 b) ∧ w.cell? ⟨(p.add (i * 9)).block, (p.add (i * 9)).off + 8, none⟩ = some (.bool c) := by
  obtain ⟨p, hp, c0, c1, c2, c3, c4, c5, c6, c7, c8⟩ := h.2.2.2 i hi
  rw [addr_moreR _ _ _ (by omega)] at c1 c2 c3 c4 c5 c6 c7 c8
  exact ⟨p, _, _, _, _, _, _, _, _, _, hp, rfl, c0, c1, c2, c3, c4, c5, c6, c7, c8⟩
section
variable {H : Type} {enc : TypeId × Value → H} {w : World} {base : Nat} {spare : Nat → Bool} {held : Bool}
set_option maxRecDepth 100000 in
theorem open_rts {fuel : Nat} {v : Value} {x : DataW H × List MemPlace} (h : DataW.trod enc Try.prog w base spare held fuel 22 [v] = some x) : ∃ y len cap rs, v = .slice y len cap ∧ ArgR w y len rs := by
  rcases open_slice Try.underlying22 h with ⟨h0, _⟩ | ⟨a, len, cap, m, n, D, Pl, h0, hb, hl, hm, hmm, _, hx⟩
  · simp only [List.cons.injEq, and_true] at h0
    exact ⟨none, 0, 0, [], h0, rfl, Nat.zero_le _, by simp, fun i hi => absurd hi (by simp)⟩
  · simp only [List.cons.injEq, and_true] at h0
    have hlm : len ≤ m := by rw [hmm]; split <;> omega
    have each : ∀ i, i < m → ∃ e : Rt, RtW e ∧ w.cell? (a.add (i * 9)) = some (.int .i64 e.a) ∧ w.cell? (a.add (i * 9 + 1)) = some (.int .i64 e.l) ∧ w.cell? (a.add (i * 9 + 2)) = some (.int .i64 e.m) ∧ w.cell? (a.add (i * 9 + 3)) = some (.int .i64 e.n) ∧ w.cell? (a.add (i * 9 + 4)) = some (.int .i64 e.i) ∧ w.cell? (a.add (i * 9 + 5)) = some (.int .i64 e.t) ∧ w.cell? (a.add (i * 9 + 6)) = some (.int .i64 e.u) ∧ w.cell? (a.add (i * 9 + 7)) = some (.int .i64 e.b) ∧ w.cell? (a.add (i * 9 + 8)) = some (.bool e.c) := by
      intro i hi
      obtain ⟨cs', h1, h2⟩ := hx i hi
      rw [Try.cellsRoute] at h1
      obtain ⟨e, rfl, hw⟩ := open_rt h2
      obtain ⟨_, _, hcell⟩ := World.cells?_some h1
      have hadd : ∀ j k, (a.add j).add k = a.add (j + k) := fun j k => by
        unfold Addr.add
        by_cases hj : j = 0
        · subst hj; by_cases hk : k = 0 <;> simp [hk]
        · by_cases hk : k = 0
          · simp [hj, hk]
          · simp [hj, hk, Nat.add_assoc]
      refine ⟨e, hw, ?_⟩
      have k0 := hcell 0 (by omega)
      have k1 := hcell 1 (by omega)
      have k2 := hcell 2 (by omega)
      have k3 := hcell 3 (by omega)
      have k4 := hcell 4 (by omega)
      have k5 := hcell 5 (by omega)
      have k6 := hcell 6 (by omega)
      have k7 := hcell 7 (by omega)
      have k8 := hcell 8 (by omega)
      simp only [hadd, Nat.add_zero, rtL] at k0 k1 k2 k3 k4 k5 k6 k7 k8
      exact ⟨by simpa using k0, by simpa using k1, by simpa using k2, by simpa using k3, by simpa using k4, by simpa using k5, by simpa using k6, by simpa using k7, by simpa using k8⟩
    obtain ⟨E, hE⟩ := choose_lt (α := Rt) (p := fun i e => RtW e ∧ w.cell? (a.add (i * 9)) = some (.int .i64 e.a) ∧ w.cell? (a.add (i * 9 + 1)) = some (.int .i64 e.l) ∧ w.cell? (a.add (i * 9 + 2)) = some (.int .i64 e.m) ∧ w.cell? (a.add (i * 9 + 3)) = some (.int .i64 e.n) ∧ w.cell? (a.add (i * 9 + 4)) = some (.int .i64 e.i) ∧ w.cell? (a.add (i * 9 + 5)) = some (.int .i64 e.t) ∧ w.cell? (a.add (i * 9 + 6)) = some (.int .i64 e.u) ∧ w.cell? (a.add (i * 9 + 7)) = some (.int .i64 e.b) ∧ w.cell? (a.add (i * 9 + 8)) = some (.bool e.c)) each
    refine ⟨some a, len, cap, (List.range len).map E, h0, by simp, by omega, ?_, ?_⟩
    · intro e he
      simp only [List.mem_map, List.mem_range] at he
      obtain ⟨i, hi, rfl⟩ := he
      exact (hE i (by omega)).1
    · intro i hi
      simp only [List.length_map, List.length_range] at hi
      refine ⟨a, rfl, ?_⟩
      simp only [List.getElem_map, List.getElem_range]
      exact (hE i (by omega)).2
set_option maxRecDepth 100000 in
theorem Try.cellsRibS : Try.prog.cellsOf 22 = 1 := by kernel_rfl
theorem Try.cellsRib : Try.prog.cellsOf 24 = 1 := by kernel_rfl
set_option maxRecDepth 100000 in
theorem open_ribV {r : Reach} {b0 : Nat} {v : Value} {d : DataW H} {p : List MemPlace} (hv : Value.okWide Try.prog w r b0 24 v) (h : DataW.Trod enc Try.prog w base spare held 24 v d p) :
    ∃ y len cap rs, v = ribV y len cap ∧ ArgR w y len rs := by
  obtain ⟨cs, rfl, hsz⟩ := okWide_struct Try.underlying24 hv
  rw [Try.cellsRib] at hsz
  obtain ⟨l⟩ := cs
  match l, hsz with
  | [c0], _ =>
    obtain ⟨fuel, hf⟩ := h
    obtain ⟨xs, n, _, _, hl, hx, hg⟩ := DataW.trod_struct Try.underlying24 hf
    match xs, hx with
    | [y0], _ =>
      have h0 : DataW.trod enc Try.prog w base spare held n 22 ((([c0] : List Value).drop 0).take (Try.prog.cellsOf 22)) = [y0][0]? := hg 0 _ rfl
      rw [Try.cellsRibS] at h0
      replace h0 : DataW.trod enc Try.prog w base spare held n 22 [c0] = some y0 := h0
      obtain ⟨y, len, cap, rs, rfl, hA⟩ := open_rts h0
      exact ⟨y, len, cap, rs, rfl, hA⟩
end
end Go.Proofs.Ytaledidomgelcaa
/- The laws' own tables measured and handed over. (Written by gen_rts.py.) -/
namespace Go.Proofs.Ytaledidomgelcaa
open Go.RowKit Go.Sort

theorem set9 (A R : List Value) (k : Nat) (hA : A.length = k * 9) (z0 z1 z2 z3 z4 z5 z6 z7 z8 x0 x1 x2 x3 x4 x5 x6 x7 x8 : Value) : ((((((((((A ++ ([z0, z1, z2, z3, z4, z5, z6, z7, z8] ++ R)).set (k * 9) x0).set (k * 9 + 1) x1).set (k * 9 + 2) x2).set (k * 9 + 3) x3).set (k * 9 + 4) x4).set (k * 9 + 5) x5).set (k * 9 + 6) x6).set (k * 9 + 7) x7).set (k * 9 + 8) x8) = A ++ ([x0, x1, x2, x3, x4, x5, x6, x7, x8] ++ R) := by
  have e : ∀ (L : List Value) (j : Nat) (x : Value), (A ++ L).set (k * 9 + j) x = A ++ L.set j x := fun L j x => by
    rw [List.set_append, if_neg (by omega), hA, Nat.add_sub_cancel_left]
  have e0 : ∀ (L : List Value) (x : Value), (A ++ L).set (k * 9) x = A ++ L.set 0 x := fun L x => e L 0 x
  rw [e0, e, e, e, e, e, e, e, e]
  rfl
theorem Row.someR {w : World} {g : Nat} {t : TypeId} {l : List Value} (h : Row w g t l) (k : Nat) (hk : k < l.length) : ∃ v, w.cell? ⟨g, k, none⟩ = some v := ⟨l[k], by rw [h.cell, List.getElem?_eq_getElem hk]⟩
theorem Try.infoR : (Try.prog.info? 46).map (fun i => (i.zero, i.size, i.bytes)) = some (some (.agg #[.int .i64 0, .int .i64 0, .int .i64 0, .int .i64 0, .int .i64 0, .int .i64 0, .int .i64 0, .int .i64 0, .bool false]), 9, 72) := by kernel_rfl
def zeroRt : Rt := ⟨0, 0, 0, 0, 0, 0, 0, 0, false⟩
theorem rowR_zero_get (n i : Nat) (h : i < n * 9) : (rowR (List.replicate n zeroRt))[i]? = some (if i % 9 = 8 then .bool false else .int .i64 0) := by
  have hi : i / 9 < (List.replicate n zeroRt).length := by simp; omega
  have := rowR_get (List.replicate n zeroRt) (i / 9) (i % 9) hi (by omega)
  rw [show i / 9 * 9 + i % 9 = i by omega] at this
  rw [this, List.getElem_replicate]
  have h9 : i % 9 = 0 ∨ i % 9 = 1 ∨ i % 9 = 2 ∨ i % 9 = 3 ∨ i % 9 = 4 ∨ i % 9 = 5 ∨ i % 9 = 6 ∨ i % 9 = 7 ∨ i % 9 = 8 := by omega
  rcases h9 with h | h | h | h | h | h | h | h | h <;> (rw [h]; rfl)
theorem made_zeroR (n : Nat) : (madeCells (Value.agg #[.int .i64 0, .int .i64 0, .int .i64 0, .int .i64 0, .int .i64 0, .int .i64 0, .int .i64 0, .int .i64 0, .bool false]).cells (n * 9)).toList = rowR (List.replicate n zeroRt) := by
  apply List.ext_getElem?
  intro i
  by_cases h : i < n * 9
  · rw [rowR_zero_get n i h]
    simp only [madeCells, Value.cells, Array.toList_map, List.getElem?_map]
    have h9 : i % 9 = 0 ∨ i % 9 = 1 ∨ i % 9 = 2 ∨ i % 9 = 3 ∨ i % 9 = 4 ∨ i % 9 = 5 ∨ i % 9 = 6 ∨ i % 9 = 7 ∨ i % 9 = 8 := by omega
    rcases h9 with h9 | h9 | h9 | h9 | h9 | h9 | h9 | h9 | h9 <;> simp [h9, h]
  · rw [List.getElem?_eq_none (by simp [madeCells]; omega), List.getElem?_eq_none (by rw [rowR_length]; simp; omega)]
set_option maxRecDepth 100000 in
/-- 'make([]Route, n)'. -/
theorem wpList_make_rts {w : World} {ops : Array Oper} {rest : List Oper} {o : Oper} {a : Act} {Q : Exit → Act → World → Prop}
    (hgd : o.guard = none) (l c : Operand) (hop : o.op = Op.makeSlice 28 l c)
    (L : Int) (n : Nat) (hl : a.eval l = .int .i64 L) (hc : a.eval c = .int .i64 L) (hL : L = (n : Int)) (hn : n ≤ 100000000)
    (B : Nat) (w0 : World) (hb : Below B w0 w) (hB : B ≤ w.heap.size)
    (h : ∀ w', Row w' w.heap.size 46 (rowR (List.replicate n zeroRt)) → Below B w0 w' → wpList Try.prog ops Q rest (a.put o.dst (.slice (some ⟨w.heap.size, 0, none⟩) n n)) w') : wpList Try.prog ops Q (o :: rest) a w := by
  obtain ⟨i0, hi0, hz0, hz1, hz2⟩ := info_parts Try.infoR
  refine wpList_make_full w hgd l c 28 hop B 46 i0 _ 9 Try.underlying28 hi0 hz0 hz1 .i64 .i64 L L n hl hc hL hL (by rw [hz2]; omega) (by unfold maxLen; omega) hB ?_
  intro w' hown hgrow
  rcases hown.2 with ⟨h', _⟩ | ⟨g, cap, cur, h', hbg, hg, hnc, hcm, hcs, htake⟩
  · simp at h'
  · simp only [Value.slice.injEq, Option.some.injEq, Addr.mk.injEq, and_true, true_and] at h'
    obtain ⟨rfl, rfl⟩ := h'
    refine h w' ?_ (hb.trans ((Below.refl B w).grown hgrow hB (by intro k hk; cases hk)))
    unfold Row
    rw [hg, ← made_zeroR, ← htake, List.take_of_length_le (by simp [hcs])]
theorem rowR_set (es : List Rt) (k : Nat) (hk : k < es.length) (a l m n ii t u b : Int) (c : Bool) (he : es[k] = ⟨a, l, m, n, ii, t, u, b, c⟩) :
    ((((((((((rowR (es.take k ++ List.replicate (es.length - k) zeroRt)).set (k * 9) (.int .i64 a)).set (k * 9 + 1) (.int .i64 l)).set (k * 9 + 2) (.int .i64 m)).set (k * 9 + 3) (.int .i64 n)).set (k * 9 + 4) (.int .i64 ii)).set (k * 9 + 5) (.int .i64 t)).set (k * 9 + 6) (.int .i64 u)).set (k * 9 + 7) (.int .i64 b)).set (k * 9 + 8) (.bool c)) = rowR (es.take (k + 1) ++ List.replicate (es.length - (k + 1)) zeroRt) := by
  have e1 : es.length - k = (es.length - (k + 1)) + 1 := by omega
  rw [e1, List.replicate_succ, rowR_append, rowR_cons, List.take_succ_eq_append_getElem hk, List.append_assoc, rowR_append, List.singleton_append, rowR_cons, he]
  exact set9 _ _ k (by rw [rowR_length, List.length_take]; omega) _ _ _ _ _ _ _ _ _ _ _ _ _ _ _ _ _ _
set_option maxRecDepth 100000 in
theorem szRouteS_any (x : Option Addr) (len cap : Nat) (w : World) (hl : len ≤ maxLen) : Calls Try.prog 35 #[.slice x len cap, .int .i64 1048576] w fun e w' => e = .returned (.int .i64 (if len ≤ 1048576 then 1048576 - (len : Int) else -1)) ∧ w = w' := by
  unfold maxLen at hl
  by_cases h : len ≤ 1048576
  · rw [if_pos h]
    have d : decide (1048576 - (len : Int) < 0) = false := by simp; omega
    go_enter Try.func35, Try.ntmps35
    go_wp2
    go_ret
    exact ⟨rfl, rfl⟩
  · rw [if_neg h]
    have d : decide (1048576 - (len : Int) < 0) = true := by simp; omega
    go_enter Try.func35, Try.ntmps35
    go_wp2
    go_ret
    exact ⟨rfl, rfl⟩
set_option maxRecDepth 100000 in
theorem szRib_any (x : Option Addr) (len cap : Nat) (w : World) (hl : len ≤ maxLen) : Calls Try.prog 9 #[ribV x len cap, .int .i64 1048576] w fun e w' => e = .returned (.int .i64 (if len ≤ 1048576 then 1048576 - (len : Int) else -1)) ∧ Below w.heap.size w w' := by
  have HS : Hid (∀ w, Calls Try.prog 35 #[.slice x len cap, .int .i64 1048576] w fun e w' => e = .returned (.int .i64 (if len ≤ 1048576 then 1048576 - (len : Int) else -1)) ∧ w = w') := fun w => szRouteS_any x len cap w hl
  unfold maxLen at hl
  unfold ribV
  by_cases h : len ≤ 1048576
  · rw [if_pos h] at *
    have d : decide (1048576 - (len : Int) < 0) = false := by simp; omega
    go_enter Try.func9, Try.ntmps9
    go_wp2_with fail
    refine (HS.out _).mono ?_
    rintro e w1 ⟨rfl, rfl⟩
    go_wp2
    go_ret
    exact ⟨rfl, ent_new0 w _⟩
  · rw [if_neg h] at *
    go_enter Try.func9, Try.ntmps9
    go_wp2_with fail
    refine (HS.out _).mono ?_
    rintro e w1 ⟨rfl, rfl⟩
    go_wp2
    go_ret
    exact ⟨rfl, ent_new0 w _⟩
set_option maxRecDepth 100000 in
theorem toRouteS_any (x : Option Addr) (cap : Nat) (es : List Rt) (w : World) (h : ArgR w x es.length es) (hn : es.length ≤ 1048576) :
    Calls Try.prog 41 #[.slice x es.length cap] w fun e w' => ∃ g, e = .returned (.slice (some ⟨g, 0, none⟩) es.length es.length) ∧ w.heap.size ≤ g ∧ Row w' g 46 (rowR es) ∧ Below w.heap.size w w' := by
  have HE : Hid (∀ e w, Calls Try.prog 20 #[rtV e] w fun r w' => r = .returned (rtV e) ∧ Below w.heap.size w w') := toRoute_any
  have HX : Hid (ArgR w x es.length es) := h
  clear h
  go_enter Try.func41, Try.ntmps41
  go_wp2_with (at_make; refine wpList_make_rts rfl _ _ rfl _ es.length rfl rfl rfl (by omega) w.heap.size w (Below.refl _ _) (Nat.le_refl _) ?_)
  intro w0 hr0 hb0
  have hz : es.take 0 ++ List.replicate (es.length - 0) zeroRt = List.replicate es.length zeroRt := by simp
  rw [← hz] at hr0
  clear hz
  go_wp2_with fail
  go_loopw [4] (fun i wr => ∃ k : Nat, k ≤ es.length ∧ i = .int .i64 k ∧ Row wr w.heap.size 46 (rowR (es.take k ++ List.replicate (es.length - k) zeroRt)) ∧ Below w.heap.size w wr) (fun i _ => es.length - (intOf i).toNat)
  case atStart => exact ⟨0, Nat.zero_le _, rfl, hr0, hb0⟩
  case round =>
    obtain ⟨k, hk, rfl, hr, hb⟩ := hrel
    by_cases hlt : k < es.length
    · obtain ⟨p, a, l, m, n, ii, t, u, b, c, rfl, hek, c0, c1, c2, c3, c4, c5, c6, c7, c8⟩ := (HX.out.below hb).at k hlt
      have HEk : Hid (∀ w, Calls Try.prog 20 #[.agg #[.int .i64 a, .int .i64 l, .int .i64 m, .int .i64 n, .int .i64 ii, .int .i64 t, .int .i64 u, .int .i64 b, .bool c]] w fun r w' => r = .returned (.agg #[.int .i64 a, .int .i64 l, .int .i64 m, .int .i64 n, .int .i64 ii, .int .i64 t, .int .i64 u, .int .i64 b, .bool c]) ∧ Below w.heap.size w w') := HE.out ⟨a, l, m, n, ii, t, u, b, c⟩
      have hset := rowR_set es k hlt a l m n ii t u b c hek
      have HS : Hid _ := hset
      clear hset HE hek hr0 hb0
      go_wp2_with fail
      refine (HEk.out _).mono ?_
      rintro e w1 ⟨rfl, hb1⟩
      have hr1 := hr.below hb1 hr.lt
      have hB1 := hb.trans (hb1.mono hb.size)
      clear c0 c1 c2 c3 c4 c5 c6 c7 c8 hb1 HEk hr hb
      have hlr : (rowR (es.take k ++ List.replicate (es.length - k) zeroRt)).length = es.length * 9 := by rw [rowR_length]; simp; omega
      obtain ⟨z0, hz0⟩ := Row.someR hr1 (k * 9) (by omega)
      obtain ⟨z1, hz1⟩ := Row.someR hr1 (k * 9 + 1) (by omega)
      obtain ⟨z2, hz2⟩ := Row.someR hr1 (k * 9 + 2) (by omega)
      obtain ⟨z3, hz3⟩ := Row.someR hr1 (k * 9 + 3) (by omega)
      obtain ⟨z4, hz4⟩ := Row.someR hr1 (k * 9 + 4) (by omega)
      obtain ⟨z5, hz5⟩ := Row.someR hr1 (k * 9 + 5) (by omega)
      obtain ⟨z6, hz6⟩ := Row.someR hr1 (k * 9 + 6) (by omega)
      obtain ⟨z7, hz7⟩ := Row.someR hr1 (k * 9 + 7) (by omega)
      obtain ⟨z8, hz8⟩ := Row.someR hr1 (k * 9 + 8) (by omega)
      have f0 := hr1.frozen (k * 9)
      have f1 := hr1.frozen (k * 9 + 1)
      have f2 := hr1.frozen (k * 9 + 2)
      have f3 := hr1.frozen (k * 9 + 3)
      have f4 := hr1.frozen (k * 9 + 4)
      have f5 := hr1.frozen (k * 9 + 5)
      have f6 := hr1.frozen (k * 9 + 6)
      have f7 := hr1.frozen (k * 9 + 7)
      have f8 := hr1.frozen (k * 9 + 8)
      have hr2 := nine_row hr1 (k * 9) (.int .i64 a) (.int .i64 l) (.int .i64 m) (.int .i64 n) (.int .i64 ii) (.int .i64 t) (.int .i64 u) (.int .i64 b) (.bool c)
      rw [HS.out] at hr2
      have hB2 := nine_below hB1 w.heap.size (k * 9) (Nat.le_refl _) (.int .i64 a) (.int .i64 l) (.int .i64 m) (.int .i64 n) (.int .i64 ii) (.int .i64 t) (.int .i64 u) (.int .i64 b) (.bool c)
      unfold nine at hr2 hB2
      have HH : Hid _ := And.intro hr2 hB2
      clear hr1 hB1 HS hlr hr2 hB2
      go_wp2_with fail
      go_roundw
      case rel => exact ⟨k + 1, hlt, by go_num, HH.out.1, HH.out.2⟩
      case measure => simp [intOf]; omega
    · obtain rfl : k = es.length := by omega
      rw [List.take_length, Nat.sub_self, List.replicate_zero, List.append_nil] at hr
      clear hlt hk
      go_wp2
      go_ret
      exact ⟨_, rfl, Nat.le_refl _, hr, hb⟩
theorem three1 (w : World) (a0 b0 c0 : Value) (t u y : TypeId) : ∃ W, W = ((w.alloc (.cells #[a0] t)).alloc (.cells #[b0] u)).alloc (.cells #[c0] y) ∧ Row W w.heap.size t [a0] ∧ Row W (w.heap.size + 1) u [b0] ∧ Row W (w.heap.size + 1 + 1) y [c0] ∧ Below w.heap.size w W ∧ W.heap.size = w.heap.size + 1 + 1 + 1 := by
  have q0 := ((Row.new w t [a0]).alloc (.cells #[b0] u)).alloc (.cells #[c0] y)
  have q1 := (Row.new (w.alloc (.cells #[a0] t)) u [b0]).alloc (.cells #[c0] y)
  have q2 := Row.new ((w.alloc (.cells #[a0] t)).alloc (.cells #[b0] u)) y [c0]
  have e1 : (w.alloc (.cells #[a0] t)).heap.size = w.heap.size + 1 := by simp
  have e2 : ((w.alloc (.cells #[a0] t)).alloc (.cells #[b0] u)).heap.size = w.heap.size + 1 + 1 := by simp
  rw [e1] at q1
  rw [e2] at q2
  exact ⟨_, rfl, q0, q1, q2, ((ent_new0 w _).alloc (by simp) _).alloc (by simp; omega) _, by simp⟩
set_option maxRecDepth 100000 in
theorem toRib_any (x : Option Addr) (cap : Nat) (es : List Rt) (w : World) (h : ArgR w x es.length es) (hn : es.length ≤ 1048576) :
    Calls Try.prog 11 #[ribV x es.length cap] w fun e w' => ∃ g, e = .returned (ribV (some ⟨g, 0, none⟩) es.length es.length) ∧ w.heap.size ≤ g ∧ Row w' g 46 (rowR es) ∧ Below w.heap.size w w' := by
  have HE : Hid (∀ w, ArgR w x es.length es → Calls Try.prog 41 #[.slice x es.length cap] w fun e w' => ∃ g, e = .returned (.slice (some ⟨g, 0, none⟩) es.length es.length) ∧ w.heap.size ≤ g ∧ Row w' g 46 (rowR es) ∧ Below w.heap.size w w') := fun w h => toRouteS_any x cap es w h hn
  have HX : Hid (ArgR w x es.length es) := h
  clear h
  unfold ribV
  generalize es.length = N at *
  obtain ⟨W, hW, q0, q1, q2, hB, hS⟩ := three1 w (.slice x N cap) (.slice none 0 0) (.slice none 0 0) 24 30 30
  have HW : Hid _ := hW
  clear hW
  go_enter Try.func11, Try.ntmps11
  go_wp2_with fail
  rw [← HW.out]
  refine (HE.out _ (HX.out.below hB)).mono ?_
  rintro e w1 ⟨g, rfl, hg, hr, hb1⟩
  have p1 := q1.below hb1 q1.lt
  have p2 := q2.below hb1 q2.lt
  have hB1 := hB.trans (hb1.mono (by omega))
  have hg2 : w.heap.size + 1 + 1 < g := by omega
  clear q0 q1 q2 hb1 HW HX HE hB
  have b0 : w1.cell? ⟨w.heap.size + 1, 0, none⟩ = some (.slice none 0 0) := p1.cell 0
  have d0 : w1.cell? ⟨w.heap.size + 1 + 1, 0, none⟩ = some (.slice none 0 0) := p2.cell 0
  have f0 : w1.frozen? ⟨w.heap.size + 1, 0, none⟩ = false := p1.frozen 0
  have g0 : w1.frozen? ⟨w.heap.size + 1 + 1, 0, none⟩ = false := p2.frozen 0
  have hrow : Row ((w1.setCell ⟨w.heap.size + 1 + 1, 0, none⟩ (.slice (some ⟨g, 0, none⟩) N N)).setCell ⟨w.heap.size + 1, 0, none⟩ (.slice (some ⟨g, 0, none⟩) N N)) g 46 (rowR es) := (hr.other 0 _ (by omega)).other 0 _ (by omega)
  have hres : Row ((w1.setCell ⟨w.heap.size + 1 + 1, 0, none⟩ (.slice (some ⟨g, 0, none⟩) N N)).setCell ⟨w.heap.size + 1, 0, none⟩ (.slice (some ⟨g, 0, none⟩) N N)) (w.heap.size + 1) 30 [.slice (some ⟨g, 0, none⟩) N N] := (p1.other 0 _ (by omega)).set 0 _
  have hbel : Below w.heap.size w ((w1.setCell ⟨w.heap.size + 1 + 1, 0, none⟩ (.slice (some ⟨g, 0, none⟩) N N)).setCell ⟨w.heap.size + 1, 0, none⟩ (.slice (some ⟨g, 0, none⟩) N N)) := (hB1.setCell (p := ⟨w.heap.size + 1 + 1, 0, none⟩) (by show w.heap.size ≤ w.heap.size + 1 + 1; omega) _).setCell (p := ⟨w.heap.size + 1, 0, none⟩) (by show w.heap.size ≤ w.heap.size + 1; omega) _
  have HH : Hid _ := And.intro hrow (And.intro hres hbel)
  clear hrow hres hbel p1 p2 hr hB1
  go_wp2_with fail
  have HH2 := HH.out
  clear HH b0 d0 f0 g0
  generalize ((w1.setCell ⟨w.heap.size + 1 + 1, 0, none⟩ (.slice (some ⟨g, 0, none⟩) N N)).setCell ⟨w.heap.size + 1, 0, none⟩ (.slice (some ⟨g, 0, none⟩) N N)) = Z at *
  obtain ⟨h1, h2, h3⟩ := HH2
  have b0 : Z.cell? ⟨w.heap.size + 1, 0, none⟩ = some (.slice (some ⟨g, 0, none⟩) N N) := h2.cell 0
  refine bodyPost_ret (v := .agg #[.slice (some ⟨g, 0, none⟩) N N]) (by simp [results, Try.results11, go_sem, b0]) rfl ⟨g, rfl, by omega, h1, h3⟩
end Go.Proofs.Ytaledidomgelcaa
/- Routes appended to a list of the call's own; a list of routes cut. -/
namespace Go.Proofs.Ytaledidomgelcaa
open Go.RowKit Go.Sort

theorem ownsR_none {w : World} {base : Nat} {v : Value} {n : Nat} {xs : List Value} (h : w.ownsRow base 46 9 v n xs) (ty : TypeId) : (Builtin.append_ #[28, 28] ty #[v, .slice none 0 0]).run Try.prog w = .ok v w := by
  obtain ⟨i0, hi0, _, _, _⟩ := info_parts Try.infoR
  exact run_append_owned_none w base _ ty 46 i0 9 Try.underlying28 hi0 v n xs h
/-- 'append(v, x...)' of routes. -/
theorem run_append_rts (w : World) (base : Nat) (v : Value) (ls ms : List Rt) (q : Option Addr) (c : Nat) (ty : TypeId) (hown : w.ownsRow base 46 9 v ls.length (rowR ls)) (hq0 : q = none → ms = [] ∧ c = 0)
    (hq : ∀ ad, q = some ad → ∀ j u, (rowR ms)[j]? = some u → w.cell? (ad.add j) = some u) (hlen : ls.length + ms.length ≤ 1000000000) (hbase : base ≤ w.heap.size) :
    ∃ v' w', (Builtin.append_ #[28, 28] ty #[v, .slice q ms.length c]).run Try.prog w = .ok v' w' ∧ w'.ownsRow base 46 9 v' (ls ++ ms).length (rowR (ls ++ ms)) ∧ Below base w w' := by
  obtain ⟨i0, hi0, hz0, hz1, hz2⟩ := info_parts Try.infoR
  cases q with
  | none =>
    obtain ⟨rfl, rfl⟩ := hq0 rfl
    exact ⟨v, w, ownsR_none hown ty, by rw [List.append_nil]; exact hown, Below.refl _ _⟩
  | some ad =>
    obtain ⟨v', w', hr, h2, h3, _⟩ := run_append_own (P := Try.prog) w base _ ty 46 i0 _ 9 72 Try.underlying28 hi0 hz0 hz1 hz2 rfl (by decide) v ls.length (rowR ls) hown ad ms.length c (rowR ms) (by rw [rowR_length]; omega) (hq ad rfl) (rowR_one ms) (by unfold maxLen; omega) (by omega) hbase
    refine ⟨v', w', hr, ?_, (Below.refl base w).grown h3 hbase fun k hk => (World.ownsRow.lt hown k hk).1⟩
    rw [List.length_append, rowR_append]
    exact h2
theorem wpList_append_runs {P : Program} {w : World} {ops : Array Oper} {rest : List Oper} {o : Oper} {a : Act} {Q : Exit → Act → World → Prop} (hgd : o.guard = none) (s x : Operand) (t : TypeId)
    (ho : o.op = .call { callee := .builtin .append, args := #[s, x], argTypes := #[t, t] }) (vs vx : Value) (hs : a.eval s = vs) (hx : a.eval x = vx)
    {v' : Value} {w' : World} (hr : (Builtin.append_ #[t, t] o.type #[vs, vx]).run P w = .ok v' w') (h : wpList P ops Q rest (a.put o.dst v') w') : wpList P ops Q (o :: rest) a w := by
  refine wpList_plain hgd fun K hK => ?_
  unfold Oper.wp execOp
  simp only [ho, resolve, invoke, builtin, Sem.run_bind, Sem.run_pure, Result.andThen_ok, List.map_toArray, List.map_cons, List.map_nil, hs, hx, hr]
  exact hK _ _ h
theorem addR (g o j : Nat) : (⟨g, o, none⟩ : Addr).add j = ⟨g, o + j, none⟩ := by unfold Addr.add; split <;> simp_all
/-- Where the part of a list behind k begins. -/
def fromR (p : Option Addr) (cap k : Nat) : Option Addr := if cap = k then p else p.map (·.add (k * 9))
theorem sliceR_upto (p : Option Addr) (n cap k : Nat) (x : Int) (hx : x = k) (hk : k ≤ cap) (w : World) : (Instr.slice 28 (.slice p n cap) none (some (.int .i64 x)) none).run Try.prog w = .ok (.slice (fromR p cap 0) k cap) w := by
  subst hx
  have hb := run_sliceBound (P := Try.prog) w .i64 (k : Int) cap .sliceAcap (by omega) (by omega)
  unfold Instr.slice Instr.sliceBounds
  simp [Sem.run_bind, run_underlying Try.underlying28, hb, fromR]
theorem sliceR_from (p : Option Addr) (n cap k : Nat) (x : Int) (hx : x = k) (hk : k ≤ n) (w : World) : (Instr.slice 28 (.slice p n cap) (some (.int .i64 x)) none none).run Try.prog w = .ok (.slice (fromR p cap k) (n - k) (cap - k)) w := by
  subst hx
  have hb := run_sliceBound (P := Try.prog) w .i64 (k : Int) n .sliceB (by omega) (by omega)
  unfold Instr.slice Instr.sliceBounds
  simp [Sem.run_bind, run_underlying Try.underlying28, hb, fromR]
theorem fromR_none {p : Option Addr} {cap k : Nat} {rs : List Rt} (hc : p = none → cap = 0) (h : p = none → rs = []) : fromR p cap k = none → rs.drop k = [] ∧ cap - k = 0 := by
  intro e
  have hp : p = none := by
    unfold fromR at e
    split at e
    · exact e
    · simpa using e
  have := hc hp
  exact ⟨by rw [h hp]; simp, by omega⟩
theorem rtsIn_none {w : World} {p : Option Addr} {rs : List Rt} (h : RtsIn w p rs) : p = none → rs = [] := by
  rintro rfl
  rcases h with h | ⟨g, e, _⟩
  · exact h
  · cases e
theorem fromR_cells {w : World} {p : Option Addr} {cap k : Nat} {rs : List Rt} (h : RtsIn w p rs) (hl : rs.length ≤ cap) : ∀ ad, fromR p cap k = some ad → ∀ j u, (rowR (rs.drop k))[j]? = some u → w.cell? (ad.add j) = some u := by
  intro ad e j u hj
  rcases h with rfl | ⟨g, rfl, hg, hc⟩
  · simp [rowR] at hj
  · have hj9 : j < 9 * (rs.length - k) := by
      have := (List.getElem?_eq_some_iff.1 hj).1
      rw [rowR_length, List.length_drop] at this
      exact this
    unfold fromR at e
    rw [if_neg (by omega)] at e
    simp only [Option.map_some, Option.some.injEq] at e
    subst e
    have ea : ((⟨g, 0, none⟩ : Addr).add (k * 9)).add j = ⟨g, k * 9 + j, none⟩ := by rw [addR, addR, Nat.zero_add]
    rw [ea]
    refine hc _ _ ?_
    rw [← hj, ← List.take_append_drop k rs, rowR_append, List.take_append_drop, List.getElem?_append_right (by rw [rowR_length, List.length_take]; omega), rowR_length, List.length_take]
    congr 1
    omega
theorem fromR_upto {w : World} {p : Option Addr} {cap k : Nat} {rs : List Rt} (h : RtsIn w p rs) : ∀ ad, fromR p cap 0 = some ad → ∀ j u, (rowR (rs.take k))[j]? = some u → w.cell? (ad.add j) = some u := by
  intro ad e j u hj
  rcases h with rfl | ⟨g, rfl, hg, hc⟩
  · simp [rowR] at hj
  · have e' : ad = ⟨g, 0, none⟩ := by
      unfold fromR at e
      split at e
      · simpa using e.symm
      · simp only [Option.map_some, Option.some.injEq] at e
        rw [← e]; unfold Addr.add; split <;> simp_all
    subst e'
    have ea : (⟨g, 0, none⟩ : Addr).add j = ⟨g, j, none⟩ := by unfold Addr.add; split <;> simp_all
    rw [ea]
    refine hc _ _ ?_
    rw [← hj, ← List.take_append_drop k rs, rowR_append, List.take_append_drop]
    rw [List.getElem?_append_left (List.getElem?_eq_some_iff.1 hj).1]
end Go.Proofs.Ytaledidomgelcaa
/- The order of nets, as the program's sort asks for it. -/
namespace Go.Proofs.Ytaledidomgelcaa
open Go.RowKit Go.Sort

/-- What netOrder tells of two nets. -/
def cmpN (x y : Int × Int) : Int := if lessB x.1 x.2 y.1 y.2 = true then -1 else if lessB y.1 y.2 x.1 x.2 = true then 1 else 0
def pairV (x : Int × Int) : Value := .agg #[.int .i64 x.1, .int .i64 x.2]
set_option maxRecDepth 100000 in
theorem netOrder_any (a l b m : Int) (w : World) : Calls Try.prog 82 #[.agg #[.int .i64 a, .int .i64 l], .agg #[.int .i64 b, .int .i64 m]] w fun e w' => e = .returned (.int .i64 (cmpN (a, l) (b, m))) ∧ Below w.heap.size w w' := by
  have H1 : Hid (∀ w, Calls Try.prog 80 #[.agg #[.int .i64 a, .int .i64 l], .agg #[.int .i64 b, .int .i64 m]] w fun e w' => e = .returned (.bool (lessB a l b m)) ∧ Below w.heap.size w w') := implLess_any a l b m
  have H2 : Hid (∀ w, Calls Try.prog 80 #[.agg #[.int .i64 b, .int .i64 m], .agg #[.int .i64 a, .int .i64 l]] w fun e w' => e = .returned (.bool (lessB b m a l)) ∧ Below w.heap.size w w') := implLess_any b m a l
  have HC : Hid (cmpN (a, l) (b, m) = if lessB a l b m = true then -1 else if lessB b m a l = true then 1 else 0) := rfl
  generalize cmpN (a, l) (b, m) = R at *
  generalize lessB a l b m = X at *
  generalize lessB b m a l = Y at *
  go_enter Try.func82, Try.ntmps82
  go_wp2_with fail
  refine (H1.out _).mono ?_
  rintro e w1 ⟨rfl, hb1⟩
  obtain ⟨c0, c1, c2, c3, hs1, hB1⟩ := four_later hb1
  clear hb1 H1
  cases X
  · go_wp2_with fail
    refine (H2.out _).mono ?_
    rintro e w2 ⟨rfl, hb2⟩
    have hB2 := hB1.trans (hb2.mono hB1.size)
    clear c0 c1 c2 c3 hb2
    cases Y
    · have HR : Hid (R = 0) := HC.out
      clear HC
      go_wp2
      go_ret
      exact ⟨by rw [HR.out]; rfl, hB2⟩
    · have HR : Hid (R = 1) := HC.out
      clear HC
      go_wp2
      go_ret
      exact ⟨by rw [HR.out]; rfl, hB2⟩
  · have HR : Hid (R = -1) := HC.out
    clear HC
    go_wp2
    go_ret
    exact ⟨by rw [HR.out]; rfl, hB1⟩
end Go.Proofs.Ytaledidomgelcaa
/- Nets in a row of memory, and their order, in plain lists. (Written by gen_ins.py.) -/
namespace Go.Proofs.Ytaledidomgelcaa
open Go.RowKit Go.Sort

abbrev NP := Int × Int
def flatN (ds : List NP) : List Value := ds.flatMap fun x => [.int .i64 x.1, .int .i64 x.2]
theorem flatN_length (ds : List NP) : (flatN ds).length = 2 * ds.length := by
  induction ds with
  | nil => rfl
  | cons x ds ih => simp only [flatN, List.flatMap_cons, List.length_append, List.length_cons, List.length_nil] at ih ⊢; omega
theorem flatN_get (ds : List NP) (i : Nat) (hi : i < ds.length) : (flatN ds)[i * 2]? = some (.int .i64 ds[i].1) ∧ (flatN ds)[i * 2 + 1]? = some (.int .i64 ds[i].2) := by
  induction ds generalizing i with
  | nil => simp at hi
  | cons x ds ih =>
    match i with
    | 0 => exact ⟨rfl, rfl⟩
    | i + 1 =>
      have := ih i (by simpa using hi)
      have e : flatN (x :: ds) = .int .i64 x.1 :: .int .i64 x.2 :: flatN ds := rfl
      rw [e, show (i + 1) * 2 = i * 2 + 1 + 1 by omega]
      exact this
theorem flatN_set (ds : List NP) (i : Nat) (hi : i < ds.length) (y : NP) : ((flatN ds).set (i * 2) (.int .i64 y.1)).set (i * 2 + 1) (.int .i64 y.2) = flatN (ds.set i y) := by
  induction ds generalizing i with
  | nil => simp at hi
  | cons x ds ih =>
    have e : ∀ (z : NP) zs, flatN (z :: zs) = .int .i64 z.1 :: .int .i64 z.2 :: flatN zs := fun _ _ => rfl
    match i with
    | 0 => rfl
    | i + 1 =>
      rw [List.set_cons_succ, e, e, show (i + 1) * 2 = i * 2 + 1 + 1 by omega, show i * 2 + 1 + 1 + 1 = (i * 2 + 1) + 1 + 1 by omega]
      simp only [List.set_cons_succ]
      rw [ih i (by simpa using hi)]
/-- Block g begins with the nets ds. -/
def NetsAt (w : World) (g : Nat) (ds : List NP) : Prop := ∃ cur, Row w g 35 cur ∧ cur.take (2 * ds.length) = flatN ds
theorem NetsAt.lt {w : World} {g : Nat} {ds : List NP} (h : NetsAt w g ds) : g < w.heap.size := by
  obtain ⟨cur, h, _⟩ := h
  exact h.lt
theorem NetsAt.below {B : Nat} {w w' : World} {g : Nat} {ds : List NP} (h : NetsAt w g ds) (hb : Below B w w') (hg : g < B) : NetsAt w' g ds := by
  obtain ⟨cur, h, e⟩ := h
  exact ⟨cur, h.below hb hg, e⟩
theorem NetsAt.cell {w : World} {g : Nat} {ds : List NP} (h : NetsAt w g ds) (i : Nat) (hi : i < ds.length) : w.cell? ⟨g, i * 2, none⟩ = some (.int .i64 ds[i].1) ∧ w.cell? ⟨g, i * 2 + 1, none⟩ = some (.int .i64 ds[i].2) ∧ w.frozen? ⟨g, i * 2, none⟩ = false ∧ w.frozen? ⟨g, i * 2 + 1, none⟩ = false := by
  obtain ⟨cur, h, e⟩ := h
  have hk : ∀ k, k < 2 * ds.length → cur[k]? = (flatN ds)[k]? := fun k hk => by rw [← e, List.getElem?_take, if_pos hk]
  obtain ⟨h0, h1⟩ := flatN_get ds i hi
  exact ⟨by rw [h.cell, hk _ (by omega)]; exact h0, by rw [h.cell, hk _ (by omega)]; exact h1, h.frozen _, h.frozen _⟩
theorem NetsAt.set {w : World} {g : Nat} {ds : List NP} (h : NetsAt w g ds) (i : Nat) (hi : i < ds.length) (y : NP) : NetsAt ((w.setCell ⟨g, i * 2, none⟩ (.int .i64 y.1)).setCell ⟨g, i * 2 + 1, none⟩ (.int .i64 y.2)) g (ds.set i y) := by
  obtain ⟨cur, h, e⟩ := h
  refine ⟨_, (h.set (i * 2) _).set (i * 2 + 1) _, ?_⟩
  rw [List.length_set, List.take_set, List.take_set, e]
  exact flatN_set ds i hi y
/-- Two of them change places. -/
def swapN (ds : List NP) (j : Nat) : List NP := (ds.set j ds[j - 1]!).set (j - 1) ds[j]!
theorem swapN_length (ds : List NP) (j : Nat) : (swapN ds j).length = ds.length := by simp [swapN]
theorem swapN_get (ds : List NP) (j : Nat) (h0 : 0 < j) (hj : j < ds.length) (k : Nat) (hk : k < ds.length) : (swapN ds j)[k]! = if k = j then ds[j - 1]! else if k = j - 1 then ds[j]! else ds[k]! := by
  unfold swapN
  have hk' : k < ((ds.set j ds[j - 1]!).set (j - 1) ds[j]!).length := by simp; exact hk
  rw [getElem!_pos _ k hk', getElem!_pos ds k hk, List.getElem_set, List.getElem_set]
  by_cases h1 : k = j
  · subst h1
    rw [if_neg (by omega), if_pos rfl, if_pos rfl]
  · rw [if_neg h1]
    by_cases h2 : k = j - 1
    · subst h2; rw [if_pos rfl, if_pos rfl]
    · rw [if_neg (fun e => h2 e.symm), if_neg (fun e => h1 e.symm), if_neg h2]
theorem swapN_perm (ds : List NP) (j : Nat) (h0 : 0 < j) (hj : j < ds.length) : (swapN ds j).Perm ds := by
  unfold swapN
  rw [getElem!_pos ds (j - 1) (by omega), getElem!_pos ds j hj]
  exact List.set_set_perm hj (by omega)
/-- x comes ahead of y. -/
def ahead (x y : NP) : Bool := decide (cmpN x y < 0)
theorem ahead_iff (x y : NP) : ahead x y = lessB x.1 x.2 y.1 y.2 := by
  unfold ahead cmpN
  cases lessB x.1 x.2 y.1 y.2 <;> cases lessB y.1 y.2 x.1 x.2 <;> rfl
theorem ahead_asym {x y : NP} (h : ahead x y = true) : ahead y x = false := by
  rw [ahead_iff] at h ⊢
  unfold lessB at h ⊢
  simp only [Bool.and_eq_true, Bool.or_eq_true, decide_eq_true_eq, beq_iff_eq] at h
  obtain ⟨_, _, h⟩ := h
  have : (decide (y.1 < x.1) || (y.1 == x.1 && decide (y.2 < x.2))) = false := by
    rw [Bool.or_eq_false_iff, Bool.and_eq_false_iff]
    simp only [decide_eq_false_iff_not, beq_eq_false_iff_ne, ne_eq]
    omega
  rw [this]; simp
/-- In order up to k. -/
def Risen (ds : List NP) (k : Nat) : Prop := ∀ p, p + 1 < k → ahead ds[p + 1]! ds[p]! = false
/-- In order up to i, but for the one at j on its way. -/
def Going (ds : List NP) (i j : Nat) : Prop := j ≤ i ∧ (∀ p, p + 1 ≤ i → p + 1 ≠ j → ahead ds[p + 1]! ds[p]! = false) ∧ (0 < j → j < i → ahead ds[j + 1]! ds[j - 1]! = false)
theorem going_first {ds : List NP} {i : Nat} (h : Risen ds i) : Going ds i i := ⟨Nat.le_refl _, fun p hp hne => h p (by omega), fun _ h => absurd h (by omega)⟩
theorem going_end {ds : List NP} {i j : Nat} (h : Going ds i j) (he : j = 0 ∨ ahead ds[j]! ds[j - 1]! = false) : Risen ds (i + 1) := by
  intro p hp
  by_cases hpj : p + 1 = j
  · subst hpj
    rcases he with he | he
    · omega
    · simpa using he
  · exact h.2.1 p (by omega) hpj
theorem going_next {ds : List NP} {i j : Nat} (hi : i < ds.length) (h0 : 0 < j) (h : Going ds i j) (ha : ahead ds[j]! ds[j - 1]! = true) : Going (swapN ds j) i (j - 1) := by
  obtain ⟨hj, h1, h2⟩ := h
  have g := fun k (hk : k < ds.length) => swapN_get ds j h0 (by omega) k hk
  refine ⟨by omega, fun p hp hne => ?_, fun hj1 _ => ?_⟩
  · rw [g (p + 1) (by omega), g p (by omega)]
    by_cases e1 : p + 1 = j
    · rw [if_pos e1, if_neg (by omega), if_pos (by omega)]
      exact ahead_asym ha
    · rw [if_neg e1, if_neg hne]
      by_cases e2 : p = j
      · subst e2
        rw [if_pos rfl]
        exact h2 h0 (by omega)
      · rw [if_neg e2]
        by_cases e3 : p = j - 1
        · omega
        · rw [if_neg e3]
          exact h1 p hp e1
  · rw [show j - 1 + 1 = j by omega, g j (by omega), g (j - 1 - 1) (by omega), if_pos rfl, if_neg (by omega), if_neg (by omega)]
    have := h1 (j - 1 - 1) (by omega) (by omega)
    rwa [show j - 1 - 1 + 1 = j - 1 by omega] at this
end Go.Proofs.Ytaledidomgelcaa
/- A range over a map of routes: which nets have come. -/
namespace Go.Proofs.Ytaledidomgelcaa
open Go.RowKit Go.Sort

def netOfR (r : Rt) : NP := (r.a, r.l)
def bornAt (es : List MapEntry) (i : Nat) : Nat := (es[i]?.map (·.born)).getD 0
theorem bornAt_get {es : List MapEntry} {i : Nat} {e : MapEntry} (h : es[i]? = some e) : bornAt es i = e.born := by simp [bornAt, h]
theorem bornAt_inj {es : List MapEntry} (hp : (es.map (·.born)).Pairwise (· < ·)) {i j : Nat} (hi : i < es.length) (hj : j < es.length) (h : bornAt es i = bornAt es j) : i = j := by
  rw [bornAt_get (List.getElem?_eq_getElem hi), bornAt_get (List.getElem?_eq_getElem hj)] at h
  have hq := List.pairwise_iff_getElem.1 hp
  rcases Nat.lt_trichotomy i j with h' | h' | h'
  · have := hq i j (by simpa using hi) (by simpa using hj) h'
    simp only [List.getElem_map] at this
    omega
  · exact h'
  · have := hq j i (by simpa using hj) (by simpa using hi) h'
    simp only [List.getElem_map] at this
    omega
theorem nodup_bound : ∀ (n : Nat) (l : List Nat), l.Nodup → (∀ x ∈ l, x < n) → l.length ≤ n
  | 0, l, _, h => by
    cases l with
    | nil => simp
    | cons x l => exact absurd (h x (by simp)) (by omega)
  | n + 1, l, hd, h => by
    by_cases hm : n ∈ l
    · have h1 := nodup_bound n (l.erase n) (hd.erase n) (fun x hx => by
        rw [hd.mem_erase_iff] at hx
        have := h x hx.2
        omega)
      rw [List.length_erase_of_mem hm] at h1
      have : 0 < l.length := List.length_pos_of_mem hm
      omega
    · have h1 := nodup_bound n l hd (fun x hx => by
        have := h x hx
        have : x ≠ n := fun e => hm (e ▸ hx)
        omega)
      omega
/-- Block r is a range over the map in block b, which holds rs; the nets got have come. -/
def Rng (w : World) (b r : Nat) (rs : List Rt) (got : List NP) : Prop := ∃ (es : Array MapEntry) (clock : Nat) (seen : Array Nat) (ix : List Nat), w.heap[b]? = some (.map es clock) ∧ Holds es.toList rs ∧ (es.toList.map (·.born)).Pairwise (· < ·) ∧ (∀ e ∈ es.toList, e.born < clock) ∧ w.heap[r]? = some (.mapIter (some b) clock seen clock) ∧
  ix.Nodup ∧ (∀ i ∈ ix, i < rs.length) ∧ seen.toList = ix.map (bornAt es.toList) ∧ got = ix.map fun i => netOfR rs[i]!
theorem Rng.map {w : World} {b r : Nat} {rs : List Rt} {got : List NP} (h : Rng w b r rs got) : MapIs w b rs := by
  obtain ⟨es, clock, seen, ix, h1, h2, h3, h4, _⟩ := h
  exact ⟨es, clock, h1, h2, h3, h4⟩
theorem Rng.kept {w w' : World} {b r : Nat} {rs : List Rt} {got : List NP} (h : Rng w b r rs got) (hb : ∀ o, w.heap[b]? = some o → w'.heap[b]? = some o) (hr : ∀ m s c t, w.heap[r]? = some (.mapIter m s c t) → w'.heap[r]? = some (.mapIter m s c t)) : Rng w' b r rs got := by
  obtain ⟨es, clock, seen, ix, h1, h2, h3, h4, h5, h6⟩ := h
  exact ⟨es, clock, seen, ix, hb _ h1, h2, h3, h4, hr _ _ _ _ h5, h6⟩
theorem range_run {w : World} {b : Nat} {rs : List Rt} (h : MapIs w b rs) : ∃ w', (Instr.range 79 (.map (some b))).run Try.prog w = .ok (.pointer (some ⟨w.heap.size, 0, none⟩)) w' ∧ Rng w' b w.heap.size rs [] ∧ w.grownBy w' none ∧ w'.heap.size = w.heap.size + 1 := by
  have hlt := h.lt
  obtain ⟨es, clock, hb, hh, hp, hc⟩ := h
  refine ⟨w.alloc (.mapIter (some b) clock #[] clock), ?_, ⟨es, clock, #[], [], ?_, hh, hp, hc, heap_alloc_new w _, List.nodup_nil, by simp, rfl, rfl⟩, World.grownBy_alloc w _ none, by simp⟩
  · unfold Instr.range
    simp only [Sem.run_bind, run_underlying mapUnd, Result.andThen_ok, MapKept.run_getObj_map hb, Sem.run_pure]
    rfl
  · exact (Below.heap_alloc w _ b hlt).trans hb
theorem rng_next {w : World} {b r : Nat} {rs : List Rt} {got : List NP} (h : Rng w b r rs got) (hne : b ≠ r) (ty : TypeId) :
    (got.Perm (rs.map netOfR) ∧ (Instr.next (.pointer (some ⟨r, 0, none⟩)) false ty).run Try.prog w = .ok (.tuple #[.bool false]) w) ∨
    ∃ x v w', (Instr.next (.pointer (some ⟨r, 0, none⟩)) false ty).run Try.prog w = .ok (.tuple #[.bool true, netV x.1 x.2, v]) w' ∧ Rng w' b r rs (got ++ [x]) ∧ w.grownBy w' (some r) ∧ w'.heap.size = w.heap.size ∧ got.length < rs.length ∧ (Instr.entry (.pointer (some ⟨r, 0, none⟩))).run Try.prog w' = .ok (.tuple #[netV x.1 x.2, v]) w' := by
  obtain ⟨es, clock, seen, ix, hb, hh, hp, hc, hr, hnd, hix, hseen, rfl⟩ := h
  have hlen := hh.nil_iff
  have hcon : ∀ i, i < rs.length → (seen.contains (bornAt es.toList i) = true ↔ i ∈ ix) := by
    intro i hi
    rw [Array.contains_iff_mem, ← Array.mem_toList_iff, hseen, List.mem_map]
    constructor
    · rintro ⟨j, hj, e⟩
      have := bornAt_inj hp (i := j) (j := i) (by have := hix j hj; omega) (by omega) e
      rwa [this] at hj
    · intro hi'
      exact ⟨i, hi', rfl⟩
  rcases run_next_at (P := Try.prog) w ty r b clock clock seen es clock hr hb hc (Nat.le_refl _) with ⟨h0, hrun⟩ | ⟨e, he, w1, hw1, hrun⟩
  · refine .inl ⟨?_, hrun⟩
    have hall : ∀ i, i < rs.length → i ∈ ix := by
      intro i hi
      by_cases hm : i ∈ ix
      · exact hm
      · exfalso
        have hne' : seen.contains (bornAt es.toList i) = false := by
          cases hcc : seen.contains (bornAt es.toList i) with
          | false => rfl
          | true => exact absurd ((hcon i hi).1 hcc) hm
        have hmem : es.toList[i]'(by omega) ∈ (leftOf es seen).toList := by
          unfold leftOf
          rw [Array.toList_filter, List.mem_filter]
          refine ⟨List.getElem_mem _, ?_⟩
          rw [bornAt_get (List.getElem?_eq_getElem (by omega))] at hne'
          rw [hne']
          rfl
        have : (leftOf es seen).toList = [] := List.length_eq_zero_iff.1 (by simpa using h0)
        rw [this] at hmem
        cases hmem
    have hperm : ix.Perm (List.range rs.length) := (List.perm_ext_iff_of_nodup hnd List.nodup_range).2 fun i => ⟨fun hi => List.mem_range.2 (hix i hi), fun hi => hall i (List.mem_range.1 hi)⟩
    have e2 : (List.range rs.length).map (fun i => netOfR rs[i]!) = rs.map netOfR := by
      apply List.ext_getElem (by simp)
      intro i h1 h2
      simp only [List.length_map, List.length_range] at h1
      simp [h1]
    rw [← e2]
    exact hperm.map _
  · have hmem : e ∈ es.toList ∧ seen.contains e.born = false := by
      unfold leftOf at he
      rw [Array.toList_filter, List.mem_filter] at he
      exact ⟨he.1, by simpa using he.2⟩
    obtain ⟨i, hi, hei⟩ := List.mem_iff_getElem.1 hmem.1
    have hi' : i < rs.length := by omega
    have hg : es.toList[i]? = some e := by rw [List.getElem?_eq_getElem hi, hei]
    have hni : i ∉ ix := fun hm => by
      have := (hcon i hi').2 hm
      rw [bornAt_get hg, hmem.2] at this
      cases this
    obtain ⟨e', he', hk, hv⟩ := hh.get i hi'
    rw [hg] at he'
    obtain rfl : e = e' := by simpa using he'
    have hx : netOfR rs[i]! = (rs[i].a, rs[i].l) := by rw [getElem!_pos rs i hi']; rfl
    have hrl : r < w.heap.size := (Array.getElem?_eq_some_iff.1 hr).1
    have hb1 : w1.heap = w.heap := by rcases hw1 with rfl | rfl <;> rfl
    have hset : (ChangeMaps.setBlock w1 r (.mapIter (some b) clock (seen.push e.born) clock)).heap = w.heap.setIfInBounds r (.mapIter (some b) clock (seen.push e.born) clock) := by simp [ChangeMaps.setBlock, hb1]
    have hrb : (ChangeMaps.setBlock w1 r (.mapIter (some b) clock (seen.push e.born) clock)).heap[r]? = some (.mapIter (some b) clock (seen.push e.born) clock) := by rw [hset]; simp [hrl]
    have hbb : (ChangeMaps.setBlock w1 r (.mapIter (some b) clock (seen.push e.born) clock)).heap[b]? = some (.map es clock) := by rw [hset, Array.getElem?_setIfInBounds_ne hne.symm]; exact hb
    refine .inr ⟨netOfR rs[i]!, e.val, _, ?_, ⟨es, clock, seen.push e.born, ix ++ [i], hbb, hh, hp, hc, hrb, ?_, ?_, ?_, ?_⟩, ?_, ?_, ?_, ?_⟩
    · rw [hrun, hk, hx]
    · rw [List.nodup_append]
      exact ⟨hnd, by simp, fun p hpm q hq => by simp only [List.mem_singleton] at hq; exact fun e => hni (hq ▸ e ▸ hpm)⟩
    · intro j hj
      simp only [List.mem_append, List.mem_singleton] at hj
      rcases hj with hj | rfl
      · exact hix j hj
      · exact hi'
    · rw [Array.toList_push, hseen, List.map_append, List.map_cons, List.map_nil, bornAt_get hg]
    · rw [List.map_append]; rfl
    · refine ⟨?_, ?_, ?_, by rw [hset]; simp, fun k _ hk => ?_⟩
      · rcases hw1 with rfl | rfl <;> rfl
      · rcases hw1 with rfl | rfl <;> rfl
      · rcases hw1 with rfl | rfl <;> rfl
      · rw [hset, Array.getElem?_setIfInBounds_ne (by intro e; exact hk (by rw [e]))]
    · rw [hset]; simp
    · rw [List.length_map]
      have h1 := nodup_bound rs.length (ix ++ [i]) (by
        rw [List.nodup_append]
        exact ⟨hnd, by simp, fun p hpm q hq => by simp only [List.mem_singleton] at hq; exact fun e => hni (hq ▸ e ▸ hpm)⟩) (fun j hj => by
          simp only [List.mem_append, List.mem_singleton] at hj
          rcases hj with hj | rfl
          · exact hix j hj
          · exact hi')
      simp at h1
      omega
    · rw [hx, ← hk]
      exact run_entry_at _ r b clock seen es clock e hrb hbb hmem.1 (by
        have := hp
        exact this.imp (fun h => by omega))
end Go.Proofs.Ytaledidomgelcaa
/- maps.Keys of a map of routes: its iterator. -/
namespace Go.Proofs.Ytaledidomgelcaa
open Go.RowKit Go.Sort Go.Shelf
attribute [local go_sem] Oper.semAt_some

/-- How many have come. -/
def seenN (w : World) (r : Nat) : Nat := match w.heap[r]? with | some (.mapIter _ _ s _) => s.size | _ => 0
theorem Rng.seen {w : World} {b r : Nat} {rs : List Rt} {got : List NP} (h : Rng w b r rs got) : seenN w r = got.length := by
  obtain ⟨es, clock, seen, ix, _, _, _, _, hr, _, _, hs, hg⟩ := h
  unfold seenN
  rw [hr]
  show seen.size = got.length
  rw [hg, List.length_map, ← Array.length_toList, hs, List.length_map]
theorem Rng.walks {w w' : World} {b r : Nat} {rs : List Rt} {got : List NP} (h : Rng w b r rs got) (hk : KeepsWalks w w') : Rng w' b r rs got := by
  obtain ⟨es, clock, seen, ix, h1, h2, h3, h4, h5, h6⟩ := h
  exact ⟨es, clock, seen, ix, hk.same b _ h1 rfl, h2, h3, h4, hk.same r _ h5 rfl, h6⟩
theorem Rng.alloc {w : World} {b r : Nat} {rs : List Rt} {got : List NP} (h : Rng w b r rs got) (o : Obj) : Rng (w.alloc o) b r rs got := by
  obtain ⟨es, clock, seen, ix, h1, h2, h3, h4, h5, h6⟩ := h
  exact ⟨es, clock, seen, ix, (Below.heap_alloc w o b (Array.getElem?_eq_some_iff.1 h1).1).trans h1, h2, h3, h4, (Below.heap_alloc w o r (Array.getElem?_eq_some_iff.1 h5).1).trans h5, h6⟩
theorem Rng.iter {w : World} {b r : Nat} {rs : List Rt} {got : List NP} (h : Rng w b r rs got) : ∃ o : Obj, w.heap[r]? = some o ∧ o.isWalk = true := by
  obtain ⟨es, clock, seen, ix, _, _, _, _, hr, _⟩ := h
  exact ⟨_, hr, rfl⟩
set_option maxRecDepth 100000 in
set_option maxHeartbeats 1000000 in
/-- The nets come, each once, in some order; or a round says no more. -/
theorem keys1_in (F : Fence) (n : Nat) (hf : F.fn 109) (hro : F.round = none) (hn : 1 ≤ n) (l Bm b : Nat) (rs : List Rt) (J Jx : List NP → World → Prop)
    (hY : ∀ pre x W, J pre W → pre.length < rs.length → YieldAt F (n - 1) Try.prog l #[netV x.1 x.2] W fun e W' =>
      (e = .returned (.bool true) ∧ J (pre ++ [x]) W' ∧ KeepsWalks W W') ∨ (e = .returned (.bool false) ∧ Jx (pre ++ [x]) W'))
    (W : World) (hJ : AbidesFrom W.heap.size J) (hm : W.cell? ⟨Bm, 0, none⟩ = some (.map (some b))) (hM : MapIs W b rs) (h0 : J [] W) :
    CallsIn F n Try.prog 109 #[.func (.yield l) #[] #[], .pointer (some ⟨Bm, 0, none⟩)] W fun e W' => (∃ v, e = .returned v) ∧
      ((∃ xs : List NP, xs.Perm (rs.map netOfR) ∧ J xs W') ∨ (∃ pre : List NP, True ∧ Jx pre W')) := by
  obtain ⟨w0, hrun0, hrg0, hg0, hs0⟩ := range_run hM
  have hbl := hM.lt
  refine callsIn_of_wp Try.func109 rfl hf ?_ hro
  simp only [Try.ntmps109, List.size_toArray, List.length_cons, List.length_nil, Nat.reduceAdd, Nat.reduceSub, Array.replicate_succ, Array.replicate_zero, List.push_toArray, List.append_toArray, List.nil_append, List.cons_append]
  gi_wp2
  have hne : b ≠ W.heap.size := by omega
  clear hrun0
  gi_loopw [3] (fun _ wr => ∃ got : List NP, Rng wr b W.heap.size rs got ∧ J got wr) (fun _ wr => rs.length - seenN wr W.heap.size)
  case atStart => exact ⟨[], hrg0, hJ [] W w0 none h0 hg0 (fun r e => by cases e)⟩
  case round =>
    obtain ⟨got, hrg, hJs⟩ := hrel
    rcases rng_next hrg hne 0 with ⟨hP, hrun⟩ | ⟨x, v, w2, hrun, hrg2, hg2, hs2, hlt, hen⟩
    · gi_wp2
      go_end0
      exact ⟨⟨_, rfl⟩, .inl ⟨got, hP, hJs⟩⟩
    · have hJ2 : J got w2 := hJ got wr w2 (some W.heap.size) hJs hg2 (fun r e => by cases e; exact ⟨Nat.le_refl _, hrg.iter⟩)
      have hJ3 : J got (w2.alloc (.cells #[.int .i64 x.1, .int .i64 x.2] 35)) := hJ got w2 _ none hJ2 (World.grownBy_alloc w2 _ none) (fun r e => by cases e)
      have hrg3 : Rng (w2.alloc (.cells #[.int .i64 x.1, .int .i64 x.2] 35)) b W.heap.size rs (got ++ [x]) := hrg2.alloc _
      obtain ⟨fn, tmps, assign, body, hy, hR⟩ := hY got x _ hJ3 hlt
      have hold := hrg.seen
      clear hs2 hg2 hJ2 hrg2 hJ3
      obtain ⟨a, l'⟩ := x
      unfold netV at hrun hen hy
      simp only at hrun hen hy hR hrg3
      gi_wp2
      refine hR.mono ?_
      rintro e W3 (⟨rfl, hJ3, hk3⟩ | ⟨rfl, hJx3⟩)
      · have hrg4 := hrg3.walks hk3
        have hnew := hrg4.seen
        clear hrun hen hy
        gi_wp2
        go_roundw
        case rel => exact ⟨got ++ [(a, l')], hrg4, hJ3⟩
        case measure => rw [hnew, hold, List.length_append]; simp; omega
      · clear hrun hen hy
        gi_wp2
        refine bodyPost_ret (results_none rfl _ _ _) rfl ?_
        exact ⟨⟨_, rfl⟩, .inr ⟨got ++ [(a, l')], trivial, hJx3⟩⟩
end Go.Proofs.Ytaledidomgelcaa
/- slices.AppendSeq and Collect at nets, over maps.Keys. (Written by gen_appn.py.) -/
namespace Go.Proofs.Ytaledidomgelcaa
open Go.RowKit Go.Sort Go.Shelf
attribute [local go_sem] Oper.semAt_some

theorem cell_two_new (W : World) (a b : Value) (t : TypeId) : ∀ j u, [a, b][j]? = some u → (W.alloc (.cells #[a, b] t)).cell? ((⟨W.heap.size, 0, none⟩ : Addr).add j) = some u := by
  intro j u hj
  match j, hj with
  | 0, hj => cases hj; exact (Row.new W t [a, b]).cell 0
  | 1, hj => cases hj; exact (Row.new W t [a, b]).cell 1
  | j + 2, hj => simp at hj
theorem Try.infoNet : (Try.prog.info? 35).map (fun i => (i.zero, i.size, i.bytes)) = some (some (.agg #[.int .i64 0, .int .i64 0]), 2, 16) := by kernel_rfl
theorem keys_stops (F : Fence) (n : Nat) (hf : F.fn 109) (hro : F.round = none) (hn : 1 ≤ n) (Bm b : Nat) (rs : List Rt) (w : World) (hm : w.cell? ⟨Bm, 0, none⟩ = some (.map (some b))) (hM : MapIs w b rs) :
    SeqStopsK F n Try.prog 109 #[.pointer (some ⟨Bm, 0, none⟩)] (fun x : NP => #[netV x.1 x.2]) KeepsWalks (fun xs => xs.Perm (rs.map netOfR)) (fun _ => True) rs.length w := fun l J Jx W hW hJ _ hY h0 =>
  keys1_in F n hf hro hn l Bm b rs J Jx hY W hJ ((hW.cell (p := ⟨Bm, 0, none⟩) (World.block_lt_of_cell? w _ hm)).trans hm) (hM.below hW hM.lt) h0
set_option maxRecDepth 100000 in
set_option maxHeartbeats 2000000 in
theorem appendSeqN (Bm b : Nat) (rs : List Rt) (w : World) (h8 : rs.length ≤ 100) (hm : w.cell? ⟨Bm, 0, none⟩ = some (.map (some b))) (hM : MapIs w b rs) :
    Calls Try.prog 110 #[.slice none 0 0, .func (.func 109) #[] #[.pointer (some ⟨Bm, 0, none⟩)]] w fun e w' => ∃ v xs, e = .returned v ∧ xs.Perm (rs.map netOfR) ∧ w'.ownsRow w.heap.size 35 2 v xs.length (flatN xs) ∧ Below w.heap.size w w' := by
  refine (callsIn_wide (n := 9)).1 ?_
  refine callsIn_of_wp_marks Try.func110 rfl trivial ?_ rfl
  simp only [Try.ntmps110, List.size_toArray, List.length_cons, List.length_nil, Nat.reduceAdd, Nat.reduceSub, Array.replicate_succ, Array.replicate_zero, List.push_toArray, List.append_toArray, List.nil_append, List.cons_append]
  gi_wp2
  have bS := Boxed.new w 114 (.slice none 0 0)
  have hB0 : Below w.heap.size w (w.alloc (.cells #[.slice none 0 0] 114)) := ent_new0 w _
  have hm0 : (w.alloc (.cells #[.slice none 0 0] 114)).cell? ⟨Bm, 0, none⟩ = some (.map (some b)) := by rw [hB0.cell (p := ⟨Bm, 0, none⟩) (World.block_lt_of_cell? w _ hm)]; exact hm
  have hM0 := hM.below hB0 hM.lt
  have hs0 : (w.alloc (.cells #[.slice none 0 0] 114)).heap.size = w.heap.size + 1 := by simp
  obtain ⟨Z, hZ⟩ : ∃ Z, (w.alloc (.cells #[.slice none 0 0] 114)) = Z := ⟨_, rfl⟩
  rw [hZ] at bS hB0 hm0 hM0 hs0 ⊢
  clear hZ hm hM
  refine wpIn_rangeFunc_ownH rfl (by omega) (gf := 109) (lb := #[.pointer (some ⟨Bm, 0, none⟩)]) rfl trivial (enters_of Try.func109 (by kernel_rfl) rfl)
    (keys_stops Fence.wide (9 - 1) trivial rfl (by omega) Bm b rs Z hm0 hM0) walksK_t walksK_b (Below.refl _ _) (fun _ => rfl)
    (fun pre W => (∃ v, Boxed W w.heap.size 114 v ∧ W.ownsRow w.heap.size 35 2 v pre.length (flatN pre) ∧ True) ∧ Below w.heap.size w W)
    (fun _ _ _ => False)
    (OwnFrom.and (Own.from (holdsRow_own w.heap.size w.heap.size 114 35 2 (fun pre : List NP => pre.length) flatN (fun _ _ => True)) _) (ownFrom_below (Nat.le_refl _) (by omega)))
    (fun _ _ _ _ _ hs _ _ => hs)
    ⟨⟨_, bS, World.ownsRow_nil Z _ _ 2, trivial⟩, hB0⟩
    (fun x a' W => ∃ Bx, w.heap.size < Bx ∧ Row W Bx 35 [.int .i64 x.1, .int .i64 x.2] ∧ a' = { tmps := #[.slice none 0 0, .func (.func 109) #[] #[.pointer (some ⟨Bm, 0, none⟩)], .pointer (some ⟨w.heap.size, 0, none⟩), undef, .slice none 0 0, .pointer (some ⟨Bx, 0, none⟩), .func (.func 109) #[] #[.pointer (some ⟨Bm, 0, none⟩)], netV x.1 x.2, undef, undef, undef, undef, undef], defers := [] })
    (fun x a' _ X Y row hs hg hr => by
      obtain ⟨Bx, h1, h2, h3⟩ := hs
      refine ⟨Bx, h1, (hg.block Bx h2.lt (fun e => ?_)).trans h2, h3⟩
      obtain ⟨_, o, ho, hc⟩ := hr Bx e.symm
      rw [show X.heap[Bx]? = _ from h2] at ho
      cases ho
      cases hc)
    ?assign ?body ?done ?stop
  case assign =>
    rintro l pre x W K ⟨⟨v, bv, hv, -⟩, hB1⟩ hK
    obtain ⟨xa, xl⟩ := x
    unfold netV at hK ⊢
    simp only at hK ⊢
    gi_wp2
    exact hK _ _ ((KeepsOthers.alloc _ _).from _) (KeepsWalks.alloc _ _) ⟨⟨v, bv.alloc _, hv.alloc _, trivial⟩, hB1.alloc hB1.size _⟩ ⟨W.heap.size, bv.lt, Row.new W 35 [.int .i64 xa, .int .i64 xl], rfl⟩
  case body =>
    rintro l pre x a' W hl ⟨r, hr⟩ ⟨⟨v, bv, hv, -⟩, hB1⟩ ⟨Bx, hBx, hRx, rfl⟩ hlt
    obtain ⟨xa, xl⟩ := x
    unfold netV
    simp only at hRx ⊢
    have c0 := bv.cell
    have x0 : W.cell? ⟨Bx, 0, none⟩ = some (.int .i64 xa) := hRx.cell 0
    have x1 : W.cell? ⟨Bx, 1, none⟩ = some (.int .i64 xl) := hRx.cell 1
    obtain ⟨i0, hi0, hz0, hz1, hz2⟩ := info_parts Try.infoNet
    gi_wp2_with (gi_at_builtin; refine wpListIn_append_own _ rfl _ _ 114 rfl w.heap.size 35 i0 (.agg #[.int .i64 0, .int .i64 0]) 2 16 Try.underlying114 hi0 hz0 hz1 hz2 rfl (by decide) _ _ _ rfl (hv.alloc _) ⟨W.heap.size, 0, none⟩ 1 1 [.int .i64 xa, .int .i64 xl] rfl rfl (cell_two_new W _ _ _) (by simp [Value.oneCell']) (by unfold maxLen; omega) (by omega) (by have := hB1.size; simp; omega) ?_; intro v' w1 hown' hgrow _; obtain ⟨g', cap', rfl⟩ := ownsRow_succ hown'; obtain ⟨hv1, hv2, hr2, hk2, hb2⟩ := bv.appended (by decide) hv hB1.size (Nat.le_refl _) hown' hgrow; have hc1 := hv1.cell; have hf1 := hv1.frozen)
    refine ⟨hk2.from _, hk2.walks, ⟨_, hv2, ?_, trivial⟩, hB1.trans hb2⟩
    rw [List.length_append, show flatN (pre ++ [(xa, xl)]) = flatN pre ++ [.int .i64 xa, .int .i64 xl] by simp [flatN]]
    exact hr2
  case done =>
    rintro D xs W hD hS ⟨⟨v, bv, hv, -⟩, hB1⟩ hK
    have c0 := bv.cell
    gi_wp2
    refine ⟨by simp, .inl ⟨_, _, rfl, run_takeDeferred hK, ?_⟩⟩
    refine ⟨_, results_tmp rfl _ _ _, v, xs, rfl, hS, ownsRow_putObj hv _ hK rfl, ?_⟩
    exact hB1.trans (belowK_b (w := w) (Nat.le_refl _) W D _ _ (by omega) hK rfl rfl)
  case stop =>
    rintro D c pre W _ _ h _
    exact h.elim
set_option maxRecDepth 100000 in
theorem collectN (Bm b : Nat) (rs : List Rt) (w : World) (h8 : rs.length ≤ 100) (hm : w.cell? ⟨Bm, 0, none⟩ = some (.map (some b))) (hM : MapIs w b rs) :
    Calls Try.prog 107 #[.func (.func 109) #[] #[.pointer (some ⟨Bm, 0, none⟩)]] w fun e w' => ∃ v xs, e = .returned v ∧ xs.Perm (rs.map netOfR) ∧ w'.ownsRow w.heap.size 35 2 v xs.length (flatN xs) ∧ Below w.heap.size w w' := by
  have HA : Hid (Calls Try.prog 110 #[.slice none 0 0, .func (.func 109) #[] #[.pointer (some ⟨Bm, 0, none⟩)]] w fun e w' => ∃ v xs, e = .returned v ∧ xs.Perm (rs.map netOfR) ∧ w'.ownsRow w.heap.size 35 2 v xs.length (flatN xs) ∧ Below w.heap.size w w') := appendSeqN Bm b rs w h8 hm hM
  clear hm hM
  go_enter Try.func107, Try.ntmps107
  go_wp2_with fail
  refine (HA.out).mono ?_
  rintro e w1 ⟨v, xs, rfl, h1, h2, h3⟩
  go_wp2
  go_ret
  exact ⟨v, xs, rfl, h1, h2, h3⟩
end Go.Proofs.Ytaledidomgelcaa
