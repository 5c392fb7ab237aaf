/- Texts that stand on each other, in one file: AgainI, HeardI, MapF. -/
import Derived.Test.YtifckpncpjijiaaGreatPack23
import Derived.Test.YtifckpncpjijiaaGreatPack13
/- Routes that are told: by the program. (Written by gen_learn.py.) -/
namespace Go.Proofs.YtifckpncpjijiaaGreat
open Go.RowKit Go.Sort

theorem two_newL (w : World) (a b : Obj) : Below w.heap.size w ((w.alloc a).alloc b) := ((ent_new0 w a).alloc (by simp) b)
set_option maxRecDepth 100000 in
theorem fresh_any (r : Rt) (now : Int) (w : World) (h0 : 0 ≤ now) (h1 : now ≤ 999900) : Calls Tryz.prog 157 #[rtV r, .int .i64 now] w fun e w' => e = .returned (rtV (freshR r now)) ∧ Below w.heap.size w w' := by
  obtain ⟨a, l, m, n, ii, t, u, b, c⟩ := r
  unfold rtV rtA freshR
  simp only
  go_enter Tryz.func157, Tryz.ntmps157
  go_wp2_with fail
  exact bodyPost_ret (v := .agg #[.int .i64 a, .int .i64 l, .int .i64 m, .int .i64 n, .int .i64 ii, .int .i64 t, .int .i64 (now + 6), .int .i64 0, .bool true]) (by simp [results, Tryz.results157, go_sem]) rfl ⟨rfl, two_newL _ _ _⟩
set_option maxRecDepth 100000 in
set_option maxHeartbeats 4000000 in
theorem again_any (old r : Rt) (now : Int) (w : World) (h0 : 0 ≤ now) (h1 : now ≤ 999900) : Calls Tryz.prog 176 #[rtV old, rtV r, .int .i64 now] w fun e w' => e = .returned (rtV (againR old r now)) ∧ Below w.heap.size w w' := by
  have HF : Hid (∀ w, Calls Tryz.prog 157 #[rtV r, .int .i64 now] w fun e w' => e = .returned (rtV (freshR r now)) ∧ Below w.heap.size w w') := fun w => fresh_any r now w h0 h1
  have HD : Hid (∀ w, Calls Tryz.prog 163 #[rtV old, .int .i64 now] w fun e w' => e = .returned (rtV (reachR old now)) ∧ Below w.heap.size w w') := fun w => outOfReach_any old now w h0 h1
  clear h0 h1
  unfold againR
  by_cases hm : r.m = 16
  · rw [if_pos hm]
    clear HF
    generalize reachR old now = RR at *
    obtain ⟨A, L, M, O, I, T, U, E, C⟩ := old
    obtain ⟨a, l, m, n, ii, t, u, b, c⟩ := r
    obtain ⟨V0, V1, V2, V3, V4, V5, V6, V7, V8⟩ := RR
    unfold rtV rtA at *
    simp only at HD hm ⊢
    subst hm
    obtain ⟨W, hW, q0, q1, q2, hB, hS, -⟩ := rows3 w [.int .i64 A, .int .i64 L, .int .i64 M, .int .i64 O, .int .i64 I, .int .i64 T, .int .i64 U, .int .i64 E, .bool C] [.int .i64 a, .int .i64 l, .int .i64 16, .int .i64 n, .int .i64 ii, .int .i64 t, .int .i64 u, .int .i64 b, .bool c] [.int .i64 0, .int .i64 0, .int .i64 0, .int .i64 0, .int .i64 0, .int .i64 0, .int .i64 0, .int .i64 0, .bool false] 98 98 98
    have HW : Hid _ := hW
    have HQ : Hid _ := And.intro q0 (And.intro q1 (And.intro q2 hB))
    have x0 : W.cell? ⟨w.heap.size, 0, none⟩ = some (.int .i64 A) := q0.cell 0
    have x1 : W.cell? ⟨w.heap.size, 1, none⟩ = some (.int .i64 L) := q0.cell 1
    have x2 : W.cell? ⟨w.heap.size, 2, none⟩ = some (.int .i64 M) := q0.cell 2
    have x3 : W.cell? ⟨w.heap.size, 3, none⟩ = some (.int .i64 O) := q0.cell 3
    have x4 : W.cell? ⟨w.heap.size, 4, none⟩ = some (.int .i64 I) := q0.cell 4
    have x5 : W.cell? ⟨w.heap.size, 5, none⟩ = some (.int .i64 T) := q0.cell 5
    have x6 : W.cell? ⟨w.heap.size, 6, none⟩ = some (.int .i64 U) := q0.cell 6
    have x7 : W.cell? ⟨w.heap.size, 7, none⟩ = some (.int .i64 E) := q0.cell 7
    have x8 : W.cell? ⟨w.heap.size, 8, none⟩ = some (.bool C) := q0.cell 8
    have y0 : W.cell? ⟨w.heap.size + 1, 0, none⟩ = some (.int .i64 a) := q1.cell 0
    have y1 : W.cell? ⟨w.heap.size + 1, 1, none⟩ = some (.int .i64 l) := q1.cell 1
    have y2 : W.cell? ⟨w.heap.size + 1, 2, none⟩ = some (.int .i64 16) := q1.cell 2
    have y3 : W.cell? ⟨w.heap.size + 1, 3, none⟩ = some (.int .i64 n) := q1.cell 3
    have y4 : W.cell? ⟨w.heap.size + 1, 4, none⟩ = some (.int .i64 ii) := q1.cell 4
    have y5 : W.cell? ⟨w.heap.size + 1, 5, none⟩ = some (.int .i64 t) := q1.cell 5
    have y6 : W.cell? ⟨w.heap.size + 1, 6, none⟩ = some (.int .i64 u) := q1.cell 6
    have y7 : W.cell? ⟨w.heap.size + 1, 7, none⟩ = some (.int .i64 b) := q1.cell 7
    have y8 : W.cell? ⟨w.heap.size + 1, 8, none⟩ = some (.bool c) := q1.cell 8
    rw [hW] at x0 x1 x2 x3 x4 x5 x6 x7 x8 y0 y1 y2 y3 y4 y5 y6 y7 y8
    clear hW q0 q1 q2 hB
    go_enter Tryz.func176, Tryz.ntmps176
    go_wp2_with fail
    rw [← HW.out]
    obtain ⟨q0, q1, q2, hB⟩ := HQ.out
    clear HQ x0 x1 x2 x3 x4 x5 x6 x7 x8 y0 y1 y2 y3 y4 y5 y6 y7 y8
    refine (HD.out _).mono ?_
    rintro e w1 ⟨rfl, hb1⟩
    have q0 := q0.below hb1 (by omega)
    have q1 := q1.below hb1 (by omega)
    have q2 := q2.below hb1 (by omega)
    have hB := hB.trans (hb1.mono (by omega))
    have hs1 := hb1.size
    clear hb1
    have z0 : w1.cell? ⟨w.heap.size + 1 + 1, 0, none⟩ = some (.int .i64 0) := q2.cell 0
    have z1 : w1.cell? ⟨w.heap.size + 1 + 1, 1, none⟩ = some (.int .i64 0) := q2.cell 1
    have z2 : w1.cell? ⟨w.heap.size + 1 + 1, 2, none⟩ = some (.int .i64 0) := q2.cell 2
    have z3 : w1.cell? ⟨w.heap.size + 1 + 1, 3, none⟩ = some (.int .i64 0) := q2.cell 3
    have z4 : w1.cell? ⟨w.heap.size + 1 + 1, 4, none⟩ = some (.int .i64 0) := q2.cell 4
    have z5 : w1.cell? ⟨w.heap.size + 1 + 1, 5, none⟩ = some (.int .i64 0) := q2.cell 5
    have z6 : w1.cell? ⟨w.heap.size + 1 + 1, 6, none⟩ = some (.int .i64 0) := q2.cell 6
    have z7 : w1.cell? ⟨w.heap.size + 1 + 1, 7, none⟩ = some (.int .i64 0) := q2.cell 7
    have z8 : w1.cell? ⟨w.heap.size + 1 + 1, 8, none⟩ = some (.bool false) := q2.cell 8
    have f0 : w1.frozen? ⟨w.heap.size + 1 + 1, 0, none⟩ = false := q2.frozen 0
    have f1 : w1.frozen? ⟨w.heap.size + 1 + 1, 1, none⟩ = false := q2.frozen 1
    have f2 : w1.frozen? ⟨w.heap.size + 1 + 1, 2, none⟩ = false := q2.frozen 2
    have f3 : w1.frozen? ⟨w.heap.size + 1 + 1, 3, none⟩ = false := q2.frozen 3
    have f4 : w1.frozen? ⟨w.heap.size + 1 + 1, 4, none⟩ = false := q2.frozen 4
    have f5 : w1.frozen? ⟨w.heap.size + 1 + 1, 5, none⟩ = false := q2.frozen 5
    have f6 : w1.frozen? ⟨w.heap.size + 1 + 1, 6, none⟩ = false := q2.frozen 6
    have f7 : w1.frozen? ⟨w.heap.size + 1 + 1, 7, none⟩ = false := q2.frozen 7
    have f8 : w1.frozen? ⟨w.heap.size + 1 + 1, 8, none⟩ = false := q2.frozen 8
    have HE : Hid _ := And.intro (nine0_row q2 (.int .i64 V0) (.int .i64 V1) (.int .i64 V2) (.int .i64 V3) (.int .i64 V4) (.int .i64 V5) (.int .i64 V6) (.int .i64 V7) (.bool V8)) (nine0_below hB (w.heap.size + 1 + 1) (by omega) (.int .i64 V0) (.int .i64 V1) (.int .i64 V2) (.int .i64 V3) (.int .i64 V4) (.int .i64 V5) (.int .i64 V6) (.int .i64 V7) (.bool V8))
    clear q2 hB q0 q1 HD HW
    go_wp2_with fail
    have hF := HE.out
    clear HE z0 z1 z2 z3 z4 z5 z6 z7 z8 f0 f1 f2 f3 f4 f5 f6 f7 f8
    unfold nine0 at hF
    generalize (((((((((w1.setCell ⟨w.heap.size + 1 + 1, 0, none⟩ (.int .i64 V0)).setCell ⟨w.heap.size + 1 + 1, 1, none⟩ (.int .i64 V1)).setCell ⟨w.heap.size + 1 + 1, 2, none⟩ (.int .i64 V2)).setCell ⟨w.heap.size + 1 + 1, 3, none⟩ (.int .i64 V3)).setCell ⟨w.heap.size + 1 + 1, 4, none⟩ (.int .i64 V4)).setCell ⟨w.heap.size + 1 + 1, 5, none⟩ (.int .i64 V5)).setCell ⟨w.heap.size + 1 + 1, 6, none⟩ (.int .i64 V6)).setCell ⟨w.heap.size + 1 + 1, 7, none⟩ (.int .i64 V7)).setCell ⟨w.heap.size + 1 + 1, 8, none⟩ (.bool V8)) = Z at *
    obtain ⟨h1, h2⟩ := hF
    have e0 : Z.cell? ⟨w.heap.size + 1 + 1, 0, none⟩ = some (.int .i64 V0) := h1.cell 0
    have e1 : Z.cell? ⟨w.heap.size + 1 + 1, 1, none⟩ = some (.int .i64 V1) := h1.cell 1
    have e2 : Z.cell? ⟨w.heap.size + 1 + 1, 2, none⟩ = some (.int .i64 V2) := h1.cell 2
    have e3 : Z.cell? ⟨w.heap.size + 1 + 1, 3, none⟩ = some (.int .i64 V3) := h1.cell 3
    have e4 : Z.cell? ⟨w.heap.size + 1 + 1, 4, none⟩ = some (.int .i64 V4) := h1.cell 4
    have e5 : Z.cell? ⟨w.heap.size + 1 + 1, 5, none⟩ = some (.int .i64 V5) := h1.cell 5
    have e6 : Z.cell? ⟨w.heap.size + 1 + 1, 6, none⟩ = some (.int .i64 V6) := h1.cell 6
    have e7 : Z.cell? ⟨w.heap.size + 1 + 1, 7, none⟩ = some (.int .i64 V7) := h1.cell 7
    have e8 : Z.cell? ⟨w.heap.size + 1 + 1, 8, none⟩ = some (.bool V8) := h1.cell 8
    exact bodyPost_ret (v := .agg #[.int .i64 V0, .int .i64 V1, .int .i64 V2, .int .i64 V3, .int .i64 V4, .int .i64 V5, .int .i64 V6, .int .i64 V7, .bool V8]) (by simp [results, Tryz.results176, go_sem, e0, e1, e2, e3, e4, e5, e6, e7, e8]) rfl ⟨rfl, h2⟩
  · rw [if_neg hm]
    clear HD
    have d16 : decide (r.m = 16) = false := by simpa using hm
    unfold freshR at HF
    have hmk : markB old r = (old.c || (old.m != r.m || old.t != r.t)) := rfl
    generalize markB old r = MB at *
    obtain ⟨A, L, M, O, I, T, U, E, C⟩ := old
    obtain ⟨a, l, m, n, ii, t, u, b, c⟩ := r
    unfold rtV rtA at *
    simp only at HF hm hmk d16 ⊢
    have HMK : Hid _ := hmk
    clear hmk
    obtain ⟨W, hW, q0, q1, q2, hB, hS, -⟩ := rows3 w [.int .i64 A, .int .i64 L, .int .i64 M, .int .i64 O, .int .i64 I, .int .i64 T, .int .i64 U, .int .i64 E, .bool C] [.int .i64 a, .int .i64 l, .int .i64 m, .int .i64 n, .int .i64 ii, .int .i64 t, .int .i64 u, .int .i64 b, .bool c] [.int .i64 0, .int .i64 0, .int .i64 0, .int .i64 0, .int .i64 0, .int .i64 0, .int .i64 0, .int .i64 0, .bool false] 98 98 98
    have HW : Hid _ := hW
    have HQ : Hid _ := And.intro q0 (And.intro q1 (And.intro q2 hB))
    have x0 : W.cell? ⟨w.heap.size, 0, none⟩ = some (.int .i64 A) := q0.cell 0
    have x1 : W.cell? ⟨w.heap.size, 1, none⟩ = some (.int .i64 L) := q0.cell 1
    have x2 : W.cell? ⟨w.heap.size, 2, none⟩ = some (.int .i64 M) := q0.cell 2
    have x3 : W.cell? ⟨w.heap.size, 3, none⟩ = some (.int .i64 O) := q0.cell 3
    have x4 : W.cell? ⟨w.heap.size, 4, none⟩ = some (.int .i64 I) := q0.cell 4
    have x5 : W.cell? ⟨w.heap.size, 5, none⟩ = some (.int .i64 T) := q0.cell 5
    have x6 : W.cell? ⟨w.heap.size, 6, none⟩ = some (.int .i64 U) := q0.cell 6
    have x7 : W.cell? ⟨w.heap.size, 7, none⟩ = some (.int .i64 E) := q0.cell 7
    have x8 : W.cell? ⟨w.heap.size, 8, none⟩ = some (.bool C) := q0.cell 8
    have y0 : W.cell? ⟨w.heap.size + 1, 0, none⟩ = some (.int .i64 a) := q1.cell 0
    have y1 : W.cell? ⟨w.heap.size + 1, 1, none⟩ = some (.int .i64 l) := q1.cell 1
    have y2 : W.cell? ⟨w.heap.size + 1, 2, none⟩ = some (.int .i64 m) := q1.cell 2
    have y3 : W.cell? ⟨w.heap.size + 1, 3, none⟩ = some (.int .i64 n) := q1.cell 3
    have y4 : W.cell? ⟨w.heap.size + 1, 4, none⟩ = some (.int .i64 ii) := q1.cell 4
    have y5 : W.cell? ⟨w.heap.size + 1, 5, none⟩ = some (.int .i64 t) := q1.cell 5
    have y6 : W.cell? ⟨w.heap.size + 1, 6, none⟩ = some (.int .i64 u) := q1.cell 6
    have y7 : W.cell? ⟨w.heap.size + 1, 7, none⟩ = some (.int .i64 b) := q1.cell 7
    have y8 : W.cell? ⟨w.heap.size + 1, 8, none⟩ = some (.bool c) := q1.cell 8
    rw [hW] at x0 x1 x2 x3 x4 x5 x6 x7 x8 y0 y1 y2 y3 y4 y5 y6 y7 y8
    clear hW q0 q1 q2 hB
    go_enter Tryz.func176, Tryz.ntmps176
    go_wp2_with fail
    rw [← HW.out]
    obtain ⟨q0, q1, q2, hB⟩ := HQ.out
    clear HQ x0 x1 x2 x3 x4 x5 x6 x7 x8 y0 y1 y2 y3 y4 y5 y6 y7 y8
    refine (HF.out _).mono ?_
    rintro e w1 ⟨rfl, hb1⟩
    have q0 := q0.below hb1 (by omega)
    have q1 := q1.below hb1 (by omega)
    have q2 := q2.below hb1 (by omega)
    have hB := hB.trans (hb1.mono (by omega))
    have hs1 := hb1.size
    clear hb1
    have hMB := HMK.out
    clear HMK
    cases C
    · by_cases hM : M = m
      · subst hM
        by_cases hT : T = t
        · subst hT
          obtain rfl : MB = false := by rw [hMB]; simp
          have d1 : (M != M) = false := by simp
          have d2 : (T != T) = false := by simp
          clear hMB
          have p0 := q0.alloc (.cells #[.int .i64 a, .int .i64 l, .int .i64 M, .int .i64 n, .int .i64 ii, .int .i64 T, .int .i64 (now + 6), .int .i64 0, .bool true] 98)
          have p1 := q1.alloc (.cells #[.int .i64 a, .int .i64 l, .int .i64 M, .int .i64 n, .int .i64 ii, .int .i64 T, .int .i64 (now + 6), .int .i64 0, .bool true] 98)
          have q2 := q2.alloc (.cells #[.int .i64 a, .int .i64 l, .int .i64 M, .int .i64 n, .int .i64 ii, .int .i64 T, .int .i64 (now + 6), .int .i64 0, .bool false] 98)
          have hB := hB.alloc hB.size (.cells #[.int .i64 a, .int .i64 l, .int .i64 M, .int .i64 n, .int .i64 ii, .int .i64 T, .int .i64 (now + 6), .int .i64 0, .bool false] 98)
          have x2 : (w1.alloc (.cells #[.int .i64 a, .int .i64 l, .int .i64 M, .int .i64 n, .int .i64 ii, .int .i64 T, .int .i64 (now + 6), .int .i64 0, .bool true] 98)).cell? ⟨w.heap.size, 2, none⟩ = some (.int .i64 M) := p0.cell 2
          have x5 : (w1.alloc (.cells #[.int .i64 a, .int .i64 l, .int .i64 M, .int .i64 n, .int .i64 ii, .int .i64 T, .int .i64 (now + 6), .int .i64 0, .bool true] 98)).cell? ⟨w.heap.size, 5, none⟩ = some (.int .i64 T) := p0.cell 5
          have x8 : (w1.alloc (.cells #[.int .i64 a, .int .i64 l, .int .i64 M, .int .i64 n, .int .i64 ii, .int .i64 T, .int .i64 (now + 6), .int .i64 0, .bool true] 98)).cell? ⟨w.heap.size, 8, none⟩ = some (.bool false) := p0.cell 8
          have y2 : (w1.alloc (.cells #[.int .i64 a, .int .i64 l, .int .i64 M, .int .i64 n, .int .i64 ii, .int .i64 T, .int .i64 (now + 6), .int .i64 0, .bool true] 98)).cell? ⟨w.heap.size + 1, 2, none⟩ = some (.int .i64 M) := p1.cell 2
          have y5 : (w1.alloc (.cells #[.int .i64 a, .int .i64 l, .int .i64 M, .int .i64 n, .int .i64 ii, .int .i64 T, .int .i64 (now + 6), .int .i64 0, .bool true] 98)).cell? ⟨w.heap.size + 1, 5, none⟩ = some (.int .i64 T) := p1.cell 5
          clear p0 p1
          have z0 : (w1.alloc (.cells #[.int .i64 a, .int .i64 l, .int .i64 M, .int .i64 n, .int .i64 ii, .int .i64 T, .int .i64 (now + 6), .int .i64 0, .bool false] 98)).cell? ⟨w.heap.size + 1 + 1, 0, none⟩ = some (.int .i64 0) := q2.cell 0
          have z1 : (w1.alloc (.cells #[.int .i64 a, .int .i64 l, .int .i64 M, .int .i64 n, .int .i64 ii, .int .i64 T, .int .i64 (now + 6), .int .i64 0, .bool false] 98)).cell? ⟨w.heap.size + 1 + 1, 1, none⟩ = some (.int .i64 0) := q2.cell 1
          have z2 : (w1.alloc (.cells #[.int .i64 a, .int .i64 l, .int .i64 M, .int .i64 n, .int .i64 ii, .int .i64 T, .int .i64 (now + 6), .int .i64 0, .bool false] 98)).cell? ⟨w.heap.size + 1 + 1, 2, none⟩ = some (.int .i64 0) := q2.cell 2
          have z3 : (w1.alloc (.cells #[.int .i64 a, .int .i64 l, .int .i64 M, .int .i64 n, .int .i64 ii, .int .i64 T, .int .i64 (now + 6), .int .i64 0, .bool false] 98)).cell? ⟨w.heap.size + 1 + 1, 3, none⟩ = some (.int .i64 0) := q2.cell 3
          have z4 : (w1.alloc (.cells #[.int .i64 a, .int .i64 l, .int .i64 M, .int .i64 n, .int .i64 ii, .int .i64 T, .int .i64 (now + 6), .int .i64 0, .bool false] 98)).cell? ⟨w.heap.size + 1 + 1, 4, none⟩ = some (.int .i64 0) := q2.cell 4
          have z5 : (w1.alloc (.cells #[.int .i64 a, .int .i64 l, .int .i64 M, .int .i64 n, .int .i64 ii, .int .i64 T, .int .i64 (now + 6), .int .i64 0, .bool false] 98)).cell? ⟨w.heap.size + 1 + 1, 5, none⟩ = some (.int .i64 0) := q2.cell 5
          have z6 : (w1.alloc (.cells #[.int .i64 a, .int .i64 l, .int .i64 M, .int .i64 n, .int .i64 ii, .int .i64 T, .int .i64 (now + 6), .int .i64 0, .bool false] 98)).cell? ⟨w.heap.size + 1 + 1, 6, none⟩ = some (.int .i64 0) := q2.cell 6
          have z7 : (w1.alloc (.cells #[.int .i64 a, .int .i64 l, .int .i64 M, .int .i64 n, .int .i64 ii, .int .i64 T, .int .i64 (now + 6), .int .i64 0, .bool false] 98)).cell? ⟨w.heap.size + 1 + 1, 7, none⟩ = some (.int .i64 0) := q2.cell 7
          have z8 : (w1.alloc (.cells #[.int .i64 a, .int .i64 l, .int .i64 M, .int .i64 n, .int .i64 ii, .int .i64 T, .int .i64 (now + 6), .int .i64 0, .bool false] 98)).cell? ⟨w.heap.size + 1 + 1, 8, none⟩ = some (.bool false) := q2.cell 8
          have f0 : (w1.alloc (.cells #[.int .i64 a, .int .i64 l, .int .i64 M, .int .i64 n, .int .i64 ii, .int .i64 T, .int .i64 (now + 6), .int .i64 0, .bool false] 98)).frozen? ⟨w.heap.size + 1 + 1, 0, none⟩ = false := q2.frozen 0
          have f1 : (w1.alloc (.cells #[.int .i64 a, .int .i64 l, .int .i64 M, .int .i64 n, .int .i64 ii, .int .i64 T, .int .i64 (now + 6), .int .i64 0, .bool false] 98)).frozen? ⟨w.heap.size + 1 + 1, 1, none⟩ = false := q2.frozen 1
          have f2 : (w1.alloc (.cells #[.int .i64 a, .int .i64 l, .int .i64 M, .int .i64 n, .int .i64 ii, .int .i64 T, .int .i64 (now + 6), .int .i64 0, .bool false] 98)).frozen? ⟨w.heap.size + 1 + 1, 2, none⟩ = false := q2.frozen 2
          have f3 : (w1.alloc (.cells #[.int .i64 a, .int .i64 l, .int .i64 M, .int .i64 n, .int .i64 ii, .int .i64 T, .int .i64 (now + 6), .int .i64 0, .bool false] 98)).frozen? ⟨w.heap.size + 1 + 1, 3, none⟩ = false := q2.frozen 3
          have f4 : (w1.alloc (.cells #[.int .i64 a, .int .i64 l, .int .i64 M, .int .i64 n, .int .i64 ii, .int .i64 T, .int .i64 (now + 6), .int .i64 0, .bool false] 98)).frozen? ⟨w.heap.size + 1 + 1, 4, none⟩ = false := q2.frozen 4
          have f5 : (w1.alloc (.cells #[.int .i64 a, .int .i64 l, .int .i64 M, .int .i64 n, .int .i64 ii, .int .i64 T, .int .i64 (now + 6), .int .i64 0, .bool false] 98)).frozen? ⟨w.heap.size + 1 + 1, 5, none⟩ = false := q2.frozen 5
          have f6 : (w1.alloc (.cells #[.int .i64 a, .int .i64 l, .int .i64 M, .int .i64 n, .int .i64 ii, .int .i64 T, .int .i64 (now + 6), .int .i64 0, .bool false] 98)).frozen? ⟨w.heap.size + 1 + 1, 6, none⟩ = false := q2.frozen 6
          have f7 : (w1.alloc (.cells #[.int .i64 a, .int .i64 l, .int .i64 M, .int .i64 n, .int .i64 ii, .int .i64 T, .int .i64 (now + 6), .int .i64 0, .bool false] 98)).frozen? ⟨w.heap.size + 1 + 1, 7, none⟩ = false := q2.frozen 7
          have f8 : (w1.alloc (.cells #[.int .i64 a, .int .i64 l, .int .i64 M, .int .i64 n, .int .i64 ii, .int .i64 T, .int .i64 (now + 6), .int .i64 0, .bool false] 98)).frozen? ⟨w.heap.size + 1 + 1, 8, none⟩ = false := q2.frozen 8
          have HE : Hid _ := And.intro (nine0_row q2 (.int .i64 a) (.int .i64 l) (.int .i64 M) (.int .i64 n) (.int .i64 ii) (.int .i64 T) (.int .i64 (now + 6)) (.int .i64 0) (.bool false)) (nine0_below hB (w.heap.size + 1 + 1) (by omega) (.int .i64 a) (.int .i64 l) (.int .i64 M) (.int .i64 n) (.int .i64 ii) (.int .i64 T) (.int .i64 (now + 6)) (.int .i64 0) (.bool false))
          clear q2 hB q0 q1 HW HF
          go_wp2_with fail
          have hF := HE.out
          clear HE z0 z1 z2 z3 z4 z5 z6 z7 z8 f0 f1 f2 f3 f4 f5 f6 f7 f8
          unfold nine0 at hF
          generalize ((((((((((w1.alloc (.cells #[.int .i64 a, .int .i64 l, .int .i64 M, .int .i64 n, .int .i64 ii, .int .i64 T, .int .i64 (now + 6), .int .i64 0, .bool false] 98)).setCell ⟨w.heap.size + 1 + 1, 0, none⟩ (.int .i64 a)).setCell ⟨w.heap.size + 1 + 1, 1, none⟩ (.int .i64 l)).setCell ⟨w.heap.size + 1 + 1, 2, none⟩ (.int .i64 M)).setCell ⟨w.heap.size + 1 + 1, 3, none⟩ (.int .i64 n)).setCell ⟨w.heap.size + 1 + 1, 4, none⟩ (.int .i64 ii)).setCell ⟨w.heap.size + 1 + 1, 5, none⟩ (.int .i64 T)).setCell ⟨w.heap.size + 1 + 1, 6, none⟩ (.int .i64 (now + 6))).setCell ⟨w.heap.size + 1 + 1, 7, none⟩ (.int .i64 0)).setCell ⟨w.heap.size + 1 + 1, 8, none⟩ (.bool false)) = Z at *
          obtain ⟨h1, h2⟩ := hF
          have e0 : Z.cell? ⟨w.heap.size + 1 + 1, 0, none⟩ = some (.int .i64 a) := h1.cell 0
          have e1 : Z.cell? ⟨w.heap.size + 1 + 1, 1, none⟩ = some (.int .i64 l) := h1.cell 1
          have e2 : Z.cell? ⟨w.heap.size + 1 + 1, 2, none⟩ = some (.int .i64 M) := h1.cell 2
          have e3 : Z.cell? ⟨w.heap.size + 1 + 1, 3, none⟩ = some (.int .i64 n) := h1.cell 3
          have e4 : Z.cell? ⟨w.heap.size + 1 + 1, 4, none⟩ = some (.int .i64 ii) := h1.cell 4
          have e5 : Z.cell? ⟨w.heap.size + 1 + 1, 5, none⟩ = some (.int .i64 T) := h1.cell 5
          have e6 : Z.cell? ⟨w.heap.size + 1 + 1, 6, none⟩ = some (.int .i64 (now + 6)) := h1.cell 6
          have e7 : Z.cell? ⟨w.heap.size + 1 + 1, 7, none⟩ = some (.int .i64 0) := h1.cell 7
          have e8 : Z.cell? ⟨w.heap.size + 1 + 1, 8, none⟩ = some (.bool false) := h1.cell 8
          exact bodyPost_ret (v := .agg #[.int .i64 a, .int .i64 l, .int .i64 M, .int .i64 n, .int .i64 ii, .int .i64 T, .int .i64 (now + 6), .int .i64 0, .bool false]) (by simp [results, Tryz.results176, go_sem, e0, e1, e2, e3, e4, e5, e6, e7, e8]) rfl ⟨rfl, h2⟩
        · obtain rfl : MB = true := by rw [hMB]; simp [hT]
          have d1 : (M != M) = false := by simp
          have d2 : (T != t) = true := by simpa using hT
          clear hMB hT
          have p0 := q0.alloc (.cells #[.int .i64 a, .int .i64 l, .int .i64 M, .int .i64 n, .int .i64 ii, .int .i64 t, .int .i64 (now + 6), .int .i64 0, .bool true] 98)
          have p1 := q1.alloc (.cells #[.int .i64 a, .int .i64 l, .int .i64 M, .int .i64 n, .int .i64 ii, .int .i64 t, .int .i64 (now + 6), .int .i64 0, .bool true] 98)
          have q2 := q2.alloc (.cells #[.int .i64 a, .int .i64 l, .int .i64 M, .int .i64 n, .int .i64 ii, .int .i64 t, .int .i64 (now + 6), .int .i64 0, .bool true] 98)
          have hB := hB.alloc hB.size (.cells #[.int .i64 a, .int .i64 l, .int .i64 M, .int .i64 n, .int .i64 ii, .int .i64 t, .int .i64 (now + 6), .int .i64 0, .bool true] 98)
          have x2 : (w1.alloc (.cells #[.int .i64 a, .int .i64 l, .int .i64 M, .int .i64 n, .int .i64 ii, .int .i64 t, .int .i64 (now + 6), .int .i64 0, .bool true] 98)).cell? ⟨w.heap.size, 2, none⟩ = some (.int .i64 M) := p0.cell 2
          have x5 : (w1.alloc (.cells #[.int .i64 a, .int .i64 l, .int .i64 M, .int .i64 n, .int .i64 ii, .int .i64 t, .int .i64 (now + 6), .int .i64 0, .bool true] 98)).cell? ⟨w.heap.size, 5, none⟩ = some (.int .i64 T) := p0.cell 5
          have x8 : (w1.alloc (.cells #[.int .i64 a, .int .i64 l, .int .i64 M, .int .i64 n, .int .i64 ii, .int .i64 t, .int .i64 (now + 6), .int .i64 0, .bool true] 98)).cell? ⟨w.heap.size, 8, none⟩ = some (.bool false) := p0.cell 8
          have y2 : (w1.alloc (.cells #[.int .i64 a, .int .i64 l, .int .i64 M, .int .i64 n, .int .i64 ii, .int .i64 t, .int .i64 (now + 6), .int .i64 0, .bool true] 98)).cell? ⟨w.heap.size + 1, 2, none⟩ = some (.int .i64 M) := p1.cell 2
          have y5 : (w1.alloc (.cells #[.int .i64 a, .int .i64 l, .int .i64 M, .int .i64 n, .int .i64 ii, .int .i64 t, .int .i64 (now + 6), .int .i64 0, .bool true] 98)).cell? ⟨w.heap.size + 1, 5, none⟩ = some (.int .i64 t) := p1.cell 5
          clear p0 p1
          have z0 : (w1.alloc (.cells #[.int .i64 a, .int .i64 l, .int .i64 M, .int .i64 n, .int .i64 ii, .int .i64 t, .int .i64 (now + 6), .int .i64 0, .bool true] 98)).cell? ⟨w.heap.size + 1 + 1, 0, none⟩ = some (.int .i64 0) := q2.cell 0
          have z1 : (w1.alloc (.cells #[.int .i64 a, .int .i64 l, .int .i64 M, .int .i64 n, .int .i64 ii, .int .i64 t, .int .i64 (now + 6), .int .i64 0, .bool true] 98)).cell? ⟨w.heap.size + 1 + 1, 1, none⟩ = some (.int .i64 0) := q2.cell 1
          have z2 : (w1.alloc (.cells #[.int .i64 a, .int .i64 l, .int .i64 M, .int .i64 n, .int .i64 ii, .int .i64 t, .int .i64 (now + 6), .int .i64 0, .bool true] 98)).cell? ⟨w.heap.size + 1 + 1, 2, none⟩ = some (.int .i64 0) := q2.cell 2
          have z3 : (w1.alloc (.cells #[.int .i64 a, .int .i64 l, .int .i64 M, .int .i64 n, .int .i64 ii, .int .i64 t, .int .i64 (now + 6), .int .i64 0, .bool true] 98)).cell? ⟨w.heap.size + 1 + 1, 3, none⟩ = some (.int .i64 0) := q2.cell 3
          have z4 : (w1.alloc (.cells #[.int .i64 a, .int .i64 l, .int .i64 M, .int .i64 n, .int .i64 ii, .int .i64 t, .int .i64 (now + 6), .int .i64 0, .bool true] 98)).cell? ⟨w.heap.size + 1 + 1, 4, none⟩ = some (.int .i64 0) := q2.cell 4
          have z5 : (w1.alloc (.cells #[.int .i64 a, .int .i64 l, .int .i64 M, .int .i64 n, .int .i64 ii, .int .i64 t, .int .i64 (now + 6), .int .i64 0, .bool true] 98)).cell? ⟨w.heap.size + 1 + 1, 5, none⟩ = some (.int .i64 0) := q2.cell 5
          have z6 : (w1.alloc (.cells #[.int .i64 a, .int .i64 l, .int .i64 M, .int .i64 n, .int .i64 ii, .int .i64 t, .int .i64 (now + 6), .int .i64 0, .bool true] 98)).cell? ⟨w.heap.size + 1 + 1, 6, none⟩ = some (.int .i64 0) := q2.cell 6
          have z7 : (w1.alloc (.cells #[.int .i64 a, .int .i64 l, .int .i64 M, .int .i64 n, .int .i64 ii, .int .i64 t, .int .i64 (now + 6), .int .i64 0, .bool true] 98)).cell? ⟨w.heap.size + 1 + 1, 7, none⟩ = some (.int .i64 0) := q2.cell 7
          have z8 : (w1.alloc (.cells #[.int .i64 a, .int .i64 l, .int .i64 M, .int .i64 n, .int .i64 ii, .int .i64 t, .int .i64 (now + 6), .int .i64 0, .bool true] 98)).cell? ⟨w.heap.size + 1 + 1, 8, none⟩ = some (.bool false) := q2.cell 8
          have f0 : (w1.alloc (.cells #[.int .i64 a, .int .i64 l, .int .i64 M, .int .i64 n, .int .i64 ii, .int .i64 t, .int .i64 (now + 6), .int .i64 0, .bool true] 98)).frozen? ⟨w.heap.size + 1 + 1, 0, none⟩ = false := q2.frozen 0
          have f1 : (w1.alloc (.cells #[.int .i64 a, .int .i64 l, .int .i64 M, .int .i64 n, .int .i64 ii, .int .i64 t, .int .i64 (now + 6), .int .i64 0, .bool true] 98)).frozen? ⟨w.heap.size + 1 + 1, 1, none⟩ = false := q2.frozen 1
          have f2 : (w1.alloc (.cells #[.int .i64 a, .int .i64 l, .int .i64 M, .int .i64 n, .int .i64 ii, .int .i64 t, .int .i64 (now + 6), .int .i64 0, .bool true] 98)).frozen? ⟨w.heap.size + 1 + 1, 2, none⟩ = false := q2.frozen 2
          have f3 : (w1.alloc (.cells #[.int .i64 a, .int .i64 l, .int .i64 M, .int .i64 n, .int .i64 ii, .int .i64 t, .int .i64 (now + 6), .int .i64 0, .bool true] 98)).frozen? ⟨w.heap.size + 1 + 1, 3, none⟩ = false := q2.frozen 3
          have f4 : (w1.alloc (.cells #[.int .i64 a, .int .i64 l, .int .i64 M, .int .i64 n, .int .i64 ii, .int .i64 t, .int .i64 (now + 6), .int .i64 0, .bool true] 98)).frozen? ⟨w.heap.size + 1 + 1, 4, none⟩ = false := q2.frozen 4
          have f5 : (w1.alloc (.cells #[.int .i64 a, .int .i64 l, .int .i64 M, .int .i64 n, .int .i64 ii, .int .i64 t, .int .i64 (now + 6), .int .i64 0, .bool true] 98)).frozen? ⟨w.heap.size + 1 + 1, 5, none⟩ = false := q2.frozen 5
          have f6 : (w1.alloc (.cells #[.int .i64 a, .int .i64 l, .int .i64 M, .int .i64 n, .int .i64 ii, .int .i64 t, .int .i64 (now + 6), .int .i64 0, .bool true] 98)).frozen? ⟨w.heap.size + 1 + 1, 6, none⟩ = false := q2.frozen 6
          have f7 : (w1.alloc (.cells #[.int .i64 a, .int .i64 l, .int .i64 M, .int .i64 n, .int .i64 ii, .int .i64 t, .int .i64 (now + 6), .int .i64 0, .bool true] 98)).frozen? ⟨w.heap.size + 1 + 1, 7, none⟩ = false := q2.frozen 7
          have f8 : (w1.alloc (.cells #[.int .i64 a, .int .i64 l, .int .i64 M, .int .i64 n, .int .i64 ii, .int .i64 t, .int .i64 (now + 6), .int .i64 0, .bool true] 98)).frozen? ⟨w.heap.size + 1 + 1, 8, none⟩ = false := q2.frozen 8
          have HE : Hid _ := And.intro (nine0_row q2 (.int .i64 a) (.int .i64 l) (.int .i64 M) (.int .i64 n) (.int .i64 ii) (.int .i64 t) (.int .i64 (now + 6)) (.int .i64 0) (.bool true)) (nine0_below hB (w.heap.size + 1 + 1) (by omega) (.int .i64 a) (.int .i64 l) (.int .i64 M) (.int .i64 n) (.int .i64 ii) (.int .i64 t) (.int .i64 (now + 6)) (.int .i64 0) (.bool true))
          clear q2 hB q0 q1 HW HF
          go_wp2_with fail
          have hF := HE.out
          clear HE z0 z1 z2 z3 z4 z5 z6 z7 z8 f0 f1 f2 f3 f4 f5 f6 f7 f8
          unfold nine0 at hF
          generalize ((((((((((w1.alloc (.cells #[.int .i64 a, .int .i64 l, .int .i64 M, .int .i64 n, .int .i64 ii, .int .i64 t, .int .i64 (now + 6), .int .i64 0, .bool true] 98)).setCell ⟨w.heap.size + 1 + 1, 0, none⟩ (.int .i64 a)).setCell ⟨w.heap.size + 1 + 1, 1, none⟩ (.int .i64 l)).setCell ⟨w.heap.size + 1 + 1, 2, none⟩ (.int .i64 M)).setCell ⟨w.heap.size + 1 + 1, 3, none⟩ (.int .i64 n)).setCell ⟨w.heap.size + 1 + 1, 4, none⟩ (.int .i64 ii)).setCell ⟨w.heap.size + 1 + 1, 5, none⟩ (.int .i64 t)).setCell ⟨w.heap.size + 1 + 1, 6, none⟩ (.int .i64 (now + 6))).setCell ⟨w.heap.size + 1 + 1, 7, none⟩ (.int .i64 0)).setCell ⟨w.heap.size + 1 + 1, 8, none⟩ (.bool true)) = Z at *
          obtain ⟨h1, h2⟩ := hF
          have e0 : Z.cell? ⟨w.heap.size + 1 + 1, 0, none⟩ = some (.int .i64 a) := h1.cell 0
          have e1 : Z.cell? ⟨w.heap.size + 1 + 1, 1, none⟩ = some (.int .i64 l) := h1.cell 1
          have e2 : Z.cell? ⟨w.heap.size + 1 + 1, 2, none⟩ = some (.int .i64 M) := h1.cell 2
          have e3 : Z.cell? ⟨w.heap.size + 1 + 1, 3, none⟩ = some (.int .i64 n) := h1.cell 3
          have e4 : Z.cell? ⟨w.heap.size + 1 + 1, 4, none⟩ = some (.int .i64 ii) := h1.cell 4
          have e5 : Z.cell? ⟨w.heap.size + 1 + 1, 5, none⟩ = some (.int .i64 t) := h1.cell 5
          have e6 : Z.cell? ⟨w.heap.size + 1 + 1, 6, none⟩ = some (.int .i64 (now + 6)) := h1.cell 6
          have e7 : Z.cell? ⟨w.heap.size + 1 + 1, 7, none⟩ = some (.int .i64 0) := h1.cell 7
          have e8 : Z.cell? ⟨w.heap.size + 1 + 1, 8, none⟩ = some (.bool true) := h1.cell 8
          exact bodyPost_ret (v := .agg #[.int .i64 a, .int .i64 l, .int .i64 M, .int .i64 n, .int .i64 ii, .int .i64 t, .int .i64 (now + 6), .int .i64 0, .bool true]) (by simp [results, Tryz.results176, go_sem, e0, e1, e2, e3, e4, e5, e6, e7, e8]) rfl ⟨rfl, h2⟩
      · obtain rfl : MB = true := by rw [hMB]; simp [hM]
        have d1 : (M != m) = true := by simpa using hM
        clear hMB hM
        have p0 := q0.alloc (.cells #[.int .i64 a, .int .i64 l, .int .i64 m, .int .i64 n, .int .i64 ii, .int .i64 t, .int .i64 (now + 6), .int .i64 0, .bool true] 98)
        have p1 := q1.alloc (.cells #[.int .i64 a, .int .i64 l, .int .i64 m, .int .i64 n, .int .i64 ii, .int .i64 t, .int .i64 (now + 6), .int .i64 0, .bool true] 98)
        have q2 := q2.alloc (.cells #[.int .i64 a, .int .i64 l, .int .i64 m, .int .i64 n, .int .i64 ii, .int .i64 t, .int .i64 (now + 6), .int .i64 0, .bool true] 98)
        have hB := hB.alloc hB.size (.cells #[.int .i64 a, .int .i64 l, .int .i64 m, .int .i64 n, .int .i64 ii, .int .i64 t, .int .i64 (now + 6), .int .i64 0, .bool true] 98)
        have x2 : (w1.alloc (.cells #[.int .i64 a, .int .i64 l, .int .i64 m, .int .i64 n, .int .i64 ii, .int .i64 t, .int .i64 (now + 6), .int .i64 0, .bool true] 98)).cell? ⟨w.heap.size, 2, none⟩ = some (.int .i64 M) := p0.cell 2
        have x5 : (w1.alloc (.cells #[.int .i64 a, .int .i64 l, .int .i64 m, .int .i64 n, .int .i64 ii, .int .i64 t, .int .i64 (now + 6), .int .i64 0, .bool true] 98)).cell? ⟨w.heap.size, 5, none⟩ = some (.int .i64 T) := p0.cell 5
        have x8 : (w1.alloc (.cells #[.int .i64 a, .int .i64 l, .int .i64 m, .int .i64 n, .int .i64 ii, .int .i64 t, .int .i64 (now + 6), .int .i64 0, .bool true] 98)).cell? ⟨w.heap.size, 8, none⟩ = some (.bool false) := p0.cell 8
        have y2 : (w1.alloc (.cells #[.int .i64 a, .int .i64 l, .int .i64 m, .int .i64 n, .int .i64 ii, .int .i64 t, .int .i64 (now + 6), .int .i64 0, .bool true] 98)).cell? ⟨w.heap.size + 1, 2, none⟩ = some (.int .i64 m) := p1.cell 2
        have y5 : (w1.alloc (.cells #[.int .i64 a, .int .i64 l, .int .i64 m, .int .i64 n, .int .i64 ii, .int .i64 t, .int .i64 (now + 6), .int .i64 0, .bool true] 98)).cell? ⟨w.heap.size + 1, 5, none⟩ = some (.int .i64 t) := p1.cell 5
        clear p0 p1
        have z0 : (w1.alloc (.cells #[.int .i64 a, .int .i64 l, .int .i64 m, .int .i64 n, .int .i64 ii, .int .i64 t, .int .i64 (now + 6), .int .i64 0, .bool true] 98)).cell? ⟨w.heap.size + 1 + 1, 0, none⟩ = some (.int .i64 0) := q2.cell 0
        have z1 : (w1.alloc (.cells #[.int .i64 a, .int .i64 l, .int .i64 m, .int .i64 n, .int .i64 ii, .int .i64 t, .int .i64 (now + 6), .int .i64 0, .bool true] 98)).cell? ⟨w.heap.size + 1 + 1, 1, none⟩ = some (.int .i64 0) := q2.cell 1
        have z2 : (w1.alloc (.cells #[.int .i64 a, .int .i64 l, .int .i64 m, .int .i64 n, .int .i64 ii, .int .i64 t, .int .i64 (now + 6), .int .i64 0, .bool true] 98)).cell? ⟨w.heap.size + 1 + 1, 2, none⟩ = some (.int .i64 0) := q2.cell 2
        have z3 : (w1.alloc (.cells #[.int .i64 a, .int .i64 l, .int .i64 m, .int .i64 n, .int .i64 ii, .int .i64 t, .int .i64 (now + 6), .int .i64 0, .bool true] 98)).cell? ⟨w.heap.size + 1 + 1, 3, none⟩ = some (.int .i64 0) := q2.cell 3
        have z4 : (w1.alloc (.cells #[.int .i64 a, .int .i64 l, .int .i64 m, .int .i64 n, .int .i64 ii, .int .i64 t, .int .i64 (now + 6), .int .i64 0, .bool true] 98)).cell? ⟨w.heap.size + 1 + 1, 4, none⟩ = some (.int .i64 0) := q2.cell 4
        have z5 : (w1.alloc (.cells #[.int .i64 a, .int .i64 l, .int .i64 m, .int .i64 n, .int .i64 ii, .int .i64 t, .int .i64 (now + 6), .int .i64 0, .bool true] 98)).cell? ⟨w.heap.size + 1 + 1, 5, none⟩ = some (.int .i64 0) := q2.cell 5
        have z6 : (w1.alloc (.cells #[.int .i64 a, .int .i64 l, .int .i64 m, .int .i64 n, .int .i64 ii, .int .i64 t, .int .i64 (now + 6), .int .i64 0, .bool true] 98)).cell? ⟨w.heap.size + 1 + 1, 6, none⟩ = some (.int .i64 0) := q2.cell 6
        have z7 : (w1.alloc (.cells #[.int .i64 a, .int .i64 l, .int .i64 m, .int .i64 n, .int .i64 ii, .int .i64 t, .int .i64 (now + 6), .int .i64 0, .bool true] 98)).cell? ⟨w.heap.size + 1 + 1, 7, none⟩ = some (.int .i64 0) := q2.cell 7
        have z8 : (w1.alloc (.cells #[.int .i64 a, .int .i64 l, .int .i64 m, .int .i64 n, .int .i64 ii, .int .i64 t, .int .i64 (now + 6), .int .i64 0, .bool true] 98)).cell? ⟨w.heap.size + 1 + 1, 8, none⟩ = some (.bool false) := q2.cell 8
        have f0 : (w1.alloc (.cells #[.int .i64 a, .int .i64 l, .int .i64 m, .int .i64 n, .int .i64 ii, .int .i64 t, .int .i64 (now + 6), .int .i64 0, .bool true] 98)).frozen? ⟨w.heap.size + 1 + 1, 0, none⟩ = false := q2.frozen 0
        have f1 : (w1.alloc (.cells #[.int .i64 a, .int .i64 l, .int .i64 m, .int .i64 n, .int .i64 ii, .int .i64 t, .int .i64 (now + 6), .int .i64 0, .bool true] 98)).frozen? ⟨w.heap.size + 1 + 1, 1, none⟩ = false := q2.frozen 1
        have f2 : (w1.alloc (.cells #[.int .i64 a, .int .i64 l, .int .i64 m, .int .i64 n, .int .i64 ii, .int .i64 t, .int .i64 (now + 6), .int .i64 0, .bool true] 98)).frozen? ⟨w.heap.size + 1 + 1, 2, none⟩ = false := q2.frozen 2
        have f3 : (w1.alloc (.cells #[.int .i64 a, .int .i64 l, .int .i64 m, .int .i64 n, .int .i64 ii, .int .i64 t, .int .i64 (now + 6), .int .i64 0, .bool true] 98)).frozen? ⟨w.heap.size + 1 + 1, 3, none⟩ = false := q2.frozen 3
        have f4 : (w1.alloc (.cells #[.int .i64 a, .int .i64 l, .int .i64 m, .int .i64 n, .int .i64 ii, .int .i64 t, .int .i64 (now + 6), .int .i64 0, .bool true] 98)).frozen? ⟨w.heap.size + 1 + 1, 4, none⟩ = false := q2.frozen 4
        have f5 : (w1.alloc (.cells #[.int .i64 a, .int .i64 l, .int .i64 m, .int .i64 n, .int .i64 ii, .int .i64 t, .int .i64 (now + 6), .int .i64 0, .bool true] 98)).frozen? ⟨w.heap.size + 1 + 1, 5, none⟩ = false := q2.frozen 5
        have f6 : (w1.alloc (.cells #[.int .i64 a, .int .i64 l, .int .i64 m, .int .i64 n, .int .i64 ii, .int .i64 t, .int .i64 (now + 6), .int .i64 0, .bool true] 98)).frozen? ⟨w.heap.size + 1 + 1, 6, none⟩ = false := q2.frozen 6
        have f7 : (w1.alloc (.cells #[.int .i64 a, .int .i64 l, .int .i64 m, .int .i64 n, .int .i64 ii, .int .i64 t, .int .i64 (now + 6), .int .i64 0, .bool true] 98)).frozen? ⟨w.heap.size + 1 + 1, 7, none⟩ = false := q2.frozen 7
        have f8 : (w1.alloc (.cells #[.int .i64 a, .int .i64 l, .int .i64 m, .int .i64 n, .int .i64 ii, .int .i64 t, .int .i64 (now + 6), .int .i64 0, .bool true] 98)).frozen? ⟨w.heap.size + 1 + 1, 8, none⟩ = false := q2.frozen 8
        have HE : Hid _ := And.intro (nine0_row q2 (.int .i64 a) (.int .i64 l) (.int .i64 m) (.int .i64 n) (.int .i64 ii) (.int .i64 t) (.int .i64 (now + 6)) (.int .i64 0) (.bool true)) (nine0_below hB (w.heap.size + 1 + 1) (by omega) (.int .i64 a) (.int .i64 l) (.int .i64 m) (.int .i64 n) (.int .i64 ii) (.int .i64 t) (.int .i64 (now + 6)) (.int .i64 0) (.bool true))
        clear q2 hB q0 q1 HW HF
        go_wp2_with fail
        have hF := HE.out
        clear HE z0 z1 z2 z3 z4 z5 z6 z7 z8 f0 f1 f2 f3 f4 f5 f6 f7 f8
        unfold nine0 at hF
        generalize ((((((((((w1.alloc (.cells #[.int .i64 a, .int .i64 l, .int .i64 m, .int .i64 n, .int .i64 ii, .int .i64 t, .int .i64 (now + 6), .int .i64 0, .bool true] 98)).setCell ⟨w.heap.size + 1 + 1, 0, none⟩ (.int .i64 a)).setCell ⟨w.heap.size + 1 + 1, 1, none⟩ (.int .i64 l)).setCell ⟨w.heap.size + 1 + 1, 2, none⟩ (.int .i64 m)).setCell ⟨w.heap.size + 1 + 1, 3, none⟩ (.int .i64 n)).setCell ⟨w.heap.size + 1 + 1, 4, none⟩ (.int .i64 ii)).setCell ⟨w.heap.size + 1 + 1, 5, none⟩ (.int .i64 t)).setCell ⟨w.heap.size + 1 + 1, 6, none⟩ (.int .i64 (now + 6))).setCell ⟨w.heap.size + 1 + 1, 7, none⟩ (.int .i64 0)).setCell ⟨w.heap.size + 1 + 1, 8, none⟩ (.bool true)) = Z at *
        obtain ⟨h1, h2⟩ := hF
        have e0 : Z.cell? ⟨w.heap.size + 1 + 1, 0, none⟩ = some (.int .i64 a) := h1.cell 0
        have e1 : Z.cell? ⟨w.heap.size + 1 + 1, 1, none⟩ = some (.int .i64 l) := h1.cell 1
        have e2 : Z.cell? ⟨w.heap.size + 1 + 1, 2, none⟩ = some (.int .i64 m) := h1.cell 2
        have e3 : Z.cell? ⟨w.heap.size + 1 + 1, 3, none⟩ = some (.int .i64 n) := h1.cell 3
        have e4 : Z.cell? ⟨w.heap.size + 1 + 1, 4, none⟩ = some (.int .i64 ii) := h1.cell 4
        have e5 : Z.cell? ⟨w.heap.size + 1 + 1, 5, none⟩ = some (.int .i64 t) := h1.cell 5
        have e6 : Z.cell? ⟨w.heap.size + 1 + 1, 6, none⟩ = some (.int .i64 (now + 6)) := h1.cell 6
        have e7 : Z.cell? ⟨w.heap.size + 1 + 1, 7, none⟩ = some (.int .i64 0) := h1.cell 7
        have e8 : Z.cell? ⟨w.heap.size + 1 + 1, 8, none⟩ = some (.bool true) := h1.cell 8
        exact bodyPost_ret (v := .agg #[.int .i64 a, .int .i64 l, .int .i64 m, .int .i64 n, .int .i64 ii, .int .i64 t, .int .i64 (now + 6), .int .i64 0, .bool true]) (by simp [results, Tryz.results176, go_sem, e0, e1, e2, e3, e4, e5, e6, e7, e8]) rfl ⟨rfl, h2⟩
    · obtain rfl : MB = true := by rw [hMB]; simp
      clear hMB
      have p0 := q0.alloc (.cells #[.int .i64 a, .int .i64 l, .int .i64 m, .int .i64 n, .int .i64 ii, .int .i64 t, .int .i64 (now + 6), .int .i64 0, .bool true] 98)
      have p1 := q1.alloc (.cells #[.int .i64 a, .int .i64 l, .int .i64 m, .int .i64 n, .int .i64 ii, .int .i64 t, .int .i64 (now + 6), .int .i64 0, .bool true] 98)
      have q2 := q2.alloc (.cells #[.int .i64 a, .int .i64 l, .int .i64 m, .int .i64 n, .int .i64 ii, .int .i64 t, .int .i64 (now + 6), .int .i64 0, .bool true] 98)
      have hB := hB.alloc hB.size (.cells #[.int .i64 a, .int .i64 l, .int .i64 m, .int .i64 n, .int .i64 ii, .int .i64 t, .int .i64 (now + 6), .int .i64 0, .bool true] 98)
      have x2 : (w1.alloc (.cells #[.int .i64 a, .int .i64 l, .int .i64 m, .int .i64 n, .int .i64 ii, .int .i64 t, .int .i64 (now + 6), .int .i64 0, .bool true] 98)).cell? ⟨w.heap.size, 2, none⟩ = some (.int .i64 M) := p0.cell 2
      have x5 : (w1.alloc (.cells #[.int .i64 a, .int .i64 l, .int .i64 m, .int .i64 n, .int .i64 ii, .int .i64 t, .int .i64 (now + 6), .int .i64 0, .bool true] 98)).cell? ⟨w.heap.size, 5, none⟩ = some (.int .i64 T) := p0.cell 5
      have x8 : (w1.alloc (.cells #[.int .i64 a, .int .i64 l, .int .i64 m, .int .i64 n, .int .i64 ii, .int .i64 t, .int .i64 (now + 6), .int .i64 0, .bool true] 98)).cell? ⟨w.heap.size, 8, none⟩ = some (.bool true) := p0.cell 8
      have y2 : (w1.alloc (.cells #[.int .i64 a, .int .i64 l, .int .i64 m, .int .i64 n, .int .i64 ii, .int .i64 t, .int .i64 (now + 6), .int .i64 0, .bool true] 98)).cell? ⟨w.heap.size + 1, 2, none⟩ = some (.int .i64 m) := p1.cell 2
      have y5 : (w1.alloc (.cells #[.int .i64 a, .int .i64 l, .int .i64 m, .int .i64 n, .int .i64 ii, .int .i64 t, .int .i64 (now + 6), .int .i64 0, .bool true] 98)).cell? ⟨w.heap.size + 1, 5, none⟩ = some (.int .i64 t) := p1.cell 5
      clear p0 p1
      have z0 : (w1.alloc (.cells #[.int .i64 a, .int .i64 l, .int .i64 m, .int .i64 n, .int .i64 ii, .int .i64 t, .int .i64 (now + 6), .int .i64 0, .bool true] 98)).cell? ⟨w.heap.size + 1 + 1, 0, none⟩ = some (.int .i64 0) := q2.cell 0
      have z1 : (w1.alloc (.cells #[.int .i64 a, .int .i64 l, .int .i64 m, .int .i64 n, .int .i64 ii, .int .i64 t, .int .i64 (now + 6), .int .i64 0, .bool true] 98)).cell? ⟨w.heap.size + 1 + 1, 1, none⟩ = some (.int .i64 0) := q2.cell 1
      have z2 : (w1.alloc (.cells #[.int .i64 a, .int .i64 l, .int .i64 m, .int .i64 n, .int .i64 ii, .int .i64 t, .int .i64 (now + 6), .int .i64 0, .bool true] 98)).cell? ⟨w.heap.size + 1 + 1, 2, none⟩ = some (.int .i64 0) := q2.cell 2
      have z3 : (w1.alloc (.cells #[.int .i64 a, .int .i64 l, .int .i64 m, .int .i64 n, .int .i64 ii, .int .i64 t, .int .i64 (now + 6), .int .i64 0, .bool true] 98)).cell? ⟨w.heap.size + 1 + 1, 3, none⟩ = some (.int .i64 0) := q2.cell 3
      have z4 : (w1.alloc (.cells #[.int .i64 a, .int .i64 l, .int .i64 m, .int .i64 n, .int .i64 ii, .int .i64 t, .int .i64 (now + 6), .int .i64 0, .bool true] 98)).cell? ⟨w.heap.size + 1 + 1, 4, none⟩ = some (.int .i64 0) := q2.cell 4
      have z5 : (w1.alloc (.cells #[.int .i64 a, .int .i64 l, .int .i64 m, .int .i64 n, .int .i64 ii, .int .i64 t, .int .i64 (now + 6), .int .i64 0, .bool true] 98)).cell? ⟨w.heap.size + 1 + 1, 5, none⟩ = some (.int .i64 0) := q2.cell 5
      have z6 : (w1.alloc (.cells #[.int .i64 a, .int .i64 l, .int .i64 m, .int .i64 n, .int .i64 ii, .int .i64 t, .int .i64 (now + 6), .int .i64 0, .bool true] 98)).cell? ⟨w.heap.size + 1 + 1, 6, none⟩ = some (.int .i64 0) := q2.cell 6
      have z7 : (w1.alloc (.cells #[.int .i64 a, .int .i64 l, .int .i64 m, .int .i64 n, .int .i64 ii, .int .i64 t, .int .i64 (now + 6), .int .i64 0, .bool true] 98)).cell? ⟨w.heap.size + 1 + 1, 7, none⟩ = some (.int .i64 0) := q2.cell 7
      have z8 : (w1.alloc (.cells #[.int .i64 a, .int .i64 l, .int .i64 m, .int .i64 n, .int .i64 ii, .int .i64 t, .int .i64 (now + 6), .int .i64 0, .bool true] 98)).cell? ⟨w.heap.size + 1 + 1, 8, none⟩ = some (.bool false) := q2.cell 8
      have f0 : (w1.alloc (.cells #[.int .i64 a, .int .i64 l, .int .i64 m, .int .i64 n, .int .i64 ii, .int .i64 t, .int .i64 (now + 6), .int .i64 0, .bool true] 98)).frozen? ⟨w.heap.size + 1 + 1, 0, none⟩ = false := q2.frozen 0
      have f1 : (w1.alloc (.cells #[.int .i64 a, .int .i64 l, .int .i64 m, .int .i64 n, .int .i64 ii, .int .i64 t, .int .i64 (now + 6), .int .i64 0, .bool true] 98)).frozen? ⟨w.heap.size + 1 + 1, 1, none⟩ = false := q2.frozen 1
      have f2 : (w1.alloc (.cells #[.int .i64 a, .int .i64 l, .int .i64 m, .int .i64 n, .int .i64 ii, .int .i64 t, .int .i64 (now + 6), .int .i64 0, .bool true] 98)).frozen? ⟨w.heap.size + 1 + 1, 2, none⟩ = false := q2.frozen 2
      have f3 : (w1.alloc (.cells #[.int .i64 a, .int .i64 l, .int .i64 m, .int .i64 n, .int .i64 ii, .int .i64 t, .int .i64 (now + 6), .int .i64 0, .bool true] 98)).frozen? ⟨w.heap.size + 1 + 1, 3, none⟩ = false := q2.frozen 3
      have f4 : (w1.alloc (.cells #[.int .i64 a, .int .i64 l, .int .i64 m, .int .i64 n, .int .i64 ii, .int .i64 t, .int .i64 (now + 6), .int .i64 0, .bool true] 98)).frozen? ⟨w.heap.size + 1 + 1, 4, none⟩ = false := q2.frozen 4
      have f5 : (w1.alloc (.cells #[.int .i64 a, .int .i64 l, .int .i64 m, .int .i64 n, .int .i64 ii, .int .i64 t, .int .i64 (now + 6), .int .i64 0, .bool true] 98)).frozen? ⟨w.heap.size + 1 + 1, 5, none⟩ = false := q2.frozen 5
      have f6 : (w1.alloc (.cells #[.int .i64 a, .int .i64 l, .int .i64 m, .int .i64 n, .int .i64 ii, .int .i64 t, .int .i64 (now + 6), .int .i64 0, .bool true] 98)).frozen? ⟨w.heap.size + 1 + 1, 6, none⟩ = false := q2.frozen 6
      have f7 : (w1.alloc (.cells #[.int .i64 a, .int .i64 l, .int .i64 m, .int .i64 n, .int .i64 ii, .int .i64 t, .int .i64 (now + 6), .int .i64 0, .bool true] 98)).frozen? ⟨w.heap.size + 1 + 1, 7, none⟩ = false := q2.frozen 7
      have f8 : (w1.alloc (.cells #[.int .i64 a, .int .i64 l, .int .i64 m, .int .i64 n, .int .i64 ii, .int .i64 t, .int .i64 (now + 6), .int .i64 0, .bool true] 98)).frozen? ⟨w.heap.size + 1 + 1, 8, none⟩ = false := q2.frozen 8
      have HE : Hid _ := And.intro (nine0_row q2 (.int .i64 a) (.int .i64 l) (.int .i64 m) (.int .i64 n) (.int .i64 ii) (.int .i64 t) (.int .i64 (now + 6)) (.int .i64 0) (.bool true)) (nine0_below hB (w.heap.size + 1 + 1) (by omega) (.int .i64 a) (.int .i64 l) (.int .i64 m) (.int .i64 n) (.int .i64 ii) (.int .i64 t) (.int .i64 (now + 6)) (.int .i64 0) (.bool true))
      clear q2 hB q0 q1 HW HF
      go_wp2_with fail
      have hF := HE.out
      clear HE z0 z1 z2 z3 z4 z5 z6 z7 z8 f0 f1 f2 f3 f4 f5 f6 f7 f8
      unfold nine0 at hF
      generalize ((((((((((w1.alloc (.cells #[.int .i64 a, .int .i64 l, .int .i64 m, .int .i64 n, .int .i64 ii, .int .i64 t, .int .i64 (now + 6), .int .i64 0, .bool true] 98)).setCell ⟨w.heap.size + 1 + 1, 0, none⟩ (.int .i64 a)).setCell ⟨w.heap.size + 1 + 1, 1, none⟩ (.int .i64 l)).setCell ⟨w.heap.size + 1 + 1, 2, none⟩ (.int .i64 m)).setCell ⟨w.heap.size + 1 + 1, 3, none⟩ (.int .i64 n)).setCell ⟨w.heap.size + 1 + 1, 4, none⟩ (.int .i64 ii)).setCell ⟨w.heap.size + 1 + 1, 5, none⟩ (.int .i64 t)).setCell ⟨w.heap.size + 1 + 1, 6, none⟩ (.int .i64 (now + 6))).setCell ⟨w.heap.size + 1 + 1, 7, none⟩ (.int .i64 0)).setCell ⟨w.heap.size + 1 + 1, 8, none⟩ (.bool true)) = Z at *
      obtain ⟨h1, h2⟩ := hF
      have e0 : Z.cell? ⟨w.heap.size + 1 + 1, 0, none⟩ = some (.int .i64 a) := h1.cell 0
      have e1 : Z.cell? ⟨w.heap.size + 1 + 1, 1, none⟩ = some (.int .i64 l) := h1.cell 1
      have e2 : Z.cell? ⟨w.heap.size + 1 + 1, 2, none⟩ = some (.int .i64 m) := h1.cell 2
      have e3 : Z.cell? ⟨w.heap.size + 1 + 1, 3, none⟩ = some (.int .i64 n) := h1.cell 3
      have e4 : Z.cell? ⟨w.heap.size + 1 + 1, 4, none⟩ = some (.int .i64 ii) := h1.cell 4
      have e5 : Z.cell? ⟨w.heap.size + 1 + 1, 5, none⟩ = some (.int .i64 t) := h1.cell 5
      have e6 : Z.cell? ⟨w.heap.size + 1 + 1, 6, none⟩ = some (.int .i64 (now + 6)) := h1.cell 6
      have e7 : Z.cell? ⟨w.heap.size + 1 + 1, 7, none⟩ = some (.int .i64 0) := h1.cell 7
      have e8 : Z.cell? ⟨w.heap.size + 1 + 1, 8, none⟩ = some (.bool true) := h1.cell 8
      exact bodyPost_ret (v := .agg #[.int .i64 a, .int .i64 l, .int .i64 m, .int .i64 n, .int .i64 ii, .int .i64 t, .int .i64 (now + 6), .int .i64 0, .bool true]) (by simp [results, Tryz.results176, go_sem, e0, e1, e2, e3, e4, e5, e6, e7, e8]) rfl ⟨rfl, h2⟩
end Go.Proofs.YtifckpncpjijiaaGreat
/- What stands in a route's place once another one is told: by the program. (Written by gen_learn.py.) -/
namespace Go.Proofs.YtifckpncpjijiaaGreat
open Go.RowKit Go.Sort

set_option maxRecDepth 100000 in
set_option maxHeartbeats 4000000 in
theorem heard_any (old r : Rt) (now : Int) (w : World) (h0 : 0 ≤ now) (h1 : now ≤ 999900) : Calls Tryz.prog 155 #[rtV old, rtV r, .int .i64 now] w fun e w' => e = .returned (rtV (heardR old r now)) ∧ Below w.heap.size w w' := by
  have HO : Hid (∀ w, Calls Tryz.prog 151 #[rtV old] w fun e w' => e = .returned (.bool (decide (old.n = 0))) ∧ Below w.heap.size w w') := isOwn_any old
  unfold heardR
  by_cases c1 : old.n = 0
  · rw [if_pos c1]
    rw [decide_eq_true c1] at HO
    clear h0 h1 c1
    obtain ⟨A, L, M, O, I, T, U, E, C⟩ := old
    obtain ⟨a, l, m, n, ii, t, u, b, c⟩ := r
    unfold rtV rtA at *
    simp only at HO ⊢
    obtain ⟨W, hW, q0, q1, q2, hB, hS, -⟩ := rows3 w [.int .i64 A, .int .i64 L, .int .i64 M, .int .i64 O, .int .i64 I, .int .i64 T, .int .i64 U, .int .i64 E, .bool C] [.int .i64 a, .int .i64 l, .int .i64 m, .int .i64 n, .int .i64 ii, .int .i64 t, .int .i64 u, .int .i64 b, .bool c] [.int .i64 0, .int .i64 0, .int .i64 0, .int .i64 0, .int .i64 0, .int .i64 0, .int .i64 0, .int .i64 0, .bool false] 98 98 98
    have HW : Hid _ := hW
    have HQ : Hid _ := And.intro q0 (And.intro q1 (And.intro q2 hB))
    have x0 : W.cell? ⟨w.heap.size, 0, none⟩ = some (.int .i64 A) := q0.cell 0
    have x1 : W.cell? ⟨w.heap.size, 1, none⟩ = some (.int .i64 L) := q0.cell 1
    have x2 : W.cell? ⟨w.heap.size, 2, none⟩ = some (.int .i64 M) := q0.cell 2
    have x3 : W.cell? ⟨w.heap.size, 3, none⟩ = some (.int .i64 O) := q0.cell 3
    have x4 : W.cell? ⟨w.heap.size, 4, none⟩ = some (.int .i64 I) := q0.cell 4
    have x5 : W.cell? ⟨w.heap.size, 5, none⟩ = some (.int .i64 T) := q0.cell 5
    have x6 : W.cell? ⟨w.heap.size, 6, none⟩ = some (.int .i64 U) := q0.cell 6
    have x7 : W.cell? ⟨w.heap.size, 7, none⟩ = some (.int .i64 E) := q0.cell 7
    have x8 : W.cell? ⟨w.heap.size, 8, none⟩ = some (.bool C) := q0.cell 8
    have y0 : W.cell? ⟨w.heap.size + 1, 0, none⟩ = some (.int .i64 a) := q1.cell 0
    have y1 : W.cell? ⟨w.heap.size + 1, 1, none⟩ = some (.int .i64 l) := q1.cell 1
    have y2 : W.cell? ⟨w.heap.size + 1, 2, none⟩ = some (.int .i64 m) := q1.cell 2
    have y3 : W.cell? ⟨w.heap.size + 1, 3, none⟩ = some (.int .i64 n) := q1.cell 3
    have y4 : W.cell? ⟨w.heap.size + 1, 4, none⟩ = some (.int .i64 ii) := q1.cell 4
    have y5 : W.cell? ⟨w.heap.size + 1, 5, none⟩ = some (.int .i64 t) := q1.cell 5
    have y6 : W.cell? ⟨w.heap.size + 1, 6, none⟩ = some (.int .i64 u) := q1.cell 6
    have y7 : W.cell? ⟨w.heap.size + 1, 7, none⟩ = some (.int .i64 b) := q1.cell 7
    have y8 : W.cell? ⟨w.heap.size + 1, 8, none⟩ = some (.bool c) := q1.cell 8
    rw [hW] at x0 x1 x2 x3 x4 x5 x6 x7 x8 y0 y1 y2 y3 y4 y5 y6 y7 y8
    clear hW q0 q1 q2 hB
    go_enter Tryz.func155, Tryz.ntmps155
    go_wp2_with fail
    rw [← HW.out]
    obtain ⟨q0, q1, q2, hB⟩ := HQ.out
    clear HQ x0 x1 x2 x3 x4 x5 x6 x7 x8 y0 y1 y2 y3 y4 y5 y6 y7 y8
    refine (HO.out _).mono ?_
    rintro e w1 ⟨rfl, hb1⟩
    have q0 := q0.below hb1 (by omega)
    have q1 := q1.below hb1 (by omega)
    have q2 := q2.below hb1 (by omega)
    have hB := hB.trans (hb1.mono (by omega))
    have hs1 := hb1.size
    clear hb1
    have x0 : w1.cell? ⟨w.heap.size, 0, none⟩ = some (.int .i64 A) := q0.cell 0
    have x1 : w1.cell? ⟨w.heap.size, 1, none⟩ = some (.int .i64 L) := q0.cell 1
    have x2 : w1.cell? ⟨w.heap.size, 2, none⟩ = some (.int .i64 M) := q0.cell 2
    have x3 : w1.cell? ⟨w.heap.size, 3, none⟩ = some (.int .i64 O) := q0.cell 3
    have x4 : w1.cell? ⟨w.heap.size, 4, none⟩ = some (.int .i64 I) := q0.cell 4
    have x5 : w1.cell? ⟨w.heap.size, 5, none⟩ = some (.int .i64 T) := q0.cell 5
    have x6 : w1.cell? ⟨w.heap.size, 6, none⟩ = some (.int .i64 U) := q0.cell 6
    have x7 : w1.cell? ⟨w.heap.size, 7, none⟩ = some (.int .i64 E) := q0.cell 7
    have x8 : w1.cell? ⟨w.heap.size, 8, none⟩ = some (.bool C) := q0.cell 8
    have y0 : w1.cell? ⟨w.heap.size + 1, 0, none⟩ = some (.int .i64 a) := q1.cell 0
    have y1 : w1.cell? ⟨w.heap.size + 1, 1, none⟩ = some (.int .i64 l) := q1.cell 1
    have y2 : w1.cell? ⟨w.heap.size + 1, 2, none⟩ = some (.int .i64 m) := q1.cell 2
    have y3 : w1.cell? ⟨w.heap.size + 1, 3, none⟩ = some (.int .i64 n) := q1.cell 3
    have y4 : w1.cell? ⟨w.heap.size + 1, 4, none⟩ = some (.int .i64 ii) := q1.cell 4
    have y5 : w1.cell? ⟨w.heap.size + 1, 5, none⟩ = some (.int .i64 t) := q1.cell 5
    have y6 : w1.cell? ⟨w.heap.size + 1, 6, none⟩ = some (.int .i64 u) := q1.cell 6
    have y7 : w1.cell? ⟨w.heap.size + 1, 7, none⟩ = some (.int .i64 b) := q1.cell 7
    have y8 : w1.cell? ⟨w.heap.size + 1, 8, none⟩ = some (.bool c) := q1.cell 8
    clear HO
    have z0 : w1.cell? ⟨w.heap.size + 1 + 1, 0, none⟩ = some (.int .i64 0) := q2.cell 0
    have z1 : w1.cell? ⟨w.heap.size + 1 + 1, 1, none⟩ = some (.int .i64 0) := q2.cell 1
    have z2 : w1.cell? ⟨w.heap.size + 1 + 1, 2, none⟩ = some (.int .i64 0) := q2.cell 2
    have z3 : w1.cell? ⟨w.heap.size + 1 + 1, 3, none⟩ = some (.int .i64 0) := q2.cell 3
    have z4 : w1.cell? ⟨w.heap.size + 1 + 1, 4, none⟩ = some (.int .i64 0) := q2.cell 4
    have z5 : w1.cell? ⟨w.heap.size + 1 + 1, 5, none⟩ = some (.int .i64 0) := q2.cell 5
    have z6 : w1.cell? ⟨w.heap.size + 1 + 1, 6, none⟩ = some (.int .i64 0) := q2.cell 6
    have z7 : w1.cell? ⟨w.heap.size + 1 + 1, 7, none⟩ = some (.int .i64 0) := q2.cell 7
    have z8 : w1.cell? ⟨w.heap.size + 1 + 1, 8, none⟩ = some (.bool false) := q2.cell 8
    have f0 : w1.frozen? ⟨w.heap.size + 1 + 1, 0, none⟩ = false := q2.frozen 0
    have f1 : w1.frozen? ⟨w.heap.size + 1 + 1, 1, none⟩ = false := q2.frozen 1
    have f2 : w1.frozen? ⟨w.heap.size + 1 + 1, 2, none⟩ = false := q2.frozen 2
    have f3 : w1.frozen? ⟨w.heap.size + 1 + 1, 3, none⟩ = false := q2.frozen 3
    have f4 : w1.frozen? ⟨w.heap.size + 1 + 1, 4, none⟩ = false := q2.frozen 4
    have f5 : w1.frozen? ⟨w.heap.size + 1 + 1, 5, none⟩ = false := q2.frozen 5
    have f6 : w1.frozen? ⟨w.heap.size + 1 + 1, 6, none⟩ = false := q2.frozen 6
    have f7 : w1.frozen? ⟨w.heap.size + 1 + 1, 7, none⟩ = false := q2.frozen 7
    have f8 : w1.frozen? ⟨w.heap.size + 1 + 1, 8, none⟩ = false := q2.frozen 8
    have HE : Hid _ := And.intro (nine0_row q2 (.int .i64 A) (.int .i64 L) (.int .i64 M) (.int .i64 O) (.int .i64 I) (.int .i64 T) (.int .i64 U) (.int .i64 E) (.bool C)) (nine0_below hB (w.heap.size + 1 + 1) (by omega) (.int .i64 A) (.int .i64 L) (.int .i64 M) (.int .i64 O) (.int .i64 I) (.int .i64 T) (.int .i64 U) (.int .i64 E) (.bool C))
    clear q2 hB q0 q1 HW
    go_wp2_with fail
    have hF := HE.out
    clear HE z0 z1 z2 z3 z4 z5 z6 z7 z8 f0 f1 f2 f3 f4 f5 f6 f7 f8
    unfold nine0 at hF
    generalize (((((((((w1.setCell ⟨w.heap.size + 1 + 1, 0, none⟩ (.int .i64 A)).setCell ⟨w.heap.size + 1 + 1, 1, none⟩ (.int .i64 L)).setCell ⟨w.heap.size + 1 + 1, 2, none⟩ (.int .i64 M)).setCell ⟨w.heap.size + 1 + 1, 3, none⟩ (.int .i64 O)).setCell ⟨w.heap.size + 1 + 1, 4, none⟩ (.int .i64 I)).setCell ⟨w.heap.size + 1 + 1, 5, none⟩ (.int .i64 T)).setCell ⟨w.heap.size + 1 + 1, 6, none⟩ (.int .i64 U)).setCell ⟨w.heap.size + 1 + 1, 7, none⟩ (.int .i64 E)).setCell ⟨w.heap.size + 1 + 1, 8, none⟩ (.bool C)) = Z at *
    obtain ⟨h1, h2⟩ := hF
    have e0 : Z.cell? ⟨w.heap.size + 1 + 1, 0, none⟩ = some (.int .i64 A) := h1.cell 0
    have e1 : Z.cell? ⟨w.heap.size + 1 + 1, 1, none⟩ = some (.int .i64 L) := h1.cell 1
    have e2 : Z.cell? ⟨w.heap.size + 1 + 1, 2, none⟩ = some (.int .i64 M) := h1.cell 2
    have e3 : Z.cell? ⟨w.heap.size + 1 + 1, 3, none⟩ = some (.int .i64 O) := h1.cell 3
    have e4 : Z.cell? ⟨w.heap.size + 1 + 1, 4, none⟩ = some (.int .i64 I) := h1.cell 4
    have e5 : Z.cell? ⟨w.heap.size + 1 + 1, 5, none⟩ = some (.int .i64 T) := h1.cell 5
    have e6 : Z.cell? ⟨w.heap.size + 1 + 1, 6, none⟩ = some (.int .i64 U) := h1.cell 6
    have e7 : Z.cell? ⟨w.heap.size + 1 + 1, 7, none⟩ = some (.int .i64 E) := h1.cell 7
    have e8 : Z.cell? ⟨w.heap.size + 1 + 1, 8, none⟩ = some (.bool C) := h1.cell 8
    exact bodyPost_ret (v := .agg #[.int .i64 A, .int .i64 L, .int .i64 M, .int .i64 O, .int .i64 I, .int .i64 T, .int .i64 U, .int .i64 E, .bool C]) (by simp [results, Tryz.results155, go_sem, e0, e1, e2, e3, e4, e5, e6, e7, e8]) rfl ⟨rfl, h2⟩
  · rw [if_neg c1]
    rw [decide_eq_false c1] at HO
    clear c1
    by_cases c2 : old.n = r.n ∧ old.i = r.i
    · rw [if_pos c2]
      have HC : Hid (∀ w, Calls Tryz.prog 176 #[rtV old, rtV r, .int .i64 now] w fun e w' => e = .returned (rtV (againR old r now)) ∧ Below w.heap.size w w') := fun w => again_any old r now w h0 h1
      have d1 : (old.n == r.n) = true := by simp [c2.1]
      have d2 : (old.i == r.i) = true := by simp [c2.2]
      clear h0 h1 c2
      generalize againR old r now = RR at *
      obtain ⟨A, L, M, O, I, T, U, E, C⟩ := old
      obtain ⟨a, l, m, n, ii, t, u, b, c⟩ := r
      obtain ⟨V0, V1, V2, V3, V4, V5, V6, V7, V8⟩ := RR
      unfold rtV rtA at *
      simp only at HO HC d1 d2 ⊢
      obtain ⟨W, hW, q0, q1, q2, hB, hS, -⟩ := rows3 w [.int .i64 A, .int .i64 L, .int .i64 M, .int .i64 O, .int .i64 I, .int .i64 T, .int .i64 U, .int .i64 E, .bool C] [.int .i64 a, .int .i64 l, .int .i64 m, .int .i64 n, .int .i64 ii, .int .i64 t, .int .i64 u, .int .i64 b, .bool c] [.int .i64 0, .int .i64 0, .int .i64 0, .int .i64 0, .int .i64 0, .int .i64 0, .int .i64 0, .int .i64 0, .bool false] 98 98 98
      have HW : Hid _ := hW
      have HQ : Hid _ := And.intro q0 (And.intro q1 (And.intro q2 hB))
      have x0 : W.cell? ⟨w.heap.size, 0, none⟩ = some (.int .i64 A) := q0.cell 0
      have x1 : W.cell? ⟨w.heap.size, 1, none⟩ = some (.int .i64 L) := q0.cell 1
      have x2 : W.cell? ⟨w.heap.size, 2, none⟩ = some (.int .i64 M) := q0.cell 2
      have x3 : W.cell? ⟨w.heap.size, 3, none⟩ = some (.int .i64 O) := q0.cell 3
      have x4 : W.cell? ⟨w.heap.size, 4, none⟩ = some (.int .i64 I) := q0.cell 4
      have x5 : W.cell? ⟨w.heap.size, 5, none⟩ = some (.int .i64 T) := q0.cell 5
      have x6 : W.cell? ⟨w.heap.size, 6, none⟩ = some (.int .i64 U) := q0.cell 6
      have x7 : W.cell? ⟨w.heap.size, 7, none⟩ = some (.int .i64 E) := q0.cell 7
      have x8 : W.cell? ⟨w.heap.size, 8, none⟩ = some (.bool C) := q0.cell 8
      have y0 : W.cell? ⟨w.heap.size + 1, 0, none⟩ = some (.int .i64 a) := q1.cell 0
      have y1 : W.cell? ⟨w.heap.size + 1, 1, none⟩ = some (.int .i64 l) := q1.cell 1
      have y2 : W.cell? ⟨w.heap.size + 1, 2, none⟩ = some (.int .i64 m) := q1.cell 2
      have y3 : W.cell? ⟨w.heap.size + 1, 3, none⟩ = some (.int .i64 n) := q1.cell 3
      have y4 : W.cell? ⟨w.heap.size + 1, 4, none⟩ = some (.int .i64 ii) := q1.cell 4
      have y5 : W.cell? ⟨w.heap.size + 1, 5, none⟩ = some (.int .i64 t) := q1.cell 5
      have y6 : W.cell? ⟨w.heap.size + 1, 6, none⟩ = some (.int .i64 u) := q1.cell 6
      have y7 : W.cell? ⟨w.heap.size + 1, 7, none⟩ = some (.int .i64 b) := q1.cell 7
      have y8 : W.cell? ⟨w.heap.size + 1, 8, none⟩ = some (.bool c) := q1.cell 8
      rw [hW] at x0 x1 x2 x3 x4 x5 x6 x7 x8 y0 y1 y2 y3 y4 y5 y6 y7 y8
      clear hW q0 q1 q2 hB
      go_enter Tryz.func155, Tryz.ntmps155
      go_wp2_with fail
      rw [← HW.out]
      obtain ⟨q0, q1, q2, hB⟩ := HQ.out
      clear HQ x0 x1 x2 x3 x4 x5 x6 x7 x8 y0 y1 y2 y3 y4 y5 y6 y7 y8
      refine (HO.out _).mono ?_
      rintro e w1 ⟨rfl, hb1⟩
      have q0 := q0.below hb1 (by omega)
      have q1 := q1.below hb1 (by omega)
      have q2 := q2.below hb1 (by omega)
      have hB := hB.trans (hb1.mono (by omega))
      have hs1 := hb1.size
      clear hb1
      have x0 : w1.cell? ⟨w.heap.size, 0, none⟩ = some (.int .i64 A) := q0.cell 0
      have x1 : w1.cell? ⟨w.heap.size, 1, none⟩ = some (.int .i64 L) := q0.cell 1
      have x2 : w1.cell? ⟨w.heap.size, 2, none⟩ = some (.int .i64 M) := q0.cell 2
      have x3 : w1.cell? ⟨w.heap.size, 3, none⟩ = some (.int .i64 O) := q0.cell 3
      have x4 : w1.cell? ⟨w.heap.size, 4, none⟩ = some (.int .i64 I) := q0.cell 4
      have x5 : w1.cell? ⟨w.heap.size, 5, none⟩ = some (.int .i64 T) := q0.cell 5
      have x6 : w1.cell? ⟨w.heap.size, 6, none⟩ = some (.int .i64 U) := q0.cell 6
      have x7 : w1.cell? ⟨w.heap.size, 7, none⟩ = some (.int .i64 E) := q0.cell 7
      have x8 : w1.cell? ⟨w.heap.size, 8, none⟩ = some (.bool C) := q0.cell 8
      have y0 : w1.cell? ⟨w.heap.size + 1, 0, none⟩ = some (.int .i64 a) := q1.cell 0
      have y1 : w1.cell? ⟨w.heap.size + 1, 1, none⟩ = some (.int .i64 l) := q1.cell 1
      have y2 : w1.cell? ⟨w.heap.size + 1, 2, none⟩ = some (.int .i64 m) := q1.cell 2
      have y3 : w1.cell? ⟨w.heap.size + 1, 3, none⟩ = some (.int .i64 n) := q1.cell 3
      have y4 : w1.cell? ⟨w.heap.size + 1, 4, none⟩ = some (.int .i64 ii) := q1.cell 4
      have y5 : w1.cell? ⟨w.heap.size + 1, 5, none⟩ = some (.int .i64 t) := q1.cell 5
      have y6 : w1.cell? ⟨w.heap.size + 1, 6, none⟩ = some (.int .i64 u) := q1.cell 6
      have y7 : w1.cell? ⟨w.heap.size + 1, 7, none⟩ = some (.int .i64 b) := q1.cell 7
      have y8 : w1.cell? ⟨w.heap.size + 1, 8, none⟩ = some (.bool c) := q1.cell 8
      go_wp2_with fail
      refine (HC.out _).mono ?_
      rintro e w2 ⟨rfl, hb2⟩
      clear x0 x1 x2 x3 x4 x5 x6 x7 x8 y0 y1 y2 y3 y4 y5 y6 y7 y8
      have q0 := q0.below hb2 (by omega)
      have q1 := q1.below hb2 (by omega)
      have q2 := q2.below hb2 (by omega)
      have hB := hB.trans (hb2.mono (by omega))
      have hs2 := hb2.size
      clear hb2
      clear HC HO
      have z0 : w2.cell? ⟨w.heap.size + 1 + 1, 0, none⟩ = some (.int .i64 0) := q2.cell 0
      have z1 : w2.cell? ⟨w.heap.size + 1 + 1, 1, none⟩ = some (.int .i64 0) := q2.cell 1
      have z2 : w2.cell? ⟨w.heap.size + 1 + 1, 2, none⟩ = some (.int .i64 0) := q2.cell 2
      have z3 : w2.cell? ⟨w.heap.size + 1 + 1, 3, none⟩ = some (.int .i64 0) := q2.cell 3
      have z4 : w2.cell? ⟨w.heap.size + 1 + 1, 4, none⟩ = some (.int .i64 0) := q2.cell 4
      have z5 : w2.cell? ⟨w.heap.size + 1 + 1, 5, none⟩ = some (.int .i64 0) := q2.cell 5
      have z6 : w2.cell? ⟨w.heap.size + 1 + 1, 6, none⟩ = some (.int .i64 0) := q2.cell 6
      have z7 : w2.cell? ⟨w.heap.size + 1 + 1, 7, none⟩ = some (.int .i64 0) := q2.cell 7
      have z8 : w2.cell? ⟨w.heap.size + 1 + 1, 8, none⟩ = some (.bool false) := q2.cell 8
      have f0 : w2.frozen? ⟨w.heap.size + 1 + 1, 0, none⟩ = false := q2.frozen 0
      have f1 : w2.frozen? ⟨w.heap.size + 1 + 1, 1, none⟩ = false := q2.frozen 1
      have f2 : w2.frozen? ⟨w.heap.size + 1 + 1, 2, none⟩ = false := q2.frozen 2
      have f3 : w2.frozen? ⟨w.heap.size + 1 + 1, 3, none⟩ = false := q2.frozen 3
      have f4 : w2.frozen? ⟨w.heap.size + 1 + 1, 4, none⟩ = false := q2.frozen 4
      have f5 : w2.frozen? ⟨w.heap.size + 1 + 1, 5, none⟩ = false := q2.frozen 5
      have f6 : w2.frozen? ⟨w.heap.size + 1 + 1, 6, none⟩ = false := q2.frozen 6
      have f7 : w2.frozen? ⟨w.heap.size + 1 + 1, 7, none⟩ = false := q2.frozen 7
      have f8 : w2.frozen? ⟨w.heap.size + 1 + 1, 8, none⟩ = false := q2.frozen 8
      have HE : Hid _ := And.intro (nine0_row q2 (.int .i64 V0) (.int .i64 V1) (.int .i64 V2) (.int .i64 V3) (.int .i64 V4) (.int .i64 V5) (.int .i64 V6) (.int .i64 V7) (.bool V8)) (nine0_below hB (w.heap.size + 1 + 1) (by omega) (.int .i64 V0) (.int .i64 V1) (.int .i64 V2) (.int .i64 V3) (.int .i64 V4) (.int .i64 V5) (.int .i64 V6) (.int .i64 V7) (.bool V8))
      clear q2 hB q0 q1 HW
      go_wp2_with fail
      have hF := HE.out
      clear HE z0 z1 z2 z3 z4 z5 z6 z7 z8 f0 f1 f2 f3 f4 f5 f6 f7 f8
      unfold nine0 at hF
      generalize (((((((((w2.setCell ⟨w.heap.size + 1 + 1, 0, none⟩ (.int .i64 V0)).setCell ⟨w.heap.size + 1 + 1, 1, none⟩ (.int .i64 V1)).setCell ⟨w.heap.size + 1 + 1, 2, none⟩ (.int .i64 V2)).setCell ⟨w.heap.size + 1 + 1, 3, none⟩ (.int .i64 V3)).setCell ⟨w.heap.size + 1 + 1, 4, none⟩ (.int .i64 V4)).setCell ⟨w.heap.size + 1 + 1, 5, none⟩ (.int .i64 V5)).setCell ⟨w.heap.size + 1 + 1, 6, none⟩ (.int .i64 V6)).setCell ⟨w.heap.size + 1 + 1, 7, none⟩ (.int .i64 V7)).setCell ⟨w.heap.size + 1 + 1, 8, none⟩ (.bool V8)) = Z at *
      obtain ⟨h1, h2⟩ := hF
      have e0 : Z.cell? ⟨w.heap.size + 1 + 1, 0, none⟩ = some (.int .i64 V0) := h1.cell 0
      have e1 : Z.cell? ⟨w.heap.size + 1 + 1, 1, none⟩ = some (.int .i64 V1) := h1.cell 1
      have e2 : Z.cell? ⟨w.heap.size + 1 + 1, 2, none⟩ = some (.int .i64 V2) := h1.cell 2
      have e3 : Z.cell? ⟨w.heap.size + 1 + 1, 3, none⟩ = some (.int .i64 V3) := h1.cell 3
      have e4 : Z.cell? ⟨w.heap.size + 1 + 1, 4, none⟩ = some (.int .i64 V4) := h1.cell 4
      have e5 : Z.cell? ⟨w.heap.size + 1 + 1, 5, none⟩ = some (.int .i64 V5) := h1.cell 5
      have e6 : Z.cell? ⟨w.heap.size + 1 + 1, 6, none⟩ = some (.int .i64 V6) := h1.cell 6
      have e7 : Z.cell? ⟨w.heap.size + 1 + 1, 7, none⟩ = some (.int .i64 V7) := h1.cell 7
      have e8 : Z.cell? ⟨w.heap.size + 1 + 1, 8, none⟩ = some (.bool V8) := h1.cell 8
      exact bodyPost_ret (v := .agg #[.int .i64 V0, .int .i64 V1, .int .i64 V2, .int .i64 V3, .int .i64 V4, .int .i64 V5, .int .i64 V6, .int .i64 V7, .bool V8]) (by simp [results, Tryz.results155, go_sem, e0, e1, e2, e3, e4, e5, e6, e7, e8]) rfl ⟨rfl, h2⟩
    · rw [if_neg c2]
      have HD : Hid ((if (old.n == r.n) = true then (old.i == r.i) else false) = false) := by
        show _ = _
        by_cases e1 : old.n = r.n
        · have : ¬ old.i = r.i := fun e2 => c2 ⟨e1, e2⟩
          simp [e1, this]
        · simp [e1]
      clear c2
      by_cases c3 : r.m < old.m
      · rw [if_pos c3]
        have HC : Hid (∀ w, Calls Tryz.prog 157 #[rtV r, .int .i64 now] w fun e w' => e = .returned (rtV (freshR r now)) ∧ Below w.heap.size w w') := fun w => fresh_any r now w h0 h1
        have d3 : decide (r.m < old.m) = true := by simpa using c3
        clear h0 h1 c3
        generalize freshR r now = RR at *
        obtain ⟨A, L, M, O, I, T, U, E, C⟩ := old
        obtain ⟨a, l, m, n, ii, t, u, b, c⟩ := r
        obtain ⟨V0, V1, V2, V3, V4, V5, V6, V7, V8⟩ := RR
        unfold rtV rtA at *
        simp only at HO HC HD d3 ⊢
        by_cases e1 : O = n
        · have d1 : (O == n) = true := by simpa using e1
          have d2 : (I == ii) = false := by have := HD.out; rw [if_pos d1] at this; exact this
          clear HD e1
          obtain ⟨W, hW, q0, q1, q2, hB, hS, -⟩ := rows3 w [.int .i64 A, .int .i64 L, .int .i64 M, .int .i64 O, .int .i64 I, .int .i64 T, .int .i64 U, .int .i64 E, .bool C] [.int .i64 a, .int .i64 l, .int .i64 m, .int .i64 n, .int .i64 ii, .int .i64 t, .int .i64 u, .int .i64 b, .bool c] [.int .i64 0, .int .i64 0, .int .i64 0, .int .i64 0, .int .i64 0, .int .i64 0, .int .i64 0, .int .i64 0, .bool false] 98 98 98
          have HW : Hid _ := hW
          have HQ : Hid _ := And.intro q0 (And.intro q1 (And.intro q2 hB))
          have x0 : W.cell? ⟨w.heap.size, 0, none⟩ = some (.int .i64 A) := q0.cell 0
          have x1 : W.cell? ⟨w.heap.size, 1, none⟩ = some (.int .i64 L) := q0.cell 1
          have x2 : W.cell? ⟨w.heap.size, 2, none⟩ = some (.int .i64 M) := q0.cell 2
          have x3 : W.cell? ⟨w.heap.size, 3, none⟩ = some (.int .i64 O) := q0.cell 3
          have x4 : W.cell? ⟨w.heap.size, 4, none⟩ = some (.int .i64 I) := q0.cell 4
          have x5 : W.cell? ⟨w.heap.size, 5, none⟩ = some (.int .i64 T) := q0.cell 5
          have x6 : W.cell? ⟨w.heap.size, 6, none⟩ = some (.int .i64 U) := q0.cell 6
          have x7 : W.cell? ⟨w.heap.size, 7, none⟩ = some (.int .i64 E) := q0.cell 7
          have x8 : W.cell? ⟨w.heap.size, 8, none⟩ = some (.bool C) := q0.cell 8
          have y0 : W.cell? ⟨w.heap.size + 1, 0, none⟩ = some (.int .i64 a) := q1.cell 0
          have y1 : W.cell? ⟨w.heap.size + 1, 1, none⟩ = some (.int .i64 l) := q1.cell 1
          have y2 : W.cell? ⟨w.heap.size + 1, 2, none⟩ = some (.int .i64 m) := q1.cell 2
          have y3 : W.cell? ⟨w.heap.size + 1, 3, none⟩ = some (.int .i64 n) := q1.cell 3
          have y4 : W.cell? ⟨w.heap.size + 1, 4, none⟩ = some (.int .i64 ii) := q1.cell 4
          have y5 : W.cell? ⟨w.heap.size + 1, 5, none⟩ = some (.int .i64 t) := q1.cell 5
          have y6 : W.cell? ⟨w.heap.size + 1, 6, none⟩ = some (.int .i64 u) := q1.cell 6
          have y7 : W.cell? ⟨w.heap.size + 1, 7, none⟩ = some (.int .i64 b) := q1.cell 7
          have y8 : W.cell? ⟨w.heap.size + 1, 8, none⟩ = some (.bool c) := q1.cell 8
          rw [hW] at x0 x1 x2 x3 x4 x5 x6 x7 x8 y0 y1 y2 y3 y4 y5 y6 y7 y8
          clear hW q0 q1 q2 hB
          go_enter Tryz.func155, Tryz.ntmps155
          go_wp2_with fail
          rw [← HW.out]
          obtain ⟨q0, q1, q2, hB⟩ := HQ.out
          clear HQ x0 x1 x2 x3 x4 x5 x6 x7 x8 y0 y1 y2 y3 y4 y5 y6 y7 y8
          refine (HO.out _).mono ?_
          rintro e w1 ⟨rfl, hb1⟩
          have q0 := q0.below hb1 (by omega)
          have q1 := q1.below hb1 (by omega)
          have q2 := q2.below hb1 (by omega)
          have hB := hB.trans (hb1.mono (by omega))
          have hs1 := hb1.size
          clear hb1
          have x0 : w1.cell? ⟨w.heap.size, 0, none⟩ = some (.int .i64 A) := q0.cell 0
          have x1 : w1.cell? ⟨w.heap.size, 1, none⟩ = some (.int .i64 L) := q0.cell 1
          have x2 : w1.cell? ⟨w.heap.size, 2, none⟩ = some (.int .i64 M) := q0.cell 2
          have x3 : w1.cell? ⟨w.heap.size, 3, none⟩ = some (.int .i64 O) := q0.cell 3
          have x4 : w1.cell? ⟨w.heap.size, 4, none⟩ = some (.int .i64 I) := q0.cell 4
          have x5 : w1.cell? ⟨w.heap.size, 5, none⟩ = some (.int .i64 T) := q0.cell 5
          have x6 : w1.cell? ⟨w.heap.size, 6, none⟩ = some (.int .i64 U) := q0.cell 6
          have x7 : w1.cell? ⟨w.heap.size, 7, none⟩ = some (.int .i64 E) := q0.cell 7
          have x8 : w1.cell? ⟨w.heap.size, 8, none⟩ = some (.bool C) := q0.cell 8
          have y0 : w1.cell? ⟨w.heap.size + 1, 0, none⟩ = some (.int .i64 a) := q1.cell 0
          have y1 : w1.cell? ⟨w.heap.size + 1, 1, none⟩ = some (.int .i64 l) := q1.cell 1
          have y2 : w1.cell? ⟨w.heap.size + 1, 2, none⟩ = some (.int .i64 m) := q1.cell 2
          have y3 : w1.cell? ⟨w.heap.size + 1, 3, none⟩ = some (.int .i64 n) := q1.cell 3
          have y4 : w1.cell? ⟨w.heap.size + 1, 4, none⟩ = some (.int .i64 ii) := q1.cell 4
          have y5 : w1.cell? ⟨w.heap.size + 1, 5, none⟩ = some (.int .i64 t) := q1.cell 5
          have y6 : w1.cell? ⟨w.heap.size + 1, 6, none⟩ = some (.int .i64 u) := q1.cell 6
          have y7 : w1.cell? ⟨w.heap.size + 1, 7, none⟩ = some (.int .i64 b) := q1.cell 7
          have y8 : w1.cell? ⟨w.heap.size + 1, 8, none⟩ = some (.bool c) := q1.cell 8
          go_wp2_with fail
          refine (HC.out _).mono ?_
          rintro e w2 ⟨rfl, hb2⟩
          clear x0 x1 x2 x3 x4 x5 x6 x7 x8 y0 y1 y2 y3 y4 y5 y6 y7 y8
          have q0 := q0.below hb2 (by omega)
          have q1 := q1.below hb2 (by omega)
          have q2 := q2.below hb2 (by omega)
          have hB := hB.trans (hb2.mono (by omega))
          have hs2 := hb2.size
          clear hb2
          clear HC HO
          have z0 : w2.cell? ⟨w.heap.size + 1 + 1, 0, none⟩ = some (.int .i64 0) := q2.cell 0
          have z1 : w2.cell? ⟨w.heap.size + 1 + 1, 1, none⟩ = some (.int .i64 0) := q2.cell 1
          have z2 : w2.cell? ⟨w.heap.size + 1 + 1, 2, none⟩ = some (.int .i64 0) := q2.cell 2
          have z3 : w2.cell? ⟨w.heap.size + 1 + 1, 3, none⟩ = some (.int .i64 0) := q2.cell 3
          have z4 : w2.cell? ⟨w.heap.size + 1 + 1, 4, none⟩ = some (.int .i64 0) := q2.cell 4
          have z5 : w2.cell? ⟨w.heap.size + 1 + 1, 5, none⟩ = some (.int .i64 0) := q2.cell 5
          have z6 : w2.cell? ⟨w.heap.size + 1 + 1, 6, none⟩ = some (.int .i64 0) := q2.cell 6
          have z7 : w2.cell? ⟨w.heap.size + 1 + 1, 7, none⟩ = some (.int .i64 0) := q2.cell 7
          have z8 : w2.cell? ⟨w.heap.size + 1 + 1, 8, none⟩ = some (.bool false) := q2.cell 8
          have f0 : w2.frozen? ⟨w.heap.size + 1 + 1, 0, none⟩ = false := q2.frozen 0
          have f1 : w2.frozen? ⟨w.heap.size + 1 + 1, 1, none⟩ = false := q2.frozen 1
          have f2 : w2.frozen? ⟨w.heap.size + 1 + 1, 2, none⟩ = false := q2.frozen 2
          have f3 : w2.frozen? ⟨w.heap.size + 1 + 1, 3, none⟩ = false := q2.frozen 3
          have f4 : w2.frozen? ⟨w.heap.size + 1 + 1, 4, none⟩ = false := q2.frozen 4
          have f5 : w2.frozen? ⟨w.heap.size + 1 + 1, 5, none⟩ = false := q2.frozen 5
          have f6 : w2.frozen? ⟨w.heap.size + 1 + 1, 6, none⟩ = false := q2.frozen 6
          have f7 : w2.frozen? ⟨w.heap.size + 1 + 1, 7, none⟩ = false := q2.frozen 7
          have f8 : w2.frozen? ⟨w.heap.size + 1 + 1, 8, none⟩ = false := q2.frozen 8
          have HE : Hid _ := And.intro (nine0_row q2 (.int .i64 V0) (.int .i64 V1) (.int .i64 V2) (.int .i64 V3) (.int .i64 V4) (.int .i64 V5) (.int .i64 V6) (.int .i64 V7) (.bool V8)) (nine0_below hB (w.heap.size + 1 + 1) (by omega) (.int .i64 V0) (.int .i64 V1) (.int .i64 V2) (.int .i64 V3) (.int .i64 V4) (.int .i64 V5) (.int .i64 V6) (.int .i64 V7) (.bool V8))
          clear q2 hB q0 q1 HW
          go_wp2_with fail
          have hF := HE.out
          clear HE z0 z1 z2 z3 z4 z5 z6 z7 z8 f0 f1 f2 f3 f4 f5 f6 f7 f8
          unfold nine0 at hF
          generalize (((((((((w2.setCell ⟨w.heap.size + 1 + 1, 0, none⟩ (.int .i64 V0)).setCell ⟨w.heap.size + 1 + 1, 1, none⟩ (.int .i64 V1)).setCell ⟨w.heap.size + 1 + 1, 2, none⟩ (.int .i64 V2)).setCell ⟨w.heap.size + 1 + 1, 3, none⟩ (.int .i64 V3)).setCell ⟨w.heap.size + 1 + 1, 4, none⟩ (.int .i64 V4)).setCell ⟨w.heap.size + 1 + 1, 5, none⟩ (.int .i64 V5)).setCell ⟨w.heap.size + 1 + 1, 6, none⟩ (.int .i64 V6)).setCell ⟨w.heap.size + 1 + 1, 7, none⟩ (.int .i64 V7)).setCell ⟨w.heap.size + 1 + 1, 8, none⟩ (.bool V8)) = Z at *
          obtain ⟨h1, h2⟩ := hF
          have e0 : Z.cell? ⟨w.heap.size + 1 + 1, 0, none⟩ = some (.int .i64 V0) := h1.cell 0
          have e1 : Z.cell? ⟨w.heap.size + 1 + 1, 1, none⟩ = some (.int .i64 V1) := h1.cell 1
          have e2 : Z.cell? ⟨w.heap.size + 1 + 1, 2, none⟩ = some (.int .i64 V2) := h1.cell 2
          have e3 : Z.cell? ⟨w.heap.size + 1 + 1, 3, none⟩ = some (.int .i64 V3) := h1.cell 3
          have e4 : Z.cell? ⟨w.heap.size + 1 + 1, 4, none⟩ = some (.int .i64 V4) := h1.cell 4
          have e5 : Z.cell? ⟨w.heap.size + 1 + 1, 5, none⟩ = some (.int .i64 V5) := h1.cell 5
          have e6 : Z.cell? ⟨w.heap.size + 1 + 1, 6, none⟩ = some (.int .i64 V6) := h1.cell 6
          have e7 : Z.cell? ⟨w.heap.size + 1 + 1, 7, none⟩ = some (.int .i64 V7) := h1.cell 7
          have e8 : Z.cell? ⟨w.heap.size + 1 + 1, 8, none⟩ = some (.bool V8) := h1.cell 8
          exact bodyPost_ret (v := .agg #[.int .i64 V0, .int .i64 V1, .int .i64 V2, .int .i64 V3, .int .i64 V4, .int .i64 V5, .int .i64 V6, .int .i64 V7, .bool V8]) (by simp [results, Tryz.results155, go_sem, e0, e1, e2, e3, e4, e5, e6, e7, e8]) rfl ⟨rfl, h2⟩
        · have d1 : (O == n) = false := by simpa using e1
          clear HD e1
          obtain ⟨W, hW, q0, q1, q2, hB, hS, -⟩ := rows3 w [.int .i64 A, .int .i64 L, .int .i64 M, .int .i64 O, .int .i64 I, .int .i64 T, .int .i64 U, .int .i64 E, .bool C] [.int .i64 a, .int .i64 l, .int .i64 m, .int .i64 n, .int .i64 ii, .int .i64 t, .int .i64 u, .int .i64 b, .bool c] [.int .i64 0, .int .i64 0, .int .i64 0, .int .i64 0, .int .i64 0, .int .i64 0, .int .i64 0, .int .i64 0, .bool false] 98 98 98
          have HW : Hid _ := hW
          have HQ : Hid _ := And.intro q0 (And.intro q1 (And.intro q2 hB))
          have x0 : W.cell? ⟨w.heap.size, 0, none⟩ = some (.int .i64 A) := q0.cell 0
          have x1 : W.cell? ⟨w.heap.size, 1, none⟩ = some (.int .i64 L) := q0.cell 1
          have x2 : W.cell? ⟨w.heap.size, 2, none⟩ = some (.int .i64 M) := q0.cell 2
          have x3 : W.cell? ⟨w.heap.size, 3, none⟩ = some (.int .i64 O) := q0.cell 3
          have x4 : W.cell? ⟨w.heap.size, 4, none⟩ = some (.int .i64 I) := q0.cell 4
          have x5 : W.cell? ⟨w.heap.size, 5, none⟩ = some (.int .i64 T) := q0.cell 5
          have x6 : W.cell? ⟨w.heap.size, 6, none⟩ = some (.int .i64 U) := q0.cell 6
          have x7 : W.cell? ⟨w.heap.size, 7, none⟩ = some (.int .i64 E) := q0.cell 7
          have x8 : W.cell? ⟨w.heap.size, 8, none⟩ = some (.bool C) := q0.cell 8
          have y0 : W.cell? ⟨w.heap.size + 1, 0, none⟩ = some (.int .i64 a) := q1.cell 0
          have y1 : W.cell? ⟨w.heap.size + 1, 1, none⟩ = some (.int .i64 l) := q1.cell 1
          have y2 : W.cell? ⟨w.heap.size + 1, 2, none⟩ = some (.int .i64 m) := q1.cell 2
          have y3 : W.cell? ⟨w.heap.size + 1, 3, none⟩ = some (.int .i64 n) := q1.cell 3
          have y4 : W.cell? ⟨w.heap.size + 1, 4, none⟩ = some (.int .i64 ii) := q1.cell 4
          have y5 : W.cell? ⟨w.heap.size + 1, 5, none⟩ = some (.int .i64 t) := q1.cell 5
          have y6 : W.cell? ⟨w.heap.size + 1, 6, none⟩ = some (.int .i64 u) := q1.cell 6
          have y7 : W.cell? ⟨w.heap.size + 1, 7, none⟩ = some (.int .i64 b) := q1.cell 7
          have y8 : W.cell? ⟨w.heap.size + 1, 8, none⟩ = some (.bool c) := q1.cell 8
          rw [hW] at x0 x1 x2 x3 x4 x5 x6 x7 x8 y0 y1 y2 y3 y4 y5 y6 y7 y8
          clear hW q0 q1 q2 hB
          go_enter Tryz.func155, Tryz.ntmps155
          go_wp2_with fail
          rw [← HW.out]
          obtain ⟨q0, q1, q2, hB⟩ := HQ.out
          clear HQ x0 x1 x2 x3 x4 x5 x6 x7 x8 y0 y1 y2 y3 y4 y5 y6 y7 y8
          refine (HO.out _).mono ?_
          rintro e w1 ⟨rfl, hb1⟩
          have q0 := q0.below hb1 (by omega)
          have q1 := q1.below hb1 (by omega)
          have q2 := q2.below hb1 (by omega)
          have hB := hB.trans (hb1.mono (by omega))
          have hs1 := hb1.size
          clear hb1
          have x0 : w1.cell? ⟨w.heap.size, 0, none⟩ = some (.int .i64 A) := q0.cell 0
          have x1 : w1.cell? ⟨w.heap.size, 1, none⟩ = some (.int .i64 L) := q0.cell 1
          have x2 : w1.cell? ⟨w.heap.size, 2, none⟩ = some (.int .i64 M) := q0.cell 2
          have x3 : w1.cell? ⟨w.heap.size, 3, none⟩ = some (.int .i64 O) := q0.cell 3
          have x4 : w1.cell? ⟨w.heap.size, 4, none⟩ = some (.int .i64 I) := q0.cell 4
          have x5 : w1.cell? ⟨w.heap.size, 5, none⟩ = some (.int .i64 T) := q0.cell 5
          have x6 : w1.cell? ⟨w.heap.size, 6, none⟩ = some (.int .i64 U) := q0.cell 6
          have x7 : w1.cell? ⟨w.heap.size, 7, none⟩ = some (.int .i64 E) := q0.cell 7
          have x8 : w1.cell? ⟨w.heap.size, 8, none⟩ = some (.bool C) := q0.cell 8
          have y0 : w1.cell? ⟨w.heap.size + 1, 0, none⟩ = some (.int .i64 a) := q1.cell 0
          have y1 : w1.cell? ⟨w.heap.size + 1, 1, none⟩ = some (.int .i64 l) := q1.cell 1
          have y2 : w1.cell? ⟨w.heap.size + 1, 2, none⟩ = some (.int .i64 m) := q1.cell 2
          have y3 : w1.cell? ⟨w.heap.size + 1, 3, none⟩ = some (.int .i64 n) := q1.cell 3
          have y4 : w1.cell? ⟨w.heap.size + 1, 4, none⟩ = some (.int .i64 ii) := q1.cell 4
          have y5 : w1.cell? ⟨w.heap.size + 1, 5, none⟩ = some (.int .i64 t) := q1.cell 5
          have y6 : w1.cell? ⟨w.heap.size + 1, 6, none⟩ = some (.int .i64 u) := q1.cell 6
          have y7 : w1.cell? ⟨w.heap.size + 1, 7, none⟩ = some (.int .i64 b) := q1.cell 7
          have y8 : w1.cell? ⟨w.heap.size + 1, 8, none⟩ = some (.bool c) := q1.cell 8
          go_wp2_with fail
          refine (HC.out _).mono ?_
          rintro e w2 ⟨rfl, hb2⟩
          clear x0 x1 x2 x3 x4 x5 x6 x7 x8 y0 y1 y2 y3 y4 y5 y6 y7 y8
          have q0 := q0.below hb2 (by omega)
          have q1 := q1.below hb2 (by omega)
          have q2 := q2.below hb2 (by omega)
          have hB := hB.trans (hb2.mono (by omega))
          have hs2 := hb2.size
          clear hb2
          clear HC HO
          have z0 : w2.cell? ⟨w.heap.size + 1 + 1, 0, none⟩ = some (.int .i64 0) := q2.cell 0
          have z1 : w2.cell? ⟨w.heap.size + 1 + 1, 1, none⟩ = some (.int .i64 0) := q2.cell 1
          have z2 : w2.cell? ⟨w.heap.size + 1 + 1, 2, none⟩ = some (.int .i64 0) := q2.cell 2
          have z3 : w2.cell? ⟨w.heap.size + 1 + 1, 3, none⟩ = some (.int .i64 0) := q2.cell 3
          have z4 : w2.cell? ⟨w.heap.size + 1 + 1, 4, none⟩ = some (.int .i64 0) := q2.cell 4
          have z5 : w2.cell? ⟨w.heap.size + 1 + 1, 5, none⟩ = some (.int .i64 0) := q2.cell 5
          have z6 : w2.cell? ⟨w.heap.size + 1 + 1, 6, none⟩ = some (.int .i64 0) := q2.cell 6
          have z7 : w2.cell? ⟨w.heap.size + 1 + 1, 7, none⟩ = some (.int .i64 0) := q2.cell 7
          have z8 : w2.cell? ⟨w.heap.size + 1 + 1, 8, none⟩ = some (.bool false) := q2.cell 8
          have f0 : w2.frozen? ⟨w.heap.size + 1 + 1, 0, none⟩ = false := q2.frozen 0
          have f1 : w2.frozen? ⟨w.heap.size + 1 + 1, 1, none⟩ = false := q2.frozen 1
          have f2 : w2.frozen? ⟨w.heap.size + 1 + 1, 2, none⟩ = false := q2.frozen 2
          have f3 : w2.frozen? ⟨w.heap.size + 1 + 1, 3, none⟩ = false := q2.frozen 3
          have f4 : w2.frozen? ⟨w.heap.size + 1 + 1, 4, none⟩ = false := q2.frozen 4
          have f5 : w2.frozen? ⟨w.heap.size + 1 + 1, 5, none⟩ = false := q2.frozen 5
          have f6 : w2.frozen? ⟨w.heap.size + 1 + 1, 6, none⟩ = false := q2.frozen 6
          have f7 : w2.frozen? ⟨w.heap.size + 1 + 1, 7, none⟩ = false := q2.frozen 7
          have f8 : w2.frozen? ⟨w.heap.size + 1 + 1, 8, none⟩ = false := q2.frozen 8
          have HE : Hid _ := And.intro (nine0_row q2 (.int .i64 V0) (.int .i64 V1) (.int .i64 V2) (.int .i64 V3) (.int .i64 V4) (.int .i64 V5) (.int .i64 V6) (.int .i64 V7) (.bool V8)) (nine0_below hB (w.heap.size + 1 + 1) (by omega) (.int .i64 V0) (.int .i64 V1) (.int .i64 V2) (.int .i64 V3) (.int .i64 V4) (.int .i64 V5) (.int .i64 V6) (.int .i64 V7) (.bool V8))
          clear q2 hB q0 q1 HW
          go_wp2_with fail
          have hF := HE.out
          clear HE z0 z1 z2 z3 z4 z5 z6 z7 z8 f0 f1 f2 f3 f4 f5 f6 f7 f8
          unfold nine0 at hF
          generalize (((((((((w2.setCell ⟨w.heap.size + 1 + 1, 0, none⟩ (.int .i64 V0)).setCell ⟨w.heap.size + 1 + 1, 1, none⟩ (.int .i64 V1)).setCell ⟨w.heap.size + 1 + 1, 2, none⟩ (.int .i64 V2)).setCell ⟨w.heap.size + 1 + 1, 3, none⟩ (.int .i64 V3)).setCell ⟨w.heap.size + 1 + 1, 4, none⟩ (.int .i64 V4)).setCell ⟨w.heap.size + 1 + 1, 5, none⟩ (.int .i64 V5)).setCell ⟨w.heap.size + 1 + 1, 6, none⟩ (.int .i64 V6)).setCell ⟨w.heap.size + 1 + 1, 7, none⟩ (.int .i64 V7)).setCell ⟨w.heap.size + 1 + 1, 8, none⟩ (.bool V8)) = Z at *
          obtain ⟨h1, h2⟩ := hF
          have e0 : Z.cell? ⟨w.heap.size + 1 + 1, 0, none⟩ = some (.int .i64 V0) := h1.cell 0
          have e1 : Z.cell? ⟨w.heap.size + 1 + 1, 1, none⟩ = some (.int .i64 V1) := h1.cell 1
          have e2 : Z.cell? ⟨w.heap.size + 1 + 1, 2, none⟩ = some (.int .i64 V2) := h1.cell 2
          have e3 : Z.cell? ⟨w.heap.size + 1 + 1, 3, none⟩ = some (.int .i64 V3) := h1.cell 3
          have e4 : Z.cell? ⟨w.heap.size + 1 + 1, 4, none⟩ = some (.int .i64 V4) := h1.cell 4
          have e5 : Z.cell? ⟨w.heap.size + 1 + 1, 5, none⟩ = some (.int .i64 V5) := h1.cell 5
          have e6 : Z.cell? ⟨w.heap.size + 1 + 1, 6, none⟩ = some (.int .i64 V6) := h1.cell 6
          have e7 : Z.cell? ⟨w.heap.size + 1 + 1, 7, none⟩ = some (.int .i64 V7) := h1.cell 7
          have e8 : Z.cell? ⟨w.heap.size + 1 + 1, 8, none⟩ = some (.bool V8) := h1.cell 8
          exact bodyPost_ret (v := .agg #[.int .i64 V0, .int .i64 V1, .int .i64 V2, .int .i64 V3, .int .i64 V4, .int .i64 V5, .int .i64 V6, .int .i64 V7, .bool V8]) (by simp [results, Tryz.results155, go_sem, e0, e1, e2, e3, e4, e5, e6, e7, e8]) rfl ⟨rfl, h2⟩
      · rw [if_neg c3]
        have d3 : decide (r.m < old.m) = false := by simpa using c3
        clear h0 h1 c3
        obtain ⟨A, L, M, O, I, T, U, E, C⟩ := old
        obtain ⟨a, l, m, n, ii, t, u, b, c⟩ := r
        unfold rtV rtA at *
        simp only at HO HD d3 ⊢
        by_cases e1 : O = n
        · have d1 : (O == n) = true := by simpa using e1
          have d2 : (I == ii) = false := by have := HD.out; rw [if_pos d1] at this; exact this
          clear HD e1
          obtain ⟨W, hW, q0, q1, q2, hB, hS, -⟩ := rows3 w [.int .i64 A, .int .i64 L, .int .i64 M, .int .i64 O, .int .i64 I, .int .i64 T, .int .i64 U, .int .i64 E, .bool C] [.int .i64 a, .int .i64 l, .int .i64 m, .int .i64 n, .int .i64 ii, .int .i64 t, .int .i64 u, .int .i64 b, .bool c] [.int .i64 0, .int .i64 0, .int .i64 0, .int .i64 0, .int .i64 0, .int .i64 0, .int .i64 0, .int .i64 0, .bool false] 98 98 98
          have HW : Hid _ := hW
          have HQ : Hid _ := And.intro q0 (And.intro q1 (And.intro q2 hB))
          have x0 : W.cell? ⟨w.heap.size, 0, none⟩ = some (.int .i64 A) := q0.cell 0
          have x1 : W.cell? ⟨w.heap.size, 1, none⟩ = some (.int .i64 L) := q0.cell 1
          have x2 : W.cell? ⟨w.heap.size, 2, none⟩ = some (.int .i64 M) := q0.cell 2
          have x3 : W.cell? ⟨w.heap.size, 3, none⟩ = some (.int .i64 O) := q0.cell 3
          have x4 : W.cell? ⟨w.heap.size, 4, none⟩ = some (.int .i64 I) := q0.cell 4
          have x5 : W.cell? ⟨w.heap.size, 5, none⟩ = some (.int .i64 T) := q0.cell 5
          have x6 : W.cell? ⟨w.heap.size, 6, none⟩ = some (.int .i64 U) := q0.cell 6
          have x7 : W.cell? ⟨w.heap.size, 7, none⟩ = some (.int .i64 E) := q0.cell 7
          have x8 : W.cell? ⟨w.heap.size, 8, none⟩ = some (.bool C) := q0.cell 8
          have y0 : W.cell? ⟨w.heap.size + 1, 0, none⟩ = some (.int .i64 a) := q1.cell 0
          have y1 : W.cell? ⟨w.heap.size + 1, 1, none⟩ = some (.int .i64 l) := q1.cell 1
          have y2 : W.cell? ⟨w.heap.size + 1, 2, none⟩ = some (.int .i64 m) := q1.cell 2
          have y3 : W.cell? ⟨w.heap.size + 1, 3, none⟩ = some (.int .i64 n) := q1.cell 3
          have y4 : W.cell? ⟨w.heap.size + 1, 4, none⟩ = some (.int .i64 ii) := q1.cell 4
          have y5 : W.cell? ⟨w.heap.size + 1, 5, none⟩ = some (.int .i64 t) := q1.cell 5
          have y6 : W.cell? ⟨w.heap.size + 1, 6, none⟩ = some (.int .i64 u) := q1.cell 6
          have y7 : W.cell? ⟨w.heap.size + 1, 7, none⟩ = some (.int .i64 b) := q1.cell 7
          have y8 : W.cell? ⟨w.heap.size + 1, 8, none⟩ = some (.bool c) := q1.cell 8
          rw [hW] at x0 x1 x2 x3 x4 x5 x6 x7 x8 y0 y1 y2 y3 y4 y5 y6 y7 y8
          clear hW q0 q1 q2 hB
          go_enter Tryz.func155, Tryz.ntmps155
          go_wp2_with fail
          rw [← HW.out]
          obtain ⟨q0, q1, q2, hB⟩ := HQ.out
          clear HQ x0 x1 x2 x3 x4 x5 x6 x7 x8 y0 y1 y2 y3 y4 y5 y6 y7 y8
          refine (HO.out _).mono ?_
          rintro e w1 ⟨rfl, hb1⟩
          have q0 := q0.below hb1 (by omega)
          have q1 := q1.below hb1 (by omega)
          have q2 := q2.below hb1 (by omega)
          have hB := hB.trans (hb1.mono (by omega))
          have hs1 := hb1.size
          clear hb1
          have x0 : w1.cell? ⟨w.heap.size, 0, none⟩ = some (.int .i64 A) := q0.cell 0
          have x1 : w1.cell? ⟨w.heap.size, 1, none⟩ = some (.int .i64 L) := q0.cell 1
          have x2 : w1.cell? ⟨w.heap.size, 2, none⟩ = some (.int .i64 M) := q0.cell 2
          have x3 : w1.cell? ⟨w.heap.size, 3, none⟩ = some (.int .i64 O) := q0.cell 3
          have x4 : w1.cell? ⟨w.heap.size, 4, none⟩ = some (.int .i64 I) := q0.cell 4
          have x5 : w1.cell? ⟨w.heap.size, 5, none⟩ = some (.int .i64 T) := q0.cell 5
          have x6 : w1.cell? ⟨w.heap.size, 6, none⟩ = some (.int .i64 U) := q0.cell 6
          have x7 : w1.cell? ⟨w.heap.size, 7, none⟩ = some (.int .i64 E) := q0.cell 7
          have x8 : w1.cell? ⟨w.heap.size, 8, none⟩ = some (.bool C) := q0.cell 8
          have y0 : w1.cell? ⟨w.heap.size + 1, 0, none⟩ = some (.int .i64 a) := q1.cell 0
          have y1 : w1.cell? ⟨w.heap.size + 1, 1, none⟩ = some (.int .i64 l) := q1.cell 1
          have y2 : w1.cell? ⟨w.heap.size + 1, 2, none⟩ = some (.int .i64 m) := q1.cell 2
          have y3 : w1.cell? ⟨w.heap.size + 1, 3, none⟩ = some (.int .i64 n) := q1.cell 3
          have y4 : w1.cell? ⟨w.heap.size + 1, 4, none⟩ = some (.int .i64 ii) := q1.cell 4
          have y5 : w1.cell? ⟨w.heap.size + 1, 5, none⟩ = some (.int .i64 t) := q1.cell 5
          have y6 : w1.cell? ⟨w.heap.size + 1, 6, none⟩ = some (.int .i64 u) := q1.cell 6
          have y7 : w1.cell? ⟨w.heap.size + 1, 7, none⟩ = some (.int .i64 b) := q1.cell 7
          have y8 : w1.cell? ⟨w.heap.size + 1, 8, none⟩ = some (.bool c) := q1.cell 8
          clear HO
          have z0 : w1.cell? ⟨w.heap.size + 1 + 1, 0, none⟩ = some (.int .i64 0) := q2.cell 0
          have z1 : w1.cell? ⟨w.heap.size + 1 + 1, 1, none⟩ = some (.int .i64 0) := q2.cell 1
          have z2 : w1.cell? ⟨w.heap.size + 1 + 1, 2, none⟩ = some (.int .i64 0) := q2.cell 2
          have z3 : w1.cell? ⟨w.heap.size + 1 + 1, 3, none⟩ = some (.int .i64 0) := q2.cell 3
          have z4 : w1.cell? ⟨w.heap.size + 1 + 1, 4, none⟩ = some (.int .i64 0) := q2.cell 4
          have z5 : w1.cell? ⟨w.heap.size + 1 + 1, 5, none⟩ = some (.int .i64 0) := q2.cell 5
          have z6 : w1.cell? ⟨w.heap.size + 1 + 1, 6, none⟩ = some (.int .i64 0) := q2.cell 6
          have z7 : w1.cell? ⟨w.heap.size + 1 + 1, 7, none⟩ = some (.int .i64 0) := q2.cell 7
          have z8 : w1.cell? ⟨w.heap.size + 1 + 1, 8, none⟩ = some (.bool false) := q2.cell 8
          have f0 : w1.frozen? ⟨w.heap.size + 1 + 1, 0, none⟩ = false := q2.frozen 0
          have f1 : w1.frozen? ⟨w.heap.size + 1 + 1, 1, none⟩ = false := q2.frozen 1
          have f2 : w1.frozen? ⟨w.heap.size + 1 + 1, 2, none⟩ = false := q2.frozen 2
          have f3 : w1.frozen? ⟨w.heap.size + 1 + 1, 3, none⟩ = false := q2.frozen 3
          have f4 : w1.frozen? ⟨w.heap.size + 1 + 1, 4, none⟩ = false := q2.frozen 4
          have f5 : w1.frozen? ⟨w.heap.size + 1 + 1, 5, none⟩ = false := q2.frozen 5
          have f6 : w1.frozen? ⟨w.heap.size + 1 + 1, 6, none⟩ = false := q2.frozen 6
          have f7 : w1.frozen? ⟨w.heap.size + 1 + 1, 7, none⟩ = false := q2.frozen 7
          have f8 : w1.frozen? ⟨w.heap.size + 1 + 1, 8, none⟩ = false := q2.frozen 8
          have HE : Hid _ := And.intro (nine0_row q2 (.int .i64 A) (.int .i64 L) (.int .i64 M) (.int .i64 O) (.int .i64 I) (.int .i64 T) (.int .i64 U) (.int .i64 E) (.bool C)) (nine0_below hB (w.heap.size + 1 + 1) (by omega) (.int .i64 A) (.int .i64 L) (.int .i64 M) (.int .i64 O) (.int .i64 I) (.int .i64 T) (.int .i64 U) (.int .i64 E) (.bool C))
          clear q2 hB q0 q1 HW
          go_wp2_with fail
          have hF := HE.out
          clear HE z0 z1 z2 z3 z4 z5 z6 z7 z8 f0 f1 f2 f3 f4 f5 f6 f7 f8
          unfold nine0 at hF
          generalize (((((((((w1.setCell ⟨w.heap.size + 1 + 1, 0, none⟩ (.int .i64 A)).setCell ⟨w.heap.size + 1 + 1, 1, none⟩ (.int .i64 L)).setCell ⟨w.heap.size + 1 + 1, 2, none⟩ (.int .i64 M)).setCell ⟨w.heap.size + 1 + 1, 3, none⟩ (.int .i64 O)).setCell ⟨w.heap.size + 1 + 1, 4, none⟩ (.int .i64 I)).setCell ⟨w.heap.size + 1 + 1, 5, none⟩ (.int .i64 T)).setCell ⟨w.heap.size + 1 + 1, 6, none⟩ (.int .i64 U)).setCell ⟨w.heap.size + 1 + 1, 7, none⟩ (.int .i64 E)).setCell ⟨w.heap.size + 1 + 1, 8, none⟩ (.bool C)) = Z at *
          obtain ⟨h1, h2⟩ := hF
          have e0 : Z.cell? ⟨w.heap.size + 1 + 1, 0, none⟩ = some (.int .i64 A) := h1.cell 0
          have e1 : Z.cell? ⟨w.heap.size + 1 + 1, 1, none⟩ = some (.int .i64 L) := h1.cell 1
          have e2 : Z.cell? ⟨w.heap.size + 1 + 1, 2, none⟩ = some (.int .i64 M) := h1.cell 2
          have e3 : Z.cell? ⟨w.heap.size + 1 + 1, 3, none⟩ = some (.int .i64 O) := h1.cell 3
          have e4 : Z.cell? ⟨w.heap.size + 1 + 1, 4, none⟩ = some (.int .i64 I) := h1.cell 4
          have e5 : Z.cell? ⟨w.heap.size + 1 + 1, 5, none⟩ = some (.int .i64 T) := h1.cell 5
          have e6 : Z.cell? ⟨w.heap.size + 1 + 1, 6, none⟩ = some (.int .i64 U) := h1.cell 6
          have e7 : Z.cell? ⟨w.heap.size + 1 + 1, 7, none⟩ = some (.int .i64 E) := h1.cell 7
          have e8 : Z.cell? ⟨w.heap.size + 1 + 1, 8, none⟩ = some (.bool C) := h1.cell 8
          exact bodyPost_ret (v := .agg #[.int .i64 A, .int .i64 L, .int .i64 M, .int .i64 O, .int .i64 I, .int .i64 T, .int .i64 U, .int .i64 E, .bool C]) (by simp [results, Tryz.results155, go_sem, e0, e1, e2, e3, e4, e5, e6, e7, e8]) rfl ⟨rfl, h2⟩
        · have d1 : (O == n) = false := by simpa using e1
          clear HD e1
          obtain ⟨W, hW, q0, q1, q2, hB, hS, -⟩ := rows3 w [.int .i64 A, .int .i64 L, .int .i64 M, .int .i64 O, .int .i64 I, .int .i64 T, .int .i64 U, .int .i64 E, .bool C] [.int .i64 a, .int .i64 l, .int .i64 m, .int .i64 n, .int .i64 ii, .int .i64 t, .int .i64 u, .int .i64 b, .bool c] [.int .i64 0, .int .i64 0, .int .i64 0, .int .i64 0, .int .i64 0, .int .i64 0, .int .i64 0, .int .i64 0, .bool false] 98 98 98
          have HW : Hid _ := hW
          have HQ : Hid _ := And.intro q0 (And.intro q1 (And.intro q2 hB))
          have x0 : W.cell? ⟨w.heap.size, 0, none⟩ = some (.int .i64 A) := q0.cell 0
          have x1 : W.cell? ⟨w.heap.size, 1, none⟩ = some (.int .i64 L) := q0.cell 1
          have x2 : W.cell? ⟨w.heap.size, 2, none⟩ = some (.int .i64 M) := q0.cell 2
          have x3 : W.cell? ⟨w.heap.size, 3, none⟩ = some (.int .i64 O) := q0.cell 3
          have x4 : W.cell? ⟨w.heap.size, 4, none⟩ = some (.int .i64 I) := q0.cell 4
          have x5 : W.cell? ⟨w.heap.size, 5, none⟩ = some (.int .i64 T) := q0.cell 5
          have x6 : W.cell? ⟨w.heap.size, 6, none⟩ = some (.int .i64 U) := q0.cell 6
          have x7 : W.cell? ⟨w.heap.size, 7, none⟩ = some (.int .i64 E) := q0.cell 7
          have x8 : W.cell? ⟨w.heap.size, 8, none⟩ = some (.bool C) := q0.cell 8
          have y0 : W.cell? ⟨w.heap.size + 1, 0, none⟩ = some (.int .i64 a) := q1.cell 0
          have y1 : W.cell? ⟨w.heap.size + 1, 1, none⟩ = some (.int .i64 l) := q1.cell 1
          have y2 : W.cell? ⟨w.heap.size + 1, 2, none⟩ = some (.int .i64 m) := q1.cell 2
          have y3 : W.cell? ⟨w.heap.size + 1, 3, none⟩ = some (.int .i64 n) := q1.cell 3
          have y4 : W.cell? ⟨w.heap.size + 1, 4, none⟩ = some (.int .i64 ii) := q1.cell 4
          have y5 : W.cell? ⟨w.heap.size + 1, 5, none⟩ = some (.int .i64 t) := q1.cell 5
          have y6 : W.cell? ⟨w.heap.size + 1, 6, none⟩ = some (.int .i64 u) := q1.cell 6
          have y7 : W.cell? ⟨w.heap.size + 1, 7, none⟩ = some (.int .i64 b) := q1.cell 7
          have y8 : W.cell? ⟨w.heap.size + 1, 8, none⟩ = some (.bool c) := q1.cell 8
          rw [hW] at x0 x1 x2 x3 x4 x5 x6 x7 x8 y0 y1 y2 y3 y4 y5 y6 y7 y8
          clear hW q0 q1 q2 hB
          go_enter Tryz.func155, Tryz.ntmps155
          go_wp2_with fail
          rw [← HW.out]
          obtain ⟨q0, q1, q2, hB⟩ := HQ.out
          clear HQ x0 x1 x2 x3 x4 x5 x6 x7 x8 y0 y1 y2 y3 y4 y5 y6 y7 y8
          refine (HO.out _).mono ?_
          rintro e w1 ⟨rfl, hb1⟩
          have q0 := q0.below hb1 (by omega)
          have q1 := q1.below hb1 (by omega)
          have q2 := q2.below hb1 (by omega)
          have hB := hB.trans (hb1.mono (by omega))
          have hs1 := hb1.size
          clear hb1
          have x0 : w1.cell? ⟨w.heap.size, 0, none⟩ = some (.int .i64 A) := q0.cell 0
          have x1 : w1.cell? ⟨w.heap.size, 1, none⟩ = some (.int .i64 L) := q0.cell 1
          have x2 : w1.cell? ⟨w.heap.size, 2, none⟩ = some (.int .i64 M) := q0.cell 2
          have x3 : w1.cell? ⟨w.heap.size, 3, none⟩ = some (.int .i64 O) := q0.cell 3
          have x4 : w1.cell? ⟨w.heap.size, 4, none⟩ = some (.int .i64 I) := q0.cell 4
          have x5 : w1.cell? ⟨w.heap.size, 5, none⟩ = some (.int .i64 T) := q0.cell 5
          have x6 : w1.cell? ⟨w.heap.size, 6, none⟩ = some (.int .i64 U) := q0.cell 6
          have x7 : w1.cell? ⟨w.heap.size, 7, none⟩ = some (.int .i64 E) := q0.cell 7
          have x8 : w1.cell? ⟨w.heap.size, 8, none⟩ = some (.bool C) := q0.cell 8
          have y0 : w1.cell? ⟨w.heap.size + 1, 0, none⟩ = some (.int .i64 a) := q1.cell 0
          have y1 : w1.cell? ⟨w.heap.size + 1, 1, none⟩ = some (.int .i64 l) := q1.cell 1
          have y2 : w1.cell? ⟨w.heap.size + 1, 2, none⟩ = some (.int .i64 m) := q1.cell 2
          have y3 : w1.cell? ⟨w.heap.size + 1, 3, none⟩ = some (.int .i64 n) := q1.cell 3
          have y4 : w1.cell? ⟨w.heap.size + 1, 4, none⟩ = some (.int .i64 ii) := q1.cell 4
          have y5 : w1.cell? ⟨w.heap.size + 1, 5, none⟩ = some (.int .i64 t) := q1.cell 5
          have y6 : w1.cell? ⟨w.heap.size + 1, 6, none⟩ = some (.int .i64 u) := q1.cell 6
          have y7 : w1.cell? ⟨w.heap.size + 1, 7, none⟩ = some (.int .i64 b) := q1.cell 7
          have y8 : w1.cell? ⟨w.heap.size + 1, 8, none⟩ = some (.bool c) := q1.cell 8
          clear HO
          have z0 : w1.cell? ⟨w.heap.size + 1 + 1, 0, none⟩ = some (.int .i64 0) := q2.cell 0
          have z1 : w1.cell? ⟨w.heap.size + 1 + 1, 1, none⟩ = some (.int .i64 0) := q2.cell 1
          have z2 : w1.cell? ⟨w.heap.size + 1 + 1, 2, none⟩ = some (.int .i64 0) := q2.cell 2
          have z3 : w1.cell? ⟨w.heap.size + 1 + 1, 3, none⟩ = some (.int .i64 0) := q2.cell 3
          have z4 : w1.cell? ⟨w.heap.size + 1 + 1, 4, none⟩ = some (.int .i64 0) := q2.cell 4
          have z5 : w1.cell? ⟨w.heap.size + 1 + 1, 5, none⟩ = some (.int .i64 0) := q2.cell 5
          have z6 : w1.cell? ⟨w.heap.size + 1 + 1, 6, none⟩ = some (.int .i64 0) := q2.cell 6
          have z7 : w1.cell? ⟨w.heap.size + 1 + 1, 7, none⟩ = some (.int .i64 0) := q2.cell 7
          have z8 : w1.cell? ⟨w.heap.size + 1 + 1, 8, none⟩ = some (.bool false) := q2.cell 8
          have f0 : w1.frozen? ⟨w.heap.size + 1 + 1, 0, none⟩ = false := q2.frozen 0
          have f1 : w1.frozen? ⟨w.heap.size + 1 + 1, 1, none⟩ = false := q2.frozen 1
          have f2 : w1.frozen? ⟨w.heap.size + 1 + 1, 2, none⟩ = false := q2.frozen 2
          have f3 : w1.frozen? ⟨w.heap.size + 1 + 1, 3, none⟩ = false := q2.frozen 3
          have f4 : w1.frozen? ⟨w.heap.size + 1 + 1, 4, none⟩ = false := q2.frozen 4
          have f5 : w1.frozen? ⟨w.heap.size + 1 + 1, 5, none⟩ = false := q2.frozen 5
          have f6 : w1.frozen? ⟨w.heap.size + 1 + 1, 6, none⟩ = false := q2.frozen 6
          have f7 : w1.frozen? ⟨w.heap.size + 1 + 1, 7, none⟩ = false := q2.frozen 7
          have f8 : w1.frozen? ⟨w.heap.size + 1 + 1, 8, none⟩ = false := q2.frozen 8
          have HE : Hid _ := And.intro (nine0_row q2 (.int .i64 A) (.int .i64 L) (.int .i64 M) (.int .i64 O) (.int .i64 I) (.int .i64 T) (.int .i64 U) (.int .i64 E) (.bool C)) (nine0_below hB (w.heap.size + 1 + 1) (by omega) (.int .i64 A) (.int .i64 L) (.int .i64 M) (.int .i64 O) (.int .i64 I) (.int .i64 T) (.int .i64 U) (.int .i64 E) (.bool C))
          clear q2 hB q0 q1 HW
          go_wp2_with fail
          have hF := HE.out
          clear HE z0 z1 z2 z3 z4 z5 z6 z7 z8 f0 f1 f2 f3 f4 f5 f6 f7 f8
          unfold nine0 at hF
          generalize (((((((((w1.setCell ⟨w.heap.size + 1 + 1, 0, none⟩ (.int .i64 A)).setCell ⟨w.heap.size + 1 + 1, 1, none⟩ (.int .i64 L)).setCell ⟨w.heap.size + 1 + 1, 2, none⟩ (.int .i64 M)).setCell ⟨w.heap.size + 1 + 1, 3, none⟩ (.int .i64 O)).setCell ⟨w.heap.size + 1 + 1, 4, none⟩ (.int .i64 I)).setCell ⟨w.heap.size + 1 + 1, 5, none⟩ (.int .i64 T)).setCell ⟨w.heap.size + 1 + 1, 6, none⟩ (.int .i64 U)).setCell ⟨w.heap.size + 1 + 1, 7, none⟩ (.int .i64 E)).setCell ⟨w.heap.size + 1 + 1, 8, none⟩ (.bool C)) = Z at *
          obtain ⟨h1, h2⟩ := hF
          have e0 : Z.cell? ⟨w.heap.size + 1 + 1, 0, none⟩ = some (.int .i64 A) := h1.cell 0
          have e1 : Z.cell? ⟨w.heap.size + 1 + 1, 1, none⟩ = some (.int .i64 L) := h1.cell 1
          have e2 : Z.cell? ⟨w.heap.size + 1 + 1, 2, none⟩ = some (.int .i64 M) := h1.cell 2
          have e3 : Z.cell? ⟨w.heap.size + 1 + 1, 3, none⟩ = some (.int .i64 O) := h1.cell 3
          have e4 : Z.cell? ⟨w.heap.size + 1 + 1, 4, none⟩ = some (.int .i64 I) := h1.cell 4
          have e5 : Z.cell? ⟨w.heap.size + 1 + 1, 5, none⟩ = some (.int .i64 T) := h1.cell 5
          have e6 : Z.cell? ⟨w.heap.size + 1 + 1, 6, none⟩ = some (.int .i64 U) := h1.cell 6
          have e7 : Z.cell? ⟨w.heap.size + 1 + 1, 7, none⟩ = some (.int .i64 E) := h1.cell 7
          have e8 : Z.cell? ⟨w.heap.size + 1 + 1, 8, none⟩ = some (.bool C) := h1.cell 8
          exact bodyPost_ret (v := .agg #[.int .i64 A, .int .i64 L, .int .i64 M, .int .i64 O, .int .i64 I, .int .i64 T, .int .i64 U, .int .i64 E, .bool C]) (by simp [results, Tryz.results155, go_sem, e0, e1, e2, e3, e4, e5, e6, e7, e8]) rfl ⟨rfl, h2⟩
end Go.Proofs.YtifckpncpjijiaaGreat
/- The table's own way to find. (Written by gen_mapi.py.) -/
namespace Go.Proofs.YtifckpncpjijiaaGreat
open Go.RowKit Go.Sort

theorem find_row (w : World) (x y z v : List Value) (t1 t2 t3 t4 : TypeId) : ∃ W, W = (((w.alloc (.cells x.toArray t1)).alloc (.cells y.toArray t2)).alloc (.cells z.toArray t3)).alloc (.cells v.toArray t4) ∧ Row W (w.heap.size + 1 + 1) t3 z ∧ Below w.heap.size w W := by
  obtain ⟨W, rfl, -, -, q2, hB, hS, -⟩ := rows3 w x y z t1 t2 t3
  exact ⟨_, rfl, q2.alloc _, hB.alloc hB.size _⟩
set_option maxRecDepth 100000 in
set_option maxHeartbeats 1000000 in
theorem find_any (B : Nat) (rs : List Rt) (a l : Int) (w : World) (h : MapIs w B rs) :
    Calls Tryz.prog 153 #[tabV B, netV a l] w fun e w' => e = .returned (.tuple #[rtV ((lookN rs a l).getD zeroR), .bool (lookN rs a l).isSome]) ∧ Below w.heap.size w w' := by
  have hlt := h.lt
  obtain ⟨W, hW, q0, q1, q2, hB, hS, -⟩ := rows3 w [.map (some B), .func (.func 175) #[] #[]] [.int .i64 a, .int .i64 l] [.int .i64 0, .int .i64 0, .int .i64 0, .int .i64 0, .int .i64 0, .int .i64 0, .int .i64 0, .int .i64 0, .bool false] 180 87 98
  have hrun := map_look (h.below hB hlt) a l
  rw [hW] at hrun
  clear h hW q0 q1 q2 hB hS
  generalize (lookN rs a l).isSome = S at *
  generalize (lookN rs a l).getD zeroR = V at *
  obtain ⟨A, L, M, N, I, T, U, E, C⟩ := V
  unfold tabV netV rtV rtA
  unfold netV rtV rtA at hrun
  simp only at hrun ⊢
  obtain ⟨Z, hZ, q3, hbZ⟩ := find_row w [.map (some B), .func (.func 175) #[] #[]] [.int .i64 a, .int .i64 l] [.int .i64 A, .int .i64 L, .int .i64 M, .int .i64 N, .int .i64 I, .int .i64 T, .int .i64 U, .int .i64 E, .bool C] [.int .i64 A, .int .i64 L, .int .i64 M, .int .i64 N, .int .i64 I, .int .i64 T, .int .i64 U, .int .i64 E, .bool C] 180 87 98 98
  have HZ : Hid _ := And.intro hZ (And.intro q3 hbZ)
  clear hZ q3 hbZ
  go_enter Tryz.func153, Tryz.ntmps153
  go_wp2_with fail
  obtain ⟨hZ, q3, hbZ⟩ := HZ.out
  rw [show (((w.alloc (.cells #[.map (some B), .func (.func 175) #[] #[]] 180)).alloc (.cells #[.int .i64 a, .int .i64 l] 87)).alloc (.cells #[.int .i64 A, .int .i64 L, .int .i64 M, .int .i64 N, .int .i64 I, .int .i64 T, .int .i64 U, .int .i64 E, .bool C] 98)).alloc (.cells #[.int .i64 A, .int .i64 L, .int .i64 M, .int .i64 N, .int .i64 I, .int .i64 T, .int .i64 U, .int .i64 E, .bool C] 98) = Z from hZ.symm]
  have e0 : Z.cell? ⟨w.heap.size + 1 + 1, 0, none⟩ = some (.int .i64 A) := q3.cell 0
  have e1 : Z.cell? ⟨w.heap.size + 1 + 1, 1, none⟩ = some (.int .i64 L) := q3.cell 1
  have e2 : Z.cell? ⟨w.heap.size + 1 + 1, 2, none⟩ = some (.int .i64 M) := q3.cell 2
  have e3 : Z.cell? ⟨w.heap.size + 1 + 1, 3, none⟩ = some (.int .i64 N) := q3.cell 3
  have e4 : Z.cell? ⟨w.heap.size + 1 + 1, 4, none⟩ = some (.int .i64 I) := q3.cell 4
  have e5 : Z.cell? ⟨w.heap.size + 1 + 1, 5, none⟩ = some (.int .i64 T) := q3.cell 5
  have e6 : Z.cell? ⟨w.heap.size + 1 + 1, 6, none⟩ = some (.int .i64 U) := q3.cell 6
  have e7 : Z.cell? ⟨w.heap.size + 1 + 1, 7, none⟩ = some (.int .i64 E) := q3.cell 7
  have e8 : Z.cell? ⟨w.heap.size + 1 + 1, 8, none⟩ = some (.bool C) := q3.cell 8
  refine bodyPost_ret (v := .tuple #[.agg #[.int .i64 A, .int .i64 L, .int .i64 M, .int .i64 N, .int .i64 I, .int .i64 T, .int .i64 U, .int .i64 E, .bool C], .bool S]) (by simp [results, Tryz.results153, go_sem, e0, e1, e2, e3, e4, e5, e6, e7, e8]) rfl ⟨rfl, hbZ⟩

end Go.Proofs.YtifckpncpjijiaaGreat
