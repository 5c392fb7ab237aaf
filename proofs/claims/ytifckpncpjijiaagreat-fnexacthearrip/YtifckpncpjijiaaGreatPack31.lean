/- Texts that stand on each other, in one file: RLearnI, LearnAt. -/
import Derived.Test.YtifckpncpjijiaaGreatPack24
import Derived.Test.YtifckpncpjijiaaGreatPack30
import Derived.Test.YtifckpncpjijiaaGreatPack3
import Derived.Test.YtifckpncpjijiaaGreatPack16
/- RibLearn of the program. (Written by gen_rlearni.py.) -/
namespace Go.Proofs.YtifckpncpjijiaaGreat
open Go.RowKit Go.Sort

set_option maxRecDepth 100000 in
set_option maxHeartbeats 4000000 in
theorem implLearn_wrong (p : Option Addr) (cap : Nat) (rs : List Rt) (r : Rt) (now : Int) (w : World) (h : RtsIn w p rs) (hn : rs.length ≤ 100000000) (hc : (ribB rs && toldB r now) = false) :
    Calls Tryz.prog 109 #[ribV p rs.length cap, rtV r, .int .i64 now] w fun e w' => OutR w.heap.size 1 [] e w' ∧ Below w.heap.size w w' := by
  have HB : Hid (∀ w, RtsIn w p rs → Calls Tryz.prog 103 #[.agg #[.slice p rs.length cap]] w fun e w' => e = .returned (.bool (ribB rs)) ∧ Below w.heap.size w w') := fun w h => implRib_any p cap rs w h hn
  have HS : Hid (∀ w, Calls Tryz.prog 150 #[rtV r] w fun e w' => e = .returned (.bool (saidB r)) ∧ Below w.heap.size w w') := saidRight_any r
  have HO : Hid (∀ w, Calls Tryz.prog 151 #[rtV r] w fun e w' => e = .returned (.bool (decide (r.n = 0))) ∧ Below w.heap.size w w') := isOwn_any r
  have HN : Hid (∀ w, Calls Tryz.prog 84 #[.int .i64 now] w fun e w' => e = .returned (.bool (inNow now)) ∧ w = w') := isNow_any now
  have HX : Hid (RtsIn w p rs) := h
  clear h hn
  unfold toldB at hc
  cases h1 : ribB rs
  · rw [h1] at HB
    clear HS HO HN hc h1
    obtain ⟨a, l, m, n, ii, t, u, b, c⟩ := r
    generalize rs.length = N at *
    unfold ribV rtV rtA at *
    simp only at HB ⊢
    obtain ⟨W, hW, q0, q1, q2, hB, hS, -⟩ := rows3 w [.slice p N cap] [.int .i64 a, .int .i64 l, .int .i64 m, .int .i64 n, .int .i64 ii, .int .i64 t, .int .i64 u, .int .i64 b, .bool c] [.slice none 0 0, .int .i64 0] 36 98 112
    have HW : Hid _ := hW
    have HQ : Hid _ := And.intro q0 (And.intro q1 (And.intro q2 hB))
    have x0 : W.cell? ⟨w.heap.size, 0, none⟩ = some (.slice p N cap) := q0.cell 0
    rw [hW] at x0
    clear hW q0 q1 q2 hB
    go_enter Tryz.func109, Tryz.ntmps109
    go_wp2_with fail
    rw [← HW.out]
    obtain ⟨q0, q1, q2, hB⟩ := HQ.out
    clear HQ x0
    refine (HB.out _ ((HX.out).below hB)).mono ?_
    rintro e w1 ⟨rfl, hb1⟩
    have q0 := q0.below hb1 (by omega)
    have q1 := q1.below hb1 (by omega)
    have q2 := q2.below hb1 (by omega)
    have hB := hB.trans (hb1.mono (by omega))
    have hs1 := hb1.size
    clear hb1
    clear HB HW
    have qr := q2
    clear q0 q1 q2
    have f0 : w1.frozen? ⟨w.heap.size + 1 + 1, 0, none⟩ = false := qr.frozen 0
    have f1 : w1.frozen? ⟨w.heap.size + 1 + 1, 1, none⟩ = false := qr.frozen 1
    have z0 : w1.cell? ⟨w.heap.size + 1 + 1, 0, none⟩ = some (.slice none 0 0) := qr.cell 0
    have z1 : w1.cell? ⟨w.heap.size + 1 + 1, 1, none⟩ = some (.int .i64 0) := qr.cell 1
    have HE2 : Hid _ := And.intro ((qr.set 0 (.slice none 0 0)).set 1 (.int .i64 1)) (And.intro ((hB.setCell (p := ⟨w.heap.size + 1 + 1, 0, none⟩) (by show w.heap.size ≤ w.heap.size + 1 + 1; omega) (.slice none 0 0)).setCell (p := ⟨w.heap.size + 1 + 1, 1, none⟩) (by show w.heap.size ≤ w.heap.size + 1 + 1; omega) (.int .i64 1)) trivial)
    clear qr hB 
    go_wp2_with fail
    obtain ⟨h1, h2, h3⟩ := HE2.out
    clear HE2 f0 f1 z0 z1
    generalize (w1.setCell ⟨w.heap.size + 1 + 1, 0, none⟩ (.slice none 0 0)).setCell ⟨w.heap.size + 1 + 1, 1, none⟩ (.int .i64 1) = Z at *
    have e0 : Z.cell? ⟨w.heap.size + 1 + 1, 0, none⟩ = some (.slice none 0 0) := h1.cell 0
    have e1 : Z.cell? ⟨w.heap.size + 1 + 1, 1, none⟩ = some (.int .i64 1) := h1.cell 1
    exact bodyPost_ret (v := .agg #[.slice none 0 0, .int .i64 1]) (by simp [results, Tryz.results109, go_sem, e0, e1]) rfl ⟨⟨_, _, rfl, World.ownsRow_nil _ _ _ 9⟩, h2⟩
  · rw [h1] at HB hc
    cases h2 : saidB r
    · rw [h2] at HS
      clear HO HN hc h1 h2
      obtain ⟨a, l, m, n, ii, t, u, b, c⟩ := r
      generalize rs.length = N at *
      unfold ribV rtV rtA at *
      simp only at HB HS ⊢
      obtain ⟨W, hW, q0, q1, q2, hB, hS, -⟩ := rows3 w [.slice p N cap] [.int .i64 a, .int .i64 l, .int .i64 m, .int .i64 n, .int .i64 ii, .int .i64 t, .int .i64 u, .int .i64 b, .bool c] [.slice none 0 0, .int .i64 0] 36 98 112
      have HW : Hid _ := hW
      have HQ : Hid _ := And.intro q0 (And.intro q1 (And.intro q2 hB))
      have x0 : W.cell? ⟨w.heap.size, 0, none⟩ = some (.slice p N cap) := q0.cell 0
      rw [hW] at x0
      clear hW q0 q1 q2 hB
      go_enter Tryz.func109, Tryz.ntmps109
      go_wp2_with fail
      rw [← HW.out]
      obtain ⟨q0, q1, q2, hB⟩ := HQ.out
      clear HQ x0
      refine (HB.out _ ((HX.out).below hB)).mono ?_
      rintro e w1 ⟨rfl, hb1⟩
      have q0 := q0.below hb1 (by omega)
      have q1 := q1.below hb1 (by omega)
      have q2 := q2.below hb1 (by omega)
      have hB := hB.trans (hb1.mono (by omega))
      have hs1 := hb1.size
      clear hb1
      clear HB HW
      have y0 : w1.cell? ⟨w.heap.size + 1, 0, none⟩ = some (.int .i64 a) := q1.cell 0
      have y1 : w1.cell? ⟨w.heap.size + 1, 1, none⟩ = some (.int .i64 l) := q1.cell 1
      have y2 : w1.cell? ⟨w.heap.size + 1, 2, none⟩ = some (.int .i64 m) := q1.cell 2
      have y3 : w1.cell? ⟨w.heap.size + 1, 3, none⟩ = some (.int .i64 n) := q1.cell 3
      have y4 : w1.cell? ⟨w.heap.size + 1, 4, none⟩ = some (.int .i64 ii) := q1.cell 4
      have y5 : w1.cell? ⟨w.heap.size + 1, 5, none⟩ = some (.int .i64 t) := q1.cell 5
      have y6 : w1.cell? ⟨w.heap.size + 1, 6, none⟩ = some (.int .i64 u) := q1.cell 6
      have y7 : w1.cell? ⟨w.heap.size + 1, 7, none⟩ = some (.int .i64 b) := q1.cell 7
      have y8 : w1.cell? ⟨w.heap.size + 1, 8, none⟩ = some (.bool c) := q1.cell 8
      go_wp2_with fail
      refine (HS.out _).mono ?_
      rintro e w2 ⟨rfl, hb2⟩
      clear y0 y1 y2 y3 y4 y5 y6 y7 y8 HS
      have q0 := q0.below hb2 (by omega)
      have q1 := q1.below hb2 (by omega)
      have q2 := q2.below hb2 (by omega)
      have hB := hB.trans (hb2.mono (by omega))
      have hs2 := hb2.size
      clear hb2
      have qr := q2
      clear q0 q1 q2
      have f0 : w2.frozen? ⟨w.heap.size + 1 + 1, 0, none⟩ = false := qr.frozen 0
      have f1 : w2.frozen? ⟨w.heap.size + 1 + 1, 1, none⟩ = false := qr.frozen 1
      have z0 : w2.cell? ⟨w.heap.size + 1 + 1, 0, none⟩ = some (.slice none 0 0) := qr.cell 0
      have z1 : w2.cell? ⟨w.heap.size + 1 + 1, 1, none⟩ = some (.int .i64 0) := qr.cell 1
      have HE2 : Hid _ := And.intro ((qr.set 0 (.slice none 0 0)).set 1 (.int .i64 1)) (And.intro ((hB.setCell (p := ⟨w.heap.size + 1 + 1, 0, none⟩) (by show w.heap.size ≤ w.heap.size + 1 + 1; omega) (.slice none 0 0)).setCell (p := ⟨w.heap.size + 1 + 1, 1, none⟩) (by show w.heap.size ≤ w.heap.size + 1 + 1; omega) (.int .i64 1)) trivial)
      clear qr hB 
      go_wp2_with fail
      obtain ⟨h1, h2, h3⟩ := HE2.out
      clear HE2 f0 f1 z0 z1
      generalize (w2.setCell ⟨w.heap.size + 1 + 1, 0, none⟩ (.slice none 0 0)).setCell ⟨w.heap.size + 1 + 1, 1, none⟩ (.int .i64 1) = Z at *
      have e0 : Z.cell? ⟨w.heap.size + 1 + 1, 0, none⟩ = some (.slice none 0 0) := h1.cell 0
      have e1 : Z.cell? ⟨w.heap.size + 1 + 1, 1, none⟩ = some (.int .i64 1) := h1.cell 1
      exact bodyPost_ret (v := .agg #[.slice none 0 0, .int .i64 1]) (by simp [results, Tryz.results109, go_sem, e0, e1]) rfl ⟨⟨_, _, rfl, World.ownsRow_nil _ _ _ 9⟩, h2⟩
    · rw [h2] at HS hc
      by_cases h3 : r.n = 0
      · rw [decide_eq_true h3] at HO
        clear HN hc h1 h2 h3
        obtain ⟨a, l, m, n, ii, t, u, b, c⟩ := r
        generalize rs.length = N at *
        unfold ribV rtV rtA at *
        simp only at HB HS HO ⊢
        obtain ⟨W, hW, q0, q1, q2, hB, hS, -⟩ := rows3 w [.slice p N cap] [.int .i64 a, .int .i64 l, .int .i64 m, .int .i64 n, .int .i64 ii, .int .i64 t, .int .i64 u, .int .i64 b, .bool c] [.slice none 0 0, .int .i64 0] 36 98 112
        have HW : Hid _ := hW
        have HQ : Hid _ := And.intro q0 (And.intro q1 (And.intro q2 hB))
        have x0 : W.cell? ⟨w.heap.size, 0, none⟩ = some (.slice p N cap) := q0.cell 0
        rw [hW] at x0
        clear hW q0 q1 q2 hB
        go_enter Tryz.func109, Tryz.ntmps109
        go_wp2_with fail
        rw [← HW.out]
        obtain ⟨q0, q1, q2, hB⟩ := HQ.out
        clear HQ x0
        refine (HB.out _ ((HX.out).below hB)).mono ?_
        rintro e w1 ⟨rfl, hb1⟩
        have q0 := q0.below hb1 (by omega)
        have q1 := q1.below hb1 (by omega)
        have q2 := q2.below hb1 (by omega)
        have hB := hB.trans (hb1.mono (by omega))
        have hs1 := hb1.size
        clear hb1
        clear HB HW
        have y0 : w1.cell? ⟨w.heap.size + 1, 0, none⟩ = some (.int .i64 a) := q1.cell 0
        have y1 : w1.cell? ⟨w.heap.size + 1, 1, none⟩ = some (.int .i64 l) := q1.cell 1
        have y2 : w1.cell? ⟨w.heap.size + 1, 2, none⟩ = some (.int .i64 m) := q1.cell 2
        have y3 : w1.cell? ⟨w.heap.size + 1, 3, none⟩ = some (.int .i64 n) := q1.cell 3
        have y4 : w1.cell? ⟨w.heap.size + 1, 4, none⟩ = some (.int .i64 ii) := q1.cell 4
        have y5 : w1.cell? ⟨w.heap.size + 1, 5, none⟩ = some (.int .i64 t) := q1.cell 5
        have y6 : w1.cell? ⟨w.heap.size + 1, 6, none⟩ = some (.int .i64 u) := q1.cell 6
        have y7 : w1.cell? ⟨w.heap.size + 1, 7, none⟩ = some (.int .i64 b) := q1.cell 7
        have y8 : w1.cell? ⟨w.heap.size + 1, 8, none⟩ = some (.bool c) := q1.cell 8
        go_wp2_with fail
        refine (HS.out _).mono ?_
        rintro e w2 ⟨rfl, hb2⟩
        clear y0 y1 y2 y3 y4 y5 y6 y7 y8 HS
        have q0 := q0.below hb2 (by omega)
        have q1 := q1.below hb2 (by omega)
        have q2 := q2.below hb2 (by omega)
        have hB := hB.trans (hb2.mono (by omega))
        have hs2 := hb2.size
        clear hb2
        have y0 : w2.cell? ⟨w.heap.size + 1, 0, none⟩ = some (.int .i64 a) := q1.cell 0
        have y1 : w2.cell? ⟨w.heap.size + 1, 1, none⟩ = some (.int .i64 l) := q1.cell 1
        have y2 : w2.cell? ⟨w.heap.size + 1, 2, none⟩ = some (.int .i64 m) := q1.cell 2
        have y3 : w2.cell? ⟨w.heap.size + 1, 3, none⟩ = some (.int .i64 n) := q1.cell 3
        have y4 : w2.cell? ⟨w.heap.size + 1, 4, none⟩ = some (.int .i64 ii) := q1.cell 4
        have y5 : w2.cell? ⟨w.heap.size + 1, 5, none⟩ = some (.int .i64 t) := q1.cell 5
        have y6 : w2.cell? ⟨w.heap.size + 1, 6, none⟩ = some (.int .i64 u) := q1.cell 6
        have y7 : w2.cell? ⟨w.heap.size + 1, 7, none⟩ = some (.int .i64 b) := q1.cell 7
        have y8 : w2.cell? ⟨w.heap.size + 1, 8, none⟩ = some (.bool c) := q1.cell 8
        go_wp2_with fail
        refine (HO.out _).mono ?_
        rintro e w3 ⟨rfl, hb3⟩
        clear y0 y1 y2 y3 y4 y5 y6 y7 y8 HO
        have q0 := q0.below hb3 (by omega)
        have q1 := q1.below hb3 (by omega)
        have q2 := q2.below hb3 (by omega)
        have hB := hB.trans (hb3.mono (by omega))
        have hs3 := hb3.size
        clear hb3
        have qr := q2
        clear q0 q1 q2
        have f0 : w3.frozen? ⟨w.heap.size + 1 + 1, 0, none⟩ = false := qr.frozen 0
        have f1 : w3.frozen? ⟨w.heap.size + 1 + 1, 1, none⟩ = false := qr.frozen 1
        have z0 : w3.cell? ⟨w.heap.size + 1 + 1, 0, none⟩ = some (.slice none 0 0) := qr.cell 0
        have z1 : w3.cell? ⟨w.heap.size + 1 + 1, 1, none⟩ = some (.int .i64 0) := qr.cell 1
        have HE2 : Hid _ := And.intro ((qr.set 0 (.slice none 0 0)).set 1 (.int .i64 1)) (And.intro ((hB.setCell (p := ⟨w.heap.size + 1 + 1, 0, none⟩) (by show w.heap.size ≤ w.heap.size + 1 + 1; omega) (.slice none 0 0)).setCell (p := ⟨w.heap.size + 1 + 1, 1, none⟩) (by show w.heap.size ≤ w.heap.size + 1 + 1; omega) (.int .i64 1)) trivial)
        clear qr hB 
        go_wp2_with fail
        obtain ⟨h1, h2, h3⟩ := HE2.out
        clear HE2 f0 f1 z0 z1
        generalize (w3.setCell ⟨w.heap.size + 1 + 1, 0, none⟩ (.slice none 0 0)).setCell ⟨w.heap.size + 1 + 1, 1, none⟩ (.int .i64 1) = Z at *
        have e0 : Z.cell? ⟨w.heap.size + 1 + 1, 0, none⟩ = some (.slice none 0 0) := h1.cell 0
        have e1 : Z.cell? ⟨w.heap.size + 1 + 1, 1, none⟩ = some (.int .i64 1) := h1.cell 1
        exact bodyPost_ret (v := .agg #[.slice none 0 0, .int .i64 1]) (by simp [results, Tryz.results109, go_sem, e0, e1]) rfl ⟨⟨_, _, rfl, World.ownsRow_nil _ _ _ 9⟩, h2⟩
      · rw [decide_eq_false h3] at HO
        have h4 : inNow now = false := by simpa [h3] using hc
        rw [h4] at HN
        clear hc h1 h2 h3 h4
        obtain ⟨a, l, m, n, ii, t, u, b, c⟩ := r
        generalize rs.length = N at *
        unfold ribV rtV rtA at *
        simp only at HB HS HO ⊢
        obtain ⟨W, hW, q0, q1, q2, hB, hS, -⟩ := rows3 w [.slice p N cap] [.int .i64 a, .int .i64 l, .int .i64 m, .int .i64 n, .int .i64 ii, .int .i64 t, .int .i64 u, .int .i64 b, .bool c] [.slice none 0 0, .int .i64 0] 36 98 112
        have HW : Hid _ := hW
        have HQ : Hid _ := And.intro q0 (And.intro q1 (And.intro q2 hB))
        have x0 : W.cell? ⟨w.heap.size, 0, none⟩ = some (.slice p N cap) := q0.cell 0
        rw [hW] at x0
        clear hW q0 q1 q2 hB
        go_enter Tryz.func109, Tryz.ntmps109
        go_wp2_with fail
        rw [← HW.out]
        obtain ⟨q0, q1, q2, hB⟩ := HQ.out
        clear HQ x0
        refine (HB.out _ ((HX.out).below hB)).mono ?_
        rintro e w1 ⟨rfl, hb1⟩
        have q0 := q0.below hb1 (by omega)
        have q1 := q1.below hb1 (by omega)
        have q2 := q2.below hb1 (by omega)
        have hB := hB.trans (hb1.mono (by omega))
        have hs1 := hb1.size
        clear hb1
        clear HB HW
        have y0 : w1.cell? ⟨w.heap.size + 1, 0, none⟩ = some (.int .i64 a) := q1.cell 0
        have y1 : w1.cell? ⟨w.heap.size + 1, 1, none⟩ = some (.int .i64 l) := q1.cell 1
        have y2 : w1.cell? ⟨w.heap.size + 1, 2, none⟩ = some (.int .i64 m) := q1.cell 2
        have y3 : w1.cell? ⟨w.heap.size + 1, 3, none⟩ = some (.int .i64 n) := q1.cell 3
        have y4 : w1.cell? ⟨w.heap.size + 1, 4, none⟩ = some (.int .i64 ii) := q1.cell 4
        have y5 : w1.cell? ⟨w.heap.size + 1, 5, none⟩ = some (.int .i64 t) := q1.cell 5
        have y6 : w1.cell? ⟨w.heap.size + 1, 6, none⟩ = some (.int .i64 u) := q1.cell 6
        have y7 : w1.cell? ⟨w.heap.size + 1, 7, none⟩ = some (.int .i64 b) := q1.cell 7
        have y8 : w1.cell? ⟨w.heap.size + 1, 8, none⟩ = some (.bool c) := q1.cell 8
        go_wp2_with fail
        refine (HS.out _).mono ?_
        rintro e w2 ⟨rfl, hb2⟩
        clear y0 y1 y2 y3 y4 y5 y6 y7 y8 HS
        have q0 := q0.below hb2 (by omega)
        have q1 := q1.below hb2 (by omega)
        have q2 := q2.below hb2 (by omega)
        have hB := hB.trans (hb2.mono (by omega))
        have hs2 := hb2.size
        clear hb2
        have y0 : w2.cell? ⟨w.heap.size + 1, 0, none⟩ = some (.int .i64 a) := q1.cell 0
        have y1 : w2.cell? ⟨w.heap.size + 1, 1, none⟩ = some (.int .i64 l) := q1.cell 1
        have y2 : w2.cell? ⟨w.heap.size + 1, 2, none⟩ = some (.int .i64 m) := q1.cell 2
        have y3 : w2.cell? ⟨w.heap.size + 1, 3, none⟩ = some (.int .i64 n) := q1.cell 3
        have y4 : w2.cell? ⟨w.heap.size + 1, 4, none⟩ = some (.int .i64 ii) := q1.cell 4
        have y5 : w2.cell? ⟨w.heap.size + 1, 5, none⟩ = some (.int .i64 t) := q1.cell 5
        have y6 : w2.cell? ⟨w.heap.size + 1, 6, none⟩ = some (.int .i64 u) := q1.cell 6
        have y7 : w2.cell? ⟨w.heap.size + 1, 7, none⟩ = some (.int .i64 b) := q1.cell 7
        have y8 : w2.cell? ⟨w.heap.size + 1, 8, none⟩ = some (.bool c) := q1.cell 8
        go_wp2_with fail
        refine (HO.out _).mono ?_
        rintro e w3 ⟨rfl, hb3⟩
        clear y0 y1 y2 y3 y4 y5 y6 y7 y8 HO
        have q0 := q0.below hb3 (by omega)
        have q1 := q1.below hb3 (by omega)
        have q2 := q2.below hb3 (by omega)
        have hB := hB.trans (hb3.mono (by omega))
        have hs3 := hb3.size
        clear hb3
        go_wp2_with fail
        refine (HN.out _).mono ?_
        rintro e w3' ⟨rfl, rfl⟩
        clear HN
        have qr := q2
        clear q0 q1 q2
        have f0 : w3.frozen? ⟨w.heap.size + 1 + 1, 0, none⟩ = false := qr.frozen 0
        have f1 : w3.frozen? ⟨w.heap.size + 1 + 1, 1, none⟩ = false := qr.frozen 1
        have z0 : w3.cell? ⟨w.heap.size + 1 + 1, 0, none⟩ = some (.slice none 0 0) := qr.cell 0
        have z1 : w3.cell? ⟨w.heap.size + 1 + 1, 1, none⟩ = some (.int .i64 0) := qr.cell 1
        have HE2 : Hid _ := And.intro ((qr.set 0 (.slice none 0 0)).set 1 (.int .i64 1)) (And.intro ((hB.setCell (p := ⟨w.heap.size + 1 + 1, 0, none⟩) (by show w.heap.size ≤ w.heap.size + 1 + 1; omega) (.slice none 0 0)).setCell (p := ⟨w.heap.size + 1 + 1, 1, none⟩) (by show w.heap.size ≤ w.heap.size + 1 + 1; omega) (.int .i64 1)) trivial)
        clear qr hB 
        go_wp2_with fail
        obtain ⟨h1, h2, h3⟩ := HE2.out
        clear HE2 f0 f1 z0 z1
        generalize (w3.setCell ⟨w.heap.size + 1 + 1, 0, none⟩ (.slice none 0 0)).setCell ⟨w.heap.size + 1 + 1, 1, none⟩ (.int .i64 1) = Z at *
        have e0 : Z.cell? ⟨w.heap.size + 1 + 1, 0, none⟩ = some (.slice none 0 0) := h1.cell 0
        have e1 : Z.cell? ⟨w.heap.size + 1 + 1, 1, none⟩ = some (.int .i64 1) := h1.cell 1
        exact bodyPost_ret (v := .agg #[.slice none 0 0, .int .i64 1]) (by simp [results, Tryz.results109, go_sem, e0, e1]) rfl ⟨⟨_, _, rfl, World.ownsRow_nil _ _ _ 9⟩, h2⟩
set_option maxRecDepth 100000 in
set_option maxHeartbeats 4000000 in
theorem implLearn_old (p : Option Addr) (cap : Nat) (rs : List Rt) (r old : Rt) (now : Int) (w : World) (h : RtsIn w p rs) (hr : ribB rs = true) (ht : toldB r now = true) (hk : lookN rs r.a r.l = some old) :
    Calls Tryz.prog 109 #[ribV p rs.length cap, rtV r, .int .i64 now] w fun e w' => OutR w.heap.size 0 (insR rs (heardR old r now)) e w' ∧ Below w.heap.size w w' := by
  have hn := Nat.le_trans (ribB_len hr) (show 8 ≤ 100000000 by omega)
  have HB : Hid (∀ w, RtsIn w p rs → Calls Tryz.prog 103 #[.agg #[.slice p rs.length cap]] w fun e w' => e = .returned (.bool (ribB rs)) ∧ Below w.heap.size w w') := fun w h => implRib_any p cap rs w h hn
  have HS : Hid (∀ w, Calls Tryz.prog 150 #[rtV r] w fun e w' => e = .returned (.bool (saidB r)) ∧ Below w.heap.size w w') := saidRight_any r
  have HO : Hid (∀ w, Calls Tryz.prog 151 #[rtV r] w fun e w' => e = .returned (.bool (decide (r.n = 0))) ∧ Below w.heap.size w w') := isOwn_any r
  have HN : Hid (∀ w, Calls Tryz.prog 84 #[.int .i64 now] w fun e w' => e = .returned (.bool (inNow now)) ∧ w = w') := isNow_any now
  have HL : Hid (∀ w, RtsIn w p rs → Calls Tryz.prog 152 #[.agg #[.slice p rs.length cap]] w fun e w' => ∃ B, e = .returned (.agg #[.map (some B), .func (.func 175) #[] #[]]) ∧ w.heap.size ≤ B ∧ MapIs w' B rs ∧ Below w.heap.size w w') := fun w h => (laidOut_any p cap rs w h hn).mono fun e w' h => by
    obtain ⟨B, e1, hB, hm, hb⟩ := h
    rw [laidN_right hr] at hm
    exact ⟨B, e1, hB, hm, hb⟩
  have HF : Hid (∀ B w, MapIs w B rs → Calls Tryz.prog 153 #[.agg #[.map (some B), .func (.func 175) #[] #[]], .agg #[.int .i64 r.a, .int .i64 r.l]] w fun e w' => e = .returned (.tuple #[rtV ((lookN rs r.a r.l).getD zeroR), .bool (lookN rs r.a r.l).isSome]) ∧ Below w.heap.size w w') := fun B w h => find_any B rs r.a r.l w h
  have ht' := ht
  simp only [toldB, Bool.and_eq_true, Bool.not_eq_true', decide_eq_false_iff_not] at ht'
  obtain ⟨t1, t2, t3⟩ := ht'
  have hnw := t3
  simp only [inNow, Bool.and_eq_true, decide_eq_true_eq] at hnw
  rw [hr] at HB
  rw [t1] at HS
  rw [decide_eq_false t2] at HO
  rw [t3] at HN
  have HX : Hid (RtsIn w p rs) := h
  have HC : Hid (∀ w, Calls Tryz.prog 155 #[rtV old, rtV r, .int .i64 now] w fun e w' => e = .returned (rtV (heardR old r now)) ∧ Below w.heap.size w w') := fun w => heard_any old r now w hnw.1 hnw.2
  obtain ⟨hmem, e1, e2⟩ := look_mem hk
  have hnet := heard_net (now := now) e1 e2
  have hlen : (insR rs (heardR old r now)).length ≤ 8 := by
    rw [insR_len_old hr (by rw [hnet.1, hnet.2, hk]; rfl)]
    exact ribB_len hr
  have HT : Hid (∀ B w, MapIs w B rs → Calls Tryz.prog 154 #[.agg #[.map (some B), .func (.func 175) #[] #[]], rtV (heardR old r now)] w fun e w' => ∃ p cap, e = .returned (.agg #[.slice p (insR rs (heardR old r now)).length cap, .int .i64 0]) ∧ w'.ownsRow w.heap.size 98 9 (.slice p (insR rs (heardR old r now)).length cap) (insR rs (heardR old r now)).length (rowR (insR rs (heardR old r now))) ∧ Below B w w') := fun B w hM =>
    (withRoute_any B rs (insR rs (heardR old r now)) (heardR old r now) w hM (insR_perm rs _ (rib_rising hr)) (fun h => insR_right hr (heard_right (rib_routes hr old hmem) t1 t2 t3) h)).mono fun e w' h => by
      obtain ⟨h | ⟨_, p, cap, he, ho⟩, hb⟩ := h
      · omega
      · exact ⟨p, cap, he, ho, hb⟩
  rw [hk] at HF
  simp only [Option.getD_some, Option.isSome_some] at HF
  clear h hr ht hk t1 t2 t3 hnw hmem e1 e2 hnet hlen hn
  generalize insR rs (heardR old r now) = qs at *
  generalize heardR old r now = RR at *
  obtain ⟨V0, V1, V2, V3, V4, V5, V6, V7, V8⟩ := old
  obtain ⟨a, l, m, n, ii, t, u, b, c⟩ := r
  generalize rs.length = N at *
  unfold ribV rtV rtA at *
  simp only at HB HS HO HF HC ⊢
  obtain ⟨W, hW, q0, q1, q2, hB, hS, -⟩ := rows3 w [.slice p N cap] [.int .i64 a, .int .i64 l, .int .i64 m, .int .i64 n, .int .i64 ii, .int .i64 t, .int .i64 u, .int .i64 b, .bool c] [.slice none 0 0, .int .i64 0] 36 98 112
  have HW : Hid _ := hW
  have HQ : Hid _ := And.intro q0 (And.intro q1 (And.intro q2 hB))
  have x0 : W.cell? ⟨w.heap.size, 0, none⟩ = some (.slice p N cap) := q0.cell 0
  rw [hW] at x0
  clear hW q0 q1 q2 hB
  go_enter Tryz.func109, Tryz.ntmps109
  go_wp2_with fail
  rw [← HW.out]
  obtain ⟨q0, q1, q2, hB⟩ := HQ.out
  clear HQ x0
  refine (HB.out _ ((HX.out).below hB)).mono ?_
  rintro e w1 ⟨rfl, hb1⟩
  have q0 := q0.below hb1 (by omega)
  have q1 := q1.below hb1 (by omega)
  have q2 := q2.below hb1 (by omega)
  have hB := hB.trans (hb1.mono (by omega))
  have hs1 := hb1.size
  clear hb1
  clear HB HW
  have y0 : w1.cell? ⟨w.heap.size + 1, 0, none⟩ = some (.int .i64 a) := q1.cell 0
  have y1 : w1.cell? ⟨w.heap.size + 1, 1, none⟩ = some (.int .i64 l) := q1.cell 1
  have y2 : w1.cell? ⟨w.heap.size + 1, 2, none⟩ = some (.int .i64 m) := q1.cell 2
  have y3 : w1.cell? ⟨w.heap.size + 1, 3, none⟩ = some (.int .i64 n) := q1.cell 3
  have y4 : w1.cell? ⟨w.heap.size + 1, 4, none⟩ = some (.int .i64 ii) := q1.cell 4
  have y5 : w1.cell? ⟨w.heap.size + 1, 5, none⟩ = some (.int .i64 t) := q1.cell 5
  have y6 : w1.cell? ⟨w.heap.size + 1, 6, none⟩ = some (.int .i64 u) := q1.cell 6
  have y7 : w1.cell? ⟨w.heap.size + 1, 7, none⟩ = some (.int .i64 b) := q1.cell 7
  have y8 : w1.cell? ⟨w.heap.size + 1, 8, none⟩ = some (.bool c) := q1.cell 8
  go_wp2_with fail
  refine (HS.out _).mono ?_
  rintro e w2 ⟨rfl, hb2⟩
  clear y0 y1 y2 y3 y4 y5 y6 y7 y8 HS
  have q0 := q0.below hb2 (by omega)
  have q1 := q1.below hb2 (by omega)
  have q2 := q2.below hb2 (by omega)
  have hB := hB.trans (hb2.mono (by omega))
  have hs2 := hb2.size
  clear hb2
  have y0 : w2.cell? ⟨w.heap.size + 1, 0, none⟩ = some (.int .i64 a) := q1.cell 0
  have y1 : w2.cell? ⟨w.heap.size + 1, 1, none⟩ = some (.int .i64 l) := q1.cell 1
  have y2 : w2.cell? ⟨w.heap.size + 1, 2, none⟩ = some (.int .i64 m) := q1.cell 2
  have y3 : w2.cell? ⟨w.heap.size + 1, 3, none⟩ = some (.int .i64 n) := q1.cell 3
  have y4 : w2.cell? ⟨w.heap.size + 1, 4, none⟩ = some (.int .i64 ii) := q1.cell 4
  have y5 : w2.cell? ⟨w.heap.size + 1, 5, none⟩ = some (.int .i64 t) := q1.cell 5
  have y6 : w2.cell? ⟨w.heap.size + 1, 6, none⟩ = some (.int .i64 u) := q1.cell 6
  have y7 : w2.cell? ⟨w.heap.size + 1, 7, none⟩ = some (.int .i64 b) := q1.cell 7
  have y8 : w2.cell? ⟨w.heap.size + 1, 8, none⟩ = some (.bool c) := q1.cell 8
  go_wp2_with fail
  refine (HO.out _).mono ?_
  rintro e w3 ⟨rfl, hb3⟩
  clear y0 y1 y2 y3 y4 y5 y6 y7 y8 HO
  have q0 := q0.below hb3 (by omega)
  have q1 := q1.below hb3 (by omega)
  have q2 := q2.below hb3 (by omega)
  have hB := hB.trans (hb3.mono (by omega))
  have hs3 := hb3.size
  clear hb3
  go_wp2_with fail
  refine (HN.out _).mono ?_
  rintro e w3' ⟨rfl, rfl⟩
  clear HN
  have x0 : w3.cell? ⟨w.heap.size, 0, none⟩ = some (.slice p N cap) := q0.cell 0
  go_wp2_with fail
  refine (HL.out _ ((HX.out).below hB)).mono ?_
  rintro e w4 ⟨B, rfl, hBB, hm, hb4⟩
  have q0 := q0.below hb4 (by omega)
  have q1 := q1.below hb4 (by omega)
  have q2 := q2.below hb4 (by omega)
  have hB := hB.trans (hb4.mono (by omega))
  have hs4 := hb4.size
  clear hb4
  clear x0 HL q0
  have hml := hm.lt
  have q1 := q1.alloc (.cells #[.map (some B), .func (.func 175) #[] #[]] 180)
  have q2 := q2.alloc (.cells #[.map (some B), .func (.func 175) #[] #[]] 180)
  have q7 := Row.new w4 180 [.map (some B), .func (.func 175) #[] #[]]
  have hB := hB.alloc (by omega) (.cells #[.map (some B), .func (.func 175) #[] #[]] 180)
  have hm := hm.below (ent_new0 w4 (.cells #[.map (some B), .func (.func 175) #[] #[]] 180)) hm.lt
  have y0 : (w4.alloc (.cells #[.map (some B), .func (.func 175) #[] #[]] 180)).cell? ⟨w.heap.size + 1, 0, none⟩ = some (.int .i64 a) := q1.cell 0
  have y1 : (w4.alloc (.cells #[.map (some B), .func (.func 175) #[] #[]] 180)).cell? ⟨w.heap.size + 1, 1, none⟩ = some (.int .i64 l) := q1.cell 1
  have HE : Hid _ := And.intro q1 (And.intro q2 (And.intro q7 (And.intro hB hm)))
  clear q1 q2 q7 hB hm
  go_wp2_with fail
  generalize hb7 : w4.heap.size = b7 at *
  generalize w4.alloc (.cells #[.map (some B), .func (.func 175) #[] #[]] 180) = W4 at *
  clear y0 y1
  obtain ⟨q1, q2, q7, hB, hm⟩ := HE.out
  clear HE
  refine (HF.out B _ hm).mono ?_
  rintro e w5 ⟨rfl, hb5⟩
  have l7 := q7.lt
  have q1 := q1.below hb5 q1.lt
  have q2 := q2.below hb5 q2.lt
  have q7 := q7.below hb5 q7.lt
  have hm := hm.below hb5 hm.lt
  have hB := hB.trans (hb5.mono hB.size)
  have hs5 := hb5.size
  clear hb5 HF
  have q1 := q1.alloc (.cells #[.int .i64 V0, .int .i64 V1, .int .i64 V2, .int .i64 V3, .int .i64 V4, .int .i64 V5, .int .i64 V6, .int .i64 V7, .bool V8] 98)
  have q2 := q2.alloc (.cells #[.int .i64 V0, .int .i64 V1, .int .i64 V2, .int .i64 V3, .int .i64 V4, .int .i64 V5, .int .i64 V6, .int .i64 V7, .bool V8] 98)
  have q7 := q7.alloc (.cells #[.int .i64 V0, .int .i64 V1, .int .i64 V2, .int .i64 V3, .int .i64 V4, .int .i64 V5, .int .i64 V6, .int .i64 V7, .bool V8] 98)
  have q8 := Row.new w5 98 [.int .i64 V0, .int .i64 V1, .int .i64 V2, .int .i64 V3, .int .i64 V4, .int .i64 V5, .int .i64 V6, .int .i64 V7, .bool V8]
  have hB := hB.alloc hB.size (.cells #[.int .i64 V0, .int .i64 V1, .int .i64 V2, .int .i64 V3, .int .i64 V4, .int .i64 V5, .int .i64 V6, .int .i64 V7, .bool V8] 98)
  have hm := hm.below (ent_new0 w5 (.cells #[.int .i64 V0, .int .i64 V1, .int .i64 V2, .int .i64 V3, .int .i64 V4, .int .i64 V5, .int .i64 V6, .int .i64 V7, .bool V8] 98)) hm.lt
  have HE : Hid _ := And.intro q1 (And.intro q2 (And.intro q7 (And.intro q8 (And.intro hB hm))))
  clear q1 q2 q7 q8 hB hm
  go_wp2_with fail
  generalize hb8 : w5.heap.size = b8 at *
  generalize w5.alloc (.cells #[.int .i64 V0, .int .i64 V1, .int .i64 V2, .int .i64 V3, .int .i64 V4, .int .i64 V5, .int .i64 V6, .int .i64 V7, .bool V8] 98) = W5 at *
  clear hb8
  obtain ⟨q1, q2, q7, q8, hB, hm⟩ := HE.out
  clear HE
  have hGN : (([(39, Is (.agg #[.map (some B), .func (.func 175) #[] #[]])), (40, Is (.agg #[.int .i64 V0, .int .i64 V1, .int .i64 V2, .int .i64 V3, .int .i64 V4, .int .i64 V5, .int .i64 V6, .int .i64 V7, .bool V8])), (41, Is (.agg #[.int .i64 a, .int .i64 l, .int .i64 m, .int .i64 n, .int .i64 ii, .int .i64 t, .int .i64 u, .int .i64 b, .bool c])), (42, Is (.int .i64 now)), (43, Is (rtV RR))] : List (Nat × (Value → World → Prop))).map (·.1)).Nodup := by simp
  refine wp_region_steady 5 (SlotG [(39, Is (.agg #[.map (some B), .func (.func 175) #[] #[]])), (40, Is (.agg #[.int .i64 V0, .int .i64 V1, .int .i64 V2, .int .i64 V3, .int .i64 V4, .int .i64 V5, .int .i64 V6, .int .i64 V7, .bool V8])), (41, Is (.agg #[.int .i64 a, .int .i64 l, .int .i64 m, .int .i64 n, .int .i64 ii, .int .i64 t, .int .i64 u, .int .i64 b, .bool c])), (42, Is (.int .i64 now)), (43, Is (rtV RR))]) (by kernel_rfl) (by kernel_rfl) (Stabs.all ⟨stab_is _, stab_is _, stab_is _, stab_is _, stab_is _, trivial⟩) ?_ ?_
  · intro o ho
    simp only [List.take_succ_cons, List.take_zero, List.mem_cons, List.not_mem_nil, or_false] at ho
    rcases ho with rfl | rfl | rfl | rfl | rfl
    · intro a' w' hb ha hdep
      have d7 : a'.tmps.getD 7 undef = .pointer (some ⟨b7, 0, none⟩) := ha.at 7 (by kernel_rfl)
      have hmk := fun (x : Value) (W : World) => SlotG.mk (x := x) (w := W) 0 rfl hGN
      clear hGN ha hdep
      have y0 : w'.cell? ⟨b7, 0, none⟩ = some (.map (some B)) := (q7.below hb q7.lt).cell 0
      have y1 : w'.cell? ⟨b7, 1, none⟩ = some (.func (.func 175) #[] #[]) := (q7.below hb q7.lt).cell 1
      go_simp
      exact ⟨_, rfl, Below.refl _ _, hmk _ _ rfl⟩
    · intro a' w' hb ha hdep
      have d8 : a'.tmps.getD 8 undef = .pointer (some ⟨b8, 0, none⟩) := ha.at 8 (by kernel_rfl)
      have hmk := fun (x : Value) (W : World) => SlotG.mk (x := x) (w := W) 1 rfl hGN
      clear hGN ha hdep
      have y0 : w'.cell? ⟨b8, 0, none⟩ = some (.int .i64 V0) := (q8.below hb q8.lt).cell 0
      have y1 : w'.cell? ⟨b8, 1, none⟩ = some (.int .i64 V1) := (q8.below hb q8.lt).cell 1
      have y2 : w'.cell? ⟨b8, 2, none⟩ = some (.int .i64 V2) := (q8.below hb q8.lt).cell 2
      have y3 : w'.cell? ⟨b8, 3, none⟩ = some (.int .i64 V3) := (q8.below hb q8.lt).cell 3
      have y4 : w'.cell? ⟨b8, 4, none⟩ = some (.int .i64 V4) := (q8.below hb q8.lt).cell 4
      have y5 : w'.cell? ⟨b8, 5, none⟩ = some (.int .i64 V5) := (q8.below hb q8.lt).cell 5
      have y6 : w'.cell? ⟨b8, 6, none⟩ = some (.int .i64 V6) := (q8.below hb q8.lt).cell 6
      have y7 : w'.cell? ⟨b8, 7, none⟩ = some (.int .i64 V7) := (q8.below hb q8.lt).cell 7
      have y8 : w'.cell? ⟨b8, 8, none⟩ = some (.bool V8) := (q8.below hb q8.lt).cell 8
      go_simp
      exact ⟨_, rfl, Below.refl _ _, hmk _ _ rfl⟩
    · intro a' w' hb ha hdep
      have d4 : a'.tmps.getD 4 undef = .pointer (some ⟨w.heap.size + 1, 0, none⟩) := ha.at 4 (by kernel_rfl)
      have hmk := fun (x : Value) (W : World) => SlotG.mk (x := x) (w := W) 2 rfl hGN
      clear hGN ha hdep
      have y0 : w'.cell? ⟨w.heap.size + 1, 0, none⟩ = some (.int .i64 a) := (q1.below hb q1.lt).cell 0
      have y1 : w'.cell? ⟨w.heap.size + 1, 1, none⟩ = some (.int .i64 l) := (q1.below hb q1.lt).cell 1
      have y2 : w'.cell? ⟨w.heap.size + 1, 2, none⟩ = some (.int .i64 m) := (q1.below hb q1.lt).cell 2
      have y3 : w'.cell? ⟨w.heap.size + 1, 3, none⟩ = some (.int .i64 n) := (q1.below hb q1.lt).cell 3
      have y4 : w'.cell? ⟨w.heap.size + 1, 4, none⟩ = some (.int .i64 ii) := (q1.below hb q1.lt).cell 4
      have y5 : w'.cell? ⟨w.heap.size + 1, 5, none⟩ = some (.int .i64 t) := (q1.below hb q1.lt).cell 5
      have y6 : w'.cell? ⟨w.heap.size + 1, 6, none⟩ = some (.int .i64 u) := (q1.below hb q1.lt).cell 6
      have y7 : w'.cell? ⟨w.heap.size + 1, 7, none⟩ = some (.int .i64 b) := (q1.below hb q1.lt).cell 7
      have y8 : w'.cell? ⟨w.heap.size + 1, 8, none⟩ = some (.bool c) := (q1.below hb q1.lt).cell 8
      go_simp
      exact ⟨_, rfl, Below.refl _ _, hmk _ _ rfl⟩
    · intro a' w' hb ha hdep
      have d2 : a'.tmps.getD 2 undef = .int .i64 now := ha.at 2 (by kernel_rfl)
      have hmk := fun (x : Value) (W : World) => SlotG.mk (x := x) (w := W) 3 rfl hGN
      clear hGN ha hdep
      go_simp
      exact ⟨_, rfl, Below.refl _ _, hmk _ _ rfl⟩
    · intro a' w' hb ha hdep
      have d40 : a'.tmps.getD 40 undef = .agg #[.int .i64 V0, .int .i64 V1, .int .i64 V2, .int .i64 V3, .int .i64 V4, .int .i64 V5, .int .i64 V6, .int .i64 V7, .bool V8] := (hdep 40 (of_decide_eq_true (by kernel_rfl))).is 1 rfl
      have d41 : a'.tmps.getD 41 undef = .agg #[.int .i64 a, .int .i64 l, .int .i64 m, .int .i64 n, .int .i64 ii, .int .i64 t, .int .i64 u, .int .i64 b, .bool c] := (hdep 41 (of_decide_eq_true (by kernel_rfl))).is 2 rfl
      have d42 : a'.tmps.getD 42 undef = .int .i64 now := (hdep 42 (of_decide_eq_true (by kernel_rfl))).is 3 rfl
      have hmk := fun (x : Value) (W : World) => SlotG.mk (x := x) (w := W) 4 rfl hGN
      clear hGN ha hdep
      go_simp
      refine (HC.out _).mono ?_
      rintro e w2 ⟨rfl, hb2⟩
      exact ⟨_, rfl, hb2, hmk _ _ rfl⟩
  · intro a' w' hb ha hG
    clear hGN
    have d39 : a'.tmps.getD 39 undef = .agg #[.map (some B), .func (.func 175) #[] #[]] := (hG _ (List.mem_of_getElem? (i := 0) rfl) 39 rfl).is 0 rfl
    have d43 : a'.tmps.getD 43 undef = rtV RR := (hG _ (List.mem_of_getElem? (i := 4) rfl) 43 rfl).is 4 rfl
    have d6 : a'.tmps.getD 6 undef = .pointer (some ⟨w.heap.size + 1 + 1, 0, none⟩) := ha.at 6 (by kernel_rfl)
    have e2 : a' = ⟨#[a'.tmps.getD 0 undef, a'.tmps.getD 1 undef, a'.tmps.getD 2 undef, a'.tmps.getD 3 undef, a'.tmps.getD 4 undef, a'.tmps.getD 5 undef, a'.tmps.getD 6 undef, a'.tmps.getD 7 undef, a'.tmps.getD 8 undef, a'.tmps.getD 9 undef, a'.tmps.getD 10 undef, a'.tmps.getD 11 undef, a'.tmps.getD 12 undef, a'.tmps.getD 13 undef, a'.tmps.getD 14 undef, a'.tmps.getD 15 undef, a'.tmps.getD 16 undef, a'.tmps.getD 17 undef, a'.tmps.getD 18 undef, a'.tmps.getD 19 undef, a'.tmps.getD 20 undef, a'.tmps.getD 21 undef, a'.tmps.getD 22 undef, a'.tmps.getD 23 undef, a'.tmps.getD 24 undef, a'.tmps.getD 25 undef, a'.tmps.getD 26 undef, a'.tmps.getD 27 undef, a'.tmps.getD 28 undef, a'.tmps.getD 29 undef, a'.tmps.getD 30 undef, a'.tmps.getD 31 undef, a'.tmps.getD 32 undef, a'.tmps.getD 33 undef, a'.tmps.getD 34 undef, a'.tmps.getD 35 undef, a'.tmps.getD 36 undef, a'.tmps.getD 37 undef, a'.tmps.getD 38 undef, a'.tmps.getD 39 undef, a'.tmps.getD 40 undef, a'.tmps.getD 41 undef, a'.tmps.getD 42 undef, a'.tmps.getD 43 undef, a'.tmps.getD 44 undef, a'.tmps.getD 45 undef, a'.tmps.getD 46 undef, a'.tmps.getD 47 undef, a'.tmps.getD 48 undef, a'.tmps.getD 49 undef, a'.tmps.getD 50 undef, a'.tmps.getD 51 undef, a'.tmps.getD 52 undef, a'.tmps.getD 53 undef, a'.tmps.getD 54 undef, a'.tmps.getD 55 undef, a'.tmps.getD 56 undef], []⟩ := by rw [← (show a'.defers = [] from ha.2.1)]; exact act_eq a' 57 ha.1
    rw [d39, d43, d6] at e2
    clear hG ha d39 d43 d6
    generalize a'.tmps.getD 0 undef = x0 at *
    generalize a'.tmps.getD 1 undef = x1 at *
    generalize a'.tmps.getD 2 undef = x2 at *
    generalize a'.tmps.getD 3 undef = x3 at *
    generalize a'.tmps.getD 4 undef = x4 at *
    generalize a'.tmps.getD 5 undef = x5 at *
    generalize a'.tmps.getD 7 undef = x7 at *
    generalize a'.tmps.getD 8 undef = x8 at *
    generalize a'.tmps.getD 9 undef = x9 at *
    generalize a'.tmps.getD 10 undef = x10 at *
    generalize a'.tmps.getD 11 undef = x11 at *
    generalize a'.tmps.getD 12 undef = x12 at *
    generalize a'.tmps.getD 13 undef = x13 at *
    generalize a'.tmps.getD 14 undef = x14 at *
    generalize a'.tmps.getD 15 undef = x15 at *
    generalize a'.tmps.getD 16 undef = x16 at *
    generalize a'.tmps.getD 17 undef = x17 at *
    generalize a'.tmps.getD 18 undef = x18 at *
    generalize a'.tmps.getD 19 undef = x19 at *
    generalize a'.tmps.getD 20 undef = x20 at *
    generalize a'.tmps.getD 21 undef = x21 at *
    generalize a'.tmps.getD 22 undef = x22 at *
    generalize a'.tmps.getD 23 undef = x23 at *
    generalize a'.tmps.getD 24 undef = x24 at *
    generalize a'.tmps.getD 25 undef = x25 at *
    generalize a'.tmps.getD 26 undef = x26 at *
    generalize a'.tmps.getD 27 undef = x27 at *
    generalize a'.tmps.getD 28 undef = x28 at *
    generalize a'.tmps.getD 29 undef = x29 at *
    generalize a'.tmps.getD 30 undef = x30 at *
    generalize a'.tmps.getD 31 undef = x31 at *
    generalize a'.tmps.getD 32 undef = x32 at *
    generalize a'.tmps.getD 33 undef = x33 at *
    generalize a'.tmps.getD 34 undef = x34 at *
    generalize a'.tmps.getD 35 undef = x35 at *
    generalize a'.tmps.getD 36 undef = x36 at *
    generalize a'.tmps.getD 37 undef = x37 at *
    generalize a'.tmps.getD 38 undef = x38 at *
    generalize a'.tmps.getD 40 undef = x40 at *
    generalize a'.tmps.getD 41 undef = x41 at *
    generalize a'.tmps.getD 42 undef = x42 at *
    generalize a'.tmps.getD 44 undef = x44 at *
    generalize a'.tmps.getD 45 undef = x45 at *
    generalize a'.tmps.getD 46 undef = x46 at *
    generalize a'.tmps.getD 47 undef = x47 at *
    generalize a'.tmps.getD 48 undef = x48 at *
    generalize a'.tmps.getD 49 undef = x49 at *
    generalize a'.tmps.getD 50 undef = x50 at *
    generalize a'.tmps.getD 51 undef = x51 at *
    generalize a'.tmps.getD 52 undef = x52 at *
    generalize a'.tmps.getD 53 undef = x53 at *
    generalize a'.tmps.getD 54 undef = x54 at *
    generalize a'.tmps.getD 55 undef = x55 at *
    generalize a'.tmps.getD 56 undef = x56 at *
    subst e2
    simp only [List.drop_succ_cons, List.drop_zero]
    have hmm := hm.below hb hm.lt
    have qr := q2.below hb q2.lt
    have hBw := hB.trans (hb.mono hB.size)
    have hsw := hb.size
    have l2 := q2.lt
    clear hb q1 q2 q7 q8 hB hm HC
    go_wp2_with fail
    refine (HT.out B _ hmm).mono ?_
    rintro e w6 ⟨q, cq, rfl, ho, hb6⟩
    have qr := qr.below hb6 (by omega)
    have hB := hBw.trans (hb6.mono (by omega))
    clear hmm HT hBw
    have f0 : w6.frozen? ⟨w.heap.size + 1 + 1, 0, none⟩ = false := qr.frozen 0
    have f1 : w6.frozen? ⟨w.heap.size + 1 + 1, 1, none⟩ = false := qr.frozen 1
    have z0 : w6.cell? ⟨w.heap.size + 1 + 1, 0, none⟩ = some (.slice none 0 0) := qr.cell 0
    have z1 : w6.cell? ⟨w.heap.size + 1 + 1, 1, none⟩ = some (.int .i64 0) := qr.cell 1
    have HE2 : Hid _ := And.intro ((qr.set 0 (.slice q qs.length cq)).set 1 (.int .i64 0)) (And.intro ((hB.setCell (p := ⟨w.heap.size + 1 + 1, 0, none⟩) (by show w.heap.size ≤ w.heap.size + 1 + 1; omega) (.slice q qs.length cq)).setCell (p := ⟨w.heap.size + 1 + 1, 1, none⟩) (by show w.heap.size ≤ w.heap.size + 1 + 1; omega) (.int .i64 0)) (ownR_set (base' := w.heap.size) (ownR_set (base' := w.heap.size + 1 + 1 + 1) ho ⟨w.heap.size + 1 + 1, 0, none⟩ (by show w.heap.size + 1 + 1 < _; omega) (.slice q qs.length cq) (by omega)) ⟨w.heap.size + 1 + 1, 1, none⟩ (by show w.heap.size + 1 + 1 < _; omega) (.int .i64 0) (by omega)))
    clear qr hB ho hb6
    go_wp2_with fail
    obtain ⟨h1, h2, h3⟩ := HE2.out
    clear HE2 f0 f1 z0 z1
    generalize (w6.setCell ⟨w.heap.size + 1 + 1, 0, none⟩ (.slice q qs.length cq)).setCell ⟨w.heap.size + 1 + 1, 1, none⟩ (.int .i64 0) = Z at *
    have e0 : Z.cell? ⟨w.heap.size + 1 + 1, 0, none⟩ = some (.slice q qs.length cq) := h1.cell 0
    have e1 : Z.cell? ⟨w.heap.size + 1 + 1, 1, none⟩ = some (.int .i64 0) := h1.cell 1
    exact bodyPost_ret (v := .agg #[.slice q qs.length cq, .int .i64 0]) (by simp [results, Tryz.results109, go_sem, e0, e1]) rfl ⟨⟨_, _, rfl, h3⟩, h2⟩
set_option maxRecDepth 100000 in
set_option maxHeartbeats 4000000 in
theorem implLearn_new (p : Option Addr) (cap : Nat) (rs : List Rt) (r : Rt) (now : Int) (w : World) (h : RtsIn w p rs) (hr : ribB rs = true) (ht : toldB r now = true) (hk : lookN rs r.a r.l = none) (hm : ¬ r.m = 16) :
    Calls Tryz.prog 109 #[ribV p rs.length cap, rtV r, .int .i64 now] w fun e w' => (8 < (insR rs (freshR r now)).length ∧ OutR w.heap.size 9 [] e w' ∨ (insR rs (freshR r now)).length ≤ 8 ∧ OutR w.heap.size 0 (insR rs (freshR r now)) e w') ∧ Below w.heap.size w w' := by
  have hn := Nat.le_trans (ribB_len hr) (show 8 ≤ 100000000 by omega)
  have HB : Hid (∀ w, RtsIn w p rs → Calls Tryz.prog 103 #[.agg #[.slice p rs.length cap]] w fun e w' => e = .returned (.bool (ribB rs)) ∧ Below w.heap.size w w') := fun w h => implRib_any p cap rs w h hn
  have HS : Hid (∀ w, Calls Tryz.prog 150 #[rtV r] w fun e w' => e = .returned (.bool (saidB r)) ∧ Below w.heap.size w w') := saidRight_any r
  have HO : Hid (∀ w, Calls Tryz.prog 151 #[rtV r] w fun e w' => e = .returned (.bool (decide (r.n = 0))) ∧ Below w.heap.size w w') := isOwn_any r
  have HN : Hid (∀ w, Calls Tryz.prog 84 #[.int .i64 now] w fun e w' => e = .returned (.bool (inNow now)) ∧ w = w') := isNow_any now
  have HL : Hid (∀ w, RtsIn w p rs → Calls Tryz.prog 152 #[.agg #[.slice p rs.length cap]] w fun e w' => ∃ B, e = .returned (.agg #[.map (some B), .func (.func 175) #[] #[]]) ∧ w.heap.size ≤ B ∧ MapIs w' B rs ∧ Below w.heap.size w w') := fun w h => (laidOut_any p cap rs w h hn).mono fun e w' h => by
    obtain ⟨B, e1, hB, hm, hb⟩ := h
    rw [laidN_right hr] at hm
    exact ⟨B, e1, hB, hm, hb⟩
  have HF : Hid (∀ B w, MapIs w B rs → Calls Tryz.prog 153 #[.agg #[.map (some B), .func (.func 175) #[] #[]], .agg #[.int .i64 r.a, .int .i64 r.l]] w fun e w' => e = .returned (.tuple #[rtV ((lookN rs r.a r.l).getD zeroR), .bool (lookN rs r.a r.l).isSome]) ∧ Below w.heap.size w w') := fun B w h => find_any B rs r.a r.l w h
  have ht' := ht
  simp only [toldB, Bool.and_eq_true, Bool.not_eq_true', decide_eq_false_iff_not] at ht'
  obtain ⟨t1, t2, t3⟩ := ht'
  have hnw := t3
  simp only [inNow, Bool.and_eq_true, decide_eq_true_eq] at hnw
  rw [hr] at HB
  rw [t1] at HS
  rw [decide_eq_false t2] at HO
  rw [t3] at HN
  have HX : Hid (RtsIn w p rs) := h
  have HC : Hid (∀ w, Calls Tryz.prog 157 #[rtV r, .int .i64 now] w fun e w' => e = .returned (rtV (freshR r now)) ∧ Below w.heap.size w w') := fun w => fresh_any r now w hnw.1 hnw.2
  have hm16 : r.m < 16 := by have := said_met t1; omega
  have HT : Hid (∀ B w, MapIs w B rs → Calls Tryz.prog 154 #[.agg #[.map (some B), .func (.func 175) #[] #[]], rtV (freshR r now)] w fun e w' => (8 < (insR rs (freshR r now)).length ∧ e = .returned (.agg #[.slice none 0 0, .int .i64 9]) ∨ (insR rs (freshR r now)).length ≤ 8 ∧ ∃ p cap, e = .returned (.agg #[.slice p (insR rs (freshR r now)).length cap, .int .i64 0]) ∧ w'.ownsRow w.heap.size 98 9 (.slice p (insR rs (freshR r now)).length cap) (insR rs (freshR r now)).length (rowR (insR rs (freshR r now)))) ∧ Below B w w') := fun B w hM =>
    withRoute_any B rs (insR rs (freshR r now)) (freshR r now) w hM (insR_perm rs _ (rib_rising hr)) (fun h => insR_right hr (fresh_right t1 t2 hm16 t3 true) h)
  rw [hk] at HF
  simp only [Option.getD_none, Option.isSome_none] at HF
  have d16 : (r.m == 16) = false := by simpa using hm
  clear h hr ht hk t1 t2 t3 hnw hm hm16 hn
  generalize insR rs (freshR r now) = qs at *
  generalize freshR r now = RR at *
  generalize zeroR = ZZ at *
  obtain ⟨V0, V1, V2, V3, V4, V5, V6, V7, V8⟩ := ZZ
  obtain ⟨a, l, m, n, ii, t, u, b, c⟩ := r
  generalize rs.length = N at *
  unfold ribV rtV rtA at *
  simp only at HB HS HO HF HC d16 ⊢
  obtain ⟨W, hW, q0, q1, q2, hB, hS, -⟩ := rows3 w [.slice p N cap] [.int .i64 a, .int .i64 l, .int .i64 m, .int .i64 n, .int .i64 ii, .int .i64 t, .int .i64 u, .int .i64 b, .bool c] [.slice none 0 0, .int .i64 0] 36 98 112
  have HW : Hid _ := hW
  have HQ : Hid _ := And.intro q0 (And.intro q1 (And.intro q2 hB))
  have x0 : W.cell? ⟨w.heap.size, 0, none⟩ = some (.slice p N cap) := q0.cell 0
  rw [hW] at x0
  clear hW q0 q1 q2 hB
  go_enter Tryz.func109, Tryz.ntmps109
  go_wp2_with fail
  rw [← HW.out]
  obtain ⟨q0, q1, q2, hB⟩ := HQ.out
  clear HQ x0
  refine (HB.out _ ((HX.out).below hB)).mono ?_
  rintro e w1 ⟨rfl, hb1⟩
  have q0 := q0.below hb1 (by omega)
  have q1 := q1.below hb1 (by omega)
  have q2 := q2.below hb1 (by omega)
  have hB := hB.trans (hb1.mono (by omega))
  have hs1 := hb1.size
  clear hb1
  clear HB HW
  have y0 : w1.cell? ⟨w.heap.size + 1, 0, none⟩ = some (.int .i64 a) := q1.cell 0
  have y1 : w1.cell? ⟨w.heap.size + 1, 1, none⟩ = some (.int .i64 l) := q1.cell 1
  have y2 : w1.cell? ⟨w.heap.size + 1, 2, none⟩ = some (.int .i64 m) := q1.cell 2
  have y3 : w1.cell? ⟨w.heap.size + 1, 3, none⟩ = some (.int .i64 n) := q1.cell 3
  have y4 : w1.cell? ⟨w.heap.size + 1, 4, none⟩ = some (.int .i64 ii) := q1.cell 4
  have y5 : w1.cell? ⟨w.heap.size + 1, 5, none⟩ = some (.int .i64 t) := q1.cell 5
  have y6 : w1.cell? ⟨w.heap.size + 1, 6, none⟩ = some (.int .i64 u) := q1.cell 6
  have y7 : w1.cell? ⟨w.heap.size + 1, 7, none⟩ = some (.int .i64 b) := q1.cell 7
  have y8 : w1.cell? ⟨w.heap.size + 1, 8, none⟩ = some (.bool c) := q1.cell 8
  go_wp2_with fail
  refine (HS.out _).mono ?_
  rintro e w2 ⟨rfl, hb2⟩
  clear y0 y1 y2 y3 y4 y5 y6 y7 y8 HS
  have q0 := q0.below hb2 (by omega)
  have q1 := q1.below hb2 (by omega)
  have q2 := q2.below hb2 (by omega)
  have hB := hB.trans (hb2.mono (by omega))
  have hs2 := hb2.size
  clear hb2
  have y0 : w2.cell? ⟨w.heap.size + 1, 0, none⟩ = some (.int .i64 a) := q1.cell 0
  have y1 : w2.cell? ⟨w.heap.size + 1, 1, none⟩ = some (.int .i64 l) := q1.cell 1
  have y2 : w2.cell? ⟨w.heap.size + 1, 2, none⟩ = some (.int .i64 m) := q1.cell 2
  have y3 : w2.cell? ⟨w.heap.size + 1, 3, none⟩ = some (.int .i64 n) := q1.cell 3
  have y4 : w2.cell? ⟨w.heap.size + 1, 4, none⟩ = some (.int .i64 ii) := q1.cell 4
  have y5 : w2.cell? ⟨w.heap.size + 1, 5, none⟩ = some (.int .i64 t) := q1.cell 5
  have y6 : w2.cell? ⟨w.heap.size + 1, 6, none⟩ = some (.int .i64 u) := q1.cell 6
  have y7 : w2.cell? ⟨w.heap.size + 1, 7, none⟩ = some (.int .i64 b) := q1.cell 7
  have y8 : w2.cell? ⟨w.heap.size + 1, 8, none⟩ = some (.bool c) := q1.cell 8
  go_wp2_with fail
  refine (HO.out _).mono ?_
  rintro e w3 ⟨rfl, hb3⟩
  clear y0 y1 y2 y3 y4 y5 y6 y7 y8 HO
  have q0 := q0.below hb3 (by omega)
  have q1 := q1.below hb3 (by omega)
  have q2 := q2.below hb3 (by omega)
  have hB := hB.trans (hb3.mono (by omega))
  have hs3 := hb3.size
  clear hb3
  go_wp2_with fail
  refine (HN.out _).mono ?_
  rintro e w3' ⟨rfl, rfl⟩
  clear HN
  have x0 : w3.cell? ⟨w.heap.size, 0, none⟩ = some (.slice p N cap) := q0.cell 0
  go_wp2_with fail
  refine (HL.out _ ((HX.out).below hB)).mono ?_
  rintro e w4 ⟨B, rfl, hBB, hm, hb4⟩
  have q0 := q0.below hb4 (by omega)
  have q1 := q1.below hb4 (by omega)
  have q2 := q2.below hb4 (by omega)
  have hB := hB.trans (hb4.mono (by omega))
  have hs4 := hb4.size
  clear hb4
  clear x0 HL q0
  have hml := hm.lt
  have q1 := q1.alloc (.cells #[.map (some B), .func (.func 175) #[] #[]] 180)
  have q2 := q2.alloc (.cells #[.map (some B), .func (.func 175) #[] #[]] 180)
  have q7 := Row.new w4 180 [.map (some B), .func (.func 175) #[] #[]]
  have hB := hB.alloc (by omega) (.cells #[.map (some B), .func (.func 175) #[] #[]] 180)
  have hm := hm.below (ent_new0 w4 (.cells #[.map (some B), .func (.func 175) #[] #[]] 180)) hm.lt
  have y0 : (w4.alloc (.cells #[.map (some B), .func (.func 175) #[] #[]] 180)).cell? ⟨w.heap.size + 1, 0, none⟩ = some (.int .i64 a) := q1.cell 0
  have y1 : (w4.alloc (.cells #[.map (some B), .func (.func 175) #[] #[]] 180)).cell? ⟨w.heap.size + 1, 1, none⟩ = some (.int .i64 l) := q1.cell 1
  have HE : Hid _ := And.intro q1 (And.intro q2 (And.intro q7 (And.intro hB hm)))
  clear q1 q2 q7 hB hm
  go_wp2_with fail
  generalize hb7 : w4.heap.size = b7 at *
  generalize w4.alloc (.cells #[.map (some B), .func (.func 175) #[] #[]] 180) = W4 at *
  clear y0 y1
  obtain ⟨q1, q2, q7, hB, hm⟩ := HE.out
  clear HE
  refine (HF.out B _ hm).mono ?_
  rintro e w5 ⟨rfl, hb5⟩
  have l7 := q7.lt
  have q1 := q1.below hb5 q1.lt
  have q2 := q2.below hb5 q2.lt
  have q7 := q7.below hb5 q7.lt
  have hm := hm.below hb5 hm.lt
  have hB := hB.trans (hb5.mono hB.size)
  have hs5 := hb5.size
  clear hb5 HF
  have q1 := q1.alloc (.cells #[.int .i64 V0, .int .i64 V1, .int .i64 V2, .int .i64 V3, .int .i64 V4, .int .i64 V5, .int .i64 V6, .int .i64 V7, .bool V8] 98)
  have q2 := q2.alloc (.cells #[.int .i64 V0, .int .i64 V1, .int .i64 V2, .int .i64 V3, .int .i64 V4, .int .i64 V5, .int .i64 V6, .int .i64 V7, .bool V8] 98)
  have q7 := q7.alloc (.cells #[.int .i64 V0, .int .i64 V1, .int .i64 V2, .int .i64 V3, .int .i64 V4, .int .i64 V5, .int .i64 V6, .int .i64 V7, .bool V8] 98)
  have q8 := Row.new w5 98 [.int .i64 V0, .int .i64 V1, .int .i64 V2, .int .i64 V3, .int .i64 V4, .int .i64 V5, .int .i64 V6, .int .i64 V7, .bool V8]
  have hB := hB.alloc hB.size (.cells #[.int .i64 V0, .int .i64 V1, .int .i64 V2, .int .i64 V3, .int .i64 V4, .int .i64 V5, .int .i64 V6, .int .i64 V7, .bool V8] 98)
  have hm := hm.below (ent_new0 w5 (.cells #[.int .i64 V0, .int .i64 V1, .int .i64 V2, .int .i64 V3, .int .i64 V4, .int .i64 V5, .int .i64 V6, .int .i64 V7, .bool V8] 98)) hm.lt
  have HE : Hid _ := And.intro q1 (And.intro q2 (And.intro q7 (And.intro q8 (And.intro hB hm))))
  have y2 : (w5.alloc (.cells #[.int .i64 V0, .int .i64 V1, .int .i64 V2, .int .i64 V3, .int .i64 V4, .int .i64 V5, .int .i64 V6, .int .i64 V7, .bool V8] 98)).cell? ⟨w.heap.size + 1, 2, none⟩ = some (.int .i64 m) := q1.cell 2
  clear q1 q2 q7 q8 hB hm
  go_wp2_with fail
  clear y2 d16
  generalize hb8 : w5.heap.size = b8 at *
  generalize w5.alloc (.cells #[.int .i64 V0, .int .i64 V1, .int .i64 V2, .int .i64 V3, .int .i64 V4, .int .i64 V5, .int .i64 V6, .int .i64 V7, .bool V8] 98) = W5 at *
  clear hb8
  obtain ⟨q1, q2, q7, q8, hB, hm⟩ := HE.out
  clear HE
  have hGN : (([(52, Is (.agg #[.map (some B), .func (.func 175) #[] #[]])), (53, Is (.agg #[.int .i64 a, .int .i64 l, .int .i64 m, .int .i64 n, .int .i64 ii, .int .i64 t, .int .i64 u, .int .i64 b, .bool c])), (54, Is (.int .i64 now)), (55, Is (rtV RR))] : List (Nat × (Value → World → Prop))).map (·.1)).Nodup := by simp
  refine wp_region_steady 4 (SlotG [(52, Is (.agg #[.map (some B), .func (.func 175) #[] #[]])), (53, Is (.agg #[.int .i64 a, .int .i64 l, .int .i64 m, .int .i64 n, .int .i64 ii, .int .i64 t, .int .i64 u, .int .i64 b, .bool c])), (54, Is (.int .i64 now)), (55, Is (rtV RR))]) (by kernel_rfl) (by kernel_rfl) (Stabs.all ⟨stab_is _, stab_is _, stab_is _, stab_is _, trivial⟩) ?_ ?_
  · intro o ho
    simp only [List.take_succ_cons, List.take_zero, List.mem_cons, List.not_mem_nil, or_false] at ho
    rcases ho with rfl | rfl | rfl | rfl
    · intro a' w' hb ha hdep
      have d7 : a'.tmps.getD 7 undef = .pointer (some ⟨b7, 0, none⟩) := ha.at 7 (by kernel_rfl)
      have hmk := fun (x : Value) (W : World) => SlotG.mk (x := x) (w := W) 0 rfl hGN
      clear hGN ha hdep
      have y0 : w'.cell? ⟨b7, 0, none⟩ = some (.map (some B)) := (q7.below hb q7.lt).cell 0
      have y1 : w'.cell? ⟨b7, 1, none⟩ = some (.func (.func 175) #[] #[]) := (q7.below hb q7.lt).cell 1
      go_simp
      exact ⟨_, rfl, Below.refl _ _, hmk _ _ rfl⟩
    · intro a' w' hb ha hdep
      have d4 : a'.tmps.getD 4 undef = .pointer (some ⟨w.heap.size + 1, 0, none⟩) := ha.at 4 (by kernel_rfl)
      have hmk := fun (x : Value) (W : World) => SlotG.mk (x := x) (w := W) 1 rfl hGN
      clear hGN ha hdep
      have y0 : w'.cell? ⟨w.heap.size + 1, 0, none⟩ = some (.int .i64 a) := (q1.below hb q1.lt).cell 0
      have y1 : w'.cell? ⟨w.heap.size + 1, 1, none⟩ = some (.int .i64 l) := (q1.below hb q1.lt).cell 1
      have y2 : w'.cell? ⟨w.heap.size + 1, 2, none⟩ = some (.int .i64 m) := (q1.below hb q1.lt).cell 2
      have y3 : w'.cell? ⟨w.heap.size + 1, 3, none⟩ = some (.int .i64 n) := (q1.below hb q1.lt).cell 3
      have y4 : w'.cell? ⟨w.heap.size + 1, 4, none⟩ = some (.int .i64 ii) := (q1.below hb q1.lt).cell 4
      have y5 : w'.cell? ⟨w.heap.size + 1, 5, none⟩ = some (.int .i64 t) := (q1.below hb q1.lt).cell 5
      have y6 : w'.cell? ⟨w.heap.size + 1, 6, none⟩ = some (.int .i64 u) := (q1.below hb q1.lt).cell 6
      have y7 : w'.cell? ⟨w.heap.size + 1, 7, none⟩ = some (.int .i64 b) := (q1.below hb q1.lt).cell 7
      have y8 : w'.cell? ⟨w.heap.size + 1, 8, none⟩ = some (.bool c) := (q1.below hb q1.lt).cell 8
      go_simp
      exact ⟨_, rfl, Below.refl _ _, hmk _ _ rfl⟩
    · intro a' w' hb ha hdep
      have d2 : a'.tmps.getD 2 undef = .int .i64 now := ha.at 2 (by kernel_rfl)
      have hmk := fun (x : Value) (W : World) => SlotG.mk (x := x) (w := W) 2 rfl hGN
      clear hGN ha hdep
      go_simp
      exact ⟨_, rfl, Below.refl _ _, hmk _ _ rfl⟩
    · intro a' w' hb ha hdep
      have d53 : a'.tmps.getD 53 undef = .agg #[.int .i64 a, .int .i64 l, .int .i64 m, .int .i64 n, .int .i64 ii, .int .i64 t, .int .i64 u, .int .i64 b, .bool c] := (hdep 53 (of_decide_eq_true (by kernel_rfl))).is 1 rfl
      have d54 : a'.tmps.getD 54 undef = .int .i64 now := (hdep 54 (of_decide_eq_true (by kernel_rfl))).is 2 rfl
      have hmk := fun (x : Value) (W : World) => SlotG.mk (x := x) (w := W) 3 rfl hGN
      clear hGN ha hdep
      go_simp
      refine (HC.out _).mono ?_
      rintro e w2 ⟨rfl, hb2⟩
      exact ⟨_, rfl, hb2, hmk _ _ rfl⟩
  · intro a' w' hb ha hG
    clear hGN
    have d52 : a'.tmps.getD 52 undef = .agg #[.map (some B), .func (.func 175) #[] #[]] := (hG _ (List.mem_of_getElem? (i := 0) rfl) 52 rfl).is 0 rfl
    have d55 : a'.tmps.getD 55 undef = rtV RR := (hG _ (List.mem_of_getElem? (i := 3) rfl) 55 rfl).is 3 rfl
    have d6 : a'.tmps.getD 6 undef = .pointer (some ⟨w.heap.size + 1 + 1, 0, none⟩) := ha.at 6 (by kernel_rfl)
    have e2 : a' = ⟨#[a'.tmps.getD 0 undef, a'.tmps.getD 1 undef, a'.tmps.getD 2 undef, a'.tmps.getD 3 undef, a'.tmps.getD 4 undef, a'.tmps.getD 5 undef, a'.tmps.getD 6 undef, a'.tmps.getD 7 undef, a'.tmps.getD 8 undef, a'.tmps.getD 9 undef, a'.tmps.getD 10 undef, a'.tmps.getD 11 undef, a'.tmps.getD 12 undef, a'.tmps.getD 13 undef, a'.tmps.getD 14 undef, a'.tmps.getD 15 undef, a'.tmps.getD 16 undef, a'.tmps.getD 17 undef, a'.tmps.getD 18 undef, a'.tmps.getD 19 undef, a'.tmps.getD 20 undef, a'.tmps.getD 21 undef, a'.tmps.getD 22 undef, a'.tmps.getD 23 undef, a'.tmps.getD 24 undef, a'.tmps.getD 25 undef, a'.tmps.getD 26 undef, a'.tmps.getD 27 undef, a'.tmps.getD 28 undef, a'.tmps.getD 29 undef, a'.tmps.getD 30 undef, a'.tmps.getD 31 undef, a'.tmps.getD 32 undef, a'.tmps.getD 33 undef, a'.tmps.getD 34 undef, a'.tmps.getD 35 undef, a'.tmps.getD 36 undef, a'.tmps.getD 37 undef, a'.tmps.getD 38 undef, a'.tmps.getD 39 undef, a'.tmps.getD 40 undef, a'.tmps.getD 41 undef, a'.tmps.getD 42 undef, a'.tmps.getD 43 undef, a'.tmps.getD 44 undef, a'.tmps.getD 45 undef, a'.tmps.getD 46 undef, a'.tmps.getD 47 undef, a'.tmps.getD 48 undef, a'.tmps.getD 49 undef, a'.tmps.getD 50 undef, a'.tmps.getD 51 undef, a'.tmps.getD 52 undef, a'.tmps.getD 53 undef, a'.tmps.getD 54 undef, a'.tmps.getD 55 undef, a'.tmps.getD 56 undef], []⟩ := by rw [← (show a'.defers = [] from ha.2.1)]; exact act_eq a' 57 ha.1
    rw [d52, d55, d6] at e2
    clear hG ha d52 d55 d6
    generalize a'.tmps.getD 0 undef = x0 at *
    generalize a'.tmps.getD 1 undef = x1 at *
    generalize a'.tmps.getD 2 undef = x2 at *
    generalize a'.tmps.getD 3 undef = x3 at *
    generalize a'.tmps.getD 4 undef = x4 at *
    generalize a'.tmps.getD 5 undef = x5 at *
    generalize a'.tmps.getD 7 undef = x7 at *
    generalize a'.tmps.getD 8 undef = x8 at *
    generalize a'.tmps.getD 9 undef = x9 at *
    generalize a'.tmps.getD 10 undef = x10 at *
    generalize a'.tmps.getD 11 undef = x11 at *
    generalize a'.tmps.getD 12 undef = x12 at *
    generalize a'.tmps.getD 13 undef = x13 at *
    generalize a'.tmps.getD 14 undef = x14 at *
    generalize a'.tmps.getD 15 undef = x15 at *
    generalize a'.tmps.getD 16 undef = x16 at *
    generalize a'.tmps.getD 17 undef = x17 at *
    generalize a'.tmps.getD 18 undef = x18 at *
    generalize a'.tmps.getD 19 undef = x19 at *
    generalize a'.tmps.getD 20 undef = x20 at *
    generalize a'.tmps.getD 21 undef = x21 at *
    generalize a'.tmps.getD 22 undef = x22 at *
    generalize a'.tmps.getD 23 undef = x23 at *
    generalize a'.tmps.getD 24 undef = x24 at *
    generalize a'.tmps.getD 25 undef = x25 at *
    generalize a'.tmps.getD 26 undef = x26 at *
    generalize a'.tmps.getD 27 undef = x27 at *
    generalize a'.tmps.getD 28 undef = x28 at *
    generalize a'.tmps.getD 29 undef = x29 at *
    generalize a'.tmps.getD 30 undef = x30 at *
    generalize a'.tmps.getD 31 undef = x31 at *
    generalize a'.tmps.getD 32 undef = x32 at *
    generalize a'.tmps.getD 33 undef = x33 at *
    generalize a'.tmps.getD 34 undef = x34 at *
    generalize a'.tmps.getD 35 undef = x35 at *
    generalize a'.tmps.getD 36 undef = x36 at *
    generalize a'.tmps.getD 37 undef = x37 at *
    generalize a'.tmps.getD 38 undef = x38 at *
    generalize a'.tmps.getD 39 undef = x39 at *
    generalize a'.tmps.getD 40 undef = x40 at *
    generalize a'.tmps.getD 41 undef = x41 at *
    generalize a'.tmps.getD 42 undef = x42 at *
    generalize a'.tmps.getD 43 undef = x43 at *
    generalize a'.tmps.getD 44 undef = x44 at *
    generalize a'.tmps.getD 45 undef = x45 at *
    generalize a'.tmps.getD 46 undef = x46 at *
    generalize a'.tmps.getD 47 undef = x47 at *
    generalize a'.tmps.getD 48 undef = x48 at *
    generalize a'.tmps.getD 49 undef = x49 at *
    generalize a'.tmps.getD 50 undef = x50 at *
    generalize a'.tmps.getD 51 undef = x51 at *
    generalize a'.tmps.getD 53 undef = x53 at *
    generalize a'.tmps.getD 54 undef = x54 at *
    generalize a'.tmps.getD 56 undef = x56 at *
    subst e2
    simp only [List.drop_succ_cons, List.drop_zero]
    have hmm := hm.below hb hm.lt
    have qr := q2.below hb q2.lt
    have hBw := hB.trans (hb.mono hB.size)
    have hsw := hb.size
    have l2 := q2.lt
    clear hb q1 q2 q7 q8 hB hm HC
    go_wp2_with fail
    refine (HT.out B _ hmm).mono ?_
    rintro e w6 ⟨h6, hb6⟩
    have qr := qr.below hb6 (by omega)
    have hB := hBw.trans (hb6.mono (by omega))
    clear hmm HT hBw
    rcases h6 with ⟨h8, rfl⟩ | ⟨h8, q, cq, rfl, ho⟩
    · have f0 : w6.frozen? ⟨w.heap.size + 1 + 1, 0, none⟩ = false := qr.frozen 0
      have f1 : w6.frozen? ⟨w.heap.size + 1 + 1, 1, none⟩ = false := qr.frozen 1
      have z0 : w6.cell? ⟨w.heap.size + 1 + 1, 0, none⟩ = some (.slice none 0 0) := qr.cell 0
      have z1 : w6.cell? ⟨w.heap.size + 1 + 1, 1, none⟩ = some (.int .i64 0) := qr.cell 1
      have HE2 : Hid _ := And.intro ((qr.set 0 (.slice none 0 0)).set 1 (.int .i64 9)) (And.intro ((hB.setCell (p := ⟨w.heap.size + 1 + 1, 0, none⟩) (by show w.heap.size ≤ w.heap.size + 1 + 1; omega) (.slice none 0 0)).setCell (p := ⟨w.heap.size + 1 + 1, 1, none⟩) (by show w.heap.size ≤ w.heap.size + 1 + 1; omega) (.int .i64 9)) trivial)
      clear qr hB hb6
      go_wp2_with fail
      obtain ⟨h1, h2, h3⟩ := HE2.out
      clear HE2 f0 f1 z0 z1
      generalize (w6.setCell ⟨w.heap.size + 1 + 1, 0, none⟩ (.slice none 0 0)).setCell ⟨w.heap.size + 1 + 1, 1, none⟩ (.int .i64 9) = Z at *
      have e0 : Z.cell? ⟨w.heap.size + 1 + 1, 0, none⟩ = some (.slice none 0 0) := h1.cell 0
      have e1 : Z.cell? ⟨w.heap.size + 1 + 1, 1, none⟩ = some (.int .i64 9) := h1.cell 1
      exact bodyPost_ret (v := .agg #[.slice none 0 0, .int .i64 9]) (by simp [results, Tryz.results109, go_sem, e0, e1]) rfl ⟨.inl ⟨h8, _, _, rfl, World.ownsRow_nil _ _ _ 9⟩, h2⟩
    · have f0 : w6.frozen? ⟨w.heap.size + 1 + 1, 0, none⟩ = false := qr.frozen 0
      have f1 : w6.frozen? ⟨w.heap.size + 1 + 1, 1, none⟩ = false := qr.frozen 1
      have z0 : w6.cell? ⟨w.heap.size + 1 + 1, 0, none⟩ = some (.slice none 0 0) := qr.cell 0
      have z1 : w6.cell? ⟨w.heap.size + 1 + 1, 1, none⟩ = some (.int .i64 0) := qr.cell 1
      have HE2 : Hid _ := And.intro ((qr.set 0 (.slice q qs.length cq)).set 1 (.int .i64 0)) (And.intro ((hB.setCell (p := ⟨w.heap.size + 1 + 1, 0, none⟩) (by show w.heap.size ≤ w.heap.size + 1 + 1; omega) (.slice q qs.length cq)).setCell (p := ⟨w.heap.size + 1 + 1, 1, none⟩) (by show w.heap.size ≤ w.heap.size + 1 + 1; omega) (.int .i64 0)) (ownR_set (base' := w.heap.size) (ownR_set (base' := w.heap.size + 1 + 1 + 1) ho ⟨w.heap.size + 1 + 1, 0, none⟩ (by show w.heap.size + 1 + 1 < _; omega) (.slice q qs.length cq) (by omega)) ⟨w.heap.size + 1 + 1, 1, none⟩ (by show w.heap.size + 1 + 1 < _; omega) (.int .i64 0) (by omega)))
      clear qr hB ho hb6
      go_wp2_with fail
      obtain ⟨h1, h2, h3⟩ := HE2.out
      clear HE2 f0 f1 z0 z1
      generalize (w6.setCell ⟨w.heap.size + 1 + 1, 0, none⟩ (.slice q qs.length cq)).setCell ⟨w.heap.size + 1 + 1, 1, none⟩ (.int .i64 0) = Z at *
      have e0 : Z.cell? ⟨w.heap.size + 1 + 1, 0, none⟩ = some (.slice q qs.length cq) := h1.cell 0
      have e1 : Z.cell? ⟨w.heap.size + 1 + 1, 1, none⟩ = some (.int .i64 0) := h1.cell 1
      exact bodyPost_ret (v := .agg #[.slice q qs.length cq, .int .i64 0]) (by simp [results, Tryz.results109, go_sem, e0, e1]) rfl ⟨.inr ⟨h8, _, _, rfl, h3⟩, h2⟩
set_option maxRecDepth 100000 in
set_option maxHeartbeats 4000000 in
theorem implLearn_none (p : Option Addr) (cap : Nat) (rs : List Rt) (r : Rt) (now : Int) (w : World) (h : RtsIn w p rs) (hr : ribB rs = true) (ht : toldB r now = true) (hk : lookN rs r.a r.l = none) (hm : r.m = 16) :
    Calls Tryz.prog 109 #[ribV p rs.length cap, rtV r, .int .i64 now] w fun e w' => OutR w.heap.size 0 rs e w' ∧ Below w.heap.size w w' := by
  have hn := Nat.le_trans (ribB_len hr) (show 8 ≤ 100000000 by omega)
  have HB : Hid (∀ w, RtsIn w p rs → Calls Tryz.prog 103 #[.agg #[.slice p rs.length cap]] w fun e w' => e = .returned (.bool (ribB rs)) ∧ Below w.heap.size w w') := fun w h => implRib_any p cap rs w h hn
  have HS : Hid (∀ w, Calls Tryz.prog 150 #[rtV r] w fun e w' => e = .returned (.bool (saidB r)) ∧ Below w.heap.size w w') := saidRight_any r
  have HO : Hid (∀ w, Calls Tryz.prog 151 #[rtV r] w fun e w' => e = .returned (.bool (decide (r.n = 0))) ∧ Below w.heap.size w w') := isOwn_any r
  have HN : Hid (∀ w, Calls Tryz.prog 84 #[.int .i64 now] w fun e w' => e = .returned (.bool (inNow now)) ∧ w = w') := isNow_any now
  have HL : Hid (∀ w, RtsIn w p rs → Calls Tryz.prog 152 #[.agg #[.slice p rs.length cap]] w fun e w' => ∃ B, e = .returned (.agg #[.map (some B), .func (.func 175) #[] #[]]) ∧ w.heap.size ≤ B ∧ MapIs w' B rs ∧ Below w.heap.size w w') := fun w h => (laidOut_any p cap rs w h hn).mono fun e w' h => by
    obtain ⟨B, e1, hB, hm, hb⟩ := h
    rw [laidN_right hr] at hm
    exact ⟨B, e1, hB, hm, hb⟩
  have HF : Hid (∀ B w, MapIs w B rs → Calls Tryz.prog 153 #[.agg #[.map (some B), .func (.func 175) #[] #[]], .agg #[.int .i64 r.a, .int .i64 r.l]] w fun e w' => e = .returned (.tuple #[rtV ((lookN rs r.a r.l).getD zeroR), .bool (lookN rs r.a r.l).isSome]) ∧ Below w.heap.size w w') := fun B w h => find_any B rs r.a r.l w h
  have ht' := ht
  simp only [toldB, Bool.and_eq_true, Bool.not_eq_true', decide_eq_false_iff_not] at ht'
  obtain ⟨t1, t2, t3⟩ := ht'
  have hnw := t3
  simp only [inNow, Bool.and_eq_true, decide_eq_true_eq] at hnw
  rw [hr] at HB
  rw [t1] at HS
  rw [decide_eq_false t2] at HO
  rw [t3] at HN
  have HX : Hid (RtsIn w p rs) := h
  have HRb : Hid (∀ B w, MapIs w B rs → Calls Tryz.prog 156 #[.agg #[.map (some B), .func (.func 175) #[] #[]]] w fun e w' => ∃ p cap, e = .returned (.agg #[.slice p rs.length cap]) ∧ w'.ownsRow w.heap.size 98 9 (.slice p rs.length cap) rs.length (rowR rs) ∧ Below w.heap.size w w') := fun B w hM => ribOf_any B rs rs (List.Perm.refl _) hr w hM
  rw [hk] at HF
  simp only [Option.getD_none, Option.isSome_none] at HF
  have d16 : (r.m == 16) = true := by simpa using hm
  unfold OutR
  clear h hr ht hk t1 t2 t3 hnw hm hn
  generalize zeroR = ZZ at *
  obtain ⟨V0, V1, V2, V3, V4, V5, V6, V7, V8⟩ := ZZ
  obtain ⟨a, l, m, n, ii, t, u, b, c⟩ := r
  generalize rs.length = N at *
  unfold ribV rtV rtA at *
  simp only at HB HS HO HF d16 ⊢
  obtain ⟨W, hW, q0, q1, q2, hB, hS, -⟩ := rows3 w [.slice p N cap] [.int .i64 a, .int .i64 l, .int .i64 m, .int .i64 n, .int .i64 ii, .int .i64 t, .int .i64 u, .int .i64 b, .bool c] [.slice none 0 0, .int .i64 0] 36 98 112
  have HW : Hid _ := hW
  have HQ : Hid _ := And.intro q0 (And.intro q1 (And.intro q2 hB))
  have x0 : W.cell? ⟨w.heap.size, 0, none⟩ = some (.slice p N cap) := q0.cell 0
  rw [hW] at x0
  clear hW q0 q1 q2 hB
  go_enter Tryz.func109, Tryz.ntmps109
  go_wp2_with fail
  rw [← HW.out]
  obtain ⟨q0, q1, q2, hB⟩ := HQ.out
  clear HQ x0
  refine (HB.out _ ((HX.out).below hB)).mono ?_
  rintro e w1 ⟨rfl, hb1⟩
  have q0 := q0.below hb1 (by omega)
  have q1 := q1.below hb1 (by omega)
  have q2 := q2.below hb1 (by omega)
  have hB := hB.trans (hb1.mono (by omega))
  have hs1 := hb1.size
  clear hb1
  clear HB HW
  have y0 : w1.cell? ⟨w.heap.size + 1, 0, none⟩ = some (.int .i64 a) := q1.cell 0
  have y1 : w1.cell? ⟨w.heap.size + 1, 1, none⟩ = some (.int .i64 l) := q1.cell 1
  have y2 : w1.cell? ⟨w.heap.size + 1, 2, none⟩ = some (.int .i64 m) := q1.cell 2
  have y3 : w1.cell? ⟨w.heap.size + 1, 3, none⟩ = some (.int .i64 n) := q1.cell 3
  have y4 : w1.cell? ⟨w.heap.size + 1, 4, none⟩ = some (.int .i64 ii) := q1.cell 4
  have y5 : w1.cell? ⟨w.heap.size + 1, 5, none⟩ = some (.int .i64 t) := q1.cell 5
  have y6 : w1.cell? ⟨w.heap.size + 1, 6, none⟩ = some (.int .i64 u) := q1.cell 6
  have y7 : w1.cell? ⟨w.heap.size + 1, 7, none⟩ = some (.int .i64 b) := q1.cell 7
  have y8 : w1.cell? ⟨w.heap.size + 1, 8, none⟩ = some (.bool c) := q1.cell 8
  go_wp2_with fail
  refine (HS.out _).mono ?_
  rintro e w2 ⟨rfl, hb2⟩
  clear y0 y1 y2 y3 y4 y5 y6 y7 y8 HS
  have q0 := q0.below hb2 (by omega)
  have q1 := q1.below hb2 (by omega)
  have q2 := q2.below hb2 (by omega)
  have hB := hB.trans (hb2.mono (by omega))
  have hs2 := hb2.size
  clear hb2
  have y0 : w2.cell? ⟨w.heap.size + 1, 0, none⟩ = some (.int .i64 a) := q1.cell 0
  have y1 : w2.cell? ⟨w.heap.size + 1, 1, none⟩ = some (.int .i64 l) := q1.cell 1
  have y2 : w2.cell? ⟨w.heap.size + 1, 2, none⟩ = some (.int .i64 m) := q1.cell 2
  have y3 : w2.cell? ⟨w.heap.size + 1, 3, none⟩ = some (.int .i64 n) := q1.cell 3
  have y4 : w2.cell? ⟨w.heap.size + 1, 4, none⟩ = some (.int .i64 ii) := q1.cell 4
  have y5 : w2.cell? ⟨w.heap.size + 1, 5, none⟩ = some (.int .i64 t) := q1.cell 5
  have y6 : w2.cell? ⟨w.heap.size + 1, 6, none⟩ = some (.int .i64 u) := q1.cell 6
  have y7 : w2.cell? ⟨w.heap.size + 1, 7, none⟩ = some (.int .i64 b) := q1.cell 7
  have y8 : w2.cell? ⟨w.heap.size + 1, 8, none⟩ = some (.bool c) := q1.cell 8
  go_wp2_with fail
  refine (HO.out _).mono ?_
  rintro e w3 ⟨rfl, hb3⟩
  clear y0 y1 y2 y3 y4 y5 y6 y7 y8 HO
  have q0 := q0.below hb3 (by omega)
  have q1 := q1.below hb3 (by omega)
  have q2 := q2.below hb3 (by omega)
  have hB := hB.trans (hb3.mono (by omega))
  have hs3 := hb3.size
  clear hb3
  go_wp2_with fail
  refine (HN.out _).mono ?_
  rintro e w3' ⟨rfl, rfl⟩
  clear HN
  have x0 : w3.cell? ⟨w.heap.size, 0, none⟩ = some (.slice p N cap) := q0.cell 0
  go_wp2_with fail
  refine (HL.out _ ((HX.out).below hB)).mono ?_
  rintro e w4 ⟨B, rfl, hBB, hm, hb4⟩
  have q0 := q0.below hb4 (by omega)
  have q1 := q1.below hb4 (by omega)
  have q2 := q2.below hb4 (by omega)
  have hB := hB.trans (hb4.mono (by omega))
  have hs4 := hb4.size
  clear hb4
  clear x0 HL q0
  have hml := hm.lt
  have q1 := q1.alloc (.cells #[.map (some B), .func (.func 175) #[] #[]] 180)
  have q2 := q2.alloc (.cells #[.map (some B), .func (.func 175) #[] #[]] 180)
  have q7 := Row.new w4 180 [.map (some B), .func (.func 175) #[] #[]]
  have hB := hB.alloc (by omega) (.cells #[.map (some B), .func (.func 175) #[] #[]] 180)
  have hm := hm.below (ent_new0 w4 (.cells #[.map (some B), .func (.func 175) #[] #[]] 180)) hm.lt
  have y0 : (w4.alloc (.cells #[.map (some B), .func (.func 175) #[] #[]] 180)).cell? ⟨w.heap.size + 1, 0, none⟩ = some (.int .i64 a) := q1.cell 0
  have y1 : (w4.alloc (.cells #[.map (some B), .func (.func 175) #[] #[]] 180)).cell? ⟨w.heap.size + 1, 1, none⟩ = some (.int .i64 l) := q1.cell 1
  have HE : Hid _ := And.intro q1 (And.intro q2 (And.intro q7 (And.intro hB hm)))
  clear q1 q2 q7 hB hm
  go_wp2_with fail
  generalize hb7 : w4.heap.size = b7 at *
  generalize w4.alloc (.cells #[.map (some B), .func (.func 175) #[] #[]] 180) = W4 at *
  clear y0 y1
  obtain ⟨q1, q2, q7, hB, hm⟩ := HE.out
  clear HE
  refine (HF.out B _ hm).mono ?_
  rintro e w5 ⟨rfl, hb5⟩
  have l7 := q7.lt
  have q1 := q1.below hb5 q1.lt
  have q2 := q2.below hb5 q2.lt
  have q7 := q7.below hb5 q7.lt
  have hm := hm.below hb5 hm.lt
  have hB := hB.trans (hb5.mono hB.size)
  have hs5 := hb5.size
  clear hb5 HF
  have q1 := q1.alloc (.cells #[.int .i64 V0, .int .i64 V1, .int .i64 V2, .int .i64 V3, .int .i64 V4, .int .i64 V5, .int .i64 V6, .int .i64 V7, .bool V8] 98)
  have q2 := q2.alloc (.cells #[.int .i64 V0, .int .i64 V1, .int .i64 V2, .int .i64 V3, .int .i64 V4, .int .i64 V5, .int .i64 V6, .int .i64 V7, .bool V8] 98)
  have q7 := q7.alloc (.cells #[.int .i64 V0, .int .i64 V1, .int .i64 V2, .int .i64 V3, .int .i64 V4, .int .i64 V5, .int .i64 V6, .int .i64 V7, .bool V8] 98)
  have q8 := Row.new w5 98 [.int .i64 V0, .int .i64 V1, .int .i64 V2, .int .i64 V3, .int .i64 V4, .int .i64 V5, .int .i64 V6, .int .i64 V7, .bool V8]
  have hB := hB.alloc hB.size (.cells #[.int .i64 V0, .int .i64 V1, .int .i64 V2, .int .i64 V3, .int .i64 V4, .int .i64 V5, .int .i64 V6, .int .i64 V7, .bool V8] 98)
  have hm := hm.below (ent_new0 w5 (.cells #[.int .i64 V0, .int .i64 V1, .int .i64 V2, .int .i64 V3, .int .i64 V4, .int .i64 V5, .int .i64 V6, .int .i64 V7, .bool V8] 98)) hm.lt
  have HE : Hid _ := And.intro q1 (And.intro q2 (And.intro q7 (And.intro q8 (And.intro hB hm))))
  have y2 : (w5.alloc (.cells #[.int .i64 V0, .int .i64 V1, .int .i64 V2, .int .i64 V3, .int .i64 V4, .int .i64 V5, .int .i64 V6, .int .i64 V7, .bool V8] 98)).cell? ⟨w.heap.size + 1, 2, none⟩ = some (.int .i64 m) := q1.cell 2
  clear q1 q2 q7 q8 hB hm
  have t0 : (w5.alloc (.cells #[.int .i64 V0, .int .i64 V1, .int .i64 V2, .int .i64 V3, .int .i64 V4, .int .i64 V5, .int .i64 V6, .int .i64 V7, .bool V8] 98)).cell? ⟨b7, 0, none⟩ = some (.map (some B)) := HE.out.2.2.1.cell 0
  have t1 : (w5.alloc (.cells #[.int .i64 V0, .int .i64 V1, .int .i64 V2, .int .i64 V3, .int .i64 V4, .int .i64 V5, .int .i64 V6, .int .i64 V7, .bool V8] 98)).cell? ⟨b7, 1, none⟩ = some (.func (.func 175) #[] #[]) := HE.out.2.2.1.cell 1
  go_wp2_with fail
  clear y2 d16 t0 t1
  generalize hb8 : w5.heap.size = b8 at *
  generalize w5.alloc (.cells #[.int .i64 V0, .int .i64 V1, .int .i64 V2, .int .i64 V3, .int .i64 V4, .int .i64 V5, .int .i64 V6, .int .i64 V7, .bool V8] 98) = W5 at *
  clear hb8
  obtain ⟨q1, q2, q7, q8, hB, hm⟩ := HE.out
  clear HE
  refine (HRb.out B _ hm).mono ?_
  rintro e w6 ⟨q, cq, rfl, ho, hb6⟩
  have l2 := q2.lt
  have qr := q2.below hb6 q2.lt
  have hB := hB.trans (hb6.mono hB.size)
  clear HRb hm q1 q2 q7 q8
  have f0 : w6.frozen? ⟨w.heap.size + 1 + 1, 0, none⟩ = false := qr.frozen 0
  have f1 : w6.frozen? ⟨w.heap.size + 1 + 1, 1, none⟩ = false := qr.frozen 1
  have z0 : w6.cell? ⟨w.heap.size + 1 + 1, 0, none⟩ = some (.slice none 0 0) := qr.cell 0
  have z1 : w6.cell? ⟨w.heap.size + 1 + 1, 1, none⟩ = some (.int .i64 0) := qr.cell 1
  have HE2 : Hid _ := And.intro ((qr.set 0 (.slice q N cq)).set 1 (.int .i64 0)) (And.intro ((hB.setCell (p := ⟨w.heap.size + 1 + 1, 0, none⟩) (by show w.heap.size ≤ w.heap.size + 1 + 1; omega) (.slice q N cq)).setCell (p := ⟨w.heap.size + 1 + 1, 1, none⟩) (by show w.heap.size ≤ w.heap.size + 1 + 1; omega) (.int .i64 0)) (ownR_set (base' := w.heap.size) (ownR_set (base' := w.heap.size + 1 + 1 + 1) ho ⟨w.heap.size + 1 + 1, 0, none⟩ (by show w.heap.size + 1 + 1 < _; omega) (.slice q N cq) (by omega)) ⟨w.heap.size + 1 + 1, 1, none⟩ (by show w.heap.size + 1 + 1 < _; omega) (.int .i64 0) (by omega)))
  clear qr hB ho hb6
  go_wp2_with fail
  obtain ⟨h1, h2, h3⟩ := HE2.out
  clear HE2 f0 f1 z0 z1
  generalize (w6.setCell ⟨w.heap.size + 1 + 1, 0, none⟩ (.slice q N cq)).setCell ⟨w.heap.size + 1 + 1, 1, none⟩ (.int .i64 0) = Z at *
  have e0 : Z.cell? ⟨w.heap.size + 1 + 1, 0, none⟩ = some (.slice q N cq) := h1.cell 0
  have e1 : Z.cell? ⟨w.heap.size + 1 + 1, 1, none⟩ = some (.int .i64 0) := h1.cell 1
  exact bodyPost_ret (v := .agg #[.slice q N cq, .int .i64 0]) (by simp [results, Tryz.results109, go_sem, e0, e1]) rfl ⟨⟨_, _, rfl, h3⟩, h2⟩
theorem implLearn_any (p : Option Addr) (cap : Nat) (rs : List Rt) (r : Rt) (now : Int) (w : World) (h : RtsIn w p rs) (hn : rs.length ≤ 100000000) :
    Calls Tryz.prog 109 #[ribV p rs.length cap, rtV r, .int .i64 now] w fun e w' => OutR w.heap.size (learnO rs r now).1 (learnO rs r now).2 e w' ∧ Below w.heap.size w w' := by
  unfold learnO
  by_cases hc : (ribB rs && toldB r now) = true
  · rw [if_pos hc]
    simp only [Bool.and_eq_true] at hc
    cases hk : lookN rs r.a r.l with
    | some old => exact implLearn_old p cap rs r old now w h hc.1 hc.2 hk
    | none =>
      by_cases hm : r.m = 16
      · simp only [if_pos hm]
        exact implLearn_none p cap rs r now w h hc.1 hc.2 hk hm
      · simp only [if_neg hm]
        refine (implLearn_new p cap rs r now w h hc.1 hc.2 hk hm).mono ?_
        rintro e w' ⟨hO, hb⟩
        refine ⟨?_, hb⟩
        rcases hO with ⟨h8, hO⟩ | ⟨h8, hO⟩
        · rw [if_neg (by omega)]; exact hO
        · rw [if_pos h8]; exact hO
  · rw [if_neg hc]
    exact implLearn_wrong p cap rs r now w h hn (by simpa using hc)
end Go.Proofs.YtifckpncpjijiaaGreat
/- A table at work: learn. (Written by gen_work.py.) -/
namespace Go.Proofs.YtifckpncpjijiaaGreat
open Go.RowKit Go.Sort

set_option maxRecDepth 100000 in
set_option maxHeartbeats 2000000 in
theorem learnAt_any (g k : Nat) (T : TypeId) (l : List Value) (p : Option Addr) (c0 : Nat) (rs : List Rt) (r : Rt) (now : Int) (w : World) (hr : Row w g T l) (hk : l[k]? = some (.slice p rs.length c0)) (h : RtsIn w p rs) (hn : rs.length ≤ 100000000) :
    Calls Tryz.prog 58 #[.pointer (some ⟨g, k, none⟩), rtV r, .int .i64 now] w fun e w' => e = .returned (.int .i64 (learnO rs r now).1) ∧ Took g k T l w.heap.size (learnO rs r now).1 (learnO rs r now).2 w w' := by
  have HC : Hid (∀ w, RtsIn w p rs → Calls Tryz.prog 109 #[.agg #[.slice p rs.length c0], rtV r, .int .i64 now] w fun e w' => OutR w.heap.size (learnO rs r now).1 (learnO rs r now).2 e w' ∧ Below w.heap.size w w') := fun w h => implLearn_any p c0 rs r now w h hn
  have HX : Hid (RtsIn w p rs) := h
  have HF : Hid (∀ q c (w1 w2 : World), Below w.heap.size w w1 → w1.ownsRow w.heap.size 98 9 (.slice q (learnO rs r now).2.length c) (learnO rs r now).2.length (rowR (learnO rs r now).2) → Row w2 g T (if (learnO rs r now).1 = 0 then l.set k (.slice q (learnO rs r now).2.length c) else l) → Below g w1 w2 → (∀ b t l, b ≠ g → Row w1 b t l → Row w2 b t l) → Took g k T l w.heap.size (learnO rs r now).1 (learnO rs r now).2 w w2) := fun q c w1 w2 a b d e f => took_of hr.lt a b d e f
  clear h hn
  generalize (learnO rs r now) = RR at *
  obtain ⟨cc, qs⟩ := RR
  simp only at HC HF ⊢
  unfold OutR at HC
  have HT : Hid (∀ q c (w : World), Row w g T l → Calls Tryz.prog 108 #[.pointer (some ⟨g, k, none⟩), .agg #[.slice q qs.length c, .int .i64 cc]] w fun e w' => e = .returned (.int .i64 cc) ∧ Row w' g T (if cc = 0 then l.set k (.slice q qs.length c) else l) ∧ Below g w w' ∧ ∀ b t l, b ≠ g → Row w b t l → Row w' b t l) := fun q c w hr => take_any g k T l q _ c cc _ w hr hk
  generalize rs.length = n at *
  generalize qs.length = N at *
  have r0 := hr.alloc (.cells #[.int .i64 r.a, .int .i64 r.l, .int .i64 r.m, .int .i64 r.n, .int .i64 r.i, .int .i64 r.t, .int .i64 r.u, .int .i64 r.b, .bool r.c] 98)
  have rb := Row.new w 98 [.int .i64 r.a, .int .i64 r.l, .int .i64 r.m, .int .i64 r.n, .int .i64 r.i, .int .i64 r.t, .int .i64 r.u, .int .i64 r.b, .bool r.c]
  unfold rtV rtA at *
  go_enter Tryz.func58, Tryz.ntmps58
  go_wp2_with fail
  have hGN : (([(7, Is (.pointer (some ⟨g, k, none⟩))), (8, Is (.pointer (some ⟨g, k, none⟩))), (9, Is (.pointer (some ⟨g, k, none⟩))), (10, Is (.pointer (some ⟨g, k, none⟩))), (11, Is (.agg #[.slice p n c0])), (12, Is (.agg #[.int .i64 r.a, .int .i64 r.l, .int .i64 r.m, .int .i64 r.n, .int .i64 r.i, .int .i64 r.t, .int .i64 r.u, .int .i64 r.b, .bool r.c])), (13, Is (.int .i64 now)), (14, fun v X => ∃ q c, v = .agg #[.slice q N c, .int .i64 cc] ∧ X.ownsRow (w.heap.size + 1) 98 9 (.slice q N c) N (rowR qs))] : List (Nat × (Value → World → Prop))).map (·.1)).Nodup := by simp
  refine wp_region_steady 8 (SlotG [(7, Is (.pointer (some ⟨g, k, none⟩))), (8, Is (.pointer (some ⟨g, k, none⟩))), (9, Is (.pointer (some ⟨g, k, none⟩))), (10, Is (.pointer (some ⟨g, k, none⟩))), (11, Is (.agg #[.slice p n c0])), (12, Is (.agg #[.int .i64 r.a, .int .i64 r.l, .int .i64 r.m, .int .i64 r.n, .int .i64 r.i, .int .i64 r.t, .int .i64 r.u, .int .i64 r.b, .bool r.c])), (13, Is (.int .i64 now)), (14, fun v X => ∃ q c, v = .agg #[.slice q N c, .int .i64 cc] ∧ X.ownsRow (w.heap.size + 1) 98 9 (.slice q N c) N (rowR qs))]) (by kernel_rfl) (by kernel_rfl) (Stabs.all ⟨stab_is _, stab_is _, stab_is _, stab_is _, stab_is _, stab_is _, stab_is _, stab_outW (w.heap.size + 1) N cc qs, trivial⟩) ?_ ?_
  · intro o ho
    simp only [List.take_succ_cons, List.take_zero, List.mem_cons, List.not_mem_nil, or_false] at ho
    rcases ho with rfl | rfl | rfl | rfl | rfl | rfl | rfl | rfl
    · intro a' w' hb ha hdep
      have d0 : a'.tmps.getD 0 undef = .pointer (some ⟨g, k, none⟩) := ha.at 0 (by kernel_rfl)
      have hmk := fun (x : Value) (W : World) => SlotG.mk (x := x) (w := W) 0 rfl hGN
      clear hGN ha hdep
      go_simp
      exact ⟨_, rfl, Below.refl _ _, hmk _ _ rfl⟩
    · intro a' w' hb ha hdep
      have d0 : a'.tmps.getD 0 undef = .pointer (some ⟨g, k, none⟩) := ha.at 0 (by kernel_rfl)
      have hmk := fun (x : Value) (W : World) => SlotG.mk (x := x) (w := W) 1 rfl hGN
      clear hGN ha hdep
      go_simp
      exact ⟨_, rfl, Below.refl _ _, hmk _ _ rfl⟩
    · intro a' w' hb ha hdep
      have d8 : a'.tmps.getD 8 undef = .pointer (some ⟨g, k, none⟩) := (hdep 8 (of_decide_eq_true (by kernel_rfl))).is 1 rfl
      have hmk := fun (x : Value) (W : World) => SlotG.mk (x := x) (w := W) 2 rfl hGN
      clear hGN ha hdep
      go_simp
      exact ⟨_, rfl, Below.refl _ _, hmk _ _ rfl⟩
    · intro a' w' hb ha hdep
      have d9 : a'.tmps.getD 9 undef = .pointer (some ⟨g, k, none⟩) := (hdep 9 (of_decide_eq_true (by kernel_rfl))).is 2 rfl
      have hmk := fun (x : Value) (W : World) => SlotG.mk (x := x) (w := W) 3 rfl hGN
      clear hGN ha hdep
      go_simp
      exact ⟨_, rfl, Below.refl _ _, hmk _ _ rfl⟩
    · intro a' w' hb ha hdep
      have d10 : a'.tmps.getD 10 undef = .pointer (some ⟨g, k, none⟩) := (hdep 10 (of_decide_eq_true (by kernel_rfl))).is 3 rfl
      have hmk := fun (x : Value) (W : World) => SlotG.mk (x := x) (w := W) 4 rfl hGN
      clear hGN ha hdep
      have y0 : w'.cell? ⟨g, k, none⟩ = some (.slice p n c0) := ((r0.below hb r0.lt).cell k).trans hk
      go_simp
      exact ⟨_, rfl, Below.refl _ _, hmk _ _ rfl⟩
    · intro a' w' hb ha hdep
      have d4 : a'.tmps.getD 4 undef = .pointer (some ⟨w.heap.size, 0, none⟩) := ha.at 4 (by kernel_rfl)
      have hmk := fun (x : Value) (W : World) => SlotG.mk (x := x) (w := W) 5 rfl hGN
      clear hGN ha hdep
      have y0 : w'.cell? ⟨w.heap.size, 0, none⟩ = some (.int .i64 r.a) := (rb.below hb rb.lt).cell 0
      have y1 : w'.cell? ⟨w.heap.size, 1, none⟩ = some (.int .i64 r.l) := (rb.below hb rb.lt).cell 1
      have y2 : w'.cell? ⟨w.heap.size, 2, none⟩ = some (.int .i64 r.m) := (rb.below hb rb.lt).cell 2
      have y3 : w'.cell? ⟨w.heap.size, 3, none⟩ = some (.int .i64 r.n) := (rb.below hb rb.lt).cell 3
      have y4 : w'.cell? ⟨w.heap.size, 4, none⟩ = some (.int .i64 r.i) := (rb.below hb rb.lt).cell 4
      have y5 : w'.cell? ⟨w.heap.size, 5, none⟩ = some (.int .i64 r.t) := (rb.below hb rb.lt).cell 5
      have y6 : w'.cell? ⟨w.heap.size, 6, none⟩ = some (.int .i64 r.u) := (rb.below hb rb.lt).cell 6
      have y7 : w'.cell? ⟨w.heap.size, 7, none⟩ = some (.int .i64 r.b) := (rb.below hb rb.lt).cell 7
      have y8 : w'.cell? ⟨w.heap.size, 8, none⟩ = some (.bool r.c) := (rb.below hb rb.lt).cell 8
      go_simp
      exact ⟨_, rfl, Below.refl _ _, hmk _ _ rfl⟩
    · intro a' w' hb ha hdep
      have d2 : a'.tmps.getD 2 undef = .int .i64 now := ha.at 2 (by kernel_rfl)
      have hmk := fun (x : Value) (W : World) => SlotG.mk (x := x) (w := W) 6 rfl hGN
      clear hGN ha hdep
      go_simp
      exact ⟨_, rfl, Below.refl _ _, hmk _ _ rfl⟩
    · intro a' w' hb ha hdep
      have d11 : a'.tmps.getD 11 undef = .agg #[.slice p n c0] := (hdep 11 (of_decide_eq_true (by kernel_rfl))).is 4 rfl
      have d12 : a'.tmps.getD 12 undef = .agg #[.int .i64 r.a, .int .i64 r.l, .int .i64 r.m, .int .i64 r.n, .int .i64 r.i, .int .i64 r.t, .int .i64 r.u, .int .i64 r.b, .bool r.c] := (hdep 12 (of_decide_eq_true (by kernel_rfl))).is 5 rfl
      have d13 : a'.tmps.getD 13 undef = .int .i64 now := (hdep 13 (of_decide_eq_true (by kernel_rfl))).is 6 rfl
      have hmk := fun (x : Value) (W : World) => SlotG.mk (x := x) (w := W) 7 rfl hGN
      clear hGN ha hdep
      go_simp
      refine (HC.out _ ((HX.out.below (ent_new0 _ _)).below hb)).mono ?_
      rintro e w2 ⟨⟨q, c, rfl, ho⟩, hb2⟩
      exact ⟨_, rfl, hb2, hmk _ _ ⟨q, c, rfl, ownsR_mono ho (by have := hb.size; simp at this; omega)⟩⟩
  · intro a' w' hb ha hG
    clear hGN
    have d7 : a'.tmps.getD 7 undef = .pointer (some ⟨g, k, none⟩) := (hG _ (List.mem_of_getElem? (i := 0) rfl) 7 rfl).is 0 rfl
    have D14 := (hG _ (List.mem_of_getElem? (i := 7) rfl) 14 rfl).get 7 rfl
    have e2 : a' = ⟨#[a'.tmps.getD 0 undef, a'.tmps.getD 1 undef, a'.tmps.getD 2 undef, a'.tmps.getD 3 undef, a'.tmps.getD 4 undef, a'.tmps.getD 5 undef, a'.tmps.getD 6 undef, a'.tmps.getD 7 undef, a'.tmps.getD 8 undef, a'.tmps.getD 9 undef, a'.tmps.getD 10 undef, a'.tmps.getD 11 undef, a'.tmps.getD 12 undef, a'.tmps.getD 13 undef, a'.tmps.getD 14 undef, a'.tmps.getD 15 undef], []⟩ := by rw [← (show a'.defers = [] from ha.2.1)]; exact act_eq a' 16 ha.1
    rw [d7] at e2
    clear hG ha d7
    generalize a'.tmps.getD 0 undef = x0 at *
    generalize a'.tmps.getD 1 undef = x1 at *
    generalize a'.tmps.getD 2 undef = x2 at *
    generalize a'.tmps.getD 3 undef = x3 at *
    generalize a'.tmps.getD 4 undef = x4 at *
    generalize a'.tmps.getD 5 undef = x5 at *
    generalize a'.tmps.getD 6 undef = x6 at *
    generalize a'.tmps.getD 8 undef = x8 at *
    generalize a'.tmps.getD 9 undef = x9 at *
    generalize a'.tmps.getD 10 undef = x10 at *
    generalize a'.tmps.getD 11 undef = x11 at *
    generalize a'.tmps.getD 12 undef = x12 at *
    generalize a'.tmps.getD 13 undef = x13 at *
    generalize a'.tmps.getD 14 undef = x14 at *
    generalize a'.tmps.getD 15 undef = x15 at *
    subst e2
    simp only [List.drop_succ_cons, List.drop_zero]
    obtain ⟨q, c, rfl, ho⟩ := D14
    have hB := (ent_new0 w (.cells #[.int .i64 r.a, .int .i64 r.l, .int .i64 r.m, .int .i64 r.n, .int .i64 r.i, .int .i64 r.t, .int .i64 r.u, .int .i64 r.b, .bool r.c] 98)).trans (hb.mono (by simp))
    have r1 := r0.below hb r0.lt
    have ho := ownsR_mono (base' := w.heap.size) ho (by omega)
    clear hb r0 rb HC HX
    go_wp2_with fail
    refine (HT.out q c _ r1).mono ?_
    rintro e w2 ⟨rfl, r2, hb2, hk2⟩
    have hf := HF.out q c _ w2 hB ho r2 hb2 hk2
    clear hB ho r2 hb2 hk2 r1 hr HF HT
    go_wp2
    go_ret
    exact ⟨rfl, hf⟩
end Go.Proofs.YtifckpncpjijiaaGreat
