/- A Leak handed over by the laws. (Written by gen_lk.py.) -/
import Derived.Test.YtpkjkjepmloddaaLkk
import Derived.Test.YtpkjkjepmloddaaToNet
namespace Go.Proofs.Ytpkjkjepmloddaa
open Go.RowKit Go.Sort

theorem three_newK (w : World) (x y z : List Value) (t1 t2 t3 : TypeId) : ∃ W, W = ((w.alloc (.cells x.toArray t1)).alloc (.cells y.toArray t2)).alloc (.cells z.toArray t3) ∧ Row W w.heap.size t1 x ∧ Row W (w.heap.size + 1) t2 y ∧ Row W (w.heap.size + 1 + 1) t3 z ∧ Below w.heap.size w W ∧ W.heap.size = w.heap.size + 1 + 1 + 1 := by
  have q0 := ((Row.new w t1 x).alloc (.cells y.toArray t2)).alloc (.cells z.toArray t3)
  have q1 := (Row.new (w.alloc (.cells x.toArray t1)) t2 y).alloc (.cells z.toArray t3)
  have q2 := Row.new ((w.alloc (.cells x.toArray t1)).alloc (.cells y.toArray t2)) t3 z
  rw [show (w.alloc (.cells x.toArray t1)).heap.size = w.heap.size + 1 by simp] at q1
  rw [show ((w.alloc (.cells x.toArray t1)).alloc (.cells y.toArray t2)).heap.size = w.heap.size + 1 + 1 by simp] at q2
  exact ⟨_, rfl, q0, q1, q2, ((ent_new0 w _).alloc (by simp) _).alloc (by simp; omega) _, by simp⟩
set_option maxRecDepth 100000 in
set_option maxHeartbeats 1000000 in
theorem toLeak_any (f : Lk) (w : World) : Calls Try.prog 37 #[lkV f] w fun e w' => e = .returned (lkV f) ∧ Below w.heap.size w w' := by
  have HT : Hid (∀ w, Calls Try.prog 69 #[.agg #[.int .i64 f.a, .int .i64 f.l]] w fun e w' => e = .returned (.agg #[.int .i64 f.a, .int .i64 f.l]) ∧ Below w.heap.size w w') := toNet_any f.a f.l
  obtain ⟨fr, tt, a, l, ad, tg⟩ := f
  unfold lkV lkA
  simp only at HT ⊢
  obtain ⟨W, hW, q0, q1, q2, hB, hS⟩ := three_newK w [.int .i64 fr, .int .i64 tt, .int .i64 a, .int .i64 l, .int .i64 ad, .int .i64 tg] [.int .i64 0, .int .i64 0, .int .i64 0, .int .i64 0, .int .i64 0, .int .i64 0] [.int .i64 fr, .int .i64 tt, .int .i64 0, .int .i64 0, .int .i64 0, .int .i64 0] 80 76 76
  have HW : Hid _ := hW
  have HQ : Hid _ := And.intro q0 (And.intro q1 (And.intro q2 (And.intro hB hS)))
  clear hW q0 q1 q2 hB hS
  go_enter Try.func37, Try.ntmps37
  go_wp2_with fail
  refine (HT.out _).mono ?_
  rintro e w1 ⟨rfl, hb1⟩
  rw [← HW.out] at hb1
  obtain ⟨q0, q1, q2, hB, hS⟩ := HQ.out
  have p0 := q0.below hb1 q0.lt
  have p1 := q1.below hb1 q1.lt
  have p2 := q2.below hb1 q2.lt
  have hB := hB.trans (hb1.mono (by omega))
  clear q0 q1 q2 hb1 HW HQ HT
  have a0 : w1.cell? ⟨w.heap.size, 0, none⟩ = some (.int .i64 fr) := p0.cell 0
  have a1 : w1.cell? ⟨w.heap.size, 1, none⟩ = some (.int .i64 tt) := p0.cell 1
  have a2 : w1.cell? ⟨w.heap.size, 2, none⟩ = some (.int .i64 a) := p0.cell 2
  have a3 : w1.cell? ⟨w.heap.size, 3, none⟩ = some (.int .i64 l) := p0.cell 3
  have a4 : w1.cell? ⟨w.heap.size, 4, none⟩ = some (.int .i64 ad) := p0.cell 4
  have a5 : w1.cell? ⟨w.heap.size, 5, none⟩ = some (.int .i64 tg) := p0.cell 5
  have b0 : w1.cell? ⟨w.heap.size + 1, 0, none⟩ = some (.int .i64 0) := p1.cell 0
  have f0 := p1.frozen 0
  have b1 : w1.cell? ⟨w.heap.size + 1, 1, none⟩ = some (.int .i64 0) := p1.cell 1
  have f1 := p1.frozen 1
  have b2 : w1.cell? ⟨w.heap.size + 1, 2, none⟩ = some (.int .i64 0) := p1.cell 2
  have f2 := p1.frozen 2
  have b3 : w1.cell? ⟨w.heap.size + 1, 3, none⟩ = some (.int .i64 0) := p1.cell 3
  have f3 := p1.frozen 3
  have b4 : w1.cell? ⟨w.heap.size + 1, 4, none⟩ = some (.int .i64 0) := p1.cell 4
  have f4 := p1.frozen 4
  have b5 : w1.cell? ⟨w.heap.size + 1, 5, none⟩ = some (.int .i64 0) := p1.cell 5
  have f5 := p1.frozen 5
  have d0 : w1.cell? ⟨w.heap.size + 1 + 1, 0, none⟩ = some (.int .i64 fr) := p2.cell 0
  have g0 := p2.frozen 0
  have d1 : w1.cell? ⟨w.heap.size + 1 + 1, 1, none⟩ = some (.int .i64 tt) := p2.cell 1
  have g1 := p2.frozen 1
  have d2 : w1.cell? ⟨w.heap.size + 1 + 1, 2, none⟩ = some (.int .i64 0) := p2.cell 2
  have g2 := p2.frozen 2
  have d3 : w1.cell? ⟨w.heap.size + 1 + 1, 3, none⟩ = some (.int .i64 0) := p2.cell 3
  have g3 := p2.frozen 3
  have d4 : w1.cell? ⟨w.heap.size + 1 + 1, 4, none⟩ = some (.int .i64 0) := p2.cell 4
  have g4 := p2.frozen 4
  have d5 : w1.cell? ⟨w.heap.size + 1 + 1, 5, none⟩ = some (.int .i64 0) := p2.cell 5
  have g5 := p2.frozen 5
  have HE : Hid (Row (((((((((((w1.setCell ⟨w.heap.size + 1 + 1, 2, none⟩ (.int .i64 a)).setCell ⟨w.heap.size + 1 + 1, 3, none⟩ (.int .i64 l)).setCell ⟨w.heap.size + 1 + 1, 4, none⟩ (.int .i64 ad)).setCell ⟨w.heap.size + 1 + 1, 5, none⟩ (.int .i64 tg)).setCell ⟨w.heap.size + 1, 0, none⟩ (.int .i64 fr)).setCell ⟨w.heap.size + 1, 1, none⟩ (.int .i64 tt)).setCell ⟨w.heap.size + 1, 2, none⟩ (.int .i64 a)).setCell ⟨w.heap.size + 1, 3, none⟩ (.int .i64 l)).setCell ⟨w.heap.size + 1, 4, none⟩ (.int .i64 ad)).setCell ⟨w.heap.size + 1, 5, none⟩ (.int .i64 tg))) (w.heap.size + 1) 76 [.int .i64 fr, .int .i64 tt, .int .i64 a, .int .i64 l, .int .i64 ad, .int .i64 tg] ∧ Below w.heap.size w (((((((((((w1.setCell ⟨w.heap.size + 1 + 1, 2, none⟩ (.int .i64 a)).setCell ⟨w.heap.size + 1 + 1, 3, none⟩ (.int .i64 l)).setCell ⟨w.heap.size + 1 + 1, 4, none⟩ (.int .i64 ad)).setCell ⟨w.heap.size + 1 + 1, 5, none⟩ (.int .i64 tg)).setCell ⟨w.heap.size + 1, 0, none⟩ (.int .i64 fr)).setCell ⟨w.heap.size + 1, 1, none⟩ (.int .i64 tt)).setCell ⟨w.heap.size + 1, 2, none⟩ (.int .i64 a)).setCell ⟨w.heap.size + 1, 3, none⟩ (.int .i64 l)).setCell ⟨w.heap.size + 1, 4, none⟩ (.int .i64 ad)).setCell ⟨w.heap.size + 1, 5, none⟩ (.int .i64 tg)))) := ⟨((((((((((p1.other 2 (.int .i64 a) (by omega)).other 3 (.int .i64 l) (by omega)).other 4 (.int .i64 ad) (by omega)).other 5 (.int .i64 tg) (by omega)).set 0 (.int .i64 fr)).set 1 (.int .i64 tt)).set 2 (.int .i64 a)).set 3 (.int .i64 l)).set 4 (.int .i64 ad)).set 5 (.int .i64 tg)), ((((((((((hB.setCell (p := ⟨w.heap.size + 1 + 1, 2, none⟩) (by show w.heap.size ≤ w.heap.size + 1 + 1; omega) (.int .i64 a)).setCell (p := ⟨w.heap.size + 1 + 1, 3, none⟩) (by show w.heap.size ≤ w.heap.size + 1 + 1; omega) (.int .i64 l)).setCell (p := ⟨w.heap.size + 1 + 1, 4, none⟩) (by show w.heap.size ≤ w.heap.size + 1 + 1; omega) (.int .i64 ad)).setCell (p := ⟨w.heap.size + 1 + 1, 5, none⟩) (by show w.heap.size ≤ w.heap.size + 1 + 1; omega) (.int .i64 tg)).setCell (p := ⟨w.heap.size + 1, 0, none⟩) (by show w.heap.size ≤ w.heap.size + 1; omega) (.int .i64 fr)).setCell (p := ⟨w.heap.size + 1, 1, none⟩) (by show w.heap.size ≤ w.heap.size + 1; omega) (.int .i64 tt)).setCell (p := ⟨w.heap.size + 1, 2, none⟩) (by show w.heap.size ≤ w.heap.size + 1; omega) (.int .i64 a)).setCell (p := ⟨w.heap.size + 1, 3, none⟩) (by show w.heap.size ≤ w.heap.size + 1; omega) (.int .i64 l)).setCell (p := ⟨w.heap.size + 1, 4, none⟩) (by show w.heap.size ≤ w.heap.size + 1; omega) (.int .i64 ad)).setCell (p := ⟨w.heap.size + 1, 5, none⟩) (by show w.heap.size ≤ w.heap.size + 1; omega) (.int .i64 tg))⟩
  clear p0 p1 p2 hB
  go_wp2_with fail
  obtain ⟨h1, h2⟩ := HE.out
  clear HE a0 b0 d0 f0 g0 a1 b1 d1 f1 g1 a2 b2 d2 f2 g2 a3 b3 d3 f3 g3 a4 b4 d4 f4 g4 a5 b5 d5 f5 g5
  generalize ((((((((((w1.setCell ⟨w.heap.size + 1 + 1, 2, none⟩ (.int .i64 a)).setCell ⟨w.heap.size + 1 + 1, 3, none⟩ (.int .i64 l)).setCell ⟨w.heap.size + 1 + 1, 4, none⟩ (.int .i64 ad)).setCell ⟨w.heap.size + 1 + 1, 5, none⟩ (.int .i64 tg)).setCell ⟨w.heap.size + 1, 0, none⟩ (.int .i64 fr)).setCell ⟨w.heap.size + 1, 1, none⟩ (.int .i64 tt)).setCell ⟨w.heap.size + 1, 2, none⟩ (.int .i64 a)).setCell ⟨w.heap.size + 1, 3, none⟩ (.int .i64 l)).setCell ⟨w.heap.size + 1, 4, none⟩ (.int .i64 ad)).setCell ⟨w.heap.size + 1, 5, none⟩ (.int .i64 tg)) = Y at *
  have e0 : Y.cell? ⟨w.heap.size + 1, 0, none⟩ = some (.int .i64 fr) := h1.cell 0
  have e1 : Y.cell? ⟨w.heap.size + 1, 1, none⟩ = some (.int .i64 tt) := h1.cell 1
  have e2 : Y.cell? ⟨w.heap.size + 1, 2, none⟩ = some (.int .i64 a) := h1.cell 2
  have e3 : Y.cell? ⟨w.heap.size + 1, 3, none⟩ = some (.int .i64 l) := h1.cell 3
  have e4 : Y.cell? ⟨w.heap.size + 1, 4, none⟩ = some (.int .i64 ad) := h1.cell 4
  have e5 : Y.cell? ⟨w.heap.size + 1, 5, none⟩ = some (.int .i64 tg) := h1.cell 5
  exact bodyPost_ret (v := .agg #[.int .i64 fr, .int .i64 tt, .int .i64 a, .int .i64 l, .int .i64 ad, .int .i64 tg]) (by simp [results, Try.results37, go_sem, e0, e1, e2, e3, e4, e5]) rfl ⟨rfl, h2⟩
end Go.Proofs.Ytpkjkjepmloddaa
