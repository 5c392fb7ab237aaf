/- The laws' own entries, handed over; an entry is as itself. -/
import Derived.Test.YtehiipddbgoajaaEnt
import Derived.Test.YtehiipddbgoajaaToNet
import Derived.Test.YtehiipddbgoajaaEqNet
import Derived.Test.YtehiipddbgoajaaRowV
namespace Go.Proofs.Ytehiipddbgoajaa
open Go.RowKit Go.Sort

/-- Five stores one behind the other into one block. -/
def five (w : World) (g : Nat) (x0 x1 x2 x3 x4 : Value) : World := ((((w.setCell ⟨g, 0, none⟩ x0).setCell ⟨g, 1, none⟩ x1).setCell ⟨g, 2, none⟩ x2).setCell ⟨g, 3, none⟩ x3).setCell ⟨g, 4, none⟩ x4
theorem five_below {B : Nat} {w0 w : World} (h : Below B w0 w) (g : Nat) (hg : B ≤ g) (x0 x1 x2 x3 x4 : Value) : Below B w0 (five w g x0 x1 x2 x3 x4) :=
  ((((h.setCell (p := ⟨g, 0, none⟩) hg x0).setCell (p := ⟨g, 1, none⟩) hg x1).setCell (p := ⟨g, 2, none⟩) hg x2).setCell (p := ⟨g, 3, none⟩) hg x3).setCell (p := ⟨g, 4, none⟩) hg x4
theorem five_row {w : World} {g : Nat} {t : TypeId} {y0 y1 y2 y3 y4 : Value} (h : Row w g t [y0, y1, y2, y3, y4]) (x0 x1 x2 x3 x4 : Value) : Row (five w g x0 x1 x2 x3 x4) g t [x0, x1, x2, x3, x4] :=
  ((((h.set 0 x0).set 1 x1).set 2 x2).set 3 x3).set 4 x4
theorem five_other {w : World} {g : Nat} {t : TypeId} {l : List Value} (h : Row w g t l) (k : Nat) (hk : g ≠ k) (x0 x1 x2 x3 x4 : Value) : Row (five w k x0 x1 x2 x3 x4) g t l :=
  ((((h.other 0 x0 hk).other 1 x1 hk).other 2 x2 hk).other 3 x3 hk).other 4 x4 hk
set_option maxRecDepth 100000 in
theorem toEntry_any (e : Ent) (w : World) : Calls Try.prog 7 #[entV e] w fun r w' => r = .returned (entV e) ∧ Below w.heap.size w w' := by
  obtain ⟨a, l, n, m, t⟩ := e
  unfold entV
  have HT : Hid (∀ w, Calls Try.prog 19 #[.agg #[.int .i64 a, .int .i64 l]] w fun e w' => e = .returned (.agg #[.int .i64 a, .int .i64 l]) ∧ Below w.heap.size w w') := toNet_any a l
  go_enter Try.func7, Try.ntmps7
  go_wp2_with fail
  refine (HT.out _).mono ?_
  rintro e w1 ⟨rfl, hb1⟩
  have q0 := ((Row.new w 25 [.int .i64 a, .int .i64 l, .int .i64 n, .int .i64 m, .int .i64 t]).alloc (.cells #[.int .i64 0, .int .i64 0, .int .i64 0, .int .i64 0, .int .i64 0] 29)).alloc (.cells #[.int .i64 0, .int .i64 0, .int .i64 0, .int .i64 0, .int .i64 0] 29)
  have q1 := (Row.new (w.alloc (.cells #[.int .i64 a, .int .i64 l, .int .i64 n, .int .i64 m, .int .i64 t] 25)) 29 [.int .i64 0, .int .i64 0, .int .i64 0, .int .i64 0, .int .i64 0]).alloc (.cells #[.int .i64 0, .int .i64 0, .int .i64 0, .int .i64 0, .int .i64 0] 29)
  have q2 := Row.new ((w.alloc (.cells #[.int .i64 a, .int .i64 l, .int .i64 n, .int .i64 m, .int .i64 t] 25)).alloc (.cells #[.int .i64 0, .int .i64 0, .int .i64 0, .int .i64 0, .int .i64 0] 29)) 29 [.int .i64 0, .int .i64 0, .int .i64 0, .int .i64 0, .int .i64 0]
  have hB : Below w.heap.size w w1 := (((ent_new0 w _).alloc (by simp) _).alloc (by simp; omega) _).trans (hb1.mono (by simp; omega))
  have p0 := q0.below hb1 q0.lt
  have p1 := q1.below hb1 q1.lt
  have p2 := q2.below hb1 q2.lt
  clear q0 q1 q2 hb1
  have h0 : (w.alloc (.cells #[.int .i64 a, .int .i64 l, .int .i64 n, .int .i64 m, .int .i64 t] 25)).heap.size = w.heap.size + 1 := by simp
  have h1 : ((w.alloc (.cells #[.int .i64 a, .int .i64 l, .int .i64 n, .int .i64 m, .int .i64 t] 25)).alloc (.cells #[.int .i64 0, .int .i64 0, .int .i64 0, .int .i64 0, .int .i64 0] 29)).heap.size = w.heap.size + 1 + 1 := by simp
  rw [h0] at p1
  rw [h1] at p2
  clear h0 h1
  have a2 : w1.cell? ⟨w.heap.size, 2, none⟩ = some (.int .i64 n) := p0.cell 2
  have a3 : w1.cell? ⟨w.heap.size, 3, none⟩ = some (.int .i64 m) := p0.cell 3
  have a4 : w1.cell? ⟨w.heap.size, 4, none⟩ = some (.int .i64 t) := p0.cell 4
  have b0 : w1.cell? ⟨w.heap.size + 1, 0, none⟩ = some (.int .i64 0) := p1.cell 0
  have b1 : w1.cell? ⟨w.heap.size + 1, 1, none⟩ = some (.int .i64 0) := p1.cell 1
  have b2 : w1.cell? ⟨w.heap.size + 1, 2, none⟩ = some (.int .i64 0) := p1.cell 2
  have b3 : w1.cell? ⟨w.heap.size + 1, 3, none⟩ = some (.int .i64 0) := p1.cell 3
  have b4 : w1.cell? ⟨w.heap.size + 1, 4, none⟩ = some (.int .i64 0) := p1.cell 4
  have d0 : w1.cell? ⟨w.heap.size + 1 + 1, 0, none⟩ = some (.int .i64 0) := p2.cell 0
  have d1 : w1.cell? ⟨w.heap.size + 1 + 1, 1, none⟩ = some (.int .i64 0) := p2.cell 1
  have d2 : w1.cell? ⟨w.heap.size + 1 + 1, 2, none⟩ = some (.int .i64 0) := p2.cell 2
  have d3 : w1.cell? ⟨w.heap.size + 1 + 1, 3, none⟩ = some (.int .i64 0) := p2.cell 3
  have d4 : w1.cell? ⟨w.heap.size + 1 + 1, 4, none⟩ = some (.int .i64 0) := p2.cell 4
  have f0 := p1.frozen 0
  have f1 := p1.frozen 1
  have f2 := p1.frozen 2
  have f3 := p1.frozen 3
  have f4 := p1.frozen 4
  have g0 := p2.frozen 0
  have g1 := p2.frozen 1
  have g2 := p2.frozen 2
  have g3 := p2.frozen 3
  have g4 := p2.frozen 4
  have P1 : Hid (Row w1 (w.heap.size + 1) 29 [.int .i64 0, .int .i64 0, .int .i64 0, .int .i64 0, .int .i64 0]) := p1
  clear p0 p1 p2
  go_wp2_with fail
  have hBB := five_below (five_below hB (w.heap.size + 1 + 1) (by omega) (.int .i64 a) (.int .i64 l) (.int .i64 n) (.int .i64 m) (.int .i64 t)) (w.heap.size + 1) (by omega) (.int .i64 a) (.int .i64 l) (.int .i64 n) (.int .i64 m) (.int .i64 t)
  have hRR := five_row (five_other P1.out (w.heap.size + 1 + 1) (by omega) (.int .i64 a) (.int .i64 l) (.int .i64 n) (.int .i64 m) (.int .i64 t)) (.int .i64 a) (.int .i64 l) (.int .i64 n) (.int .i64 m) (.int .i64 t)
  unfold five at hBB hRR
  generalize ((((((((((w1.setCell { block := w.heap.size + 1 + 1, off := 0 } (Value.int IntKind.i64 a)).setCell { block := w.heap.size + 1 + 1, off := 1 } (Value.int IntKind.i64 l)).setCell { block := w.heap.size + 1 + 1, off := 2 } (Value.int IntKind.i64 n)).setCell { block := w.heap.size + 1 + 1, off := 3 } (Value.int IntKind.i64 m)).setCell { block := w.heap.size + 1 + 1, off := 4 } (Value.int IntKind.i64 t)).setCell { block := w.heap.size + 1, off := 0 } (Value.int IntKind.i64 a)).setCell { block := w.heap.size + 1, off := 1 } (Value.int IntKind.i64 l)).setCell { block := w.heap.size + 1, off := 2 } (Value.int IntKind.i64 n)).setCell { block := w.heap.size + 1, off := 3 } (Value.int IntKind.i64 m)).setCell { block := w.heap.size + 1, off := 4 } (Value.int IntKind.i64 t)) = W at *
  clear b0 b1 b2 b3 b4 d0 d1 d2 d3 d4 f0 f1 f2 f3 f4 g0 g1 g2 g3 g4 a2 a3 a4 P1 hB HT
  have b0 : W.cell? ⟨w.heap.size + 1, 0, none⟩ = some (.int .i64 a) := hRR.cell 0
  have b1 : W.cell? ⟨w.heap.size + 1, 1, none⟩ = some (.int .i64 l) := hRR.cell 1
  have b2 : W.cell? ⟨w.heap.size + 1, 2, none⟩ = some (.int .i64 n) := hRR.cell 2
  have b3 : W.cell? ⟨w.heap.size + 1, 3, none⟩ = some (.int .i64 m) := hRR.cell 3
  have b4 : W.cell? ⟨w.heap.size + 1, 4, none⟩ = some (.int .i64 t) := hRR.cell 4
  clear hRR
  refine bodyPost_ret (v := .agg #[.int .i64 a, .int .i64 l, .int .i64 n, .int .i64 m, .int .i64 t]) (by simp [results, Try.results7, go_sem, b0, b1, b2, b3, b4]) rfl ⟨rfl, hBB⟩
end Go.Proofs.Ytehiipddbgoajaa
