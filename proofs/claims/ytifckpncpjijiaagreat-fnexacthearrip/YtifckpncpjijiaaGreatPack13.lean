/- Texts that stand on each other, in one file: ToRt, SortI, SortM, Iff, ToIf, Ents, RipR, ToEnt, Five, EqEnts, EqRip. -/
import Derived.Test.YtifckpncpjijiaaGreatPack10
import Derived.Test.YtifckpncpjijiaaGreatPack9
import Derived.Lib.QuietBelow
import Derived.BigQuiet
/- The laws' own routes, handed over. (Written by gen_rts.py.) -/
namespace Go.Proofs.YtifckpncpjijiaaGreat
open Go.RowKit Go.Sort

/-- Nine stores one behind the other into one block. -/
def nine (w : World) (g o : Nat) (x0 x1 x2 x3 x4 x5 x6 x7 x8 : Value) : World := (((((((((w.setCell ⟨g, o, none⟩ x0).setCell ⟨g, o + 1, none⟩ x1).setCell ⟨g, o + 2, none⟩ x2).setCell ⟨g, o + 3, none⟩ x3).setCell ⟨g, o + 4, none⟩ x4).setCell ⟨g, o + 5, none⟩ x5).setCell ⟨g, o + 6, none⟩ x6).setCell ⟨g, o + 7, none⟩ x7).setCell ⟨g, o + 8, none⟩ x8)
theorem nine_below {B : Nat} {w0 w : World} (h : Below B w0 w) (g o : Nat) (hg : B ≤ g) (x0 x1 x2 x3 x4 x5 x6 x7 x8 : Value) : Below B w0 (nine w g o x0 x1 x2 x3 x4 x5 x6 x7 x8) :=
  ((((((((h.setCell (p := ⟨g, o, none⟩) hg x0).setCell (p := ⟨g, o + 1, none⟩) hg x1).setCell (p := ⟨g, o + 2, none⟩) hg x2).setCell (p := ⟨g, o + 3, none⟩) hg x3).setCell (p := ⟨g, o + 4, none⟩) hg x4).setCell (p := ⟨g, o + 5, none⟩) hg x5).setCell (p := ⟨g, o + 6, none⟩) hg x6).setCell (p := ⟨g, o + 7, none⟩) hg x7).setCell (p := ⟨g, o + 8, none⟩) hg x8
theorem nine_row {w : World} {g : Nat} {t : TypeId} {l : List Value} (h : Row w g t l) (o : Nat) (x0 x1 x2 x3 x4 x5 x6 x7 x8 : Value) : Row (nine w g o x0 x1 x2 x3 x4 x5 x6 x7 x8) g t ((((((((((l.set o x0).set (o + 1) x1).set (o + 2) x2).set (o + 3) x3).set (o + 4) x4).set (o + 5) x5).set (o + 6) x6).set (o + 7) x7).set (o + 8) x8)) :=
  (((((((((h.set o x0).set (o + 1) x1).set (o + 2) x2).set (o + 3) x3).set (o + 4) x4).set (o + 5) x5).set (o + 6) x6).set (o + 7) x7).set (o + 8) x8)
theorem nine_other {w : World} {b g : Nat} {t : TypeId} {l : List Value} (h : Row w b t l) (hne : b ≠ g) (o : Nat) (x0 x1 x2 x3 x4 x5 x6 x7 x8 : Value) : Row (nine w g o x0 x1 x2 x3 x4 x5 x6 x7 x8) b t l :=
  (((((((((h.other o x0 hne).other (o + 1) x1 hne).other (o + 2) x2 hne).other (o + 3) x3 hne).other (o + 4) x4 hne).other (o + 5) x5 hne).other (o + 6) x6 hne).other (o + 7) x7 hne).other (o + 8) x8 hne)
def nine0 (w : World) (g : Nat) (x0 x1 x2 x3 x4 x5 x6 x7 x8 : Value) : World := (((((((((w.setCell ⟨g, 0, none⟩ x0).setCell ⟨g, 1, none⟩ x1).setCell ⟨g, 2, none⟩ x2).setCell ⟨g, 3, none⟩ x3).setCell ⟨g, 4, none⟩ x4).setCell ⟨g, 5, none⟩ x5).setCell ⟨g, 6, none⟩ x6).setCell ⟨g, 7, none⟩ x7).setCell ⟨g, 8, none⟩ x8)
theorem nine0_below {B : Nat} {w0 w : World} (h : Below B w0 w) (g : Nat) (hg : B ≤ g) (x0 x1 x2 x3 x4 x5 x6 x7 x8 : Value) : Below B w0 (nine0 w g x0 x1 x2 x3 x4 x5 x6 x7 x8) :=
  ((((((((h.setCell (p := ⟨g, 0, none⟩) hg x0).setCell (p := ⟨g, 1, none⟩) hg x1).setCell (p := ⟨g, 2, none⟩) hg x2).setCell (p := ⟨g, 3, none⟩) hg x3).setCell (p := ⟨g, 4, none⟩) hg x4).setCell (p := ⟨g, 5, none⟩) hg x5).setCell (p := ⟨g, 6, none⟩) hg x6).setCell (p := ⟨g, 7, none⟩) hg x7).setCell (p := ⟨g, 8, none⟩) hg x8
theorem nine0_row {w : World} {g : Nat} {t : TypeId} {y0 y1 y2 y3 y4 y5 y6 y7 y8 : Value} (h : Row w g t [y0, y1, y2, y3, y4, y5, y6, y7, y8]) (x0 x1 x2 x3 x4 x5 x6 x7 x8 : Value) : Row (nine0 w g x0 x1 x2 x3 x4 x5 x6 x7 x8) g t [x0, x1, x2, x3, x4, x5, x6, x7, x8] := (((((((((h.set 0 x0).set 1 x1).set 2 x2).set 3 x3).set 4 x4).set 5 x5).set 6 x6).set 7 x7).set 8 x8)
theorem nine0_other {w : World} {g : Nat} {t : TypeId} {l : List Value} (h : Row w g t l) (k : Nat) (hk : g ≠ k) (x0 x1 x2 x3 x4 x5 x6 x7 x8 : Value) : Row (nine0 w k x0 x1 x2 x3 x4 x5 x6 x7 x8) g t l := (((((((((h.other 0 x0 hk).other 1 x1 hk).other 2 x2 hk).other 3 x3 hk).other 4 x4 hk).other 5 x5 hk).other 6 x6 hk).other 7 x7 hk).other 8 x8 hk)
set_option maxRecDepth 100000 in
set_option maxHeartbeats 1000000 in
theorem toRoute_any (r : Rt) (w : World) : Calls Tryz.prog 141 #[rtV r] w fun e w' => e = .returned (rtV r) ∧ Below w.heap.size w w' := by
  obtain ⟨a, l, m, n, i, t, u, b, c⟩ := r
  unfold rtV rtA
  have HT : Hid (∀ w, Calls Tryz.prog 129 #[.agg #[.int .i64 a, .int .i64 l]] w fun e w' => e = .returned (.agg #[.int .i64 a, .int .i64 l]) ∧ Below w.heap.size w w') := toNet_any a l
  go_enter Tryz.func141, Tryz.ntmps141
  go_wp2_with fail
  refine (HT.out _).mono ?_
  rintro e w1 ⟨rfl, hb1⟩
  have q0 := ((Row.new w 174 [.int .i64 a, .int .i64 l, .int .i64 m, .int .i64 n, .int .i64 i, .int .i64 t, .int .i64 u, .int .i64 b, .bool c]).alloc (.cells #[.int .i64 0, .int .i64 0, .int .i64 0, .int .i64 0, .int .i64 0, .int .i64 0, .int .i64 0, .int .i64 0, .bool false] 98)).alloc (.cells #[.int .i64 0, .int .i64 0, .int .i64 0, .int .i64 0, .int .i64 0, .int .i64 0, .int .i64 0, .int .i64 0, .bool false] 98)
  have q1 := (Row.new (w.alloc (.cells #[.int .i64 a, .int .i64 l, .int .i64 m, .int .i64 n, .int .i64 i, .int .i64 t, .int .i64 u, .int .i64 b, .bool c] 174)) 98 [.int .i64 0, .int .i64 0, .int .i64 0, .int .i64 0, .int .i64 0, .int .i64 0, .int .i64 0, .int .i64 0, .bool false]).alloc (.cells #[.int .i64 0, .int .i64 0, .int .i64 0, .int .i64 0, .int .i64 0, .int .i64 0, .int .i64 0, .int .i64 0, .bool false] 98)
  have q2 := Row.new ((w.alloc (.cells #[.int .i64 a, .int .i64 l, .int .i64 m, .int .i64 n, .int .i64 i, .int .i64 t, .int .i64 u, .int .i64 b, .bool c] 174)).alloc (.cells #[.int .i64 0, .int .i64 0, .int .i64 0, .int .i64 0, .int .i64 0, .int .i64 0, .int .i64 0, .int .i64 0, .bool false] 98)) 98 [.int .i64 0, .int .i64 0, .int .i64 0, .int .i64 0, .int .i64 0, .int .i64 0, .int .i64 0, .int .i64 0, .bool false]
  have hB : Below w.heap.size w w1 := (((ent_new0 w _).alloc (by simp) _).alloc (by simp; omega) _).trans (hb1.mono (by simp; omega))
  have p0 := q0.below hb1 q0.lt
  have p1 := q1.below hb1 q1.lt
  have p2 := q2.below hb1 q2.lt
  clear q0 q1 q2 hb1
  have h0 : (w.alloc (.cells #[.int .i64 a, .int .i64 l, .int .i64 m, .int .i64 n, .int .i64 i, .int .i64 t, .int .i64 u, .int .i64 b, .bool c] 174)).heap.size = w.heap.size + 1 := by simp
  have h1 : ((w.alloc (.cells #[.int .i64 a, .int .i64 l, .int .i64 m, .int .i64 n, .int .i64 i, .int .i64 t, .int .i64 u, .int .i64 b, .bool c] 174)).alloc (.cells #[.int .i64 0, .int .i64 0, .int .i64 0, .int .i64 0, .int .i64 0, .int .i64 0, .int .i64 0, .int .i64 0, .bool false] 98)).heap.size = w.heap.size + 1 + 1 := by simp
  rw [h0] at p1
  rw [h1] at p2
  clear h0 h1
  have a2 : w1.cell? ⟨w.heap.size, 2, none⟩ = some (.int .i64 m) := p0.cell 2
  have a3 : w1.cell? ⟨w.heap.size, 3, none⟩ = some (.int .i64 n) := p0.cell 3
  have a4 : w1.cell? ⟨w.heap.size, 4, none⟩ = some (.int .i64 i) := p0.cell 4
  have a5 : w1.cell? ⟨w.heap.size, 5, none⟩ = some (.int .i64 t) := p0.cell 5
  have a6 : w1.cell? ⟨w.heap.size, 6, none⟩ = some (.int .i64 u) := p0.cell 6
  have a7 : w1.cell? ⟨w.heap.size, 7, none⟩ = some (.int .i64 b) := p0.cell 7
  have a8 : w1.cell? ⟨w.heap.size, 8, none⟩ = some (.bool c) := p0.cell 8
  have b0 : w1.cell? ⟨w.heap.size + 1, 0, none⟩ = some (.int .i64 0) := p1.cell 0
  have b1 : w1.cell? ⟨w.heap.size + 1, 1, none⟩ = some (.int .i64 0) := p1.cell 1
  have b2 : w1.cell? ⟨w.heap.size + 1, 2, none⟩ = some (.int .i64 0) := p1.cell 2
  have b3 : w1.cell? ⟨w.heap.size + 1, 3, none⟩ = some (.int .i64 0) := p1.cell 3
  have b4 : w1.cell? ⟨w.heap.size + 1, 4, none⟩ = some (.int .i64 0) := p1.cell 4
  have b5 : w1.cell? ⟨w.heap.size + 1, 5, none⟩ = some (.int .i64 0) := p1.cell 5
  have b6 : w1.cell? ⟨w.heap.size + 1, 6, none⟩ = some (.int .i64 0) := p1.cell 6
  have b7 : w1.cell? ⟨w.heap.size + 1, 7, none⟩ = some (.int .i64 0) := p1.cell 7
  have b8 : w1.cell? ⟨w.heap.size + 1, 8, none⟩ = some (.bool false) := p1.cell 8
  have d0 : w1.cell? ⟨w.heap.size + 1 + 1, 0, none⟩ = some (.int .i64 0) := p2.cell 0
  have d1 : w1.cell? ⟨w.heap.size + 1 + 1, 1, none⟩ = some (.int .i64 0) := p2.cell 1
  have d2 : w1.cell? ⟨w.heap.size + 1 + 1, 2, none⟩ = some (.int .i64 0) := p2.cell 2
  have d3 : w1.cell? ⟨w.heap.size + 1 + 1, 3, none⟩ = some (.int .i64 0) := p2.cell 3
  have d4 : w1.cell? ⟨w.heap.size + 1 + 1, 4, none⟩ = some (.int .i64 0) := p2.cell 4
  have d5 : w1.cell? ⟨w.heap.size + 1 + 1, 5, none⟩ = some (.int .i64 0) := p2.cell 5
  have d6 : w1.cell? ⟨w.heap.size + 1 + 1, 6, none⟩ = some (.int .i64 0) := p2.cell 6
  have d7 : w1.cell? ⟨w.heap.size + 1 + 1, 7, none⟩ = some (.int .i64 0) := p2.cell 7
  have d8 : w1.cell? ⟨w.heap.size + 1 + 1, 8, none⟩ = some (.bool false) := p2.cell 8
  have f0 := p1.frozen 0
  have f1 := p1.frozen 1
  have f2 := p1.frozen 2
  have f3 := p1.frozen 3
  have f4 := p1.frozen 4
  have f5 := p1.frozen 5
  have f6 := p1.frozen 6
  have f7 := p1.frozen 7
  have f8 := p1.frozen 8
  have g0 := p2.frozen 0
  have g1 := p2.frozen 1
  have g2 := p2.frozen 2
  have g3 := p2.frozen 3
  have g4 := p2.frozen 4
  have g5 := p2.frozen 5
  have g6 := p2.frozen 6
  have g7 := p2.frozen 7
  have g8 := p2.frozen 8
  have P1 : Hid (Row w1 (w.heap.size + 1) 98 [.int .i64 0, .int .i64 0, .int .i64 0, .int .i64 0, .int .i64 0, .int .i64 0, .int .i64 0, .int .i64 0, .bool false]) := p1
  clear p0 p1 p2
  have hBB := nine0_below (nine0_below hB (w.heap.size + 1 + 1) (by omega) (.int .i64 a) (.int .i64 l) (.int .i64 m) (.int .i64 n) (.int .i64 i) (.int .i64 t) (.int .i64 u) (.int .i64 b) (.bool c)) (w.heap.size + 1) (by omega) (.int .i64 a) (.int .i64 l) (.int .i64 m) (.int .i64 n) (.int .i64 i) (.int .i64 t) (.int .i64 u) (.int .i64 b) (.bool c)
  have hRR := nine0_row (nine0_other P1.out (w.heap.size + 1 + 1) (by omega) (.int .i64 a) (.int .i64 l) (.int .i64 m) (.int .i64 n) (.int .i64 i) (.int .i64 t) (.int .i64 u) (.int .i64 b) (.bool c)) (.int .i64 a) (.int .i64 l) (.int .i64 m) (.int .i64 n) (.int .i64 i) (.int .i64 t) (.int .i64 u) (.int .i64 b) (.bool c)
  unfold nine0 at hBB hRR
  have HH : Hid _ := And.intro hBB hRR
  clear hBB hRR P1
  go_wp2_with fail
  have HH2 := HH.out
  clear HH b0 b1 b2 b3 b4 b5 b6 b7 b8 d0 d1 d2 d3 d4 d5 d6 d7 d8 f0 f1 f2 f3 f4 f5 f6 f7 f8 g0 g1 g2 g3 g4 g5 g6 g7 g8 a2 a3 a4 a5 a6 a7 a8 hB HT
  generalize ((((((((((((((((((w1.setCell ⟨w.heap.size + 1 + 1, 0, none⟩ (.int .i64 a)).setCell ⟨w.heap.size + 1 + 1, 1, none⟩ (.int .i64 l)).setCell ⟨w.heap.size + 1 + 1, 2, none⟩ (.int .i64 m)).setCell ⟨w.heap.size + 1 + 1, 3, none⟩ (.int .i64 n)).setCell ⟨w.heap.size + 1 + 1, 4, none⟩ (.int .i64 i)).setCell ⟨w.heap.size + 1 + 1, 5, none⟩ (.int .i64 t)).setCell ⟨w.heap.size + 1 + 1, 6, none⟩ (.int .i64 u)).setCell ⟨w.heap.size + 1 + 1, 7, none⟩ (.int .i64 b)).setCell ⟨w.heap.size + 1 + 1, 8, none⟩ (.bool c)).setCell ⟨w.heap.size + 1, 0, none⟩ (.int .i64 a)).setCell ⟨w.heap.size + 1, 1, none⟩ (.int .i64 l)).setCell ⟨w.heap.size + 1, 2, none⟩ (.int .i64 m)).setCell ⟨w.heap.size + 1, 3, none⟩ (.int .i64 n)).setCell ⟨w.heap.size + 1, 4, none⟩ (.int .i64 i)).setCell ⟨w.heap.size + 1, 5, none⟩ (.int .i64 t)).setCell ⟨w.heap.size + 1, 6, none⟩ (.int .i64 u)).setCell ⟨w.heap.size + 1, 7, none⟩ (.int .i64 b)).setCell ⟨w.heap.size + 1, 8, none⟩ (.bool c)) = W at *
  obtain ⟨hBB, hRR⟩ := HH2
  have b0 : W.cell? ⟨w.heap.size + 1, 0, none⟩ = some (.int .i64 a) := hRR.cell 0
  have b1 : W.cell? ⟨w.heap.size + 1, 1, none⟩ = some (.int .i64 l) := hRR.cell 1
  have b2 : W.cell? ⟨w.heap.size + 1, 2, none⟩ = some (.int .i64 m) := hRR.cell 2
  have b3 : W.cell? ⟨w.heap.size + 1, 3, none⟩ = some (.int .i64 n) := hRR.cell 3
  have b4 : W.cell? ⟨w.heap.size + 1, 4, none⟩ = some (.int .i64 i) := hRR.cell 4
  have b5 : W.cell? ⟨w.heap.size + 1, 5, none⟩ = some (.int .i64 t) := hRR.cell 5
  have b6 : W.cell? ⟨w.heap.size + 1, 6, none⟩ = some (.int .i64 u) := hRR.cell 6
  have b7 : W.cell? ⟨w.heap.size + 1, 7, none⟩ = some (.int .i64 b) := hRR.cell 7
  have b8 : W.cell? ⟨w.heap.size + 1, 8, none⟩ = some (.bool c) := hRR.cell 8
  clear hRR
  refine bodyPost_ret (v := .agg #[.int .i64 a, .int .i64 l, .int .i64 m, .int .i64 n, .int .i64 i, .int .i64 t, .int .i64 u, .int .i64 b, .bool c]) (by simp [results, Tryz.results141, go_sem, b0, b1, b2, b3, b4, b5, b6, b7, b8]) rfl ⟨rfl, hBB⟩
end Go.Proofs.YtifckpncpjijiaaGreat
/- The order of nets, as the program's sort asks for it. -/
namespace Go.Proofs.YtifckpncpjijiaaGreat
open Go.RowKit Go.Sort

/-- What netOrder tells of two nets. -/
def cmpN (x y : Int × Int) : Int := if lessB x.1 x.2 y.1 y.2 = true then -1 else if lessB y.1 y.2 x.1 x.2 = true then 1 else 0
def pairV (x : Int × Int) : Value := .agg #[.int .i64 x.1, .int .i64 x.2]
set_option maxRecDepth 100000 in
theorem netOrder_any (a l b m : Int) (w : World) : Calls Tryz.prog 175 #[.agg #[.int .i64 a, .int .i64 l], .agg #[.int .i64 b, .int .i64 m]] w fun e w' => e = .returned (.int .i64 (cmpN (a, l) (b, m))) ∧ Below w.heap.size w w' := by
  have H1 : Hid (∀ w, Calls Tryz.prog 145 #[.agg #[.int .i64 a, .int .i64 l], .agg #[.int .i64 b, .int .i64 m]] w fun e w' => e = .returned (.bool (lessB a l b m)) ∧ Below w.heap.size w w') := implLess_any a l b m
  have H2 : Hid (∀ w, Calls Tryz.prog 145 #[.agg #[.int .i64 b, .int .i64 m], .agg #[.int .i64 a, .int .i64 l]] w fun e w' => e = .returned (.bool (lessB b m a l)) ∧ Below w.heap.size w w') := implLess_any b m a l
  have HC : Hid (cmpN (a, l) (b, m) = if lessB a l b m = true then -1 else if lessB b m a l = true then 1 else 0) := rfl
  generalize cmpN (a, l) (b, m) = R at *
  generalize lessB a l b m = X at *
  generalize lessB b m a l = Y at *
  go_enter Tryz.func175, Tryz.ntmps175
  go_wp2_with fail
  refine (H1.out _).mono ?_
  rintro e w1 ⟨rfl, hb1⟩
  obtain ⟨c0, c1, c2, c3, hs1, hB1⟩ := four_later hb1
  clear hb1 H1
  cases X
  · go_wp2_with fail
    refine (H2.out _).mono ?_
    rintro e w2 ⟨rfl, hb2⟩
    have hB2 := hB1.trans (hb2.mono hB1.size)
    clear c0 c1 c2 c3 hb2
    cases Y
    · have HR : Hid (R = 0) := HC.out
      clear HC
      go_wp2
      go_ret
      exact ⟨by rw [HR.out]; rfl, hB2⟩
    · have HR : Hid (R = 1) := HC.out
      clear HC
      go_wp2
      go_ret
      exact ⟨by rw [HR.out]; rfl, hB2⟩
  · have HR : Hid (R = -1) := HC.out
    clear HC
    go_wp2
    go_ret
    exact ⟨by rw [HR.out]; rfl, hB1⟩
end Go.Proofs.YtifckpncpjijiaaGreat
/- Nets in a row of memory, and their order, in plain lists. (Written by gen_ins.py.) -/
namespace Go.Proofs.YtifckpncpjijiaaGreat
open Go.RowKit Go.Sort

abbrev NP := Int × Int
def flatN (ds : List NP) : List Value := ds.flatMap fun x => [.int .i64 x.1, .int .i64 x.2]
theorem flatN_length (ds : List NP) : (flatN ds).length = 2 * ds.length := by
  induction ds with
  | nil => rfl
  | cons x ds ih => simp only [flatN, List.flatMap_cons, List.length_append, List.length_cons, List.length_nil] at ih ⊢; omega
theorem flatN_get (ds : List NP) (i : Nat) (hi : i < ds.length) : (flatN ds)[i * 2]? = some (.int .i64 ds[i].1) ∧ (flatN ds)[i * 2 + 1]? = some (.int .i64 ds[i].2) := by
  induction ds generalizing i with
  | nil => simp at hi
  | cons x ds ih =>
    match i with
    | 0 => exact ⟨rfl, rfl⟩
    | i + 1 =>
      have := ih i (by simpa using hi)
      have e : flatN (x :: ds) = .int .i64 x.1 :: .int .i64 x.2 :: flatN ds := rfl
      rw [e, show (i + 1) * 2 = i * 2 + 1 + 1 by omega]
      exact this
theorem flatN_set (ds : List NP) (i : Nat) (hi : i < ds.length) (y : NP) : ((flatN ds).set (i * 2) (.int .i64 y.1)).set (i * 2 + 1) (.int .i64 y.2) = flatN (ds.set i y) := by
  induction ds generalizing i with
  | nil => simp at hi
  | cons x ds ih =>
    have e : ∀ (z : NP) zs, flatN (z :: zs) = .int .i64 z.1 :: .int .i64 z.2 :: flatN zs := fun _ _ => rfl
    match i with
    | 0 => rfl
    | i + 1 =>
      rw [List.set_cons_succ, e, e, show (i + 1) * 2 = i * 2 + 1 + 1 by omega, show i * 2 + 1 + 1 + 1 = (i * 2 + 1) + 1 + 1 by omega]
      simp only [List.set_cons_succ]
      rw [ih i (by simpa using hi)]
/-- Block g begins with the nets ds. -/
def NetsAt (w : World) (g : Nat) (ds : List NP) : Prop := ∃ cur, Row w g 87 cur ∧ cur.take (2 * ds.length) = flatN ds
theorem NetsAt.lt {w : World} {g : Nat} {ds : List NP} (h : NetsAt w g ds) : g < w.heap.size := by
  obtain ⟨cur, h, _⟩ := h
  exact h.lt
theorem NetsAt.below {B : Nat} {w w' : World} {g : Nat} {ds : List NP} (h : NetsAt w g ds) (hb : Below B w w') (hg : g < B) : NetsAt w' g ds := by
  obtain ⟨cur, h, e⟩ := h
  exact ⟨cur, h.below hb hg, e⟩
theorem NetsAt.cell {w : World} {g : Nat} {ds : List NP} (h : NetsAt w g ds) (i : Nat) (hi : i < ds.length) : w.cell? ⟨g, i * 2, none⟩ = some (.int .i64 ds[i].1) ∧ w.cell? ⟨g, i * 2 + 1, none⟩ = some (.int .i64 ds[i].2) ∧ w.frozen? ⟨g, i * 2, none⟩ = false ∧ w.frozen? ⟨g, i * 2 + 1, none⟩ = false := by
  obtain ⟨cur, h, e⟩ := h
  have hk : ∀ k, k < 2 * ds.length → cur[k]? = (flatN ds)[k]? := fun k hk => by rw [← e, List.getElem?_take, if_pos hk]
  obtain ⟨h0, h1⟩ := flatN_get ds i hi
  exact ⟨by rw [h.cell, hk _ (by omega)]; exact h0, by rw [h.cell, hk _ (by omega)]; exact h1, h.frozen _, h.frozen _⟩
theorem NetsAt.set {w : World} {g : Nat} {ds : List NP} (h : NetsAt w g ds) (i : Nat) (hi : i < ds.length) (y : NP) : NetsAt ((w.setCell ⟨g, i * 2, none⟩ (.int .i64 y.1)).setCell ⟨g, i * 2 + 1, none⟩ (.int .i64 y.2)) g (ds.set i y) := by
  obtain ⟨cur, h, e⟩ := h
  refine ⟨_, (h.set (i * 2) _).set (i * 2 + 1) _, ?_⟩
  rw [List.length_set, List.take_set, List.take_set, e]
  exact flatN_set ds i hi y
/-- Two of them change places. -/
def swapN (ds : List NP) (j : Nat) : List NP := (ds.set j ds[j - 1]!).set (j - 1) ds[j]!
theorem swapN_length (ds : List NP) (j : Nat) : (swapN ds j).length = ds.length := by simp [swapN]
theorem swapN_get (ds : List NP) (j : Nat) (h0 : 0 < j) (hj : j < ds.length) (k : Nat) (hk : k < ds.length) : (swapN ds j)[k]! = if k = j then ds[j - 1]! else if k = j - 1 then ds[j]! else ds[k]! := by
  unfold swapN
  have hk' : k < ((ds.set j ds[j - 1]!).set (j - 1) ds[j]!).length := by simp; exact hk
  rw [getElem!_pos _ k hk', getElem!_pos ds k hk, List.getElem_set, List.getElem_set]
  by_cases h1 : k = j
  · subst h1
    rw [if_neg (by omega), if_pos rfl, if_pos rfl]
  · rw [if_neg h1]
    by_cases h2 : k = j - 1
    · subst h2; rw [if_pos rfl, if_pos rfl]
    · rw [if_neg (fun e => h2 e.symm), if_neg (fun e => h1 e.symm), if_neg h2]
theorem swapN_perm (ds : List NP) (j : Nat) (h0 : 0 < j) (hj : j < ds.length) : (swapN ds j).Perm ds := by
  unfold swapN
  rw [getElem!_pos ds (j - 1) (by omega), getElem!_pos ds j hj]
  exact List.set_set_perm hj (by omega)
/-- x comes ahead of y. -/
def ahead (x y : NP) : Bool := decide (cmpN x y < 0)
theorem ahead_iff (x y : NP) : ahead x y = lessB x.1 x.2 y.1 y.2 := by
  unfold ahead cmpN
  cases lessB x.1 x.2 y.1 y.2 <;> cases lessB y.1 y.2 x.1 x.2 <;> rfl
theorem ahead_asym {x y : NP} (h : ahead x y = true) : ahead y x = false := by
  rw [ahead_iff] at h ⊢
  unfold lessB at h ⊢
  simp only [Bool.and_eq_true, Bool.or_eq_true, decide_eq_true_eq, beq_iff_eq] at h
  obtain ⟨_, _, h⟩ := h
  have : (decide (y.1 < x.1) || (y.1 == x.1 && decide (y.2 < x.2))) = false := by
    rw [Bool.or_eq_false_iff, Bool.and_eq_false_iff]
    simp only [decide_eq_false_iff_not, beq_eq_false_iff_ne, ne_eq]
    omega
  rw [this]; simp
/-- In order up to k. -/
def Risen (ds : List NP) (k : Nat) : Prop := ∀ p, p + 1 < k → ahead ds[p + 1]! ds[p]! = false
/-- In order up to i, but for the one at j on its way. -/
def Going (ds : List NP) (i j : Nat) : Prop := j ≤ i ∧ (∀ p, p + 1 ≤ i → p + 1 ≠ j → ahead ds[p + 1]! ds[p]! = false) ∧ (0 < j → j < i → ahead ds[j + 1]! ds[j - 1]! = false)
theorem going_first {ds : List NP} {i : Nat} (h : Risen ds i) : Going ds i i := ⟨Nat.le_refl _, fun p hp hne => h p (by omega), fun _ h => absurd h (by omega)⟩
theorem going_end {ds : List NP} {i j : Nat} (h : Going ds i j) (he : j = 0 ∨ ahead ds[j]! ds[j - 1]! = false) : Risen ds (i + 1) := by
  intro p hp
  by_cases hpj : p + 1 = j
  · subst hpj
    rcases he with he | he
    · omega
    · simpa using he
  · exact h.2.1 p (by omega) hpj
theorem going_next {ds : List NP} {i j : Nat} (hi : i < ds.length) (h0 : 0 < j) (h : Going ds i j) (ha : ahead ds[j]! ds[j - 1]! = true) : Going (swapN ds j) i (j - 1) := by
  obtain ⟨hj, h1, h2⟩ := h
  have g := fun k (hk : k < ds.length) => swapN_get ds j h0 (by omega) k hk
  refine ⟨by omega, fun p hp hne => ?_, fun hj1 _ => ?_⟩
  · rw [g (p + 1) (by omega), g p (by omega)]
    by_cases e1 : p + 1 = j
    · rw [if_pos e1, if_neg (by omega), if_pos (by omega)]
      exact ahead_asym ha
    · rw [if_neg e1, if_neg hne]
      by_cases e2 : p = j
      · subst e2
        rw [if_pos rfl]
        exact h2 h0 (by omega)
      · rw [if_neg e2]
        by_cases e3 : p = j - 1
        · omega
        · rw [if_neg e3]
          exact h1 p hp e1
  · rw [show j - 1 + 1 = j by omega, g j (by omega), g (j - 1 - 1) (by omega), if_pos rfl, if_neg (by omega), if_neg (by omega)]
    have := h1 (j - 1 - 1) (by omega) (by omega)
    rwa [show j - 1 - 1 + 1 = j - 1 by omega] at this
end Go.Proofs.YtifckpncpjijiaaGreat
/- An Iface: its value; right, by the program and by the model. (Written by gen_if.py.) -/
namespace Go.Proofs.YtifckpncpjijiaaGreat
open Go.RowKit Go.Sort

/-- An Iface: its address, its net (address and length), its cost, whether it is up. -/
structure If where
  d : Int
  a : Int
  l : Int
  c : Int
  u : Bool
deriving Inhabited
def ifA (f : If) : Array Value := #[.int .i64 f.d, .int .i64 f.a, .int .i64 f.l, .int .i64 f.c, .bool f.u]
def ifV (f : If) : Value := .agg (ifA f)
def ifB (f : If) : Bool := coversB f.a f.l f.d && (decide (1 ≤ f.c) && decide (f.c ≤ 15))
theorem box5i {w w1 : World} {x0 x1 x2 x3 x4 : Value} {t : TypeId} (h : Below (w.alloc (.cells #[x0, x1, x2, x3, x4] t)).heap.size (w.alloc (.cells #[x0, x1, x2, x3, x4] t)) w1) :
    w1.cell? ⟨w.heap.size, 0, none⟩ = some x0 ∧ w1.cell? ⟨w.heap.size, 1, none⟩ = some x1 ∧ w1.cell? ⟨w.heap.size, 2, none⟩ = some x2 ∧ w1.cell? ⟨w.heap.size, 3, none⟩ = some x3 ∧ w1.cell? ⟨w.heap.size, 4, none⟩ = some x4 ∧ Below w.heap.size w w1 := by
  have q := Row.new w t [x0, x1, x2, x3, x4]
  have q := q.below h q.lt
  exact ⟨q.cell 0, q.cell 1, q.cell 2, q.cell 3, q.cell 4, (ent_new0 w _).trans (h.mono (by simp))⟩
set_option maxRecDepth 100000 in
theorem implIface_any (f : If) (w : World) : Calls Tryz.prog 142 #[ifV f] w fun e w' => e = .returned (.bool (ifB f)) ∧ Below w.heap.size w w' := by
  have HC : Hid (∀ w, Calls Tryz.prog 107 #[.agg #[.int .i64 f.a, .int .i64 f.l], .int .i64 f.d] w fun e w' => e = .returned (.bool (coversB f.a f.l f.d)) ∧ Below w.heap.size w w') := implCovers_any f.a f.l f.d
  obtain ⟨d, a, l, c, u⟩ := f
  unfold ifV ifA ifB
  simp only at HC ⊢
  generalize coversB a l d = B at *
  go_enter Tryz.func142, Tryz.ntmps142
  go_wp2_with fail
  refine (HC.out _).mono ?_
  rintro e w1 ⟨rfl, hb1⟩
  obtain ⟨c0, c1, c2, c3, c4, hB⟩ := box5i hb1
  clear hb1 HC
  cases B
  · go_wp2
    go_ret
    exact ⟨ret_bool (by simp), hB⟩
  · by_cases h1 : 1 ≤ c
    · by_cases h2 : c ≤ 15
      · go_wp2
        go_ret
        exact ⟨ret_bool (by simp [h1, h2]), hB⟩
      · go_wp2
        go_ret
        exact ⟨ret_bool (by simp; omega), hB⟩
    · go_wp2
      go_ret
      exact ⟨ret_bool (by simp; omega), hB⟩
theorem covers_right {a l d : Int} (h : rightB a l = false) : coversB a l d = false := by
  unfold coversB
  rw [h]
  rfl
set_option maxRecDepth 100000 in
theorem specIface_any (f : If) (w : World) : Calls Tryz.prog 135 #[ifV f] w fun e w' => e = .returned (.bool (ifB f)) ∧ Below w.heap.size w w' := by
  have HR : Hid (∀ w, Calls Tryz.prog 136 #[.agg #[.int .i64 f.a, .int .i64 f.l]] w fun e w' => e = .returned (.bool (rightB f.a f.l)) ∧ Below w.heap.size w w') := specRight_any f.a f.l
  have HC : Hid (∀ w, Calls Tryz.prog 168 #[.agg #[.int .i64 f.a, .int .i64 f.l], .int .i64 f.d] w fun e w' => e = .returned (.bool (coversB f.a f.l f.d)) ∧ Below w.heap.size w w') := specCovers_any f.a f.l f.d
  have HI : Hid (∀ w, Calls Tryz.prog 94 #[.int .i64 f.c, .int .i64 1, .int .i64 15] w fun e w' => e = .returned (.bool (decide (1 ≤ f.c) && decide (f.c ≤ 15))) ∧ w = w') := fun w => (l03Is_any f.c 1 15 w).mono fun e w' h => by rw [← Bool.decide_and]; exact h
  obtain ⟨d, a, l, c, u⟩ := f
  unfold ifV ifA ifB
  simp only at HC HR HI ⊢
  have hcr := @covers_right a l d
  generalize coversB a l d = B at *
  generalize (decide (1 ≤ c) && decide (c ≤ 15)) = D at *
  go_enter Tryz.func135, Tryz.ntmps135
  go_wp2_with fail
  refine (HR.out _).mono ?_
  rintro e w1 ⟨rfl, hb1⟩
  have hb1' := hb1
  obtain ⟨c0, c1, c2, c3, c4, hB⟩ := box5i hb1
  clear HR hb1
  cases hr : rightB a l
  · have hB0 := hcr hr
    clear hcr hr HC HI
    subst hB0
    go_wp2
    go_ret
    exact ⟨rfl, hB⟩
  · clear hcr hr
    go_wp2_with fail
    refine (HC.out _).mono ?_
    rintro e w2 ⟨rfl, hb2⟩
    have hB2 := hB.trans (hb2.mono hB.size)
    obtain ⟨c0, c1, c2, c3, c4, -⟩ := box5i (hb1'.trans (hb2.mono hb1'.size))
    clear HC hb2 hB hb1'
    cases B
    · go_wp2
      go_ret
      exact ⟨rfl, hB2⟩
    · go_wp2_with fail
      refine (HI.out _).mono ?_
      rintro e w3 ⟨rfl, rfl⟩
      go_wp2
      go_ret
      exact ⟨rfl, hB2⟩
end Go.Proofs.YtifckpncpjijiaaGreat
/- An Iface handed over by the laws. (Written by gen_if.py.) -/
namespace Go.Proofs.YtifckpncpjijiaaGreat
open Go.RowKit Go.Sort

theorem three_new (w : World) (x y z : List Value) (t1 t2 t3 : TypeId) : ∃ W, W = ((w.alloc (.cells x.toArray t1)).alloc (.cells y.toArray t2)).alloc (.cells z.toArray t3) ∧ Row W w.heap.size t1 x ∧ Row W (w.heap.size + 1) t2 y ∧ Row W (w.heap.size + 1 + 1) t3 z ∧ Below w.heap.size w W ∧ W.heap.size = w.heap.size + 1 + 1 + 1 := by
  have q0 := ((Row.new w t1 x).alloc (.cells y.toArray t2)).alloc (.cells z.toArray t3)
  have q1 := (Row.new (w.alloc (.cells x.toArray t1)) t2 y).alloc (.cells z.toArray t3)
  have q2 := Row.new ((w.alloc (.cells x.toArray t1)).alloc (.cells y.toArray t2)) t3 z
  rw [show (w.alloc (.cells x.toArray t1)).heap.size = w.heap.size + 1 by simp] at q1
  rw [show ((w.alloc (.cells x.toArray t1)).alloc (.cells y.toArray t2)).heap.size = w.heap.size + 1 + 1 by simp] at q2
  exact ⟨_, rfl, q0, q1, q2, ((ent_new0 w _).alloc (by simp) _).alloc (by simp; omega) _, by simp⟩
set_option maxRecDepth 100000 in
set_option maxHeartbeats 1000000 in
theorem toIface_any (f : If) (w : World) : Calls Tryz.prog 99 #[ifV f] w fun e w' => e = .returned (ifV f) ∧ Below w.heap.size w w' := by
  have HT : Hid (∀ w, Calls Tryz.prog 129 #[.agg #[.int .i64 f.a, .int .i64 f.l]] w fun e w' => e = .returned (.agg #[.int .i64 f.a, .int .i64 f.l]) ∧ Below w.heap.size w w') := toNet_any f.a f.l
  obtain ⟨d, a, l, c, u⟩ := f
  unfold ifV ifA
  simp only at HT ⊢
  obtain ⟨W, hW, q0, q1, q2, hB, hS⟩ := three_new w [.int .i64 d, .int .i64 a, .int .i64 l, .int .i64 c, .bool u] [.int .i64 0, .int .i64 0, .int .i64 0, .int .i64 0, .bool false] [.int .i64 d, .int .i64 0, .int .i64 0, .int .i64 0, .bool false] 143 89 89
  have HW : Hid _ := hW
  have HQ : Hid _ := And.intro q0 (And.intro q1 (And.intro q2 (And.intro hB hS)))
  clear hW q0 q1 q2 hB hS
  go_enter Tryz.func99, Tryz.ntmps99
  go_wp2_with fail
  refine (HT.out _).mono ?_
  rintro e w1 ⟨rfl, hb1⟩
  rw [← HW.out] at hb1
  obtain ⟨q0, q1, q2, hB, hS⟩ := HQ.out
  have p0 := q0.below hb1 q0.lt
  have p1 := q1.below hb1 q1.lt
  have p2 := q2.below hb1 q2.lt
  have hB := hB.trans (hb1.mono (by omega))
  clear q0 q1 q2 hb1 HW HQ HT
  have a0 : w1.cell? ⟨w.heap.size, 0, none⟩ = some (.int .i64 d) := p0.cell 0
  have a1 : w1.cell? ⟨w.heap.size, 1, none⟩ = some (.int .i64 a) := p0.cell 1
  have a2 : w1.cell? ⟨w.heap.size, 2, none⟩ = some (.int .i64 l) := p0.cell 2
  have a3 : w1.cell? ⟨w.heap.size, 3, none⟩ = some (.int .i64 c) := p0.cell 3
  have a4 : w1.cell? ⟨w.heap.size, 4, none⟩ = some (.bool u) := p0.cell 4
  have b0 : w1.cell? ⟨w.heap.size + 1, 0, none⟩ = some (.int .i64 0) := p1.cell 0
  have f0 := p1.frozen 0
  have b1 : w1.cell? ⟨w.heap.size + 1, 1, none⟩ = some (.int .i64 0) := p1.cell 1
  have f1 := p1.frozen 1
  have b2 : w1.cell? ⟨w.heap.size + 1, 2, none⟩ = some (.int .i64 0) := p1.cell 2
  have f2 := p1.frozen 2
  have b3 : w1.cell? ⟨w.heap.size + 1, 3, none⟩ = some (.int .i64 0) := p1.cell 3
  have f3 := p1.frozen 3
  have b4 : w1.cell? ⟨w.heap.size + 1, 4, none⟩ = some (.bool false) := p1.cell 4
  have f4 := p1.frozen 4
  have d0 : w1.cell? ⟨w.heap.size + 1 + 1, 0, none⟩ = some (.int .i64 d) := p2.cell 0
  have g0 := p2.frozen 0
  have d1 : w1.cell? ⟨w.heap.size + 1 + 1, 1, none⟩ = some (.int .i64 0) := p2.cell 1
  have g1 := p2.frozen 1
  have d2 : w1.cell? ⟨w.heap.size + 1 + 1, 2, none⟩ = some (.int .i64 0) := p2.cell 2
  have g2 := p2.frozen 2
  have d3 : w1.cell? ⟨w.heap.size + 1 + 1, 3, none⟩ = some (.int .i64 0) := p2.cell 3
  have g3 := p2.frozen 3
  have d4 : w1.cell? ⟨w.heap.size + 1 + 1, 4, none⟩ = some (.bool false) := p2.cell 4
  have g4 := p2.frozen 4
  have HE : Hid (Row ((((((((((w1.setCell ⟨w.heap.size + 1 + 1, 1, none⟩ (.int .i64 a)).setCell ⟨w.heap.size + 1 + 1, 2, none⟩ (.int .i64 l)).setCell ⟨w.heap.size + 1 + 1, 3, none⟩ (.int .i64 c)).setCell ⟨w.heap.size + 1 + 1, 4, none⟩ (.bool u)).setCell ⟨w.heap.size + 1, 0, none⟩ (.int .i64 d)).setCell ⟨w.heap.size + 1, 1, none⟩ (.int .i64 a)).setCell ⟨w.heap.size + 1, 2, none⟩ (.int .i64 l)).setCell ⟨w.heap.size + 1, 3, none⟩ (.int .i64 c)).setCell ⟨w.heap.size + 1, 4, none⟩ (.bool u))) (w.heap.size + 1) 89 [.int .i64 d, .int .i64 a, .int .i64 l, .int .i64 c, .bool u] ∧ Below w.heap.size w ((((((((((w1.setCell ⟨w.heap.size + 1 + 1, 1, none⟩ (.int .i64 a)).setCell ⟨w.heap.size + 1 + 1, 2, none⟩ (.int .i64 l)).setCell ⟨w.heap.size + 1 + 1, 3, none⟩ (.int .i64 c)).setCell ⟨w.heap.size + 1 + 1, 4, none⟩ (.bool u)).setCell ⟨w.heap.size + 1, 0, none⟩ (.int .i64 d)).setCell ⟨w.heap.size + 1, 1, none⟩ (.int .i64 a)).setCell ⟨w.heap.size + 1, 2, none⟩ (.int .i64 l)).setCell ⟨w.heap.size + 1, 3, none⟩ (.int .i64 c)).setCell ⟨w.heap.size + 1, 4, none⟩ (.bool u)))) := ⟨(((((((((p1.other 1 (.int .i64 a) (by omega)).other 2 (.int .i64 l) (by omega)).other 3 (.int .i64 c) (by omega)).other 4 (.bool u) (by omega)).set 0 (.int .i64 d)).set 1 (.int .i64 a)).set 2 (.int .i64 l)).set 3 (.int .i64 c)).set 4 (.bool u)), (((((((((hB.setCell (p := ⟨w.heap.size + 1 + 1, 1, none⟩) (by show w.heap.size ≤ w.heap.size + 1 + 1; omega) (.int .i64 a)).setCell (p := ⟨w.heap.size + 1 + 1, 2, none⟩) (by show w.heap.size ≤ w.heap.size + 1 + 1; omega) (.int .i64 l)).setCell (p := ⟨w.heap.size + 1 + 1, 3, none⟩) (by show w.heap.size ≤ w.heap.size + 1 + 1; omega) (.int .i64 c)).setCell (p := ⟨w.heap.size + 1 + 1, 4, none⟩) (by show w.heap.size ≤ w.heap.size + 1 + 1; omega) (.bool u)).setCell (p := ⟨w.heap.size + 1, 0, none⟩) (by show w.heap.size ≤ w.heap.size + 1; omega) (.int .i64 d)).setCell (p := ⟨w.heap.size + 1, 1, none⟩) (by show w.heap.size ≤ w.heap.size + 1; omega) (.int .i64 a)).setCell (p := ⟨w.heap.size + 1, 2, none⟩) (by show w.heap.size ≤ w.heap.size + 1; omega) (.int .i64 l)).setCell (p := ⟨w.heap.size + 1, 3, none⟩) (by show w.heap.size ≤ w.heap.size + 1; omega) (.int .i64 c)).setCell (p := ⟨w.heap.size + 1, 4, none⟩) (by show w.heap.size ≤ w.heap.size + 1; omega) (.bool u))⟩
  clear p0 p1 p2 hB
  go_wp2_with fail
  obtain ⟨h1, h2⟩ := HE.out
  clear HE a0 b0 d0 f0 g0 a1 b1 d1 f1 g1 a2 b2 d2 f2 g2 a3 b3 d3 f3 g3 a4 b4 d4 f4 g4
  generalize (((((((((w1.setCell ⟨w.heap.size + 1 + 1, 1, none⟩ (.int .i64 a)).setCell ⟨w.heap.size + 1 + 1, 2, none⟩ (.int .i64 l)).setCell ⟨w.heap.size + 1 + 1, 3, none⟩ (.int .i64 c)).setCell ⟨w.heap.size + 1 + 1, 4, none⟩ (.bool u)).setCell ⟨w.heap.size + 1, 0, none⟩ (.int .i64 d)).setCell ⟨w.heap.size + 1, 1, none⟩ (.int .i64 a)).setCell ⟨w.heap.size + 1, 2, none⟩ (.int .i64 l)).setCell ⟨w.heap.size + 1, 3, none⟩ (.int .i64 c)).setCell ⟨w.heap.size + 1, 4, none⟩ (.bool u)) = Y at *
  have e0 : Y.cell? ⟨w.heap.size + 1, 0, none⟩ = some (.int .i64 d) := h1.cell 0
  have e1 : Y.cell? ⟨w.heap.size + 1, 1, none⟩ = some (.int .i64 a) := h1.cell 1
  have e2 : Y.cell? ⟨w.heap.size + 1, 2, none⟩ = some (.int .i64 l) := h1.cell 2
  have e3 : Y.cell? ⟨w.heap.size + 1, 3, none⟩ = some (.int .i64 c) := h1.cell 3
  have e4 : Y.cell? ⟨w.heap.size + 1, 4, none⟩ = some (.bool u) := h1.cell 4
  exact bodyPost_ret (v := .agg #[.int .i64 d, .int .i64 a, .int .i64 l, .int .i64 c, .bool u]) (by simp [results, Tryz.results99, go_sem, e0, e1, e2, e3, e4]) rfl ⟨rfl, h2⟩
end Go.Proofs.YtifckpncpjijiaaGreat
/- Lists of entries in memory. -/
namespace Go.Proofs.YtifckpncpjijiaaGreat
open Go.RowKit Go.Sort

def rowE (es : List Ent) : List Value := es.flatMap entL
theorem entL_length (e : Ent) : (entL e).length = 5 := rfl
theorem rowE_length (es : List Ent) : (rowE es).length = 5 * es.length := by
  induction es with
  | nil => rfl
  | cons e es ih => simp only [rowE, List.flatMap_cons, List.length_append, List.length_cons] at ih ⊢; rw [ih, entL_length]; omega
theorem rowE_append (a b : List Ent) : rowE (a ++ b) = rowE a ++ rowE b := by simp [rowE]
theorem rowE_cons (e : Ent) (es : List Ent) : rowE (e :: es) = entL e ++ rowE es := rfl
theorem rowE_get (es : List Ent) (i k : Nat) (hi : i < es.length) (hk : k < 5) : (rowE es)[i * 5 + k]? = (entL es[i])[k]? := by
  induction es generalizing i with
  | nil => simp at hi
  | cons e es ih =>
    rw [rowE_cons]
    match i with
    | 0 => rw [Nat.zero_mul, Nat.zero_add, List.getElem?_append_left (by rw [entL_length]; omega)]; rfl
    | i + 1 =>
      rw [List.getElem?_append_right (by rw [entL_length]; omega), entL_length, show (i + 1) * 5 + k - 5 = i * 5 + k by omega, ih i (by simpa using hi)]
      rfl
theorem rowE_one (es : List Ent) : ∀ u ∈ rowE es, u.oneCell' = true := by
  intro u hu
  simp only [rowE, List.mem_flatMap, entL, List.mem_cons, List.not_mem_nil, or_false] at hu
  obtain ⟨e, _, h⟩ := hu
  rcases h with h | h | h | h | h <;> (rw [h]; rfl)
/-- The slice (p, es.length) holds the entries es. -/
def EntsIn (w : World) (p : Option Addr) (es : List Ent) : Prop := es = [] ∨ ∃ g, p = some ⟨g, 0, none⟩ ∧ g < w.heap.size ∧ ∀ j u, (rowE es)[j]? = some u → w.cell? ⟨g, j, none⟩ = some u
theorem EntsIn.below {w w' : World} {p : Option Addr} {es : List Ent} (h : EntsIn w p es) (hb : Below w.heap.size w w') : EntsIn w' p es := by
  rcases h with h | ⟨g, hp, hg, hc⟩
  · exact .inl h
  · refine .inr ⟨g, hp, by have := hb.size; omega, fun j u hj => ?_⟩
    rw [hb.cell (p := ⟨g, j, none⟩) hg]
    exact hc j u hj
theorem EntsIn.alloc {w : World} {p : Option Addr} {es : List Ent} (h : EntsIn w p es) (o : Obj) : EntsIn (w.alloc o) p es := h.below (ent_new0 w o)
theorem EntsIn.at {w : World} {p : Option Addr} {es : List Ent} (h : EntsIn w p es) (i : Nat) (hi : i < es.length) : ∃ g a l n m t, p = some ⟨g, 0, none⟩ ∧ g < w.heap.size ∧ es[i] = ⟨a, l, n, m, t⟩ ∧ w.cell? ⟨g, i * 5, none⟩ = some (.int .i64 a) ∧ w.cell? ⟨g, i * 5 + 1, none⟩ = some (.int .i64 l) ∧ w.cell? ⟨g, i * 5 + 2, none⟩ = some (.int .i64 n) ∧ w.cell? ⟨g, i * 5 + 3, none⟩ = some (.int .i64 m) ∧ w.cell? ⟨g, i * 5 + 4, none⟩ = some (.int .i64 t) := by
  rcases h with rfl | ⟨g, hp, hg, hc⟩
  · simp at hi
  · exact ⟨g, es[i].a, es[i].l, es[i].n, es[i].m, es[i].t, hp, hg, rfl, hc _ _ (rowE_get es i 0 hi (by omega)), hc _ _ (rowE_get es i 1 hi (by omega)), hc _ _ (rowE_get es i 2 hi (by omega)), hc _ _ (rowE_get es i 3 hi (by omega)), hc _ _ (rowE_get es i 4 hi (by omega))⟩
def ripB (c : Int) (es : List Ent) : Bool := decide (c = 1 ∨ c = 2) && decide (es.length ≤ 8) && es.all entB
def ripV (c : Int) (p : Option Addr) (n cap : Nat) : Value := .agg #[.int .i64 c, .slice p n cap]
theorem all_next (es : List Ent) (k : Nat) (h : k < es.length) (ha : (es.take k).all entB = true) : (es.take (k + 1)).all entB = entB es[k] := by
  rw [List.take_succ_eq_append_getElem h, List.all_append, ha]; simp
theorem all_bad (es : List Ent) (k : Nat) (h : k < es.length) (ha : entB es[k] = false) : es.all entB = false := by
  rw [List.all_eq_false]; exact ⟨es[k], List.getElem_mem h, by rw [ha]; simp⟩
theorem ripB_bad (c : Int) (es : List Ent) (k : Nat) (h : k < es.length) (ha : entB es[k] = false) : ripB c es = false := by
  unfold ripB; rw [all_bad es k h ha, Bool.and_false]
end Go.Proofs.YtifckpncpjijiaaGreat
/- Is a Rip right? Asked by the program and by the model. -/
namespace Go.Proofs.YtifckpncpjijiaaGreat
open Go.RowKit Go.Sort

theorem ripB_all {c : Int} {es : List Ent} (hc : c = 1 ∨ c = 2) (hl : es.length ≤ 8) : ripB c es = es.all entB := by simp [ripB, hc, hl]
theorem ripB_long {c : Int} {es : List Ent} (hl : ¬ es.length ≤ 8) : ripB c es = false := by simp [ripB, hl]
theorem ripB_cmd {c : Int} {es : List Ent} (hc : ¬ (c = 1 ∨ c = 2)) : ripB c es = false := by unfold ripB; rw [decide_eq_false hc]; rfl
theorem rip_cell {w w1 : World} {x y : Value} {t : TypeId} (hb : Below (w.alloc (.cells #[x, y] t)).heap.size (w.alloc (.cells #[x, y] t)) w1) : w1.cell? ⟨w.heap.size, 0, none⟩ = some x ∧ w1.cell? ⟨w.heap.size, 1, none⟩ = some y := by
  obtain ⟨h0, h1, _⟩ := cell2_later rfl hb
  exact ⟨h0, h1⟩
set_option maxRecDepth 100000 in
theorem implRipRight_any (c : Int) (p : Option Addr) (cap : Nat) (es : List Ent) (w : World) (h : EntsIn w p es) (hn : es.length ≤ 100000000) :
    Calls Tryz.prog 53 #[ripV c p es.length cap] w fun e w' => e = .returned (.bool (ripB c es)) ∧ Below w.heap.size w w' := by
  have HE : Hid (∀ e w, Calls Tryz.prog 104 #[entV e] w fun r w' => r = .returned (.bool (entB e)) ∧ Below w.heap.size w w') := implEntryRight_any
  unfold ripV
  by_cases hl : es.length ≤ 8
  · by_cases hc : c = 1 ∨ c = 2
    · have HR : Hid (ripB c es = es.all entB) := ripB_all hc hl
      have HX : Hid (EntsIn w p es) := h
      have d8 : decide (8 < (es.length : Int)) = false := by simp; omega
      clear h
      generalize ripB c es = R at *
      rcases hc with rfl | rfl
      all_goals
        go_enter Tryz.func53, Tryz.ntmps53
        go_wp2_with fail
        go_loopw [22] (fun i wr => ∃ k : Nat, k ≤ es.length ∧ i = .int .i64 k ∧ (es.take k).all entB = true ∧ Below w.heap.size w wr) (fun i _ => es.length - (intOf i).toNat)
        case atStart => exact ⟨0, Nat.zero_le _, rfl, rfl, ent_new0 w _⟩
        case round =>
          obtain ⟨k, hk, rfl, ha, hb⟩ := hrel
          by_cases hlt : k < es.length
          · obtain ⟨g, a, l, n, m, t, rfl, hg, hek, c0, c1, c2, c3, c4⟩ := (HX.out.below hb).at k hlt
            have hall := all_next es k hlt ha
            have HBd : Hid (entB es[k] = false → R = false) := fun hf => by rw [HR.out]; exact all_bad es k hlt hf
            rw [hek] at hall HBd
            have HEk : Hid (∀ w, Calls Tryz.prog 104 #[.agg #[.int .i64 a, .int .i64 l, .int .i64 n, .int .i64 m, .int .i64 t]] w fun r w' => r = .returned (.bool (entB ⟨a, l, n, m, t⟩)) ∧ Below w.heap.size w w') := HE.out ⟨a, l, n, m, t⟩
            clear HE hek
            generalize entB ⟨a, l, n, m, t⟩ = B at *
            go_wp2_with fail
            refine (HEk.out _).mono ?_
            rintro e w1 ⟨rfl, hb1⟩
            have hB1 : Below w.heap.size w w1 := hb.trans (((ent_new0 wr _).trans (hb1.mono (by simp))).mono hb.size)
            clear hb1 HEk c0 c1 c2 c3 c4
            cases B
            · go_wp2
              go_ret
              exact ⟨ret_bool (HBd.out (by trivial)).symm, hB1⟩
            · go_wp2
              go_roundw
              case rel => exact ⟨k + 1, hlt, by go_num, hall, hB1⟩
              case measure => simp [intOf]; omega
          · obtain rfl : k = es.length := by omega
            rw [List.take_length] at ha
            go_wp2
            go_ret
            exact ⟨ret_bool (by rw [HR.out, ha]), hb⟩
    · rw [ripB_cmd hc]
      have b1 : (c != 1) = true := by simp; omega
      have b2 : (c != 2) = true := by simp; omega
      go_enter Tryz.func53, Tryz.ntmps53
      go_wp2
      go_ret
      exact ⟨rfl, ent_new0 w _⟩
  · rw [ripB_long hl]
    have d8 : decide (8 < (es.length : Int)) = true := by simp; omega
    by_cases h1 : c = 1
    · subst h1
      go_enter Tryz.func53, Tryz.ntmps53
      go_wp2
      go_ret
      exact ⟨rfl, ent_new0 w _⟩
    · have b1 : (c != 1) = true := by simpa using h1
      by_cases h2 : c = 2
      · subst h2
        go_enter Tryz.func53, Tryz.ntmps53
        go_wp2
        go_ret
        exact ⟨rfl, ent_new0 w _⟩
      · have b2 : (c != 2) = true := by simpa using h2
        go_enter Tryz.func53, Tryz.ntmps53
        go_wp2
        go_ret
        exact ⟨rfl, ent_new0 w _⟩
set_option maxRecDepth 100000 in
theorem specRipRight_any (c : Int) (p : Option Addr) (cap : Nat) (es : List Ent) (w : World) (h : EntsIn w p es) (hn : es.length ≤ 100000000) :
    Calls Tryz.prog 45 #[ripV c p es.length cap] w fun e w' => e = .returned (.bool (ripB c es)) ∧ Below w.heap.size w w' := by
  have HE : Hid (∀ e w, Calls Tryz.prog 95 #[entV e] w fun r w' => r = .returned (.bool (entB e)) ∧ Below w.heap.size w w') := specEntryRight_any
  have HC : Hid (∀ w, Calls Tryz.prog 94 #[.int .i64 c, .int .i64 1, .int .i64 2] w fun e w' => e = .returned (.bool (decide (1 ≤ c ∧ c ≤ 2))) ∧ w = w') := l03Is_any c 1 2
  have HBd : Hid (∀ k (hk : k < es.length), entB es[k] = false → ripB c es = false) := fun k hk hf => ripB_bad c es k hk hf
  have HYs : Hid (es.length ≤ 8 → es.all entB = true → ripB c es = decide (1 ≤ c ∧ c ≤ 2)) := fun h1 h2 => by
    unfold ripB
    rw [h2]
    by_cases hc : c = 1 ∨ c = 2
    · simp [h1, hc]; omega
    · have e1 : decide (1 ≤ c ∧ c ≤ 2) = false := by simp; omega
      rw [decide_eq_false hc, e1]; rfl
  have HNo : Hid (¬ es.length ≤ 8 → ripB c es = false) := fun h1 => ripB_long h1
  have HX : Hid (EntsIn w p es) := h
  unfold ripV
  generalize ripB c es = R at *
  generalize decide (1 ≤ c ∧ c ≤ 2) = D at *
  clear h
  go_enter Tryz.func45, Tryz.ntmps45
  go_wp2_with fail
  go_loopw [3] (fun i wr => ∃ k : Nat, k ≤ es.length ∧ k ≤ 9 ∧ i = .int .i64 k ∧ (es.take k).all entB = true ∧ Below (w.alloc (.cells #[.int .i64 c, .slice p es.length cap] 45)).heap.size (w.alloc (.cells #[.int .i64 c, .slice p es.length cap] 45)) wr) (fun i _ => es.length - (intOf i).toNat)
  case atStart => exact ⟨0, Nat.zero_le _, by omega, rfl, rfl, Below.refl _ _⟩
  case round =>
    obtain ⟨k, hk, hk9, rfl, ha, hb0⟩ := hrel
    obtain ⟨x0, x1⟩ := rip_cell hb0
    have hb : Below w.heap.size w wr := (ent_new0 w _).trans (hb0.mono (by simp))
    by_cases hlt : k < es.length
    · by_cases h8 : k ≤ 8
      · have d1 : decide ((k : Int) < (es.length : Int)) = true := by simpa using hlt
        have d2 : decide ((k : Int) ≤ 8) = true := by simp; omega
        obtain ⟨g, a, l, n, m, t, rfl, hg, hek, c0, c1, c2, c3, c4⟩ := (HX.out.below hb).at k hlt
        have hall := all_next es k hlt ha
        have HBk := HBd.out k hlt
        rw [hek] at hall HBk
        have HEk : Hid (∀ w, Calls Tryz.prog 95 #[.agg #[.int .i64 a, .int .i64 l, .int .i64 n, .int .i64 m, .int .i64 t]] w fun r w' => r = .returned (.bool (entB ⟨a, l, n, m, t⟩)) ∧ Below w.heap.size w w') := HE.out ⟨a, l, n, m, t⟩
        have HBk' : Hid (entB ⟨a, l, n, m, t⟩ = false → R = false) := HBk
        clear HE hek HBd HBk
        generalize entB ⟨a, l, n, m, t⟩ = B at *
        go_wp2_with fail
        refine (HEk.out _).mono ?_
        rintro e w1 ⟨rfl, hb1⟩
        have hB1 : Below (w.alloc (.cells #[.int .i64 c, .slice (some ⟨g, 0, none⟩) es.length cap] 45)).heap.size (w.alloc (.cells #[.int .i64 c, .slice (some ⟨g, 0, none⟩) es.length cap] 45)) w1 := hb0.trans (hb1.mono hb0.size)
        clear hb1 HEk c0 c1 c2 c3 c4
        cases B
        · go_wp2
          go_ret
          exact ⟨ret_bool (HBk'.out (by trivial)).symm, (ent_new0 w _).trans (hB1.mono (by simp))⟩
        · go_wp2
          go_roundw
          case rel => exact ⟨k + 1, hlt, by omega, by go_num, hall, hB1⟩
          case measure => simp [intOf]; omega
      · have d1 : decide ((k : Int) < (es.length : Int)) = true := by simpa using hlt
        have d2 : decide ((k : Int) ≤ 8) = false := by simp; omega
        have hR := HNo.out (by omega)
        have d3 : decide ((es.length : Int) ≤ 8) = false := by simp; omega
        go_wp2_with fail
        refine (HC.out _).mono ?_
        rintro e w1 ⟨rfl, rfl⟩
        cases D
        · go_wp2
          go_ret
          exact ⟨ret_bool hR.symm, hb⟩
        · go_wp2
          go_ret
          exact ⟨ret_bool hR.symm, hb⟩
    · obtain rfl : k = es.length := by omega
      rw [List.take_length] at ha
      have d1 : decide ((es.length : Int) < (es.length : Int)) = false := by simp
      by_cases h8 : es.length ≤ 8
      · have hR := HYs.out h8 ha
        have d3 : decide ((es.length : Int) ≤ 8) = true := by simp; omega
        clear hlt
        go_wp2_with fail
        refine (HC.out _).mono ?_
        rintro e w1 ⟨rfl, rfl⟩
        cases D
        · go_wp2
          go_ret
          exact ⟨ret_bool hR.symm, hb⟩
        · go_wp2
          go_ret
          exact ⟨ret_bool hR.symm, hb⟩
      · have hR := HNo.out h8
        have d3 : decide ((es.length : Int) ≤ 8) = false := by simp; omega
        clear hlt
        go_wp2_with fail
        refine (HC.out _).mono ?_
        rintro e w1 ⟨rfl, rfl⟩
        cases D
        · go_wp2
          go_ret
          exact ⟨ret_bool hR.symm, hb⟩
        · go_wp2
          go_ret
          exact ⟨ret_bool hR.symm, hb⟩
end Go.Proofs.YtifckpncpjijiaaGreat
/- The laws' own entries, handed over; an entry is as itself. -/
namespace Go.Proofs.YtifckpncpjijiaaGreat
open Go.RowKit Go.Sort

/-- Five stores one behind the other into one block. -/
def five (w : World) (g : Nat) (x0 x1 x2 x3 x4 : Value) : World := ((((w.setCell ⟨g, 0, none⟩ x0).setCell ⟨g, 1, none⟩ x1).setCell ⟨g, 2, none⟩ x2).setCell ⟨g, 3, none⟩ x3).setCell ⟨g, 4, none⟩ x4
theorem five_below {B : Nat} {w0 w : World} (h : Below B w0 w) (g : Nat) (hg : B ≤ g) (x0 x1 x2 x3 x4 : Value) : Below B w0 (five w g x0 x1 x2 x3 x4) :=
  ((((h.setCell (p := ⟨g, 0, none⟩) hg x0).setCell (p := ⟨g, 1, none⟩) hg x1).setCell (p := ⟨g, 2, none⟩) hg x2).setCell (p := ⟨g, 3, none⟩) hg x3).setCell (p := ⟨g, 4, none⟩) hg x4
theorem five_row {w : World} {g : Nat} {t : TypeId} {y0 y1 y2 y3 y4 : Value} (h : Row w g t [y0, y1, y2, y3, y4]) (x0 x1 x2 x3 x4 : Value) : Row (five w g x0 x1 x2 x3 x4) g t [x0, x1, x2, x3, x4] :=
  ((((h.set 0 x0).set 1 x1).set 2 x2).set 3 x3).set 4 x4
theorem five_other {w : World} {g : Nat} {t : TypeId} {l : List Value} (h : Row w g t l) (k : Nat) (hk : g ≠ k) (x0 x1 x2 x3 x4 : Value) : Row (five w k x0 x1 x2 x3 x4) g t l :=
  ((((h.other 0 x0 hk).other 1 x1 hk).other 2 x2 hk).other 3 x3 hk).other 4 x4 hk
set_option maxRecDepth 100000 in
theorem toEntry_any (e : Ent) (w : World) : Calls Tryz.prog 101 #[entV e] w fun r w' => r = .returned (entV e) ∧ Below w.heap.size w w' := by
  obtain ⟨a, l, n, m, t⟩ := e
  unfold entV
  have HT : Hid (∀ w, Calls Tryz.prog 129 #[.agg #[.int .i64 a, .int .i64 l]] w fun e w' => e = .returned (.agg #[.int .i64 a, .int .i64 l]) ∧ Below w.heap.size w w') := toNet_any a l
  go_enter Tryz.func101, Tryz.ntmps101
  go_wp2_with fail
  refine (HT.out _).mono ?_
  rintro e w1 ⟨rfl, hb1⟩
  have q0 := ((Row.new w 147 [.int .i64 a, .int .i64 l, .int .i64 n, .int .i64 m, .int .i64 t]).alloc (.cells #[.int .i64 0, .int .i64 0, .int .i64 0, .int .i64 0, .int .i64 0] 95)).alloc (.cells #[.int .i64 0, .int .i64 0, .int .i64 0, .int .i64 0, .int .i64 0] 95)
  have q1 := (Row.new (w.alloc (.cells #[.int .i64 a, .int .i64 l, .int .i64 n, .int .i64 m, .int .i64 t] 147)) 95 [.int .i64 0, .int .i64 0, .int .i64 0, .int .i64 0, .int .i64 0]).alloc (.cells #[.int .i64 0, .int .i64 0, .int .i64 0, .int .i64 0, .int .i64 0] 95)
  have q2 := Row.new ((w.alloc (.cells #[.int .i64 a, .int .i64 l, .int .i64 n, .int .i64 m, .int .i64 t] 147)).alloc (.cells #[.int .i64 0, .int .i64 0, .int .i64 0, .int .i64 0, .int .i64 0] 95)) 95 [.int .i64 0, .int .i64 0, .int .i64 0, .int .i64 0, .int .i64 0]
  have hB : Below w.heap.size w w1 := (((ent_new0 w _).alloc (by simp) _).alloc (by simp; omega) _).trans (hb1.mono (by simp; omega))
  have p0 := q0.below hb1 q0.lt
  have p1 := q1.below hb1 q1.lt
  have p2 := q2.below hb1 q2.lt
  clear q0 q1 q2 hb1
  have h0 : (w.alloc (.cells #[.int .i64 a, .int .i64 l, .int .i64 n, .int .i64 m, .int .i64 t] 147)).heap.size = w.heap.size + 1 := by simp
  have h1 : ((w.alloc (.cells #[.int .i64 a, .int .i64 l, .int .i64 n, .int .i64 m, .int .i64 t] 147)).alloc (.cells #[.int .i64 0, .int .i64 0, .int .i64 0, .int .i64 0, .int .i64 0] 95)).heap.size = w.heap.size + 1 + 1 := by simp
  rw [h0] at p1
  rw [h1] at p2
  clear h0 h1
  have a2 : w1.cell? ⟨w.heap.size, 2, none⟩ = some (.int .i64 n) := p0.cell 2
  have a3 : w1.cell? ⟨w.heap.size, 3, none⟩ = some (.int .i64 m) := p0.cell 3
  have a4 : w1.cell? ⟨w.heap.size, 4, none⟩ = some (.int .i64 t) := p0.cell 4
  have b0 : w1.cell? ⟨w.heap.size + 1, 0, none⟩ = some (.int .i64 0) := p1.cell 0
  have b1 : w1.cell? ⟨w.heap.size + 1, 1, none⟩ = some (.int .i64 0) := p1.cell 1
  have b2 : w1.cell? ⟨w.heap.size + 1, 2, none⟩ = some (.int .i64 0) := p1.cell 2
  have b3 : w1.cell? ⟨w.heap.size + 1, 3, none⟩ = some (.int .i64 0) := p1.cell 3
  have b4 : w1.cell? ⟨w.heap.size + 1, 4, none⟩ = some (.int .i64 0) := p1.cell 4
  have d0 : w1.cell? ⟨w.heap.size + 1 + 1, 0, none⟩ = some (.int .i64 0) := p2.cell 0
  have d1 : w1.cell? ⟨w.heap.size + 1 + 1, 1, none⟩ = some (.int .i64 0) := p2.cell 1
  have d2 : w1.cell? ⟨w.heap.size + 1 + 1, 2, none⟩ = some (.int .i64 0) := p2.cell 2
  have d3 : w1.cell? ⟨w.heap.size + 1 + 1, 3, none⟩ = some (.int .i64 0) := p2.cell 3
  have d4 : w1.cell? ⟨w.heap.size + 1 + 1, 4, none⟩ = some (.int .i64 0) := p2.cell 4
  have f0 := p1.frozen 0
  have f1 := p1.frozen 1
  have f2 := p1.frozen 2
  have f3 := p1.frozen 3
  have f4 := p1.frozen 4
  have g0 := p2.frozen 0
  have g1 := p2.frozen 1
  have g2 := p2.frozen 2
  have g3 := p2.frozen 3
  have g4 := p2.frozen 4
  have P1 : Hid (Row w1 (w.heap.size + 1) 95 [.int .i64 0, .int .i64 0, .int .i64 0, .int .i64 0, .int .i64 0]) := p1
  clear p0 p1 p2
  go_wp2_with fail
  have hBB := five_below (five_below hB (w.heap.size + 1 + 1) (by omega) (.int .i64 a) (.int .i64 l) (.int .i64 n) (.int .i64 m) (.int .i64 t)) (w.heap.size + 1) (by omega) (.int .i64 a) (.int .i64 l) (.int .i64 n) (.int .i64 m) (.int .i64 t)
  have hRR := five_row (five_other P1.out (w.heap.size + 1 + 1) (by omega) (.int .i64 a) (.int .i64 l) (.int .i64 n) (.int .i64 m) (.int .i64 t)) (.int .i64 a) (.int .i64 l) (.int .i64 n) (.int .i64 m) (.int .i64 t)
  unfold five at hBB hRR
  generalize ((((((((((w1.setCell { block := w.heap.size + 1 + 1, off := 0 } (Value.int IntKind.i64 a)).setCell { block := w.heap.size + 1 + 1, off := 1 } (Value.int IntKind.i64 l)).setCell { block := w.heap.size + 1 + 1, off := 2 } (Value.int IntKind.i64 n)).setCell { block := w.heap.size + 1 + 1, off := 3 } (Value.int IntKind.i64 m)).setCell { block := w.heap.size + 1 + 1, off := 4 } (Value.int IntKind.i64 t)).setCell { block := w.heap.size + 1, off := 0 } (Value.int IntKind.i64 a)).setCell { block := w.heap.size + 1, off := 1 } (Value.int IntKind.i64 l)).setCell { block := w.heap.size + 1, off := 2 } (Value.int IntKind.i64 n)).setCell { block := w.heap.size + 1, off := 3 } (Value.int IntKind.i64 m)).setCell { block := w.heap.size + 1, off := 4 } (Value.int IntKind.i64 t)) = W at *
  clear b0 b1 b2 b3 b4 d0 d1 d2 d3 d4 f0 f1 f2 f3 f4 g0 g1 g2 g3 g4 a2 a3 a4 P1 hB HT
  have b0 : W.cell? ⟨w.heap.size + 1, 0, none⟩ = some (.int .i64 a) := hRR.cell 0
  have b1 : W.cell? ⟨w.heap.size + 1, 1, none⟩ = some (.int .i64 l) := hRR.cell 1
  have b2 : W.cell? ⟨w.heap.size + 1, 2, none⟩ = some (.int .i64 n) := hRR.cell 2
  have b3 : W.cell? ⟨w.heap.size + 1, 3, none⟩ = some (.int .i64 m) := hRR.cell 3
  have b4 : W.cell? ⟨w.heap.size + 1, 4, none⟩ = some (.int .i64 t) := hRR.cell 4
  clear hRR
  refine bodyPost_ret (v := .agg #[.int .i64 a, .int .i64 l, .int .i64 n, .int .i64 m, .int .i64 t]) (by simp [results, Tryz.results101, go_sem, b0, b1, b2, b3, b4]) rfl ⟨rfl, hBB⟩
end Go.Proofs.YtifckpncpjijiaaGreat
/- Five cells of a row written. -/
namespace Go.Proofs.YtifckpncpjijiaaGreat
open Go.RowKit Go.Sort

theorem set5 (A R : List Value) (k : Nat) (hA : A.length = k * 5) (z0 z1 z2 z3 z4 x0 x1 x2 x3 x4 : Value) : (((((A ++ ([z0, z1, z2, z3, z4] ++ R)).set (k * 5) x0).set (k * 5 + 1) x1).set (k * 5 + 2) x2).set (k * 5 + 3) x3).set (k * 5 + 4) x4 = A ++ ([x0, x1, x2, x3, x4] ++ R) := by
  have e : ∀ (L : List Value) (j : Nat) (x : Value), (A ++ L).set (k * 5 + j) x = A ++ L.set j x := fun L j x => by
    rw [List.set_append, if_neg (by omega), hA, Nat.add_sub_cancel_left]
  have e0 : ∀ (L : List Value) (x : Value), (A ++ L).set (k * 5) x = A ++ L.set 0 x := fun L x => e L 0 x
  rw [e0, e, e, e, e]
  rfl
theorem Row.someE {w : World} {g : Nat} {t : TypeId} {l : List Value} (h : Row w g t l) (k : Nat) (hk : k < l.length) : ∃ v, w.cell? ⟨g, k, none⟩ = some v := ⟨l[k], by rw [h.cell, List.getElem?_eq_getElem hk]⟩
def five5 (w : World) (g o : Nat) (x0 x1 x2 x3 x4 : Value) : World := ((((w.setCell ⟨g, o, none⟩ x0).setCell ⟨g, o + 1, none⟩ x1).setCell ⟨g, o + 2, none⟩ x2).setCell ⟨g, o + 3, none⟩ x3).setCell ⟨g, o + 4, none⟩ x4
theorem five5_below {B : Nat} {w0 w : World} (h : Below B w0 w) (g o : Nat) (hg : B ≤ g) (x0 x1 x2 x3 x4 : Value) : Below B w0 (five5 w g o x0 x1 x2 x3 x4) :=
  ((((h.setCell (p := ⟨g, o, none⟩) hg x0).setCell (p := ⟨g, o + 1, none⟩) hg x1).setCell (p := ⟨g, o + 2, none⟩) hg x2).setCell (p := ⟨g, o + 3, none⟩) hg x3).setCell (p := ⟨g, o + 4, none⟩) hg x4
theorem five5_row {w : World} {g : Nat} {t : TypeId} {l : List Value} (h : Row w g t l) (o : Nat) (x0 x1 x2 x3 x4 : Value) : Row (five5 w g o x0 x1 x2 x3 x4) g t (((((l.set o x0).set (o + 1) x1).set (o + 2) x2).set (o + 3) x3).set (o + 4) x4) :=
  ((((h.set o x0).set (o + 1) x1).set (o + 2) x2).set (o + 3) x3).set (o + 4) x4
theorem five5_other {w : World} {b g : Nat} {t : TypeId} {l : List Value} (h : Row w b t l) (hne : b ≠ g) (o : Nat) (x0 x1 x2 x3 x4 : Value) : Row (five5 w g o x0 x1 x2 x3 x4) b t l :=
  ((((h.other o x0 hne).other (o + 1) x1 hne).other (o + 2) x2 hne).other (o + 3) x3 hne).other (o + 4) x4 hne
end Go.Proofs.YtifckpncpjijiaaGreat
/- The laws' own look: entries, lists of them and Rips are as themselves. -/
namespace Go.Proofs.YtifckpncpjijiaaGreat
open Go.RowKit Go.Sort

/-- Two boxes of five cells, one behind the other: what they hold behind a later call. -/
theorem boxes5 {w w1 : World} {x0 x1 x2 x3 x4 y0 y1 y2 y3 y4 : Value} {t u : TypeId} (h : Below ((w.alloc (.cells #[x0, x1, x2, x3, x4] t)).alloc (.cells #[y0, y1, y2, y3, y4] u)).heap.size ((w.alloc (.cells #[x0, x1, x2, x3, x4] t)).alloc (.cells #[y0, y1, y2, y3, y4] u)) w1) :
    (∀ k v, [x0, x1, x2, x3, x4][k]? = some v → w1.cell? ⟨w.heap.size, k, none⟩ = some v) ∧ (∀ k v, [y0, y1, y2, y3, y4][k]? = some v → w1.cell? ⟨w.heap.size + 1, k, none⟩ = some v) ∧ Below w.heap.size w w1 := by
  have q0 := (Row.new w t [x0, x1, x2, x3, x4]).alloc (.cells #[y0, y1, y2, y3, y4] u)
  have q1 := Row.new (w.alloc (.cells #[x0, x1, x2, x3, x4] t)) u [y0, y1, y2, y3, y4]
  have p0 := q0.below h q0.lt
  have p1 := q1.below h q1.lt
  have e1 : (w.alloc (.cells #[x0, x1, x2, x3, x4] t)).heap.size = w.heap.size + 1 := by simp
  rw [e1] at p1
  exact ⟨fun k v hv => (p0.cell k).trans hv, fun k v hv => (p1.cell k).trans hv, ((ent_new0 w _).alloc (by simp) _).trans (h.mono (by simp; omega))⟩
set_option maxRecDepth 100000 in
theorem eqEntry_same (e : Ent) (w : World) : Calls Tryz.prog 112 #[entV e, entV e] w fun r w' => r = .returned (.bool true) ∧ Below w.heap.size w w' := by
  obtain ⟨a, l, n, m, t⟩ := e
  unfold entV
  have HN : Hid (∀ w, Calls Tryz.prog 134 #[.agg #[.int .i64 a, .int .i64 l], .agg #[.int .i64 a, .int .i64 l]] w fun e w' => e = .returned (.bool true) ∧ Below w.heap.size w w') := eqNet_same a l
  have h1 : (n != n) = false := by simp
  have h2 : (m != m) = false := by simp
  have h3 : (t != t) = false := by simp
  go_enter Tryz.func112, Tryz.ntmps112
  go_wp2_with fail
  refine (HN.out _).mono ?_
  rintro e w1 ⟨rfl, hb1⟩
  obtain ⟨k0, k1, hB⟩ := boxes5 hb1
  have c2 := k0 2 _ rfl
  have c3 := k0 3 _ rfl
  have c4 := k0 4 _ rfl
  have d2 := k1 2 _ rfl
  have d3 := k1 3 _ rfl
  have d4 := k1 4 _ rfl
  clear k0 k1 hb1 HN
  go_wp2
  go_ret
  exact ⟨rfl, hB⟩
set_option maxRecDepth 100000 in
theorem eqEntryS_any (p q : Option Addr) (c d : Nat) (es : List Ent) (w : World) (hp : EntsIn w p es) (hq : EntsIn w q es) (hn : es.length ≤ 100000000) : Calls Tryz.prog 62 #[.slice p es.length c, .slice q es.length d] w fun r w' => r = .returned (.bool true) ∧ Below w.heap.size w w' := by
  have HE : Hid (∀ e w, Calls Tryz.prog 112 #[entV e, entV e] w fun r w' => r = .returned (.bool true) ∧ Below w.heap.size w w') := eqEntry_same
  have HX : Hid (EntsIn w p es ∧ EntsIn w q es) := ⟨hp, hq⟩
  have h0 : ((es.length : Int) != (es.length : Int)) = false := by simp
  clear hp hq
  go_enter Tryz.func62, Tryz.ntmps62
  go_wp2_with fail
  go_loopw [5] (fun i wr => ∃ k : Nat, k ≤ es.length ∧ i = .int .i64 k ∧ Below w.heap.size w wr) (fun i _ => es.length - (intOf i).toNat)
  case atStart => exact ⟨0, Nat.zero_le _, rfl, Below.refl _ _⟩
  case round =>
    obtain ⟨k, hk, rfl, hb⟩ := hrel
    by_cases hlt : k < es.length
    · obtain ⟨g, a, l, n, m, t, rfl, hg, hek, c0, c1, c2, c3, c4⟩ := (HX.out.1.below hb).at k hlt
      obtain ⟨g', a', l', n', m', t', rfl, hg', hek', d0, d1, d2, d3, d4⟩ := (HX.out.2.below hb).at k hlt
      rw [hek] at hek'
      simp only [Ent.mk.injEq] at hek'
      obtain ⟨rfl, rfl, rfl, rfl, rfl⟩ := hek'
      have HEk : Hid (∀ w, Calls Tryz.prog 112 #[.agg #[.int .i64 a, .int .i64 l, .int .i64 n, .int .i64 m, .int .i64 t], .agg #[.int .i64 a, .int .i64 l, .int .i64 n, .int .i64 m, .int .i64 t]] w fun r w' => r = .returned (.bool true) ∧ Below w.heap.size w w') := HE.out ⟨a, l, n, m, t⟩
      clear HE hek HX
      replace c0 := cell_regrown c0
      replace c1 := cell_regrown c1
      replace c2 := cell_regrown c2
      replace c3 := cell_regrown c3
      replace c4 := cell_regrown c4
      replace d0 := cell_regrown d0
      replace d1 := cell_regrown d1
      replace d2 := cell_regrown d2
      replace d3 := cell_regrown d3
      replace d4 := cell_regrown d4
      go_wp2_with fail
      refine wp_region_quiet_below (by kernel_rfl) (by kernel_rfl) ?_
      repeat (go_big_quiet_step ((go_at_call 112; exact Calls.regrown_of (HEk.out _))))
      refine wpQuiet_nil ?_
      intro w1 hw'
      obtain ⟨⟨dq, osq⟩, hw''⟩ := hw'
      have hbq := below_regrown wr dq osq
      rw [← hw''] at hbq
      clear hw'' osq dq c0 c1 c2 c3 c4 d0 d1 d2 d3 d4 HEk
      have hb2 := hb.trans (hbq.mono hb.size)
      clear hbq
      go_wp2
      go_roundw
      case rel => exact ⟨k + 1, hlt, by go_num, hb2⟩
      case measure => simp [intOf]; omega
    · obtain rfl : k = es.length := by omega
      clear hlt hk
      go_wp2
      go_ret
      exact ⟨rfl, hb⟩
end Go.Proofs.YtifckpncpjijiaaGreat
/- The law's own look: Rips are as themselves. -/
namespace Go.Proofs.YtifckpncpjijiaaGreat
open Go.RowKit Go.Sort

set_option maxRecDepth 100000 in
theorem eqRip_any (x : Int) (p q : Option Addr) (c d : Nat) (es : List Ent) (w : World) (hp : EntsIn w p es) (hq : EntsIn w q es) (hn : es.length ≤ 100000000) : Calls Tryz.prog 17 #[ripV x p es.length c, ripV x q es.length d] w fun r w' => r = .returned (.bool true) ∧ Below w.heap.size w w' := by
  have HE : Hid (∀ w, EntsIn w p es → EntsIn w q es → Calls Tryz.prog 62 #[.slice p es.length c, .slice q es.length d] w fun r w' => r = .returned (.bool true) ∧ Below w.heap.size w w') := fun w h1 h2 => eqEntryS_any p q c d es w h1 h2 hn
  have HX : Hid (EntsIn w p es ∧ EntsIn w q es) := ⟨hp, hq⟩
  have h0 : (x != x) = false := by simp
  unfold ripV
  clear hp hq
  go_enter Tryz.func17, Tryz.ntmps17
  go_wp2_with fail
  refine (HE.out _ ((HX.out.1.alloc _).alloc _) ((HX.out.2.alloc _).alloc _)).mono ?_
  rintro e w1 ⟨rfl, hb1⟩
  have hB : Below w.heap.size w w1 := ((ent_new0 w _).alloc (by simp) _).trans (hb1.mono (by simp; omega))
  clear hb1 HE HX
  go_wp2
  go_ret
  exact ⟨rfl, hB⟩
end Go.Proofs.YtifckpncpjijiaaGreat
