/- Texts that stand on each other, in one file: Iff, ToIf, ToRt, SortI, SortM, OwnG, LawB, Sn, Se, EqSn, EqSe, Bd, Lkk, ToLk, EqBd, HrdM, HrdI, HrdS. -/
import Derived.Test.YtialedffpaoacaaGreatDoorPack14
import Derived.Test.YtialedffpaoacaaGreatDoorPack10
import Derived.Lib.QuietBelow
import Derived.BigQuiet
import Derived.Test.YtialedffpaoacaaGreatDoorPack5
import Derived.Test.YtialedffpaoacaaGreatDoorPack7
/- An Iface: its value; right, by the program and by the model. (Written by gen_if.py.) -/
namespace Go.Proofs.YtialedffpaoacaaGreatDoor
open Go.RowKit Go.Sort

/-- An Iface: its address, its net (address and length), its cost, whether it is up. -/
structure If where
  d : Int
  a : Int
  l : Int
  c : Int
  u : Bool
deriving Inhabited
def ifA (f : If) : Array Value := #[.int .i64 f.d, .int .i64 f.a, .int .i64 f.l, .int .i64 f.c, .bool f.u]
def ifV (f : If) : Value := .agg (ifA f)
def ifB (f : If) : Bool := coversB f.a f.l f.d && (decide (1 ≤ f.c) && decide (f.c ≤ 15))
theorem box5i {w w1 : World} {x0 x1 x2 x3 x4 : Value} {t : TypeId} (h : Below (w.alloc (.cells #[x0, x1, x2, x3, x4] t)).heap.size (w.alloc (.cells #[x0, x1, x2, x3, x4] t)) w1) :
    w1.cell? ⟨w.heap.size, 0, none⟩ = some x0 ∧ w1.cell? ⟨w.heap.size, 1, none⟩ = some x1 ∧ w1.cell? ⟨w.heap.size, 2, none⟩ = some x2 ∧ w1.cell? ⟨w.heap.size, 3, none⟩ = some x3 ∧ w1.cell? ⟨w.heap.size, 4, none⟩ = some x4 ∧ Below w.heap.size w w1 := by
  have q := Row.new w t [x0, x1, x2, x3, x4]
  have q := q.below h q.lt
  exact ⟨q.cell 0, q.cell 1, q.cell 2, q.cell 3, q.cell 4, (ent_new0 w _).trans (h.mono (by simp))⟩
set_option maxRecDepth 100000 in
theorem implIface_any (f : If) (w : World) : Calls Tryz.prog 165 #[ifV f] w fun e w' => e = .returned (.bool (ifB f)) ∧ Below w.heap.size w w' := by
  have HC : Hid (∀ w, Calls Tryz.prog 189 #[.agg #[.int .i64 f.a, .int .i64 f.l], .int .i64 f.d] w fun e w' => e = .returned (.bool (coversB f.a f.l f.d)) ∧ Below w.heap.size w w') := implCovers_any f.a f.l f.d
  obtain ⟨d, a, l, c, u⟩ := f
  unfold ifV ifA ifB
  simp only at HC ⊢
  generalize coversB a l d = B at *
  go_enter Tryz.func165, Tryz.ntmps165
  go_wp2_with fail
  refine (HC.out _).mono ?_
  rintro e w1 ⟨rfl, hb1⟩
  obtain ⟨c0, c1, c2, c3, c4, hB⟩ := box5i hb1
  clear hb1 HC
  cases B
  · go_wp2
    go_ret
    exact ⟨ret_bool (by simp), hB⟩
  · by_cases h1 : 1 ≤ c
    · by_cases h2 : c ≤ 15
      · go_wp2
        go_ret
        exact ⟨ret_bool (by simp [h1, h2]), hB⟩
      · go_wp2
        go_ret
        exact ⟨ret_bool (by simp; omega), hB⟩
    · go_wp2
      go_ret
      exact ⟨ret_bool (by simp; omega), hB⟩
theorem covers_right {a l d : Int} (h : rightB a l = false) : coversB a l d = false := by
  unfold coversB
  rw [h]
  rfl
set_option maxRecDepth 100000 in
theorem specIface_any (f : If) (w : World) : Calls Tryz.prog 111 #[ifV f] w fun e w' => e = .returned (.bool (ifB f)) ∧ Below w.heap.size w w' := by
  have HR : Hid (∀ w, Calls Tryz.prog 123 #[.agg #[.int .i64 f.a, .int .i64 f.l]] w fun e w' => e = .returned (.bool (rightB f.a f.l)) ∧ Below w.heap.size w w') := specRight_any f.a f.l
  have HC : Hid (∀ w, Calls Tryz.prog 159 #[.agg #[.int .i64 f.a, .int .i64 f.l], .int .i64 f.d] w fun e w' => e = .returned (.bool (coversB f.a f.l f.d)) ∧ Below w.heap.size w w') := specCovers_any f.a f.l f.d
  have HI : Hid (∀ w, Calls Tryz.prog 43 #[.int .i64 f.c, .int .i64 1, .int .i64 15] w fun e w' => e = .returned (.bool (decide (1 ≤ f.c) && decide (f.c ≤ 15))) ∧ w = w') := fun w => (l03Is_any f.c 1 15 w).mono fun e w' h => by rw [← Bool.decide_and]; exact h
  obtain ⟨d, a, l, c, u⟩ := f
  unfold ifV ifA ifB
  simp only at HC HR HI ⊢
  have hcr := @covers_right a l d
  generalize coversB a l d = B at *
  generalize (decide (1 ≤ c) && decide (c ≤ 15)) = D at *
  go_enter Tryz.func111, Tryz.ntmps111
  go_wp2_with fail
  refine (HR.out _).mono ?_
  rintro e w1 ⟨rfl, hb1⟩
  have hb1' := hb1
  obtain ⟨c0, c1, c2, c3, c4, hB⟩ := box5i hb1
  clear HR hb1
  cases hr : rightB a l
  · have hB0 := hcr hr
    clear hcr hr HC HI
    subst hB0
    go_wp2
    go_ret
    exact ⟨rfl, hB⟩
  · clear hcr hr
    go_wp2_with fail
    refine (HC.out _).mono ?_
    rintro e w2 ⟨rfl, hb2⟩
    have hB2 := hB.trans (hb2.mono hB.size)
    obtain ⟨c0, c1, c2, c3, c4, -⟩ := box5i (hb1'.trans (hb2.mono hb1'.size))
    clear HC hb2 hB hb1'
    cases B
    · go_wp2
      go_ret
      exact ⟨rfl, hB2⟩
    · go_wp2_with fail
      refine (HI.out _).mono ?_
      rintro e w3 ⟨rfl, rfl⟩
      go_wp2
      go_ret
      exact ⟨rfl, hB2⟩
end Go.Proofs.YtialedffpaoacaaGreatDoor
/- An Iface handed over by the laws. (Written by gen_if.py.) -/
namespace Go.Proofs.YtialedffpaoacaaGreatDoor
open Go.RowKit Go.Sort

theorem three_new (w : World) (x y z : List Value) (t1 t2 t3 : TypeId) : ∃ W, W = ((w.alloc (.cells x.toArray t1)).alloc (.cells y.toArray t2)).alloc (.cells z.toArray t3) ∧ Row W w.heap.size t1 x ∧ Row W (w.heap.size + 1) t2 y ∧ Row W (w.heap.size + 1 + 1) t3 z ∧ Below w.heap.size w W ∧ W.heap.size = w.heap.size + 1 + 1 + 1 := by
  have q0 := ((Row.new w t1 x).alloc (.cells y.toArray t2)).alloc (.cells z.toArray t3)
  have q1 := (Row.new (w.alloc (.cells x.toArray t1)) t2 y).alloc (.cells z.toArray t3)
  have q2 := Row.new ((w.alloc (.cells x.toArray t1)).alloc (.cells y.toArray t2)) t3 z
  rw [show (w.alloc (.cells x.toArray t1)).heap.size = w.heap.size + 1 by simp] at q1
  rw [show ((w.alloc (.cells x.toArray t1)).alloc (.cells y.toArray t2)).heap.size = w.heap.size + 1 + 1 by simp] at q2
  exact ⟨_, rfl, q0, q1, q2, ((ent_new0 w _).alloc (by simp) _).alloc (by simp; omega) _, by simp⟩
set_option maxRecDepth 100000 in
set_option maxHeartbeats 1000000 in
theorem toIface_any (f : If) (w : World) : Calls Tryz.prog 174 #[ifV f] w fun e w' => e = .returned (ifV f) ∧ Below w.heap.size w w' := by
  have HT : Hid (∀ w, Calls Tryz.prog 93 #[.agg #[.int .i64 f.a, .int .i64 f.l]] w fun e w' => e = .returned (.agg #[.int .i64 f.a, .int .i64 f.l]) ∧ Below w.heap.size w w') := toNet_any f.a f.l
  obtain ⟨d, a, l, c, u⟩ := f
  unfold ifV ifA
  simp only at HT ⊢
  obtain ⟨W, hW, q0, q1, q2, hB, hS⟩ := three_new w [.int .i64 d, .int .i64 a, .int .i64 l, .int .i64 c, .bool u] [.int .i64 0, .int .i64 0, .int .i64 0, .int .i64 0, .bool false] [.int .i64 d, .int .i64 0, .int .i64 0, .int .i64 0, .bool false] 227 72 72
  have HW : Hid _ := hW
  have HQ : Hid _ := And.intro q0 (And.intro q1 (And.intro q2 (And.intro hB hS)))
  clear hW q0 q1 q2 hB hS
  go_enter Tryz.func174, Tryz.ntmps174
  go_wp2_with fail
  refine (HT.out _).mono ?_
  rintro e w1 ⟨rfl, hb1⟩
  rw [← HW.out] at hb1
  obtain ⟨q0, q1, q2, hB, hS⟩ := HQ.out
  have p0 := q0.below hb1 q0.lt
  have p1 := q1.below hb1 q1.lt
  have p2 := q2.below hb1 q2.lt
  have hB := hB.trans (hb1.mono (by omega))
  clear q0 q1 q2 hb1 HW HQ HT
  have a0 : w1.cell? ⟨w.heap.size, 0, none⟩ = some (.int .i64 d) := p0.cell 0
  have a1 : w1.cell? ⟨w.heap.size, 1, none⟩ = some (.int .i64 a) := p0.cell 1
  have a2 : w1.cell? ⟨w.heap.size, 2, none⟩ = some (.int .i64 l) := p0.cell 2
  have a3 : w1.cell? ⟨w.heap.size, 3, none⟩ = some (.int .i64 c) := p0.cell 3
  have a4 : w1.cell? ⟨w.heap.size, 4, none⟩ = some (.bool u) := p0.cell 4
  have b0 : w1.cell? ⟨w.heap.size + 1, 0, none⟩ = some (.int .i64 0) := p1.cell 0
  have f0 := p1.frozen 0
  have b1 : w1.cell? ⟨w.heap.size + 1, 1, none⟩ = some (.int .i64 0) := p1.cell 1
  have f1 := p1.frozen 1
  have b2 : w1.cell? ⟨w.heap.size + 1, 2, none⟩ = some (.int .i64 0) := p1.cell 2
  have f2 := p1.frozen 2
  have b3 : w1.cell? ⟨w.heap.size + 1, 3, none⟩ = some (.int .i64 0) := p1.cell 3
  have f3 := p1.frozen 3
  have b4 : w1.cell? ⟨w.heap.size + 1, 4, none⟩ = some (.bool false) := p1.cell 4
  have f4 := p1.frozen 4
  have d0 : w1.cell? ⟨w.heap.size + 1 + 1, 0, none⟩ = some (.int .i64 d) := p2.cell 0
  have g0 := p2.frozen 0
  have d1 : w1.cell? ⟨w.heap.size + 1 + 1, 1, none⟩ = some (.int .i64 0) := p2.cell 1
  have g1 := p2.frozen 1
  have d2 : w1.cell? ⟨w.heap.size + 1 + 1, 2, none⟩ = some (.int .i64 0) := p2.cell 2
  have g2 := p2.frozen 2
  have d3 : w1.cell? ⟨w.heap.size + 1 + 1, 3, none⟩ = some (.int .i64 0) := p2.cell 3
  have g3 := p2.frozen 3
  have d4 : w1.cell? ⟨w.heap.size + 1 + 1, 4, none⟩ = some (.bool false) := p2.cell 4
  have g4 := p2.frozen 4
  have HE : Hid (Row ((((((((((w1.setCell ⟨w.heap.size + 1 + 1, 1, none⟩ (.int .i64 a)).setCell ⟨w.heap.size + 1 + 1, 2, none⟩ (.int .i64 l)).setCell ⟨w.heap.size + 1 + 1, 3, none⟩ (.int .i64 c)).setCell ⟨w.heap.size + 1 + 1, 4, none⟩ (.bool u)).setCell ⟨w.heap.size + 1, 0, none⟩ (.int .i64 d)).setCell ⟨w.heap.size + 1, 1, none⟩ (.int .i64 a)).setCell ⟨w.heap.size + 1, 2, none⟩ (.int .i64 l)).setCell ⟨w.heap.size + 1, 3, none⟩ (.int .i64 c)).setCell ⟨w.heap.size + 1, 4, none⟩ (.bool u))) (w.heap.size + 1) 72 [.int .i64 d, .int .i64 a, .int .i64 l, .int .i64 c, .bool u] ∧ Below w.heap.size w ((((((((((w1.setCell ⟨w.heap.size + 1 + 1, 1, none⟩ (.int .i64 a)).setCell ⟨w.heap.size + 1 + 1, 2, none⟩ (.int .i64 l)).setCell ⟨w.heap.size + 1 + 1, 3, none⟩ (.int .i64 c)).setCell ⟨w.heap.size + 1 + 1, 4, none⟩ (.bool u)).setCell ⟨w.heap.size + 1, 0, none⟩ (.int .i64 d)).setCell ⟨w.heap.size + 1, 1, none⟩ (.int .i64 a)).setCell ⟨w.heap.size + 1, 2, none⟩ (.int .i64 l)).setCell ⟨w.heap.size + 1, 3, none⟩ (.int .i64 c)).setCell ⟨w.heap.size + 1, 4, none⟩ (.bool u)))) := ⟨(((((((((p1.other 1 (.int .i64 a) (by omega)).other 2 (.int .i64 l) (by omega)).other 3 (.int .i64 c) (by omega)).other 4 (.bool u) (by omega)).set 0 (.int .i64 d)).set 1 (.int .i64 a)).set 2 (.int .i64 l)).set 3 (.int .i64 c)).set 4 (.bool u)), (((((((((hB.setCell (p := ⟨w.heap.size + 1 + 1, 1, none⟩) (by show w.heap.size ≤ w.heap.size + 1 + 1; omega) (.int .i64 a)).setCell (p := ⟨w.heap.size + 1 + 1, 2, none⟩) (by show w.heap.size ≤ w.heap.size + 1 + 1; omega) (.int .i64 l)).setCell (p := ⟨w.heap.size + 1 + 1, 3, none⟩) (by show w.heap.size ≤ w.heap.size + 1 + 1; omega) (.int .i64 c)).setCell (p := ⟨w.heap.size + 1 + 1, 4, none⟩) (by show w.heap.size ≤ w.heap.size + 1 + 1; omega) (.bool u)).setCell (p := ⟨w.heap.size + 1, 0, none⟩) (by show w.heap.size ≤ w.heap.size + 1; omega) (.int .i64 d)).setCell (p := ⟨w.heap.size + 1, 1, none⟩) (by show w.heap.size ≤ w.heap.size + 1; omega) (.int .i64 a)).setCell (p := ⟨w.heap.size + 1, 2, none⟩) (by show w.heap.size ≤ w.heap.size + 1; omega) (.int .i64 l)).setCell (p := ⟨w.heap.size + 1, 3, none⟩) (by show w.heap.size ≤ w.heap.size + 1; omega) (.int .i64 c)).setCell (p := ⟨w.heap.size + 1, 4, none⟩) (by show w.heap.size ≤ w.heap.size + 1; omega) (.bool u))⟩
  clear p0 p1 p2 hB
  go_wp2_with fail
  obtain ⟨h1, h2⟩ := HE.out
  clear HE a0 b0 d0 f0 g0 a1 b1 d1 f1 g1 a2 b2 d2 f2 g2 a3 b3 d3 f3 g3 a4 b4 d4 f4 g4
  generalize (((((((((w1.setCell ⟨w.heap.size + 1 + 1, 1, none⟩ (.int .i64 a)).setCell ⟨w.heap.size + 1 + 1, 2, none⟩ (.int .i64 l)).setCell ⟨w.heap.size + 1 + 1, 3, none⟩ (.int .i64 c)).setCell ⟨w.heap.size + 1 + 1, 4, none⟩ (.bool u)).setCell ⟨w.heap.size + 1, 0, none⟩ (.int .i64 d)).setCell ⟨w.heap.size + 1, 1, none⟩ (.int .i64 a)).setCell ⟨w.heap.size + 1, 2, none⟩ (.int .i64 l)).setCell ⟨w.heap.size + 1, 3, none⟩ (.int .i64 c)).setCell ⟨w.heap.size + 1, 4, none⟩ (.bool u)) = Y at *
  have e0 : Y.cell? ⟨w.heap.size + 1, 0, none⟩ = some (.int .i64 d) := h1.cell 0
  have e1 : Y.cell? ⟨w.heap.size + 1, 1, none⟩ = some (.int .i64 a) := h1.cell 1
  have e2 : Y.cell? ⟨w.heap.size + 1, 2, none⟩ = some (.int .i64 l) := h1.cell 2
  have e3 : Y.cell? ⟨w.heap.size + 1, 3, none⟩ = some (.int .i64 c) := h1.cell 3
  have e4 : Y.cell? ⟨w.heap.size + 1, 4, none⟩ = some (.bool u) := h1.cell 4
  exact bodyPost_ret (v := .agg #[.int .i64 d, .int .i64 a, .int .i64 l, .int .i64 c, .bool u]) (by simp [results, Tryz.results174, go_sem, e0, e1, e2, e3, e4]) rfl ⟨rfl, h2⟩
end Go.Proofs.YtialedffpaoacaaGreatDoor
/- The laws' own routes, handed over. (Written by gen_rts.py.) -/
namespace Go.Proofs.YtialedffpaoacaaGreatDoor
open Go.RowKit Go.Sort

/-- Nine stores one behind the other into one block. -/
def nine (w : World) (g o : Nat) (x0 x1 x2 x3 x4 x5 x6 x7 x8 : Value) : World := (((((((((w.setCell ⟨g, o, none⟩ x0).setCell ⟨g, o + 1, none⟩ x1).setCell ⟨g, o + 2, none⟩ x2).setCell ⟨g, o + 3, none⟩ x3).setCell ⟨g, o + 4, none⟩ x4).setCell ⟨g, o + 5, none⟩ x5).setCell ⟨g, o + 6, none⟩ x6).setCell ⟨g, o + 7, none⟩ x7).setCell ⟨g, o + 8, none⟩ x8)
theorem nine_below {B : Nat} {w0 w : World} (h : Below B w0 w) (g o : Nat) (hg : B ≤ g) (x0 x1 x2 x3 x4 x5 x6 x7 x8 : Value) : Below B w0 (nine w g o x0 x1 x2 x3 x4 x5 x6 x7 x8) :=
  ((((((((h.setCell (p := ⟨g, o, none⟩) hg x0).setCell (p := ⟨g, o + 1, none⟩) hg x1).setCell (p := ⟨g, o + 2, none⟩) hg x2).setCell (p := ⟨g, o + 3, none⟩) hg x3).setCell (p := ⟨g, o + 4, none⟩) hg x4).setCell (p := ⟨g, o + 5, none⟩) hg x5).setCell (p := ⟨g, o + 6, none⟩) hg x6).setCell (p := ⟨g, o + 7, none⟩) hg x7).setCell (p := ⟨g, o + 8, none⟩) hg x8
theorem nine_row {w : World} {g : Nat} {t : TypeId} {l : List Value} (h : Row w g t l) (o : Nat) (x0 x1 x2 x3 x4 x5 x6 x7 x8 : Value) : Row (nine w g o x0 x1 x2 x3 x4 x5 x6 x7 x8) g t ((((((((((l.set o x0).set (o + 1) x1).set (o + 2) x2).set (o + 3) x3).set (o + 4) x4).set (o + 5) x5).set (o + 6) x6).set (o + 7) x7).set (o + 8) x8)) :=
  (((((((((h.set o x0).set (o + 1) x1).set (o + 2) x2).set (o + 3) x3).set (o + 4) x4).set (o + 5) x5).set (o + 6) x6).set (o + 7) x7).set (o + 8) x8)
theorem nine_other {w : World} {b g : Nat} {t : TypeId} {l : List Value} (h : Row w b t l) (hne : b ≠ g) (o : Nat) (x0 x1 x2 x3 x4 x5 x6 x7 x8 : Value) : Row (nine w g o x0 x1 x2 x3 x4 x5 x6 x7 x8) b t l :=
  (((((((((h.other o x0 hne).other (o + 1) x1 hne).other (o + 2) x2 hne).other (o + 3) x3 hne).other (o + 4) x4 hne).other (o + 5) x5 hne).other (o + 6) x6 hne).other (o + 7) x7 hne).other (o + 8) x8 hne)
def nine0 (w : World) (g : Nat) (x0 x1 x2 x3 x4 x5 x6 x7 x8 : Value) : World := (((((((((w.setCell ⟨g, 0, none⟩ x0).setCell ⟨g, 1, none⟩ x1).setCell ⟨g, 2, none⟩ x2).setCell ⟨g, 3, none⟩ x3).setCell ⟨g, 4, none⟩ x4).setCell ⟨g, 5, none⟩ x5).setCell ⟨g, 6, none⟩ x6).setCell ⟨g, 7, none⟩ x7).setCell ⟨g, 8, none⟩ x8)
theorem nine0_below {B : Nat} {w0 w : World} (h : Below B w0 w) (g : Nat) (hg : B ≤ g) (x0 x1 x2 x3 x4 x5 x6 x7 x8 : Value) : Below B w0 (nine0 w g x0 x1 x2 x3 x4 x5 x6 x7 x8) :=
  ((((((((h.setCell (p := ⟨g, 0, none⟩) hg x0).setCell (p := ⟨g, 1, none⟩) hg x1).setCell (p := ⟨g, 2, none⟩) hg x2).setCell (p := ⟨g, 3, none⟩) hg x3).setCell (p := ⟨g, 4, none⟩) hg x4).setCell (p := ⟨g, 5, none⟩) hg x5).setCell (p := ⟨g, 6, none⟩) hg x6).setCell (p := ⟨g, 7, none⟩) hg x7).setCell (p := ⟨g, 8, none⟩) hg x8
theorem nine0_row {w : World} {g : Nat} {t : TypeId} {y0 y1 y2 y3 y4 y5 y6 y7 y8 : Value} (h : Row w g t [y0, y1, y2, y3, y4, y5, y6, y7, y8]) (x0 x1 x2 x3 x4 x5 x6 x7 x8 : Value) : Row (nine0 w g x0 x1 x2 x3 x4 x5 x6 x7 x8) g t [x0, x1, x2, x3, x4, x5, x6, x7, x8] := (((((((((h.set 0 x0).set 1 x1).set 2 x2).set 3 x3).set 4 x4).set 5 x5).set 6 x6).set 7 x7).set 8 x8)
theorem nine0_other {w : World} {g : Nat} {t : TypeId} {l : List Value} (h : Row w g t l) (k : Nat) (hk : g ≠ k) (x0 x1 x2 x3 x4 x5 x6 x7 x8 : Value) : Row (nine0 w k x0 x1 x2 x3 x4 x5 x6 x7 x8) g t l := (((((((((h.other 0 x0 hk).other 1 x1 hk).other 2 x2 hk).other 3 x3 hk).other 4 x4 hk).other 5 x5 hk).other 6 x6 hk).other 7 x7 hk).other 8 x8 hk)
set_option maxRecDepth 100000 in
set_option maxHeartbeats 1000000 in
theorem toRoute_any (r : Rt) (w : World) : Calls Tryz.prog 194 #[rtV r] w fun e w' => e = .returned (rtV r) ∧ Below w.heap.size w w' := by
  obtain ⟨a, l, m, n, i, t, u, b, c⟩ := r
  unfold rtV rtA
  have HT : Hid (∀ w, Calls Tryz.prog 93 #[.agg #[.int .i64 a, .int .i64 l]] w fun e w' => e = .returned (.agg #[.int .i64 a, .int .i64 l]) ∧ Below w.heap.size w w') := toNet_any a l
  go_enter Tryz.func194, Tryz.ntmps194
  go_wp2_with fail
  refine (HT.out _).mono ?_
  rintro e w1 ⟨rfl, hb1⟩
  have q0 := ((Row.new w 244 [.int .i64 a, .int .i64 l, .int .i64 m, .int .i64 n, .int .i64 i, .int .i64 t, .int .i64 u, .int .i64 b, .bool c]).alloc (.cells #[.int .i64 0, .int .i64 0, .int .i64 0, .int .i64 0, .int .i64 0, .int .i64 0, .int .i64 0, .int .i64 0, .bool false] 144)).alloc (.cells #[.int .i64 0, .int .i64 0, .int .i64 0, .int .i64 0, .int .i64 0, .int .i64 0, .int .i64 0, .int .i64 0, .bool false] 144)
  have q1 := (Row.new (w.alloc (.cells #[.int .i64 a, .int .i64 l, .int .i64 m, .int .i64 n, .int .i64 i, .int .i64 t, .int .i64 u, .int .i64 b, .bool c] 244)) 144 [.int .i64 0, .int .i64 0, .int .i64 0, .int .i64 0, .int .i64 0, .int .i64 0, .int .i64 0, .int .i64 0, .bool false]).alloc (.cells #[.int .i64 0, .int .i64 0, .int .i64 0, .int .i64 0, .int .i64 0, .int .i64 0, .int .i64 0, .int .i64 0, .bool false] 144)
  have q2 := Row.new ((w.alloc (.cells #[.int .i64 a, .int .i64 l, .int .i64 m, .int .i64 n, .int .i64 i, .int .i64 t, .int .i64 u, .int .i64 b, .bool c] 244)).alloc (.cells #[.int .i64 0, .int .i64 0, .int .i64 0, .int .i64 0, .int .i64 0, .int .i64 0, .int .i64 0, .int .i64 0, .bool false] 144)) 144 [.int .i64 0, .int .i64 0, .int .i64 0, .int .i64 0, .int .i64 0, .int .i64 0, .int .i64 0, .int .i64 0, .bool false]
  have hB : Below w.heap.size w w1 := (((ent_new0 w _).alloc (by simp) _).alloc (by simp; omega) _).trans (hb1.mono (by simp; omega))
  have p0 := q0.below hb1 q0.lt
  have p1 := q1.below hb1 q1.lt
  have p2 := q2.below hb1 q2.lt
  clear q0 q1 q2 hb1
  have h0 : (w.alloc (.cells #[.int .i64 a, .int .i64 l, .int .i64 m, .int .i64 n, .int .i64 i, .int .i64 t, .int .i64 u, .int .i64 b, .bool c] 244)).heap.size = w.heap.size + 1 := by simp
  have h1 : ((w.alloc (.cells #[.int .i64 a, .int .i64 l, .int .i64 m, .int .i64 n, .int .i64 i, .int .i64 t, .int .i64 u, .int .i64 b, .bool c] 244)).alloc (.cells #[.int .i64 0, .int .i64 0, .int .i64 0, .int .i64 0, .int .i64 0, .int .i64 0, .int .i64 0, .int .i64 0, .bool false] 144)).heap.size = w.heap.size + 1 + 1 := by simp
  rw [h0] at p1
  rw [h1] at p2
  clear h0 h1
  have a2 : w1.cell? ⟨w.heap.size, 2, none⟩ = some (.int .i64 m) := p0.cell 2
  have a3 : w1.cell? ⟨w.heap.size, 3, none⟩ = some (.int .i64 n) := p0.cell 3
  have a4 : w1.cell? ⟨w.heap.size, 4, none⟩ = some (.int .i64 i) := p0.cell 4
  have a5 : w1.cell? ⟨w.heap.size, 5, none⟩ = some (.int .i64 t) := p0.cell 5
  have a6 : w1.cell? ⟨w.heap.size, 6, none⟩ = some (.int .i64 u) := p0.cell 6
  have a7 : w1.cell? ⟨w.heap.size, 7, none⟩ = some (.int .i64 b) := p0.cell 7
  have a8 : w1.cell? ⟨w.heap.size, 8, none⟩ = some (.bool c) := p0.cell 8
  have b0 : w1.cell? ⟨w.heap.size + 1, 0, none⟩ = some (.int .i64 0) := p1.cell 0
  have b1 : w1.cell? ⟨w.heap.size + 1, 1, none⟩ = some (.int .i64 0) := p1.cell 1
  have b2 : w1.cell? ⟨w.heap.size + 1, 2, none⟩ = some (.int .i64 0) := p1.cell 2
  have b3 : w1.cell? ⟨w.heap.size + 1, 3, none⟩ = some (.int .i64 0) := p1.cell 3
  have b4 : w1.cell? ⟨w.heap.size + 1, 4, none⟩ = some (.int .i64 0) := p1.cell 4
  have b5 : w1.cell? ⟨w.heap.size + 1, 5, none⟩ = some (.int .i64 0) := p1.cell 5
  have b6 : w1.cell? ⟨w.heap.size + 1, 6, none⟩ = some (.int .i64 0) := p1.cell 6
  have b7 : w1.cell? ⟨w.heap.size + 1, 7, none⟩ = some (.int .i64 0) := p1.cell 7
  have b8 : w1.cell? ⟨w.heap.size + 1, 8, none⟩ = some (.bool false) := p1.cell 8
  have d0 : w1.cell? ⟨w.heap.size + 1 + 1, 0, none⟩ = some (.int .i64 0) := p2.cell 0
  have d1 : w1.cell? ⟨w.heap.size + 1 + 1, 1, none⟩ = some (.int .i64 0) := p2.cell 1
  have d2 : w1.cell? ⟨w.heap.size + 1 + 1, 2, none⟩ = some (.int .i64 0) := p2.cell 2
  have d3 : w1.cell? ⟨w.heap.size + 1 + 1, 3, none⟩ = some (.int .i64 0) := p2.cell 3
  have d4 : w1.cell? ⟨w.heap.size + 1 + 1, 4, none⟩ = some (.int .i64 0) := p2.cell 4
  have d5 : w1.cell? ⟨w.heap.size + 1 + 1, 5, none⟩ = some (.int .i64 0) := p2.cell 5
  have d6 : w1.cell? ⟨w.heap.size + 1 + 1, 6, none⟩ = some (.int .i64 0) := p2.cell 6
  have d7 : w1.cell? ⟨w.heap.size + 1 + 1, 7, none⟩ = some (.int .i64 0) := p2.cell 7
  have d8 : w1.cell? ⟨w.heap.size + 1 + 1, 8, none⟩ = some (.bool false) := p2.cell 8
  have f0 := p1.frozen 0
  have f1 := p1.frozen 1
  have f2 := p1.frozen 2
  have f3 := p1.frozen 3
  have f4 := p1.frozen 4
  have f5 := p1.frozen 5
  have f6 := p1.frozen 6
  have f7 := p1.frozen 7
  have f8 := p1.frozen 8
  have g0 := p2.frozen 0
  have g1 := p2.frozen 1
  have g2 := p2.frozen 2
  have g3 := p2.frozen 3
  have g4 := p2.frozen 4
  have g5 := p2.frozen 5
  have g6 := p2.frozen 6
  have g7 := p2.frozen 7
  have g8 := p2.frozen 8
  have P1 : Hid (Row w1 (w.heap.size + 1) 144 [.int .i64 0, .int .i64 0, .int .i64 0, .int .i64 0, .int .i64 0, .int .i64 0, .int .i64 0, .int .i64 0, .bool false]) := p1
  clear p0 p1 p2
  have hBB := nine0_below (nine0_below hB (w.heap.size + 1 + 1) (by omega) (.int .i64 a) (.int .i64 l) (.int .i64 m) (.int .i64 n) (.int .i64 i) (.int .i64 t) (.int .i64 u) (.int .i64 b) (.bool c)) (w.heap.size + 1) (by omega) (.int .i64 a) (.int .i64 l) (.int .i64 m) (.int .i64 n) (.int .i64 i) (.int .i64 t) (.int .i64 u) (.int .i64 b) (.bool c)
  have hRR := nine0_row (nine0_other P1.out (w.heap.size + 1 + 1) (by omega) (.int .i64 a) (.int .i64 l) (.int .i64 m) (.int .i64 n) (.int .i64 i) (.int .i64 t) (.int .i64 u) (.int .i64 b) (.bool c)) (.int .i64 a) (.int .i64 l) (.int .i64 m) (.int .i64 n) (.int .i64 i) (.int .i64 t) (.int .i64 u) (.int .i64 b) (.bool c)
  unfold nine0 at hBB hRR
  have HH : Hid _ := And.intro hBB hRR
  clear hBB hRR P1
  go_wp2_with fail
  have HH2 := HH.out
  clear HH b0 b1 b2 b3 b4 b5 b6 b7 b8 d0 d1 d2 d3 d4 d5 d6 d7 d8 f0 f1 f2 f3 f4 f5 f6 f7 f8 g0 g1 g2 g3 g4 g5 g6 g7 g8 a2 a3 a4 a5 a6 a7 a8 hB HT
  generalize ((((((((((((((((((w1.setCell ⟨w.heap.size + 1 + 1, 0, none⟩ (.int .i64 a)).setCell ⟨w.heap.size + 1 + 1, 1, none⟩ (.int .i64 l)).setCell ⟨w.heap.size + 1 + 1, 2, none⟩ (.int .i64 m)).setCell ⟨w.heap.size + 1 + 1, 3, none⟩ (.int .i64 n)).setCell ⟨w.heap.size + 1 + 1, 4, none⟩ (.int .i64 i)).setCell ⟨w.heap.size + 1 + 1, 5, none⟩ (.int .i64 t)).setCell ⟨w.heap.size + 1 + 1, 6, none⟩ (.int .i64 u)).setCell ⟨w.heap.size + 1 + 1, 7, none⟩ (.int .i64 b)).setCell ⟨w.heap.size + 1 + 1, 8, none⟩ (.bool c)).setCell ⟨w.heap.size + 1, 0, none⟩ (.int .i64 a)).setCell ⟨w.heap.size + 1, 1, none⟩ (.int .i64 l)).setCell ⟨w.heap.size + 1, 2, none⟩ (.int .i64 m)).setCell ⟨w.heap.size + 1, 3, none⟩ (.int .i64 n)).setCell ⟨w.heap.size + 1, 4, none⟩ (.int .i64 i)).setCell ⟨w.heap.size + 1, 5, none⟩ (.int .i64 t)).setCell ⟨w.heap.size + 1, 6, none⟩ (.int .i64 u)).setCell ⟨w.heap.size + 1, 7, none⟩ (.int .i64 b)).setCell ⟨w.heap.size + 1, 8, none⟩ (.bool c)) = W at *
  obtain ⟨hBB, hRR⟩ := HH2
  have b0 : W.cell? ⟨w.heap.size + 1, 0, none⟩ = some (.int .i64 a) := hRR.cell 0
  have b1 : W.cell? ⟨w.heap.size + 1, 1, none⟩ = some (.int .i64 l) := hRR.cell 1
  have b2 : W.cell? ⟨w.heap.size + 1, 2, none⟩ = some (.int .i64 m) := hRR.cell 2
  have b3 : W.cell? ⟨w.heap.size + 1, 3, none⟩ = some (.int .i64 n) := hRR.cell 3
  have b4 : W.cell? ⟨w.heap.size + 1, 4, none⟩ = some (.int .i64 i) := hRR.cell 4
  have b5 : W.cell? ⟨w.heap.size + 1, 5, none⟩ = some (.int .i64 t) := hRR.cell 5
  have b6 : W.cell? ⟨w.heap.size + 1, 6, none⟩ = some (.int .i64 u) := hRR.cell 6
  have b7 : W.cell? ⟨w.heap.size + 1, 7, none⟩ = some (.int .i64 b) := hRR.cell 7
  have b8 : W.cell? ⟨w.heap.size + 1, 8, none⟩ = some (.bool c) := hRR.cell 8
  clear hRR
  refine bodyPost_ret (v := .agg #[.int .i64 a, .int .i64 l, .int .i64 m, .int .i64 n, .int .i64 i, .int .i64 t, .int .i64 u, .int .i64 b, .bool c]) (by simp [results, Tryz.results194, go_sem, b0, b1, b2, b3, b4, b5, b6, b7, b8]) rfl ⟨rfl, hBB⟩
end Go.Proofs.YtialedffpaoacaaGreatDoor
/- The order of nets, as the program's sort asks for it. -/
namespace Go.Proofs.YtialedffpaoacaaGreatDoor
open Go.RowKit Go.Sort

/-- What netOrder tells of two nets. -/
def cmpN (x y : Int × Int) : Int := if lessB x.1 x.2 y.1 y.2 = true then -1 else if lessB y.1 y.2 x.1 x.2 = true then 1 else 0
def pairV (x : Int × Int) : Value := .agg #[.int .i64 x.1, .int .i64 x.2]
set_option maxRecDepth 100000 in
theorem netOrder_any (a l b m : Int) (w : World) : Calls Tryz.prog 217 #[.agg #[.int .i64 a, .int .i64 l], .agg #[.int .i64 b, .int .i64 m]] w fun e w' => e = .returned (.int .i64 (cmpN (a, l) (b, m))) ∧ Below w.heap.size w w' := by
  have H1 : Hid (∀ w, Calls Tryz.prog 180 #[.agg #[.int .i64 a, .int .i64 l], .agg #[.int .i64 b, .int .i64 m]] w fun e w' => e = .returned (.bool (lessB a l b m)) ∧ Below w.heap.size w w') := implLess_any a l b m
  have H2 : Hid (∀ w, Calls Tryz.prog 180 #[.agg #[.int .i64 b, .int .i64 m], .agg #[.int .i64 a, .int .i64 l]] w fun e w' => e = .returned (.bool (lessB b m a l)) ∧ Below w.heap.size w w') := implLess_any b m a l
  have HC : Hid (cmpN (a, l) (b, m) = if lessB a l b m = true then -1 else if lessB b m a l = true then 1 else 0) := rfl
  generalize cmpN (a, l) (b, m) = R at *
  generalize lessB a l b m = X at *
  generalize lessB b m a l = Y at *
  go_enter Tryz.func217, Tryz.ntmps217
  go_wp2_with fail
  refine (H1.out _).mono ?_
  rintro e w1 ⟨rfl, hb1⟩
  obtain ⟨c0, c1, c2, c3, hs1, hB1⟩ := four_later hb1
  clear hb1 H1
  cases X
  · go_wp2_with fail
    refine (H2.out _).mono ?_
    rintro e w2 ⟨rfl, hb2⟩
    have hB2 := hB1.trans (hb2.mono hB1.size)
    clear c0 c1 c2 c3 hb2
    cases Y
    · have HR : Hid (R = 0) := HC.out
      clear HC
      go_wp2
      go_ret
      exact ⟨by rw [HR.out]; rfl, hB2⟩
    · have HR : Hid (R = 1) := HC.out
      clear HC
      go_wp2
      go_ret
      exact ⟨by rw [HR.out]; rfl, hB2⟩
  · have HR : Hid (R = -1) := HC.out
    clear HC
    go_wp2
    go_ret
    exact ⟨by rw [HR.out]; rfl, hB1⟩
end Go.Proofs.YtialedffpaoacaaGreatDoor
/- Nets in a row of memory, and their order, in plain lists. (Written by gen_ins.py.) -/
namespace Go.Proofs.YtialedffpaoacaaGreatDoor
open Go.RowKit Go.Sort

abbrev NP := Int × Int
def flatN (ds : List NP) : List Value := ds.flatMap fun x => [.int .i64 x.1, .int .i64 x.2]
theorem flatN_length (ds : List NP) : (flatN ds).length = 2 * ds.length := by
  induction ds with
  | nil => rfl
  | cons x ds ih => simp only [flatN, List.flatMap_cons, List.length_append, List.length_cons, List.length_nil] at ih ⊢; omega
theorem flatN_get (ds : List NP) (i : Nat) (hi : i < ds.length) : (flatN ds)[i * 2]? = some (.int .i64 ds[i].1) ∧ (flatN ds)[i * 2 + 1]? = some (.int .i64 ds[i].2) := by
  induction ds generalizing i with
  | nil => simp at hi
  | cons x ds ih =>
    match i with
    | 0 => exact ⟨rfl, rfl⟩
    | i + 1 =>
      have := ih i (by simpa using hi)
      have e : flatN (x :: ds) = .int .i64 x.1 :: .int .i64 x.2 :: flatN ds := rfl
      rw [e, show (i + 1) * 2 = i * 2 + 1 + 1 by omega]
      exact this
theorem flatN_set (ds : List NP) (i : Nat) (hi : i < ds.length) (y : NP) : ((flatN ds).set (i * 2) (.int .i64 y.1)).set (i * 2 + 1) (.int .i64 y.2) = flatN (ds.set i y) := by
  induction ds generalizing i with
  | nil => simp at hi
  | cons x ds ih =>
    have e : ∀ (z : NP) zs, flatN (z :: zs) = .int .i64 z.1 :: .int .i64 z.2 :: flatN zs := fun _ _ => rfl
    match i with
    | 0 => rfl
    | i + 1 =>
      rw [List.set_cons_succ, e, e, show (i + 1) * 2 = i * 2 + 1 + 1 by omega, show i * 2 + 1 + 1 + 1 = (i * 2 + 1) + 1 + 1 by omega]
      simp only [List.set_cons_succ]
      rw [ih i (by simpa using hi)]
/-- Block g begins with the nets ds. -/
def NetsAt (w : World) (g : Nat) (ds : List NP) : Prop := ∃ cur, Row w g 70 cur ∧ cur.take (2 * ds.length) = flatN ds
theorem NetsAt.lt {w : World} {g : Nat} {ds : List NP} (h : NetsAt w g ds) : g < w.heap.size := by
  obtain ⟨cur, h, _⟩ := h
  exact h.lt
theorem NetsAt.below {B : Nat} {w w' : World} {g : Nat} {ds : List NP} (h : NetsAt w g ds) (hb : Below B w w') (hg : g < B) : NetsAt w' g ds := by
  obtain ⟨cur, h, e⟩ := h
  exact ⟨cur, h.below hb hg, e⟩
theorem NetsAt.cell {w : World} {g : Nat} {ds : List NP} (h : NetsAt w g ds) (i : Nat) (hi : i < ds.length) : w.cell? ⟨g, i * 2, none⟩ = some (.int .i64 ds[i].1) ∧ w.cell? ⟨g, i * 2 + 1, none⟩ = some (.int .i64 ds[i].2) ∧ w.frozen? ⟨g, i * 2, none⟩ = false ∧ w.frozen? ⟨g, i * 2 + 1, none⟩ = false := by
  obtain ⟨cur, h, e⟩ := h
  have hk : ∀ k, k < 2 * ds.length → cur[k]? = (flatN ds)[k]? := fun k hk => by rw [← e, List.getElem?_take, if_pos hk]
  obtain ⟨h0, h1⟩ := flatN_get ds i hi
  exact ⟨by rw [h.cell, hk _ (by omega)]; exact h0, by rw [h.cell, hk _ (by omega)]; exact h1, h.frozen _, h.frozen _⟩
theorem NetsAt.set {w : World} {g : Nat} {ds : List NP} (h : NetsAt w g ds) (i : Nat) (hi : i < ds.length) (y : NP) : NetsAt ((w.setCell ⟨g, i * 2, none⟩ (.int .i64 y.1)).setCell ⟨g, i * 2 + 1, none⟩ (.int .i64 y.2)) g (ds.set i y) := by
  obtain ⟨cur, h, e⟩ := h
  refine ⟨_, (h.set (i * 2) _).set (i * 2 + 1) _, ?_⟩
  rw [List.length_set, List.take_set, List.take_set, e]
  exact flatN_set ds i hi y
/-- Two of them change places. -/
def swapN (ds : List NP) (j : Nat) : List NP := (ds.set j ds[j - 1]!).set (j - 1) ds[j]!
theorem swapN_length (ds : List NP) (j : Nat) : (swapN ds j).length = ds.length := by simp [swapN]
theorem swapN_get (ds : List NP) (j : Nat) (h0 : 0 < j) (hj : j < ds.length) (k : Nat) (hk : k < ds.length) : (swapN ds j)[k]! = if k = j then ds[j - 1]! else if k = j - 1 then ds[j]! else ds[k]! := by
  unfold swapN
  have hk' : k < ((ds.set j ds[j - 1]!).set (j - 1) ds[j]!).length := by simp; exact hk
  rw [getElem!_pos _ k hk', getElem!_pos ds k hk, List.getElem_set, List.getElem_set]
  by_cases h1 : k = j
  · subst h1
    rw [if_neg (by omega), if_pos rfl, if_pos rfl]
  · rw [if_neg h1]
    by_cases h2 : k = j - 1
    · subst h2; rw [if_pos rfl, if_pos rfl]
    · rw [if_neg (fun e => h2 e.symm), if_neg (fun e => h1 e.symm), if_neg h2]
theorem swapN_perm (ds : List NP) (j : Nat) (h0 : 0 < j) (hj : j < ds.length) : (swapN ds j).Perm ds := by
  unfold swapN
  rw [getElem!_pos ds (j - 1) (by omega), getElem!_pos ds j hj]
  exact List.set_set_perm hj (by omega)
/-- x comes ahead of y. -/
def ahead (x y : NP) : Bool := decide (cmpN x y < 0)
theorem ahead_iff (x y : NP) : ahead x y = lessB x.1 x.2 y.1 y.2 := by
  unfold ahead cmpN
  cases lessB x.1 x.2 y.1 y.2 <;> cases lessB y.1 y.2 x.1 x.2 <;> rfl
theorem ahead_asym {x y : NP} (h : ahead x y = true) : ahead y x = false := by
  rw [ahead_iff] at h ⊢
  unfold lessB at h ⊢
  simp only [Bool.and_eq_true, Bool.or_eq_true, decide_eq_true_eq, beq_iff_eq] at h
  obtain ⟨_, _, h⟩ := h
  have : (decide (y.1 < x.1) || (y.1 == x.1 && decide (y.2 < x.2))) = false := by
    rw [Bool.or_eq_false_iff, Bool.and_eq_false_iff]
    simp only [decide_eq_false_iff_not, beq_eq_false_iff_ne, ne_eq]
    omega
  rw [this]; simp
/-- In order up to k. -/
def Risen (ds : List NP) (k : Nat) : Prop := ∀ p, p + 1 < k → ahead ds[p + 1]! ds[p]! = false
/-- In order up to i, but for the one at j on its way. -/
def Going (ds : List NP) (i j : Nat) : Prop := j ≤ i ∧ (∀ p, p + 1 ≤ i → p + 1 ≠ j → ahead ds[p + 1]! ds[p]! = false) ∧ (0 < j → j < i → ahead ds[j + 1]! ds[j - 1]! = false)
theorem going_first {ds : List NP} {i : Nat} (h : Risen ds i) : Going ds i i := ⟨Nat.le_refl _, fun p hp hne => h p (by omega), fun _ h => absurd h (by omega)⟩
theorem going_end {ds : List NP} {i j : Nat} (h : Going ds i j) (he : j = 0 ∨ ahead ds[j]! ds[j - 1]! = false) : Risen ds (i + 1) := by
  intro p hp
  by_cases hpj : p + 1 = j
  · subst hpj
    rcases he with he | he
    · omega
    · simpa using he
  · exact h.2.1 p (by omega) hpj
theorem going_next {ds : List NP} {i j : Nat} (hi : i < ds.length) (h0 : 0 < j) (h : Going ds i j) (ha : ahead ds[j]! ds[j - 1]! = true) : Going (swapN ds j) i (j - 1) := by
  obtain ⟨hj, h1, h2⟩ := h
  have g := fun k (hk : k < ds.length) => swapN_get ds j h0 (by omega) k hk
  refine ⟨by omega, fun p hp hne => ?_, fun hj1 _ => ?_⟩
  · rw [g (p + 1) (by omega), g p (by omega)]
    by_cases e1 : p + 1 = j
    · rw [if_pos e1, if_neg (by omega), if_pos (by omega)]
      exact ahead_asym ha
    · rw [if_neg e1, if_neg hne]
      by_cases e2 : p = j
      · subst e2
        rw [if_pos rfl]
        exact h2 h0 (by omega)
      · rw [if_neg e2]
        by_cases e3 : p = j - 1
        · omega
        · rw [if_neg e3]
          exact h1 p hp e1
  · rw [show j - 1 + 1 = j by omega, g j (by omega), g (j - 1 - 1) (by omega), if_pos rfl, if_neg (by omega), if_neg (by omega)]
    have := h1 (j - 1 - 1) (by omega) (by omega)
    rwa [show j - 1 - 1 + 1 = j - 1 by omega] at this
end Go.Proofs.YtialedffpaoacaaGreatDoor
/- Owned lists of any kind: opened, shut, kept. (Written by gen_markiv.py.) -/
namespace Go.Proofs.YtialedffpaoacaaGreatDoor
open Go.RowKit Go.Sort

theorem owns_opened {w : World} {base sz : Nat} {ty : TypeId} {p : Option Addr} {cv n : Nat} {xs : List Value} (h : w.ownsRow base ty sz (.slice p n cv) n xs) : n = 0 ∨ ∃ g rest, p = some ⟨g, 0, none⟩ ∧ base ≤ g ∧ n ≤ cv ∧ cv ≤ maxLen ∧ Row w g ty (xs ++ rest) ∧ (xs ++ rest).length = cv * sz := by
  rcases h.2 with ⟨_, h2⟩ | ⟨g, cap, cur, h1, h2, h3, h4, h5, h6, h7⟩
  · exact .inl h2
  · simp only [Value.slice.injEq] at h1
    obtain ⟨rfl, -, rfl⟩ := h1
    refine .inr ⟨g, cur.toList.drop (n * sz), rfl, h2, h4, h5, ?_, ?_⟩
    · unfold Row
      rw [← h7, List.take_append_drop]
      simpa using h3
    · rw [← h7, List.take_append_drop]
      simpa using h6
theorem owns_shut {w : World} {base sz g n cv : Nat} {ty : TypeId} {xs rest : List Value} (hx : xs.length = n * sz) (hb : base ≤ g) (h4 : n ≤ cv) (h5 : cv ≤ maxLen) (hr : Row w g ty (xs ++ rest)) (hl : (xs ++ rest).length = cv * sz) : w.ownsRow base ty sz (.slice (some ⟨g, 0, none⟩) n cv) n xs := by
  refine ⟨hx, .inr ⟨g, cv, (xs ++ rest).toArray, rfl, hb, hr, h4, h5, by simpa using hl, ?_⟩⟩
  simp only [List.take_append_of_le_length (show n * sz ≤ xs.length by omega)]
  rw [List.take_of_length_le (by omega)]
theorem owns_kept {w w' : World} {base sz : Nat} {ty : TypeId} {p : Option Addr} {n cv : Nat} {xs : List Value} (h : w.ownsRow base ty sz (.slice p n cv) n xs) (hk : ∀ b t l, p = some ⟨b, 0, none⟩ → Row w b t l → Row w' b t l) : w'.ownsRow base ty sz (.slice p n cv) n xs := by
  refine ⟨h.1, ?_⟩
  rcases h.2 with h2 | ⟨g, cap, cur, h1, h2, h3, h4⟩
  · exact .inl h2
  · have h1' := h1
    simp only [Value.slice.injEq] at h1'
    refine .inr ⟨g, cap, cur, h1, h2, ?_, h4⟩
    have := hk g ty cur.toList h1'.1 (by unfold Row; simpa using h3)
    unfold Row at this
    simpa using this
theorem owns_ne {w : World} {base sz n cv g : Nat} {ty t : TypeId} {p : Option Addr} {xs l : List Value} (h : w.ownsRow base ty sz (.slice p n cv) n xs) (hr : Row w g t l) (ht : t ≠ ty) : p ≠ some ⟨g, 0, none⟩ := by
  rintro rfl
  rcases h.2 with ⟨h1, _⟩ | ⟨g', cap, cur, h1, h2, h3, _⟩
  · cases h1
  · simp only [Value.slice.injEq, Option.some.injEq, Addr.mk.injEq, and_true] at h1
    obtain ⟨rfl, _, _⟩ := h1
    rw [show w.heap[g]? = _ from hr] at h3
    simp only [Option.some.injEq, Obj.cells.injEq] at h3
    exact ht h3.2.1
theorem owns_below {w w' : World} {base sz n : Nat} {ty : TypeId} {v : Value} {xs : List Value} (h : w.ownsRow base ty sz v n xs) (hb : Below w.heap.size w w') : w'.ownsRow base ty sz v n xs := by
  obtain ⟨h1, h2⟩ := h
  refine ⟨h1, ?_⟩
  rcases h2 with h2 | ⟨g, cap, cur, e, hbg, hg, rest⟩
  · exact .inl h2
  · exact .inr ⟨g, cap, cur, e, hbg, (hb.block g (Array.getElem?_eq_some_iff.1 hg).1).trans hg, rest⟩
theorem owns_mono {w : World} {base base' sz n : Nat} {ty : TypeId} {v : Value} {xs : List Value} (h : w.ownsRow base ty sz v n xs) (hb : base' ≤ base) : w.ownsRow base' ty sz v n xs := by
  obtain ⟨h1, h2⟩ := h
  refine ⟨h1, ?_⟩
  rcases h2 with h2 | ⟨g, cap, cur, e, hbg, rest⟩
  · exact .inl h2
  · exact .inr ⟨g, cap, cur, e, by omega, rest⟩
theorem owns_lt {w : World} {base sz n cv : Nat} {ty : TypeId} {p : Option Addr} {xs : List Value} (h : w.ownsRow base ty sz (.slice p n cv) n xs) : ∀ b, p = some ⟨b, 0, none⟩ → b < w.heap.size := by
  rintro b rfl
  rcases h.2 with ⟨h1, _⟩ | ⟨g', cap, cur, h1, h2, h3, _⟩
  · cases h1
  · simp only [Value.slice.injEq, Option.some.injEq, Addr.mk.injEq, and_true] at h1
    obtain ⟨rfl, _, _⟩ := h1
    exact (Array.getElem?_eq_some_iff.1 h3).1
theorem owns_ge {w : World} {base sz n cv : Nat} {ty : TypeId} {p : Option Addr} {xs : List Value} (h : w.ownsRow base ty sz (.slice p n cv) n xs) : ∀ b, p = some ⟨b, 0, none⟩ → base ≤ b := by
  rintro b rfl
  rcases h.2 with ⟨h1, _⟩ | ⟨g', cap, cur, h1, h2, h3, _⟩
  · cases h1
  · simp only [Value.slice.injEq, Option.some.injEq, Addr.mk.injEq, and_true] at h1
    obtain ⟨rfl, _, _⟩ := h1
    exact h2
end Go.Proofs.YtialedffpaoacaaGreatDoor
/- What every walk of a law over an answer that owns its memory needs: what a call changed, by blocks. (By hand.) -/
namespace Go.Proofs.YtialedffpaoacaaGreatDoor
open Go.RowKit Go.Sort

/-- A call changed blocks from lo on, but none that lies at hi or behind. -/
def Chg (lo hi : Nat) (w w' : World) : Prop := Below lo w w' ∧ ∀ b t l, hi ≤ b → Row w b t l → Row w' b t l
theorem Chg.row {lo hi : Nat} {w w' : World} (h : Chg lo hi w w') {b : Nat} {t : TypeId} {l : List Value} (hr : Row w b t l) (hb : b < lo ∨ hi ≤ b) : Row w' b t l := by
  rcases hb with hb | hb
  · exact hr.below h.1 hb
  · exact h.2 b t l hb hr
theorem Chg.size {lo hi : Nat} {w w' : World} (h : Chg lo hi w w') : w.heap.size ≤ w'.heap.size := h.1.size
end Go.Proofs.YtialedffpaoacaaGreatDoor
/- A Sent: its value; lists of them in memory. (Written by gen_flat.py.) -/
namespace Go.Proofs.YtialedffpaoacaaGreatDoor
open Go.RowKit Go.Sort

/-- A Sent: what is to be sent: by which iface, which bytes. -/
structure Sn where
  fc : Int
  tx : ByteArray
deriving Inhabited
def snV (f : Sn) : Value := .agg #[.int .i64 f.fc, .string f.tx]
def snL (f : Sn) : List Value := [.int .i64 f.fc, .string f.tx]
def rowSn (rs : List Sn) : List Value := rs.flatMap snL
theorem snL_length (r : Sn) : (snL r).length = 2 := rfl
theorem rowSn_length (rs : List Sn) : (rowSn rs).length = 2 * rs.length := by
  induction rs with
  | nil => rfl
  | cons e es ih => simp only [rowSn, List.flatMap_cons, List.length_append, List.length_cons] at ih ⊢; rw [ih, snL_length]; omega
theorem rowSn_append (a b : List Sn) : rowSn (a ++ b) = rowSn a ++ rowSn b := by simp [rowSn]
theorem rowSn_cons (e : Sn) (es : List Sn) : rowSn (e :: es) = snL e ++ rowSn es := rfl
theorem rowSn_get (es : List Sn) (i k : Nat) (hi : i < es.length) (hk : k < 2) : (rowSn es)[i * 2 + k]? = (snL es[i])[k]? := by
  induction es generalizing i with
  | nil => simp at hi
  | cons e es ih =>
    rw [rowSn_cons]
    match i with
    | 0 => rw [Nat.zero_mul, Nat.zero_add, List.getElem?_append_left (by rw [snL_length]; omega)]; rfl
    | i + 1 =>
      rw [List.getElem?_append_right (by rw [snL_length]; omega), snL_length, show (i + 1) * 2 + k - 2 = i * 2 + k by omega, ih i (by simpa using hi)]
      rfl
theorem rowSn_one (es : List Sn) : ∀ u ∈ rowSn es, u.oneCell' = true := by
  intro u hu
  simp only [rowSn, List.mem_flatMap, snL, List.mem_cons, List.not_mem_nil, or_false] at hu
  obtain ⟨e, _, h⟩ := hu
  rcases h with h | h <;> (rw [h]; rfl)
/-- The slice (p, rs.length) holds them. -/
def SnsIn (w : World) (p : Option Addr) (rs : List Sn) : Prop := rs = [] ∨ ∃ g, p = some ⟨g, 0, none⟩ ∧ g < w.heap.size ∧ ∀ j u, (rowSn rs)[j]? = some u → w.cell? ⟨g, j, none⟩ = some u
theorem SnsIn.below {w w' : World} {p : Option Addr} {rs : List Sn} (h : SnsIn w p rs) (hb : Below w.heap.size w w') : SnsIn w' p rs := by
  rcases h with h | ⟨g, hp, hg, hc⟩
  · exact .inl h
  · refine .inr ⟨g, hp, by have := hb.size; omega, fun j u hj => ?_⟩
    rw [hb.cell (p := ⟨g, j, none⟩) hg]
    exact hc j u hj
theorem SnsIn.alloc {w : World} {p : Option Addr} {rs : List Sn} (h : SnsIn w p rs) (o : Obj) : SnsIn (w.alloc o) p rs := h.below (ent_new0 w o)
theorem SnsIn.at {w : World} {p : Option Addr} {rs : List Sn} (h : SnsIn w p rs) (i : Nat) (hi : i < rs.length) : ∃ g fc tx, p = some ⟨g, 0, none⟩ ∧ g < w.heap.size ∧ rs[i] = ⟨fc, tx⟩ ∧ w.cell? ⟨g, i * 2, none⟩ = some (.int .i64 fc) ∧ w.cell? ⟨g, i * 2 + 1, none⟩ = some (.string tx) := by
  rcases h with rfl | ⟨g, hp, hg, hc⟩
  · simp at hi
  · exact ⟨g, rs[i].fc, rs[i].tx, hp, hg, rfl, hc _ _ (rowSn_get rs i 0 hi (by omega)), hc _ _ (rowSn_get rs i 1 hi (by omega))⟩
theorem snsIn_row {w : World} {g : Nat} {t : TypeId} {rs : List Sn} (h : Row w g t (rowSn rs)) : SnsIn w (some ⟨g, 0, none⟩) rs := .inr ⟨g, rfl, h.lt, fun j _ hj => (h.cell j).trans hj⟩
theorem snsIn_rest {w : World} {g : Nat} {t : TypeId} {rs : List Sn} {rest : List Value} (h : Row w g t (rowSn rs ++ rest)) : SnsIn w (some ⟨g, 0, none⟩) rs := .inr ⟨g, rfl, h.lt, fun j u hj => by rw [h.cell, List.getElem?_append_left (List.getElem?_eq_some_iff.1 hj).1]; exact hj⟩
end Go.Proofs.YtialedffpaoacaaGreatDoor
/- A Seen: its value; lists of them in memory. (Written by gen_flat.py.) -/
namespace Go.Proofs.YtialedffpaoacaaGreatDoor
open Go.RowKit Go.Sort

/-- A Seen: from whom, and its seq. -/
structure Se where
  sf : Int
  sq : Int
deriving Inhabited
def seV (f : Se) : Value := .agg #[.int .i64 f.sf, .int .i64 f.sq]
def seL (f : Se) : List Value := [.int .i64 f.sf, .int .i64 f.sq]
def rowSe (rs : List Se) : List Value := rs.flatMap seL
theorem seL_length (r : Se) : (seL r).length = 2 := rfl
theorem rowSe_length (rs : List Se) : (rowSe rs).length = 2 * rs.length := by
  induction rs with
  | nil => rfl
  | cons e es ih => simp only [rowSe, List.flatMap_cons, List.length_append, List.length_cons] at ih ⊢; rw [ih, seL_length]; omega
theorem rowSe_append (a b : List Se) : rowSe (a ++ b) = rowSe a ++ rowSe b := by simp [rowSe]
theorem rowSe_cons (e : Se) (es : List Se) : rowSe (e :: es) = seL e ++ rowSe es := rfl
theorem rowSe_get (es : List Se) (i k : Nat) (hi : i < es.length) (hk : k < 2) : (rowSe es)[i * 2 + k]? = (seL es[i])[k]? := by
  induction es generalizing i with
  | nil => simp at hi
  | cons e es ih =>
    rw [rowSe_cons]
    match i with
    | 0 => rw [Nat.zero_mul, Nat.zero_add, List.getElem?_append_left (by rw [seL_length]; omega)]; rfl
    | i + 1 =>
      rw [List.getElem?_append_right (by rw [seL_length]; omega), seL_length, show (i + 1) * 2 + k - 2 = i * 2 + k by omega, ih i (by simpa using hi)]
      rfl
theorem rowSe_one (es : List Se) : ∀ u ∈ rowSe es, u.oneCell' = true := by
  intro u hu
  simp only [rowSe, List.mem_flatMap, seL, List.mem_cons, List.not_mem_nil, or_false] at hu
  obtain ⟨e, _, h⟩ := hu
  rcases h with h | h <;> (rw [h]; rfl)
/-- The slice (p, rs.length) holds them. -/
def SesIn (w : World) (p : Option Addr) (rs : List Se) : Prop := rs = [] ∨ ∃ g, p = some ⟨g, 0, none⟩ ∧ g < w.heap.size ∧ ∀ j u, (rowSe rs)[j]? = some u → w.cell? ⟨g, j, none⟩ = some u
theorem SesIn.below {w w' : World} {p : Option Addr} {rs : List Se} (h : SesIn w p rs) (hb : Below w.heap.size w w') : SesIn w' p rs := by
  rcases h with h | ⟨g, hp, hg, hc⟩
  · exact .inl h
  · refine .inr ⟨g, hp, by have := hb.size; omega, fun j u hj => ?_⟩
    rw [hb.cell (p := ⟨g, j, none⟩) hg]
    exact hc j u hj
theorem SesIn.alloc {w : World} {p : Option Addr} {rs : List Se} (h : SesIn w p rs) (o : Obj) : SesIn (w.alloc o) p rs := h.below (ent_new0 w o)
theorem SesIn.at {w : World} {p : Option Addr} {rs : List Se} (h : SesIn w p rs) (i : Nat) (hi : i < rs.length) : ∃ g sf sq, p = some ⟨g, 0, none⟩ ∧ g < w.heap.size ∧ rs[i] = ⟨sf, sq⟩ ∧ w.cell? ⟨g, i * 2, none⟩ = some (.int .i64 sf) ∧ w.cell? ⟨g, i * 2 + 1, none⟩ = some (.int .i64 sq) := by
  rcases h with rfl | ⟨g, hp, hg, hc⟩
  · simp at hi
  · exact ⟨g, rs[i].sf, rs[i].sq, hp, hg, rfl, hc _ _ (rowSe_get rs i 0 hi (by omega)), hc _ _ (rowSe_get rs i 1 hi (by omega))⟩
theorem sesIn_row {w : World} {g : Nat} {t : TypeId} {rs : List Se} (h : Row w g t (rowSe rs)) : SesIn w (some ⟨g, 0, none⟩) rs := .inr ⟨g, rfl, h.lt, fun j _ hj => (h.cell j).trans hj⟩
theorem sesIn_rest {w : World} {g : Nat} {t : TypeId} {rs : List Se} {rest : List Value} (h : Row w g t (rowSe rs ++ rest)) : SesIn w (some ⟨g, 0, none⟩) rs := .inr ⟨g, rfl, h.lt, fun j u hj => by rw [h.cell, List.getElem?_append_left (List.getElem?_eq_some_iff.1 hj).1]; exact hj⟩
end Go.Proofs.YtialedffpaoacaaGreatDoor
/- The laws' own look: Sents and lists of them are as themselves. (Written by gen_flat.py.) -/
namespace Go.Proofs.YtialedffpaoacaaGreatDoor
open Go.RowKit Go.Sort

set_option maxRecDepth 100000 in
theorem eqSent_same (e : Sn) (w : World) : Calls Tryz.prog 157 #[snV e, snV e] w fun r w' => r = .returned (.bool true) ∧ Below w.heap.size w w' := by
  obtain ⟨fc, tx⟩ := e
  unfold snV
  have efc : (fc != fc) = false := by simp
  go_enter Tryz.func157, Tryz.ntmps157
  go_wp2
  go_ret
  exact ⟨rfl, ((Below.refl _ _).alloc (Nat.le_refl _) _).alloc (by simp) _⟩
set_option maxHeartbeats 1000000 in
set_option maxRecDepth 100000 in
theorem eqSentS_any (p q : Option Addr) (c0 d0 : Nat) (es : List Sn) (w : World) (hp : SnsIn w p es) (hq : SnsIn w q es) (hn : es.length ≤ 100000000) : Calls Tryz.prog 108 #[.slice p es.length c0, .slice q es.length d0] w fun r w' => r = .returned (.bool true) ∧ Below w.heap.size w w' := by
  have HE : Hid (∀ e w, Calls Tryz.prog 157 #[snV e, snV e] w fun r w' => r = .returned (.bool true) ∧ Below w.heap.size w w') := eqSent_same
  have HX : Hid (SnsIn w p es ∧ SnsIn w q es) := ⟨hp, hq⟩
  have h0 : ((es.length : Int) != (es.length : Int)) = false := by simp
  clear hp hq
  go_enter Tryz.func108, Tryz.ntmps108
  go_wp2_with fail
  go_loopw [5] (fun i wr => ∃ k : Nat, k ≤ es.length ∧ i = .int .i64 k ∧ Below w.heap.size w wr) (fun i _ => es.length - (intOf i).toNat)
  case atStart => exact ⟨0, Nat.zero_le _, rfl, Below.refl _ _⟩
  case round =>
    obtain ⟨k, hk, rfl, hb⟩ := hrel
    by_cases hlt : k < es.length
    · obtain ⟨g, fc, tx, rfl, hg, hek, x0, x1⟩ := (HX.out.1.below hb).at k hlt
      obtain ⟨g', fc', tx', rfl, hg', hek', y0, y1⟩ := (HX.out.2.below hb).at k hlt
      rw [hek] at hek'
      simp only [Sn.mk.injEq] at hek'
      obtain ⟨rfl, rfl⟩ := hek'
      have HEk : Hid (∀ w, Calls Tryz.prog 157 #[.agg #[.int .i64 fc, .string tx], .agg #[.int .i64 fc, .string tx]] w fun r w' => r = .returned (.bool true) ∧ Below w.heap.size w w') := HE.out ⟨fc, tx⟩
      clear HE hek HX
      replace x0 := cell_regrown x0
      replace y0 := cell_regrown y0
      replace x1 := cell_regrown x1
      replace y1 := cell_regrown y1
      go_wp2_with fail
      refine wp_region_quiet_below (by kernel_rfl) (by kernel_rfl) ?_
      repeat (go_big_quiet_step ((go_at_call 157; exact Calls.regrown_of (HEk.out _))))
      refine wpQuiet_nil ?_
      intro w1 hw'
      obtain ⟨⟨dq, osq⟩, hw''⟩ := hw'
      have hbq := below_regrown wr dq osq
      rw [← hw''] at hbq
      clear hw'' osq dq x0 x1 y0 y1 HEk
      have hb2 := hb.trans (hbq.mono hb.size)
      clear hbq
      go_wp2
      go_roundw
      case rel => exact ⟨k + 1, hlt, by go_num, hb2⟩
      case measure => simp [intOf]; omega
    · obtain rfl : k = es.length := by omega
      clear hlt hk
      go_wp2
      go_ret
      exact ⟨rfl, hb⟩
end Go.Proofs.YtialedffpaoacaaGreatDoor
/- The laws' own look: Seens and lists of them are as themselves. (Written by gen_flat.py.) -/
namespace Go.Proofs.YtialedffpaoacaaGreatDoor
open Go.RowKit Go.Sort

set_option maxRecDepth 100000 in
theorem eqSeen_same (e : Se) (w : World) : Calls Tryz.prog 158 #[seV e, seV e] w fun r w' => r = .returned (.bool true) ∧ Below w.heap.size w w' := by
  obtain ⟨sf, sq⟩ := e
  unfold seV
  have esf : (sf != sf) = false := by simp
  have esq : (sq != sq) = false := by simp
  go_enter Tryz.func158, Tryz.ntmps158
  go_wp2
  go_ret
  exact ⟨rfl, ((Below.refl _ _).alloc (Nat.le_refl _) _).alloc (by simp) _⟩
set_option maxHeartbeats 1000000 in
set_option maxRecDepth 100000 in
theorem eqSeenS_any (p q : Option Addr) (c0 d0 : Nat) (es : List Se) (w : World) (hp : SesIn w p es) (hq : SesIn w q es) (hn : es.length ≤ 100000000) : Calls Tryz.prog 109 #[.slice p es.length c0, .slice q es.length d0] w fun r w' => r = .returned (.bool true) ∧ Below w.heap.size w w' := by
  have HE : Hid (∀ e w, Calls Tryz.prog 158 #[seV e, seV e] w fun r w' => r = .returned (.bool true) ∧ Below w.heap.size w w') := eqSeen_same
  have HX : Hid (SesIn w p es ∧ SesIn w q es) := ⟨hp, hq⟩
  have h0 : ((es.length : Int) != (es.length : Int)) = false := by simp
  clear hp hq
  go_enter Tryz.func109, Tryz.ntmps109
  go_wp2_with fail
  go_loopw [5] (fun i wr => ∃ k : Nat, k ≤ es.length ∧ i = .int .i64 k ∧ Below w.heap.size w wr) (fun i _ => es.length - (intOf i).toNat)
  case atStart => exact ⟨0, Nat.zero_le _, rfl, Below.refl _ _⟩
  case round =>
    obtain ⟨k, hk, rfl, hb⟩ := hrel
    by_cases hlt : k < es.length
    · obtain ⟨g, sf, sq, rfl, hg, hek, x0, x1⟩ := (HX.out.1.below hb).at k hlt
      obtain ⟨g', sf', sq', rfl, hg', hek', y0, y1⟩ := (HX.out.2.below hb).at k hlt
      rw [hek] at hek'
      simp only [Se.mk.injEq] at hek'
      obtain ⟨rfl, rfl⟩ := hek'
      have HEk : Hid (∀ w, Calls Tryz.prog 158 #[.agg #[.int .i64 sf, .int .i64 sq], .agg #[.int .i64 sf, .int .i64 sq]] w fun r w' => r = .returned (.bool true) ∧ Below w.heap.size w w') := HE.out ⟨sf, sq⟩
      clear HE hek HX
      replace x0 := cell_regrown x0
      replace y0 := cell_regrown y0
      replace x1 := cell_regrown x1
      replace y1 := cell_regrown y1
      go_wp2_with fail
      refine wp_region_quiet_below (by kernel_rfl) (by kernel_rfl) ?_
      repeat (go_big_quiet_step ((go_at_call 158; exact Calls.regrown_of (HEk.out _))))
      refine wpQuiet_nil ?_
      intro w1 hw'
      obtain ⟨⟨dq, osq⟩, hw''⟩ := hw'
      have hbq := below_regrown wr dq osq
      rw [← hw''] at hbq
      clear hw'' osq dq x0 x1 y0 y1 HEk
      have hb2 := hb.trans (hbq.mono hb.size)
      clear hbq
      go_wp2
      go_roundw
      case rel => exact ⟨k + 1, hlt, by go_num, hb2⟩
      case measure => simp [intOf]; omega
    · obtain rfl : k = es.length := by omega
      clear hlt hk
      go_wp2
      go_ret
      exact ⟨rfl, hb⟩
end Go.Proofs.YtialedffpaoacaaGreatDoor
/- A Bind: its value; lists of them in memory. (Written by gen_flat.py.) -/
namespace Go.Proofs.YtialedffpaoacaaGreatDoor
open Go.RowKit Go.Sort

/-- A Bind: port, vlan, tenant, iface. -/
structure Bd where
  po : Int
  vl : Int
  tn : Int
  ic : Int
deriving Inhabited
def bdV (f : Bd) : Value := .agg #[.int .i64 f.po, .int .i64 f.vl, .int .i64 f.tn, .int .i64 f.ic]
def bdL (f : Bd) : List Value := [.int .i64 f.po, .int .i64 f.vl, .int .i64 f.tn, .int .i64 f.ic]
def rowBd (rs : List Bd) : List Value := rs.flatMap bdL
theorem bdL_length (r : Bd) : (bdL r).length = 4 := rfl
theorem rowBd_length (rs : List Bd) : (rowBd rs).length = 4 * rs.length := by
  induction rs with
  | nil => rfl
  | cons e es ih => simp only [rowBd, List.flatMap_cons, List.length_append, List.length_cons] at ih ⊢; rw [ih, bdL_length]; omega
theorem rowBd_append (a b : List Bd) : rowBd (a ++ b) = rowBd a ++ rowBd b := by simp [rowBd]
theorem rowBd_cons (e : Bd) (es : List Bd) : rowBd (e :: es) = bdL e ++ rowBd es := rfl
theorem rowBd_get (es : List Bd) (i k : Nat) (hi : i < es.length) (hk : k < 4) : (rowBd es)[i * 4 + k]? = (bdL es[i])[k]? := by
  induction es generalizing i with
  | nil => simp at hi
  | cons e es ih =>
    rw [rowBd_cons]
    match i with
    | 0 => rw [Nat.zero_mul, Nat.zero_add, List.getElem?_append_left (by rw [bdL_length]; omega)]; rfl
    | i + 1 =>
      rw [List.getElem?_append_right (by rw [bdL_length]; omega), bdL_length, show (i + 1) * 4 + k - 4 = i * 4 + k by omega, ih i (by simpa using hi)]
      rfl
theorem rowBd_one (es : List Bd) : ∀ u ∈ rowBd es, u.oneCell' = true := by
  intro u hu
  simp only [rowBd, List.mem_flatMap, bdL, List.mem_cons, List.not_mem_nil, or_false] at hu
  obtain ⟨e, _, h⟩ := hu
  rcases h with h | h | h | h <;> (rw [h]; rfl)
/-- The slice (p, rs.length) holds them. -/
def BdsIn (w : World) (p : Option Addr) (rs : List Bd) : Prop := rs = [] ∨ ∃ g, p = some ⟨g, 0, none⟩ ∧ g < w.heap.size ∧ ∀ j u, (rowBd rs)[j]? = some u → w.cell? ⟨g, j, none⟩ = some u
theorem BdsIn.below {w w' : World} {p : Option Addr} {rs : List Bd} (h : BdsIn w p rs) (hb : Below w.heap.size w w') : BdsIn w' p rs := by
  rcases h with h | ⟨g, hp, hg, hc⟩
  · exact .inl h
  · refine .inr ⟨g, hp, by have := hb.size; omega, fun j u hj => ?_⟩
    rw [hb.cell (p := ⟨g, j, none⟩) hg]
    exact hc j u hj
theorem BdsIn.alloc {w : World} {p : Option Addr} {rs : List Bd} (h : BdsIn w p rs) (o : Obj) : BdsIn (w.alloc o) p rs := h.below (ent_new0 w o)
theorem BdsIn.at {w : World} {p : Option Addr} {rs : List Bd} (h : BdsIn w p rs) (i : Nat) (hi : i < rs.length) : ∃ g po vl tn ic, p = some ⟨g, 0, none⟩ ∧ g < w.heap.size ∧ rs[i] = ⟨po, vl, tn, ic⟩ ∧ w.cell? ⟨g, i * 4, none⟩ = some (.int .i64 po) ∧ w.cell? ⟨g, i * 4 + 1, none⟩ = some (.int .i64 vl) ∧ w.cell? ⟨g, i * 4 + 2, none⟩ = some (.int .i64 tn) ∧ w.cell? ⟨g, i * 4 + 3, none⟩ = some (.int .i64 ic) := by
  rcases h with rfl | ⟨g, hp, hg, hc⟩
  · simp at hi
  · exact ⟨g, rs[i].po, rs[i].vl, rs[i].tn, rs[i].ic, hp, hg, rfl, hc _ _ (rowBd_get rs i 0 hi (by omega)), hc _ _ (rowBd_get rs i 1 hi (by omega)), hc _ _ (rowBd_get rs i 2 hi (by omega)), hc _ _ (rowBd_get rs i 3 hi (by omega))⟩
theorem bdsIn_row {w : World} {g : Nat} {t : TypeId} {rs : List Bd} (h : Row w g t (rowBd rs)) : BdsIn w (some ⟨g, 0, none⟩) rs := .inr ⟨g, rfl, h.lt, fun j _ hj => (h.cell j).trans hj⟩
theorem bdsIn_rest {w : World} {g : Nat} {t : TypeId} {rs : List Bd} {rest : List Value} (h : Row w g t (rowBd rs ++ rest)) : BdsIn w (some ⟨g, 0, none⟩) rs := .inr ⟨g, rfl, h.lt, fun j u hj => by rw [h.cell, List.getElem?_append_left (List.getElem?_eq_some_iff.1 hj).1]; exact hj⟩
end Go.Proofs.YtialedffpaoacaaGreatDoor
/- A Leak: its value; right, by the program and by the model. (Written by gen_lk.py.) -/
namespace Go.Proofs.YtialedffpaoacaaGreatDoor
open Go.RowKit Go.Sort

/-- A Leak: from, to, the net within (address and length), what it adds, its tag. -/
structure Lk where
  fr : Int
  tt : Int
  a : Int
  l : Int
  ad : Int
  tg : Int
deriving Inhabited
def lkA (f : Lk) : Array Value := #[.int .i64 f.fr, .int .i64 f.tt, .int .i64 f.a, .int .i64 f.l, .int .i64 f.ad, .int .i64 f.tg]
def lkV (f : Lk) : Value := .agg (lkA f)
def inPt (n : Int) : Bool := decide (0 ≤ n ∧ n ≤ 2)
def inAd (n : Int) : Bool := decide (1 ≤ n ∧ n ≤ 15)
def inLt (n : Int) : Bool := decide (1000 ≤ n ∧ n ≤ 65535)
def lkB (f : Lk) : Bool := inPt f.fr && (inPt f.tt && (decide (f.fr ≠ f.tt) && (rightB f.a f.l && (inAd f.ad && inLt f.tg))))
theorem box6 {w w1 : World} {x0 x1 x2 x3 x4 x5 : Value} {t : TypeId} (h : Below (w.alloc (.cells #[x0, x1, x2, x3, x4, x5] t)).heap.size (w.alloc (.cells #[x0, x1, x2, x3, x4, x5] t)) w1) :
    w1.cell? ⟨w.heap.size, 0, none⟩ = some x0 ∧ w1.cell? ⟨w.heap.size, 1, none⟩ = some x1 ∧ w1.cell? ⟨w.heap.size, 2, none⟩ = some x2 ∧ w1.cell? ⟨w.heap.size, 3, none⟩ = some x3 ∧ w1.cell? ⟨w.heap.size, 4, none⟩ = some x4 ∧ w1.cell? ⟨w.heap.size, 5, none⟩ = some x5 ∧ Below w.heap.size w w1 := by
  have q := Row.new w t [x0, x1, x2, x3, x4, x5]
  have q := q.below h q.lt
  exact ⟨q.cell 0, q.cell 1, q.cell 2, q.cell 3, q.cell 4, q.cell 5, (ent_new0 w _).trans (h.mono (by simp))⟩
set_option maxRecDepth 100000 in
theorem isParty_any (n : Int) (w : World) : Calls Tryz.prog 138 #[.int .i64 n] w fun e w' => e = .returned (.bool (inPt n)) ∧ w = w' := by
  by_cases h1 : 0 ≤ n
  · by_cases h2 : n < 3
    · go_enter Tryz.func138, Tryz.ntmps138
      go_wp2
      go_ret
      exact ⟨ret_bool (by simp [inPt]; omega), rfl⟩
    · go_enter Tryz.func138, Tryz.ntmps138
      go_wp2
      go_ret
      exact ⟨ret_bool (by simp [inPt]; omega), rfl⟩
  · go_enter Tryz.func138, Tryz.ntmps138
    go_wp2
    go_ret
    exact ⟨ret_bool (by simp [inPt]; omega), rfl⟩
set_option maxRecDepth 100000 in
theorem byRule_any (n : Int) (w : World) : Calls Tryz.prog 141 #[.int .i64 n] w fun e w' => e = .returned (.bool (decide (1000 ≤ n))) ∧ w = w' := by
  by_cases h1 : n = 1000
  · subst h1
    go_enter Tryz.func141, Tryz.ntmps141
    go_wp2
    go_ret
    exact ⟨rfl, rfl⟩
  · have d0 : (n == 1000) = false := by simp [h1]
    by_cases h2 : 1000 < n
    · have d1 : decide (1000 < n) = true := by simp [h2]
      go_enter Tryz.func141, Tryz.ntmps141
      go_wp2
      go_ret
      exact ⟨ret_bool (by simp; omega), rfl⟩
    · have d1 : decide (1000 < n) = false := by simp; omega
      go_enter Tryz.func141, Tryz.ntmps141
      go_wp2
      go_ret
      exact ⟨ret_bool (by simp; omega), rfl⟩
set_option maxRecDepth 100000 in
theorem implLeak_any (f : Lk) (w : World) : Calls Tryz.prog 98 #[lkV f] w fun e w' => e = .returned (.bool (lkB f)) ∧ Below w.heap.size w w' := by
  have HP : Hid (∀ n w, Calls Tryz.prog 138 #[.int .i64 n] w fun e w' => e = .returned (.bool (inPt n)) ∧ w = w') := isParty_any
  have HR : Hid (∀ w, Calls Tryz.prog 139 #[.agg #[.int .i64 f.a, .int .i64 f.l]] w fun e w' => e = .returned (.bool (rightB f.a f.l)) ∧ Below w.heap.size w w') := implRight_any f.a f.l
  have HW : Hid (∀ w, Calls Tryz.prog 140 #[.int .i64 f.tg] w fun e w' => e = .returned (.bool (inTag f.tg)) ∧ w = w') := isWordE_any f.tg
  have HG : Hid (∀ w, Calls Tryz.prog 141 #[.int .i64 f.tg] w fun e w' => e = .returned (.bool (decide (1000 ≤ f.tg))) ∧ w = w') := byRule_any f.tg
  have HL : Hid (inLt f.tg = (inTag f.tg && decide (1000 ≤ f.tg))) := by show _ = _; simp only [inLt, inTag, ← Bool.decide_and]; congr 1; apply propext; omega
  obtain ⟨fr, tt, a, l, ad, tg⟩ := f
  unfold lkV lkA lkB
  simp only at HR HW HG HL ⊢
  rw [HL.out]
  clear HL
  have q0 := Row.new w 113 [.int .i64 fr, .int .i64 tt, .int .i64 a, .int .i64 l, .int .i64 ad, .int .i64 tg]
  have HQ : Hid _ := And.intro q0 (ent_new0 w (.cells #[.int .i64 fr, .int .i64 tt, .int .i64 a, .int .i64 l, .int .i64 ad, .int .i64 tg] 113))
  clear q0
  generalize rightB a l = R at *
  generalize inTag tg = T at *
  generalize decide (1000 ≤ tg) = G at *
  go_enter Tryz.func98, Tryz.ntmps98
  go_wp2_with fail
  refine (HP.out _ _).mono ?_
  rintro e w1 ⟨rfl, rfl⟩
  cases h1 : inPt fr
  · go_wp2
    go_ret
    exact ⟨ret_bool (by simp [h1]), HQ.out.2⟩
  · go_wp2_with fail
    refine (HP.out _ _).mono ?_
    rintro e w1 ⟨rfl, rfl⟩
    cases h2 : inPt tt
    · go_wp2
      go_ret
      exact ⟨ret_bool (by simp [h1, h2]), HQ.out.2⟩
    · by_cases h3 : fr = tt
      · subst h3
        have d : (fr == fr) = true := by simp
        go_wp2
        go_ret
        exact ⟨ret_bool (by simp), HQ.out.2⟩
      · have d : (fr == tt) = false := by simp [h3]
        have d3 : decide (fr ≠ tt) = true := by simp [h3]
        go_wp2_with fail
        refine (HR.out _).mono ?_
        rintro e w1 ⟨rfl, hb1⟩
        obtain ⟨c0, c1, c2, c3, c4, c5, hB⟩ := box6 hb1
        clear hb1 HR HQ HP
        cases R
        · go_wp2
          go_ret
          exact ⟨ret_bool (by simp [h1, h2, h3]), hB⟩
        · by_cases k1 : 1 ≤ ad
          · by_cases k2 : ad ≤ 15
            · go_wp2_with fail
              refine (HW.out _).mono ?_
              rintro e w2 ⟨rfl, rfl⟩
              cases T
              · go_wp2
                go_ret
                exact ⟨ret_bool (by simp [h1, h2, h3]), hB⟩
              · go_wp2_with fail
                refine (HG.out _).mono ?_
                rintro e w2 ⟨rfl, rfl⟩
                go_wp2
                go_ret
                exact ⟨ret_bool (by simp [h1, h2, h3, inAd, k1, k2]), hB⟩
            · go_wp2
              go_ret
              exact ⟨ret_bool (by simp [inAd]; omega), hB⟩
          · go_wp2
            go_ret
            exact ⟨ret_bool (by simp [inAd]; omega), hB⟩
set_option maxRecDepth 100000 in
theorem specLeak_any (f : Lk) (w : World) : Calls Tryz.prog 79 #[lkV f] w fun e w' => e = .returned (.bool (lkB f)) ∧ Below w.heap.size w w' := by
  have HP : Hid (∀ n w, Calls Tryz.prog 43 #[.int .i64 n, .int .i64 0, .int .i64 2] w fun e w' => e = .returned (.bool (inPt n)) ∧ w = w') := fun n w => l03Is_any n 0 2 w
  have HR : Hid (∀ w, Calls Tryz.prog 123 #[.agg #[.int .i64 f.a, .int .i64 f.l]] w fun e w' => e = .returned (.bool (rightB f.a f.l)) ∧ Below w.heap.size w w') := specRight_any f.a f.l
  have HA : Hid (∀ w, Calls Tryz.prog 43 #[.int .i64 f.ad, .int .i64 1, .int .i64 15] w fun e w' => e = .returned (.bool (inAd f.ad)) ∧ w = w') := fun w => l03Is_any f.ad 1 15 w
  have HG : Hid (∀ w, Calls Tryz.prog 43 #[.int .i64 f.tg, .int .i64 1000, .int .i64 65535] w fun e w' => e = .returned (.bool (inLt f.tg)) ∧ w = w') := fun w => l03Is_any f.tg 1000 65535 w
  obtain ⟨fr, tt, a, l, ad, tg⟩ := f
  unfold lkV lkA lkB
  simp only at HR HA HG ⊢
  have q0 := Row.new w 113 [.int .i64 fr, .int .i64 tt, .int .i64 a, .int .i64 l, .int .i64 ad, .int .i64 tg]
  have HQ : Hid _ := And.intro q0 (ent_new0 w (.cells #[.int .i64 fr, .int .i64 tt, .int .i64 a, .int .i64 l, .int .i64 ad, .int .i64 tg] 113))
  clear q0
  generalize rightB a l = R at *
  generalize inAd ad = D at *
  generalize inLt tg = G at *
  go_enter Tryz.func79, Tryz.ntmps79
  go_wp2_with fail
  refine (HP.out _ _).mono ?_
  rintro e w1 ⟨rfl, rfl⟩
  cases h1 : inPt fr
  · go_wp2
    go_ret
    exact ⟨ret_bool (by simp [h1]), HQ.out.2⟩
  · go_wp2_with fail
    refine (HP.out _ _).mono ?_
    rintro e w1 ⟨rfl, rfl⟩
    cases h2 : inPt tt
    · go_wp2
      go_ret
      exact ⟨ret_bool (by simp [h1, h2]), HQ.out.2⟩
    · by_cases h3 : fr = tt
      · subst h3
        have d : (fr != fr) = false := by simp
        go_wp2
        go_ret
        exact ⟨ret_bool (by simp), HQ.out.2⟩
      · have d : (fr != tt) = true := by simp [h3]
        have d3 : decide (fr ≠ tt) = true := by simp [h3]
        go_wp2_with fail
        refine (HR.out _).mono ?_
        rintro e w1 ⟨rfl, hb1⟩
        obtain ⟨c0, c1, c2, c3, c4, c5, hB⟩ := box6 hb1
        clear hb1 HR HQ HP
        cases R
        · go_wp2
          go_ret
          exact ⟨ret_bool (by simp [h1, h2, h3]), hB⟩
        · go_wp2_with fail
          refine (HA.out _).mono ?_
          rintro e w2 ⟨rfl, rfl⟩
          cases D
          · go_wp2
            go_ret
            exact ⟨ret_bool (by simp [h1, h2, h3]), hB⟩
          · go_wp2_with fail
            refine (HG.out _).mono ?_
            rintro e w2 ⟨rfl, rfl⟩
            go_wp2
            go_ret
            exact ⟨ret_bool (by simp [h1, h2, h3]), hB⟩
end Go.Proofs.YtialedffpaoacaaGreatDoor
/- A Leak handed over by the laws. (Written by gen_lk.py.) -/
namespace Go.Proofs.YtialedffpaoacaaGreatDoor
open Go.RowKit Go.Sort

theorem three_newK (w : World) (x y z : List Value) (t1 t2 t3 : TypeId) : ∃ W, W = ((w.alloc (.cells x.toArray t1)).alloc (.cells y.toArray t2)).alloc (.cells z.toArray t3) ∧ Row W w.heap.size t1 x ∧ Row W (w.heap.size + 1) t2 y ∧ Row W (w.heap.size + 1 + 1) t3 z ∧ Below w.heap.size w W ∧ W.heap.size = w.heap.size + 1 + 1 + 1 := by
  have q0 := ((Row.new w t1 x).alloc (.cells y.toArray t2)).alloc (.cells z.toArray t3)
  have q1 := (Row.new (w.alloc (.cells x.toArray t1)) t2 y).alloc (.cells z.toArray t3)
  have q2 := Row.new ((w.alloc (.cells x.toArray t1)).alloc (.cells y.toArray t2)) t3 z
  rw [show (w.alloc (.cells x.toArray t1)).heap.size = w.heap.size + 1 by simp] at q1
  rw [show ((w.alloc (.cells x.toArray t1)).alloc (.cells y.toArray t2)).heap.size = w.heap.size + 1 + 1 by simp] at q2
  exact ⟨_, rfl, q0, q1, q2, ((ent_new0 w _).alloc (by simp) _).alloc (by simp; omega) _, by simp⟩
set_option maxRecDepth 100000 in
set_option maxHeartbeats 1000000 in
theorem toLeak_any (f : Lk) (w : World) : Calls Tryz.prog 51 #[lkV f] w fun e w' => e = .returned (lkV f) ∧ Below w.heap.size w w' := by
  have HT : Hid (∀ w, Calls Tryz.prog 93 #[.agg #[.int .i64 f.a, .int .i64 f.l]] w fun e w' => e = .returned (.agg #[.int .i64 f.a, .int .i64 f.l]) ∧ Below w.heap.size w w') := toNet_any f.a f.l
  obtain ⟨fr, tt, a, l, ad, tg⟩ := f
  unfold lkV lkA
  simp only at HT ⊢
  obtain ⟨W, hW, q0, q1, q2, hB, hS⟩ := three_newK w [.int .i64 fr, .int .i64 tt, .int .i64 a, .int .i64 l, .int .i64 ad, .int .i64 tg] [.int .i64 0, .int .i64 0, .int .i64 0, .int .i64 0, .int .i64 0, .int .i64 0] [.int .i64 fr, .int .i64 tt, .int .i64 0, .int .i64 0, .int .i64 0, .int .i64 0] 117 113 113
  have HW : Hid _ := hW
  have HQ : Hid _ := And.intro q0 (And.intro q1 (And.intro q2 (And.intro hB hS)))
  clear hW q0 q1 q2 hB hS
  go_enter Tryz.func51, Tryz.ntmps51
  go_wp2_with fail
  refine (HT.out _).mono ?_
  rintro e w1 ⟨rfl, hb1⟩
  rw [← HW.out] at hb1
  obtain ⟨q0, q1, q2, hB, hS⟩ := HQ.out
  have p0 := q0.below hb1 q0.lt
  have p1 := q1.below hb1 q1.lt
  have p2 := q2.below hb1 q2.lt
  have hB := hB.trans (hb1.mono (by omega))
  clear q0 q1 q2 hb1 HW HQ HT
  have a0 : w1.cell? ⟨w.heap.size, 0, none⟩ = some (.int .i64 fr) := p0.cell 0
  have a1 : w1.cell? ⟨w.heap.size, 1, none⟩ = some (.int .i64 tt) := p0.cell 1
  have a2 : w1.cell? ⟨w.heap.size, 2, none⟩ = some (.int .i64 a) := p0.cell 2
  have a3 : w1.cell? ⟨w.heap.size, 3, none⟩ = some (.int .i64 l) := p0.cell 3
  have a4 : w1.cell? ⟨w.heap.size, 4, none⟩ = some (.int .i64 ad) := p0.cell 4
  have a5 : w1.cell? ⟨w.heap.size, 5, none⟩ = some (.int .i64 tg) := p0.cell 5
  have b0 : w1.cell? ⟨w.heap.size + 1, 0, none⟩ = some (.int .i64 0) := p1.cell 0
  have f0 := p1.frozen 0
  have b1 : w1.cell? ⟨w.heap.size + 1, 1, none⟩ = some (.int .i64 0) := p1.cell 1
  have f1 := p1.frozen 1
  have b2 : w1.cell? ⟨w.heap.size + 1, 2, none⟩ = some (.int .i64 0) := p1.cell 2
  have f2 := p1.frozen 2
  have b3 : w1.cell? ⟨w.heap.size + 1, 3, none⟩ = some (.int .i64 0) := p1.cell 3
  have f3 := p1.frozen 3
  have b4 : w1.cell? ⟨w.heap.size + 1, 4, none⟩ = some (.int .i64 0) := p1.cell 4
  have f4 := p1.frozen 4
  have b5 : w1.cell? ⟨w.heap.size + 1, 5, none⟩ = some (.int .i64 0) := p1.cell 5
  have f5 := p1.frozen 5
  have d0 : w1.cell? ⟨w.heap.size + 1 + 1, 0, none⟩ = some (.int .i64 fr) := p2.cell 0
  have g0 := p2.frozen 0
  have d1 : w1.cell? ⟨w.heap.size + 1 + 1, 1, none⟩ = some (.int .i64 tt) := p2.cell 1
  have g1 := p2.frozen 1
  have d2 : w1.cell? ⟨w.heap.size + 1 + 1, 2, none⟩ = some (.int .i64 0) := p2.cell 2
  have g2 := p2.frozen 2
  have d3 : w1.cell? ⟨w.heap.size + 1 + 1, 3, none⟩ = some (.int .i64 0) := p2.cell 3
  have g3 := p2.frozen 3
  have d4 : w1.cell? ⟨w.heap.size + 1 + 1, 4, none⟩ = some (.int .i64 0) := p2.cell 4
  have g4 := p2.frozen 4
  have d5 : w1.cell? ⟨w.heap.size + 1 + 1, 5, none⟩ = some (.int .i64 0) := p2.cell 5
  have g5 := p2.frozen 5
  have HE : Hid (Row (((((((((((w1.setCell ⟨w.heap.size + 1 + 1, 2, none⟩ (.int .i64 a)).setCell ⟨w.heap.size + 1 + 1, 3, none⟩ (.int .i64 l)).setCell ⟨w.heap.size + 1 + 1, 4, none⟩ (.int .i64 ad)).setCell ⟨w.heap.size + 1 + 1, 5, none⟩ (.int .i64 tg)).setCell ⟨w.heap.size + 1, 0, none⟩ (.int .i64 fr)).setCell ⟨w.heap.size + 1, 1, none⟩ (.int .i64 tt)).setCell ⟨w.heap.size + 1, 2, none⟩ (.int .i64 a)).setCell ⟨w.heap.size + 1, 3, none⟩ (.int .i64 l)).setCell ⟨w.heap.size + 1, 4, none⟩ (.int .i64 ad)).setCell ⟨w.heap.size + 1, 5, none⟩ (.int .i64 tg))) (w.heap.size + 1) 113 [.int .i64 fr, .int .i64 tt, .int .i64 a, .int .i64 l, .int .i64 ad, .int .i64 tg] ∧ Below w.heap.size w (((((((((((w1.setCell ⟨w.heap.size + 1 + 1, 2, none⟩ (.int .i64 a)).setCell ⟨w.heap.size + 1 + 1, 3, none⟩ (.int .i64 l)).setCell ⟨w.heap.size + 1 + 1, 4, none⟩ (.int .i64 ad)).setCell ⟨w.heap.size + 1 + 1, 5, none⟩ (.int .i64 tg)).setCell ⟨w.heap.size + 1, 0, none⟩ (.int .i64 fr)).setCell ⟨w.heap.size + 1, 1, none⟩ (.int .i64 tt)).setCell ⟨w.heap.size + 1, 2, none⟩ (.int .i64 a)).setCell ⟨w.heap.size + 1, 3, none⟩ (.int .i64 l)).setCell ⟨w.heap.size + 1, 4, none⟩ (.int .i64 ad)).setCell ⟨w.heap.size + 1, 5, none⟩ (.int .i64 tg)))) := ⟨((((((((((p1.other 2 (.int .i64 a) (by omega)).other 3 (.int .i64 l) (by omega)).other 4 (.int .i64 ad) (by omega)).other 5 (.int .i64 tg) (by omega)).set 0 (.int .i64 fr)).set 1 (.int .i64 tt)).set 2 (.int .i64 a)).set 3 (.int .i64 l)).set 4 (.int .i64 ad)).set 5 (.int .i64 tg)), ((((((((((hB.setCell (p := ⟨w.heap.size + 1 + 1, 2, none⟩) (by show w.heap.size ≤ w.heap.size + 1 + 1; omega) (.int .i64 a)).setCell (p := ⟨w.heap.size + 1 + 1, 3, none⟩) (by show w.heap.size ≤ w.heap.size + 1 + 1; omega) (.int .i64 l)).setCell (p := ⟨w.heap.size + 1 + 1, 4, none⟩) (by show w.heap.size ≤ w.heap.size + 1 + 1; omega) (.int .i64 ad)).setCell (p := ⟨w.heap.size + 1 + 1, 5, none⟩) (by show w.heap.size ≤ w.heap.size + 1 + 1; omega) (.int .i64 tg)).setCell (p := ⟨w.heap.size + 1, 0, none⟩) (by show w.heap.size ≤ w.heap.size + 1; omega) (.int .i64 fr)).setCell (p := ⟨w.heap.size + 1, 1, none⟩) (by show w.heap.size ≤ w.heap.size + 1; omega) (.int .i64 tt)).setCell (p := ⟨w.heap.size + 1, 2, none⟩) (by show w.heap.size ≤ w.heap.size + 1; omega) (.int .i64 a)).setCell (p := ⟨w.heap.size + 1, 3, none⟩) (by show w.heap.size ≤ w.heap.size + 1; omega) (.int .i64 l)).setCell (p := ⟨w.heap.size + 1, 4, none⟩) (by show w.heap.size ≤ w.heap.size + 1; omega) (.int .i64 ad)).setCell (p := ⟨w.heap.size + 1, 5, none⟩) (by show w.heap.size ≤ w.heap.size + 1; omega) (.int .i64 tg))⟩
  clear p0 p1 p2 hB
  go_wp2_with fail
  obtain ⟨h1, h2⟩ := HE.out
  clear HE a0 b0 d0 f0 g0 a1 b1 d1 f1 g1 a2 b2 d2 f2 g2 a3 b3 d3 f3 g3 a4 b4 d4 f4 g4 a5 b5 d5 f5 g5
  generalize ((((((((((w1.setCell ⟨w.heap.size + 1 + 1, 2, none⟩ (.int .i64 a)).setCell ⟨w.heap.size + 1 + 1, 3, none⟩ (.int .i64 l)).setCell ⟨w.heap.size + 1 + 1, 4, none⟩ (.int .i64 ad)).setCell ⟨w.heap.size + 1 + 1, 5, none⟩ (.int .i64 tg)).setCell ⟨w.heap.size + 1, 0, none⟩ (.int .i64 fr)).setCell ⟨w.heap.size + 1, 1, none⟩ (.int .i64 tt)).setCell ⟨w.heap.size + 1, 2, none⟩ (.int .i64 a)).setCell ⟨w.heap.size + 1, 3, none⟩ (.int .i64 l)).setCell ⟨w.heap.size + 1, 4, none⟩ (.int .i64 ad)).setCell ⟨w.heap.size + 1, 5, none⟩ (.int .i64 tg)) = Y at *
  have e0 : Y.cell? ⟨w.heap.size + 1, 0, none⟩ = some (.int .i64 fr) := h1.cell 0
  have e1 : Y.cell? ⟨w.heap.size + 1, 1, none⟩ = some (.int .i64 tt) := h1.cell 1
  have e2 : Y.cell? ⟨w.heap.size + 1, 2, none⟩ = some (.int .i64 a) := h1.cell 2
  have e3 : Y.cell? ⟨w.heap.size + 1, 3, none⟩ = some (.int .i64 l) := h1.cell 3
  have e4 : Y.cell? ⟨w.heap.size + 1, 4, none⟩ = some (.int .i64 ad) := h1.cell 4
  have e5 : Y.cell? ⟨w.heap.size + 1, 5, none⟩ = some (.int .i64 tg) := h1.cell 5
  exact bodyPost_ret (v := .agg #[.int .i64 fr, .int .i64 tt, .int .i64 a, .int .i64 l, .int .i64 ad, .int .i64 tg]) (by simp [results, Tryz.results51, go_sem, e0, e1, e2, e3, e4, e5]) rfl ⟨rfl, h2⟩
end Go.Proofs.YtialedffpaoacaaGreatDoor
/- The laws' own look: Binds and lists of them are as themselves. (Written by gen_flat.py.) -/
namespace Go.Proofs.YtialedffpaoacaaGreatDoor
open Go.RowKit Go.Sort

set_option maxRecDepth 100000 in
theorem eqBind_same (e : Bd) (w : World) : Calls Tryz.prog 60 #[bdV e, bdV e] w fun r w' => r = .returned (.bool true) ∧ Below w.heap.size w w' := by
  obtain ⟨po, vl, tn, ic⟩ := e
  unfold bdV
  have epo : (po != po) = false := by simp
  have evl : (vl != vl) = false := by simp
  have etn : (tn != tn) = false := by simp
  have eic : (ic != ic) = false := by simp
  go_enter Tryz.func60, Tryz.ntmps60
  go_wp2
  go_ret
  exact ⟨rfl, ((Below.refl _ _).alloc (Nat.le_refl _) _).alloc (by simp) _⟩
set_option maxHeartbeats 1000000 in
set_option maxRecDepth 100000 in
theorem eqBindS_any (p q : Option Addr) (c0 d0 : Nat) (es : List Bd) (w : World) (hp : BdsIn w p es) (hq : BdsIn w q es) (hn : es.length ≤ 100000000) : Calls Tryz.prog 29 #[.slice p es.length c0, .slice q es.length d0] w fun r w' => r = .returned (.bool true) ∧ Below w.heap.size w w' := by
  have HE : Hid (∀ e w, Calls Tryz.prog 60 #[bdV e, bdV e] w fun r w' => r = .returned (.bool true) ∧ Below w.heap.size w w') := eqBind_same
  have HX : Hid (BdsIn w p es ∧ BdsIn w q es) := ⟨hp, hq⟩
  have h0 : ((es.length : Int) != (es.length : Int)) = false := by simp
  clear hp hq
  go_enter Tryz.func29, Tryz.ntmps29
  go_wp2_with fail
  go_loopw [5] (fun i wr => ∃ k : Nat, k ≤ es.length ∧ i = .int .i64 k ∧ Below w.heap.size w wr) (fun i _ => es.length - (intOf i).toNat)
  case atStart => exact ⟨0, Nat.zero_le _, rfl, Below.refl _ _⟩
  case round =>
    obtain ⟨k, hk, rfl, hb⟩ := hrel
    by_cases hlt : k < es.length
    · obtain ⟨g, po, vl, tn, ic, rfl, hg, hek, x0, x1, x2, x3⟩ := (HX.out.1.below hb).at k hlt
      obtain ⟨g', po', vl', tn', ic', rfl, hg', hek', y0, y1, y2, y3⟩ := (HX.out.2.below hb).at k hlt
      rw [hek] at hek'
      simp only [Bd.mk.injEq] at hek'
      obtain ⟨rfl, rfl, rfl, rfl⟩ := hek'
      have HEk : Hid (∀ w, Calls Tryz.prog 60 #[.agg #[.int .i64 po, .int .i64 vl, .int .i64 tn, .int .i64 ic], .agg #[.int .i64 po, .int .i64 vl, .int .i64 tn, .int .i64 ic]] w fun r w' => r = .returned (.bool true) ∧ Below w.heap.size w w') := HE.out ⟨po, vl, tn, ic⟩
      clear HE hek HX
      replace x0 := cell_regrown x0
      replace y0 := cell_regrown y0
      replace x1 := cell_regrown x1
      replace y1 := cell_regrown y1
      replace x2 := cell_regrown x2
      replace y2 := cell_regrown y2
      replace x3 := cell_regrown x3
      replace y3 := cell_regrown y3
      go_wp2_with fail
      refine wp_region_quiet_below (by kernel_rfl) (by kernel_rfl) ?_
      repeat (go_big_quiet_step ((go_at_call 60; exact Calls.regrown_of (HEk.out _))))
      refine wpQuiet_nil ?_
      intro w1 hw'
      obtain ⟨⟨dq, osq⟩, hw''⟩ := hw'
      have hbq := below_regrown wr dq osq
      rw [← hw''] at hbq
      clear hw'' osq dq x0 x1 x2 x3 y0 y1 y2 y3 HEk
      have hb2 := hb.trans (hbq.mono hb.size)
      clear hbq
      go_wp2
      go_roundw
      case rel => exact ⟨k + 1, hlt, by go_num, hb2⟩
      case measure => simp [intOf]; omega
    · obtain rfl : k = es.length := by omega
      clear hlt hk
      go_wp2
      go_ret
      exact ⟨rfl, hb⟩
end Go.Proofs.YtialedffpaoacaaGreatDoor
/- Right lists of what is to be sent, and of who was heard, in plain lists. (Written by gen_tnr.py.) -/
namespace Go.Proofs.YtialedffpaoacaaGreatDoor
open Go.RowKit Go.Sort

def snB (s : Sn) : Bool := decide (0 ≤ s.fc ∧ s.fc ≤ 2) && decide (s.tx.size ≤ 1000)
def ringB (l : List Sn) (q : Int) : Bool := decide ((l.length : Int) ≤ q) && l.all snB
def seB (s : Se) : Bool := inAddr s.sf && inTime s.sq
/-- The k-th comes behind the one ahead of it. -/
def seUp (l : List Se) (k : Nat) : Bool := decide (k = 0 ∨ l[k - 1]!.sf < l[k]!.sf)
def heardB (l : List Se) : Bool := decide (l.length ≤ 8) && ((List.range l.length).all fun k => seB l[k]! && seUp l k)
theorem ringB_bad {l : List Sn} {q : Int} {k : Nat} (hk : k < l.length) (h : snB l[k] = false) : ringB l q = false := by
  unfold ringB
  have : l.all snB = false := by rw [List.all_eq_false]; exact ⟨l[k], List.getElem_mem hk, by simp [h]⟩
  rw [this, Bool.and_false]
theorem ringB_good {l : List Sn} {q : Int} (hq : (l.length : Int) ≤ q) (h : ∀ j (hj : j < l.length), snB l[j] = true) : ringB l q = true := by
  unfold ringB
  have : l.all snB = true := List.all_eq_true.2 fun x hx => by
    obtain ⟨j, hj, rfl⟩ := List.mem_iff_getElem.1 hx
    exact h j hj
  rw [this, Bool.and_true]
  exact decide_eq_true hq
theorem ringB_long {l : List Sn} {q : Int} (hq : ¬ (l.length : Int) ≤ q) : ringB l q = false := by unfold ringB; rw [decide_eq_false hq, Bool.false_and]
theorem heardB_bad {l : List Se} {k : Nat} (hk : k < l.length) (h : (seB l[k]! && seUp l k) = false) : heardB l = false := by
  unfold heardB
  have : ((List.range l.length).all fun k => seB l[k]! && seUp l k) = false := by rw [List.all_eq_false]; exact ⟨k, List.mem_range.2 hk, by rw [h]; simp⟩
  rw [this, Bool.and_false]
theorem heardB_good {l : List Se} (h8 : l.length ≤ 8) (h : ∀ j, j < l.length → (seB l[j]! && seUp l j) = true) : heardB l = true := by
  unfold heardB
  have : ((List.range l.length).all fun k => seB l[k]! && seUp l k) = true := List.all_eq_true.2 fun x hx => h x (List.mem_range.1 hx)
  rw [this, Bool.and_true]
  exact decide_eq_true h8
theorem heardB_long {l : List Se} (h8 : ¬ l.length ≤ 8) : heardB l = false := by unfold heardB; rw [decide_eq_false h8, Bool.false_and]
theorem ringB_spec {l : List Sn} {q : Int} (h : ringB l q = true) : (l.length : Int) ≤ q ∧ ∀ s ∈ l, 0 ≤ s.fc ∧ s.fc ≤ 2 ∧ s.tx.size ≤ 1000 := by
  unfold ringB snB at h
  simp only [Bool.and_eq_true, decide_eq_true_eq, List.all_eq_true] at h
  exact ⟨h.1, fun s hs => ⟨(h.2 s hs).1.1, (h.2 s hs).1.2, (h.2 s hs).2⟩⟩
theorem get_bangS (l : List Se) (k : Nat) (hk : k < l.length) : l[k]! = l[k] := getElem!_pos l k hk
end Go.Proofs.YtialedffpaoacaaGreatDoor
/- Right lists of what is to be sent, and of who was heard, of the program. (Written by gen_tnr.py.) -/
namespace Go.Proofs.YtialedffpaoacaaGreatDoor
open Go.RowKit Go.Sort

set_option maxRecDepth 100000 in
set_option maxHeartbeats 2000000 in
theorem ringRight_any (p : Option Addr) (cap : Nat) (l : List Sn) (q : Int) (w : World) (h : SnsIn w p l) (hn : l.length ≤ 100000000) (hx : ∀ s ∈ l, s.tx.size ≤ 100000000) :
    Calls Tryz.prog 134 #[.slice p l.length cap, .int .i64 q] w fun e w' => e = .returned (.bool (ringB l q)) ∧ Below w.heap.size w w' := by
  have HX : Hid (SnsIn w p l) := h
  have HS : Hid (∀ s ∈ l, s.tx.size ≤ 100000000) := hx
  have HB1 : Hid (∀ k (hk : k < l.length), snB l[k] = false → ringB l q = false) := fun k hk h => ringB_bad hk h
  have HG : Hid ((l.length : Int) ≤ q → (∀ j (hj : j < l.length), snB l[j] = true) → ringB l q = true) := fun a b => ringB_good a b
  clear h hx
  by_cases h4 : (l.length : Int) ≤ q
  case neg =>
    have hR := ringB_long h4
    have d0 : decide (q < (l.length : Int)) = true := by simp; omega
    clear HB1 HG HX HS
    go_enter Tryz.func134, Tryz.ntmps134
    go_wp2
    go_ret
    exact ⟨by first | rfl | (rw [hR]; rfl), Below.refl _ _⟩
  have d0 : decide (q < (l.length : Int)) = false := by simp; omega
  go_enter Tryz.func134, Tryz.ntmps134
  go_wp2_with fail
  go_loopw [13] (fun i wr => ∃ k : Nat, k ≤ l.length ∧ i = .int .i64 k ∧ (∀ j (hj : j < l.length), j < k → snB l[j] = true) ∧ Below w.heap.size w wr) (fun i _ => l.length - (intOf i).toNat)
  case atStart => exact ⟨0, Nat.zero_le _, rfl, fun j _ hj => absurd hj (by omega), Below.refl _ _⟩
  case round =>
    obtain ⟨k, hk, rfl, ha, hB⟩ := hrel
    by_cases hlt : k < l.length
    · have d1 : decide ((k : Int) < (l.length : Int)) = true := by simpa using hlt
      obtain ⟨g, fc, tx, rfl, hg, hek, c0, c1⟩ := (HX.out.below hB).at k hlt
      have hsz := HS.out l[k] (List.getElem_mem hlt)
      have HBad : Hid (snB l[k] = false → ringB l q = false) := HB1.out k hlt
      have HNx : Hid (snB l[k] = true → ∀ j (hj : j < l.length), j < k + 1 → snB l[j] = true) := fun h j hj hjk => by
        rcases Nat.lt_or_ge j k with h' | h'
        · exact ha j hj h'
        · obtain rfl : j = k := by omega
          exact h
      rw [hek] at HBad HNx hsz
      simp only at hsz
      have hB := hB.alloc hB.size (.cells #[.int .i64 fc, .string tx] 142)
      have HBB : Hid _ := hB
      have e1 : snB ⟨fc, tx⟩ = (decide (0 ≤ fc ∧ fc ≤ 2) && decide (tx.size ≤ 1000)) := rfl
      rw [e1] at HBad HNx
      clear HB1 HG ha hek hB e1
      by_cases z0 : fc < 0
      · have z1 : decide (fc < 0) = true := by simpa using z0
        have hR := HBad.out (by rw [decide_eq_false (by omega)]; rfl)
        go_wp2
        go_ret
        exact ⟨by first | rfl | (rw [hR]; rfl), HBB.out⟩
      · have z1 : decide (fc < 0) = false := by simpa using z0
        by_cases z2 : 3 ≤ fc
        · have z3 : decide (3 ≤ fc) = true := by simpa using z2
          have hR := HBad.out (by rw [decide_eq_false (by omega)]; rfl)
          go_wp2
          go_ret
          exact ⟨by first | rfl | (rw [hR]; rfl), HBB.out⟩
        · have z3 : decide (3 ≤ fc) = false := by simpa using z2
          by_cases z4 : 1000 < tx.size
          · have z5 : decide (1000 < (tx.size : Int)) = true := by simp; omega
            have hR := HBad.out (by rw [decide_eq_false (show ¬ tx.size ≤ 1000 by omega), Bool.and_false])
            go_wp2
            go_ret
            exact ⟨by first | rfl | (rw [hR]; rfl), HBB.out⟩
          · have z5 : decide (1000 < (tx.size : Int)) = false := by simp; omega
            have HN := HNx.out (by rw [decide_eq_true (show 0 ≤ fc ∧ fc ≤ 2 by omega), decide_eq_true (show tx.size ≤ 1000 by omega)]; rfl)
            have HNN : Hid _ := HN
            clear HN HNx HBad
            go_wp2_with fail
            clear c0 c1
            go_roundw
            case rel => exact ⟨k + 1, hlt, by go_num, HNN.out, HBB.out⟩
            case measure => simp [intOf]; omega
    · obtain rfl : k = l.length := by omega
      have d1 : decide ((l.length : Int) < (l.length : Int)) = false := by simp
      have hR := HG.out h4 (fun j hj => ha j hj hj)
      clear hlt hk HB1 HG HX ha HS
      go_wp2
      go_ret
      exact ⟨by first | rfl | (rw [hR]; rfl), hB⟩
/-- What cmp.Compare tells of two numbers. -/
def cmpJ (a b : Int) : Int := if a < b then -1 else if b < a then 1 else 0
theorem isNaNJ_any (a : Int) (w : World) : Calls Tryz.prog 178 #[.int .i64 a] w fun e w' => e = .returned (.bool false) ∧ w = w' := by
  have d : (a != a) = false := by simp
  go_enter Tryz.func178, Tryz.ntmps178
  go_wp2
  go_ret
  exact ⟨rfl, rfl⟩
set_option maxRecDepth 100000 in
set_option maxHeartbeats 2000000 in
theorem cmpJ_any (a b : Int) (w : World) : Calls Tryz.prog 137 #[.int .i64 a, .int .i64 b] w fun e w' => e = .returned (.int .i64 (cmpJ a b)) ∧ w = w' := by
  have HN : Hid (∀ a w, Calls Tryz.prog 178 #[.int .i64 a] w fun e w' => e = .returned (.bool false) ∧ w = w') := isNaNJ_any
  have HC : Hid (cmpJ a b = if a < b then -1 else if b < a then 1 else 0) := rfl
  generalize cmpJ a b = R at *
  go_enter Tryz.func137, Tryz.ntmps137
  go_wp2_with fail
  refine (HN.out _ _).mono ?_
  rintro e w1 ⟨rfl, rfl⟩
  go_wp2_with fail
  refine (HN.out _ _).mono ?_
  rintro e w2 ⟨rfl, rfl⟩
  have hC := HC.out
  clear HC HN
  by_cases h1 : a < b
  · have z1 : decide (a < b) = true := by simpa using h1
    rw [if_pos h1] at hC
    go_wp2
    go_ret
    exact ⟨by rw [hC]; rfl, rfl⟩
  · have z1 : decide (a < b) = false := by simpa using h1
    rw [if_neg h1] at hC
    by_cases h2 : b < a
    · have z2 : decide (b < a) = true := by simpa using h2
      rw [if_pos h2] at hC
      go_wp2
      go_ret
      exact ⟨by rw [hC]; rfl, rfl⟩
    · have z2 : decide (b < a) = false := by simpa using h2
      rw [if_neg h2] at hC
      go_wp2
      go_ret
      exact ⟨by rw [hC]; rfl, rfl⟩
set_option maxRecDepth 100000 in
set_option maxHeartbeats 2000000 in
theorem seenOrder_any (a b c d : Int) (w : World) : Calls Tryz.prog 177 #[.agg #[.int .i64 a, .int .i64 b], .agg #[.int .i64 c, .int .i64 d]] w fun e w' => e = .returned (.int .i64 (cmpJ a c)) ∧ Below w.heap.size w w' := by
  have HC : Hid (∀ w, Calls Tryz.prog 137 #[.int .i64 a, .int .i64 c] w fun e w' => e = .returned (.int .i64 (cmpJ a c)) ∧ w = w') := cmpJ_any a c
  generalize cmpJ a c = R at *
  go_enter Tryz.func177, Tryz.ntmps177
  go_wp2_with fail
  refine (HC.out _).mono ?_
  rintro e w1 ⟨rfl, rfl⟩
  go_wp2
  go_ret
  exact ⟨rfl, ((Below.refl _ _).alloc (Nat.le_refl _) _).alloc (by simp) _⟩
set_option maxRecDepth 100000 in
set_option maxHeartbeats 2000000 in
theorem seenRise_any (p : Option Addr) (cap : Nat) (l : List Se) (w : World) (h : SesIn w p l) (hn : l.length ≤ 100000000) :
    Calls Tryz.prog 176 #[.slice p l.length cap, .func (.func 177) #[] #[]] w fun e w' => (∃ R : Bool, e = .returned (.bool R) ∧ (R = true → ∀ j, j < l.length → seUp l j = true) ∧ (R = false → ∃ j, j < l.length ∧ seUp l j = false)) ∧ Below w.heap.size w w' := by
  have HX : Hid (SesIn w p l) := h
  have HO : Hid (∀ a b c d w, Calls Tryz.prog 177 #[.agg #[.int .i64 a, .int .i64 b], .agg #[.int .i64 c, .int .i64 d]] w fun e w' => e = .returned (.int .i64 (cmpJ a c)) ∧ Below w.heap.size w w') := seenOrder_any
  clear h
  go_enter Tryz.func176, Tryz.ntmps176
  go_wp2_with fail
  go_loopw [5] (fun i wr => ∃ k : Nat, 1 ≤ k ∧ (k ≤ l.length ∨ k = 1) ∧ i = .int .i64 k ∧ (∀ j, j < k → j < l.length → seUp l j = true) ∧ Below w.heap.size w wr) (fun i _ => l.length + 1 - (intOf i).toNat)
  case atStart => exact ⟨1, Nat.le_refl _, .inr rfl, rfl, fun j hj _ => (by obtain rfl : j = 0 := (by omega); unfold seUp; simp), Below.refl _ _⟩
  case round =>
    obtain ⟨k, hk1, hk, rfl, ha, hB⟩ := hrel
    by_cases hlt : k < l.length
    · have d1 : decide ((k : Int) < (l.length : Int)) = true := by simpa using hlt
      obtain ⟨g, sf, sq, rfl, hg, hek, c0, c1⟩ := (HX.out.below hB).at k hlt
      obtain ⟨g', tf, tq, e', hg', hek', e0, e1⟩ := (HX.out.below hB).at (k - 1) (by omega)
      cases e'
      have hup : seUp l k = decide (tf < sf) := by
        unfold seUp
        rw [get_bangS l k hlt, get_bangS l (k - 1) (by omega), hek, hek']
        apply decide_eq_decide.2
        constructor
        · rintro (h | h)
          · omega
          · exact h
        · exact .inr
      have z2 : IntKind.i64.wrap ((k : Int) - 1) = ((k - 1 : Nat) : Int) := by rw [wrap_i64_in _ (by omega) (by omega)]; omega
      have z3 : (k : Int) - 1 = ((k - 1 : Nat) : Int) := by omega
      have z4 : decide (((k - 1 : Nat) : Int) < (l.length : Int)) = true := by simp; omega
      have z5 : k - 1 < l.length := by omega
      have HOk : Hid (∀ w, Calls Tryz.prog 177 #[.agg #[.int .i64 tf, .int .i64 tq], .agg #[.int .i64 sf, .int .i64 sq]] w fun e w' => e = .returned (.int .i64 (cmpJ tf sf)) ∧ Below w.heap.size w w') := HO.out tf tq sf sq
      have HA : Hid (∀ j, j < k → j < l.length → seUp l j = true) := ha
      have hcv : cmpJ tf sf = -1 ∧ seUp l k = true ∨ cmpJ tf sf = 0 ∧ seUp l k = false ∨ cmpJ tf sf = 1 ∧ seUp l k = false := by
        rw [hup]
        unfold cmpJ
        by_cases h1 : tf < sf
        · left; simp [h1]
        · by_cases h2 : sf < tf
          · right; right; simp [h1, h2]
          · right; left; simp [h1, h2]
      clear HO hek hek' hup ha
      generalize cmpJ tf sf = C at *
      replace c0 := cell_regrown c0
      replace c1 := cell_regrown c1
      replace e0 := cell_regrown e0
      replace e1 := cell_regrown e1
      rcases hcv with ⟨rfl, hu⟩ | ⟨rfl, hu⟩ | ⟨rfl, hu⟩
      · have HU : Hid (seUp l k = true) := hu
        clear hu
        go_wp2_with fail
        refine wp_region_quiet_below (by kernel_rfl) (by kernel_rfl) ?_
        repeat (go_big_quiet_step ((go_at_call 177; exact Calls.regrown_of (HOk.out _))))
        refine wpQuiet_nil ?_
        intro w1 hw'
        obtain ⟨⟨dq, osq⟩, hw''⟩ := hw'
        have hbq := below_regrown wr dq osq
        rw [← hw''] at hbq
        clear hw'' osq dq c0 c1 e0 e1 HOk
        have hB := hB.trans (hbq.mono hB.size)
        have HB : Hid _ := hB
        clear hbq hB
        go_wp2
        go_roundw
        case rel => exact ⟨k + 1, by omega, .inl hlt, by go_num, (fun j hj hl => by
          rcases Nat.lt_or_ge j k with h' | h'
          · exact HA.out j h' hl
          · obtain rfl : j = k := (by omega)
            exact HU.out), HB.out⟩
        case measure => simp [intOf]; omega
      · have HU : Hid (seUp l k = false) := hu
        clear hu
        go_wp2_with fail
        refine wp_region_quiet_below (by kernel_rfl) (by kernel_rfl) ?_
        repeat (go_big_quiet_step ((go_at_call 177; exact Calls.regrown_of (HOk.out _))))
        refine wpQuiet_nil ?_
        intro w1 hw'
        obtain ⟨⟨dq, osq⟩, hw''⟩ := hw'
        have hbq := below_regrown wr dq osq
        rw [← hw''] at hbq
        clear hw'' osq dq c0 c1 e0 e1 HOk
        have hB := hB.trans (hbq.mono hB.size)
        have HB : Hid _ := hB
        clear hbq hB
        go_wp2
        go_ret
        exact ⟨⟨false, rfl, fun h => by simp at h, fun _ => ⟨k, hlt, HU.out⟩⟩, HB.out⟩
      · have HU : Hid (seUp l k = false) := hu
        clear hu
        go_wp2_with fail
        refine wp_region_quiet_below (by kernel_rfl) (by kernel_rfl) ?_
        repeat (go_big_quiet_step ((go_at_call 177; exact Calls.regrown_of (HOk.out _))))
        refine wpQuiet_nil ?_
        intro w1 hw'
        obtain ⟨⟨dq, osq⟩, hw''⟩ := hw'
        have hbq := below_regrown wr dq osq
        rw [← hw''] at hbq
        clear hw'' osq dq c0 c1 e0 e1 HOk
        have hB := hB.trans (hbq.mono hB.size)
        have HB : Hid _ := hB
        clear hbq hB
        go_wp2
        go_ret
        exact ⟨⟨false, rfl, fun h => by simp at h, fun _ => ⟨k, hlt, HU.out⟩⟩, HB.out⟩
    · have d1 : decide ((k : Int) < (l.length : Int)) = false := by simpa using hlt
      have HB : Hid _ := hB
      have HA : Hid (∀ j, j < k → j < l.length → seUp l j = true) := ha
      clear HX HO hB ha
      go_wp2
      go_ret
      exact ⟨⟨true, rfl, fun _ j hj => HA.out j (by omega) hj, fun h => by simp at h⟩, HB.out⟩
set_option maxRecDepth 100000 in
set_option maxHeartbeats 2000000 in
theorem heardRight_any (p : Option Addr) (cap : Nat) (l : List Se) (w : World) (h : SesIn w p l) (hn : l.length ≤ 100000000) :
    Calls Tryz.prog 135 #[.slice p l.length cap] w fun e w' => e = .returned (.bool (heardB l)) ∧ Below w.heap.size w w' := by
  have HX : Hid (SesIn w p l) := h
  have HI : Hid (∀ a w, Calls Tryz.prog 162 #[.int .i64 a] w fun e w' => e = .returned (.bool (inAddr a)) ∧ w = w') := isAddr_any
  have HT : Hid (∀ a w, Calls Tryz.prog 55 #[.int .i64 a] w fun e w' => e = .returned (.bool (inTime a)) ∧ w = w') := isTime_any
  have HR : Hid (∀ w, SesIn w p l → Calls Tryz.prog 176 #[.slice p l.length cap, .func (.func 177) #[] #[]] w fun e w' => (∃ R : Bool, e = .returned (.bool R) ∧ (R = true → ∀ j, j < l.length → seUp l j = true) ∧ (R = false → ∃ j, j < l.length ∧ seUp l j = false)) ∧ Below w.heap.size w w') := fun w h => seenRise_any p cap l w h hn
  have HB1 : Hid (∀ k, k < l.length → (seB l[k]! && seUp l k) = false → heardB l = false) := fun k hk h => heardB_bad hk h
  have HG : Hid (l.length ≤ 8 → (∀ j, j < l.length → (seB l[j]! && seUp l j) = true) → heardB l = true) := fun a b => heardB_good a b
  clear h
  by_cases h4 : l.length ≤ 8
  case neg =>
    have hR := heardB_long h4
    have d0 : decide (8 < (l.length : Int)) = true := by simp; omega
    clear HB1 HG HX HR HI HT
    go_enter Tryz.func135, Tryz.ntmps135
    go_wp2
    go_ret
    exact ⟨by first | rfl | (rw [hR]; rfl), Below.refl _ _⟩
  have d0 : decide (8 < (l.length : Int)) = false := by simp; omega
  generalize heardB l = RES at *
  go_enter Tryz.func135, Tryz.ntmps135
  go_wp2_with fail
  go_loopw [10] (fun i wr => ∃ k : Nat, k ≤ l.length ∧ i = .int .i64 k ∧ (∀ j, j < k → seB l[j]! = true) ∧ Below w.heap.size w wr) (fun i _ => l.length - (intOf i).toNat)
  case atStart => exact ⟨0, Nat.zero_le _, rfl, fun j hj => absurd hj (by omega), Below.refl _ _⟩
  case round =>
    obtain ⟨k, hk, rfl, ha, hB⟩ := hrel
    by_cases hlt : k < l.length
    · have d1 : decide ((k : Int) < (l.length : Int)) = true := by simpa using hlt
      obtain ⟨g, sf, sq, rfl, hg, hek, c0, c1⟩ := (HX.out.below hB).at k hlt
      have HK : Hid (seB l[k]! = (inAddr sf && inTime sq)) := by show _ = _; rw [get_bangS l k hlt, hek]; rfl
      have HBad : Hid (seB l[k]! = false → RES = false) := fun h => HB1.out k hlt (by rw [h]; rfl)
      have HNx : Hid (seB l[k]! = true → ∀ j, j < k + 1 → seB l[j]! = true) := fun h j hjk => by
        rcases Nat.lt_or_ge j k with h' | h'
        · exact ha j h'
        · obtain rfl : j = k := by omega
          exact h
      have hB := hB.alloc hB.size (.cells #[.int .i64 sf, .int .i64 sq] 182)
      have HIk : Hid (∀ w, Calls Tryz.prog 162 #[.int .i64 sf] w fun e w' => e = .returned (.bool (inAddr sf)) ∧ w = w') := HI.out sf
      have HTk : Hid (∀ w, Calls Tryz.prog 55 #[.int .i64 sq] w fun e w' => e = .returned (.bool (inTime sq)) ∧ w = w') := HT.out sq
      have HBB : Hid _ := hB
      clear HB1 HG ha hek hB HI HT HR
      generalize seB l[k]! = SB at *
      generalize inAddr sf = A1 at *
      generalize inTime sq = A2 at *
      go_wp2_with fail
      refine (HIk.out _).mono ?_
      rintro e w2 ⟨rfl, rfl⟩
      cases A1
      · have hR := HBad.out HK.out
        go_wp2
        go_ret
        exact ⟨by first | rfl | (rw [hR]; rfl), HBB.out⟩
      · go_wp2_with fail
        refine (HTk.out _).mono ?_
        rintro e w2 ⟨rfl, rfl⟩
        cases A2
        · have hR := HBad.out HK.out
          go_wp2
          go_ret
          exact ⟨by first | rfl | (rw [hR]; rfl), HBB.out⟩
        · have HNN : Hid _ := HNx.out HK.out
          clear HNx HBad HIk HTk
          go_wp2_with fail
          clear c0 c1
          go_roundw
          case rel => exact ⟨k + 1, hlt, by go_num, HNN.out, HBB.out⟩
          case measure => simp [intOf]; omega
    · obtain rfl : k = l.length := by omega
      have d1 : decide ((l.length : Int) < (l.length : Int)) = false := by simp
      have HA : Hid (∀ j, j < l.length → seB l[j]! = true) := ha
      have HB : Hid _ := hB
      clear hlt hk ha hB HI HT
      go_wp2_with fail
      refine (HR.out _ (HX.out.below HB.out)).mono ?_
      rintro e w1 ⟨⟨R, rfl, hr1, hr2⟩, hb1⟩
      have hB := HB.out.trans (hb1.mono HB.out.size)
      have HF : Hid (R = RES) := by
        cases R
        · obtain ⟨j, hj, hu⟩ := hr2 rfl
          exact (HB1.out j hj (by rw [hu, Bool.and_false])).symm
        · exact (HG.out h4 (fun j hj => by rw [HA.out j hj, hr1 rfl j hj]; rfl)).symm
      clear hr1 hr2 hb1 HR HB HB1 HG
      go_wp2
      go_ret
      exact ⟨by rw [← HF.out]; rfl, hB⟩
end Go.Proofs.YtialedffpaoacaaGreatDoor
/- Right lists of who was heard, of the model. (Written by gen_tnr.py.) -/
namespace Go.Proofs.YtialedffpaoacaaGreatDoor
open Go.RowKit Go.Sort

set_option maxRecDepth 100000 in
set_option maxHeartbeats 2000000 in
theorem specHeard_any (p : Option Addr) (cap : Nat) (l : List Se) (w : World) (h : SesIn w p l) (hn : l.length ≤ 100000000) :
    Calls Tryz.prog 82 #[.slice p l.length cap] w fun e w' => e = .returned (.bool (heardB l)) ∧ Below w.heap.size w w' := by
  have HX : Hid (SesIn w p l) := h
  have HI : Hid (∀ a w, Calls Tryz.prog 125 #[.int .i64 a] w fun e w' => e = .returned (.bool (inAddr a)) ∧ Below w.heap.size w w') := fun a w => (l03Addr_any a w).mono (by rintro e w' ⟨rfl, rfl⟩; exact ⟨rfl, Below.refl _ _⟩)
  have HT : Hid (∀ a w, Calls Tryz.prog 41 #[.int .i64 a] w fun e w' => e = .returned (.bool (inTime a)) ∧ Below w.heap.size w w') := fun a w => (l03Time_any a w).mono (by rintro e w' ⟨rfl, rfl⟩; exact ⟨rfl, Below.refl _ _⟩)
  have HB1 : Hid (∀ k, k < l.length → (seB l[k]! && seUp l k) = false → heardB l = false) := fun k hk h => heardB_bad hk h
  have HG : Hid (l.length ≤ 8 → (∀ j, j < l.length → (seB l[j]! && seUp l j) = true) → heardB l = true) := fun a b => heardB_good a b
  have HL : Hid (¬ l.length ≤ 8 → heardB l = false) := heardB_long
  clear h
  generalize heardB l = RES at *
  go_enter Tryz.func82, Tryz.ntmps82
  go_wp2_with fail
  go_loopw [3] (fun i wr => ∃ k : Nat, k ≤ l.length ∧ i = .int .i64 k ∧ (∀ j, j < k → (seB l[j]! && seUp l j) = true) ∧ Below w.heap.size w wr) (fun i _ => l.length - (intOf i).toNat)
  case atStart => exact ⟨0, Nat.zero_le _, rfl, fun j hj => absurd hj (by omega), Below.refl _ _⟩
  case round =>
    obtain ⟨k, hk, rfl, ha, hB⟩ := hrel
    by_cases hlt : k < l.length
    · have d1 : decide ((k : Int) < (l.length : Int)) = true := by simpa using hlt
      obtain ⟨g, sf, sq, rfl, hg, hek, c0, c1⟩ := (HX.out.below hB).at k hlt
      have HK : Hid (seB l[k]! = (inAddr sf && inTime sq)) := by show _ = _; rw [get_bangS l k hlt, hek]; rfl
      have HBad : Hid ((seB l[k]! && seUp l k) = false → RES = false) := fun h => HB1.out k hlt h
      have HNx : Hid ((seB l[k]! && seUp l k) = true → ∀ j, j < k + 1 → (seB l[j]! && seUp l j) = true) := fun h j hjk => by
        rcases Nat.lt_or_ge j k with h' | h'
        · exact ha j h'
        · obtain rfl : j = k := by omega
          exact h
      have HIk : Hid (∀ w, Calls Tryz.prog 125 #[.int .i64 sf] w fun e w' => e = .returned (.bool (inAddr sf)) ∧ Below w.heap.size w w') := HI.out sf
      have HTk : Hid (∀ w, Calls Tryz.prog 41 #[.int .i64 sq] w fun e w' => e = .returned (.bool (inTime sq)) ∧ Below w.heap.size w w') := HT.out sq
      obtain ⟨tf, e0, hup, hz⟩ : ∃ tf : Int, (0 < k → wr.cell? ⟨g, (k - 1) * 2, none⟩ = some (.int .i64 tf)) ∧ seUp l k = (decide (k = 0) || decide (tf < sf)) ∧ (0 < k → k - 1 < l.length) := by
        by_cases h0 : k = 0
        · exact ⟨0, fun h => absurd h (by omega), by subst h0; unfold seUp; simp, fun h => absurd h (by omega)⟩
        · obtain ⟨g', tf, tq, e', hg', hek', e0, e1⟩ := (HX.out.below hB).at (k - 1) (by omega)
          cases e'
          refine ⟨tf, fun _ => e0, ?_, fun _ => by omega⟩
          unfold seUp
          rw [get_bangS l k hlt, get_bangS l (k - 1) (by omega), hek, hek', ← Bool.decide_or]
      clear HB1 HG HL ha hek HI HT
      generalize seB l[k]! = SB at *
      generalize seUp l k = SU at *
      replace c0 := cell_regrown c0
      replace c1 := cell_regrown c1
      have HBB : Hid _ := hB
      generalize inAddr sf = A1 at *
      generalize inTime sq = A2 at *
      cases A1
      · have hR := HBad.out (by rw [HK.out]; rfl)
        clear HBad HNx HK hup hB
        go_wp2_with fail
        refine wp_region_quiet_below (by kernel_rfl) (by kernel_rfl) ?_
        repeat (go_big_quiet_step ((go_at_call 125; exact Calls.regrown_of (HIk.out _))))
        refine wpQuiet_nil ?_
        intro w1 hw'
        obtain ⟨⟨dq, osq⟩, hw''⟩ := hw'
        have hbq := below_regrown wr dq osq
        rw [← hw''] at hbq
        have hB := HBB.out.trans (hbq.mono HBB.out.size)
        clear hw'' osq dq c0 c1 e0 HIk HTk hbq
        go_wp2
        go_ret
        exact ⟨by first | rfl | (rw [hR]; rfl), hB⟩
      · cases A2
        · have hR := HBad.out (by rw [HK.out]; rfl)
          clear HBad HNx HK hup hB
          go_wp2_with fail
          refine wp_region_quiet_below (by kernel_rfl) (by kernel_rfl) ?_
          repeat (go_big_quiet_step (first | (go_at_call 125; exact Calls.regrown_of (HIk.out _)) | (go_at_call 41; exact Calls.regrown_of (HTk.out _))))
          refine wpQuiet_nil ?_
          intro w1 hw'
          obtain ⟨⟨dq, osq⟩, hw''⟩ := hw'
          have hbq := below_regrown wr dq osq
          rw [← hw''] at hbq
          have hB := HBB.out.trans (hbq.mono HBB.out.size)
          clear hw'' osq dq c0 c1 e0 HIk HTk hbq
          go_wp2
          go_ret
          exact ⟨by first | rfl | (rw [hR]; rfl), hB⟩
        · by_cases h0 : k = 0
          · have zk : decide (0 < (k : Int)) = false := by simp; omega
            have zk' : decide (0 < k) = false := by simp; omega
            have HNN : Hid _ := HNx.out (by rw [HK.out, hup, decide_eq_true h0]; rfl)
            clear HBad HNx HK hup hB e0 hz h0
            go_wp2_with fail
            refine wp_region_quiet_below (by kernel_rfl) (by kernel_rfl) ?_
            repeat (go_big_quiet_step (first | (go_at_call 125; exact Calls.regrown_of (HIk.out _)) | (go_at_call 41; exact Calls.regrown_of (HTk.out _))))
            refine wpQuiet_nil ?_
            intro w1 hw'
            obtain ⟨⟨dq, osq⟩, hw''⟩ := hw'
            have hbq := below_regrown wr dq osq
            rw [← hw''] at hbq
            have hB : Hid _ := HBB.out.trans (hbq.mono HBB.out.size)
            clear hw'' osq dq c0 c1 HIk HTk hbq
            go_wp2
            go_roundw
            case rel => exact ⟨k + 1, hlt, by go_num, HNN.out, hB.out⟩
            case measure => simp [intOf]; omega
          · have e0 := cell_regrown (e0 (by omega))
            have z5 := hz (by omega)
            have zk : decide (0 < (k : Int)) = true := by simp; omega
            have zk' : decide (0 < k) = true := by simp; omega
            have z2 : IntKind.i64.wrap ((k : Int) - 1) = ((k - 1 : Nat) : Int) := by rw [wrap_i64_in _ (by omega) (by omega)]; omega
            have z3 : (k : Int) - 1 = ((k - 1 : Nat) : Int) := by omega
            have z4 : decide (((k - 1 : Nat) : Int) < (l.length : Int)) = true := by simp; omega
            by_cases hu : tf < sf
            · have zu : decide (sf ≤ tf) = false := by simp; omega
              have HNN : Hid _ := HNx.out (by rw [HK.out, hup, decide_eq_true hu, Bool.or_true]; rfl)
              clear HBad HNx HK hup hB hz
              go_wp2_with fail
              refine wp_region_quiet_below (by kernel_rfl) (by kernel_rfl) ?_
              repeat (go_big_quiet_step (first | (go_at_call 125; exact Calls.regrown_of (HIk.out _)) | (go_at_call 41; exact Calls.regrown_of (HTk.out _))))
              refine wpQuiet_nil ?_
              intro w1 hw'
              obtain ⟨⟨dq, osq⟩, hw''⟩ := hw'
              have hbq := below_regrown wr dq osq
              rw [← hw''] at hbq
              have hB : Hid _ := HBB.out.trans (hbq.mono HBB.out.size)
              clear hw'' osq dq c0 c1 e0 HIk HTk hbq
              go_wp2
              go_roundw
              case rel => exact ⟨k + 1, hlt, by go_num, HNN.out, hB.out⟩
              case measure => simp [intOf]; omega
            · have zu : decide (sf ≤ tf) = true := by simp; omega
              have hR := HBad.out (by rw [HK.out, hup, decide_eq_false hu, decide_eq_false h0]; rfl)
              clear HBad HNx HK hup hB hz
              go_wp2_with fail
              refine wp_region_quiet_below (by kernel_rfl) (by kernel_rfl) ?_
              repeat (go_big_quiet_step (first | (go_at_call 125; exact Calls.regrown_of (HIk.out _)) | (go_at_call 41; exact Calls.regrown_of (HTk.out _))))
              refine wpQuiet_nil ?_
              intro w1 hw'
              obtain ⟨⟨dq, osq⟩, hw''⟩ := hw'
              have hbq := below_regrown wr dq osq
              rw [← hw''] at hbq
              have hB := HBB.out.trans (hbq.mono HBB.out.size)
              clear hw'' osq dq c0 c1 e0 HIk HTk hbq
              go_wp2
              go_ret
              exact ⟨by first | rfl | (rw [hR]; rfl), hB⟩
    · obtain rfl : k = l.length := by omega
      have d1 : decide ((l.length : Int) < (l.length : Int)) = false := by simp
      clear hlt hk HX HI HT
      by_cases h8 : l.length ≤ 8
      · have d8 : decide ((l.length : Int) ≤ 8) = true := by simp; omega
        have hR := HG.out h8 ha
        clear HG HL HB1 ha
        go_wp2
        go_ret
        exact ⟨by first | rfl | (rw [hR]; rfl), hB⟩
      · have d8 : decide ((l.length : Int) ≤ 8) = false := by simp; omega
        have hR := HL.out h8
        clear HG HL HB1 ha
        go_wp2
        go_ret
        exact ⟨by first | rfl | (rw [hR]; rfl), hB⟩
end Go.Proofs.YtialedffpaoacaaGreatDoor
