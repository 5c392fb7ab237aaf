/- Texts that stand on each other, in one file: OwnG, LawB, Iff, ToIf, ToRt, Li, EqLi, WaysM, SortI, SortM, EnI, Bell. -/
import Derived.Test.YtcnadobnihbldaaGreatPack10
import Derived.Test.YtcnadobnihbldaaGreatPack11
import Derived.Lib.QuietBelow
import Derived.BigQuiet
import Derived.Test.YtcnadobnihbldaaGreatPack3
/- Owned lists of any kind: opened, shut, kept. (Written by gen_markiv.py.) -/
namespace Go.Proofs.YtcnadobnihbldaaGreat
open Go.RowKit Go.Sort

theorem owns_opened {w : World} {base sz : Nat} {ty : TypeId} {p : Option Addr} {cv n : Nat} {xs : List Value} (h : w.ownsRow base ty sz (.slice p n cv) n xs) : n = 0 ∨ ∃ g rest, p = some ⟨g, 0, none⟩ ∧ base ≤ g ∧ n ≤ cv ∧ cv ≤ maxLen ∧ Row w g ty (xs ++ rest) ∧ (xs ++ rest).length = cv * sz := by
  rcases h.2 with ⟨_, h2⟩ | ⟨g, cap, cur, h1, h2, h3, h4, h5, h6, h7⟩
  · exact .inl h2
  · simp only [Value.slice.injEq] at h1
    obtain ⟨rfl, -, rfl⟩ := h1
    refine .inr ⟨g, cur.toList.drop (n * sz), rfl, h2, h4, h5, ?_, ?_⟩
    · unfold Row
      rw [← h7, List.take_append_drop]
      simpa using h3
    · rw [← h7, List.take_append_drop]
      simpa using h6
theorem owns_shut {w : World} {base sz g n cv : Nat} {ty : TypeId} {xs rest : List Value} (hx : xs.length = n * sz) (hb : base ≤ g) (h4 : n ≤ cv) (h5 : cv ≤ maxLen) (hr : Row w g ty (xs ++ rest)) (hl : (xs ++ rest).length = cv * sz) : w.ownsRow base ty sz (.slice (some ⟨g, 0, none⟩) n cv) n xs := by
  refine ⟨hx, .inr ⟨g, cv, (xs ++ rest).toArray, rfl, hb, hr, h4, h5, by simpa using hl, ?_⟩⟩
  simp only [List.take_append_of_le_length (show n * sz ≤ xs.length by omega)]
  rw [List.take_of_length_le (by omega)]
theorem owns_kept {w w' : World} {base sz : Nat} {ty : TypeId} {p : Option Addr} {n cv : Nat} {xs : List Value} (h : w.ownsRow base ty sz (.slice p n cv) n xs) (hk : ∀ b t l, p = some ⟨b, 0, none⟩ → Row w b t l → Row w' b t l) : w'.ownsRow base ty sz (.slice p n cv) n xs := by
  refine ⟨h.1, ?_⟩
  rcases h.2 with h2 | ⟨g, cap, cur, h1, h2, h3, h4⟩
  · exact .inl h2
  · have h1' := h1
    simp only [Value.slice.injEq] at h1'
    refine .inr ⟨g, cap, cur, h1, h2, ?_, h4⟩
    have := hk g ty cur.toList h1'.1 (by unfold Row; simpa using h3)
    unfold Row at this
    simpa using this
theorem owns_ne {w : World} {base sz n cv g : Nat} {ty t : TypeId} {p : Option Addr} {xs l : List Value} (h : w.ownsRow base ty sz (.slice p n cv) n xs) (hr : Row w g t l) (ht : t ≠ ty) : p ≠ some ⟨g, 0, none⟩ := by
  rintro rfl
  rcases h.2 with ⟨h1, _⟩ | ⟨g', cap, cur, h1, h2, h3, _⟩
  · cases h1
  · simp only [Value.slice.injEq, Option.some.injEq, Addr.mk.injEq, and_true] at h1
    obtain ⟨rfl, _, _⟩ := h1
    rw [show w.heap[g]? = _ from hr] at h3
    simp only [Option.some.injEq, Obj.cells.injEq] at h3
    exact ht h3.2.1
theorem owns_below {w w' : World} {base sz n : Nat} {ty : TypeId} {v : Value} {xs : List Value} (h : w.ownsRow base ty sz v n xs) (hb : Below w.heap.size w w') : w'.ownsRow base ty sz v n xs := by
  obtain ⟨h1, h2⟩ := h
  refine ⟨h1, ?_⟩
  rcases h2 with h2 | ⟨g, cap, cur, e, hbg, hg, rest⟩
  · exact .inl h2
  · exact .inr ⟨g, cap, cur, e, hbg, (hb.block g (Array.getElem?_eq_some_iff.1 hg).1).trans hg, rest⟩
theorem owns_mono {w : World} {base base' sz n : Nat} {ty : TypeId} {v : Value} {xs : List Value} (h : w.ownsRow base ty sz v n xs) (hb : base' ≤ base) : w.ownsRow base' ty sz v n xs := by
  obtain ⟨h1, h2⟩ := h
  refine ⟨h1, ?_⟩
  rcases h2 with h2 | ⟨g, cap, cur, e, hbg, rest⟩
  · exact .inl h2
  · exact .inr ⟨g, cap, cur, e, by omega, rest⟩
theorem owns_lt {w : World} {base sz n cv : Nat} {ty : TypeId} {p : Option Addr} {xs : List Value} (h : w.ownsRow base ty sz (.slice p n cv) n xs) : ∀ b, p = some ⟨b, 0, none⟩ → b < w.heap.size := by
  rintro b rfl
  rcases h.2 with ⟨h1, _⟩ | ⟨g', cap, cur, h1, h2, h3, _⟩
  · cases h1
  · simp only [Value.slice.injEq, Option.some.injEq, Addr.mk.injEq, and_true] at h1
    obtain ⟨rfl, _, _⟩ := h1
    exact (Array.getElem?_eq_some_iff.1 h3).1
theorem owns_ge {w : World} {base sz n cv : Nat} {ty : TypeId} {p : Option Addr} {xs : List Value} (h : w.ownsRow base ty sz (.slice p n cv) n xs) : ∀ b, p = some ⟨b, 0, none⟩ → base ≤ b := by
  rintro b rfl
  rcases h.2 with ⟨h1, _⟩ | ⟨g', cap, cur, h1, h2, h3, _⟩
  · cases h1
  · simp only [Value.slice.injEq, Option.some.injEq, Addr.mk.injEq, and_true] at h1
    obtain ⟨rfl, _, _⟩ := h1
    exact h2
end Go.Proofs.YtcnadobnihbldaaGreat
/- What every walk of a law over an answer that owns its memory needs: what a call changed, by blocks. (By hand.) -/
namespace Go.Proofs.YtcnadobnihbldaaGreat
open Go.RowKit Go.Sort

/-- A call changed blocks from lo on, but none that lies at hi or behind. -/
def Chg (lo hi : Nat) (w w' : World) : Prop := Below lo w w' ∧ ∀ b t l, hi ≤ b → Row w b t l → Row w' b t l
theorem Chg.row {lo hi : Nat} {w w' : World} (h : Chg lo hi w w') {b : Nat} {t : TypeId} {l : List Value} (hr : Row w b t l) (hb : b < lo ∨ hi ≤ b) : Row w' b t l := by
  rcases hb with hb | hb
  · exact hr.below h.1 hb
  · exact h.2 b t l hb hr
theorem Chg.size {lo hi : Nat} {w w' : World} (h : Chg lo hi w w') : w.heap.size ≤ w'.heap.size := h.1.size
end Go.Proofs.YtcnadobnihbldaaGreat
/- An Iface: its value; right, by the program and by the model. (Written by gen_if.py.) -/
namespace Go.Proofs.YtcnadobnihbldaaGreat
open Go.RowKit Go.Sort

/-- An Iface: its address, its net (address and length), its cost, whether it is up. -/
structure If where
  d : Int
  a : Int
  l : Int
  c : Int
  u : Bool
deriving Inhabited
def ifA (f : If) : Array Value := #[.int .i64 f.d, .int .i64 f.a, .int .i64 f.l, .int .i64 f.c, .bool f.u]
def ifV (f : If) : Value := .agg (ifA f)
def ifB (f : If) : Bool := coversB f.a f.l f.d && (decide (1 ≤ f.c) && decide (f.c ≤ 15))
theorem box5i {w w1 : World} {x0 x1 x2 x3 x4 : Value} {t : TypeId} (h : Below (w.alloc (.cells #[x0, x1, x2, x3, x4] t)).heap.size (w.alloc (.cells #[x0, x1, x2, x3, x4] t)) w1) :
    w1.cell? ⟨w.heap.size, 0, none⟩ = some x0 ∧ w1.cell? ⟨w.heap.size, 1, none⟩ = some x1 ∧ w1.cell? ⟨w.heap.size, 2, none⟩ = some x2 ∧ w1.cell? ⟨w.heap.size, 3, none⟩ = some x3 ∧ w1.cell? ⟨w.heap.size, 4, none⟩ = some x4 ∧ Below w.heap.size w w1 := by
  have q := Row.new w t [x0, x1, x2, x3, x4]
  have q := q.below h q.lt
  exact ⟨q.cell 0, q.cell 1, q.cell 2, q.cell 3, q.cell 4, (ent_new0 w _).trans (h.mono (by simp))⟩
set_option maxRecDepth 100000 in
theorem implIface_any (f : If) (w : World) : Calls Tryz.prog 99 #[ifV f] w fun e w' => e = .returned (.bool (ifB f)) ∧ Below w.heap.size w w' := by
  have HC : Hid (∀ w, Calls Tryz.prog 136 #[.agg #[.int .i64 f.a, .int .i64 f.l], .int .i64 f.d] w fun e w' => e = .returned (.bool (coversB f.a f.l f.d)) ∧ Below w.heap.size w w') := implCovers_any f.a f.l f.d
  obtain ⟨d, a, l, c, u⟩ := f
  unfold ifV ifA ifB
  simp only at HC ⊢
  generalize coversB a l d = B at *
  go_enter Tryz.func99, Tryz.ntmps99
  go_wp2_with fail
  refine (HC.out _).mono ?_
  rintro e w1 ⟨rfl, hb1⟩
  obtain ⟨c0, c1, c2, c3, c4, hB⟩ := box5i hb1
  clear hb1 HC
  cases B
  · go_wp2
    go_ret
    exact ⟨ret_bool (by simp), hB⟩
  · by_cases h1 : 1 ≤ c
    · by_cases h2 : c ≤ 15
      · go_wp2
        go_ret
        exact ⟨ret_bool (by simp [h1, h2]), hB⟩
      · go_wp2
        go_ret
        exact ⟨ret_bool (by simp; omega), hB⟩
    · go_wp2
      go_ret
      exact ⟨ret_bool (by simp; omega), hB⟩
theorem covers_right {a l d : Int} (h : rightB a l = false) : coversB a l d = false := by
  unfold coversB
  rw [h]
  rfl
set_option maxRecDepth 100000 in
theorem specIface_any (f : If) (w : World) : Calls Tryz.prog 92 #[ifV f] w fun e w' => e = .returned (.bool (ifB f)) ∧ Below w.heap.size w w' := by
  have HR : Hid (∀ w, Calls Tryz.prog 133 #[.agg #[.int .i64 f.a, .int .i64 f.l]] w fun e w' => e = .returned (.bool (rightB f.a f.l)) ∧ Below w.heap.size w w') := specRight_any f.a f.l
  have HC : Hid (∀ w, Calls Tryz.prog 134 #[.agg #[.int .i64 f.a, .int .i64 f.l], .int .i64 f.d] w fun e w' => e = .returned (.bool (coversB f.a f.l f.d)) ∧ Below w.heap.size w w') := specCovers_any f.a f.l f.d
  have HI : Hid (∀ w, Calls Tryz.prog 26 #[.int .i64 f.c, .int .i64 1, .int .i64 15] w fun e w' => e = .returned (.bool (decide (1 ≤ f.c) && decide (f.c ≤ 15))) ∧ w = w') := fun w => (l03Is_any f.c 1 15 w).mono fun e w' h => by rw [← Bool.decide_and]; exact h
  obtain ⟨d, a, l, c, u⟩ := f
  unfold ifV ifA ifB
  simp only at HC HR HI ⊢
  have hcr := @covers_right a l d
  generalize coversB a l d = B at *
  generalize (decide (1 ≤ c) && decide (c ≤ 15)) = D at *
  go_enter Tryz.func92, Tryz.ntmps92
  go_wp2_with fail
  refine (HR.out _).mono ?_
  rintro e w1 ⟨rfl, hb1⟩
  have hb1' := hb1
  obtain ⟨c0, c1, c2, c3, c4, hB⟩ := box5i hb1
  clear HR hb1
  cases hr : rightB a l
  · have hB0 := hcr hr
    clear hcr hr HC HI
    subst hB0
    go_wp2
    go_ret
    exact ⟨rfl, hB⟩
  · clear hcr hr
    go_wp2_with fail
    refine (HC.out _).mono ?_
    rintro e w2 ⟨rfl, hb2⟩
    have hB2 := hB.trans (hb2.mono hB.size)
    obtain ⟨c0, c1, c2, c3, c4, -⟩ := box5i (hb1'.trans (hb2.mono hb1'.size))
    clear HC hb2 hB hb1'
    cases B
    · go_wp2
      go_ret
      exact ⟨rfl, hB2⟩
    · go_wp2_with fail
      refine (HI.out _).mono ?_
      rintro e w3 ⟨rfl, rfl⟩
      go_wp2
      go_ret
      exact ⟨rfl, hB2⟩
end Go.Proofs.YtcnadobnihbldaaGreat
/- An Iface handed over by the laws. (Written by gen_if.py.) -/
namespace Go.Proofs.YtcnadobnihbldaaGreat
open Go.RowKit Go.Sort

theorem three_new (w : World) (x y z : List Value) (t1 t2 t3 : TypeId) : ∃ W, W = ((w.alloc (.cells x.toArray t1)).alloc (.cells y.toArray t2)).alloc (.cells z.toArray t3) ∧ Row W w.heap.size t1 x ∧ Row W (w.heap.size + 1) t2 y ∧ Row W (w.heap.size + 1 + 1) t3 z ∧ Below w.heap.size w W ∧ W.heap.size = w.heap.size + 1 + 1 + 1 := by
  have q0 := ((Row.new w t1 x).alloc (.cells y.toArray t2)).alloc (.cells z.toArray t3)
  have q1 := (Row.new (w.alloc (.cells x.toArray t1)) t2 y).alloc (.cells z.toArray t3)
  have q2 := Row.new ((w.alloc (.cells x.toArray t1)).alloc (.cells y.toArray t2)) t3 z
  rw [show (w.alloc (.cells x.toArray t1)).heap.size = w.heap.size + 1 by simp] at q1
  rw [show ((w.alloc (.cells x.toArray t1)).alloc (.cells y.toArray t2)).heap.size = w.heap.size + 1 + 1 by simp] at q2
  exact ⟨_, rfl, q0, q1, q2, ((ent_new0 w _).alloc (by simp) _).alloc (by simp; omega) _, by simp⟩
set_option maxRecDepth 100000 in
set_option maxHeartbeats 1000000 in
theorem toIface_any (f : If) (w : World) : Calls Tryz.prog 144 #[ifV f] w fun e w' => e = .returned (ifV f) ∧ Below w.heap.size w w' := by
  have HT : Hid (∀ w, Calls Tryz.prog 168 #[.agg #[.int .i64 f.a, .int .i64 f.l]] w fun e w' => e = .returned (.agg #[.int .i64 f.a, .int .i64 f.l]) ∧ Below w.heap.size w w') := toNet_any f.a f.l
  obtain ⟨d, a, l, c, u⟩ := f
  unfold ifV ifA
  simp only at HT ⊢
  obtain ⟨W, hW, q0, q1, q2, hB, hS⟩ := three_new w [.int .i64 d, .int .i64 a, .int .i64 l, .int .i64 c, .bool u] [.int .i64 0, .int .i64 0, .int .i64 0, .int .i64 0, .bool false] [.int .i64 d, .int .i64 0, .int .i64 0, .int .i64 0, .bool false] 197 53 53
  have HW : Hid _ := hW
  have HQ : Hid _ := And.intro q0 (And.intro q1 (And.intro q2 (And.intro hB hS)))
  clear hW q0 q1 q2 hB hS
  go_enter Tryz.func144, Tryz.ntmps144
  go_wp2_with fail
  refine (HT.out _).mono ?_
  rintro e w1 ⟨rfl, hb1⟩
  rw [← HW.out] at hb1
  obtain ⟨q0, q1, q2, hB, hS⟩ := HQ.out
  have p0 := q0.below hb1 q0.lt
  have p1 := q1.below hb1 q1.lt
  have p2 := q2.below hb1 q2.lt
  have hB := hB.trans (hb1.mono (by omega))
  clear q0 q1 q2 hb1 HW HQ HT
  have a0 : w1.cell? ⟨w.heap.size, 0, none⟩ = some (.int .i64 d) := p0.cell 0
  have a1 : w1.cell? ⟨w.heap.size, 1, none⟩ = some (.int .i64 a) := p0.cell 1
  have a2 : w1.cell? ⟨w.heap.size, 2, none⟩ = some (.int .i64 l) := p0.cell 2
  have a3 : w1.cell? ⟨w.heap.size, 3, none⟩ = some (.int .i64 c) := p0.cell 3
  have a4 : w1.cell? ⟨w.heap.size, 4, none⟩ = some (.bool u) := p0.cell 4
  have b0 : w1.cell? ⟨w.heap.size + 1, 0, none⟩ = some (.int .i64 0) := p1.cell 0
  have f0 := p1.frozen 0
  have b1 : w1.cell? ⟨w.heap.size + 1, 1, none⟩ = some (.int .i64 0) := p1.cell 1
  have f1 := p1.frozen 1
  have b2 : w1.cell? ⟨w.heap.size + 1, 2, none⟩ = some (.int .i64 0) := p1.cell 2
  have f2 := p1.frozen 2
  have b3 : w1.cell? ⟨w.heap.size + 1, 3, none⟩ = some (.int .i64 0) := p1.cell 3
  have f3 := p1.frozen 3
  have b4 : w1.cell? ⟨w.heap.size + 1, 4, none⟩ = some (.bool false) := p1.cell 4
  have f4 := p1.frozen 4
  have d0 : w1.cell? ⟨w.heap.size + 1 + 1, 0, none⟩ = some (.int .i64 d) := p2.cell 0
  have g0 := p2.frozen 0
  have d1 : w1.cell? ⟨w.heap.size + 1 + 1, 1, none⟩ = some (.int .i64 0) := p2.cell 1
  have g1 := p2.frozen 1
  have d2 : w1.cell? ⟨w.heap.size + 1 + 1, 2, none⟩ = some (.int .i64 0) := p2.cell 2
  have g2 := p2.frozen 2
  have d3 : w1.cell? ⟨w.heap.size + 1 + 1, 3, none⟩ = some (.int .i64 0) := p2.cell 3
  have g3 := p2.frozen 3
  have d4 : w1.cell? ⟨w.heap.size + 1 + 1, 4, none⟩ = some (.bool false) := p2.cell 4
  have g4 := p2.frozen 4
  have HE : Hid (Row ((((((((((w1.setCell ⟨w.heap.size + 1 + 1, 1, none⟩ (.int .i64 a)).setCell ⟨w.heap.size + 1 + 1, 2, none⟩ (.int .i64 l)).setCell ⟨w.heap.size + 1 + 1, 3, none⟩ (.int .i64 c)).setCell ⟨w.heap.size + 1 + 1, 4, none⟩ (.bool u)).setCell ⟨w.heap.size + 1, 0, none⟩ (.int .i64 d)).setCell ⟨w.heap.size + 1, 1, none⟩ (.int .i64 a)).setCell ⟨w.heap.size + 1, 2, none⟩ (.int .i64 l)).setCell ⟨w.heap.size + 1, 3, none⟩ (.int .i64 c)).setCell ⟨w.heap.size + 1, 4, none⟩ (.bool u))) (w.heap.size + 1) 53 [.int .i64 d, .int .i64 a, .int .i64 l, .int .i64 c, .bool u] ∧ Below w.heap.size w ((((((((((w1.setCell ⟨w.heap.size + 1 + 1, 1, none⟩ (.int .i64 a)).setCell ⟨w.heap.size + 1 + 1, 2, none⟩ (.int .i64 l)).setCell ⟨w.heap.size + 1 + 1, 3, none⟩ (.int .i64 c)).setCell ⟨w.heap.size + 1 + 1, 4, none⟩ (.bool u)).setCell ⟨w.heap.size + 1, 0, none⟩ (.int .i64 d)).setCell ⟨w.heap.size + 1, 1, none⟩ (.int .i64 a)).setCell ⟨w.heap.size + 1, 2, none⟩ (.int .i64 l)).setCell ⟨w.heap.size + 1, 3, none⟩ (.int .i64 c)).setCell ⟨w.heap.size + 1, 4, none⟩ (.bool u)))) := ⟨(((((((((p1.other 1 (.int .i64 a) (by omega)).other 2 (.int .i64 l) (by omega)).other 3 (.int .i64 c) (by omega)).other 4 (.bool u) (by omega)).set 0 (.int .i64 d)).set 1 (.int .i64 a)).set 2 (.int .i64 l)).set 3 (.int .i64 c)).set 4 (.bool u)), (((((((((hB.setCell (p := ⟨w.heap.size + 1 + 1, 1, none⟩) (by show w.heap.size ≤ w.heap.size + 1 + 1; omega) (.int .i64 a)).setCell (p := ⟨w.heap.size + 1 + 1, 2, none⟩) (by show w.heap.size ≤ w.heap.size + 1 + 1; omega) (.int .i64 l)).setCell (p := ⟨w.heap.size + 1 + 1, 3, none⟩) (by show w.heap.size ≤ w.heap.size + 1 + 1; omega) (.int .i64 c)).setCell (p := ⟨w.heap.size + 1 + 1, 4, none⟩) (by show w.heap.size ≤ w.heap.size + 1 + 1; omega) (.bool u)).setCell (p := ⟨w.heap.size + 1, 0, none⟩) (by show w.heap.size ≤ w.heap.size + 1; omega) (.int .i64 d)).setCell (p := ⟨w.heap.size + 1, 1, none⟩) (by show w.heap.size ≤ w.heap.size + 1; omega) (.int .i64 a)).setCell (p := ⟨w.heap.size + 1, 2, none⟩) (by show w.heap.size ≤ w.heap.size + 1; omega) (.int .i64 l)).setCell (p := ⟨w.heap.size + 1, 3, none⟩) (by show w.heap.size ≤ w.heap.size + 1; omega) (.int .i64 c)).setCell (p := ⟨w.heap.size + 1, 4, none⟩) (by show w.heap.size ≤ w.heap.size + 1; omega) (.bool u))⟩
  clear p0 p1 p2 hB
  go_wp2_with fail
  obtain ⟨h1, h2⟩ := HE.out
  clear HE a0 b0 d0 f0 g0 a1 b1 d1 f1 g1 a2 b2 d2 f2 g2 a3 b3 d3 f3 g3 a4 b4 d4 f4 g4
  generalize (((((((((w1.setCell ⟨w.heap.size + 1 + 1, 1, none⟩ (.int .i64 a)).setCell ⟨w.heap.size + 1 + 1, 2, none⟩ (.int .i64 l)).setCell ⟨w.heap.size + 1 + 1, 3, none⟩ (.int .i64 c)).setCell ⟨w.heap.size + 1 + 1, 4, none⟩ (.bool u)).setCell ⟨w.heap.size + 1, 0, none⟩ (.int .i64 d)).setCell ⟨w.heap.size + 1, 1, none⟩ (.int .i64 a)).setCell ⟨w.heap.size + 1, 2, none⟩ (.int .i64 l)).setCell ⟨w.heap.size + 1, 3, none⟩ (.int .i64 c)).setCell ⟨w.heap.size + 1, 4, none⟩ (.bool u)) = Y at *
  have e0 : Y.cell? ⟨w.heap.size + 1, 0, none⟩ = some (.int .i64 d) := h1.cell 0
  have e1 : Y.cell? ⟨w.heap.size + 1, 1, none⟩ = some (.int .i64 a) := h1.cell 1
  have e2 : Y.cell? ⟨w.heap.size + 1, 2, none⟩ = some (.int .i64 l) := h1.cell 2
  have e3 : Y.cell? ⟨w.heap.size + 1, 3, none⟩ = some (.int .i64 c) := h1.cell 3
  have e4 : Y.cell? ⟨w.heap.size + 1, 4, none⟩ = some (.bool u) := h1.cell 4
  exact bodyPost_ret (v := .agg #[.int .i64 d, .int .i64 a, .int .i64 l, .int .i64 c, .bool u]) (by simp [results, Tryz.results144, go_sem, e0, e1, e2, e3, e4]) rfl ⟨rfl, h2⟩
end Go.Proofs.YtcnadobnihbldaaGreat
/- The laws' own routes, handed over. (Written by gen_rts.py.) -/
namespace Go.Proofs.YtcnadobnihbldaaGreat
open Go.RowKit Go.Sort

/-- Nine stores one behind the other into one block. -/
def nine (w : World) (g o : Nat) (x0 x1 x2 x3 x4 x5 x6 x7 x8 : Value) : World := (((((((((w.setCell ⟨g, o, none⟩ x0).setCell ⟨g, o + 1, none⟩ x1).setCell ⟨g, o + 2, none⟩ x2).setCell ⟨g, o + 3, none⟩ x3).setCell ⟨g, o + 4, none⟩ x4).setCell ⟨g, o + 5, none⟩ x5).setCell ⟨g, o + 6, none⟩ x6).setCell ⟨g, o + 7, none⟩ x7).setCell ⟨g, o + 8, none⟩ x8)
theorem nine_below {B : Nat} {w0 w : World} (h : Below B w0 w) (g o : Nat) (hg : B ≤ g) (x0 x1 x2 x3 x4 x5 x6 x7 x8 : Value) : Below B w0 (nine w g o x0 x1 x2 x3 x4 x5 x6 x7 x8) :=
  ((((((((h.setCell (p := ⟨g, o, none⟩) hg x0).setCell (p := ⟨g, o + 1, none⟩) hg x1).setCell (p := ⟨g, o + 2, none⟩) hg x2).setCell (p := ⟨g, o + 3, none⟩) hg x3).setCell (p := ⟨g, o + 4, none⟩) hg x4).setCell (p := ⟨g, o + 5, none⟩) hg x5).setCell (p := ⟨g, o + 6, none⟩) hg x6).setCell (p := ⟨g, o + 7, none⟩) hg x7).setCell (p := ⟨g, o + 8, none⟩) hg x8
theorem nine_row {w : World} {g : Nat} {t : TypeId} {l : List Value} (h : Row w g t l) (o : Nat) (x0 x1 x2 x3 x4 x5 x6 x7 x8 : Value) : Row (nine w g o x0 x1 x2 x3 x4 x5 x6 x7 x8) g t ((((((((((l.set o x0).set (o + 1) x1).set (o + 2) x2).set (o + 3) x3).set (o + 4) x4).set (o + 5) x5).set (o + 6) x6).set (o + 7) x7).set (o + 8) x8)) :=
  (((((((((h.set o x0).set (o + 1) x1).set (o + 2) x2).set (o + 3) x3).set (o + 4) x4).set (o + 5) x5).set (o + 6) x6).set (o + 7) x7).set (o + 8) x8)
theorem nine_other {w : World} {b g : Nat} {t : TypeId} {l : List Value} (h : Row w b t l) (hne : b ≠ g) (o : Nat) (x0 x1 x2 x3 x4 x5 x6 x7 x8 : Value) : Row (nine w g o x0 x1 x2 x3 x4 x5 x6 x7 x8) b t l :=
  (((((((((h.other o x0 hne).other (o + 1) x1 hne).other (o + 2) x2 hne).other (o + 3) x3 hne).other (o + 4) x4 hne).other (o + 5) x5 hne).other (o + 6) x6 hne).other (o + 7) x7 hne).other (o + 8) x8 hne)
def nine0 (w : World) (g : Nat) (x0 x1 x2 x3 x4 x5 x6 x7 x8 : Value) : World := (((((((((w.setCell ⟨g, 0, none⟩ x0).setCell ⟨g, 1, none⟩ x1).setCell ⟨g, 2, none⟩ x2).setCell ⟨g, 3, none⟩ x3).setCell ⟨g, 4, none⟩ x4).setCell ⟨g, 5, none⟩ x5).setCell ⟨g, 6, none⟩ x6).setCell ⟨g, 7, none⟩ x7).setCell ⟨g, 8, none⟩ x8)
theorem nine0_below {B : Nat} {w0 w : World} (h : Below B w0 w) (g : Nat) (hg : B ≤ g) (x0 x1 x2 x3 x4 x5 x6 x7 x8 : Value) : Below B w0 (nine0 w g x0 x1 x2 x3 x4 x5 x6 x7 x8) :=
  ((((((((h.setCell (p := ⟨g, 0, none⟩) hg x0).setCell (p := ⟨g, 1, none⟩) hg x1).setCell (p := ⟨g, 2, none⟩) hg x2).setCell (p := ⟨g, 3, none⟩) hg x3).setCell (p := ⟨g, 4, none⟩) hg x4).setCell (p := ⟨g, 5, none⟩) hg x5).setCell (p := ⟨g, 6, none⟩) hg x6).setCell (p := ⟨g, 7, none⟩) hg x7).setCell (p := ⟨g, 8, none⟩) hg x8
theorem nine0_row {w : World} {g : Nat} {t : TypeId} {y0 y1 y2 y3 y4 y5 y6 y7 y8 : Value} (h : Row w g t [y0, y1, y2, y3, y4, y5, y6, y7, y8]) (x0 x1 x2 x3 x4 x5 x6 x7 x8 : Value) : Row (nine0 w g x0 x1 x2 x3 x4 x5 x6 x7 x8) g t [x0, x1, x2, x3, x4, x5, x6, x7, x8] := (((((((((h.set 0 x0).set 1 x1).set 2 x2).set 3 x3).set 4 x4).set 5 x5).set 6 x6).set 7 x7).set 8 x8)
theorem nine0_other {w : World} {g : Nat} {t : TypeId} {l : List Value} (h : Row w g t l) (k : Nat) (hk : g ≠ k) (x0 x1 x2 x3 x4 x5 x6 x7 x8 : Value) : Row (nine0 w k x0 x1 x2 x3 x4 x5 x6 x7 x8) g t l := (((((((((h.other 0 x0 hk).other 1 x1 hk).other 2 x2 hk).other 3 x3 hk).other 4 x4 hk).other 5 x5 hk).other 6 x6 hk).other 7 x7 hk).other 8 x8 hk)
set_option maxRecDepth 100000 in
set_option maxHeartbeats 1000000 in
theorem toRoute_any (r : Rt) (w : World) : Calls Tryz.prog 169 #[rtV r] w fun e w' => e = .returned (rtV r) ∧ Below w.heap.size w w' := by
  obtain ⟨a, l, m, n, i, t, u, b, c⟩ := r
  unfold rtV rtA
  have HT : Hid (∀ w, Calls Tryz.prog 168 #[.agg #[.int .i64 a, .int .i64 l]] w fun e w' => e = .returned (.agg #[.int .i64 a, .int .i64 l]) ∧ Below w.heap.size w w') := toNet_any a l
  go_enter Tryz.func169, Tryz.ntmps169
  go_wp2_with fail
  refine (HT.out _).mono ?_
  rintro e w1 ⟨rfl, hb1⟩
  have q0 := ((Row.new w 218 [.int .i64 a, .int .i64 l, .int .i64 m, .int .i64 n, .int .i64 i, .int .i64 t, .int .i64 u, .int .i64 b, .bool c]).alloc (.cells #[.int .i64 0, .int .i64 0, .int .i64 0, .int .i64 0, .int .i64 0, .int .i64 0, .int .i64 0, .int .i64 0, .bool false] 155)).alloc (.cells #[.int .i64 0, .int .i64 0, .int .i64 0, .int .i64 0, .int .i64 0, .int .i64 0, .int .i64 0, .int .i64 0, .bool false] 155)
  have q1 := (Row.new (w.alloc (.cells #[.int .i64 a, .int .i64 l, .int .i64 m, .int .i64 n, .int .i64 i, .int .i64 t, .int .i64 u, .int .i64 b, .bool c] 218)) 155 [.int .i64 0, .int .i64 0, .int .i64 0, .int .i64 0, .int .i64 0, .int .i64 0, .int .i64 0, .int .i64 0, .bool false]).alloc (.cells #[.int .i64 0, .int .i64 0, .int .i64 0, .int .i64 0, .int .i64 0, .int .i64 0, .int .i64 0, .int .i64 0, .bool false] 155)
  have q2 := Row.new ((w.alloc (.cells #[.int .i64 a, .int .i64 l, .int .i64 m, .int .i64 n, .int .i64 i, .int .i64 t, .int .i64 u, .int .i64 b, .bool c] 218)).alloc (.cells #[.int .i64 0, .int .i64 0, .int .i64 0, .int .i64 0, .int .i64 0, .int .i64 0, .int .i64 0, .int .i64 0, .bool false] 155)) 155 [.int .i64 0, .int .i64 0, .int .i64 0, .int .i64 0, .int .i64 0, .int .i64 0, .int .i64 0, .int .i64 0, .bool false]
  have hB : Below w.heap.size w w1 := (((ent_new0 w _).alloc (by simp) _).alloc (by simp; omega) _).trans (hb1.mono (by simp; omega))
  have p0 := q0.below hb1 q0.lt
  have p1 := q1.below hb1 q1.lt
  have p2 := q2.below hb1 q2.lt
  clear q0 q1 q2 hb1
  have h0 : (w.alloc (.cells #[.int .i64 a, .int .i64 l, .int .i64 m, .int .i64 n, .int .i64 i, .int .i64 t, .int .i64 u, .int .i64 b, .bool c] 218)).heap.size = w.heap.size + 1 := by simp
  have h1 : ((w.alloc (.cells #[.int .i64 a, .int .i64 l, .int .i64 m, .int .i64 n, .int .i64 i, .int .i64 t, .int .i64 u, .int .i64 b, .bool c] 218)).alloc (.cells #[.int .i64 0, .int .i64 0, .int .i64 0, .int .i64 0, .int .i64 0, .int .i64 0, .int .i64 0, .int .i64 0, .bool false] 155)).heap.size = w.heap.size + 1 + 1 := by simp
  rw [h0] at p1
  rw [h1] at p2
  clear h0 h1
  have a2 : w1.cell? ⟨w.heap.size, 2, none⟩ = some (.int .i64 m) := p0.cell 2
  have a3 : w1.cell? ⟨w.heap.size, 3, none⟩ = some (.int .i64 n) := p0.cell 3
  have a4 : w1.cell? ⟨w.heap.size, 4, none⟩ = some (.int .i64 i) := p0.cell 4
  have a5 : w1.cell? ⟨w.heap.size, 5, none⟩ = some (.int .i64 t) := p0.cell 5
  have a6 : w1.cell? ⟨w.heap.size, 6, none⟩ = some (.int .i64 u) := p0.cell 6
  have a7 : w1.cell? ⟨w.heap.size, 7, none⟩ = some (.int .i64 b) := p0.cell 7
  have a8 : w1.cell? ⟨w.heap.size, 8, none⟩ = some (.bool c) := p0.cell 8
  have b0 : w1.cell? ⟨w.heap.size + 1, 0, none⟩ = some (.int .i64 0) := p1.cell 0
  have b1 : w1.cell? ⟨w.heap.size + 1, 1, none⟩ = some (.int .i64 0) := p1.cell 1
  have b2 : w1.cell? ⟨w.heap.size + 1, 2, none⟩ = some (.int .i64 0) := p1.cell 2
  have b3 : w1.cell? ⟨w.heap.size + 1, 3, none⟩ = some (.int .i64 0) := p1.cell 3
  have b4 : w1.cell? ⟨w.heap.size + 1, 4, none⟩ = some (.int .i64 0) := p1.cell 4
  have b5 : w1.cell? ⟨w.heap.size + 1, 5, none⟩ = some (.int .i64 0) := p1.cell 5
  have b6 : w1.cell? ⟨w.heap.size + 1, 6, none⟩ = some (.int .i64 0) := p1.cell 6
  have b7 : w1.cell? ⟨w.heap.size + 1, 7, none⟩ = some (.int .i64 0) := p1.cell 7
  have b8 : w1.cell? ⟨w.heap.size + 1, 8, none⟩ = some (.bool false) := p1.cell 8
  have d0 : w1.cell? ⟨w.heap.size + 1 + 1, 0, none⟩ = some (.int .i64 0) := p2.cell 0
  have d1 : w1.cell? ⟨w.heap.size + 1 + 1, 1, none⟩ = some (.int .i64 0) := p2.cell 1
  have d2 : w1.cell? ⟨w.heap.size + 1 + 1, 2, none⟩ = some (.int .i64 0) := p2.cell 2
  have d3 : w1.cell? ⟨w.heap.size + 1 + 1, 3, none⟩ = some (.int .i64 0) := p2.cell 3
  have d4 : w1.cell? ⟨w.heap.size + 1 + 1, 4, none⟩ = some (.int .i64 0) := p2.cell 4
  have d5 : w1.cell? ⟨w.heap.size + 1 + 1, 5, none⟩ = some (.int .i64 0) := p2.cell 5
  have d6 : w1.cell? ⟨w.heap.size + 1 + 1, 6, none⟩ = some (.int .i64 0) := p2.cell 6
  have d7 : w1.cell? ⟨w.heap.size + 1 + 1, 7, none⟩ = some (.int .i64 0) := p2.cell 7
  have d8 : w1.cell? ⟨w.heap.size + 1 + 1, 8, none⟩ = some (.bool false) := p2.cell 8
  have f0 := p1.frozen 0
  have f1 := p1.frozen 1
  have f2 := p1.frozen 2
  have f3 := p1.frozen 3
  have f4 := p1.frozen 4
  have f5 := p1.frozen 5
  have f6 := p1.frozen 6
  have f7 := p1.frozen 7
  have f8 := p1.frozen 8
  have g0 := p2.frozen 0
  have g1 := p2.frozen 1
  have g2 := p2.frozen 2
  have g3 := p2.frozen 3
  have g4 := p2.frozen 4
  have g5 := p2.frozen 5
  have g6 := p2.frozen 6
  have g7 := p2.frozen 7
  have g8 := p2.frozen 8
  have P1 : Hid (Row w1 (w.heap.size + 1) 155 [.int .i64 0, .int .i64 0, .int .i64 0, .int .i64 0, .int .i64 0, .int .i64 0, .int .i64 0, .int .i64 0, .bool false]) := p1
  clear p0 p1 p2
  have hBB := nine0_below (nine0_below hB (w.heap.size + 1 + 1) (by omega) (.int .i64 a) (.int .i64 l) (.int .i64 m) (.int .i64 n) (.int .i64 i) (.int .i64 t) (.int .i64 u) (.int .i64 b) (.bool c)) (w.heap.size + 1) (by omega) (.int .i64 a) (.int .i64 l) (.int .i64 m) (.int .i64 n) (.int .i64 i) (.int .i64 t) (.int .i64 u) (.int .i64 b) (.bool c)
  have hRR := nine0_row (nine0_other P1.out (w.heap.size + 1 + 1) (by omega) (.int .i64 a) (.int .i64 l) (.int .i64 m) (.int .i64 n) (.int .i64 i) (.int .i64 t) (.int .i64 u) (.int .i64 b) (.bool c)) (.int .i64 a) (.int .i64 l) (.int .i64 m) (.int .i64 n) (.int .i64 i) (.int .i64 t) (.int .i64 u) (.int .i64 b) (.bool c)
  unfold nine0 at hBB hRR
  have HH : Hid _ := And.intro hBB hRR
  clear hBB hRR P1
  go_wp2_with fail
  have HH2 := HH.out
  clear HH b0 b1 b2 b3 b4 b5 b6 b7 b8 d0 d1 d2 d3 d4 d5 d6 d7 d8 f0 f1 f2 f3 f4 f5 f6 f7 f8 g0 g1 g2 g3 g4 g5 g6 g7 g8 a2 a3 a4 a5 a6 a7 a8 hB HT
  generalize ((((((((((((((((((w1.setCell ⟨w.heap.size + 1 + 1, 0, none⟩ (.int .i64 a)).setCell ⟨w.heap.size + 1 + 1, 1, none⟩ (.int .i64 l)).setCell ⟨w.heap.size + 1 + 1, 2, none⟩ (.int .i64 m)).setCell ⟨w.heap.size + 1 + 1, 3, none⟩ (.int .i64 n)).setCell ⟨w.heap.size + 1 + 1, 4, none⟩ (.int .i64 i)).setCell ⟨w.heap.size + 1 + 1, 5, none⟩ (.int .i64 t)).setCell ⟨w.heap.size + 1 + 1, 6, none⟩ (.int .i64 u)).setCell ⟨w.heap.size + 1 + 1, 7, none⟩ (.int .i64 b)).setCell ⟨w.heap.size + 1 + 1, 8, none⟩ (.bool c)).setCell ⟨w.heap.size + 1, 0, none⟩ (.int .i64 a)).setCell ⟨w.heap.size + 1, 1, none⟩ (.int .i64 l)).setCell ⟨w.heap.size + 1, 2, none⟩ (.int .i64 m)).setCell ⟨w.heap.size + 1, 3, none⟩ (.int .i64 n)).setCell ⟨w.heap.size + 1, 4, none⟩ (.int .i64 i)).setCell ⟨w.heap.size + 1, 5, none⟩ (.int .i64 t)).setCell ⟨w.heap.size + 1, 6, none⟩ (.int .i64 u)).setCell ⟨w.heap.size + 1, 7, none⟩ (.int .i64 b)).setCell ⟨w.heap.size + 1, 8, none⟩ (.bool c)) = W at *
  obtain ⟨hBB, hRR⟩ := HH2
  have b0 : W.cell? ⟨w.heap.size + 1, 0, none⟩ = some (.int .i64 a) := hRR.cell 0
  have b1 : W.cell? ⟨w.heap.size + 1, 1, none⟩ = some (.int .i64 l) := hRR.cell 1
  have b2 : W.cell? ⟨w.heap.size + 1, 2, none⟩ = some (.int .i64 m) := hRR.cell 2
  have b3 : W.cell? ⟨w.heap.size + 1, 3, none⟩ = some (.int .i64 n) := hRR.cell 3
  have b4 : W.cell? ⟨w.heap.size + 1, 4, none⟩ = some (.int .i64 i) := hRR.cell 4
  have b5 : W.cell? ⟨w.heap.size + 1, 5, none⟩ = some (.int .i64 t) := hRR.cell 5
  have b6 : W.cell? ⟨w.heap.size + 1, 6, none⟩ = some (.int .i64 u) := hRR.cell 6
  have b7 : W.cell? ⟨w.heap.size + 1, 7, none⟩ = some (.int .i64 b) := hRR.cell 7
  have b8 : W.cell? ⟨w.heap.size + 1, 8, none⟩ = some (.bool c) := hRR.cell 8
  clear hRR
  refine bodyPost_ret (v := .agg #[.int .i64 a, .int .i64 l, .int .i64 m, .int .i64 n, .int .i64 i, .int .i64 t, .int .i64 u, .int .i64 b, .bool c]) (by simp [results, Tryz.results169, go_sem, b0, b1, b2, b3, b4, b5, b6, b7, b8]) rfl ⟨rfl, hBB⟩
end Go.Proofs.YtcnadobnihbldaaGreat
/- A Link: its value; lists of them in memory. (Written by gen_flat.py.) -/
namespace Go.Proofs.YtcnadobnihbldaaGreat
open Go.RowKit Go.Sort

/-- A Link: router, iface; router, iface. -/
structure Li where
  la : Int
  lx : Int
  lb : Int
  ly : Int
deriving Inhabited
def liV (f : Li) : Value := .agg #[.int .i64 f.la, .int .i64 f.lx, .int .i64 f.lb, .int .i64 f.ly]
def liL (f : Li) : List Value := [.int .i64 f.la, .int .i64 f.lx, .int .i64 f.lb, .int .i64 f.ly]
def rowLi (rs : List Li) : List Value := rs.flatMap liL
theorem liL_length (r : Li) : (liL r).length = 4 := rfl
theorem rowLi_length (rs : List Li) : (rowLi rs).length = 4 * rs.length := by
  induction rs with
  | nil => rfl
  | cons e es ih => simp only [rowLi, List.flatMap_cons, List.length_append, List.length_cons] at ih ⊢; rw [ih, liL_length]; omega
theorem rowLi_append (a b : List Li) : rowLi (a ++ b) = rowLi a ++ rowLi b := by simp [rowLi]
theorem rowLi_cons (e : Li) (es : List Li) : rowLi (e :: es) = liL e ++ rowLi es := rfl
theorem rowLi_get (es : List Li) (i k : Nat) (hi : i < es.length) (hk : k < 4) : (rowLi es)[i * 4 + k]? = (liL es[i])[k]? := by
  induction es generalizing i with
  | nil => simp at hi
  | cons e es ih =>
    rw [rowLi_cons]
    match i with
    | 0 => rw [Nat.zero_mul, Nat.zero_add, List.getElem?_append_left (by rw [liL_length]; omega)]; rfl
    | i + 1 =>
      rw [List.getElem?_append_right (by rw [liL_length]; omega), liL_length, show (i + 1) * 4 + k - 4 = i * 4 + k by omega, ih i (by simpa using hi)]
      rfl
theorem rowLi_one (es : List Li) : ∀ u ∈ rowLi es, u.oneCell' = true := by
  intro u hu
  simp only [rowLi, List.mem_flatMap, liL, List.mem_cons, List.not_mem_nil, or_false] at hu
  obtain ⟨e, _, h⟩ := hu
  rcases h with h | h | h | h <;> (rw [h]; rfl)
/-- The slice (p, rs.length) holds them. -/
def LisIn (w : World) (p : Option Addr) (rs : List Li) : Prop := rs = [] ∨ ∃ g, p = some ⟨g, 0, none⟩ ∧ g < w.heap.size ∧ ∀ j u, (rowLi rs)[j]? = some u → w.cell? ⟨g, j, none⟩ = some u
theorem LisIn.below {w w' : World} {p : Option Addr} {rs : List Li} (h : LisIn w p rs) (hb : Below w.heap.size w w') : LisIn w' p rs := by
  rcases h with h | ⟨g, hp, hg, hc⟩
  · exact .inl h
  · refine .inr ⟨g, hp, by have := hb.size; omega, fun j u hj => ?_⟩
    rw [hb.cell (p := ⟨g, j, none⟩) hg]
    exact hc j u hj
theorem LisIn.alloc {w : World} {p : Option Addr} {rs : List Li} (h : LisIn w p rs) (o : Obj) : LisIn (w.alloc o) p rs := h.below (ent_new0 w o)
theorem LisIn.at {w : World} {p : Option Addr} {rs : List Li} (h : LisIn w p rs) (i : Nat) (hi : i < rs.length) : ∃ g la lx lb ly, p = some ⟨g, 0, none⟩ ∧ g < w.heap.size ∧ rs[i] = ⟨la, lx, lb, ly⟩ ∧ w.cell? ⟨g, i * 4, none⟩ = some (.int .i64 la) ∧ w.cell? ⟨g, i * 4 + 1, none⟩ = some (.int .i64 lx) ∧ w.cell? ⟨g, i * 4 + 2, none⟩ = some (.int .i64 lb) ∧ w.cell? ⟨g, i * 4 + 3, none⟩ = some (.int .i64 ly) := by
  rcases h with rfl | ⟨g, hp, hg, hc⟩
  · simp at hi
  · exact ⟨g, rs[i].la, rs[i].lx, rs[i].lb, rs[i].ly, hp, hg, rfl, hc _ _ (rowLi_get rs i 0 hi (by omega)), hc _ _ (rowLi_get rs i 1 hi (by omega)), hc _ _ (rowLi_get rs i 2 hi (by omega)), hc _ _ (rowLi_get rs i 3 hi (by omega))⟩
theorem lisIn_row {w : World} {g : Nat} {t : TypeId} {rs : List Li} (h : Row w g t (rowLi rs)) : LisIn w (some ⟨g, 0, none⟩) rs := .inr ⟨g, rfl, h.lt, fun j _ hj => (h.cell j).trans hj⟩
theorem lisIn_rest {w : World} {g : Nat} {t : TypeId} {rs : List Li} {rest : List Value} (h : Row w g t (rowLi rs ++ rest)) : LisIn w (some ⟨g, 0, none⟩) rs := .inr ⟨g, rfl, h.lt, fun j u hj => by rw [h.cell, List.getElem?_append_left (List.getElem?_eq_some_iff.1 hj).1]; exact hj⟩
end Go.Proofs.YtcnadobnihbldaaGreat
/- The laws' own look: Links and lists of them are as themselves. (Written by gen_flat.py.) -/
namespace Go.Proofs.YtcnadobnihbldaaGreat
open Go.RowKit Go.Sort

set_option maxRecDepth 100000 in
theorem eqLink_same (e : Li) (w : World) : Calls Tryz.prog 83 #[liV e, liV e] w fun r w' => r = .returned (.bool true) ∧ Below w.heap.size w w' := by
  obtain ⟨la, lx, lb, ly⟩ := e
  unfold liV
  have ela : (la != la) = false := by simp
  have elx : (lx != lx) = false := by simp
  have elb : (lb != lb) = false := by simp
  have ely : (ly != ly) = false := by simp
  go_enter Tryz.func83, Tryz.ntmps83
  go_wp2
  go_ret
  exact ⟨rfl, ((Below.refl _ _).alloc (Nat.le_refl _) _).alloc (by simp) _⟩
set_option maxHeartbeats 1000000 in
set_option maxRecDepth 100000 in
theorem eqLinkS_any (p q : Option Addr) (c0 d0 : Nat) (es : List Li) (w : World) (hp : LisIn w p es) (hq : LisIn w q es) (hn : es.length ≤ 100000000) : Calls Tryz.prog 47 #[.slice p es.length c0, .slice q es.length d0] w fun r w' => r = .returned (.bool true) ∧ Below w.heap.size w w' := by
  have HE : Hid (∀ e w, Calls Tryz.prog 83 #[liV e, liV e] w fun r w' => r = .returned (.bool true) ∧ Below w.heap.size w w') := eqLink_same
  have HX : Hid (LisIn w p es ∧ LisIn w q es) := ⟨hp, hq⟩
  have h0 : ((es.length : Int) != (es.length : Int)) = false := by simp
  clear hp hq
  go_enter Tryz.func47, Tryz.ntmps47
  go_wp2_with fail
  go_loopw [5] (fun i wr => ∃ k : Nat, k ≤ es.length ∧ i = .int .i64 k ∧ Below w.heap.size w wr) (fun i _ => es.length - (intOf i).toNat)
  case atStart => exact ⟨0, Nat.zero_le _, rfl, Below.refl _ _⟩
  case round =>
    obtain ⟨k, hk, rfl, hb⟩ := hrel
    by_cases hlt : k < es.length
    · obtain ⟨g, la, lx, lb, ly, rfl, hg, hek, x0, x1, x2, x3⟩ := (HX.out.1.below hb).at k hlt
      obtain ⟨g', la', lx', lb', ly', rfl, hg', hek', y0, y1, y2, y3⟩ := (HX.out.2.below hb).at k hlt
      rw [hek] at hek'
      simp only [Li.mk.injEq] at hek'
      obtain ⟨rfl, rfl, rfl, rfl⟩ := hek'
      have HEk : Hid (∀ w, Calls Tryz.prog 83 #[.agg #[.int .i64 la, .int .i64 lx, .int .i64 lb, .int .i64 ly], .agg #[.int .i64 la, .int .i64 lx, .int .i64 lb, .int .i64 ly]] w fun r w' => r = .returned (.bool true) ∧ Below w.heap.size w w') := HE.out ⟨la, lx, lb, ly⟩
      clear HE hek HX
      replace x0 := cell_regrown x0
      replace y0 := cell_regrown y0
      replace x1 := cell_regrown x1
      replace y1 := cell_regrown y1
      replace x2 := cell_regrown x2
      replace y2 := cell_regrown y2
      replace x3 := cell_regrown x3
      replace y3 := cell_regrown y3
      go_wp2_with fail
      refine wp_region_quiet_below (by kernel_rfl) (by kernel_rfl) ?_
      repeat (go_big_quiet_step ((go_at_call 83; exact Calls.regrown_of (HEk.out _))))
      refine wpQuiet_nil ?_
      intro w1 hw'
      obtain ⟨⟨dq, osq⟩, hw''⟩ := hw'
      have hbq := below_regrown wr dq osq
      rw [← hw''] at hbq
      clear hw'' osq dq x0 x1 x2 x3 y0 y1 y2 y3 HEk
      have hb2 := hb.trans (hbq.mono hb.size)
      clear hbq
      go_wp2
      go_roundw
      case rel => exact ⟨k + 1, hlt, by go_num, hb2⟩
      case measure => simp [intOf]; omega
    · obtain rfl : k = es.length := by omega
      clear hlt hk
      go_wp2
      go_ret
      exact ⟨rfl, hb⟩
end Go.Proofs.YtcnadobnihbldaaGreat
/- Links from either end, in plain lists. (Written by gen_ways.py.) -/
namespace Go.Proofs.YtcnadobnihbldaaGreat
open Go.RowKit Go.Sort

/-- A way: from an end, to an end. -/
abbrev Wy := (Int × Int) × (Int × Int)
def wayAB (x : Li) : Wy := ((x.la, x.lx), (x.lb, x.ly))
def wayBA (x : Li) : Wy := ((x.lb, x.ly), (x.la, x.lx))
def wayL (ls : List Li) : List Wy := ls.flatMap fun x => [wayAB x, wayBA x]
theorem wayL_length (ls : List Li) : (wayL ls).length = 2 * ls.length := by
  induction ls with
  | nil => rfl
  | cons e es ih => simp only [wayL, List.flatMap_cons, List.length_append, List.length_cons, List.length_nil] at ih ⊢; omega
theorem wayL_cons (x : Li) (ls : List Li) : wayL (x :: ls) = wayAB x :: wayBA x :: wayL ls := rfl
theorem wayL_at0 : ∀ (ls : List Li) (k : Nat) (hk : k < ls.length), (wayL ls)[2 * k]? = some (wayAB ls[k])
  | x :: ls, 0, _ => rfl
  | x :: ls, k + 1, hk => by
    rw [wayL_cons, show 2 * (k + 1) = 2 * k + 1 + 1 by omega, List.getElem?_cons_succ, List.getElem?_cons_succ, wayL_at0 ls k (by simpa using hk)]
    rfl
theorem wayL_at1 : ∀ (ls : List Li) (k : Nat) (hk : k < ls.length), (wayL ls)[2 * k + 1]? = some (wayBA ls[k])
  | x :: ls, 0, _ => rfl
  | x :: ls, k + 1, hk => by
    rw [wayL_cons, show 2 * (k + 1) + 1 = 2 * k + 1 + 1 + 1 by omega, List.getElem?_cons_succ, List.getElem?_cons_succ, wayL_at1 ls k (by simpa using hk)]
    rfl
theorem wayL_append (a b : List Li) : wayL (a ++ b) = wayL a ++ wayL b := by simp [wayL]
/-- A way among those of the Links. -/
abbrev WyS (ls : List Li) := { y : Wy // y ∈ wayL ls }
def wayS (ls : List Li) : List (WyS ls) := (wayL ls).attach
theorem wayS_length (ls : List Li) : (wayS ls).length = 2 * ls.length := by simp [wayS, wayL_length]
theorem wayS_val (ls : List Li) (k : Nat) (hk : k < (wayS ls).length) : ((wayS ls)[k]).1 = (wayL ls)[k]'(by simpa [wayS] using hk) := by simp [wayS]
theorem wayS_map (ls : List Li) : (wayS ls).map (·.1) = wayL ls := by unfold wayS; exact List.attach_map_subtype_val _
def endV (e : Int × Int) : Value := .agg #[.int .i64 e.1, .int .i64 e.2]
def wyA (y : Wy) : Array Value := #[.agg #[.int .i64 y.1.1, .int .i64 y.1.2], .agg #[.int .i64 y.2.1, .int .i64 y.2.2]]
end Go.Proofs.YtcnadobnihbldaaGreat
/- The order of nets, as the program's sort asks for it. -/
namespace Go.Proofs.YtcnadobnihbldaaGreat
open Go.RowKit Go.Sort

/-- What netOrder tells of two nets. -/
def cmpN (x y : Int × Int) : Int := if lessB x.1 x.2 y.1 y.2 = true then -1 else if lessB y.1 y.2 x.1 x.2 = true then 1 else 0
def pairV (x : Int × Int) : Value := .agg #[.int .i64 x.1, .int .i64 x.2]
set_option maxRecDepth 100000 in
theorem netOrder_any (a l b m : Int) (w : World) : Calls Tryz.prog 185 #[.agg #[.int .i64 a, .int .i64 l], .agg #[.int .i64 b, .int .i64 m]] w fun e w' => e = .returned (.int .i64 (cmpN (a, l) (b, m))) ∧ Below w.heap.size w w' := by
  have H1 : Hid (∀ w, Calls Tryz.prog 171 #[.agg #[.int .i64 a, .int .i64 l], .agg #[.int .i64 b, .int .i64 m]] w fun e w' => e = .returned (.bool (lessB a l b m)) ∧ Below w.heap.size w w') := implLess_any a l b m
  have H2 : Hid (∀ w, Calls Tryz.prog 171 #[.agg #[.int .i64 b, .int .i64 m], .agg #[.int .i64 a, .int .i64 l]] w fun e w' => e = .returned (.bool (lessB b m a l)) ∧ Below w.heap.size w w') := implLess_any b m a l
  have HC : Hid (cmpN (a, l) (b, m) = if lessB a l b m = true then -1 else if lessB b m a l = true then 1 else 0) := rfl
  generalize cmpN (a, l) (b, m) = R at *
  generalize lessB a l b m = X at *
  generalize lessB b m a l = Y at *
  go_enter Tryz.func185, Tryz.ntmps185
  go_wp2_with fail
  refine (H1.out _).mono ?_
  rintro e w1 ⟨rfl, hb1⟩
  obtain ⟨c0, c1, c2, c3, hs1, hB1⟩ := four_later hb1
  clear hb1 H1
  cases X
  · go_wp2_with fail
    refine (H2.out _).mono ?_
    rintro e w2 ⟨rfl, hb2⟩
    have hB2 := hB1.trans (hb2.mono hB1.size)
    clear c0 c1 c2 c3 hb2
    cases Y
    · have HR : Hid (R = 0) := HC.out
      clear HC
      go_wp2
      go_ret
      exact ⟨by rw [HR.out]; rfl, hB2⟩
    · have HR : Hid (R = 1) := HC.out
      clear HC
      go_wp2
      go_ret
      exact ⟨by rw [HR.out]; rfl, hB2⟩
  · have HR : Hid (R = -1) := HC.out
    clear HC
    go_wp2
    go_ret
    exact ⟨by rw [HR.out]; rfl, hB1⟩
end Go.Proofs.YtcnadobnihbldaaGreat
/- Nets in a row of memory, and their order, in plain lists. (Written by gen_ins.py.) -/
namespace Go.Proofs.YtcnadobnihbldaaGreat
open Go.RowKit Go.Sort

abbrev NP := Int × Int
def flatN (ds : List NP) : List Value := ds.flatMap fun x => [.int .i64 x.1, .int .i64 x.2]
theorem flatN_length (ds : List NP) : (flatN ds).length = 2 * ds.length := by
  induction ds with
  | nil => rfl
  | cons x ds ih => simp only [flatN, List.flatMap_cons, List.length_append, List.length_cons, List.length_nil] at ih ⊢; omega
theorem flatN_get (ds : List NP) (i : Nat) (hi : i < ds.length) : (flatN ds)[i * 2]? = some (.int .i64 ds[i].1) ∧ (flatN ds)[i * 2 + 1]? = some (.int .i64 ds[i].2) := by
  induction ds generalizing i with
  | nil => simp at hi
  | cons x ds ih =>
    match i with
    | 0 => exact ⟨rfl, rfl⟩
    | i + 1 =>
      have := ih i (by simpa using hi)
      have e : flatN (x :: ds) = .int .i64 x.1 :: .int .i64 x.2 :: flatN ds := rfl
      rw [e, show (i + 1) * 2 = i * 2 + 1 + 1 by omega]
      exact this
theorem flatN_set (ds : List NP) (i : Nat) (hi : i < ds.length) (y : NP) : ((flatN ds).set (i * 2) (.int .i64 y.1)).set (i * 2 + 1) (.int .i64 y.2) = flatN (ds.set i y) := by
  induction ds generalizing i with
  | nil => simp at hi
  | cons x ds ih =>
    have e : ∀ (z : NP) zs, flatN (z :: zs) = .int .i64 z.1 :: .int .i64 z.2 :: flatN zs := fun _ _ => rfl
    match i with
    | 0 => rfl
    | i + 1 =>
      rw [List.set_cons_succ, e, e, show (i + 1) * 2 = i * 2 + 1 + 1 by omega, show i * 2 + 1 + 1 + 1 = (i * 2 + 1) + 1 + 1 by omega]
      simp only [List.set_cons_succ]
      rw [ih i (by simpa using hi)]
/-- Block g begins with the nets ds. -/
def NetsAt (w : World) (g : Nat) (ds : List NP) : Prop := ∃ cur, Row w g 50 cur ∧ cur.take (2 * ds.length) = flatN ds
theorem NetsAt.lt {w : World} {g : Nat} {ds : List NP} (h : NetsAt w g ds) : g < w.heap.size := by
  obtain ⟨cur, h, _⟩ := h
  exact h.lt
theorem NetsAt.below {B : Nat} {w w' : World} {g : Nat} {ds : List NP} (h : NetsAt w g ds) (hb : Below B w w') (hg : g < B) : NetsAt w' g ds := by
  obtain ⟨cur, h, e⟩ := h
  exact ⟨cur, h.below hb hg, e⟩
theorem NetsAt.cell {w : World} {g : Nat} {ds : List NP} (h : NetsAt w g ds) (i : Nat) (hi : i < ds.length) : w.cell? ⟨g, i * 2, none⟩ = some (.int .i64 ds[i].1) ∧ w.cell? ⟨g, i * 2 + 1, none⟩ = some (.int .i64 ds[i].2) ∧ w.frozen? ⟨g, i * 2, none⟩ = false ∧ w.frozen? ⟨g, i * 2 + 1, none⟩ = false := by
  obtain ⟨cur, h, e⟩ := h
  have hk : ∀ k, k < 2 * ds.length → cur[k]? = (flatN ds)[k]? := fun k hk => by rw [← e, List.getElem?_take, if_pos hk]
  obtain ⟨h0, h1⟩ := flatN_get ds i hi
  exact ⟨by rw [h.cell, hk _ (by omega)]; exact h0, by rw [h.cell, hk _ (by omega)]; exact h1, h.frozen _, h.frozen _⟩
theorem NetsAt.set {w : World} {g : Nat} {ds : List NP} (h : NetsAt w g ds) (i : Nat) (hi : i < ds.length) (y : NP) : NetsAt ((w.setCell ⟨g, i * 2, none⟩ (.int .i64 y.1)).setCell ⟨g, i * 2 + 1, none⟩ (.int .i64 y.2)) g (ds.set i y) := by
  obtain ⟨cur, h, e⟩ := h
  refine ⟨_, (h.set (i * 2) _).set (i * 2 + 1) _, ?_⟩
  rw [List.length_set, List.take_set, List.take_set, e]
  exact flatN_set ds i hi y
/-- Two of them change places. -/
def swapN (ds : List NP) (j : Nat) : List NP := (ds.set j ds[j - 1]!).set (j - 1) ds[j]!
theorem swapN_length (ds : List NP) (j : Nat) : (swapN ds j).length = ds.length := by simp [swapN]
theorem swapN_get (ds : List NP) (j : Nat) (h0 : 0 < j) (hj : j < ds.length) (k : Nat) (hk : k < ds.length) : (swapN ds j)[k]! = if k = j then ds[j - 1]! else if k = j - 1 then ds[j]! else ds[k]! := by
  unfold swapN
  have hk' : k < ((ds.set j ds[j - 1]!).set (j - 1) ds[j]!).length := by simp; exact hk
  rw [getElem!_pos _ k hk', getElem!_pos ds k hk, List.getElem_set, List.getElem_set]
  by_cases h1 : k = j
  · subst h1
    rw [if_neg (by omega), if_pos rfl, if_pos rfl]
  · rw [if_neg h1]
    by_cases h2 : k = j - 1
    · subst h2; rw [if_pos rfl, if_pos rfl]
    · rw [if_neg (fun e => h2 e.symm), if_neg (fun e => h1 e.symm), if_neg h2]
theorem swapN_perm (ds : List NP) (j : Nat) (h0 : 0 < j) (hj : j < ds.length) : (swapN ds j).Perm ds := by
  unfold swapN
  rw [getElem!_pos ds (j - 1) (by omega), getElem!_pos ds j hj]
  exact List.set_set_perm hj (by omega)
/-- x comes ahead of y. -/
def ahead (x y : NP) : Bool := decide (cmpN x y < 0)
theorem ahead_iff (x y : NP) : ahead x y = lessB x.1 x.2 y.1 y.2 := by
  unfold ahead cmpN
  cases lessB x.1 x.2 y.1 y.2 <;> cases lessB y.1 y.2 x.1 x.2 <;> rfl
theorem ahead_asym {x y : NP} (h : ahead x y = true) : ahead y x = false := by
  rw [ahead_iff] at h ⊢
  unfold lessB at h ⊢
  simp only [Bool.and_eq_true, Bool.or_eq_true, decide_eq_true_eq, beq_iff_eq] at h
  obtain ⟨_, _, h⟩ := h
  have : (decide (y.1 < x.1) || (y.1 == x.1 && decide (y.2 < x.2))) = false := by
    rw [Bool.or_eq_false_iff, Bool.and_eq_false_iff]
    simp only [decide_eq_false_iff_not, beq_eq_false_iff_ne, ne_eq]
    omega
  rw [this]; simp
/-- In order up to k. -/
def Risen (ds : List NP) (k : Nat) : Prop := ∀ p, p + 1 < k → ahead ds[p + 1]! ds[p]! = false
/-- In order up to i, but for the one at j on its way. -/
def Going (ds : List NP) (i j : Nat) : Prop := j ≤ i ∧ (∀ p, p + 1 ≤ i → p + 1 ≠ j → ahead ds[p + 1]! ds[p]! = false) ∧ (0 < j → j < i → ahead ds[j + 1]! ds[j - 1]! = false)
theorem going_first {ds : List NP} {i : Nat} (h : Risen ds i) : Going ds i i := ⟨Nat.le_refl _, fun p hp hne => h p (by omega), fun _ h => absurd h (by omega)⟩
theorem going_end {ds : List NP} {i j : Nat} (h : Going ds i j) (he : j = 0 ∨ ahead ds[j]! ds[j - 1]! = false) : Risen ds (i + 1) := by
  intro p hp
  by_cases hpj : p + 1 = j
  · subst hpj
    rcases he with he | he
    · omega
    · simpa using he
  · exact h.2.1 p (by omega) hpj
theorem going_next {ds : List NP} {i j : Nat} (hi : i < ds.length) (h0 : 0 < j) (h : Going ds i j) (ha : ahead ds[j]! ds[j - 1]! = true) : Going (swapN ds j) i (j - 1) := by
  obtain ⟨hj, h1, h2⟩ := h
  have g := fun k (hk : k < ds.length) => swapN_get ds j h0 (by omega) k hk
  refine ⟨by omega, fun p hp hne => ?_, fun hj1 _ => ?_⟩
  · rw [g (p + 1) (by omega), g p (by omega)]
    by_cases e1 : p + 1 = j
    · rw [if_pos e1, if_neg (by omega), if_pos (by omega)]
      exact ahead_asym ha
    · rw [if_neg e1, if_neg hne]
      by_cases e2 : p = j
      · subst e2
        rw [if_pos rfl]
        exact h2 h0 (by omega)
      · rw [if_neg e2]
        by_cases e3 : p = j - 1
        · omega
        · rw [if_neg e3]
          exact h1 p hp e1
  · rw [show j - 1 + 1 = j by omega, g j (by omega), g (j - 1 - 1) (by omega), if_pos rfl, if_neg (by omega), if_neg (by omega)]
    have := h1 (j - 1 - 1) (by omega) (by omega)
    rwa [show j - 1 - 1 + 1 = j - 1 by omega] at this
end Go.Proofs.YtcnadobnihbldaaGreat
/- Lists of ends in memory; slices.Index and Contains at them. (Written by gen_eni.py.) -/
namespace Go.Proofs.YtcnadobnihbldaaGreat
open Go.RowKit Go.Sort

def rowEn (es : List (Int × Int)) : List Value := es.flatMap fun e => [.int .i64 e.1, .int .i64 e.2]
theorem rowEn_length (es : List (Int × Int)) : (rowEn es).length = 2 * es.length := by
  induction es with
  | nil => rfl
  | cons e es ih => simp only [rowEn, List.flatMap_cons, List.length_append, List.length_cons, List.length_nil] at ih ⊢; omega
theorem rowEn_append (a b : List (Int × Int)) : rowEn (a ++ b) = rowEn a ++ rowEn b := by simp [rowEn]
theorem rowEn_at : ∀ (es : List (Int × Int)) (k : Nat) (hk : k < es.length), (rowEn es)[k * 2]? = some (.int .i64 es[k].1) ∧ (rowEn es)[k * 2 + 1]? = some (.int .i64 es[k].2)
  | e :: es, 0, _ => ⟨rfl, rfl⟩
  | e :: es, k + 1, hk => by
    have h := rowEn_at es k (by simpa using hk)
    have c : ∀ j, (rowEn (e :: es))[j + 2]? = (rowEn es)[j]? := fun j => by
      show ([Value.int .i64 e.1, Value.int .i64 e.2] ++ rowEn es)[j + 2]? = _
      rw [List.getElem?_append_right (by simp)]
      simp
    rw [show (k + 1) * 2 = k * 2 + 2 by omega, show k * 2 + 2 + 1 = k * 2 + 1 + 2 by omega, c, c]
    exact h
/-- The slice (p, es.length) holds them. -/
def EnsIn (w : World) (p : Option Addr) (es : List (Int × Int)) : Prop := es = [] ∨ ∃ g, p = some ⟨g, 0, none⟩ ∧ g < w.heap.size ∧ ∀ j u, (rowEn es)[j]? = some u → w.cell? ⟨g, j, none⟩ = some u
theorem EnsIn.below {w w' : World} {p : Option Addr} {es : List (Int × Int)} (h : EnsIn w p es) (hb : Below w.heap.size w w') : EnsIn w' p es := by
  rcases h with h | ⟨g, hp, hg, hc⟩
  · exact .inl h
  · refine .inr ⟨g, hp, by have := hb.size; omega, fun j u hj => ?_⟩
    rw [hb.cell (p := ⟨g, j, none⟩) hg]
    exact hc j u hj
theorem EnsIn.at {w : World} {p : Option Addr} {es : List (Int × Int)} (h : EnsIn w p es) (k : Nat) (hk : k < es.length) : ∃ g a b, p = some ⟨g, 0, none⟩ ∧ g < w.heap.size ∧ es[k] = (a, b) ∧ w.cell? ⟨g, k * 2, none⟩ = some (.int .i64 a) ∧ w.cell? ⟨g, k * 2 + 1, none⟩ = some (.int .i64 b) := by
  rcases h with h | ⟨g, hp, hg, hc⟩
  · subst h; simp at hk
  · exact ⟨g, es[k].1, es[k].2, hp, hg, rfl, hc _ _ (rowEn_at es k hk).1, hc _ _ (rowEn_at es k hk).2⟩
theorem ensIn_own {w : World} {n0 n : Nat} {v : Value} {es : List (Int × Int)} (h : w.ownsRow n0 135 2 v n (rowEn es)) (hn : n = es.length) : ∃ p c, v = .slice p es.length c ∧ EnsIn w p es := by
  subst hn
  rcases h.2 with ⟨hv, h0⟩ | ⟨g, cap, cur, hv, h2, h3, h4, h5, h6, h7⟩
  · exact ⟨none, 0, by rw [hv, h0], .inl (List.length_eq_zero_iff.1 h0)⟩
  · refine ⟨_, cap, hv, .inr ⟨g, rfl, (Array.getElem?_eq_some_iff.1 h3).1, fun j u hj => ?_⟩⟩
    unfold World.cell?
    rw [h3]
    rw [← h7, List.getElem?_take] at hj
    split at hj
    · simpa using hj
    · cases hj
set_option maxRecDepth 100000 in
set_option maxHeartbeats 4000000 in
theorem index_any (p : Option Addr) (c : Nat) (es : List (Int × Int)) (x y : Int) (w : World) (h : EnsIn w p es) (hn : es.length ≤ 100000000) :
    Calls Tryz.prog 150 #[.slice p es.length c, .agg #[.int .i64 x, .int .i64 y]] w fun e w' => (∃ v : Int, e = .returned (.int .i64 v) ∧ decide (0 ≤ v) = es.contains (x, y)) ∧ Below w.heap.size w w' := by
  have HX : Hid (EnsIn w p es) := h
  have HQ : Hid _ := And.intro (Row.new w 135 [.int .i64 x, .int .i64 y]) (ent_new0 w (.cells #[.int .i64 x, .int .i64 y] 135))
  clear h
  go_enter Tryz.func150, Tryz.ntmps150
  go_wp2_with fail
  obtain ⟨q0, hB⟩ := HQ.out
  clear HQ
  go_loopw [8] (fun i wr => ∃ k : Nat, k ≤ es.length ∧ i = .int .i64 k ∧ (∀ j (hj : j < es.length), j < k → es[j] ≠ (x, y)) ∧ Row wr w.heap.size 135 [.int .i64 x, .int .i64 y] ∧ Below w.heap.size w wr) (fun i _ => es.length - (intOf i).toNat)
  case atStart => exact ⟨0, Nat.zero_le _, rfl, fun j _ hj => absurd hj (by omega), q0, hB⟩
  case round =>
    clear q0 hB
    obtain ⟨k, hk, rfl, ha, hq, hb⟩ := hrel
    by_cases hlt : k < es.length
    · have d0 : decide ((k : Int) < (es.length : Int)) = true := by simpa using hlt
      obtain ⟨g, a, b, rfl, hg, hek, c0, c1⟩ := (HX.out.below hb).at k hlt
      have x0 : wr.cell? ⟨w.heap.size, 0, none⟩ = some (.int .i64 x) := hq.cell 0
      have x1 : wr.cell? ⟨w.heap.size, 1, none⟩ = some (.int .i64 y) := hq.cell 1
      replace x0 := cell_regrown x0
      replace x1 := cell_regrown x1
      replace c0 := cell_regrown c0
      replace c1 := cell_regrown c1
      have HK : Hid (es[k] = (a, b)) := hek
      have HA : Hid (∀ j (hj : j < es.length), j < k → es[j] ≠ (x, y)) := ha
      clear hek ha HX
      by_cases k1 : x = a
      · have d1 : (x == a) = true := by simpa using k1
        by_cases k2 : y = b
        · have d2 : (y == b) = true := by simpa using k2
          have HC : Hid (es.contains (x, y) = true) := by
            show _ = _
            rw [List.contains_iff_mem, k1, k2, ← HK.out]
            exact List.getElem_mem hlt
          clear k1 k2 HA HK
          go_wp2_with fail
          refine wp_region_quiet_below (by kernel_rfl) (by kernel_rfl) ?_
          repeat (go_big_quiet_step (fail))
          refine wpQuiet_nil ?_
          intro w1 hw'
          obtain ⟨⟨dq, osq⟩, hw''⟩ := hw'
          have hbq := below_regrown wr dq osq
          rw [← hw''] at hbq
          clear hw'' osq dq x0 x1 c0 c1
          have hb2 := hb.trans (hbq.mono hb.size)
          have hq2 := hq.below hbq hq.lt
          clear hbq hb hq
          go_wp2
          go_ret
          refine ⟨⟨_, rfl, ?_⟩, hb2⟩
          rw [HC.out]
          simp
        · have d2 : (y == b) = false := by simpa using k2
          have HN : Hid (∀ j (hj : j < es.length), j < k + 1 → es[j] ≠ (x, y)) := fun j hj hjk => by
            rcases Nat.lt_or_ge j k with h' | h'
            · exact HA.out j hj h'
            · obtain rfl : j = k := by omega
              rw [HK.out]
              exact fun e => k2 (congrArg Prod.snd e).symm
          clear k1 k2 HA HK
          go_wp2_with fail
          refine wp_region_quiet_below (by kernel_rfl) (by kernel_rfl) ?_
          repeat (go_big_quiet_step (fail))
          refine wpQuiet_nil ?_
          intro w1 hw'
          obtain ⟨⟨dq, osq⟩, hw''⟩ := hw'
          have hbq := below_regrown wr dq osq
          rw [← hw''] at hbq
          clear hw'' osq dq x0 x1 c0 c1
          have hb2 := hb.trans (hbq.mono hb.size)
          have hq2 := hq.below hbq hq.lt
          clear hbq hb hq
          have HZ : Hid _ := And.intro hq2 hb2
          clear hq2 hb2
          go_wp2
          go_roundw
          case rel => exact ⟨k + 1, hlt, by go_num, HN.out, HZ.out.1, HZ.out.2⟩
          case measure => simp [intOf]; omega
      · have d1 : (x == a) = false := by simpa using k1
        have HN : Hid (∀ j (hj : j < es.length), j < k + 1 → es[j] ≠ (x, y)) := fun j hj hjk => by
          rcases Nat.lt_or_ge j k with h' | h'
          · exact HA.out j hj h'
          · obtain rfl : j = k := by omega
            rw [HK.out]
            exact fun e => k1 (congrArg Prod.fst e).symm
        clear k1 HA HK
        go_wp2_with fail
        refine wp_region_quiet_below (by kernel_rfl) (by kernel_rfl) ?_
        repeat (go_big_quiet_step (fail))
        refine wpQuiet_nil ?_
        intro w1 hw'
        obtain ⟨⟨dq, osq⟩, hw''⟩ := hw'
        have hbq := below_regrown wr dq osq
        rw [← hw''] at hbq
        clear hw'' osq dq x0 x1 c0 c1
        have hb2 := hb.trans (hbq.mono hb.size)
        have hq2 := hq.below hbq hq.lt
        clear hbq hb hq
        have HZ : Hid _ := And.intro hq2 hb2
        clear hq2 hb2
        go_wp2
        go_roundw
        case rel => exact ⟨k + 1, hlt, by go_num, HN.out, HZ.out.1, HZ.out.2⟩
        case measure => simp [intOf]; omega
    · obtain rfl : k = es.length := by omega
      have HC : Hid (es.contains (x, y) = false) := by
        show _ = _
        rw [← Bool.not_eq_true, List.contains_iff_mem]
        intro hm
        obtain ⟨j, hj, e⟩ := List.mem_iff_getElem.1 hm
        exact ha j hj hj e
      have d0 : decide ((es.length : Int) < (es.length : Int)) = false := by simp
      clear hlt hk ha HX
      go_wp2
      go_ret
      refine ⟨⟨_, rfl, ?_⟩, hb⟩
      rw [HC.out]
      rfl
set_option maxRecDepth 100000 in
set_option maxHeartbeats 4000000 in
theorem contains_any (p : Option Addr) (c : Nat) (es : List (Int × Int)) (x y : Int) (w : World) (h : EnsIn w p es) (hn : es.length ≤ 100000000) :
    Calls Tryz.prog 119 #[.slice p es.length c, .agg #[.int .i64 x, .int .i64 y]] w fun e w' => e = .returned (.bool (es.contains (x, y))) ∧ Below w.heap.size w w' := by
  have HI : Hid (∀ w, EnsIn w p es → Calls Tryz.prog 150 #[.slice p es.length c, .agg #[.int .i64 x, .int .i64 y]] w fun e w' => (∃ v : Int, e = .returned (.int .i64 v) ∧ decide (0 ≤ v) = es.contains (x, y)) ∧ Below w.heap.size w w') := fun w h => index_any p c es x y w h hn
  have HX : Hid (EnsIn w p es) := h
  have HQ : Hid _ := And.intro (Row.new w 135 [.int .i64 x, .int .i64 y]) (ent_new0 w (.cells #[.int .i64 x, .int .i64 y] 135))
  clear h hn
  generalize es.contains (x, y) = R at *
  generalize es.length = n at *
  go_enter Tryz.func119, Tryz.ntmps119
  go_wp2_with fail
  obtain ⟨q0, hB⟩ := HQ.out
  refine (HI.out _ (HX.out.below hB)).mono ?_
  rintro e w1 ⟨⟨v, rfl, hv⟩, hb1⟩
  have hB := hB.trans (hb1.mono hB.size)
  clear hb1 HI HQ q0 HX
  subst hv
  go_wp2
  go_ret
  exact ⟨rfl, hB⟩
end Go.Proofs.YtcnadobnihbldaaGreat
/- Least sums: whatever order the edges are relaxed in, as many rounds as there are places reach the same. (By hand.) -/
namespace Go.Proofs.YtcnadobnihbldaaGreat

/-- An edge: from, to, its cost. -/
abbrev Eg := Nat × Nat × Int
def rlx (f : Nat → Int) (e : Eg) : Nat → Int := fun i => if i = e.1 then min (f e.1) (e.2.2 + f e.2.1) else f i
def rnd (L : List Eg) : Nat → (Nat → Int) → (Nat → Int)
  | 0, f => f
  | n + 1, f => L.foldl rlx (rnd L n f)
theorem rlx_le (f : Nat → Int) (e : Eg) (i : Nat) : rlx f e i ≤ f i := by
  unfold rlx
  split
  · rename_i h; subst h; exact Int.min_le_left _ _
  · exact Int.le_refl _
theorem fold_le (L : List Eg) : ∀ (f : Nat → Int) (i : Nat), L.foldl rlx f i ≤ f i := by
  induction L with
  | nil => exact fun f i => Int.le_refl _
  | cons e L ih => exact fun f i => Int.le_trans (ih _ _) (rlx_le f e i)
theorem rnd_le (L : List Eg) (n : Nat) (f : Nat → Int) (i : Nat) : rnd L n f i ≤ f i := by
  induction n with
  | zero => exact Int.le_refl _
  | succ n ih => exact Int.le_trans (fold_le L _ i) ih
theorem fold_relaxed (L : List Eg) : ∀ (f : Nat → Int) (e : Eg), e ∈ L → L.foldl rlx f e.1 ≤ e.2.2 + f e.2.1 := by
  induction L with
  | nil => intro f e h; cases h
  | cons x L ih =>
    intro f e h
    rcases List.mem_cons.1 h with rfl | h
    · refine Int.le_trans (fold_le L _ _) ?_
      unfold rlx
      rw [if_pos rfl]
      exact Int.min_le_right _ _
    · have h1 := ih (rlx f x) e h
      have h2 := rlx_le f x e.2.1
      show L.foldl rlx (rlx f x) e.1 ≤ _
      omega
/-- No edge lessens it. -/
def Feas (E : List Eg) (f : Nat → Int) : Prop := ∀ e ∈ E, f e.1 ≤ e.2.2 + f e.2.1
theorem fold_low {E : List Eg} {D : Nat → Int} (hD : Feas E D) : ∀ (L : List Eg), (∀ e ∈ L, e ∈ E) → ∀ f : Nat → Int, (∀ i, D i ≤ f i) → ∀ i, D i ≤ L.foldl rlx f i := by
  intro L
  induction L with
  | nil => exact fun _ f h => h
  | cons x L ih =>
    intro hL f h
    refine ih (fun e he => hL e (by simp [he])) (rlx f x) fun i => ?_
    unfold rlx
    split
    · rename_i hi
      have h1 := hD x (hL x (by simp))
      have h2 := h x.2.1
      have h3 := h x.1
      rw [hi]
      exact Int.le_min.2 ⟨h3, by omega⟩
    · exact h i
theorem rnd_low {E : List Eg} {D : Nat → Int} (hD : Feas E D) (L : List Eg) (hL : ∀ e ∈ L, e ∈ E) (f : Nat → Int) (h : ∀ i, D i ≤ f i) (n : Nat) : ∀ i, D i ≤ rnd L n f i := by
  induction n with
  | zero => exact h
  | succ n ih => exact fold_low hD L hL _ ih
/-- What is not as it was, comes of an edge. -/
def Tight (E : List Eg) (f0 f : Nat → Int) : Prop := ∀ i, f i = f0 i ∨ ∃ e ∈ E, e.1 = i ∧ e.2.2 + f e.2.1 ≤ f i
theorem fold_tight {E : List Eg} (f0 : Nat → Int) : ∀ (L : List Eg), (∀ e ∈ L, e ∈ E) → ∀ f : Nat → Int, Tight E f0 f → Tight E f0 (L.foldl rlx f) := by
  intro L
  induction L with
  | nil => exact fun _ f h => h
  | cons x L ih =>
    intro hL f h
    refine ih (fun e he => hL e (by simp [he])) (rlx f x) fun i => ?_
    have hx := hL x (by simp)
    by_cases hi : i = x.1
    · by_cases hm : f x.1 ≤ x.2.2 + f x.2.1
      · have e1 : rlx f x i = f i := by unfold rlx; rw [if_pos hi, hi]; exact Int.min_eq_left hm
        rcases h i with h | ⟨e, he, h1, h2⟩
        · exact .inl (by rw [e1, h])
        · refine .inr ⟨e, he, h1, ?_⟩
          have := rlx_le f x e.2.1
          omega
      · refine .inr ⟨x, hx, hi.symm, ?_⟩
        have e1 : rlx f x i = x.2.2 + f x.2.1 := by unfold rlx; rw [if_pos hi]; exact Int.min_eq_right (by omega)
        have := rlx_le f x x.2.1
        omega
    · have e1 : rlx f x i = f i := by unfold rlx; rw [if_neg hi]
      rcases h i with h | ⟨e, he, h1, h2⟩
      · exact .inl (by rw [e1, h])
      · refine .inr ⟨e, he, h1, ?_⟩
        have := rlx_le f x e.2.1
        omega
theorem rnd_tight {E : List Eg} (f0 : Nat → Int) (L : List Eg) (hL : ∀ e ∈ L, e ∈ E) (n : Nat) : Tight E f0 (rnd L n f0) := by
  induction n with
  | zero => exact fun i => .inl rfl
  | succ n ih => exact fold_tight f0 L hL _ ih
theorem rnd_first (L : List Eg) (n : Nat) (f : Nat → Int) : rnd L (n + 1) f = rnd L n (L.foldl rlx f) := by
  induction n with
  | zero => rfl
  | succ n ih => show L.foldl rlx (rnd L (n + 1) f) = _; rw [ih]; rfl
def sumN (N : Nat) (f : Nat → Int) : Int := ((List.range N).map f).sum
theorem sum_le (l : List Nat) (f g : Nat → Int) (h : ∀ i, f i ≤ g i) : (l.map f).sum ≤ (l.map g).sum := by
  induction l with
  | nil => exact Int.le_refl _
  | cons a l ih => simp only [List.map_cons, List.sum_cons]; have := h a; omega
theorem sum_lt (l : List Nat) (f g : Nat → Int) (h : ∀ i, f i ≤ g i) (k : Nat) (hk : k ∈ l) (hl : f k < g k) : (l.map f).sum < (l.map g).sum := by
  induction l with
  | nil => cases hk
  | cons a l ih =>
    simp only [List.map_cons, List.sum_cons]
    have h1 := h a
    have h2 := sum_le l f g h
    rcases List.mem_cons.1 hk with rfl | hk
    · omega
    · have := ih hk; omega
theorem sum_nn (l : List Nat) (f : Nat → Int) (h : ∀ i, 0 ≤ f i) : 0 ≤ (l.map f).sum := by
  induction l with
  | nil => exact Int.le_refl _
  | cons a l ih => simp only [List.map_cons, List.sum_cons]; have := h a; omega
theorem fold_nn {E : List Eg} (hc : ∀ e ∈ E, 1 ≤ e.2.2) : ∀ (L : List Eg), (∀ e ∈ L, e ∈ E) → ∀ f : Nat → Int, (∀ i, 0 ≤ f i) → ∀ i, 0 ≤ L.foldl rlx f i := by
  refine fun L hL f h i => fold_low (E := E) (D := fun _ => 0) (fun e he => ?_) L hL f h i
  have := hc e he
  show (0 : Int) ≤ e.2.2 + 0
  omega
theorem feas_ex {E : List Eg} (N : Nat) (hN : ∀ e ∈ E, e.1 < N) (hc : ∀ e ∈ E, 1 ≤ e.2.2) : ∀ (m : Nat) (f : Nat → Int), (∀ i, 0 ≤ f i) → sumN N f ≤ m → ∃ n, Feas E (rnd E n f) := by
  intro m
  induction m with
  | zero =>
    intro f h0 hs
    refine ⟨0, fun e he => Classical.byContradiction fun hb => ?_⟩
    have hr := fold_relaxed E f e he
    have hl := sum_lt (List.range N) (E.foldl rlx f) f (fold_le E f) e.1 (List.mem_range.2 (hN e he)) (by have hb' : ¬ f e.1 ≤ e.2.2 + f e.2.1 := hb; omega)
    have hn := sum_nn (List.range N) (E.foldl rlx f) (fold_nn hc E (fun _ h => h) f h0)
    unfold sumN at hs
    omega
  | succ m ih =>
    intro f h0 hs
    by_cases hf : Feas E f
    · exact ⟨0, hf⟩
    · have ⟨e, he, hb⟩ : ∃ e, e ∈ E ∧ ¬ f e.1 ≤ e.2.2 + f e.2.1 := by
        refine Classical.byContradiction fun hn => hf fun e he => Classical.byContradiction fun hb => hn ⟨e, he, hb⟩
      have hr := fold_relaxed E f e he
      have hl := sum_lt (List.range N) (E.foldl rlx f) f (fold_le E f) e.1 (List.mem_range.2 (hN e he)) (by omega)
      obtain ⟨n, hn⟩ := ih (E.foldl rlx f) (fold_nn hc E (fun _ h => h) f h0) (by unfold sumN at hs ⊢; omega)
      exact ⟨n + 1, by rw [rnd_first]; exact hn⟩
theorem count_le (l : List Nat) (D : Nat → Int) (x y : Int) (h : x ≤ y) : l.countP (fun i => decide (D i < x)) ≤ l.countP (fun i => decide (D i < y)) := by
  refine List.countP_mono_left fun a _ ha => ?_
  simp only [decide_eq_true_eq] at ha ⊢
  omega
theorem count_lt (l : List Nat) (D : Nat → Int) (v : Nat) (hv : v ∈ l) (y : Int) (h : D v < y) : l.countP (fun i => decide (D i < D v)) < l.countP (fun i => decide (D i < y)) := by
  induction l with
  | nil => cases hv
  | cons a l ih =>
    rw [List.countP_cons, List.countP_cons]
    have h1 := count_le l D (D v) y (by omega)
    rcases List.mem_cons.1 hv with rfl | hv
    · rw [if_neg (by simp), if_pos (by simpa using h)]
      omega
    · have := ih hv
      by_cases ha : D a < D v
      · rw [if_pos (by simpa using ha), if_pos (by simp; omega)]
        omega
      · rw [if_neg (by simpa using ha)]
        omega
theorem settled {E : List Eg} (N : Nat) (hN : ∀ e ∈ E, e.2.1 < N) (hc : ∀ e ∈ E, 1 ≤ e.2.2) {f0 D : Nat → Int} (hT : Tight E f0 D) (L : List Eg) (hL : ∀ e ∈ E, e ∈ L) :
    ∀ (k u : Nat), (List.range N).countP (fun i => decide (D i < D u)) ≤ k → ∀ j, k ≤ j → rnd L j f0 u ≤ D u := by
  intro k
  induction k with
  | zero =>
    intro u hu j hj
    rcases hT u with h | ⟨e, he, rfl, h2⟩
    · rw [h]; exact rnd_le L j f0 u
    · have := count_lt (List.range N) D e.2.1 (List.mem_range.2 (hN e he)) (D e.1) (by have := hc e he; omega)
      omega
  | succ k ih =>
    intro u hu j hj
    rcases hT u with h | ⟨e, he, rfl, h2⟩
    · rw [h]; exact rnd_le L j f0 u
    · have hcl := count_lt (List.range N) D e.2.1 (List.mem_range.2 (hN e he)) (D e.1) (by have := hc e he; omega)
      obtain ⟨j', rfl⟩ : ∃ j', j = j' + 1 := ⟨j - 1, by omega⟩
      have h3 := ih e.2.1 (by omega) j' (by omega)
      have h4 := fold_relaxed L (rnd L j' f0) e (hL e he)
      show L.foldl rlx (rnd L j' f0) e.1 ≤ _
      omega
/-- Two orders, the same sums. -/
theorem same_sums {E : List Eg} (N : Nat) (hN : ∀ e ∈ E, e.1 < N ∧ e.2.1 < N) (hc : ∀ e ∈ E, 1 ≤ e.2.2) (f0 : Nat → Int) (h0 : ∀ i, 0 ≤ f0 i) (L : List Eg) (hL : ∀ e, e ∈ L ↔ e ∈ E) :
    rnd L N f0 = rnd E N f0 := by
  obtain ⟨n, hF⟩ := feas_ex N (fun e he => (hN e he).1) hc (sumN N f0).toNat f0 h0 (by omega)
  have hT := rnd_tight f0 E (fun _ h => h) n
  have hle := rnd_le E n f0
  generalize rnd E n f0 = D at *
  have key : ∀ L : List Eg, (∀ e, e ∈ L ↔ e ∈ E) → ∀ u, rnd L N f0 u = D u := fun L hL u => by
    have h1 := settled N (fun e he => (hN e he).2) hc hT L (fun e he => (hL e).2 he) N u (Nat.le_trans (List.countP_le_length) (by simp)) N (Nat.le_refl _)
    have h2 := rnd_low hF L (fun e he => (hL e).1 he) f0 hle N u
    omega
  funext u
  rw [key L hL u, key E (fun _ => Iff.rfl) u]
end Go.Proofs.YtcnadobnihbldaaGreat
