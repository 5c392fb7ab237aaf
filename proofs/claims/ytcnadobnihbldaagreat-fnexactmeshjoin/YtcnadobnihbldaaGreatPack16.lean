/- Texts that stand on each other, in one file: OpenIf, Ifs, ToIfs, MakeIfs, EqIfs, OpenRt, Rts, ToRts, ToRib, EqRts, InstA, Iv, OpIv, SzIL. -/
import Derived.Test.YtcnadobnihbldaaGreatPack13
import Derived.Lib.SmallJoins
import Derived.Deep.Slices
import Derived.OwnWalk
import Derived.Test.YtcnadobnihbldaaGreatPack10
import Derived.Test.YtcnadobnihbldaaGreatPack11
import Derived.Lib.QuietBelow
import Derived.BigQuiet
/- The laws' own Ifaces handed in: opened. (Written by gen_if.py.) -/
namespace Go.Proofs.YtcnadobnihbldaaGreat
open Go.ChangeShapes Go.WideShapes Go.RowKit Go.Deep Go.WideElems Go.Maps Go.Joins

def ifL (f : If) : List Value := [.int .i64 f.d, .int .i64 f.a, .int .i64 f.l, .int .i64 f.c, .bool f.u]
theorem array5i {α : Type} {cs : Array α} (h : cs.size = 5) : ∃ c0 c1 c2 c3 c4, cs = #[c0, c1, c2, c3, c4] := by
  obtain ⟨l⟩ := cs
  match l, h with
  | [c0, c1, c2, c3, c4], _ => exact ⟨c0, c1, c2, c3, c4, rfl⟩
/-- All four numbers of an Iface are of 64 bits. -/
def IfW (f : If) : Prop := (Lit.int .i64 f.d).wf = true ∧ (Lit.int .i64 f.a).wf = true ∧ (Lit.int .i64 f.l).wf = true ∧ (Lit.int .i64 f.c).wf = true
theorem Tryz.cellsIface : Tryz.prog.cellsOf 197 = 5 := by kernel_rfl
theorem Tryz.cellsNetI : Tryz.prog.cellsOf 195 = 2 := by kernel_rfl
theorem Tryz.cellsIntI : Tryz.prog.cellsOf 2 = 1 := by kernel_rfl
theorem Tryz.cellsBoolI : Tryz.prog.cellsOf 4 = 1 := by kernel_rfl
section
variable {H : Type} {enc : TypeId × Value → H} {w : World} {base : Nat} {spare : Nat → Bool} {held : Bool}
set_option maxRecDepth 100000 in
theorem open_if {fuel : Nat} {cs : List Value} {x : DataW H × List MemPlace} (h : DataW.trod enc Tryz.prog w base spare held fuel 197 cs = some x) : ∃ f : If, cs = ifL f ∧ IfW f := by
  obtain ⟨xs, n, _, _, hl, hx, hg⟩ := DataW.trod_struct Tryz.underlying197 h
  rw [Tryz.cellsIface] at hl
  match cs, hl, xs, hx with
  | [c0, c1, c2, c3, c4], _, [y0, y1, y2, y3], _ =>
    have h0 : DataW.trod enc Tryz.prog w base spare held n 2 ((([c0, c1, c2, c3, c4] : List Value).drop 0).take (Tryz.prog.cellsOf 2)) = [y0, y1, y2, y3][0]? := hg 0 _ rfl
    rw [Tryz.cellsIntI] at h0
    replace h0 : DataW.trod enc Tryz.prog w base spare held n 2 [c0] = some y0 := h0
    have h1 : DataW.trod enc Tryz.prog w base spare held n 195 ((([c0, c1, c2, c3, c4] : List Value).drop 1).take (Tryz.prog.cellsOf 195)) = [y0, y1, y2, y3][1]? := hg 1 _ rfl
    rw [Tryz.cellsNetI] at h1
    replace h1 : DataW.trod enc Tryz.prog w base spare held n 195 [c1, c2] = some y1 := h1
    have h2 : DataW.trod enc Tryz.prog w base spare held n 2 ((([c0, c1, c2, c3, c4] : List Value).drop 3).take (Tryz.prog.cellsOf 2)) = [y0, y1, y2, y3][2]? := hg 2 _ rfl
    rw [Tryz.cellsIntI] at h2
    replace h2 : DataW.trod enc Tryz.prog w base spare held n 2 [c3] = some y2 := h2
    have h3 : DataW.trod enc Tryz.prog w base spare held n 4 ((([c0, c1, c2, c3, c4] : List Value).drop 4).take (Tryz.prog.cellsOf 4)) = [y0, y1, y2, y3][3]? := hg 3 _ rfl
    rw [Tryz.cellsBoolI] at h3
    replace h3 : DataW.trod enc Tryz.prog w base spare held n 4 [c4] = some y3 := h3
    obtain ⟨zs, k, _, _, _, hz, hk⟩ := DataW.trod_struct Tryz.underlying195 h1
    match zs, hz with
    | [z0, z1], _ =>
      have k0 : DataW.trod enc Tryz.prog w base spare held k 2 ((([c1, c2] : List Value).drop 0).take (Tryz.prog.cellsOf 2)) = [z0, z1][0]? := hk 0 _ rfl
      rw [Tryz.cellsIntI] at k0
      replace k0 : DataW.trod enc Tryz.prog w base spare held k 2 [c1] = some z0 := k0
      have k1 : DataW.trod enc Tryz.prog w base spare held k 2 ((([c1, c2] : List Value).drop 1).take (Tryz.prog.cellsOf 2)) = [z0, z1][1]? := hk 1 _ rfl
      rw [Tryz.cellsIntI] at k1
      replace k1 : DataW.trod enc Tryz.prog w base spare held k 2 [c2] = some z1 := k1
      obtain ⟨d, ed, _, wd⟩ := DataW.trod_int Tryz.underlying2 h0
      obtain ⟨a, ea, _, wa⟩ := DataW.trod_int Tryz.underlying2 k0
      obtain ⟨l, el, _, wl⟩ := DataW.trod_int Tryz.underlying2 k1
      obtain ⟨c, ec, _, wc⟩ := DataW.trod_int Tryz.underlying2 h2
      obtain ⟨u, eu, _⟩ := DataW.trod_bool Tryz.underlying4 h3
      simp only [List.cons.injEq, and_true] at ed ea el ec eu
      subst ed ea el ec eu
      exact ⟨⟨d, a, l, c, u⟩, rfl, wd, wa, wl, wc⟩
set_option maxRecDepth 100000 in
theorem open_ifV {r : Reach} {b0 : Nat} {v : Value} {d : DataW H} {p : List MemPlace} (hv : Value.okWide Tryz.prog w r b0 197 v) (h : DataW.Trod enc Tryz.prog w base spare held 197 v d p) :
    ∃ f : If, v = ifV f ∧ IfW f := by
  obtain ⟨cs, rfl, hsz⟩ := okWide_struct Tryz.underlying197 hv
  obtain ⟨c0, c1, c2, c3, c4, rfl⟩ := array5i (hsz.trans Tryz.cellsIface)
  obtain ⟨fuel, hf⟩ := h
  obtain ⟨f, he, hw⟩ := open_if hf
  refine ⟨f, ?_, hw⟩
  simp only [Value.cells, ifL] at he
  simp only [List.cons.injEq, and_true] at he
  obtain ⟨rfl, rfl, rfl, rfl, rfl⟩ := he
  rfl
end
end Go.Proofs.YtcnadobnihbldaaGreat
/- Lists of Ifaces in memory. (Written by gen_ifs.py.) -/
namespace Go.Proofs.YtcnadobnihbldaaGreat
open Go.RowKit Go.Sort

def rowI (rs : List If) : List Value := rs.flatMap ifL
theorem ifL_length (r : If) : (ifL r).length = 5 := rfl
theorem rowI_length (rs : List If) : (rowI rs).length = 5 * rs.length := by
  induction rs with
  | nil => rfl
  | cons e es ih => simp only [rowI, List.flatMap_cons, List.length_append, List.length_cons] at ih ⊢; rw [ih, ifL_length]; omega
theorem rowI_append (a b : List If) : rowI (a ++ b) = rowI a ++ rowI b := by simp [rowI]
theorem rowI_cons (e : If) (es : List If) : rowI (e :: es) = ifL e ++ rowI es := rfl
theorem rowI_get (es : List If) (i k : Nat) (hi : i < es.length) (hk : k < 5) : (rowI es)[i * 5 + k]? = (ifL es[i])[k]? := by
  induction es generalizing i with
  | nil => simp at hi
  | cons e es ih =>
    rw [rowI_cons]
    match i with
    | 0 => rw [Nat.zero_mul, Nat.zero_add, List.getElem?_append_left (by rw [ifL_length]; omega)]; rfl
    | i + 1 =>
      rw [List.getElem?_append_right (by rw [ifL_length]; omega), ifL_length, show (i + 1) * 5 + k - 5 = i * 5 + k by omega, ih i (by simpa using hi)]
      rfl
theorem rowI_one (es : List If) : ∀ u ∈ rowI es, u.oneCell' = true := by
  intro u hu
  simp only [rowI, List.mem_flatMap, ifL, List.mem_cons, List.not_mem_nil, or_false] at hu
  obtain ⟨e, _, h⟩ := hu
  rcases h with h | h | h | h | h <;> (rw [h]; rfl)
/-- The slice (p, rs.length) holds the Ifaces rs. -/
def IfsIn (w : World) (p : Option Addr) (rs : List If) : Prop := rs = [] ∨ ∃ g, p = some ⟨g, 0, none⟩ ∧ g < w.heap.size ∧ ∀ j u, (rowI rs)[j]? = some u → w.cell? ⟨g, j, none⟩ = some u
theorem IfsIn.below {w w' : World} {p : Option Addr} {rs : List If} (h : IfsIn w p rs) (hb : Below w.heap.size w w') : IfsIn w' p rs := by
  rcases h with h | ⟨g, hp, hg, hc⟩
  · exact .inl h
  · refine .inr ⟨g, hp, by have := hb.size; omega, fun j u hj => ?_⟩
    rw [hb.cell (p := ⟨g, j, none⟩) hg]
    exact hc j u hj
theorem IfsIn.alloc {w : World} {p : Option Addr} {rs : List If} (h : IfsIn w p rs) (o : Obj) : IfsIn (w.alloc o) p rs := h.below (ent_new0 w o)
theorem IfsIn.at {w : World} {p : Option Addr} {rs : List If} (h : IfsIn w p rs) (i : Nat) (hi : i < rs.length) : ∃ g d a l c u, p = some ⟨g, 0, none⟩ ∧ g < w.heap.size ∧ rs[i] = ⟨d, a, l, c, u⟩ ∧ w.cell? ⟨g, i * 5, none⟩ = some (.int .i64 d) ∧ w.cell? ⟨g, i * 5 + 1, none⟩ = some (.int .i64 a) ∧ w.cell? ⟨g, i * 5 + 2, none⟩ = some (.int .i64 l) ∧ w.cell? ⟨g, i * 5 + 3, none⟩ = some (.int .i64 c) ∧ w.cell? ⟨g, i * 5 + 4, none⟩ = some (.bool u) := by
  rcases h with rfl | ⟨g, hp, hg, hc⟩
  · simp at hi
  · exact ⟨g, rs[i].d, rs[i].a, rs[i].l, rs[i].c, rs[i].u, hp, hg, rfl, hc _ _ (rowI_get rs i 0 hi (by omega)), hc _ _ (rowI_get rs i 1 hi (by omega)), hc _ _ (rowI_get rs i 2 hi (by omega)), hc _ _ (rowI_get rs i 3 hi (by omega)), hc _ _ (rowI_get rs i 4 hi (by omega))⟩
theorem ifsIn_row {w : World} {g : Nat} {t : TypeId} {rs : List If} (h : Row w g t (rowI rs)) : IfsIn w (some ⟨g, 0, none⟩) rs := .inr ⟨g, rfl, h.lt, fun j _ hj => (h.cell j).trans hj⟩
end Go.Proofs.YtcnadobnihbldaaGreat
/- The laws' own lists of Ifaces: opened. (Written by gen_ifs.py.) -/
namespace Go.Proofs.YtcnadobnihbldaaGreat
open Go.ChangeShapes Go.WideShapes Go.RowKit Go.Sort Go.Deep Go.Joins

/-- The slice (x, len) that was handed in holds the Ifaces rs. -/
def ArgI (w : World) (x : Option Addr) (len : Nat) (rs : List If) : Prop := rs.length = len ∧ len ≤ maxLen ∧ (∀ e ∈ rs, IfW e) ∧ ∀ i, (h : i < rs.length) → ∃ p, x = some p ∧ w.cell? (p.add (i * 5)) = some (.int .i64 rs[i].d) ∧ w.cell? (p.add (i * 5 + 1)) = some (.int .i64 rs[i].a) ∧ w.cell? (p.add (i * 5 + 2)) = some (.int .i64 rs[i].l) ∧ w.cell? (p.add (i * 5 + 3)) = some (.int .i64 rs[i].c) ∧ w.cell? (p.add (i * 5 + 4)) = some (.bool rs[i].u)
theorem ArgI.below {w w' : World} {x : Option Addr} {len : Nat} {rs : List If} (h : ArgI w x len rs) (hb : Below w.heap.size w w') : ArgI w' x len rs := by
  obtain ⟨h1, h2, h3, h4⟩ := h
  refine ⟨h1, h2, h3, fun i hi => ?_⟩
  obtain ⟨p, hp, c0, c1, c2, c3, c4⟩ := h4 i hi
  have hk : ∀ k v, w.cell? (p.add k) = some v → w'.cell? (p.add k) = some v := fun k v hv => by rw [hb.cell (World.block_lt_of_cell? w _ hv)]; exact hv
  exact ⟨p, hp, hk _ _ c0, hk _ _ c1, hk _ _ c2, hk _ _ c3, hk _ _ c4⟩
theorem addr_moreI (p : Addr) (m j : Nat) (hj : j ≠ 0) : p.add (m + j) = ⟨(p.add m).block, (p.add m).off + j, none⟩ := by
  rw [← Addr.add_add]
  generalize p.add m = q
  unfold Addr.add
  rw [if_neg hj]
theorem ArgI.at {w : World} {x : Option Addr} {len : Nat} {rs : List If} (h : ArgI w x len rs) (i : Nat) (hi : i < rs.length) : ∃ p d a l c u, x = some p ∧ rs[i] = ⟨d, a, l, c, u⟩ ∧ w.cell? (p.add (i * 5)) = some (.int .i64 d) ∧ w.cell? ⟨(p.add (i * 5)).block, (p.add (i * 5)).off + 1, none⟩ = some (.int .i64 a) ∧ w.cell? ⟨(p.add (i * 5)).block, (p.add (i * 5)).off + 2, none⟩ = some (.int .i64 l) ∧ w.cell? ⟨(p.add (i * 5)).block, (p.add (i * 5)).off + 3, none⟩ = some (.int .i64 c) ∧ w.cell? ⟨(p.add (i * 5)).block, (p.add (i * 5)).off + 4, none⟩ = some (.bool u) := by
  obtain ⟨p, hp, c0, c1, c2, c3, c4⟩ := h.2.2.2 i hi
  rw [addr_moreI _ _ _ (by omega)] at c1 c2 c3 c4
  exact ⟨p, _, _, _, _, _, hp, rfl, c0, c1, c2, c3, c4⟩
section
variable {H : Type} {enc : TypeId × Value → H} {w : World} {base : Nat} {spare : Nat → Bool} {held : Bool}
set_option maxRecDepth 100000 in
theorem open_ifs {fuel : Nat} {v : Value} {x : DataW H × List MemPlace} (h : DataW.trod enc Tryz.prog w base spare held fuel 106 [v] = some x) : ∃ y len cap rs, v = .slice y len cap ∧ ArgI w y len rs := by
  rcases open_slice Tryz.underlying106 h with ⟨h0, _⟩ | ⟨a, len, cap, m, n, D, Pl, h0, hb, hl, hm, hmm, _, hx⟩
  · simp only [List.cons.injEq, and_true] at h0
    exact ⟨none, 0, 0, [], h0, rfl, Nat.zero_le _, by simp, fun i hi => absurd hi (by simp)⟩
  · simp only [List.cons.injEq, and_true] at h0
    have hlm : len ≤ m := by rw [hmm]; split <;> omega
    have each : ∀ i, i < m → ∃ e : If, IfW e ∧ w.cell? (a.add (i * 5)) = some (.int .i64 e.d) ∧ w.cell? (a.add (i * 5 + 1)) = some (.int .i64 e.a) ∧ w.cell? (a.add (i * 5 + 2)) = some (.int .i64 e.l) ∧ w.cell? (a.add (i * 5 + 3)) = some (.int .i64 e.c) ∧ w.cell? (a.add (i * 5 + 4)) = some (.bool e.u) := by
      intro i hi
      obtain ⟨cs', h1, h2⟩ := hx i hi
      rw [Tryz.cellsIface] at h1
      obtain ⟨e, rfl, hw⟩ := open_if h2
      obtain ⟨_, _, hcell⟩ := World.cells?_some h1
      have hadd : ∀ j k, (a.add j).add k = a.add (j + k) := fun j k => by
        unfold Addr.add
        by_cases hj : j = 0
        · subst hj; by_cases hk : k = 0 <;> simp [hk]
        · by_cases hk : k = 0
          · simp [hj, hk]
          · simp [hj, hk, Nat.add_assoc]
      refine ⟨e, hw, ?_⟩
      have k0 := hcell 0 (by omega)
      have k1 := hcell 1 (by omega)
      have k2 := hcell 2 (by omega)
      have k3 := hcell 3 (by omega)
      have k4 := hcell 4 (by omega)
      simp only [hadd, Nat.add_zero, ifL] at k0 k1 k2 k3 k4
      exact ⟨by simpa using k0, by simpa using k1, by simpa using k2, by simpa using k3, by simpa using k4⟩
    obtain ⟨E, hE⟩ := choose_lt (α := If) (p := fun i e => IfW e ∧ w.cell? (a.add (i * 5)) = some (.int .i64 e.d) ∧ w.cell? (a.add (i * 5 + 1)) = some (.int .i64 e.a) ∧ w.cell? (a.add (i * 5 + 2)) = some (.int .i64 e.l) ∧ w.cell? (a.add (i * 5 + 3)) = some (.int .i64 e.c) ∧ w.cell? (a.add (i * 5 + 4)) = some (.bool e.u)) each
    refine ⟨some a, len, cap, (List.range len).map E, h0, by simp, by omega, ?_, ?_⟩
    · intro e he
      simp only [List.mem_map, List.mem_range] at he
      obtain ⟨i, hi, rfl⟩ := he
      exact (hE i (by omega)).1
    · intro i hi
      simp only [List.length_map, List.length_range] at hi
      refine ⟨a, rfl, ?_⟩
      simp only [List.getElem_map, List.getElem_range]
      exact (hE i (by omega)).2
end
end Go.Proofs.YtcnadobnihbldaaGreat
/- The laws' own lists of Ifaces measured and handed over. (Written by gen_ifs.py.) -/
namespace Go.Proofs.YtcnadobnihbldaaGreat
open Go.RowKit Go.Sort

def fiveI (w : World) (g o : Nat) (x0 x1 x2 x3 x4 : Value) : World := (((((w.setCell ⟨g, o, none⟩ x0).setCell ⟨g, o + 1, none⟩ x1).setCell ⟨g, o + 2, none⟩ x2).setCell ⟨g, o + 3, none⟩ x3).setCell ⟨g, o + 4, none⟩ x4)
theorem fiveI_below {B : Nat} {w0 w : World} (h : Below B w0 w) (g o : Nat) (hg : B ≤ g) (x0 x1 x2 x3 x4 : Value) : Below B w0 (fiveI w g o x0 x1 x2 x3 x4) := (((((h.setCell (p := ⟨g, o, none⟩) hg x0).setCell (p := ⟨g, o + 1, none⟩) hg x1).setCell (p := ⟨g, o + 2, none⟩) hg x2).setCell (p := ⟨g, o + 3, none⟩) hg x3).setCell (p := ⟨g, o + 4, none⟩) hg x4)
theorem fiveI_row {w : World} {g : Nat} {t : TypeId} {l : List Value} (h : Row w g t l) (o : Nat) (x0 x1 x2 x3 x4 : Value) : Row (fiveI w g o x0 x1 x2 x3 x4) g t (((((l.set (o) x0).set (o + 1) x1).set (o + 2) x2).set (o + 3) x3).set (o + 4) x4) := (((((h.set (o) x0).set (o + 1) x1).set (o + 2) x2).set (o + 3) x3).set (o + 4) x4)
theorem fiveI_other {w : World} {b g : Nat} {t : TypeId} {l : List Value} (h : Row w b t l) (hne : b ≠ g) (o : Nat) (x0 x1 x2 x3 x4 : Value) : Row (fiveI w g o x0 x1 x2 x3 x4) b t l := (((((h.other (o) x0 hne).other (o + 1) x1 hne).other (o + 2) x2 hne).other (o + 3) x3 hne).other (o + 4) x4 hne)
theorem set5i (A R : List Value) (k : Nat) (hA : A.length = k * 5) (z0 z1 z2 z3 z4 x0 x1 x2 x3 x4 : Value) : ((((((A ++ ([z0, z1, z2, z3, z4] ++ R)).set (k * 5) x0).set (k * 5 + 1) x1).set (k * 5 + 2) x2).set (k * 5 + 3) x3).set (k * 5 + 4) x4) = A ++ ([x0, x1, x2, x3, x4] ++ R) := by
  have e : ∀ (L : List Value) (j : Nat) (x : Value), (A ++ L).set (k * 5 + j) x = A ++ L.set j x := fun L j x => by
    rw [List.set_append, if_neg (by omega), hA, Nat.add_sub_cancel_left]
  have e0 : ∀ (L : List Value) (x : Value), (A ++ L).set (k * 5) x = A ++ L.set 0 x := fun L x => e L 0 x
  rw [e0, e, e, e, e]
  rfl
theorem Row.someI {w : World} {g : Nat} {t : TypeId} {l : List Value} (h : Row w g t l) (k : Nat) (hk : k < l.length) : ∃ v, w.cell? ⟨g, k, none⟩ = some v := ⟨l[k], by rw [h.cell, List.getElem?_eq_getElem hk]⟩
theorem Tryz.infoI : (Tryz.prog.info? 53).map (fun i => (i.zero, i.size, i.bytes)) = some (some (.agg #[.int .i64 0, .int .i64 0, .int .i64 0, .int .i64 0, .bool false]), 5, 40) := by kernel_rfl
def zeroIf : If := ⟨0, 0, 0, 0, false⟩
theorem rowI_zero_get (n i : Nat) (h : i < n * 5) : (rowI (List.replicate n zeroIf))[i]? = some (if i % 5 = 4 then .bool false else .int .i64 0) := by
  have hi : i / 5 < (List.replicate n zeroIf).length := by simp; omega
  have := rowI_get (List.replicate n zeroIf) (i / 5) (i % 5) hi (by omega)
  rw [show i / 5 * 5 + i % 5 = i by omega] at this
  rw [this, List.getElem_replicate]
  have h9 : i % 5 = 0 ∨ i % 5 = 1 ∨ i % 5 = 2 ∨ i % 5 = 3 ∨ i % 5 = 4 := by omega
  rcases h9 with h | h | h | h | h <;> (rw [h]; rfl)
theorem made_zeroI (n : Nat) : (madeCells (Value.agg #[.int .i64 0, .int .i64 0, .int .i64 0, .int .i64 0, .bool false]).cells (n * 5)).toList = rowI (List.replicate n zeroIf) := by
  apply List.ext_getElem?
  intro i
  by_cases h : i < n * 5
  · rw [rowI_zero_get n i h]
    simp only [madeCells, Value.cells, Array.toList_map, List.getElem?_map]
    have h9 : i % 5 = 0 ∨ i % 5 = 1 ∨ i % 5 = 2 ∨ i % 5 = 3 ∨ i % 5 = 4 := by omega
    rcases h9 with h9 | h9 | h9 | h9 | h9 <;> simp [h9, h]
  · rw [List.getElem?_eq_none (by simp [madeCells]; omega), List.getElem?_eq_none (by rw [rowI_length]; simp; omega)]
set_option maxRecDepth 100000 in
/-- 'make([]Iface, n)'. -/
theorem wpList_make_ifs {w : World} {ops : Array Oper} {rest : List Oper} {o : Oper} {a : Act} {Q : Exit → Act → World → Prop}
    (hgd : o.guard = none) (l c : Operand) (hop : o.op = Op.makeSlice 54 l c)
    (L : Int) (n : Nat) (hl : a.eval l = .int .i64 L) (hc : a.eval c = .int .i64 L) (hL : L = (n : Int)) (hn : n ≤ 100000000)
    (B : Nat) (w0 : World) (hb : Below B w0 w) (hB : B ≤ w.heap.size)
    (h : ∀ w', Row w' w.heap.size 53 (rowI (List.replicate n zeroIf)) → Below B w0 w' → wpList Tryz.prog ops Q rest (a.put o.dst (.slice (some ⟨w.heap.size, 0, none⟩) n n)) w') : wpList Tryz.prog ops Q (o :: rest) a w := by
  obtain ⟨i0, hi0, hz0, hz1, hz2⟩ := info_parts Tryz.infoI
  refine wpList_make_full w hgd l c 54 hop B 53 i0 _ 5 Tryz.underlying54 hi0 hz0 hz1 .i64 .i64 L L n hl hc hL hL (by rw [hz2]; omega) (by unfold maxLen; omega) hB ?_
  intro w' hown hgrow
  rcases hown.2 with ⟨h', _⟩ | ⟨g, cap, cur, h', hbg, hg, hnc, hcm, hcs, htake⟩
  · simp at h'
  · simp only [Value.slice.injEq, Option.some.injEq, Addr.mk.injEq, and_true, true_and] at h'
    obtain ⟨rfl, rfl⟩ := h'
    refine h w' ?_ (hb.trans ((Below.refl B w).grown hgrow hB (by intro k hk; cases hk)))
    unfold Row
    rw [hg, ← made_zeroI, ← htake, List.take_of_length_le (by simp [hcs])]
theorem rowI_set (es : List If) (k : Nat) (hk : k < es.length) (d a l c : Int) (u : Bool) (he : es[k] = ⟨d, a, l, c, u⟩) :
    ((((((rowI (es.take k ++ List.replicate (es.length - k) zeroIf)).set (k * 5) (.int .i64 d)).set (k * 5 + 1) (.int .i64 a)).set (k * 5 + 2) (.int .i64 l)).set (k * 5 + 3) (.int .i64 c)).set (k * 5 + 4) (.bool u)) = rowI (es.take (k + 1) ++ List.replicate (es.length - (k + 1)) zeroIf) := by
  have e1 : es.length - k = (es.length - (k + 1)) + 1 := by omega
  rw [e1, List.replicate_succ, rowI_append, rowI_cons, List.take_succ_eq_append_getElem hk, List.append_assoc, rowI_append, List.singleton_append, rowI_cons, he]
  exact set5i _ _ k (by rw [rowI_length, List.length_take]; omega) _ _ _ _ _ _ _ _ _ _
set_option maxRecDepth 100000 in
theorem szIfaceS_any (x : Option Addr) (len cap : Nat) (w : World) (hl : len ≤ maxLen) : Calls Tryz.prog 106 #[.slice x len cap, .int .i64 1048576] w fun e w' => e = .returned (.int .i64 (if len ≤ 1048576 then 1048576 - (len : Int) else -1)) ∧ w = w' := by
  unfold maxLen at hl
  by_cases h : len ≤ 1048576
  · rw [if_pos h]
    have d : decide (1048576 - (len : Int) < 0) = false := by simp; omega
    go_enter Tryz.func106, Tryz.ntmps106
    go_wp2
    go_ret
    exact ⟨rfl, rfl⟩
  · rw [if_neg h]
    have d : decide (1048576 - (len : Int) < 0) = true := by simp; omega
    go_enter Tryz.func106, Tryz.ntmps106
    go_wp2
    go_ret
    exact ⟨rfl, rfl⟩
set_option maxRecDepth 100000 in
theorem toIfaceS_any (x : Option Addr) (cap : Nat) (es : List If) (w : World) (h : ArgI w x es.length es) (hn : es.length ≤ 1048576) :
    Calls Tryz.prog 113 #[.slice x es.length cap] w fun e w' => ∃ g, e = .returned (.slice (some ⟨g, 0, none⟩) es.length es.length) ∧ w.heap.size ≤ g ∧ Row w' g 53 (rowI es) ∧ Below w.heap.size w w' := by
  have HE : Hid (∀ e w, Calls Tryz.prog 144 #[ifV e] w fun r w' => r = .returned (ifV e) ∧ Below w.heap.size w w') := toIface_any
  have HX : Hid (ArgI w x es.length es) := h
  clear h
  go_enter Tryz.func113, Tryz.ntmps113
  go_wp2_with (at_make; refine wpList_make_ifs rfl _ _ rfl _ es.length rfl rfl rfl (by omega) w.heap.size w (Below.refl _ _) (Nat.le_refl _) ?_)
  intro w0 hr0 hb0
  have hz : es.take 0 ++ List.replicate (es.length - 0) zeroIf = List.replicate es.length zeroIf := by simp
  rw [← hz] at hr0
  clear hz
  go_wp2_with fail
  go_loopw [4] (fun i wr => ∃ k : Nat, k ≤ es.length ∧ i = .int .i64 k ∧ Row wr w.heap.size 53 (rowI (es.take k ++ List.replicate (es.length - k) zeroIf)) ∧ Below w.heap.size w wr) (fun i _ => es.length - (intOf i).toNat)
  case atStart => exact ⟨0, Nat.zero_le _, rfl, hr0, hb0⟩
  case round =>
    obtain ⟨k, hk, rfl, hr, hb⟩ := hrel
    by_cases hlt : k < es.length
    · obtain ⟨p, d, a, l, c, u, rfl, hek, c0, c1, c2, c3, c4⟩ := (HX.out.below hb).at k hlt
      have HEk : Hid (∀ w, Calls Tryz.prog 144 #[.agg #[.int .i64 d, .int .i64 a, .int .i64 l, .int .i64 c, .bool u]] w fun r w' => r = .returned (.agg #[.int .i64 d, .int .i64 a, .int .i64 l, .int .i64 c, .bool u]) ∧ Below w.heap.size w w') := HE.out ⟨d, a, l, c, u⟩
      have hset := rowI_set es k hlt d a l c u hek
      have HS : Hid _ := hset
      clear hset HE hek hr0 hb0
      go_wp2_with fail
      refine (HEk.out _).mono ?_
      rintro e w1 ⟨rfl, hb1⟩
      have hr1 := hr.below hb1 hr.lt
      have hB1 := hb.trans (hb1.mono hb.size)
      clear c0 c1 c2 c3 c4 hb1 HEk hr hb
      have hlr : (rowI (es.take k ++ List.replicate (es.length - k) zeroIf)).length = es.length * 5 := by rw [rowI_length]; simp; omega
      obtain ⟨z0, hz0⟩ := Row.someI hr1 (k * 5) (by omega)
      obtain ⟨z1, hz1⟩ := Row.someI hr1 (k * 5 + 1) (by omega)
      obtain ⟨z2, hz2⟩ := Row.someI hr1 (k * 5 + 2) (by omega)
      obtain ⟨z3, hz3⟩ := Row.someI hr1 (k * 5 + 3) (by omega)
      obtain ⟨z4, hz4⟩ := Row.someI hr1 (k * 5 + 4) (by omega)
      have f0 := hr1.frozen (k * 5)
      have f1 := hr1.frozen (k * 5 + 1)
      have f2 := hr1.frozen (k * 5 + 2)
      have f3 := hr1.frozen (k * 5 + 3)
      have f4 := hr1.frozen (k * 5 + 4)
      have hr2 := fiveI_row hr1 (k * 5) (.int .i64 d) (.int .i64 a) (.int .i64 l) (.int .i64 c) (.bool u)
      rw [HS.out] at hr2
      have hB2 := fiveI_below hB1 w.heap.size (k * 5) (Nat.le_refl _) (.int .i64 d) (.int .i64 a) (.int .i64 l) (.int .i64 c) (.bool u)
      unfold fiveI at hr2 hB2
      have HH : Hid _ := And.intro hr2 hB2
      clear hr1 hB1 HS hlr hr2 hB2
      go_wp2_with fail
      go_roundw
      case rel => exact ⟨k + 1, hlt, by go_num, HH.out.1, HH.out.2⟩
      case measure => simp [intOf]; omega
    · obtain rfl : k = es.length := by omega
      rw [List.take_length, Nat.sub_self, List.replicate_zero, List.append_nil] at hr
      clear hlt hk
      go_wp2
      go_ret
      exact ⟨_, rfl, Nat.le_refl _, hr, hb⟩
end Go.Proofs.YtcnadobnihbldaaGreat
/- The laws' own look: Ifaces and lists of them are as themselves. (Written by gen_ifs.py.) -/
namespace Go.Proofs.YtcnadobnihbldaaGreat
open Go.RowKit Go.Sort

theorem boxes5i {w w1 : World} {xs ys : List Value} {t u : TypeId} (h : Below ((w.alloc (.cells xs.toArray t)).alloc (.cells ys.toArray u)).heap.size ((w.alloc (.cells xs.toArray t)).alloc (.cells ys.toArray u)) w1) :
    (∀ k v, xs[k]? = some v → w1.cell? ⟨w.heap.size, k, none⟩ = some v) ∧ (∀ k v, ys[k]? = some v → w1.cell? ⟨w.heap.size + 1, k, none⟩ = some v) ∧ Below w.heap.size w w1 := by
  have q0 := (Row.new w t xs).alloc (.cells ys.toArray u)
  have q1 := Row.new (w.alloc (.cells xs.toArray t)) u ys
  have p0 := q0.below h q0.lt
  have p1 := q1.below h q1.lt
  have e1 : (w.alloc (.cells xs.toArray t)).heap.size = w.heap.size + 1 := by simp
  rw [e1] at p1
  exact ⟨fun k v hv => (p0.cell k).trans hv, fun k v hv => (p1.cell k).trans hv, ((ent_new0 w _).alloc (by simp) _).trans (h.mono (by simp; omega))⟩
set_option maxRecDepth 100000 in
theorem eqIface_same (e : If) (w : World) : Calls Tryz.prog 155 #[ifV e, ifV e] w fun r w' => r = .returned (.bool true) ∧ Below w.heap.size w w' := by
  obtain ⟨d, a, l, c, u⟩ := e
  unfold ifV ifA
  have HN : Hid (∀ w, Calls Tryz.prog 181 #[.agg #[.int .i64 a, .int .i64 l], .agg #[.int .i64 a, .int .i64 l]] w fun e w' => e = .returned (.bool true) ∧ Below w.heap.size w w') := eqNet_same a l
  have ed : (d != d) = false := by simp
  have ec : (c != c) = false := by simp
  have eu : (u != u) = false := by simp
  go_enter Tryz.func155, Tryz.ntmps155
  go_wp2_with fail
  refine (HN.out _).mono ?_
  rintro e w1 ⟨rfl, hb1⟩
  obtain ⟨k0, k1, hB⟩ := boxes5i (xs := [.int .i64 d, .int .i64 a, .int .i64 l, .int .i64 c, .bool u]) (ys := [.int .i64 d, .int .i64 a, .int .i64 l, .int .i64 c, .bool u]) hb1
  have c3 := k0 3 _ rfl
  have d3 := k1 3 _ rfl
  have c4 := k0 4 _ rfl
  have d4 := k1 4 _ rfl
  clear k0 k1 hb1 HN
  go_wp2
  go_ret
  exact ⟨rfl, hB⟩
set_option maxRecDepth 100000 in
theorem eqIfaceS_any (p q : Option Addr) (c0 d0 : Nat) (es : List If) (w : World) (hp : IfsIn w p es) (hq : IfsIn w q es) (hn : es.length ≤ 100000000) : Calls Tryz.prog 127 #[.slice p es.length c0, .slice q es.length d0] w fun r w' => r = .returned (.bool true) ∧ Below w.heap.size w w' := by
  have HE : Hid (∀ e w, Calls Tryz.prog 155 #[ifV e, ifV e] w fun r w' => r = .returned (.bool true) ∧ Below w.heap.size w w') := eqIface_same
  have HX : Hid (IfsIn w p es ∧ IfsIn w q es) := ⟨hp, hq⟩
  have h0 : ((es.length : Int) != (es.length : Int)) = false := by simp
  clear hp hq
  go_enter Tryz.func127, Tryz.ntmps127
  go_wp2_with fail
  go_loopw [5] (fun i wr => ∃ k : Nat, k ≤ es.length ∧ i = .int .i64 k ∧ Below w.heap.size w wr) (fun i _ => es.length - (intOf i).toNat)
  case atStart => exact ⟨0, Nat.zero_le _, rfl, Below.refl _ _⟩
  case round =>
    obtain ⟨k, hk, rfl, hb⟩ := hrel
    by_cases hlt : k < es.length
    · obtain ⟨g, d, a, l, c, u, rfl, hg, hek, x0, x1, x2, x3, x4⟩ := (HX.out.1.below hb).at k hlt
      obtain ⟨g', d', a', l', c', u', rfl, hg', hek', y0, y1, y2, y3, y4⟩ := (HX.out.2.below hb).at k hlt
      rw [hek] at hek'
      simp only [If.mk.injEq] at hek'
      obtain ⟨rfl, rfl, rfl, rfl, rfl⟩ := hek'
      have HEk : Hid (∀ w, Calls Tryz.prog 155 #[.agg #[.int .i64 d, .int .i64 a, .int .i64 l, .int .i64 c, .bool u], .agg #[.int .i64 d, .int .i64 a, .int .i64 l, .int .i64 c, .bool u]] w fun r w' => r = .returned (.bool true) ∧ Below w.heap.size w w') := HE.out ⟨d, a, l, c, u⟩
      clear HE hek HX
      replace x0 := cell_regrown x0
      replace y0 := cell_regrown y0
      replace x1 := cell_regrown x1
      replace y1 := cell_regrown y1
      replace x2 := cell_regrown x2
      replace y2 := cell_regrown y2
      replace x3 := cell_regrown x3
      replace y3 := cell_regrown y3
      replace x4 := cell_regrown x4
      replace y4 := cell_regrown y4
      go_wp2_with fail
      refine wp_region_quiet_below (by kernel_rfl) (by kernel_rfl) ?_
      repeat (go_big_quiet_step ((go_at_call 155; exact Calls.regrown_of (HEk.out _))))
      refine wpQuiet_nil ?_
      intro w1 hw'
      obtain ⟨⟨dq, osq⟩, hw''⟩ := hw'
      have hbq := below_regrown wr dq osq
      rw [← hw''] at hbq
      clear hw'' osq dq x0 x1 x2 x3 x4 y0 y1 y2 y3 y4 HEk
      have hb2 := hb.trans (hbq.mono hb.size)
      clear hbq
      go_wp2
      go_roundw
      case rel => exact ⟨k + 1, hlt, by go_num, hb2⟩
      case measure => simp [intOf]; omega
    · obtain rfl : k = es.length := by omega
      clear hlt hk
      go_wp2
      go_ret
      exact ⟨rfl, hb⟩
end Go.Proofs.YtcnadobnihbldaaGreat
/- The laws' own routes, and lists of them, handed in: opened. (Written by gen_rts.py.) -/
namespace Go.Proofs.YtcnadobnihbldaaGreat
open Go.ChangeShapes Go.WideShapes Go.RowKit Go.Deep Go.WideElems Go.Maps Go.Joins

def rtL (r : Rt) : List Value := [.int .i64 r.a, .int .i64 r.l, .int .i64 r.m, .int .i64 r.n, .int .i64 r.i, .int .i64 r.t, .int .i64 r.u, .int .i64 r.b, .bool r.c]
theorem rtL_rtA (r : Rt) : (rtA r).toList = rtL r := rfl
theorem array9 {α : Type} {cs : Array α} (h : cs.size = 9) : ∃ c0 c1 c2 c3 c4 c5 c6 c7 c8, cs = #[c0, c1, c2, c3, c4, c5, c6, c7, c8] := by
  obtain ⟨l⟩ := cs
  match l, h with
  | [c0, c1, c2, c3, c4, c5, c6, c7, c8], _ => exact ⟨c0, c1, c2, c3, c4, c5, c6, c7, c8, rfl⟩
/-- All eight numbers of a route are of 64 bits. -/
def RtW (r : Rt) : Prop := (Lit.int .i64 r.a).wf = true ∧ (Lit.int .i64 r.l).wf = true ∧ (Lit.int .i64 r.m).wf = true ∧ (Lit.int .i64 r.n).wf = true ∧ (Lit.int .i64 r.i).wf = true ∧ (Lit.int .i64 r.t).wf = true ∧ (Lit.int .i64 r.u).wf = true ∧ (Lit.int .i64 r.b).wf = true
theorem Tryz.cellsRoute : Tryz.prog.cellsOf 218 = 9 := by kernel_rfl
theorem Tryz.cellsNetR : Tryz.prog.cellsOf 195 = 2 := by kernel_rfl
theorem Tryz.cellsIntR : Tryz.prog.cellsOf 2 = 1 := by kernel_rfl
theorem Tryz.cellsBoolR : Tryz.prog.cellsOf 4 = 1 := by kernel_rfl
section
variable {H : Type} {enc : TypeId × Value → H} {w : World} {base : Nat} {spare : Nat → Bool} {held : Bool}
set_option maxRecDepth 100000 in
theorem open_rt {fuel : Nat} {cs : List Value} {x : DataW H × List MemPlace} (h : DataW.trod enc Tryz.prog w base spare held fuel 218 cs = some x) : ∃ r : Rt, cs = rtL r ∧ RtW r := by
  obtain ⟨xs, n, _, _, hl, hx, hg⟩ := DataW.trod_struct Tryz.underlying218 h
  rw [Tryz.cellsRoute] at hl
  match cs, hl, xs, hx with
  | [c0, c1, c2, c3, c4, c5, c6, c7, c8], _, [y0, y1, y2, y3, y4, y5, y6, y7], _ =>
    have h0 : DataW.trod enc Tryz.prog w base spare held n 195 ((([c0, c1, c2, c3, c4, c5, c6, c7, c8] : List Value).drop 0).take (Tryz.prog.cellsOf 195)) = [y0, y1, y2, y3, y4, y5, y6, y7][0]? := hg 0 _ rfl
    rw [Tryz.cellsNetR] at h0
    replace h0 : DataW.trod enc Tryz.prog w base spare held n 195 [c0, c1] = some y0 := h0
    have h1 : DataW.trod enc Tryz.prog w base spare held n 2 ((([c0, c1, c2, c3, c4, c5, c6, c7, c8] : List Value).drop 2).take (Tryz.prog.cellsOf 2)) = [y0, y1, y2, y3, y4, y5, y6, y7][1]? := hg 1 _ rfl
    rw [Tryz.cellsIntR] at h1
    replace h1 : DataW.trod enc Tryz.prog w base spare held n 2 [c2] = some y1 := h1
    have h2 : DataW.trod enc Tryz.prog w base spare held n 2 ((([c0, c1, c2, c3, c4, c5, c6, c7, c8] : List Value).drop 3).take (Tryz.prog.cellsOf 2)) = [y0, y1, y2, y3, y4, y5, y6, y7][2]? := hg 2 _ rfl
    rw [Tryz.cellsIntR] at h2
    replace h2 : DataW.trod enc Tryz.prog w base spare held n 2 [c3] = some y2 := h2
    have h3 : DataW.trod enc Tryz.prog w base spare held n 2 ((([c0, c1, c2, c3, c4, c5, c6, c7, c8] : List Value).drop 4).take (Tryz.prog.cellsOf 2)) = [y0, y1, y2, y3, y4, y5, y6, y7][3]? := hg 3 _ rfl
    rw [Tryz.cellsIntR] at h3
    replace h3 : DataW.trod enc Tryz.prog w base spare held n 2 [c4] = some y3 := h3
    have h4 : DataW.trod enc Tryz.prog w base spare held n 2 ((([c0, c1, c2, c3, c4, c5, c6, c7, c8] : List Value).drop 5).take (Tryz.prog.cellsOf 2)) = [y0, y1, y2, y3, y4, y5, y6, y7][4]? := hg 4 _ rfl
    rw [Tryz.cellsIntR] at h4
    replace h4 : DataW.trod enc Tryz.prog w base spare held n 2 [c5] = some y4 := h4
    have h5 : DataW.trod enc Tryz.prog w base spare held n 2 ((([c0, c1, c2, c3, c4, c5, c6, c7, c8] : List Value).drop 6).take (Tryz.prog.cellsOf 2)) = [y0, y1, y2, y3, y4, y5, y6, y7][5]? := hg 5 _ rfl
    rw [Tryz.cellsIntR] at h5
    replace h5 : DataW.trod enc Tryz.prog w base spare held n 2 [c6] = some y5 := h5
    have h6 : DataW.trod enc Tryz.prog w base spare held n 2 ((([c0, c1, c2, c3, c4, c5, c6, c7, c8] : List Value).drop 7).take (Tryz.prog.cellsOf 2)) = [y0, y1, y2, y3, y4, y5, y6, y7][6]? := hg 6 _ rfl
    rw [Tryz.cellsIntR] at h6
    replace h6 : DataW.trod enc Tryz.prog w base spare held n 2 [c7] = some y6 := h6
    have h7 : DataW.trod enc Tryz.prog w base spare held n 4 ((([c0, c1, c2, c3, c4, c5, c6, c7, c8] : List Value).drop 8).take (Tryz.prog.cellsOf 4)) = [y0, y1, y2, y3, y4, y5, y6, y7][7]? := hg 7 _ rfl
    rw [Tryz.cellsBoolR] at h7
    replace h7 : DataW.trod enc Tryz.prog w base spare held n 4 [c8] = some y7 := h7
    obtain ⟨zs, k, _, _, _, hz, hk⟩ := DataW.trod_struct Tryz.underlying195 h0
    match zs, hz with
    | [z0, z1], _ =>
      have k0 : DataW.trod enc Tryz.prog w base spare held k 2 ((([c0, c1] : List Value).drop 0).take (Tryz.prog.cellsOf 2)) = [z0, z1][0]? := hk 0 _ rfl
      rw [Tryz.cellsIntR] at k0
      replace k0 : DataW.trod enc Tryz.prog w base spare held k 2 [c0] = some z0 := k0
      have k1 : DataW.trod enc Tryz.prog w base spare held k 2 ((([c0, c1] : List Value).drop 1).take (Tryz.prog.cellsOf 2)) = [z0, z1][1]? := hk 1 _ rfl
      rw [Tryz.cellsIntR] at k1
      replace k1 : DataW.trod enc Tryz.prog w base spare held k 2 [c1] = some z1 := k1
      obtain ⟨a, ea, _, wa⟩ := DataW.trod_int Tryz.underlying2 k0
      obtain ⟨l, el, _, wl⟩ := DataW.trod_int Tryz.underlying2 k1
      obtain ⟨m, em, _, wm⟩ := DataW.trod_int Tryz.underlying2 h1
      obtain ⟨n, en, _, wn⟩ := DataW.trod_int Tryz.underlying2 h2
      obtain ⟨i, ei, _, wi⟩ := DataW.trod_int Tryz.underlying2 h3
      obtain ⟨t, et, _, wt⟩ := DataW.trod_int Tryz.underlying2 h4
      obtain ⟨u, eu, _, wu⟩ := DataW.trod_int Tryz.underlying2 h5
      obtain ⟨b, eb, _, wb⟩ := DataW.trod_int Tryz.underlying2 h6
      obtain ⟨c, ec, _⟩ := DataW.trod_bool Tryz.underlying4 h7
      simp only [List.cons.injEq, and_true] at ea el em en ei et eu eb ec
      subst ea el em en ei et eu eb ec
      exact ⟨⟨a, l, m, n, i, t, u, b, c⟩, rfl, wa, wl, wm, wn, wi, wt, wu, wb⟩
set_option maxRecDepth 100000 in
theorem open_rtV {r : Reach} {b0 : Nat} {v : Value} {d : DataW H} {p : List MemPlace} (hv : Value.okWide Tryz.prog w r b0 218 v) (h : DataW.Trod enc Tryz.prog w base spare held 218 v d p) :
    ∃ e : Rt, v = rtV e ∧ RtW e := by
  obtain ⟨cs, rfl, hsz⟩ := okWide_struct Tryz.underlying218 hv
  obtain ⟨c0, c1, c2, c3, c4, c5, c6, c7, c8, rfl⟩ := array9 (hsz.trans Tryz.cellsRoute)
  obtain ⟨fuel, hf⟩ := h
  obtain ⟨e, he, hw⟩ := open_rt hf
  refine ⟨e, ?_, hw⟩
  simp only [Value.cells, rtL] at he
  simp only [List.cons.injEq, and_true] at he
  obtain ⟨rfl, rfl, rfl, rfl, rfl, rfl, rfl, rfl, rfl⟩ := he
  rfl
end
end Go.Proofs.YtcnadobnihbldaaGreat
/- Lists of routes in memory. (Written by gen_rts.py.) -/
namespace Go.Proofs.YtcnadobnihbldaaGreat
open Go.RowKit Go.Sort

def rowR (rs : List Rt) : List Value := rs.flatMap rtL
theorem rtL_length (r : Rt) : (rtL r).length = 9 := rfl
theorem rowR_length (rs : List Rt) : (rowR rs).length = 9 * rs.length := by
  induction rs with
  | nil => rfl
  | cons e es ih => simp only [rowR, List.flatMap_cons, List.length_append, List.length_cons] at ih ⊢; rw [ih, rtL_length]; omega
theorem rowR_append (a b : List Rt) : rowR (a ++ b) = rowR a ++ rowR b := by simp [rowR]
theorem rowR_cons (e : Rt) (es : List Rt) : rowR (e :: es) = rtL e ++ rowR es := rfl
theorem rowR_get (es : List Rt) (i k : Nat) (hi : i < es.length) (hk : k < 9) : (rowR es)[i * 9 + k]? = (rtL es[i])[k]? := by
  induction es generalizing i with
  | nil => simp at hi
  | cons e es ih =>
    rw [rowR_cons]
    match i with
    | 0 => rw [Nat.zero_mul, Nat.zero_add, List.getElem?_append_left (by rw [rtL_length]; omega)]; rfl
    | i + 1 =>
      rw [List.getElem?_append_right (by rw [rtL_length]; omega), rtL_length, show (i + 1) * 9 + k - 9 = i * 9 + k by omega, ih i (by simpa using hi)]
      rfl
theorem rowR_one (es : List Rt) : ∀ u ∈ rowR es, u.oneCell' = true := by
  intro u hu
  simp only [rowR, List.mem_flatMap, rtL, List.mem_cons, List.not_mem_nil, or_false] at hu
  obtain ⟨e, _, h⟩ := hu
  rcases h with h | h | h | h | h | h | h | h | h <;> (rw [h]; rfl)
/-- The slice (p, rs.length) holds the routes rs. -/
def RtsIn (w : World) (p : Option Addr) (rs : List Rt) : Prop := rs = [] ∨ ∃ g, p = some ⟨g, 0, none⟩ ∧ g < w.heap.size ∧ ∀ j u, (rowR rs)[j]? = some u → w.cell? ⟨g, j, none⟩ = some u
theorem RtsIn.below {w w' : World} {p : Option Addr} {rs : List Rt} (h : RtsIn w p rs) (hb : Below w.heap.size w w') : RtsIn w' p rs := by
  rcases h with h | ⟨g, hp, hg, hc⟩
  · exact .inl h
  · refine .inr ⟨g, hp, by have := hb.size; omega, fun j u hj => ?_⟩
    rw [hb.cell (p := ⟨g, j, none⟩) hg]
    exact hc j u hj
theorem RtsIn.alloc {w : World} {p : Option Addr} {rs : List Rt} (h : RtsIn w p rs) (o : Obj) : RtsIn (w.alloc o) p rs := h.below (ent_new0 w o)
theorem RtsIn.at {w : World} {p : Option Addr} {rs : List Rt} (h : RtsIn w p rs) (i : Nat) (hi : i < rs.length) : ∃ g a l m n ii t u b c, p = some ⟨g, 0, none⟩ ∧ g < w.heap.size ∧ rs[i] = ⟨a, l, m, n, ii, t, u, b, c⟩ ∧ w.cell? ⟨g, i * 9, none⟩ = some (.int .i64 a) ∧ w.cell? ⟨g, i * 9 + 1, none⟩ = some (.int .i64 l) ∧ w.cell? ⟨g, i * 9 + 2, none⟩ = some (.int .i64 m) ∧ w.cell? ⟨g, i * 9 + 3, none⟩ = some (.int .i64 n) ∧ w.cell? ⟨g, i * 9 + 4, none⟩ = some (.int .i64 ii) ∧ w.cell? ⟨g, i * 9 + 5, none⟩ = some (.int .i64 t) ∧ w.cell? ⟨g, i * 9 + 6, none⟩ = some (.int .i64 u) ∧ w.cell? ⟨g, i * 9 + 7, none⟩ = some (.int .i64 b) ∧ w.cell? ⟨g, i * 9 + 8, none⟩ = some (.bool c) := by
  rcases h with rfl | ⟨g, hp, hg, hc⟩
  · simp at hi
  · exact ⟨g, rs[i].a, rs[i].l, rs[i].m, rs[i].n, rs[i].i, rs[i].t, rs[i].u, rs[i].b, rs[i].c, hp, hg, rfl, hc _ _ (rowR_get rs i 0 hi (by omega)), hc _ _ (rowR_get rs i 1 hi (by omega)), hc _ _ (rowR_get rs i 2 hi (by omega)), hc _ _ (rowR_get rs i 3 hi (by omega)), hc _ _ (rowR_get rs i 4 hi (by omega)), hc _ _ (rowR_get rs i 5 hi (by omega)), hc _ _ (rowR_get rs i 6 hi (by omega)), hc _ _ (rowR_get rs i 7 hi (by omega)), hc _ _ (rowR_get rs i 8 hi (by omega))⟩
def ribV (p : Option Addr) (n cap : Nat) : Value := .agg #[.slice p n cap]
theorem rtsIn_row {w : World} {g : Nat} {t : TypeId} {rs : List Rt} (h : Row w g t (rowR rs)) : RtsIn w (some ⟨g, 0, none⟩) rs := .inr ⟨g, rfl, h.lt, fun j _ hj => (h.cell j).trans hj⟩
end Go.Proofs.YtcnadobnihbldaaGreat
/- The laws' own tables: opened, measured, handed over. (Written by gen_rts.py.) -/
namespace Go.Proofs.YtcnadobnihbldaaGreat
open Go.ChangeShapes Go.WideShapes Go.RowKit Go.Sort Go.Deep Go.Joins

/-- The slice (x, len) that was handed in holds the routes rs. -/
def ArgR (w : World) (x : Option Addr) (len : Nat) (rs : List Rt) : Prop := rs.length = len ∧ len ≤ maxLen ∧ (∀ e ∈ rs, RtW e) ∧ ∀ i, (h : i < rs.length) → ∃ p, x = some p ∧ w.cell? (p.add (i * 9)) = some (.int .i64 rs[i].a) ∧ w.cell? (p.add (i * 9 + 1)) = some (.int .i64 rs[i].l) ∧ w.cell? (p.add (i * 9 + 2)) = some (.int .i64 rs[i].m) ∧ w.cell? (p.add (i * 9 + 3)) = some (.int .i64 rs[i].n) ∧ w.cell? (p.add (i * 9 + 4)) = some (.int .i64 rs[i].i) ∧ w.cell? (p.add (i * 9 + 5)) = some (.int .i64 rs[i].t) ∧ w.cell? (p.add (i * 9 + 6)) = some (.int .i64 rs[i].u) ∧ w.cell? (p.add (i * 9 + 7)) = some (.int .i64 rs[i].b) ∧ w.cell? (p.add (i * 9 + 8)) = some (.bool rs[i].c)
theorem ArgR.below {w w' : World} {x : Option Addr} {len : Nat} {rs : List Rt} (h : ArgR w x len rs) (hb : Below w.heap.size w w') : ArgR w' x len rs := by
  obtain ⟨h1, h2, h3, h4⟩ := h
  refine ⟨h1, h2, h3, fun i hi => ?_⟩
  obtain ⟨p, hp, c0, c1, c2, c3, c4, c5, c6, c7, c8⟩ := h4 i hi
  have hk : ∀ k v, w.cell? (p.add k) = some v → w'.cell? (p.add k) = some v := fun k v hv => by rw [hb.cell (World.block_lt_of_cell? w _ hv)]; exact hv
  exact ⟨p, hp, hk _ _ c0, hk _ _ c1, hk _ _ c2, hk _ _ c3, hk _ _ c4, hk _ _ c5, hk _ _ c6, hk _ _ c7, hk _ _ c8⟩
theorem addr_moreR (p : Addr) (m j : Nat) (hj : j ≠ 0) : p.add (m + j) = ⟨(p.add m).block, (p.add m).off + j, none⟩ := by
  rw [← Addr.add_add]
  generalize p.add m = q
  unfold Addr.add
  rw [if_neg hj]
theorem ArgR.at {w : World} {x : Option Addr} {len : Nat} {rs : List Rt} (h : ArgR w x len rs) (i : Nat) (hi : i < rs.length) : ∃ p a l m n ii t u b c, x = some p ∧ rs[i] = ⟨a, l, m, n, ii, t, u, b, c⟩ ∧ w.cell? (p.add (i * 9)) = some (.int .i64 a) ∧ w.cell? ⟨(p.add (i * 9)).block, (p.add (i * 9)).off + 1, none⟩ = some (.int .i64 l) ∧ w.cell? ⟨(p.add (i * 9)).block, (p.add (i * 9)).off + 2, none⟩ = some (.int .i64 m) ∧ w.cell? ⟨(p.add (i * 9)).block, (p.add (i * 9)).off + 3, none⟩ = some (.int .i64 n) ∧ w.cell? ⟨(p.add (i * 9)).block, (p.add (i * 9)).off + 4, none⟩ = some (.int .i64 ii) ∧ w.cell? ⟨(p.add (i * 9)).block, (p.add (i * 9)).off + 5, none⟩ = some (.int .i64 t) ∧ w.cell? ⟨(p.add (i * 9)).block, (p.add (i * 9)).off + 6, none⟩ = some (.int .i64 u) ∧ w.cell? ⟨(p.add (i * 9)).block, (p.add (i * 9)).off + 7, none⟩ = some (.int .i64 b) ∧ w.cell? ⟨(p.add (i * 9)).block, (p.add (i * 9)).off + 8, none⟩ = some (.bool c) := by
  obtain ⟨p, hp, c0, c1, c2, c3, c4, c5, c6, c7, c8⟩ := h.2.2.2 i hi
  rw [addr_moreR _ _ _ (by omega)] at c1 c2 c3 c4 c5 c6 c7 c8
  exact ⟨p, _, _, _, _, _, _, _, _, _, hp, rfl, c0, c1, c2, c3, c4, c5, c6, c7, c8⟩
section
variable {H : Type} {enc : TypeId × Value → H} {w : World} {base : Nat} {spare : Nat → Bool} {held : Bool}
set_option maxRecDepth 100000 in
theorem open_rts {fuel : Nat} {v : Value} {x : DataW H × List MemPlace} (h : DataW.trod enc Tryz.prog w base spare held fuel 107 [v] = some x) : ∃ y len cap rs, v = .slice y len cap ∧ ArgR w y len rs := by
  rcases open_slice Tryz.underlying107 h with ⟨h0, _⟩ | ⟨a, len, cap, m, n, D, Pl, h0, hb, hl, hm, hmm, _, hx⟩
  · simp only [List.cons.injEq, and_true] at h0
    exact ⟨none, 0, 0, [], h0, rfl, Nat.zero_le _, by simp, fun i hi => absurd hi (by simp)⟩
  · simp only [List.cons.injEq, and_true] at h0
    have hlm : len ≤ m := by rw [hmm]; split <;> omega
    have each : ∀ i, i < m → ∃ e : Rt, RtW e ∧ w.cell? (a.add (i * 9)) = some (.int .i64 e.a) ∧ w.cell? (a.add (i * 9 + 1)) = some (.int .i64 e.l) ∧ w.cell? (a.add (i * 9 + 2)) = some (.int .i64 e.m) ∧ w.cell? (a.add (i * 9 + 3)) = some (.int .i64 e.n) ∧ w.cell? (a.add (i * 9 + 4)) = some (.int .i64 e.i) ∧ w.cell? (a.add (i * 9 + 5)) = some (.int .i64 e.t) ∧ w.cell? (a.add (i * 9 + 6)) = some (.int .i64 e.u) ∧ w.cell? (a.add (i * 9 + 7)) = some (.int .i64 e.b) ∧ w.cell? (a.add (i * 9 + 8)) = some (.bool e.c) := by
      intro i hi
      obtain ⟨cs', h1, h2⟩ := hx i hi
      rw [Tryz.cellsRoute] at h1
      obtain ⟨e, rfl, hw⟩ := open_rt h2
      obtain ⟨_, _, hcell⟩ := World.cells?_some h1
      have hadd : ∀ j k, (a.add j).add k = a.add (j + k) := fun j k => by
        unfold Addr.add
        by_cases hj : j = 0
        · subst hj; by_cases hk : k = 0 <;> simp [hk]
        · by_cases hk : k = 0
          · simp [hj, hk]
          · simp [hj, hk, Nat.add_assoc]
      refine ⟨e, hw, ?_⟩
      have k0 := hcell 0 (by omega)
      have k1 := hcell 1 (by omega)
      have k2 := hcell 2 (by omega)
      have k3 := hcell 3 (by omega)
      have k4 := hcell 4 (by omega)
      have k5 := hcell 5 (by omega)
      have k6 := hcell 6 (by omega)
      have k7 := hcell 7 (by omega)
      have k8 := hcell 8 (by omega)
      simp only [hadd, Nat.add_zero, rtL] at k0 k1 k2 k3 k4 k5 k6 k7 k8
      exact ⟨by simpa using k0, by simpa using k1, by simpa using k2, by simpa using k3, by simpa using k4, by simpa using k5, by simpa using k6, by simpa using k7, by simpa using k8⟩
    obtain ⟨E, hE⟩ := choose_lt (α := Rt) (p := fun i e => RtW e ∧ w.cell? (a.add (i * 9)) = some (.int .i64 e.a) ∧ w.cell? (a.add (i * 9 + 1)) = some (.int .i64 e.l) ∧ w.cell? (a.add (i * 9 + 2)) = some (.int .i64 e.m) ∧ w.cell? (a.add (i * 9 + 3)) = some (.int .i64 e.n) ∧ w.cell? (a.add (i * 9 + 4)) = some (.int .i64 e.i) ∧ w.cell? (a.add (i * 9 + 5)) = some (.int .i64 e.t) ∧ w.cell? (a.add (i * 9 + 6)) = some (.int .i64 e.u) ∧ w.cell? (a.add (i * 9 + 7)) = some (.int .i64 e.b) ∧ w.cell? (a.add (i * 9 + 8)) = some (.bool e.c)) each
    refine ⟨some a, len, cap, (List.range len).map E, h0, by simp, by omega, ?_, ?_⟩
    · intro e he
      simp only [List.mem_map, List.mem_range] at he
      obtain ⟨i, hi, rfl⟩ := he
      exact (hE i (by omega)).1
    · intro i hi
      simp only [List.length_map, List.length_range] at hi
      refine ⟨a, rfl, ?_⟩
      simp only [List.getElem_map, List.getElem_range]
      exact (hE i (by omega)).2
set_option maxRecDepth 100000 in
theorem Tryz.cellsRibS : Tryz.prog.cellsOf 107 = 1 := by kernel_rfl
theorem Tryz.cellsRib : Tryz.prog.cellsOf 109 = 1 := by kernel_rfl
set_option maxRecDepth 100000 in
theorem open_ribV {r : Reach} {b0 : Nat} {v : Value} {d : DataW H} {p : List MemPlace} (hv : Value.okWide Tryz.prog w r b0 109 v) (h : DataW.Trod enc Tryz.prog w base spare held 109 v d p) :
    ∃ y len cap rs, v = ribV y len cap ∧ ArgR w y len rs := by
  obtain ⟨cs, rfl, hsz⟩ := okWide_struct Tryz.underlying109 hv
  rw [Tryz.cellsRib] at hsz
  obtain ⟨l⟩ := cs
  match l, hsz with
  | [c0], _ =>
    obtain ⟨fuel, hf⟩ := h
    obtain ⟨xs, n, _, _, hl, hx, hg⟩ := DataW.trod_struct Tryz.underlying109 hf
    match xs, hx with
    | [y0], _ =>
      have h0 : DataW.trod enc Tryz.prog w base spare held n 107 ((([c0] : List Value).drop 0).take (Tryz.prog.cellsOf 107)) = [y0][0]? := hg 0 _ rfl
      rw [Tryz.cellsRibS] at h0
      replace h0 : DataW.trod enc Tryz.prog w base spare held n 107 [c0] = some y0 := h0
      obtain ⟨y, len, cap, rs, rfl, hA⟩ := open_rts h0
      exact ⟨y, len, cap, rs, rfl, hA⟩
end
end Go.Proofs.YtcnadobnihbldaaGreat
/- The laws' own tables measured and handed over. (Written by gen_rts.py.) -/
namespace Go.Proofs.YtcnadobnihbldaaGreat
open Go.RowKit Go.Sort

theorem set9 (A R : List Value) (k : Nat) (hA : A.length = k * 9) (z0 z1 z2 z3 z4 z5 z6 z7 z8 x0 x1 x2 x3 x4 x5 x6 x7 x8 : Value) : ((((((((((A ++ ([z0, z1, z2, z3, z4, z5, z6, z7, z8] ++ R)).set (k * 9) x0).set (k * 9 + 1) x1).set (k * 9 + 2) x2).set (k * 9 + 3) x3).set (k * 9 + 4) x4).set (k * 9 + 5) x5).set (k * 9 + 6) x6).set (k * 9 + 7) x7).set (k * 9 + 8) x8) = A ++ ([x0, x1, x2, x3, x4, x5, x6, x7, x8] ++ R) := by
  have e : ∀ (L : List Value) (j : Nat) (x : Value), (A ++ L).set (k * 9 + j) x = A ++ L.set j x := fun L j x => by
    rw [List.set_append, if_neg (by omega), hA, Nat.add_sub_cancel_left]
  have e0 : ∀ (L : List Value) (x : Value), (A ++ L).set (k * 9) x = A ++ L.set 0 x := fun L x => e L 0 x
  rw [e0, e, e, e, e, e, e, e, e]
  rfl
theorem Row.someR {w : World} {g : Nat} {t : TypeId} {l : List Value} (h : Row w g t l) (k : Nat) (hk : k < l.length) : ∃ v, w.cell? ⟨g, k, none⟩ = some v := ⟨l[k], by rw [h.cell, List.getElem?_eq_getElem hk]⟩
theorem Tryz.infoR : (Tryz.prog.info? 155).map (fun i => (i.zero, i.size, i.bytes)) = some (some (.agg #[.int .i64 0, .int .i64 0, .int .i64 0, .int .i64 0, .int .i64 0, .int .i64 0, .int .i64 0, .int .i64 0, .bool false]), 9, 72) := by kernel_rfl
def zeroRt : Rt := ⟨0, 0, 0, 0, 0, 0, 0, 0, false⟩
theorem rowR_zero_get (n i : Nat) (h : i < n * 9) : (rowR (List.replicate n zeroRt))[i]? = some (if i % 9 = 8 then .bool false else .int .i64 0) := by
  have hi : i / 9 < (List.replicate n zeroRt).length := by simp; omega
  have := rowR_get (List.replicate n zeroRt) (i / 9) (i % 9) hi (by omega)
  rw [show i / 9 * 9 + i % 9 = i by omega] at this
  rw [this, List.getElem_replicate]
  have h9 : i % 9 = 0 ∨ i % 9 = 1 ∨ i % 9 = 2 ∨ i % 9 = 3 ∨ i % 9 = 4 ∨ i % 9 = 5 ∨ i % 9 = 6 ∨ i % 9 = 7 ∨ i % 9 = 8 := by omega
  rcases h9 with h | h | h | h | h | h | h | h | h <;> (rw [h]; rfl)
theorem made_zeroR (n : Nat) : (madeCells (Value.agg #[.int .i64 0, .int .i64 0, .int .i64 0, .int .i64 0, .int .i64 0, .int .i64 0, .int .i64 0, .int .i64 0, .bool false]).cells (n * 9)).toList = rowR (List.replicate n zeroRt) := by
  apply List.ext_getElem?
  intro i
  by_cases h : i < n * 9
  · rw [rowR_zero_get n i h]
    simp only [madeCells, Value.cells, Array.toList_map, List.getElem?_map]
    have h9 : i % 9 = 0 ∨ i % 9 = 1 ∨ i % 9 = 2 ∨ i % 9 = 3 ∨ i % 9 = 4 ∨ i % 9 = 5 ∨ i % 9 = 6 ∨ i % 9 = 7 ∨ i % 9 = 8 := by omega
    rcases h9 with h9 | h9 | h9 | h9 | h9 | h9 | h9 | h9 | h9 <;> simp [h9, h]
  · rw [List.getElem?_eq_none (by simp [madeCells]; omega), List.getElem?_eq_none (by rw [rowR_length]; simp; omega)]
set_option maxRecDepth 100000 in
/-- 'make([]Route, n)'. -/
theorem wpList_make_rts {w : World} {ops : Array Oper} {rest : List Oper} {o : Oper} {a : Act} {Q : Exit → Act → World → Prop}
    (hgd : o.guard = none) (l c : Operand) (hop : o.op = Op.makeSlice 57 l c)
    (L : Int) (n : Nat) (hl : a.eval l = .int .i64 L) (hc : a.eval c = .int .i64 L) (hL : L = (n : Int)) (hn : n ≤ 100000000)
    (B : Nat) (w0 : World) (hb : Below B w0 w) (hB : B ≤ w.heap.size)
    (h : ∀ w', Row w' w.heap.size 155 (rowR (List.replicate n zeroRt)) → Below B w0 w' → wpList Tryz.prog ops Q rest (a.put o.dst (.slice (some ⟨w.heap.size, 0, none⟩) n n)) w') : wpList Tryz.prog ops Q (o :: rest) a w := by
  obtain ⟨i0, hi0, hz0, hz1, hz2⟩ := info_parts Tryz.infoR
  refine wpList_make_full w hgd l c 57 hop B 155 i0 _ 9 Tryz.underlying57 hi0 hz0 hz1 .i64 .i64 L L n hl hc hL hL (by rw [hz2]; omega) (by unfold maxLen; omega) hB ?_
  intro w' hown hgrow
  rcases hown.2 with ⟨h', _⟩ | ⟨g, cap, cur, h', hbg, hg, hnc, hcm, hcs, htake⟩
  · simp at h'
  · simp only [Value.slice.injEq, Option.some.injEq, Addr.mk.injEq, and_true, true_and] at h'
    obtain ⟨rfl, rfl⟩ := h'
    refine h w' ?_ (hb.trans ((Below.refl B w).grown hgrow hB (by intro k hk; cases hk)))
    unfold Row
    rw [hg, ← made_zeroR, ← htake, List.take_of_length_le (by simp [hcs])]
theorem rowR_set (es : List Rt) (k : Nat) (hk : k < es.length) (a l m n ii t u b : Int) (c : Bool) (he : es[k] = ⟨a, l, m, n, ii, t, u, b, c⟩) :
    ((((((((((rowR (es.take k ++ List.replicate (es.length - k) zeroRt)).set (k * 9) (.int .i64 a)).set (k * 9 + 1) (.int .i64 l)).set (k * 9 + 2) (.int .i64 m)).set (k * 9 + 3) (.int .i64 n)).set (k * 9 + 4) (.int .i64 ii)).set (k * 9 + 5) (.int .i64 t)).set (k * 9 + 6) (.int .i64 u)).set (k * 9 + 7) (.int .i64 b)).set (k * 9 + 8) (.bool c)) = rowR (es.take (k + 1) ++ List.replicate (es.length - (k + 1)) zeroRt) := by
  have e1 : es.length - k = (es.length - (k + 1)) + 1 := by omega
  rw [e1, List.replicate_succ, rowR_append, rowR_cons, List.take_succ_eq_append_getElem hk, List.append_assoc, rowR_append, List.singleton_append, rowR_cons, he]
  exact set9 _ _ k (by rw [rowR_length, List.length_take]; omega) _ _ _ _ _ _ _ _ _ _ _ _ _ _ _ _ _ _
set_option maxRecDepth 100000 in
theorem szRouteS_any (x : Option Addr) (len cap : Nat) (w : World) (hl : len ≤ maxLen) : Calls Tryz.prog 139 #[.slice x len cap, .int .i64 1048576] w fun e w' => e = .returned (.int .i64 (if len ≤ 1048576 then 1048576 - (len : Int) else -1)) ∧ w = w' := by
  unfold maxLen at hl
  by_cases h : len ≤ 1048576
  · rw [if_pos h]
    have d : decide (1048576 - (len : Int) < 0) = false := by simp; omega
    go_enter Tryz.func139, Tryz.ntmps139
    go_wp2
    go_ret
    exact ⟨rfl, rfl⟩
  · rw [if_neg h]
    have d : decide (1048576 - (len : Int) < 0) = true := by simp; omega
    go_enter Tryz.func139, Tryz.ntmps139
    go_wp2
    go_ret
    exact ⟨rfl, rfl⟩
set_option maxRecDepth 100000 in
theorem szRib_any (x : Option Addr) (len cap : Nat) (w : World) (hl : len ≤ maxLen) : Calls Tryz.prog 107 #[ribV x len cap, .int .i64 1048576] w fun e w' => e = .returned (.int .i64 (if len ≤ 1048576 then 1048576 - (len : Int) else -1)) ∧ Below w.heap.size w w' := by
  have HS : Hid (∀ w, Calls Tryz.prog 139 #[.slice x len cap, .int .i64 1048576] w fun e w' => e = .returned (.int .i64 (if len ≤ 1048576 then 1048576 - (len : Int) else -1)) ∧ w = w') := fun w => szRouteS_any x len cap w hl
  unfold maxLen at hl
  unfold ribV
  by_cases h : len ≤ 1048576
  · rw [if_pos h] at *
    have d : decide (1048576 - (len : Int) < 0) = false := by simp; omega
    go_enter Tryz.func107, Tryz.ntmps107
    go_wp2_with fail
    refine (HS.out _).mono ?_
    rintro e w1 ⟨rfl, rfl⟩
    go_wp2
    go_ret
    exact ⟨rfl, ent_new0 w _⟩
  · rw [if_neg h] at *
    go_enter Tryz.func107, Tryz.ntmps107
    go_wp2_with fail
    refine (HS.out _).mono ?_
    rintro e w1 ⟨rfl, rfl⟩
    go_wp2
    go_ret
    exact ⟨rfl, ent_new0 w _⟩
set_option maxRecDepth 100000 in
theorem toRouteS_any (x : Option Addr) (cap : Nat) (es : List Rt) (w : World) (h : ArgR w x es.length es) (hn : es.length ≤ 1048576) :
    Calls Tryz.prog 145 #[.slice x es.length cap] w fun e w' => ∃ g, e = .returned (.slice (some ⟨g, 0, none⟩) es.length es.length) ∧ w.heap.size ≤ g ∧ Row w' g 155 (rowR es) ∧ Below w.heap.size w w' := by
  have HE : Hid (∀ e w, Calls Tryz.prog 169 #[rtV e] w fun r w' => r = .returned (rtV e) ∧ Below w.heap.size w w') := toRoute_any
  have HX : Hid (ArgR w x es.length es) := h
  clear h
  go_enter Tryz.func145, Tryz.ntmps145
  go_wp2_with (at_make; refine wpList_make_rts rfl _ _ rfl _ es.length rfl rfl rfl (by omega) w.heap.size w (Below.refl _ _) (Nat.le_refl _) ?_)
  intro w0 hr0 hb0
  have hz : es.take 0 ++ List.replicate (es.length - 0) zeroRt = List.replicate es.length zeroRt := by simp
  rw [← hz] at hr0
  clear hz
  go_wp2_with fail
  go_loopw [4] (fun i wr => ∃ k : Nat, k ≤ es.length ∧ i = .int .i64 k ∧ Row wr w.heap.size 155 (rowR (es.take k ++ List.replicate (es.length - k) zeroRt)) ∧ Below w.heap.size w wr) (fun i _ => es.length - (intOf i).toNat)
  case atStart => exact ⟨0, Nat.zero_le _, rfl, hr0, hb0⟩
  case round =>
    obtain ⟨k, hk, rfl, hr, hb⟩ := hrel
    by_cases hlt : k < es.length
    · obtain ⟨p, a, l, m, n, ii, t, u, b, c, rfl, hek, c0, c1, c2, c3, c4, c5, c6, c7, c8⟩ := (HX.out.below hb).at k hlt
      have HEk : Hid (∀ w, Calls Tryz.prog 169 #[.agg #[.int .i64 a, .int .i64 l, .int .i64 m, .int .i64 n, .int .i64 ii, .int .i64 t, .int .i64 u, .int .i64 b, .bool c]] w fun r w' => r = .returned (.agg #[.int .i64 a, .int .i64 l, .int .i64 m, .int .i64 n, .int .i64 ii, .int .i64 t, .int .i64 u, .int .i64 b, .bool c]) ∧ Below w.heap.size w w') := HE.out ⟨a, l, m, n, ii, t, u, b, c⟩
      have hset := rowR_set es k hlt a l m n ii t u b c hek
      have HS : Hid _ := hset
      clear hset HE hek hr0 hb0
      go_wp2_with fail
      refine (HEk.out _).mono ?_
      rintro e w1 ⟨rfl, hb1⟩
      have hr1 := hr.below hb1 hr.lt
      have hB1 := hb.trans (hb1.mono hb.size)
      clear c0 c1 c2 c3 c4 c5 c6 c7 c8 hb1 HEk hr hb
      have hlr : (rowR (es.take k ++ List.replicate (es.length - k) zeroRt)).length = es.length * 9 := by rw [rowR_length]; simp; omega
      obtain ⟨z0, hz0⟩ := Row.someR hr1 (k * 9) (by omega)
      obtain ⟨z1, hz1⟩ := Row.someR hr1 (k * 9 + 1) (by omega)
      obtain ⟨z2, hz2⟩ := Row.someR hr1 (k * 9 + 2) (by omega)
      obtain ⟨z3, hz3⟩ := Row.someR hr1 (k * 9 + 3) (by omega)
      obtain ⟨z4, hz4⟩ := Row.someR hr1 (k * 9 + 4) (by omega)
      obtain ⟨z5, hz5⟩ := Row.someR hr1 (k * 9 + 5) (by omega)
      obtain ⟨z6, hz6⟩ := Row.someR hr1 (k * 9 + 6) (by omega)
      obtain ⟨z7, hz7⟩ := Row.someR hr1 (k * 9 + 7) (by omega)
      obtain ⟨z8, hz8⟩ := Row.someR hr1 (k * 9 + 8) (by omega)
      have f0 := hr1.frozen (k * 9)
      have f1 := hr1.frozen (k * 9 + 1)
      have f2 := hr1.frozen (k * 9 + 2)
      have f3 := hr1.frozen (k * 9 + 3)
      have f4 := hr1.frozen (k * 9 + 4)
      have f5 := hr1.frozen (k * 9 + 5)
      have f6 := hr1.frozen (k * 9 + 6)
      have f7 := hr1.frozen (k * 9 + 7)
      have f8 := hr1.frozen (k * 9 + 8)
      have hr2 := nine_row hr1 (k * 9) (.int .i64 a) (.int .i64 l) (.int .i64 m) (.int .i64 n) (.int .i64 ii) (.int .i64 t) (.int .i64 u) (.int .i64 b) (.bool c)
      rw [HS.out] at hr2
      have hB2 := nine_below hB1 w.heap.size (k * 9) (Nat.le_refl _) (.int .i64 a) (.int .i64 l) (.int .i64 m) (.int .i64 n) (.int .i64 ii) (.int .i64 t) (.int .i64 u) (.int .i64 b) (.bool c)
      unfold nine at hr2 hB2
      have HH : Hid _ := And.intro hr2 hB2
      clear hr1 hB1 HS hlr hr2 hB2
      go_wp2_with fail
      go_roundw
      case rel => exact ⟨k + 1, hlt, by go_num, HH.out.1, HH.out.2⟩
      case measure => simp [intOf]; omega
    · obtain rfl : k = es.length := by omega
      rw [List.take_length, Nat.sub_self, List.replicate_zero, List.append_nil] at hr
      clear hlt hk
      go_wp2
      go_ret
      exact ⟨_, rfl, Nat.le_refl _, hr, hb⟩
theorem three1 (w : World) (a0 b0 c0 : Value) (t u y : TypeId) : ∃ W, W = ((w.alloc (.cells #[a0] t)).alloc (.cells #[b0] u)).alloc (.cells #[c0] y) ∧ Row W w.heap.size t [a0] ∧ Row W (w.heap.size + 1) u [b0] ∧ Row W (w.heap.size + 1 + 1) y [c0] ∧ Below w.heap.size w W ∧ W.heap.size = w.heap.size + 1 + 1 + 1 := by
  have q0 := ((Row.new w t [a0]).alloc (.cells #[b0] u)).alloc (.cells #[c0] y)
  have q1 := (Row.new (w.alloc (.cells #[a0] t)) u [b0]).alloc (.cells #[c0] y)
  have q2 := Row.new ((w.alloc (.cells #[a0] t)).alloc (.cells #[b0] u)) y [c0]
  have e1 : (w.alloc (.cells #[a0] t)).heap.size = w.heap.size + 1 := by simp
  have e2 : ((w.alloc (.cells #[a0] t)).alloc (.cells #[b0] u)).heap.size = w.heap.size + 1 + 1 := by simp
  rw [e1] at q1
  rw [e2] at q2
  exact ⟨_, rfl, q0, q1, q2, ((ent_new0 w _).alloc (by simp) _).alloc (by simp; omega) _, by simp⟩
set_option maxRecDepth 100000 in
theorem toRib_any (x : Option Addr) (cap : Nat) (es : List Rt) (w : World) (h : ArgR w x es.length es) (hn : es.length ≤ 1048576) :
    Calls Tryz.prog 114 #[ribV x es.length cap] w fun e w' => ∃ g, e = .returned (ribV (some ⟨g, 0, none⟩) es.length es.length) ∧ w.heap.size ≤ g ∧ Row w' g 155 (rowR es) ∧ Below w.heap.size w w' := by
  have HE : Hid (∀ w, ArgR w x es.length es → Calls Tryz.prog 145 #[.slice x es.length cap] w fun e w' => ∃ g, e = .returned (.slice (some ⟨g, 0, none⟩) es.length es.length) ∧ w.heap.size ≤ g ∧ Row w' g 155 (rowR es) ∧ Below w.heap.size w w') := fun w h => toRouteS_any x cap es w h hn
  have HX : Hid (ArgR w x es.length es) := h
  clear h
  unfold ribV
  generalize es.length = N at *
  obtain ⟨W, hW, q0, q1, q2, hB, hS⟩ := three1 w (.slice x N cap) (.slice none 0 0) (.slice none 0 0) 109 59 59
  have HW : Hid _ := hW
  clear hW
  go_enter Tryz.func114, Tryz.ntmps114
  go_wp2_with fail
  rw [← HW.out]
  refine (HE.out _ (HX.out.below hB)).mono ?_
  rintro e w1 ⟨g, rfl, hg, hr, hb1⟩
  have p1 := q1.below hb1 q1.lt
  have p2 := q2.below hb1 q2.lt
  have hB1 := hB.trans (hb1.mono (by omega))
  have hg2 : w.heap.size + 1 + 1 < g := by omega
  clear q0 q1 q2 hb1 HW HX HE hB
  have b0 : w1.cell? ⟨w.heap.size + 1, 0, none⟩ = some (.slice none 0 0) := p1.cell 0
  have d0 : w1.cell? ⟨w.heap.size + 1 + 1, 0, none⟩ = some (.slice none 0 0) := p2.cell 0
  have f0 : w1.frozen? ⟨w.heap.size + 1, 0, none⟩ = false := p1.frozen 0
  have g0 : w1.frozen? ⟨w.heap.size + 1 + 1, 0, none⟩ = false := p2.frozen 0
  have hrow : Row ((w1.setCell ⟨w.heap.size + 1 + 1, 0, none⟩ (.slice (some ⟨g, 0, none⟩) N N)).setCell ⟨w.heap.size + 1, 0, none⟩ (.slice (some ⟨g, 0, none⟩) N N)) g 155 (rowR es) := (hr.other 0 _ (by omega)).other 0 _ (by omega)
  have hres : Row ((w1.setCell ⟨w.heap.size + 1 + 1, 0, none⟩ (.slice (some ⟨g, 0, none⟩) N N)).setCell ⟨w.heap.size + 1, 0, none⟩ (.slice (some ⟨g, 0, none⟩) N N)) (w.heap.size + 1) 59 [.slice (some ⟨g, 0, none⟩) N N] := (p1.other 0 _ (by omega)).set 0 _
  have hbel : Below w.heap.size w ((w1.setCell ⟨w.heap.size + 1 + 1, 0, none⟩ (.slice (some ⟨g, 0, none⟩) N N)).setCell ⟨w.heap.size + 1, 0, none⟩ (.slice (some ⟨g, 0, none⟩) N N)) := (hB1.setCell (p := ⟨w.heap.size + 1 + 1, 0, none⟩) (by show w.heap.size ≤ w.heap.size + 1 + 1; omega) _).setCell (p := ⟨w.heap.size + 1, 0, none⟩) (by show w.heap.size ≤ w.heap.size + 1; omega) _
  have HH : Hid _ := And.intro hrow (And.intro hres hbel)
  clear hrow hres hbel p1 p2 hr hB1
  go_wp2_with fail
  have HH2 := HH.out
  clear HH b0 d0 f0 g0
  generalize ((w1.setCell ⟨w.heap.size + 1 + 1, 0, none⟩ (.slice (some ⟨g, 0, none⟩) N N)).setCell ⟨w.heap.size + 1, 0, none⟩ (.slice (some ⟨g, 0, none⟩) N N)) = Z at *
  obtain ⟨h1, h2, h3⟩ := HH2
  have b0 : Z.cell? ⟨w.heap.size + 1, 0, none⟩ = some (.slice (some ⟨g, 0, none⟩) N N) := h2.cell 0
  refine bodyPost_ret (v := .agg #[.slice (some ⟨g, 0, none⟩) N N]) (by simp [results, Tryz.results114, go_sem, b0]) rfl ⟨g, rfl, by omega, h1, h3⟩
end Go.Proofs.YtcnadobnihbldaaGreat
/- The laws' own look: routes, lists of them and tables are as themselves. (Written by gen_rts.py.) -/
namespace Go.Proofs.YtcnadobnihbldaaGreat
open Go.RowKit Go.Sort

/-- Two boxes of nine cells, one behind the other: what they hold behind a later call. -/
theorem boxes9 {w w1 : World} {xs ys : List Value} {t u : TypeId} (h : Below ((w.alloc (.cells xs.toArray t)).alloc (.cells ys.toArray u)).heap.size ((w.alloc (.cells xs.toArray t)).alloc (.cells ys.toArray u)) w1) :
    (∀ k v, xs[k]? = some v → w1.cell? ⟨w.heap.size, k, none⟩ = some v) ∧ (∀ k v, ys[k]? = some v → w1.cell? ⟨w.heap.size + 1, k, none⟩ = some v) ∧ Below w.heap.size w w1 := by
  have q0 := (Row.new w t xs).alloc (.cells ys.toArray u)
  have q1 := Row.new (w.alloc (.cells xs.toArray t)) u ys
  have p0 := q0.below h q0.lt
  have p1 := q1.below h q1.lt
  have e1 : (w.alloc (.cells xs.toArray t)).heap.size = w.heap.size + 1 := by simp
  rw [e1] at p1
  exact ⟨fun k v hv => (p0.cell k).trans hv, fun k v hv => (p1.cell k).trans hv, ((ent_new0 w _).alloc (by simp) _).trans (h.mono (by simp; omega))⟩
set_option maxRecDepth 100000 in
theorem eqRoute_same (e : Rt) (w : World) : Calls Tryz.prog 182 #[rtV e, rtV e] w fun r w' => r = .returned (.bool true) ∧ Below w.heap.size w w' := by
  obtain ⟨a, l, m, n, i, t, u, b, c⟩ := e
  unfold rtV rtA
  have HN : Hid (∀ w, Calls Tryz.prog 181 #[.agg #[.int .i64 a, .int .i64 l], .agg #[.int .i64 a, .int .i64 l]] w fun e w' => e = .returned (.bool true) ∧ Below w.heap.size w w') := eqNet_same a l
  have em : (m != m) = false := by simp
  have en : (n != n) = false := by simp
  have ei : (i != i) = false := by simp
  have et : (t != t) = false := by simp
  have eu : (u != u) = false := by simp
  have eb : (b != b) = false := by simp
  have ec : (c != c) = false := by simp
  go_enter Tryz.func182, Tryz.ntmps182
  go_wp2_with fail
  refine (HN.out _).mono ?_
  rintro e w1 ⟨rfl, hb1⟩
  obtain ⟨k0, k1, hB⟩ := boxes9 (xs := [.int .i64 a, .int .i64 l, .int .i64 m, .int .i64 n, .int .i64 i, .int .i64 t, .int .i64 u, .int .i64 b, .bool c]) (ys := [.int .i64 a, .int .i64 l, .int .i64 m, .int .i64 n, .int .i64 i, .int .i64 t, .int .i64 u, .int .i64 b, .bool c]) hb1
  have c2 := k0 2 _ rfl
  have d2 := k1 2 _ rfl
  have c3 := k0 3 _ rfl
  have d3 := k1 3 _ rfl
  have c4 := k0 4 _ rfl
  have d4 := k1 4 _ rfl
  have c5 := k0 5 _ rfl
  have d5 := k1 5 _ rfl
  have c6 := k0 6 _ rfl
  have d6 := k1 6 _ rfl
  have c7 := k0 7 _ rfl
  have d7 := k1 7 _ rfl
  have c8 := k0 8 _ rfl
  have d8 := k1 8 _ rfl
  clear k0 k1 hb1 HN
  go_wp2
  go_ret
  exact ⟨rfl, hB⟩
set_option maxRecDepth 100000 in
theorem eqRouteS_any (p q : Option Addr) (c d : Nat) (es : List Rt) (w : World) (hp : RtsIn w p es) (hq : RtsIn w q es) (hn : es.length ≤ 100000000) : Calls Tryz.prog 156 #[.slice p es.length c, .slice q es.length d] w fun r w' => r = .returned (.bool true) ∧ Below w.heap.size w w' := by
  have HE : Hid (∀ e w, Calls Tryz.prog 182 #[rtV e, rtV e] w fun r w' => r = .returned (.bool true) ∧ Below w.heap.size w w') := eqRoute_same
  have HX : Hid (RtsIn w p es ∧ RtsIn w q es) := ⟨hp, hq⟩
  have h0 : ((es.length : Int) != (es.length : Int)) = false := by simp
  clear hp hq
  go_enter Tryz.func156, Tryz.ntmps156
  go_wp2_with fail
  go_loopw [5] (fun i wr => ∃ k : Nat, k ≤ es.length ∧ i = .int .i64 k ∧ Below w.heap.size w wr) (fun i _ => es.length - (intOf i).toNat)
  case atStart => exact ⟨0, Nat.zero_le _, rfl, Below.refl _ _⟩
  case round =>
    obtain ⟨k, hk, rfl, hb⟩ := hrel
    by_cases hlt : k < es.length
    · obtain ⟨g, a, l, m, n, ii, t, u, b, cc, rfl, hg, hek, c0, c1, c2, c3, c4, c5, c6, c7, c8⟩ := (HX.out.1.below hb).at k hlt
      obtain ⟨g', a', l', m', n', ii', t', u', b', cc', rfl, hg', hek', d0, d1, d2, d3, d4, d5, d6, d7, d8⟩ := (HX.out.2.below hb).at k hlt
      rw [hek] at hek'
      simp only [Rt.mk.injEq] at hek'
      obtain ⟨rfl, rfl, rfl, rfl, rfl, rfl, rfl, rfl, rfl⟩ := hek'
      have HEk : Hid (∀ w, Calls Tryz.prog 182 #[.agg #[.int .i64 a, .int .i64 l, .int .i64 m, .int .i64 n, .int .i64 ii, .int .i64 t, .int .i64 u, .int .i64 b, .bool cc], .agg #[.int .i64 a, .int .i64 l, .int .i64 m, .int .i64 n, .int .i64 ii, .int .i64 t, .int .i64 u, .int .i64 b, .bool cc]] w fun r w' => r = .returned (.bool true) ∧ Below w.heap.size w w') := HE.out ⟨a, l, m, n, ii, t, u, b, cc⟩
      clear HE hek HX
      replace c0 := cell_regrown c0
      replace d0 := cell_regrown d0
      replace c1 := cell_regrown c1
      replace d1 := cell_regrown d1
      replace c2 := cell_regrown c2
      replace d2 := cell_regrown d2
      replace c3 := cell_regrown c3
      replace d3 := cell_regrown d3
      replace c4 := cell_regrown c4
      replace d4 := cell_regrown d4
      replace c5 := cell_regrown c5
      replace d5 := cell_regrown d5
      replace c6 := cell_regrown c6
      replace d6 := cell_regrown d6
      replace c7 := cell_regrown c7
      replace d7 := cell_regrown d7
      replace c8 := cell_regrown c8
      replace d8 := cell_regrown d8
      go_wp2_with fail
      refine wp_region_quiet_below (by kernel_rfl) (by kernel_rfl) ?_
      repeat (go_big_quiet_step ((go_at_call 182; exact Calls.regrown_of (HEk.out _))))
      refine wpQuiet_nil ?_
      intro w1 hw'
      obtain ⟨⟨dq, osq⟩, hw''⟩ := hw'
      have hbq := below_regrown wr dq osq
      rw [← hw''] at hbq
      clear hw'' osq dq c0 c1 c2 c3 c4 c5 c6 c7 c8 d0 d1 d2 d3 d4 d5 d6 d7 d8 HEk
      have hb2 := hb.trans (hbq.mono hb.size)
      clear hbq
      go_wp2
      go_roundw
      case rel => exact ⟨k + 1, hlt, by go_num, hb2⟩
      case measure => simp [intOf]; omega
    · obtain rfl : k = es.length := by omega
      clear hlt hk
      go_wp2
      go_ret
      exact ⟨rfl, hb⟩
set_option maxRecDepth 100000 in
theorem eqRib_any (p q : Option Addr) (c d : Nat) (es : List Rt) (w : World) (hp : RtsIn w p es) (hq : RtsIn w q es) (hn : es.length ≤ 100000000) : Calls Tryz.prog 128 #[ribV p es.length c, ribV q es.length d] w fun r w' => r = .returned (.bool true) ∧ Below w.heap.size w w' := by
  have HE : Hid (∀ w, RtsIn w p es → RtsIn w q es → Calls Tryz.prog 156 #[.slice p es.length c, .slice q es.length d] w fun r w' => r = .returned (.bool true) ∧ Below w.heap.size w w') := fun w h1 h2 => eqRouteS_any p q c d es w h1 h2 hn
  have HX : Hid (RtsIn w p es ∧ RtsIn w q es) := ⟨hp, hq⟩
  unfold ribV
  clear hp hq
  go_enter Tryz.func128, Tryz.ntmps128
  go_wp2_with fail
  refine (HE.out _ ((HX.out.1.alloc _).alloc _) ((HX.out.2.alloc _).alloc _)).mono ?_
  rintro e w1 ⟨rfl, hb1⟩
  have hB : Below w.heap.size w w1 := ((ent_new0 w _).alloc (by simp) _).trans (hb1.mono (by simp; omega))
  clear hb1 HE HX
  go_wp2
  go_ret
  exact ⟨rfl, hB⟩
end Go.Proofs.YtcnadobnihbldaaGreat
/- An Inst of the laws: measured, handed over, held against another one, opened. (Written by gen_inst.py.) -/
namespace Go.Proofs.YtcnadobnihbldaaGreat
open Go.ChangeShapes Go.WideShapes Go.RowKit Go.Sort Go.Deep Go.Joins

def instV (x : Option Addr) (n1 c1 : Nat) (y : Option Addr) (n2 c2 : Nat) (now : Int) : Value := .agg #[.slice x n1 c1, .slice y n2 c2, .int .i64 now]
set_option maxRecDepth 100000 in
theorem szIfaceSL_any (x : Option Addr) (len cap : Nat) (L : Int) (w : World) (hl : len ≤ maxLen) (h0 : 0 ≤ L) (h1 : L ≤ 1048576) : Calls Tryz.prog 106 #[.slice x len cap, .int .i64 L] w fun e w' => e = .returned (.int .i64 (if (len : Int) ≤ L then L - (len : Int) else -1)) ∧ w = w' := by
  unfold maxLen at hl
  by_cases h : (len : Int) ≤ L
  · rw [if_pos h]
    have d : decide (L - (len : Int) < 0) = false := by simp; omega
    go_enter Tryz.func106, Tryz.ntmps106
    go_wp2
    go_ret
    exact ⟨rfl, rfl⟩
  · rw [if_neg h]
    have d : decide (L - (len : Int) < 0) = true := by simp; omega
    go_enter Tryz.func106, Tryz.ntmps106
    go_wp2
    go_ret
    exact ⟨rfl, rfl⟩
set_option maxRecDepth 100000 in
theorem szRouteSL_any (x : Option Addr) (len cap : Nat) (L : Int) (w : World) (hl : len ≤ maxLen) (h0 : 0 ≤ L) (h1 : L ≤ 1048576) : Calls Tryz.prog 139 #[.slice x len cap, .int .i64 L] w fun e w' => e = .returned (.int .i64 (if (len : Int) ≤ L then L - (len : Int) else -1)) ∧ w = w' := by
  unfold maxLen at hl
  by_cases h : (len : Int) ≤ L
  · rw [if_pos h]
    have d : decide (L - (len : Int) < 0) = false := by simp; omega
    go_enter Tryz.func139, Tryz.ntmps139
    go_wp2
    go_ret
    exact ⟨rfl, rfl⟩
  · rw [if_neg h]
    have d : decide (L - (len : Int) < 0) = true := by simp; omega
    go_enter Tryz.func139, Tryz.ntmps139
    go_wp2
    go_ret
    exact ⟨rfl, rfl⟩
set_option maxRecDepth 100000 in
theorem szRibL_any (x : Option Addr) (len cap : Nat) (L : Int) (w : World) (hl : len ≤ maxLen) (h0 : 0 ≤ L) (h1 : L ≤ 1048576) : Calls Tryz.prog 107 #[.agg #[.slice x len cap], .int .i64 L] w fun e w' => e = .returned (.int .i64 (if (len : Int) ≤ L then L - (len : Int) else -1)) ∧ Below w.heap.size w w' := by
  have HS : Hid (∀ w, Calls Tryz.prog 139 #[.slice x len cap, .int .i64 L] w fun e w' => e = .returned (.int .i64 (if (len : Int) ≤ L then L - (len : Int) else -1)) ∧ w = w') := fun w => szRouteSL_any x len cap L w hl h0 h1
  unfold maxLen at hl
  by_cases h : (len : Int) ≤ L
  · rw [if_pos h] at *
    have d : decide (L - (len : Int) < 0) = false := by simp; omega
    go_enter Tryz.func107, Tryz.ntmps107
    go_wp2_with fail
    refine (HS.out _).mono ?_
    rintro e w1 ⟨rfl, rfl⟩
    go_wp2
    go_ret
    exact ⟨rfl, ent_new0 w _⟩
  · rw [if_neg h] at *
    go_enter Tryz.func107, Tryz.ntmps107
    go_wp2_with fail
    refine (HS.out _).mono ?_
    rintro e w1 ⟨rfl, rfl⟩
    go_wp2
    go_ret
    exact ⟨rfl, ent_new0 w _⟩
theorem box3i {w w1 : World} {x0 x1 x2 : Value} {t : TypeId} (h : Below (w.alloc (.cells #[x0, x1, x2] t)).heap.size (w.alloc (.cells #[x0, x1, x2] t)) w1) : Row w1 w.heap.size t [x0, x1, x2] ∧ Below w.heap.size w w1 := by
  have q := Row.new w t [x0, x1, x2]
  exact ⟨q.below h q.lt, (ent_new0 w _).trans (h.mono (by simp))⟩
set_option maxRecDepth 100000 in
theorem szInst_any (x : Option Addr) (n1 c1 : Nat) (y : Option Addr) (n2 c2 : Nat) (now : Int) (w : World) (h1 : n1 ≤ maxLen) (h2 : n2 ≤ maxLen) :
    Calls Tryz.prog 65 #[instV x n1 c1 y n2 c2 now, .int .i64 1048576] w fun e w' => (∃ v : Int, e = .returned (.int .i64 v) ∧ (v < 0 ∨ 0 ≤ v ∧ n1 ≤ 1048576 ∧ n2 ≤ 1048576)) ∧ Below w.heap.size w w' := by
  have HA : Hid (∀ w, Calls Tryz.prog 106 #[.slice x n1 c1, .int .i64 1048576] w fun e w' => e = .returned (.int .i64 (if (n1 : Int) ≤ 1048576 then 1048576 - (n1 : Int) else -1)) ∧ w = w') := fun w => szIfaceSL_any x n1 c1 1048576 w h1 (by omega) (by omega)
  have HB : Hid (∀ L : Int, 0 ≤ L → L ≤ 1048576 → ∀ w, Calls Tryz.prog 107 #[.agg #[.slice y n2 c2], .int .i64 L] w fun e w' => e = .returned (.int .i64 (if (n2 : Int) ≤ L then L - (n2 : Int) else -1)) ∧ Below w.heap.size w w') := fun L a b w => szRibL_any y n2 c2 L w h2 a b
  unfold instV
  by_cases k1 : (n1 : Int) ≤ 1048576
  · rw [if_pos k1] at HA
    have HB1 : Hid _ := HB.out (1048576 - (n1 : Int)) (by omega) (by omega)
    have d1 : decide (1048576 - (n1 : Int) < 0) = false := by simp; omega
    clear HB h1 h2
    by_cases k2 : (n2 : Int) ≤ 1048576 - (n1 : Int)
    · rw [if_pos k2] at HB1
      have d2 : decide (1048576 - (n1 : Int) - (n2 : Int) < 0) = false := by simp; omega
      go_enter Tryz.func65, Tryz.ntmps65
      go_wp2_with fail
      refine (HA.out _).mono ?_
      rintro e w1 ⟨rfl, rfl⟩
      go_wp2_with fail
      refine (HB1.out _).mono ?_
      rintro e w2 ⟨rfl, hb2⟩
      obtain ⟨-, hB⟩ := box3i hb2
      clear hb2
      go_wp2
      go_ret
      exact ⟨⟨_, rfl, .inr ⟨by omega, by omega, by omega⟩⟩, hB⟩
    · rw [if_neg k2] at HB1
      go_enter Tryz.func65, Tryz.ntmps65
      go_wp2_with fail
      refine (HA.out _).mono ?_
      rintro e w1 ⟨rfl, rfl⟩
      go_wp2_with fail
      refine (HB1.out _).mono ?_
      rintro e w2 ⟨rfl, hb2⟩
      obtain ⟨-, hB⟩ := box3i hb2
      clear hb2
      go_wp2
      go_ret
      exact ⟨⟨_, rfl, .inl (by omega)⟩, hB⟩
  · rw [if_neg k1] at HA
    clear HB h1 h2
    go_enter Tryz.func65, Tryz.ntmps65
    go_wp2_with fail
    refine (HA.out _).mono ?_
    rintro e w1 ⟨rfl, rfl⟩
    go_wp2
    go_ret
    exact ⟨⟨_, rfl, .inl (by omega)⟩, ent_new0 w _⟩
set_option maxRecDepth 100000 in
set_option maxHeartbeats 2000000 in
theorem eqInst_any (p q : Option Addr) (a1 b1 : Nat) (r s : Option Addr) (a2 b2 : Nat) (is : List If) (rs : List Rt) (now : Int) (w : World) (h1 : IfsIn w p is) (h2 : IfsIn w q is) (h3 : RtsIn w r rs) (h4 : RtsIn w s rs) (hn1 : is.length ≤ 100000000) (hn2 : rs.length ≤ 100000000) :
    Calls Tryz.prog 82 #[instV p is.length a1 r rs.length a2 now, instV q is.length b1 s rs.length b2 now] w fun e w' => e = .returned (.bool true) ∧ Below w.heap.size w w' := by
  have HI : Hid (∀ w, IfsIn w p is → IfsIn w q is → Calls Tryz.prog 127 #[.slice p is.length a1, .slice q is.length b1] w fun e w' => e = .returned (.bool true) ∧ Below w.heap.size w w') := fun w a b => eqIfaceS_any p q a1 b1 is w a b hn1
  have HR : Hid (∀ w, RtsIn w r rs → RtsIn w s rs → Calls Tryz.prog 128 #[.agg #[.slice r rs.length a2], .agg #[.slice s rs.length b2]] w fun e w' => e = .returned (.bool true) ∧ Below w.heap.size w w') := fun w a b => eqRib_any r s a2 b2 rs w a b hn2
  have HX : Hid (IfsIn w p is ∧ IfsIn w q is ∧ RtsIn w r rs ∧ RtsIn w s rs) := ⟨h1, h2, h3, h4⟩
  clear h1 h2 h3 h4 hn1 hn2
  have q0 := (Row.new w 61 [.slice p is.length a1, .slice r rs.length a2, .int .i64 now]).alloc (.cells #[.slice q is.length b1, .slice s rs.length b2, .int .i64 now] 61)
  have q1 := Row.new (w.alloc (.cells #[.slice p is.length a1, .slice r rs.length a2, .int .i64 now] 61)) 61 [.slice q is.length b1, .slice s rs.length b2, .int .i64 now]
  rw [show (w.alloc (.cells #[.slice p is.length a1, .slice r rs.length a2, .int .i64 now] 61)).heap.size = w.heap.size + 1 by simp] at q1
  have hBB : Below w.heap.size w ((w.alloc (.cells #[.slice p is.length a1, .slice r rs.length a2, .int .i64 now] 61)).alloc (.cells #[.slice q is.length b1, .slice s rs.length b2, .int .i64 now] 61)) := (ent_new0 w _).alloc (by simp) _
  have HQ : Hid _ := And.intro q0 (And.intro q1 hBB)
  have dn : (now != now) = false := by simp
  clear q0 q1 hBB
  unfold instV
  go_enter Tryz.func82, Tryz.ntmps82
  go_wp2_with fail
  obtain ⟨q0, q1, hB⟩ := HQ.out
  refine (HI.out _ (HX.out.1.below hB) (HX.out.2.1.below hB)).mono ?_
  rintro e w1 ⟨rfl, hb1⟩
  have q0 := q0.below hb1 q0.lt
  have q1 := q1.below hb1 q1.lt
  have hB := hB.trans (hb1.mono hB.size)
  clear hb1 HI HQ
  have x1 : w1.cell? ⟨w.heap.size, 1, none⟩ = some (.slice r rs.length a2) := q0.cell 1
  have y1 : w1.cell? ⟨w.heap.size + 1, 1, none⟩ = some (.slice s rs.length b2) := q1.cell 1
  go_wp2_with fail
  refine (HR.out _ (HX.out.2.2.1.below hB) (HX.out.2.2.2.below hB)).mono ?_
  rintro e w2 ⟨rfl, hb2⟩
  have q0 := q0.below hb2 q0.lt
  have q1 := q1.below hb2 q1.lt
  have hB := hB.trans (hb2.mono hB.size)
  clear hb2 HR x1 y1
  have x2 : w2.cell? ⟨w.heap.size, 2, none⟩ = some (.int .i64 now) := q0.cell 2
  have y2 : w2.cell? ⟨w.heap.size + 1, 2, none⟩ = some (.int .i64 now) := q1.cell 2
  go_wp2
  go_ret
  exact ⟨rfl, hB⟩
set_option maxRecDepth 100000 in
set_option maxHeartbeats 2000000 in
theorem toInst_any (x : Option Addr) (c1 : Nat) (y : Option Addr) (c2 : Nat) (is : List If) (rs : List Rt) (now : Int) (w : World) (h1 : ArgI w x is.length is) (h2 : ArgR w y rs.length rs) (hn1 : is.length ≤ 1048576) (hn2 : rs.length ≤ 1048576) :
    Calls Tryz.prog 73 #[instV x is.length c1 y rs.length c2 now] w fun e w' => ∃ g h, e = .returned (instV (some ⟨g, 0, none⟩) is.length is.length (some ⟨h, 0, none⟩) rs.length rs.length now) ∧ Row w' g 53 (rowI is) ∧ Row w' h 155 (rowR rs) ∧ Below w.heap.size w w' := by
  have HI : Hid (∀ w, ArgI w x is.length is → Calls Tryz.prog 113 #[.slice x is.length c1] w fun e w' => ∃ g, e = .returned (.slice (some ⟨g, 0, none⟩) is.length is.length) ∧ w.heap.size ≤ g ∧ Row w' g 53 (rowI is) ∧ Below w.heap.size w w') := fun w h => toIfaceS_any x c1 is w h hn1
  have HR : Hid (∀ w, ArgR w y rs.length rs → Calls Tryz.prog 114 #[.agg #[.slice y rs.length c2]] w fun e w' => ∃ g, e = .returned (.agg #[.slice (some ⟨g, 0, none⟩) rs.length rs.length]) ∧ w.heap.size ≤ g ∧ Row w' g 155 (rowR rs) ∧ Below w.heap.size w w') := fun w h => toRib_any y c2 rs w h hn2
  have HX : Hid (ArgI w x is.length is ∧ ArgR w y rs.length rs) := ⟨h1, h2⟩
  clear h1 h2 hn1 hn2
  unfold instV
  generalize is.length = n1 at *
  generalize rs.length = n2 at *
  obtain ⟨W, hW, q0, q1, q2, hB, hS⟩ := three_new w [.slice x n1 c1, .slice y n2 c2, .int .i64 now] [.slice none 0 0, .slice none 0 0, .int .i64 0] [.slice none 0 0, .slice none 0 0, .int .i64 0] 111 61 61
  have HW : Hid _ := hW
  have HQ : Hid _ := And.intro q0 (And.intro q1 (And.intro q2 hB))
  clear hW q0 q1 q2 hB
  go_enter Tryz.func73, Tryz.ntmps73
  go_wp2_with fail
  rw [← HW.out]
  obtain ⟨q0, q1, q2, hB⟩ := HQ.out
  refine (HI.out _ (HX.out.1.below hB)).mono ?_
  rintro e w1 ⟨g, rfl, hg, rg, hb1⟩
  have q0 := q0.below hb1 q0.lt
  have q1 := q1.below hb1 q1.lt
  have q2 := q2.below hb1 q2.lt
  have hB := hB.trans (hb1.mono (by omega))
  have hs1 := hb1.size
  clear hb1 HI HW HQ
  have x1 : w1.cell? ⟨w.heap.size, 1, none⟩ = some (.slice y n2 c2) := q0.cell 1
  have f0 : w1.frozen? ⟨w.heap.size + 1 + 1, 0, none⟩ = false := q2.frozen 0
  have z0 : w1.cell? ⟨w.heap.size + 1 + 1, 0, none⟩ = some (.slice none 0 0) := q2.cell 0
  have HE : Hid _ := And.intro (q0.other 0 (.slice (some ⟨g, 0, none⟩) n1 n1) (show w.heap.size ≠ w.heap.size + 1 + 1 by omega)) (And.intro (q1.other 0 (.slice (some ⟨g, 0, none⟩) n1 n1) (show w.heap.size + 1 ≠ w.heap.size + 1 + 1 by omega)) (And.intro (q2.set 0 (.slice (some ⟨g, 0, none⟩) n1 n1)) (And.intro (rg.other 0 (.slice (some ⟨g, 0, none⟩) n1 n1) (show g ≠ w.heap.size + 1 + 1 by omega)) (hB.setCell (p := ⟨w.heap.size + 1 + 1, 0, none⟩) (by show w.heap.size ≤ w.heap.size + 1 + 1; omega) (.slice (some ⟨g, 0, none⟩) n1 n1)))))
  clear q0 q1 q2 rg hB
  go_wp2_with fail
  clear x1 f0 z0
  have hsz : (w1.setCell ⟨w.heap.size + 1 + 1, 0, none⟩ (.slice (some ⟨g, 0, none⟩) n1 n1)).heap.size = w1.heap.size := by simp
  generalize w1.setCell ⟨w.heap.size + 1 + 1, 0, none⟩ (.slice (some ⟨g, 0, none⟩) n1 n1) = W1 at *
  obtain ⟨q0, q1, q2, rg, hB⟩ := HE.out
  clear HE
  refine (HR.out _ (HX.out.2.below hB)).mono ?_
  rintro e w2 ⟨h, rfl, hh, rh, hb2⟩
  have q0 := q0.below hb2 q0.lt
  have q1 := q1.below hb2 q1.lt
  have q2 := q2.below hb2 q2.lt
  have rg := rg.below hb2 rg.lt
  have hB := hB.trans (hb2.mono hB.size)
  clear hb2 HR
  have x2 : w2.cell? ⟨w.heap.size, 2, none⟩ = some (.int .i64 now) := q0.cell 2
  have a0 : w2.cell? ⟨w.heap.size + 1 + 1, 0, none⟩ = some (.slice (some ⟨g, 0, none⟩) n1 n1) := q2.cell 0
  have f0 : w2.frozen? ⟨w.heap.size + 1 + 1, 0, none⟩ = false := q2.frozen 0
  have a1 : w2.cell? ⟨w.heap.size + 1 + 1, 1, none⟩ = some (.slice none 0 0) := q2.cell 1
  have f1 : w2.frozen? ⟨w.heap.size + 1 + 1, 1, none⟩ = false := q2.frozen 1
  have a2 : w2.cell? ⟨w.heap.size + 1 + 1, 2, none⟩ = some (.int .i64 0) := q2.cell 2
  have f2 : w2.frozen? ⟨w.heap.size + 1 + 1, 2, none⟩ = false := q2.frozen 2
  have b0 : w2.cell? ⟨w.heap.size + 1, 0, none⟩ = some (.slice none 0 0) := q1.cell 0
  have e0 : w2.frozen? ⟨w.heap.size + 1, 0, none⟩ = false := q1.frozen 0
  have b1 : w2.cell? ⟨w.heap.size + 1, 1, none⟩ = some (.slice none 0 0) := q1.cell 1
  have e1 : w2.frozen? ⟨w.heap.size + 1, 1, none⟩ = false := q1.frozen 1
  have b2 : w2.cell? ⟨w.heap.size + 1, 2, none⟩ = some (.int .i64 0) := q1.cell 2
  have e2 : w2.frozen? ⟨w.heap.size + 1, 2, none⟩ = false := q1.frozen 2
  have ng2 : g ≠ w.heap.size + 1 + 1 := by omega
  have ng1 : g ≠ w.heap.size + 1 := by omega
  have nh2 : h ≠ w.heap.size + 1 + 1 := by omega
  have nh1 : h ≠ w.heap.size + 1 := by omega
  have n12 : w.heap.size + 1 ≠ w.heap.size + 1 + 1 := by omega
  have HF : Hid (Row (((((w2.setCell ⟨w.heap.size + 1 + 1, 1, none⟩ (.slice (some ⟨h, 0, none⟩) n2 n2)).setCell ⟨w.heap.size + 1 + 1, 2, none⟩ (.int .i64 now)).setCell ⟨w.heap.size + 1, 0, none⟩ (.slice (some ⟨g, 0, none⟩) n1 n1)).setCell ⟨w.heap.size + 1, 1, none⟩ (.slice (some ⟨h, 0, none⟩) n2 n2)).setCell ⟨w.heap.size + 1, 2, none⟩ (.int .i64 now)) (w.heap.size + 1) 61 [.slice (some ⟨g, 0, none⟩) n1 n1, .slice (some ⟨h, 0, none⟩) n2 n2, .int .i64 now] ∧ Row (((((w2.setCell ⟨w.heap.size + 1 + 1, 1, none⟩ (.slice (some ⟨h, 0, none⟩) n2 n2)).setCell ⟨w.heap.size + 1 + 1, 2, none⟩ (.int .i64 now)).setCell ⟨w.heap.size + 1, 0, none⟩ (.slice (some ⟨g, 0, none⟩) n1 n1)).setCell ⟨w.heap.size + 1, 1, none⟩ (.slice (some ⟨h, 0, none⟩) n2 n2)).setCell ⟨w.heap.size + 1, 2, none⟩ (.int .i64 now)) g 53 (rowI is) ∧ Row (((((w2.setCell ⟨w.heap.size + 1 + 1, 1, none⟩ (.slice (some ⟨h, 0, none⟩) n2 n2)).setCell ⟨w.heap.size + 1 + 1, 2, none⟩ (.int .i64 now)).setCell ⟨w.heap.size + 1, 0, none⟩ (.slice (some ⟨g, 0, none⟩) n1 n1)).setCell ⟨w.heap.size + 1, 1, none⟩ (.slice (some ⟨h, 0, none⟩) n2 n2)).setCell ⟨w.heap.size + 1, 2, none⟩ (.int .i64 now)) h 155 (rowR rs) ∧ Below w.heap.size w (((((w2.setCell ⟨w.heap.size + 1 + 1, 1, none⟩ (.slice (some ⟨h, 0, none⟩) n2 n2)).setCell ⟨w.heap.size + 1 + 1, 2, none⟩ (.int .i64 now)).setCell ⟨w.heap.size + 1, 0, none⟩ (.slice (some ⟨g, 0, none⟩) n1 n1)).setCell ⟨w.heap.size + 1, 1, none⟩ (.slice (some ⟨h, 0, none⟩) n2 n2)).setCell ⟨w.heap.size + 1, 2, none⟩ (.int .i64 now))) := ⟨((((((q1.other 1 (.slice (some ⟨h, 0, none⟩) n2 n2) n12).other 2 (.int .i64 now) n12).set 0 (.slice (some ⟨g, 0, none⟩) n1 n1)).set 1 (.slice (some ⟨h, 0, none⟩) n2 n2)).set 2 (.int .i64 now))), ((((((rg).other 1 (.slice (some ⟨h, 0, none⟩) n2 n2) ng2).other 2 (.int .i64 now) ng2).other 0 (.slice (some ⟨g, 0, none⟩) n1 n1) ng1).other 1 (.slice (some ⟨h, 0, none⟩) n2 n2) ng1).other 2 (.int .i64 now) ng1), ((((((rh).other 1 (.slice (some ⟨h, 0, none⟩) n2 n2) nh2).other 2 (.int .i64 now) nh2).other 0 (.slice (some ⟨g, 0, none⟩) n1 n1) nh1).other 1 (.slice (some ⟨h, 0, none⟩) n2 n2) nh1).other 2 (.int .i64 now) nh1), (((((hB.setCell (p := ⟨w.heap.size + 1 + 1, 1, none⟩) (by show w.heap.size ≤ w.heap.size + 1 + 1; omega) (.slice (some ⟨h, 0, none⟩) n2 n2)).setCell (p := ⟨w.heap.size + 1 + 1, 2, none⟩) (by show w.heap.size ≤ w.heap.size + 1 + 1; omega) (.int .i64 now)).setCell (p := ⟨w.heap.size + 1, 0, none⟩) (by show w.heap.size ≤ w.heap.size + 1; omega) (.slice (some ⟨g, 0, none⟩) n1 n1)).setCell (p := ⟨w.heap.size + 1, 1, none⟩) (by show w.heap.size ≤ w.heap.size + 1; omega) (.slice (some ⟨h, 0, none⟩) n2 n2)).setCell (p := ⟨w.heap.size + 1, 2, none⟩) (by show w.heap.size ≤ w.heap.size + 1; omega) (.int .i64 now))⟩
  clear q0 q1 q2 rg rh hB
  go_wp2_with fail
  have hF := HF.out
  clear HF x2 a0 f0 b0 e0 a1 f1 b1 e1 a2 f2 b2 e2
  generalize (((((w2.setCell ⟨w.heap.size + 1 + 1, 1, none⟩ (.slice (some ⟨h, 0, none⟩) n2 n2)).setCell ⟨w.heap.size + 1 + 1, 2, none⟩ (.int .i64 now)).setCell ⟨w.heap.size + 1, 0, none⟩ (.slice (some ⟨g, 0, none⟩) n1 n1)).setCell ⟨w.heap.size + 1, 1, none⟩ (.slice (some ⟨h, 0, none⟩) n2 n2)).setCell ⟨w.heap.size + 1, 2, none⟩ (.int .i64 now)) = Z at *
  obtain ⟨k1, k2, k3, k4⟩ := hF
  have e0 : Z.cell? ⟨w.heap.size + 1, 0, none⟩ = some (.slice (some ⟨g, 0, none⟩) n1 n1) := k1.cell 0
  have e1 : Z.cell? ⟨w.heap.size + 1, 1, none⟩ = some (.slice (some ⟨h, 0, none⟩) n2 n2) := k1.cell 1
  have e2 : Z.cell? ⟨w.heap.size + 1, 2, none⟩ = some (.int .i64 now) := k1.cell 2
  exact bodyPost_ret (v := .agg #[.slice (some ⟨g, 0, none⟩) n1 n1, .slice (some ⟨h, 0, none⟩) n2 n2, .int .i64 now]) (by simp [results, Tryz.results73, go_sem, e0, e1, e2]) rfl ⟨g, h, rfl, k2, k3, k4⟩
section
variable {H : Type} {enc : TypeId × Value → H} {w : World} {base : Nat} {spare : Nat → Bool} {held : Bool}
theorem Tryz.cellsInst : Tryz.prog.cellsOf 111 = 3 := by kernel_rfl
theorem Tryz.cellsIfsI : Tryz.prog.cellsOf 106 = 1 := by kernel_rfl
theorem Tryz.cellsRibI : Tryz.prog.cellsOf 109 = 1 := by kernel_rfl
theorem Tryz.cellsIntN : Tryz.prog.cellsOf 2 = 1 := by kernel_rfl
set_option maxRecDepth 100000 in
theorem open_instV {r : Reach} {b0 : Nat} {v : Value} {d : DataW H} {p : List MemPlace} (hv : Value.okWide Tryz.prog w r b0 111 v) (h : DataW.Trod enc Tryz.prog w base spare held 111 v d p) :
    ∃ x n1 c1 is y n2 c2 rs now, v = instV x n1 c1 y n2 c2 now ∧ ArgI w x n1 is ∧ ArgR w y n2 rs ∧ (Lit.int .i64 now).wf = true := by
  obtain ⟨cs, rfl, hsz⟩ := okWide_struct Tryz.underlying111 hv
  rw [Tryz.cellsInst] at hsz
  obtain ⟨l⟩ := cs
  match l, hsz with
  | [e0, e1, e2], _ =>
    obtain ⟨fuel, hf⟩ := h
    obtain ⟨xs, n, _, _, hl, hx, hg⟩ := DataW.trod_struct Tryz.underlying111 hf
    match xs, hx with
    | [y0, y1, y2], _ =>
      have h0 : DataW.trod enc Tryz.prog w base spare held n 106 ((([e0, e1, e2] : List Value).drop 0).take (Tryz.prog.cellsOf 106)) = [y0, y1, y2][0]? := hg 0 _ rfl
      rw [Tryz.cellsIfsI] at h0
      replace h0 : DataW.trod enc Tryz.prog w base spare held n 106 [e0] = some y0 := h0
      have h1 : DataW.trod enc Tryz.prog w base spare held n 109 ((([e0, e1, e2] : List Value).drop 1).take (Tryz.prog.cellsOf 109)) = [y0, y1, y2][1]? := hg 1 _ rfl
      rw [Tryz.cellsRibI] at h1
      replace h1 : DataW.trod enc Tryz.prog w base spare held n 109 [e1] = some y1 := h1
      have h2 : DataW.trod enc Tryz.prog w base spare held n 2 ((([e0, e1, e2] : List Value).drop 2).take (Tryz.prog.cellsOf 2)) = [y0, y1, y2][2]? := hg 2 _ rfl
      rw [Tryz.cellsIntN] at h2
      replace h2 : DataW.trod enc Tryz.prog w base spare held n 2 [e2] = some y2 := h2
      obtain ⟨xs', n', _, _, hl', hx', hg'⟩ := DataW.trod_struct Tryz.underlying109 h1
      match xs', hx' with
      | [z0], _ =>
        have k0 : DataW.trod enc Tryz.prog w base spare held n' 107 ((([e1] : List Value).drop 0).take (Tryz.prog.cellsOf 107)) = [z0][0]? := hg' 0 _ rfl
        rw [Tryz.cellsRibS] at k0
        replace k0 : DataW.trod enc Tryz.prog w base spare held n' 107 [e1] = some z0 := k0
        obtain ⟨x, n1, c1, is, rfl, hA⟩ := open_ifs h0
        obtain ⟨y, n2, c2, rs, rfl, hR⟩ := open_rts k0
        obtain ⟨now, en, _, wn⟩ := DataW.trod_int Tryz.underlying2 h2
        simp only [List.cons.injEq, and_true] at en
        subst en
        exact ⟨x, n1, c1, is, y, n2, c2, rs, now, rfl, hA, hR, wn⟩
end
end Go.Proofs.YtcnadobnihbldaaGreat
/- An Inst in one piece: what it is, and where it lies; lists of them in memory. (Written by gen_isl.py.) -/
namespace Go.Proofs.YtcnadobnihbldaaGreat
open Go.RowKit Go.Sort

/-- What an Inst is. -/
structure Iv where
  is : List If
  rs : List Rt
  now : Int
deriving Inhabited
/-- Where an Inst's lists lie, and how far they reach. -/
structure Ip where
  x : Option Addr
  c1 : Nat
  y : Option Addr
  c2 : Nat
deriving Inhabited
def ivL (a : Ip) (t : Iv) : List Value := [.slice a.x t.is.length a.c1, .slice a.y t.rs.length a.c2, .int .i64 t.now]
def ivV (a : Ip) (t : Iv) : Value := .agg #[.slice a.x t.is.length a.c1, .slice a.y t.rs.length a.c2, .int .i64 t.now]
theorem ivV_eq (a : Ip) (t : Iv) : ivV a t = instV a.x t.is.length a.c1 a.y t.rs.length a.c2 t.now := rfl
/-- It was handed in so. -/
def ArgIv (w : World) (a : Ip) (t : Iv) : Prop := ArgI w a.x t.is.length t.is ∧ ArgR w a.y t.rs.length t.rs
theorem ArgIv.below {w w' : World} {a : Ip} {t : Iv} (h : ArgIv w a t) (hb : Below w.heap.size w w') : ArgIv w' a t := ⟨h.1.below hb, h.2.below hb⟩
/-- It lies so. -/
def InIv (w : World) (a : Ip) (t : Iv) : Prop := IfsIn w a.x t.is ∧ RtsIn w a.y t.rs
theorem InIv.below {w w' : World} {a : Ip} {t : Iv} (h : InIv w a t) (hb : Below w.heap.size w w') : InIv w' a t := ⟨h.1.below hb, h.2.below hb⟩
theorem InIv.alloc {w : World} {a : Ip} {t : Iv} (h : InIv w a t) (o : Obj) : InIv (w.alloc o) a t := h.below (ent_new0 w o)
abbrev IvP := Ip × Iv
def rowIv (ps : List IvP) : List Value := ps.flatMap fun x => ivL x.1 x.2
theorem ivL_length (a : Ip) (t : Iv) : (ivL a t).length = 3 := rfl
theorem rowIv_length (ps : List IvP) : (rowIv ps).length = 3 * ps.length := by
  induction ps with
  | nil => rfl
  | cons e es ih => simp only [rowIv, List.flatMap_cons, List.length_append, List.length_cons] at ih ⊢; rw [ih, ivL_length]; omega
theorem rowIv_append (a b : List IvP) : rowIv (a ++ b) = rowIv a ++ rowIv b := by simp [rowIv]
theorem rowIv_cons (e : IvP) (es : List IvP) : rowIv (e :: es) = ivL e.1 e.2 ++ rowIv es := rfl
theorem rowIv_get (es : List IvP) (i k : Nat) (hi : i < es.length) (hk : k < 3) : (rowIv es)[i * 3 + k]? = (ivL es[i].1 es[i].2)[k]? := by
  induction es generalizing i with
  | nil => simp at hi
  | cons e es ih =>
    rw [rowIv_cons]
    match i with
    | 0 => rw [Nat.zero_mul, Nat.zero_add, List.getElem?_append_left (by rw [ivL_length]; omega)]; rfl
    | i + 1 =>
      rw [List.getElem?_append_right (by rw [ivL_length]; omega), ivL_length, show (i + 1) * 3 + k - 3 = i * 3 + k by omega, ih i (by simpa using hi)]
      rfl
/-- The slice (p, ps.length) holds these Insts, whose lists lie where they say. -/
def IvsIn (w : World) (p : Option Addr) (ps : List IvP) : Prop := (ps = [] ∨ ∃ g, p = some ⟨g, 0, none⟩ ∧ g < w.heap.size ∧ ∀ j u, (rowIv ps)[j]? = some u → w.cell? ⟨g, j, none⟩ = some u) ∧ ∀ x ∈ ps, InIv w x.1 x.2
theorem IvsIn.below {w w' : World} {p : Option Addr} {ps : List IvP} (h : IvsIn w p ps) (hb : Below w.heap.size w w') : IvsIn w' p ps := by
  refine ⟨?_, fun x hx => (h.2 x hx).below hb⟩
  rcases h.1 with h | ⟨g, hp, hg, hc⟩
  · exact .inl h
  · refine .inr ⟨g, hp, by have := hb.size; omega, fun j u hj => ?_⟩
    rw [hb.cell (p := ⟨g, j, none⟩) hg]
    exact hc j u hj
theorem IvsIn.at {w : World} {p : Option Addr} {ps : List IvP} (h : IvsIn w p ps) (i : Nat) (hi : i < ps.length) : ∃ g a t, p = some ⟨g, 0, none⟩ ∧ g < w.heap.size ∧ ps[i] = (a, t) ∧ InIv w a t ∧ w.cell? ⟨g, i * 3, none⟩ = some (.slice a.x t.is.length a.c1) ∧ w.cell? ⟨g, i * 3 + 1, none⟩ = some (.slice a.y t.rs.length a.c2) ∧ w.cell? ⟨g, i * 3 + 2, none⟩ = some (.int .i64 t.now) := by
  rcases h.1 with h1 | ⟨g, hp, hg, hc⟩
  · subst h1; simp at hi
  · exact ⟨g, ps[i].1, ps[i].2, hp, hg, rfl, h.2 _ (List.getElem_mem hi), hc _ _ (rowIv_get ps i 0 hi (by omega)), hc _ _ (rowIv_get ps i 1 hi (by omega)), hc _ _ (rowIv_get ps i 2 hi (by omega))⟩
theorem ivsIn_row {w : World} {g : Nat} {t : TypeId} {ps : List IvP} (h : Row w g t (rowIv ps)) (hp : ∀ e ∈ ps, InIv w e.1 e.2) : IvsIn w (some ⟨g, 0, none⟩) ps := ⟨.inr ⟨g, rfl, h.lt, fun j _ hj => (h.cell j).trans hj⟩, hp⟩
theorem same_sndI {ps qs : List IvP} (h : qs.map (·.2) = ps.map (·.2)) {P : Iv → Prop} (hp : ∀ e ∈ ps, P e.2) : ∀ e ∈ qs, P e.2 := fun e he => by
  have : e.2 ∈ ps.map (·.2) := by rw [← h]; exact List.mem_map_of_mem he
  obtain ⟨e', he', h2⟩ := List.mem_map.1 this
  rw [← h2]
  exact hp e' he'
theorem len_sndI {ps qs : List IvP} (h : qs.map (·.2) = ps.map (·.2)) : qs.length = ps.length := by simpa using congrArg List.length h
end Go.Proofs.YtcnadobnihbldaaGreat
/- The laws' own lists of Insts handed in: opened. (Written by gen_isl.py.) -/
namespace Go.Proofs.YtcnadobnihbldaaGreat
open Go.ChangeShapes Go.WideShapes Go.RowKit Go.Sort Go.Deep Go.Joins Go.WideElems Go.Maps

def IvW (t : Iv) : Prop := (Lit.int .i64 t.now).wf = true
/-- The slice (x, len) that was handed in holds them. -/
def ArgIvs (w : World) (x : Option Addr) (len : Nat) (ps : List IvP) : Prop := ps.length = len ∧ len ≤ maxLen ∧ (∀ e ∈ ps, ArgIv w e.1 e.2 ∧ IvW e.2) ∧ ∀ i, (h : i < ps.length) → ∃ p, x = some p ∧ w.cell? (p.add (i * 3)) = some (.slice ps[i].1.x ps[i].2.is.length ps[i].1.c1) ∧ w.cell? (p.add (i * 3 + 1)) = some (.slice ps[i].1.y ps[i].2.rs.length ps[i].1.c2) ∧ w.cell? (p.add (i * 3 + 2)) = some (.int .i64 ps[i].2.now)
theorem ArgIvs.below {w w' : World} {x : Option Addr} {len : Nat} {ps : List IvP} (h : ArgIvs w x len ps) (hb : Below w.heap.size w w') : ArgIvs w' x len ps := by
  obtain ⟨h1, h2, h3, h4⟩ := h
  refine ⟨h1, h2, fun e he => ⟨(h3 e he).1.below hb, (h3 e he).2⟩, fun i hi => ?_⟩
  obtain ⟨p, hp, c0, c1, c2⟩ := h4 i hi
  have hk : ∀ k v, w.cell? (p.add k) = some v → w'.cell? (p.add k) = some v := fun k v hv => by rw [hb.cell (World.block_lt_of_cell? w _ hv)]; exact hv
  exact ⟨p, hp, hk _ _ c0, hk _ _ c1, hk _ _ c2⟩
theorem addr_moreIv (p : Addr) (m j : Nat) (hj : j ≠ 0) : p.add (m + j) = ⟨(p.add m).block, (p.add m).off + j, none⟩ := by
  rw [← Addr.add_add]
  generalize p.add m = q
  unfold Addr.add
  rw [if_neg hj]
theorem ArgIvs.at {w : World} {x : Option Addr} {len : Nat} {ps : List IvP} (h : ArgIvs w x len ps) (i : Nat) (hi : i < ps.length) : ∃ p a t, x = some p ∧ ps[i] = (a, t) ∧ ArgIv w a t ∧ IvW t ∧ w.cell? (p.add (i * 3)) = some (.slice a.x t.is.length a.c1) ∧ w.cell? ⟨(p.add (i * 3)).block, (p.add (i * 3)).off + 1, none⟩ = some (.slice a.y t.rs.length a.c2) ∧ w.cell? ⟨(p.add (i * 3)).block, (p.add (i * 3)).off + 2, none⟩ = some (.int .i64 t.now) := by
  obtain ⟨p, hp, c0, c1, c2⟩ := h.2.2.2 i hi
  have hh := h.2.2.1 _ (List.getElem_mem hi)
  rw [addr_moreIv _ _ _ (by omega)] at c1 c2
  exact ⟨p, _, _, hp, rfl, hh.1, hh.2, c0, c1, c2⟩
section
variable {H : Type} {enc : TypeId × Value → H} {w : World} {base : Nat} {spare : Nat → Bool} {held : Bool}
set_option maxRecDepth 100000 in
set_option maxHeartbeats 4000000 in
theorem open_inst3v {fuel : Nat} {e0 e1 e2 : Value} {x : DataW H × List MemPlace} (h : DataW.trod enc Tryz.prog w base spare held fuel 111 [e0, e1, e2] = some x) :
    ∃ x n1 c1 is y n2 c2 rs now, e0 = .slice x n1 c1 ∧ e1 = .slice y n2 c2 ∧ e2 = .int .i64 now ∧ ArgI w x n1 is ∧ ArgR w y n2 rs ∧ (Lit.int .i64 now).wf = true := by
  obtain ⟨xs, n, _, _, hl, hx, hg⟩ := DataW.trod_struct Tryz.underlying111 h
  match xs, hx with
  | [y0, y1, y2], _ =>
    have h0 : DataW.trod enc Tryz.prog w base spare held n 106 ((([e0, e1, e2] : List Value).drop 0).take (Tryz.prog.cellsOf 106)) = [y0, y1, y2][0]? := hg 0 _ rfl
    rw [Tryz.cellsIfsI] at h0
    replace h0 : DataW.trod enc Tryz.prog w base spare held n 106 [e0] = some y0 := h0
    have h1 : DataW.trod enc Tryz.prog w base spare held n 109 ((([e0, e1, e2] : List Value).drop 1).take (Tryz.prog.cellsOf 109)) = [y0, y1, y2][1]? := hg 1 _ rfl
    rw [Tryz.cellsRibI] at h1
    replace h1 : DataW.trod enc Tryz.prog w base spare held n 109 [e1] = some y1 := h1
    have h2 : DataW.trod enc Tryz.prog w base spare held n 2 ((([e0, e1, e2] : List Value).drop 2).take (Tryz.prog.cellsOf 2)) = [y0, y1, y2][2]? := hg 2 _ rfl
    rw [Tryz.cellsIntN] at h2
    replace h2 : DataW.trod enc Tryz.prog w base spare held n 2 [e2] = some y2 := h2
    obtain ⟨xs', n', _, _, hl', hx', hg'⟩ := DataW.trod_struct Tryz.underlying109 h1
    match xs', hx' with
    | [z0], _ =>
      have k0 : DataW.trod enc Tryz.prog w base spare held n' 107 ((([e1] : List Value).drop 0).take (Tryz.prog.cellsOf 107)) = [z0][0]? := hg' 0 _ rfl
      rw [Tryz.cellsRibS] at k0
      replace k0 : DataW.trod enc Tryz.prog w base spare held n' 107 [e1] = some z0 := k0
      obtain ⟨x, n1, c1, is, rfl, hA⟩ := open_ifs h0
      obtain ⟨y, n2, c2, rs, rfl, hR⟩ := open_rts k0
      obtain ⟨now, en, _, wn⟩ := DataW.trod_int Tryz.underlying2 h2
      simp only [List.cons.injEq, and_true] at en
      subst en
      exact ⟨x, n1, c1, is, y, n2, c2, rs, now, rfl, rfl, rfl, hA, hR, wn⟩
set_option maxRecDepth 100000 in
set_option maxHeartbeats 4000000 in
theorem open_iv {fuel : Nat} {cs : List Value} {x : DataW H × List MemPlace} (h : DataW.trod enc Tryz.prog w base spare held fuel 111 cs = some x) : ∃ (a : Ip) (t : Iv), cs = ivL a t ∧ ArgIv w a t ∧ IvW t := by
  obtain ⟨_, _, _, _, hl, _, _⟩ := DataW.trod_struct Tryz.underlying111 h
  rw [Tryz.cellsInst] at hl
  match cs, hl with
  | [c0, c1, c2], _ =>
    obtain ⟨x, n1, k1, is, y, n2, k2, rs, now, rfl, rfl, rfl, hI, hR, wn⟩ := open_inst3v h
    obtain rfl : is.length = n1 := hI.1
    obtain rfl : rs.length = n2 := hR.1
    exact ⟨⟨x, k1, y, k2⟩, ⟨is, rs, now⟩, rfl, ⟨hI, hR⟩, wn⟩
set_option maxRecDepth 100000 in
set_option maxHeartbeats 4000000 in
theorem open_ivs {fuel : Nat} {v : Value} {x : DataW H × List MemPlace} (h : DataW.trod enc Tryz.prog w base spare held fuel 36 [v] = some x) : ∃ y len cap ps, v = .slice y len cap ∧ ArgIvs w y len ps := by
  rcases open_slice Tryz.underlying36 h with ⟨h0, _⟩ | ⟨a, len, cap, m, n, D, Pl, h0, hb, hl, hm, hmm, _, hx⟩
  · simp only [List.cons.injEq, and_true] at h0
    exact ⟨none, 0, 0, [], h0, rfl, Nat.zero_le _, by simp, fun i hi => absurd hi (by simp)⟩
  · simp only [List.cons.injEq, and_true] at h0
    have hlm : len ≤ m := by rw [hmm]; split <;> omega
    have each : ∀ i, i < m → ∃ e : IvP, (ArgIv w e.1 e.2 ∧ IvW e.2) ∧ w.cell? (a.add (i * 3)) = some (.slice e.1.x e.2.is.length e.1.c1) ∧ w.cell? (a.add (i * 3 + 1)) = some (.slice e.1.y e.2.rs.length e.1.c2) ∧ w.cell? (a.add (i * 3 + 2)) = some (.int .i64 e.2.now) := by
      intro i hi
      obtain ⟨cs', h1, h2⟩ := hx i hi
      rw [Tryz.cellsInst] at h1
      obtain ⟨aa, tt, rfl, hA, hw⟩ := open_iv h2
      obtain ⟨_, _, hcell⟩ := World.cells?_some h1
      have hadd : ∀ j k, (a.add j).add k = a.add (j + k) := fun j k => by
        unfold Addr.add
        by_cases hj : j = 0
        · subst hj; by_cases hk : k = 0 <;> simp [hk]
        · by_cases hk : k = 0
          · simp [hj, hk]
          · simp [hj, hk, Nat.add_assoc]
      refine ⟨(aa, tt), ⟨hA, hw⟩, ?_⟩
      have k0 := hcell 0 (by omega)
      have k1 := hcell 1 (by omega)
      have k2 := hcell 2 (by omega)
      simp only [hadd, Nat.add_zero, ivL] at k0 k1 k2
      exact ⟨by simpa using k0, by simpa using k1, by simpa using k2⟩
    obtain ⟨E, hE⟩ := choose_lt (α := IvP) (p := fun i e => (ArgIv w e.1 e.2 ∧ IvW e.2) ∧ w.cell? (a.add (i * 3)) = some (.slice e.1.x e.2.is.length e.1.c1) ∧ w.cell? (a.add (i * 3 + 1)) = some (.slice e.1.y e.2.rs.length e.1.c2) ∧ w.cell? (a.add (i * 3 + 2)) = some (.int .i64 e.2.now)) each
    refine ⟨some a, len, cap, (List.range len).map E, h0, by simp, by omega, ?_, ?_⟩
    · intro e he
      simp only [List.mem_map, List.mem_range] at he
      obtain ⟨i, hi, rfl⟩ := he
      exact (hE i (by omega)).1
    · intro i hi
      simp only [List.length_map, List.length_range] at hi
      refine ⟨a, rfl, ?_⟩
      simp only [List.getElem_map, List.getElem_range]
      exact (hE i (by omega)).2
end
end Go.Proofs.YtcnadobnihbldaaGreat
/- An Inst measured, with any rest. (Written by gen_isl.py.) -/
namespace Go.Proofs.YtcnadobnihbldaaGreat
open Go.ChangeShapes Go.WideShapes Go.RowKit Go.Sort Go.Deep Go.Joins

set_option maxRecDepth 100000 in
set_option maxHeartbeats 4000000 in
theorem szInstL_any (x : Option Addr) (n1 c1 : Nat) (y : Option Addr) (n2 c2 : Nat) (now L : Int) (w : World) (h1 : n1 ≤ maxLen) (h2 : n2 ≤ maxLen) (h0 : 0 ≤ L) (hL : L ≤ 1048576) :
    Calls Tryz.prog 65 #[instV x n1 c1 y n2 c2 now, .int .i64 L] w fun e w' => (∃ v : Int, e = .returned (.int .i64 v) ∧ v ≤ L ∧ (v < 0 ∨ 0 ≤ v ∧ n1 ≤ 1048576 ∧ n2 ≤ 1048576)) ∧ Below w.heap.size w w' := by
  have HA : Hid (∀ w, Calls Tryz.prog 106 #[.slice x n1 c1, .int .i64 L] w fun e w' => e = .returned (.int .i64 (if (n1 : Int) ≤ L then L - (n1 : Int) else -1)) ∧ w = w') := fun w => szIfaceSL_any x n1 c1 L w h1 h0 hL
  have HB : Hid (∀ L : Int, 0 ≤ L → L ≤ 1048576 → ∀ w, Calls Tryz.prog 107 #[.agg #[.slice y n2 c2], .int .i64 L] w fun e w' => e = .returned (.int .i64 (if (n2 : Int) ≤ L then L - (n2 : Int) else -1)) ∧ Below w.heap.size w w') := fun L a b w => szRibL_any y n2 c2 L w h2 a b
  unfold instV
  by_cases k1 : (n1 : Int) ≤ L
  · rw [if_pos k1] at HA
    have HB1 : Hid _ := HB.out (L - (n1 : Int)) (by omega) (by omega)
    have d1 : decide (L - (n1 : Int) < 0) = false := by simp; omega
    clear HB h1 h2
    by_cases k2 : (n2 : Int) ≤ L - (n1 : Int)
    · rw [if_pos k2] at HB1
      have d2 : decide (L - (n1 : Int) - (n2 : Int) < 0) = false := by simp; omega
      go_enter Tryz.func65, Tryz.ntmps65
      go_wp2_with fail
      refine (HA.out _).mono ?_
      rintro e w1 ⟨rfl, rfl⟩
      go_wp2_with fail
      refine (HB1.out _).mono ?_
      rintro e w2 ⟨rfl, hb2⟩
      obtain ⟨-, hB⟩ := box3i hb2
      clear hb2
      go_wp2
      go_ret
      exact ⟨⟨_, rfl, by omega, .inr ⟨by omega, by omega, by omega⟩⟩, hB⟩
    · rw [if_neg k2] at HB1
      go_enter Tryz.func65, Tryz.ntmps65
      go_wp2_with fail
      refine (HA.out _).mono ?_
      rintro e w1 ⟨rfl, rfl⟩
      go_wp2_with fail
      refine (HB1.out _).mono ?_
      rintro e w2 ⟨rfl, hb2⟩
      obtain ⟨-, hB⟩ := box3i hb2
      clear hb2
      go_wp2
      go_ret
      exact ⟨⟨_, rfl, by omega, .inl (by omega)⟩, hB⟩
  · rw [if_neg k1] at HA
    clear HB h1 h2
    go_enter Tryz.func65, Tryz.ntmps65
    go_wp2_with fail
    refine (HA.out _).mono ?_
    rintro e w1 ⟨rfl, rfl⟩
    go_wp2
    go_ret
    exact ⟨⟨_, rfl, by omega, .inl (by omega)⟩, ent_new0 w _⟩
end Go.Proofs.YtcnadobnihbldaaGreat
