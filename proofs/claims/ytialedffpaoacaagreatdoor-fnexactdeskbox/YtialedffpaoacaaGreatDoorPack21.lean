/- Texts that stand on each other, in one file: OpenIf, Ifs, ToIfs, MakeIfs, AppI, OpenRt, Rts, ToRts, ToRib, AppS, EqIfs, EqRts, InstA, UnlikeI, IfacesI, IfacesS, RibR, InstR, OwnO, MarkR, OwnRb, OutD, Took, Told. -/
import Derived.Test.YtialedffpaoacaaGreatDoorPack17
import Derived.Lib.SmallJoins
import Derived.Deep.Slices
import Derived.OwnWalk
import Derived.Test.YtialedffpaoacaaGreatDoorPack10
import Derived.Test.YtialedffpaoacaaGreatDoorPack14
import Derived.Lib.QuietBelow
import Derived.BigQuiet
import Derived.Test.YtialedffpaoacaaGreatDoorTail
/- The laws' own Ifaces handed in: opened. (Written by gen_if.py.) -/
namespace Go.Proofs.YtialedffpaoacaaGreatDoor
open Go.ChangeShapes Go.WideShapes Go.RowKit Go.Deep Go.WideElems Go.Maps Go.Joins

def ifL (f : If) : List Value := [.int .i64 f.d, .int .i64 f.a, .int .i64 f.l, .int .i64 f.c, .bool f.u]
theorem array5i {α : Type} {cs : Array α} (h : cs.size = 5) : ∃ c0 c1 c2 c3 c4, cs = #[c0, c1, c2, c3, c4] := by
  obtain ⟨l⟩ := cs
  match l, h with
  | [c0, c1, c2, c3, c4], _ => exact ⟨c0, c1, c2, c3, c4, rfl⟩
/-- All four numbers of an Iface are of 64 bits. -/
def IfW (f : If) : Prop := (Lit.int .i64 f.d).wf = true ∧ (Lit.int .i64 f.a).wf = true ∧ (Lit.int .i64 f.l).wf = true ∧ (Lit.int .i64 f.c).wf = true
theorem Tryz.cellsIface : Tryz.prog.cellsOf 227 = 5 := by kernel_rfl
theorem Tryz.cellsNetI : Tryz.prog.cellsOf 115 = 2 := by kernel_rfl
theorem Tryz.cellsIntI : Tryz.prog.cellsOf 2 = 1 := by kernel_rfl
theorem Tryz.cellsBoolI : Tryz.prog.cellsOf 4 = 1 := by kernel_rfl
section
variable {H : Type} {enc : TypeId × Value → H} {w : World} {base : Nat} {spare : Nat → Bool} {held : Bool}
set_option maxRecDepth 100000 in
theorem open_if {fuel : Nat} {cs : List Value} {x : DataW H × List MemPlace} (h : DataW.trod enc Tryz.prog w base spare held fuel 227 cs = some x) : ∃ f : If, cs = ifL f ∧ IfW f := by
  obtain ⟨xs, n, _, _, hl, hx, hg⟩ := DataW.trod_struct Tryz.underlying227 h
  rw [Tryz.cellsIface] at hl
  match cs, hl, xs, hx with
  | [c0, c1, c2, c3, c4], _, [y0, y1, y2, y3], _ =>
    have h0 : DataW.trod enc Tryz.prog w base spare held n 2 ((([c0, c1, c2, c3, c4] : List Value).drop 0).take (Tryz.prog.cellsOf 2)) = [y0, y1, y2, y3][0]? := hg 0 _ rfl
    rw [Tryz.cellsIntI] at h0
    replace h0 : DataW.trod enc Tryz.prog w base spare held n 2 [c0] = some y0 := h0
    have h1 : DataW.trod enc Tryz.prog w base spare held n 115 ((([c0, c1, c2, c3, c4] : List Value).drop 1).take (Tryz.prog.cellsOf 115)) = [y0, y1, y2, y3][1]? := hg 1 _ rfl
    rw [Tryz.cellsNetI] at h1
    replace h1 : DataW.trod enc Tryz.prog w base spare held n 115 [c1, c2] = some y1 := h1
    have h2 : DataW.trod enc Tryz.prog w base spare held n 2 ((([c0, c1, c2, c3, c4] : List Value).drop 3).take (Tryz.prog.cellsOf 2)) = [y0, y1, y2, y3][2]? := hg 2 _ rfl
    rw [Tryz.cellsIntI] at h2
    replace h2 : DataW.trod enc Tryz.prog w base spare held n 2 [c3] = some y2 := h2
    have h3 : DataW.trod enc Tryz.prog w base spare held n 4 ((([c0, c1, c2, c3, c4] : List Value).drop 4).take (Tryz.prog.cellsOf 4)) = [y0, y1, y2, y3][3]? := hg 3 _ rfl
    rw [Tryz.cellsBoolI] at h3
    replace h3 : DataW.trod enc Tryz.prog w base spare held n 4 [c4] = some y3 := h3
    obtain ⟨zs, k, _, _, _, hz, hk⟩ := DataW.trod_struct Tryz.underlying115 h1
    match zs, hz with
    | [z0, z1], _ =>
      have k0 : DataW.trod enc Tryz.prog w base spare held k 2 ((([c1, c2] : List Value).drop 0).take (Tryz.prog.cellsOf 2)) = [z0, z1][0]? := hk 0 _ rfl
      rw [Tryz.cellsIntI] at k0
      replace k0 : DataW.trod enc Tryz.prog w base spare held k 2 [c1] = some z0 := k0
      have k1 : DataW.trod enc Tryz.prog w base spare held k 2 ((([c1, c2] : List Value).drop 1).take (Tryz.prog.cellsOf 2)) = [z0, z1][1]? := hk 1 _ rfl
      rw [Tryz.cellsIntI] at k1
      replace k1 : DataW.trod enc Tryz.prog w base spare held k 2 [c2] = some z1 := k1
      obtain ⟨d, ed, _, wd⟩ := DataW.trod_int Tryz.underlying2 h0
      obtain ⟨a, ea, _, wa⟩ := DataW.trod_int Tryz.underlying2 k0
      obtain ⟨l, el, _, wl⟩ := DataW.trod_int Tryz.underlying2 k1
      obtain ⟨c, ec, _, wc⟩ := DataW.trod_int Tryz.underlying2 h2
      obtain ⟨u, eu, _⟩ := DataW.trod_bool Tryz.underlying4 h3
      simp only [List.cons.injEq, and_true] at ed ea el ec eu
      subst ed ea el ec eu
      exact ⟨⟨d, a, l, c, u⟩, rfl, wd, wa, wl, wc⟩
set_option maxRecDepth 100000 in
theorem open_ifV {r : Reach} {b0 : Nat} {v : Value} {d : DataW H} {p : List MemPlace} (hv : Value.okWide Tryz.prog w r b0 227 v) (h : DataW.Trod enc Tryz.prog w base spare held 227 v d p) :
    ∃ f : If, v = ifV f ∧ IfW f := by
  obtain ⟨cs, rfl, hsz⟩ := okWide_struct Tryz.underlying227 hv
  obtain ⟨c0, c1, c2, c3, c4, rfl⟩ := array5i (hsz.trans Tryz.cellsIface)
  obtain ⟨fuel, hf⟩ := h
  obtain ⟨f, he, hw⟩ := open_if hf
  refine ⟨f, ?_, hw⟩
  simp only [Value.cells, ifL] at he
  simp only [List.cons.injEq, and_true] at he
  obtain ⟨rfl, rfl, rfl, rfl, rfl⟩ := he
  rfl
end
end Go.Proofs.YtialedffpaoacaaGreatDoor
/- Lists of Ifaces in memory. (Written by gen_ifs.py.) -/
namespace Go.Proofs.YtialedffpaoacaaGreatDoor
open Go.RowKit Go.Sort

def rowI (rs : List If) : List Value := rs.flatMap ifL
theorem ifL_length (r : If) : (ifL r).length = 5 := rfl
theorem rowI_length (rs : List If) : (rowI rs).length = 5 * rs.length := by
  induction rs with
  | nil => rfl
  | cons e es ih => simp only [rowI, List.flatMap_cons, List.length_append, List.length_cons] at ih ⊢; rw [ih, ifL_length]; omega
theorem rowI_append (a b : List If) : rowI (a ++ b) = rowI a ++ rowI b := by simp [rowI]
theorem rowI_cons (e : If) (es : List If) : rowI (e :: es) = ifL e ++ rowI es := rfl
theorem rowI_get (es : List If) (i k : Nat) (hi : i < es.length) (hk : k < 5) : (rowI es)[i * 5 + k]? = (ifL es[i])[k]? := by
  induction es generalizing i with
  | nil => simp at hi
  | cons e es ih =>
    rw [rowI_cons]
    match i with
    | 0 => rw [Nat.zero_mul, Nat.zero_add, List.getElem?_append_left (by rw [ifL_length]; omega)]; rfl
    | i + 1 =>
      rw [List.getElem?_append_right (by rw [ifL_length]; omega), ifL_length, show (i + 1) * 5 + k - 5 = i * 5 + k by omega, ih i (by simpa using hi)]
      rfl
theorem rowI_one (es : List If) : ∀ u ∈ rowI es, u.oneCell' = true := by
  intro u hu
  simp only [rowI, List.mem_flatMap, ifL, List.mem_cons, List.not_mem_nil, or_false] at hu
  obtain ⟨e, _, h⟩ := hu
  rcases h with h | h | h | h | h <;> (rw [h]; rfl)
/-- The slice (p, rs.length) holds the Ifaces rs. -/
def IfsIn (w : World) (p : Option Addr) (rs : List If) : Prop := rs = [] ∨ ∃ g, p = some ⟨g, 0, none⟩ ∧ g < w.heap.size ∧ ∀ j u, (rowI rs)[j]? = some u → w.cell? ⟨g, j, none⟩ = some u
theorem IfsIn.below {w w' : World} {p : Option Addr} {rs : List If} (h : IfsIn w p rs) (hb : Below w.heap.size w w') : IfsIn w' p rs := by
  rcases h with h | ⟨g, hp, hg, hc⟩
  · exact .inl h
  · refine .inr ⟨g, hp, by have := hb.size; omega, fun j u hj => ?_⟩
    rw [hb.cell (p := ⟨g, j, none⟩) hg]
    exact hc j u hj
theorem IfsIn.alloc {w : World} {p : Option Addr} {rs : List If} (h : IfsIn w p rs) (o : Obj) : IfsIn (w.alloc o) p rs := h.below (ent_new0 w o)
theorem IfsIn.at {w : World} {p : Option Addr} {rs : List If} (h : IfsIn w p rs) (i : Nat) (hi : i < rs.length) : ∃ g d a l c u, p = some ⟨g, 0, none⟩ ∧ g < w.heap.size ∧ rs[i] = ⟨d, a, l, c, u⟩ ∧ w.cell? ⟨g, i * 5, none⟩ = some (.int .i64 d) ∧ w.cell? ⟨g, i * 5 + 1, none⟩ = some (.int .i64 a) ∧ w.cell? ⟨g, i * 5 + 2, none⟩ = some (.int .i64 l) ∧ w.cell? ⟨g, i * 5 + 3, none⟩ = some (.int .i64 c) ∧ w.cell? ⟨g, i * 5 + 4, none⟩ = some (.bool u) := by
  rcases h with rfl | ⟨g, hp, hg, hc⟩
  · simp at hi
  · exact ⟨g, rs[i].d, rs[i].a, rs[i].l, rs[i].c, rs[i].u, hp, hg, rfl, hc _ _ (rowI_get rs i 0 hi (by omega)), hc _ _ (rowI_get rs i 1 hi (by omega)), hc _ _ (rowI_get rs i 2 hi (by omega)), hc _ _ (rowI_get rs i 3 hi (by omega)), hc _ _ (rowI_get rs i 4 hi (by omega))⟩
theorem ifsIn_row {w : World} {g : Nat} {t : TypeId} {rs : List If} (h : Row w g t (rowI rs)) : IfsIn w (some ⟨g, 0, none⟩) rs := .inr ⟨g, rfl, h.lt, fun j _ hj => (h.cell j).trans hj⟩
end Go.Proofs.YtialedffpaoacaaGreatDoor
/- The laws' own lists of Ifaces: opened. (Written by gen_ifs.py.) -/
namespace Go.Proofs.YtialedffpaoacaaGreatDoor
open Go.ChangeShapes Go.WideShapes Go.RowKit Go.Sort Go.Deep Go.Joins

/-- The slice (x, len) that was handed in holds the Ifaces rs. -/
def ArgI (w : World) (x : Option Addr) (len : Nat) (rs : List If) : Prop := rs.length = len ∧ len ≤ maxLen ∧ (∀ e ∈ rs, IfW e) ∧ ∀ i, (h : i < rs.length) → ∃ p, x = some p ∧ w.cell? (p.add (i * 5)) = some (.int .i64 rs[i].d) ∧ w.cell? (p.add (i * 5 + 1)) = some (.int .i64 rs[i].a) ∧ w.cell? (p.add (i * 5 + 2)) = some (.int .i64 rs[i].l) ∧ w.cell? (p.add (i * 5 + 3)) = some (.int .i64 rs[i].c) ∧ w.cell? (p.add (i * 5 + 4)) = some (.bool rs[i].u)
theorem ArgI.below {w w' : World} {x : Option Addr} {len : Nat} {rs : List If} (h : ArgI w x len rs) (hb : Below w.heap.size w w') : ArgI w' x len rs := by
  obtain ⟨h1, h2, h3, h4⟩ := h
  refine ⟨h1, h2, h3, fun i hi => ?_⟩
  obtain ⟨p, hp, c0, c1, c2, c3, c4⟩ := h4 i hi
  have hk : ∀ k v, w.cell? (p.add k) = some v → w'.cell? (p.add k) = some v := fun k v hv => by rw [hb.cell (World.block_lt_of_cell? w _ hv)]; exact hv
  exact ⟨p, hp, hk _ _ c0, hk _ _ c1, hk _ _ c2, hk _ _ c3, hk _ _ c4⟩
theorem addr_moreI (p : Addr) (m j : Nat) (hj : j ≠ 0) : p.add (m + j) = ⟨(p.add m).block, (p.add m).off + j, none⟩ := by
  rw [← Addr.add_add]
  generalize p.add m = q
  unfold Addr.add
  rw [if_neg hj]
theorem ArgI.at {w : World} {x : Option Addr} {len : Nat} {rs : List If} (h : ArgI w x len rs) (i : Nat) (hi : i < rs.length) : ∃ p d a l c u, x = some p ∧ rs[i] = ⟨d, a, l, c, u⟩ ∧ w.cell? (p.add (i * 5)) = some (.int .i64 d) ∧ w.cell? ⟨(p.add (i * 5)).block, (p.add (i * 5)).off + 1, none⟩ = some (.int .i64 a) ∧ w.cell? ⟨(p.add (i * 5)).block, (p.add (i * 5)).off + 2, none⟩ = some (.int .i64 l) ∧ w.cell? ⟨(p.add (i * 5)).block, (p.add (i * 5)).off + 3, none⟩ = some (.int .i64 c) ∧ w.cell? ⟨(p.add (i * 5)).block, (p.add (i * 5)).off + 4, none⟩ = some (.bool u) := by
  obtain ⟨p, hp, c0, c1, c2, c3, c4⟩ := h.2.2.2 i hi
  rw [addr_moreI _ _ _ (by omega)] at c1 c2 c3 c4
  exact ⟨p, _, _, _, _, _, hp, rfl, c0, c1, c2, c3, c4⟩
section
variable {H : Type} {enc : TypeId × Value → H} {w : World} {base : Nat} {spare : Nat → Bool} {held : Bool}
set_option maxRecDepth 100000 in
theorem open_ifs {fuel : Nat} {v : Value} {x : DataW H × List MemPlace} (h : DataW.trod enc Tryz.prog w base spare held fuel 83 [v] = some x) : ∃ y len cap rs, v = .slice y len cap ∧ ArgI w y len rs := by
  rcases open_slice Tryz.underlying83 h with ⟨h0, _⟩ | ⟨a, len, cap, m, n, D, Pl, h0, hb, hl, hm, hmm, _, hx⟩
  · simp only [List.cons.injEq, and_true] at h0
    exact ⟨none, 0, 0, [], h0, rfl, Nat.zero_le _, by simp, fun i hi => absurd hi (by simp)⟩
  · simp only [List.cons.injEq, and_true] at h0
    have hlm : len ≤ m := by rw [hmm]; split <;> omega
    have each : ∀ i, i < m → ∃ e : If, IfW e ∧ w.cell? (a.add (i * 5)) = some (.int .i64 e.d) ∧ w.cell? (a.add (i * 5 + 1)) = some (.int .i64 e.a) ∧ w.cell? (a.add (i * 5 + 2)) = some (.int .i64 e.l) ∧ w.cell? (a.add (i * 5 + 3)) = some (.int .i64 e.c) ∧ w.cell? (a.add (i * 5 + 4)) = some (.bool e.u) := by
      intro i hi
      obtain ⟨cs', h1, h2⟩ := hx i hi
      rw [Tryz.cellsIface] at h1
      obtain ⟨e, rfl, hw⟩ := open_if h2
      obtain ⟨_, _, hcell⟩ := World.cells?_some h1
      have hadd : ∀ j k, (a.add j).add k = a.add (j + k) := fun j k => by
        unfold Addr.add
        by_cases hj : j = 0
        · subst hj; by_cases hk : k = 0 <;> simp [hk]
        · by_cases hk : k = 0
          · simp [hj, hk]
          · simp [hj, hk, Nat.add_assoc]
      refine ⟨e, hw, ?_⟩
      have k0 := hcell 0 (by omega)
      have k1 := hcell 1 (by omega)
      have k2 := hcell 2 (by omega)
      have k3 := hcell 3 (by omega)
      have k4 := hcell 4 (by omega)
      simp only [hadd, Nat.add_zero, ifL] at k0 k1 k2 k3 k4
      exact ⟨by simpa using k0, by simpa using k1, by simpa using k2, by simpa using k3, by simpa using k4⟩
    obtain ⟨E, hE⟩ := choose_lt (α := If) (p := fun i e => IfW e ∧ w.cell? (a.add (i * 5)) = some (.int .i64 e.d) ∧ w.cell? (a.add (i * 5 + 1)) = some (.int .i64 e.a) ∧ w.cell? (a.add (i * 5 + 2)) = some (.int .i64 e.l) ∧ w.cell? (a.add (i * 5 + 3)) = some (.int .i64 e.c) ∧ w.cell? (a.add (i * 5 + 4)) = some (.bool e.u)) each
    refine ⟨some a, len, cap, (List.range len).map E, h0, by simp, by omega, ?_, ?_⟩
    · intro e he
      simp only [List.mem_map, List.mem_range] at he
      obtain ⟨i, hi, rfl⟩ := he
      exact (hE i (by omega)).1
    · intro i hi
      simp only [List.length_map, List.length_range] at hi
      refine ⟨a, rfl, ?_⟩
      simp only [List.getElem_map, List.getElem_range]
      exact (hE i (by omega)).2
end
end Go.Proofs.YtialedffpaoacaaGreatDoor
/- The laws' own lists of Ifaces measured and handed over. (Written by gen_ifs.py.) -/
namespace Go.Proofs.YtialedffpaoacaaGreatDoor
open Go.RowKit Go.Sort

def fiveI (w : World) (g o : Nat) (x0 x1 x2 x3 x4 : Value) : World := (((((w.setCell ⟨g, o, none⟩ x0).setCell ⟨g, o + 1, none⟩ x1).setCell ⟨g, o + 2, none⟩ x2).setCell ⟨g, o + 3, none⟩ x3).setCell ⟨g, o + 4, none⟩ x4)
theorem fiveI_below {B : Nat} {w0 w : World} (h : Below B w0 w) (g o : Nat) (hg : B ≤ g) (x0 x1 x2 x3 x4 : Value) : Below B w0 (fiveI w g o x0 x1 x2 x3 x4) := (((((h.setCell (p := ⟨g, o, none⟩) hg x0).setCell (p := ⟨g, o + 1, none⟩) hg x1).setCell (p := ⟨g, o + 2, none⟩) hg x2).setCell (p := ⟨g, o + 3, none⟩) hg x3).setCell (p := ⟨g, o + 4, none⟩) hg x4)
theorem fiveI_row {w : World} {g : Nat} {t : TypeId} {l : List Value} (h : Row w g t l) (o : Nat) (x0 x1 x2 x3 x4 : Value) : Row (fiveI w g o x0 x1 x2 x3 x4) g t (((((l.set (o) x0).set (o + 1) x1).set (o + 2) x2).set (o + 3) x3).set (o + 4) x4) := (((((h.set (o) x0).set (o + 1) x1).set (o + 2) x2).set (o + 3) x3).set (o + 4) x4)
theorem fiveI_other {w : World} {b g : Nat} {t : TypeId} {l : List Value} (h : Row w b t l) (hne : b ≠ g) (o : Nat) (x0 x1 x2 x3 x4 : Value) : Row (fiveI w g o x0 x1 x2 x3 x4) b t l := (((((h.other (o) x0 hne).other (o + 1) x1 hne).other (o + 2) x2 hne).other (o + 3) x3 hne).other (o + 4) x4 hne)
theorem set5i (A R : List Value) (k : Nat) (hA : A.length = k * 5) (z0 z1 z2 z3 z4 x0 x1 x2 x3 x4 : Value) : ((((((A ++ ([z0, z1, z2, z3, z4] ++ R)).set (k * 5) x0).set (k * 5 + 1) x1).set (k * 5 + 2) x2).set (k * 5 + 3) x3).set (k * 5 + 4) x4) = A ++ ([x0, x1, x2, x3, x4] ++ R) := by
  have e : ∀ (L : List Value) (j : Nat) (x : Value), (A ++ L).set (k * 5 + j) x = A ++ L.set j x := fun L j x => by
    rw [List.set_append, if_neg (by omega), hA, Nat.add_sub_cancel_left]
  have e0 : ∀ (L : List Value) (x : Value), (A ++ L).set (k * 5) x = A ++ L.set 0 x := fun L x => e L 0 x
  rw [e0, e, e, e, e]
  rfl
theorem Row.someI {w : World} {g : Nat} {t : TypeId} {l : List Value} (h : Row w g t l) (k : Nat) (hk : k < l.length) : ∃ v, w.cell? ⟨g, k, none⟩ = some v := ⟨l[k], by rw [h.cell, List.getElem?_eq_getElem hk]⟩
theorem Tryz.infoI : (Tryz.prog.info? 72).map (fun i => (i.zero, i.size, i.bytes)) = some (some (.agg #[.int .i64 0, .int .i64 0, .int .i64 0, .int .i64 0, .bool false]), 5, 40) := by kernel_rfl
def zeroIf : If := ⟨0, 0, 0, 0, false⟩
theorem rowI_zero_get (n i : Nat) (h : i < n * 5) : (rowI (List.replicate n zeroIf))[i]? = some (if i % 5 = 4 then .bool false else .int .i64 0) := by
  have hi : i / 5 < (List.replicate n zeroIf).length := by simp; omega
  have := rowI_get (List.replicate n zeroIf) (i / 5) (i % 5) hi (by omega)
  rw [show i / 5 * 5 + i % 5 = i by omega] at this
  rw [this, List.getElem_replicate]
  have h9 : i % 5 = 0 ∨ i % 5 = 1 ∨ i % 5 = 2 ∨ i % 5 = 3 ∨ i % 5 = 4 := by omega
  rcases h9 with h | h | h | h | h <;> (rw [h]; rfl)
theorem made_zeroI (n : Nat) : (madeCells (Value.agg #[.int .i64 0, .int .i64 0, .int .i64 0, .int .i64 0, .bool false]).cells (n * 5)).toList = rowI (List.replicate n zeroIf) := by
  apply List.ext_getElem?
  intro i
  by_cases h : i < n * 5
  · rw [rowI_zero_get n i h]
    simp only [madeCells, Value.cells, Array.toList_map, List.getElem?_map]
    have h9 : i % 5 = 0 ∨ i % 5 = 1 ∨ i % 5 = 2 ∨ i % 5 = 3 ∨ i % 5 = 4 := by omega
    rcases h9 with h9 | h9 | h9 | h9 | h9 <;> simp [h9, h]
  · rw [List.getElem?_eq_none (by simp [madeCells]; omega), List.getElem?_eq_none (by rw [rowI_length]; simp; omega)]
set_option maxRecDepth 100000 in
/-- 'make([]Iface, n)'. -/
theorem wpList_make_ifs {w : World} {ops : Array Oper} {rest : List Oper} {o : Oper} {a : Act} {Q : Exit → Act → World → Prop}
    (hgd : o.guard = none) (l c : Operand) (hop : o.op = Op.makeSlice 46 l c)
    (L : Int) (n : Nat) (hl : a.eval l = .int .i64 L) (hc : a.eval c = .int .i64 L) (hL : L = (n : Int)) (hn : n ≤ 100000000)
    (B : Nat) (w0 : World) (hb : Below B w0 w) (hB : B ≤ w.heap.size)
    (h : ∀ w', Row w' w.heap.size 72 (rowI (List.replicate n zeroIf)) → Below B w0 w' → wpList Tryz.prog ops Q rest (a.put o.dst (.slice (some ⟨w.heap.size, 0, none⟩) n n)) w') : wpList Tryz.prog ops Q (o :: rest) a w := by
  obtain ⟨i0, hi0, hz0, hz1, hz2⟩ := info_parts Tryz.infoI
  refine wpList_make_full w hgd l c 46 hop B 72 i0 _ 5 Tryz.underlying46 hi0 hz0 hz1 .i64 .i64 L L n hl hc hL hL (by rw [hz2]; omega) (by unfold maxLen; omega) hB ?_
  intro w' hown hgrow
  rcases hown.2 with ⟨h', _⟩ | ⟨g, cap, cur, h', hbg, hg, hnc, hcm, hcs, htake⟩
  · simp at h'
  · simp only [Value.slice.injEq, Option.some.injEq, Addr.mk.injEq, and_true, true_and] at h'
    obtain ⟨rfl, rfl⟩ := h'
    refine h w' ?_ (hb.trans ((Below.refl B w).grown hgrow hB (by intro k hk; cases hk)))
    unfold Row
    rw [hg, ← made_zeroI, ← htake, List.take_of_length_le (by simp [hcs])]
theorem rowI_set (es : List If) (k : Nat) (hk : k < es.length) (d a l c : Int) (u : Bool) (he : es[k] = ⟨d, a, l, c, u⟩) :
    ((((((rowI (es.take k ++ List.replicate (es.length - k) zeroIf)).set (k * 5) (.int .i64 d)).set (k * 5 + 1) (.int .i64 a)).set (k * 5 + 2) (.int .i64 l)).set (k * 5 + 3) (.int .i64 c)).set (k * 5 + 4) (.bool u)) = rowI (es.take (k + 1) ++ List.replicate (es.length - (k + 1)) zeroIf) := by
  have e1 : es.length - k = (es.length - (k + 1)) + 1 := by omega
  rw [e1, List.replicate_succ, rowI_append, rowI_cons, List.take_succ_eq_append_getElem hk, List.append_assoc, rowI_append, List.singleton_append, rowI_cons, he]
  exact set5i _ _ k (by rw [rowI_length, List.length_take]; omega) _ _ _ _ _ _ _ _ _ _
set_option maxRecDepth 100000 in
theorem szIfaceS_any (x : Option Addr) (len cap : Nat) (w : World) (hl : len ≤ maxLen) : Calls Tryz.prog 120 #[.slice x len cap, .int .i64 1048576] w fun e w' => e = .returned (.int .i64 (if len ≤ 1048576 then 1048576 - (len : Int) else -1)) ∧ w = w' := by
  unfold maxLen at hl
  by_cases h : len ≤ 1048576
  · rw [if_pos h]
    have d : decide (1048576 - (len : Int) < 0) = false := by simp; omega
    go_enter Tryz.func120, Tryz.ntmps120
    go_wp2
    go_ret
    exact ⟨rfl, rfl⟩
  · rw [if_neg h]
    have d : decide (1048576 - (len : Int) < 0) = true := by simp; omega
    go_enter Tryz.func120, Tryz.ntmps120
    go_wp2
    go_ret
    exact ⟨rfl, rfl⟩
set_option maxRecDepth 100000 in
theorem toIfaceS_any (x : Option Addr) (cap : Nat) (es : List If) (w : World) (h : ArgI w x es.length es) (hn : es.length ≤ 1048576) :
    Calls Tryz.prog 129 #[.slice x es.length cap] w fun e w' => ∃ g, e = .returned (.slice (some ⟨g, 0, none⟩) es.length es.length) ∧ w.heap.size ≤ g ∧ Row w' g 72 (rowI es) ∧ Below w.heap.size w w' := by
  have HE : Hid (∀ e w, Calls Tryz.prog 174 #[ifV e] w fun r w' => r = .returned (ifV e) ∧ Below w.heap.size w w') := toIface_any
  have HX : Hid (ArgI w x es.length es) := h
  clear h
  go_enter Tryz.func129, Tryz.ntmps129
  go_wp2_with (at_make; refine wpList_make_ifs rfl _ _ rfl _ es.length rfl rfl rfl (by omega) w.heap.size w (Below.refl _ _) (Nat.le_refl _) ?_)
  intro w0 hr0 hb0
  have hz : es.take 0 ++ List.replicate (es.length - 0) zeroIf = List.replicate es.length zeroIf := by simp
  rw [← hz] at hr0
  clear hz
  go_wp2_with fail
  go_loopw [4] (fun i wr => ∃ k : Nat, k ≤ es.length ∧ i = .int .i64 k ∧ Row wr w.heap.size 72 (rowI (es.take k ++ List.replicate (es.length - k) zeroIf)) ∧ Below w.heap.size w wr) (fun i _ => es.length - (intOf i).toNat)
  case atStart => exact ⟨0, Nat.zero_le _, rfl, hr0, hb0⟩
  case round =>
    obtain ⟨k, hk, rfl, hr, hb⟩ := hrel
    by_cases hlt : k < es.length
    · obtain ⟨p, d, a, l, c, u, rfl, hek, c0, c1, c2, c3, c4⟩ := (HX.out.below hb).at k hlt
      have HEk : Hid (∀ w, Calls Tryz.prog 174 #[.agg #[.int .i64 d, .int .i64 a, .int .i64 l, .int .i64 c, .bool u]] w fun r w' => r = .returned (.agg #[.int .i64 d, .int .i64 a, .int .i64 l, .int .i64 c, .bool u]) ∧ Below w.heap.size w w') := HE.out ⟨d, a, l, c, u⟩
      have hset := rowI_set es k hlt d a l c u hek
      have HS : Hid _ := hset
      clear hset HE hek hr0 hb0
      go_wp2_with fail
      refine (HEk.out _).mono ?_
      rintro e w1 ⟨rfl, hb1⟩
      have hr1 := hr.below hb1 hr.lt
      have hB1 := hb.trans (hb1.mono hb.size)
      clear c0 c1 c2 c3 c4 hb1 HEk hr hb
      have hlr : (rowI (es.take k ++ List.replicate (es.length - k) zeroIf)).length = es.length * 5 := by rw [rowI_length]; simp; omega
      obtain ⟨z0, hz0⟩ := Row.someI hr1 (k * 5) (by omega)
      obtain ⟨z1, hz1⟩ := Row.someI hr1 (k * 5 + 1) (by omega)
      obtain ⟨z2, hz2⟩ := Row.someI hr1 (k * 5 + 2) (by omega)
      obtain ⟨z3, hz3⟩ := Row.someI hr1 (k * 5 + 3) (by omega)
      obtain ⟨z4, hz4⟩ := Row.someI hr1 (k * 5 + 4) (by omega)
      have f0 := hr1.frozen (k * 5)
      have f1 := hr1.frozen (k * 5 + 1)
      have f2 := hr1.frozen (k * 5 + 2)
      have f3 := hr1.frozen (k * 5 + 3)
      have f4 := hr1.frozen (k * 5 + 4)
      have hr2 := fiveI_row hr1 (k * 5) (.int .i64 d) (.int .i64 a) (.int .i64 l) (.int .i64 c) (.bool u)
      rw [HS.out] at hr2
      have hB2 := fiveI_below hB1 w.heap.size (k * 5) (Nat.le_refl _) (.int .i64 d) (.int .i64 a) (.int .i64 l) (.int .i64 c) (.bool u)
      unfold fiveI at hr2 hB2
      have HH : Hid _ := And.intro hr2 hB2
      clear hr1 hB1 HS hlr hr2 hB2
      go_wp2_with fail
      go_roundw
      case rel => exact ⟨k + 1, hlt, by go_num, HH.out.1, HH.out.2⟩
      case measure => simp [intOf]; omega
    · obtain rfl : k = es.length := by omega
      rw [List.take_length, Nat.sub_self, List.replicate_zero, List.append_nil] at hr
      clear hlt hk
      go_wp2
      go_ret
      exact ⟨_, rfl, Nat.le_refl _, hr, hb⟩
end Go.Proofs.YtialedffpaoacaaGreatDoor
/- Ifaces appended to a list of the call's own; owned lists of Ifaces. (Written by gen_near.py.) -/
namespace Go.Proofs.YtialedffpaoacaaGreatDoor
open Go.RowKit Go.Sort

theorem ownsI_none {w : World} {base : Nat} {v : Value} {n : Nat} {xs : List Value} (h : w.ownsRow base 72 5 v n xs) (ty : TypeId) : (Builtin.append_ #[46, 46] ty #[v, .slice none 0 0]).run Tryz.prog w = .ok v w := by
  obtain ⟨i0, hi0, _, _, _⟩ := info_parts Tryz.infoI
  exact run_append_owned_none w base _ ty 72 i0 5 Tryz.underlying46 hi0 v n xs h
theorem run_append_ifs (w : World) (base : Nat) (v : Value) (ls ms : List If) (q : Option Addr) (c : Nat) (ty : TypeId) (hown : w.ownsRow base 72 5 v ls.length (rowI ls)) (hq0 : q = none → ms = [] ∧ c = 0)
    (hq : ∀ ad, q = some ad → ∀ j u, (rowI ms)[j]? = some u → w.cell? (ad.add j) = some u) (hlen : ls.length + ms.length ≤ 1000000000) (hbase : base ≤ w.heap.size) :
    ∃ v' w', (Builtin.append_ #[46, 46] ty #[v, .slice q ms.length c]).run Tryz.prog w = .ok v' w' ∧ w'.ownsRow base 72 5 v' (ls ++ ms).length (rowI (ls ++ ms)) ∧ Below base w w' := by
  obtain ⟨i0, hi0, hz0, hz1, hz2⟩ := info_parts Tryz.infoI
  cases q with
  | none =>
    obtain ⟨rfl, rfl⟩ := hq0 rfl
    exact ⟨v, w, ownsI_none hown ty, by rw [List.append_nil]; exact hown, Below.refl _ _⟩
  | some ad =>
    obtain ⟨v', w', hr, h2, h3, _⟩ := run_append_own (P := Tryz.prog) w base _ ty 72 i0 _ 5 40 Tryz.underlying46 hi0 hz0 hz1 hz2 rfl (by decide) v ls.length (rowI ls) hown ad ms.length c (rowI ms) (by rw [rowI_length]; omega) (hq ad rfl) (rowI_one ms) (by unfold maxLen; omega) (by omega) hbase
    refine ⟨v', w', hr, ?_, (Below.refl base w).grown h3 hbase fun k hk => (World.ownsRow.lt hown k hk).1⟩
    rw [List.length_append, rowI_append]
    exact h2
theorem ifsIn_none {w : World} {p : Option Addr} {rs : List If} (h : IfsIn w p rs) : p = none → rs = [] := by
  rintro rfl
  rcases h with h | ⟨g, e, _⟩
  · exact h
  · cases e
theorem ownsI_shape {w : World} {base n : Nat} {v : Value} {xs : List Value} (h : w.ownsRow base 72 5 v n xs) : ∃ q c, v = .slice q n c := by
  rcases h.2 with ⟨h1, h2⟩ | ⟨g, cap, cur, h1, _⟩
  · exact ⟨none, 0, by rw [h1, h2]⟩
  · exact ⟨_, _, h1⟩
theorem ownsI_below {w w' : World} {base n : Nat} {v : Value} {xs : List Value} (h : w.ownsRow base 72 5 v n xs) (hb : Below w.heap.size w w') : w'.ownsRow base 72 5 v n xs :=
  World.ownsRow.kept h (row := none) ⟨hb.os, hb.tape, hb.output, hb.size, fun k hk _ => hb.block k hk⟩ (by cases v.ownBlock <;> simp)
theorem ownsI_mono {w : World} {base base' n : Nat} {v : Value} {xs : List Value} (h : w.ownsRow base 72 5 v n xs) (hb : base' ≤ base) : w.ownsRow base' 72 5 v n xs := by
  rcases h.2 with ⟨h1, h2⟩ | ⟨g, cap, cur, h1, h2, h3, h4, h5, h6, h7⟩
  · exact ⟨h.1, .inl ⟨h1, h2⟩⟩
  · exact ⟨h.1, .inr ⟨g, cap, cur, h1, by omega, h3, h4, h5, h6, h7⟩⟩
theorem ownsI_opened {w : World} {base : Nat} {p : Option Addr} {cv : Nat} {es : List If} (h : w.ownsRow base 72 5 (.slice p es.length cv) es.length (rowI es)) : es = [] ∨ ∃ g rest, p = some ⟨g, 0, none⟩ ∧ base ≤ g ∧ es.length ≤ cv ∧ cv ≤ maxLen ∧ Row w g 72 (rowI es ++ rest) ∧ (rowI es ++ rest).length = cv * 5 := by
  rcases h.2 with ⟨_, h2⟩ | ⟨g, cap, cur, h1, h2, h3, h4, h5, h6, h7⟩
  · exact .inl (List.length_eq_zero_iff.1 h2)
  · simp only [Value.slice.injEq] at h1
    obtain ⟨rfl, -, rfl⟩ := h1
    refine .inr ⟨g, cur.toList.drop (es.length * 5), rfl, h2, h4, h5, ?_, ?_⟩
    · unfold Row
      rw [← h7, List.take_append_drop]
      simpa using h3
    · rw [← h7, List.take_append_drop]
      simpa using h6
theorem ownsI_shut {w : World} {base g n cv : Nat} {es : List If} {rest : List Value} (hn : n = es.length) (hb : base ≤ g) (h4 : n ≤ cv) (h5 : cv ≤ maxLen) (hr : Row w g 72 (rowI es ++ rest)) (hl : (rowI es ++ rest).length = cv * 5) : w.ownsRow base 72 5 (.slice (some ⟨g, 0, none⟩) n cv) n (rowI es) := by
  subst hn
  refine ⟨by rw [rowI_length]; omega, .inr ⟨g, cv, (rowI es ++ rest).toArray, rfl, hb, hr, h4, h5, by simpa using hl, ?_⟩⟩
  simp only [List.take_append_of_le_length (show es.length * 5 ≤ (rowI es).length by rw [rowI_length]; omega)]
  rw [List.take_of_length_le (by rw [rowI_length]; omega)]
theorem ifsIn_rest {w : World} {g : Nat} {t : TypeId} {es : List If} {rest : List Value} (h : Row w g t (rowI es ++ rest)) : IfsIn w (some ⟨g, 0, none⟩) es := .inr ⟨g, rfl, h.lt, fun j u hj => by rw [h.cell, List.getElem?_append_left (List.getElem?_eq_some_iff.1 hj).1]; exact hj⟩
theorem ownsI_in {w : World} {base : Nat} {p : Option Addr} {n cv : Nat} {es : List If} (hn : n = es.length) (h : w.ownsRow base 72 5 (.slice p n cv) n (rowI es)) : IfsIn w p es := by
  subst hn
  rcases ownsI_opened h with h0 | ⟨g, rest, rfl, -, -, -, hr, -⟩
  · exact .inl h0
  · exact ifsIn_rest hr
end Go.Proofs.YtialedffpaoacaaGreatDoor
/- The laws' own routes, and lists of them, handed in: opened. (Written by gen_rts.py.) -/
namespace Go.Proofs.YtialedffpaoacaaGreatDoor
open Go.ChangeShapes Go.WideShapes Go.RowKit Go.Deep Go.WideElems Go.Maps Go.Joins

def rtL (r : Rt) : List Value := [.int .i64 r.a, .int .i64 r.l, .int .i64 r.m, .int .i64 r.n, .int .i64 r.i, .int .i64 r.t, .int .i64 r.u, .int .i64 r.b, .bool r.c]
theorem rtL_rtA (r : Rt) : (rtA r).toList = rtL r := rfl
theorem array9 {α : Type} {cs : Array α} (h : cs.size = 9) : ∃ c0 c1 c2 c3 c4 c5 c6 c7 c8, cs = #[c0, c1, c2, c3, c4, c5, c6, c7, c8] := by
  obtain ⟨l⟩ := cs
  match l, h with
  | [c0, c1, c2, c3, c4, c5, c6, c7, c8], _ => exact ⟨c0, c1, c2, c3, c4, c5, c6, c7, c8, rfl⟩
/-- All eight numbers of a route are of 64 bits. -/
def RtW (r : Rt) : Prop := (Lit.int .i64 r.a).wf = true ∧ (Lit.int .i64 r.l).wf = true ∧ (Lit.int .i64 r.m).wf = true ∧ (Lit.int .i64 r.n).wf = true ∧ (Lit.int .i64 r.i).wf = true ∧ (Lit.int .i64 r.t).wf = true ∧ (Lit.int .i64 r.u).wf = true ∧ (Lit.int .i64 r.b).wf = true
theorem Tryz.cellsRoute : Tryz.prog.cellsOf 244 = 9 := by kernel_rfl
theorem Tryz.cellsNetR : Tryz.prog.cellsOf 115 = 2 := by kernel_rfl
theorem Tryz.cellsIntR : Tryz.prog.cellsOf 2 = 1 := by kernel_rfl
theorem Tryz.cellsBoolR : Tryz.prog.cellsOf 4 = 1 := by kernel_rfl
section
variable {H : Type} {enc : TypeId × Value → H} {w : World} {base : Nat} {spare : Nat → Bool} {held : Bool}
set_option maxRecDepth 100000 in
theorem open_rt {fuel : Nat} {cs : List Value} {x : DataW H × List MemPlace} (h : DataW.trod enc Tryz.prog w base spare held fuel 244 cs = some x) : ∃ r : Rt, cs = rtL r ∧ RtW r := by
  obtain ⟨xs, n, _, _, hl, hx, hg⟩ := DataW.trod_struct Tryz.underlying244 h
  rw [Tryz.cellsRoute] at hl
  match cs, hl, xs, hx with
  | [c0, c1, c2, c3, c4, c5, c6, c7, c8], _, [y0, y1, y2, y3, y4, y5, y6, y7], _ =>
    have h0 : DataW.trod enc Tryz.prog w base spare held n 115 ((([c0, c1, c2, c3, c4, c5, c6, c7, c8] : List Value).drop 0).take (Tryz.prog.cellsOf 115)) = [y0, y1, y2, y3, y4, y5, y6, y7][0]? := hg 0 _ rfl
    rw [Tryz.cellsNetR] at h0
    replace h0 : DataW.trod enc Tryz.prog w base spare held n 115 [c0, c1] = some y0 := h0
    have h1 : DataW.trod enc Tryz.prog w base spare held n 2 ((([c0, c1, c2, c3, c4, c5, c6, c7, c8] : List Value).drop 2).take (Tryz.prog.cellsOf 2)) = [y0, y1, y2, y3, y4, y5, y6, y7][1]? := hg 1 _ rfl
    rw [Tryz.cellsIntR] at h1
    replace h1 : DataW.trod enc Tryz.prog w base spare held n 2 [c2] = some y1 := h1
    have h2 : DataW.trod enc Tryz.prog w base spare held n 2 ((([c0, c1, c2, c3, c4, c5, c6, c7, c8] : List Value).drop 3).take (Tryz.prog.cellsOf 2)) = [y0, y1, y2, y3, y4, y5, y6, y7][2]? := hg 2 _ rfl
    rw [Tryz.cellsIntR] at h2
    replace h2 : DataW.trod enc Tryz.prog w base spare held n 2 [c3] = some y2 := h2
    have h3 : DataW.trod enc Tryz.prog w base spare held n 2 ((([c0, c1, c2, c3, c4, c5, c6, c7, c8] : List Value).drop 4).take (Tryz.prog.cellsOf 2)) = [y0, y1, y2, y3, y4, y5, y6, y7][3]? := hg 3 _ rfl
    rw [Tryz.cellsIntR] at h3
    replace h3 : DataW.trod enc Tryz.prog w base spare held n 2 [c4] = some y3 := h3
    have h4 : DataW.trod enc Tryz.prog w base spare held n 2 ((([c0, c1, c2, c3, c4, c5, c6, c7, c8] : List Value).drop 5).take (Tryz.prog.cellsOf 2)) = [y0, y1, y2, y3, y4, y5, y6, y7][4]? := hg 4 _ rfl
    rw [Tryz.cellsIntR] at h4
    replace h4 : DataW.trod enc Tryz.prog w base spare held n 2 [c5] = some y4 := h4
    have h5 : DataW.trod enc Tryz.prog w base spare held n 2 ((([c0, c1, c2, c3, c4, c5, c6, c7, c8] : List Value).drop 6).take (Tryz.prog.cellsOf 2)) = [y0, y1, y2, y3, y4, y5, y6, y7][5]? := hg 5 _ rfl
    rw [Tryz.cellsIntR] at h5
    replace h5 : DataW.trod enc Tryz.prog w base spare held n 2 [c6] = some y5 := h5
    have h6 : DataW.trod enc Tryz.prog w base spare held n 2 ((([c0, c1, c2, c3, c4, c5, c6, c7, c8] : List Value).drop 7).take (Tryz.prog.cellsOf 2)) = [y0, y1, y2, y3, y4, y5, y6, y7][6]? := hg 6 _ rfl
    rw [Tryz.cellsIntR] at h6
    replace h6 : DataW.trod enc Tryz.prog w base spare held n 2 [c7] = some y6 := h6
    have h7 : DataW.trod enc Tryz.prog w base spare held n 4 ((([c0, c1, c2, c3, c4, c5, c6, c7, c8] : List Value).drop 8).take (Tryz.prog.cellsOf 4)) = [y0, y1, y2, y3, y4, y5, y6, y7][7]? := hg 7 _ rfl
    rw [Tryz.cellsBoolR] at h7
    replace h7 : DataW.trod enc Tryz.prog w base spare held n 4 [c8] = some y7 := h7
    obtain ⟨zs, k, _, _, _, hz, hk⟩ := DataW.trod_struct Tryz.underlying115 h0
    match zs, hz with
    | [z0, z1], _ =>
      have k0 : DataW.trod enc Tryz.prog w base spare held k 2 ((([c0, c1] : List Value).drop 0).take (Tryz.prog.cellsOf 2)) = [z0, z1][0]? := hk 0 _ rfl
      rw [Tryz.cellsIntR] at k0
      replace k0 : DataW.trod enc Tryz.prog w base spare held k 2 [c0] = some z0 := k0
      have k1 : DataW.trod enc Tryz.prog w base spare held k 2 ((([c0, c1] : List Value).drop 1).take (Tryz.prog.cellsOf 2)) = [z0, z1][1]? := hk 1 _ rfl
      rw [Tryz.cellsIntR] at k1
      replace k1 : DataW.trod enc Tryz.prog w base spare held k 2 [c1] = some z1 := k1
      obtain ⟨a, ea, _, wa⟩ := DataW.trod_int Tryz.underlying2 k0
      obtain ⟨l, el, _, wl⟩ := DataW.trod_int Tryz.underlying2 k1
      obtain ⟨m, em, _, wm⟩ := DataW.trod_int Tryz.underlying2 h1
      obtain ⟨n, en, _, wn⟩ := DataW.trod_int Tryz.underlying2 h2
      obtain ⟨i, ei, _, wi⟩ := DataW.trod_int Tryz.underlying2 h3
      obtain ⟨t, et, _, wt⟩ := DataW.trod_int Tryz.underlying2 h4
      obtain ⟨u, eu, _, wu⟩ := DataW.trod_int Tryz.underlying2 h5
      obtain ⟨b, eb, _, wb⟩ := DataW.trod_int Tryz.underlying2 h6
      obtain ⟨c, ec, _⟩ := DataW.trod_bool Tryz.underlying4 h7
      simp only [List.cons.injEq, and_true] at ea el em en ei et eu eb ec
      subst ea el em en ei et eu eb ec
      exact ⟨⟨a, l, m, n, i, t, u, b, c⟩, rfl, wa, wl, wm, wn, wi, wt, wu, wb⟩
set_option maxRecDepth 100000 in
theorem open_rtV {r : Reach} {b0 : Nat} {v : Value} {d : DataW H} {p : List MemPlace} (hv : Value.okWide Tryz.prog w r b0 244 v) (h : DataW.Trod enc Tryz.prog w base spare held 244 v d p) :
    ∃ e : Rt, v = rtV e ∧ RtW e := by
  obtain ⟨cs, rfl, hsz⟩ := okWide_struct Tryz.underlying244 hv
  obtain ⟨c0, c1, c2, c3, c4, c5, c6, c7, c8, rfl⟩ := array9 (hsz.trans Tryz.cellsRoute)
  obtain ⟨fuel, hf⟩ := h
  obtain ⟨e, he, hw⟩ := open_rt hf
  refine ⟨e, ?_, hw⟩
  simp only [Value.cells, rtL] at he
  simp only [List.cons.injEq, and_true] at he
  obtain ⟨rfl, rfl, rfl, rfl, rfl, rfl, rfl, rfl, rfl⟩ := he
  rfl
end
end Go.Proofs.YtialedffpaoacaaGreatDoor
/- Lists of routes in memory. (Written by gen_rts.py.) -/
namespace Go.Proofs.YtialedffpaoacaaGreatDoor
open Go.RowKit Go.Sort

def rowR (rs : List Rt) : List Value := rs.flatMap rtL
theorem rtL_length (r : Rt) : (rtL r).length = 9 := rfl
theorem rowR_length (rs : List Rt) : (rowR rs).length = 9 * rs.length := by
  induction rs with
  | nil => rfl
  | cons e es ih => simp only [rowR, List.flatMap_cons, List.length_append, List.length_cons] at ih ⊢; rw [ih, rtL_length]; omega
theorem rowR_append (a b : List Rt) : rowR (a ++ b) = rowR a ++ rowR b := by simp [rowR]
theorem rowR_cons (e : Rt) (es : List Rt) : rowR (e :: es) = rtL e ++ rowR es := rfl
theorem rowR_get (es : List Rt) (i k : Nat) (hi : i < es.length) (hk : k < 9) : (rowR es)[i * 9 + k]? = (rtL es[i])[k]? := by
  induction es generalizing i with
  | nil => simp at hi
  | cons e es ih =>
    rw [rowR_cons]
    match i with
    | 0 => rw [Nat.zero_mul, Nat.zero_add, List.getElem?_append_left (by rw [rtL_length]; omega)]; rfl
    | i + 1 =>
      rw [List.getElem?_append_right (by rw [rtL_length]; omega), rtL_length, show (i + 1) * 9 + k - 9 = i * 9 + k by omega, ih i (by simpa using hi)]
      rfl
theorem rowR_one (es : List Rt) : ∀ u ∈ rowR es, u.oneCell' = true := by
  intro u hu
  simp only [rowR, List.mem_flatMap, rtL, List.mem_cons, List.not_mem_nil, or_false] at hu
  obtain ⟨e, _, h⟩ := hu
  rcases h with h | h | h | h | h | h | h | h | h <;> (rw [h]; rfl)
/-- The slice (p, rs.length) holds the routes rs. -/
def RtsIn (w : World) (p : Option Addr) (rs : List Rt) : Prop := rs = [] ∨ ∃ g, p = some ⟨g, 0, none⟩ ∧ g < w.heap.size ∧ ∀ j u, (rowR rs)[j]? = some u → w.cell? ⟨g, j, none⟩ = some u
theorem RtsIn.below {w w' : World} {p : Option Addr} {rs : List Rt} (h : RtsIn w p rs) (hb : Below w.heap.size w w') : RtsIn w' p rs := by
  rcases h with h | ⟨g, hp, hg, hc⟩
  · exact .inl h
  · refine .inr ⟨g, hp, by have := hb.size; omega, fun j u hj => ?_⟩
    rw [hb.cell (p := ⟨g, j, none⟩) hg]
    exact hc j u hj
theorem RtsIn.alloc {w : World} {p : Option Addr} {rs : List Rt} (h : RtsIn w p rs) (o : Obj) : RtsIn (w.alloc o) p rs := h.below (ent_new0 w o)
theorem RtsIn.at {w : World} {p : Option Addr} {rs : List Rt} (h : RtsIn w p rs) (i : Nat) (hi : i < rs.length) : ∃ g a l m n ii t u b c, p = some ⟨g, 0, none⟩ ∧ g < w.heap.size ∧ rs[i] = ⟨a, l, m, n, ii, t, u, b, c⟩ ∧ w.cell? ⟨g, i * 9, none⟩ = some (.int .i64 a) ∧ w.cell? ⟨g, i * 9 + 1, none⟩ = some (.int .i64 l) ∧ w.cell? ⟨g, i * 9 + 2, none⟩ = some (.int .i64 m) ∧ w.cell? ⟨g, i * 9 + 3, none⟩ = some (.int .i64 n) ∧ w.cell? ⟨g, i * 9 + 4, none⟩ = some (.int .i64 ii) ∧ w.cell? ⟨g, i * 9 + 5, none⟩ = some (.int .i64 t) ∧ w.cell? ⟨g, i * 9 + 6, none⟩ = some (.int .i64 u) ∧ w.cell? ⟨g, i * 9 + 7, none⟩ = some (.int .i64 b) ∧ w.cell? ⟨g, i * 9 + 8, none⟩ = some (.bool c) := by
  rcases h with rfl | ⟨g, hp, hg, hc⟩
  · simp at hi
  · exact ⟨g, rs[i].a, rs[i].l, rs[i].m, rs[i].n, rs[i].i, rs[i].t, rs[i].u, rs[i].b, rs[i].c, hp, hg, rfl, hc _ _ (rowR_get rs i 0 hi (by omega)), hc _ _ (rowR_get rs i 1 hi (by omega)), hc _ _ (rowR_get rs i 2 hi (by omega)), hc _ _ (rowR_get rs i 3 hi (by omega)), hc _ _ (rowR_get rs i 4 hi (by omega)), hc _ _ (rowR_get rs i 5 hi (by omega)), hc _ _ (rowR_get rs i 6 hi (by omega)), hc _ _ (rowR_get rs i 7 hi (by omega)), hc _ _ (rowR_get rs i 8 hi (by omega))⟩
def ribV (p : Option Addr) (n cap : Nat) : Value := .agg #[.slice p n cap]
theorem rtsIn_row {w : World} {g : Nat} {t : TypeId} {rs : List Rt} (h : Row w g t (rowR rs)) : RtsIn w (some ⟨g, 0, none⟩) rs := .inr ⟨g, rfl, h.lt, fun j _ hj => (h.cell j).trans hj⟩
end Go.Proofs.YtialedffpaoacaaGreatDoor
/- The laws' own tables: opened, measured, handed over. (Written by gen_rts.py.) -/
namespace Go.Proofs.YtialedffpaoacaaGreatDoor
open Go.ChangeShapes Go.WideShapes Go.RowKit Go.Sort Go.Deep Go.Joins

/-- The slice (x, len) that was handed in holds the routes rs. -/
def ArgR (w : World) (x : Option Addr) (len : Nat) (rs : List Rt) : Prop := rs.length = len ∧ len ≤ maxLen ∧ (∀ e ∈ rs, RtW e) ∧ ∀ i, (h : i < rs.length) → ∃ p, x = some p ∧ w.cell? (p.add (i * 9)) = some (.int .i64 rs[i].a) ∧ w.cell? (p.add (i * 9 + 1)) = some (.int .i64 rs[i].l) ∧ w.cell? (p.add (i * 9 + 2)) = some (.int .i64 rs[i].m) ∧ w.cell? (p.add (i * 9 + 3)) = some (.int .i64 rs[i].n) ∧ w.cell? (p.add (i * 9 + 4)) = some (.int .i64 rs[i].i) ∧ w.cell? (p.add (i * 9 + 5)) = some (.int .i64 rs[i].t) ∧ w.cell? (p.add (i * 9 + 6)) = some (.int .i64 rs[i].u) ∧ w.cell? (p.add (i * 9 + 7)) = some (.int .i64 rs[i].b) ∧ w.cell? (p.add (i * 9 + 8)) = some (.bool rs[i].c)
theorem ArgR.below {w w' : World} {x : Option Addr} {len : Nat} {rs : List Rt} (h : ArgR w x len rs) (hb : Below w.heap.size w w') : ArgR w' x len rs := by
  obtain ⟨h1, h2, h3, h4⟩ := h
  refine ⟨h1, h2, h3, fun i hi => ?_⟩
  obtain ⟨p, hp, c0, c1, c2, c3, c4, c5, c6, c7, c8⟩ := h4 i hi
  have hk : ∀ k v, w.cell? (p.add k) = some v → w'.cell? (p.add k) = some v := fun k v hv => by rw [hb.cell (World.block_lt_of_cell? w _ hv)]; exact hv
  exact ⟨p, hp, hk _ _ c0, hk _ _ c1, hk _ _ c2, hk _ _ c3, hk _ _ c4, hk _ _ c5, hk _ _ c6, hk _ _ c7, hk _ _ c8⟩
theorem addr_moreR (p : Addr) (m j : Nat) (hj : j ≠ 0) : p.add (m + j) = ⟨(p.add m).block, (p.add m).off + j, none⟩ := by
  rw [← Addr.add_add]
  generalize p.add m = q
  unfold Addr.add
  rw [if_neg hj]
theorem ArgR.at {w : World} {x : Option Addr} {len : Nat} {rs : List Rt} (h : ArgR w x len rs) (i : Nat) (hi : i < rs.length) : ∃ p a l m n ii t u b c, x = some p ∧ rs[i] = ⟨a, l, m, n, ii, t, u, b, c⟩ ∧ w.cell? (p.add (i * 9)) = some (.int .i64 a) ∧ w.cell? ⟨(p.add (i * 9)).block, (p.add (i * 9)).off + 1, none⟩ = some (.int .i64 l) ∧ w.cell? ⟨(p.add (i * 9)).block, (p.add (i * 9)).off + 2, none⟩ = some (.int .i64 m) ∧ w.cell? ⟨(p.add (i * 9)).block, (p.add (i * 9)).off + 3, none⟩ = some (.int .i64 n) ∧ w.cell? ⟨(p.add (i * 9)).block, (p.add (i * 9)).off + 4, none⟩ = some (.int .i64 ii) ∧ w.cell? ⟨(p.add (i * 9)).block, (p.add (i * 9)).off + 5, none⟩ = some (.int .i64 t) ∧ w.cell? ⟨(p.add (i * 9)).block, (p.add (i * 9)).off + 6, none⟩ = some (.int .i64 u) ∧ w.cell? ⟨(p.add (i * 9)).block, (p.add (i * 9)).off + 7, none⟩ = some (.int .i64 b) ∧ w.cell? ⟨(p.add (i * 9)).block, (p.add (i * 9)).off + 8, none⟩ = some (.bool c) := by
  obtain ⟨p, hp, c0, c1, c2, c3, c4, c5, c6, c7, c8⟩ := h.2.2.2 i hi
  rw [addr_moreR _ _ _ (by omega)] at c1 c2 c3 c4 c5 c6 c7 c8
  exact ⟨p, _, _, _, _, _, _, _, _, _, hp, rfl, c0, c1, c2, c3, c4, c5, c6, c7, c8⟩
section
variable {H : Type} {enc : TypeId × Value → H} {w : World} {base : Nat} {spare : Nat → Bool} {held : Bool}
set_option maxRecDepth 100000 in
theorem open_rts {fuel : Nat} {v : Value} {x : DataW H × List MemPlace} (h : DataW.trod enc Tryz.prog w base spare held fuel 84 [v] = some x) : ∃ y len cap rs, v = .slice y len cap ∧ ArgR w y len rs := by
  rcases open_slice Tryz.underlying84 h with ⟨h0, _⟩ | ⟨a, len, cap, m, n, D, Pl, h0, hb, hl, hm, hmm, _, hx⟩
  · simp only [List.cons.injEq, and_true] at h0
    exact ⟨none, 0, 0, [], h0, rfl, Nat.zero_le _, by simp, fun i hi => absurd hi (by simp)⟩
  · simp only [List.cons.injEq, and_true] at h0
    have hlm : len ≤ m := by rw [hmm]; split <;> omega
    have each : ∀ i, i < m → ∃ e : Rt, RtW e ∧ w.cell? (a.add (i * 9)) = some (.int .i64 e.a) ∧ w.cell? (a.add (i * 9 + 1)) = some (.int .i64 e.l) ∧ w.cell? (a.add (i * 9 + 2)) = some (.int .i64 e.m) ∧ w.cell? (a.add (i * 9 + 3)) = some (.int .i64 e.n) ∧ w.cell? (a.add (i * 9 + 4)) = some (.int .i64 e.i) ∧ w.cell? (a.add (i * 9 + 5)) = some (.int .i64 e.t) ∧ w.cell? (a.add (i * 9 + 6)) = some (.int .i64 e.u) ∧ w.cell? (a.add (i * 9 + 7)) = some (.int .i64 e.b) ∧ w.cell? (a.add (i * 9 + 8)) = some (.bool e.c) := by
      intro i hi
      obtain ⟨cs', h1, h2⟩ := hx i hi
      rw [Tryz.cellsRoute] at h1
      obtain ⟨e, rfl, hw⟩ := open_rt h2
      obtain ⟨_, _, hcell⟩ := World.cells?_some h1
      have hadd : ∀ j k, (a.add j).add k = a.add (j + k) := fun j k => by
        unfold Addr.add
        by_cases hj : j = 0
        · subst hj; by_cases hk : k = 0 <;> simp [hk]
        · by_cases hk : k = 0
          · simp [hj, hk]
          · simp [hj, hk, Nat.add_assoc]
      refine ⟨e, hw, ?_⟩
      have k0 := hcell 0 (by omega)
      have k1 := hcell 1 (by omega)
      have k2 := hcell 2 (by omega)
      have k3 := hcell 3 (by omega)
      have k4 := hcell 4 (by omega)
      have k5 := hcell 5 (by omega)
      have k6 := hcell 6 (by omega)
      have k7 := hcell 7 (by omega)
      have k8 := hcell 8 (by omega)
      simp only [hadd, Nat.add_zero, rtL] at k0 k1 k2 k3 k4 k5 k6 k7 k8
      exact ⟨by simpa using k0, by simpa using k1, by simpa using k2, by simpa using k3, by simpa using k4, by simpa using k5, by simpa using k6, by simpa using k7, by simpa using k8⟩
    obtain ⟨E, hE⟩ := choose_lt (α := Rt) (p := fun i e => RtW e ∧ w.cell? (a.add (i * 9)) = some (.int .i64 e.a) ∧ w.cell? (a.add (i * 9 + 1)) = some (.int .i64 e.l) ∧ w.cell? (a.add (i * 9 + 2)) = some (.int .i64 e.m) ∧ w.cell? (a.add (i * 9 + 3)) = some (.int .i64 e.n) ∧ w.cell? (a.add (i * 9 + 4)) = some (.int .i64 e.i) ∧ w.cell? (a.add (i * 9 + 5)) = some (.int .i64 e.t) ∧ w.cell? (a.add (i * 9 + 6)) = some (.int .i64 e.u) ∧ w.cell? (a.add (i * 9 + 7)) = some (.int .i64 e.b) ∧ w.cell? (a.add (i * 9 + 8)) = some (.bool e.c)) each
    refine ⟨some a, len, cap, (List.range len).map E, h0, by simp, by omega, ?_, ?_⟩
    · intro e he
      simp only [List.mem_map, List.mem_range] at he
      obtain ⟨i, hi, rfl⟩ := he
      exact (hE i (by omega)).1
    · intro i hi
      simp only [List.length_map, List.length_range] at hi
      refine ⟨a, rfl, ?_⟩
      simp only [List.getElem_map, List.getElem_range]
      exact (hE i (by omega)).2
set_option maxRecDepth 100000 in
theorem Tryz.cellsRibS : Tryz.prog.cellsOf 84 = 1 := by kernel_rfl
theorem Tryz.cellsRib : Tryz.prog.cellsOf 86 = 1 := by kernel_rfl
set_option maxRecDepth 100000 in
theorem open_ribV {r : Reach} {b0 : Nat} {v : Value} {d : DataW H} {p : List MemPlace} (hv : Value.okWide Tryz.prog w r b0 86 v) (h : DataW.Trod enc Tryz.prog w base spare held 86 v d p) :
    ∃ y len cap rs, v = ribV y len cap ∧ ArgR w y len rs := by
  obtain ⟨cs, rfl, hsz⟩ := okWide_struct Tryz.underlying86 hv
  rw [Tryz.cellsRib] at hsz
  obtain ⟨l⟩ := cs
  match l, hsz with
  | [c0], _ =>
    obtain ⟨fuel, hf⟩ := h
    obtain ⟨xs, n, _, _, hl, hx, hg⟩ := DataW.trod_struct Tryz.underlying86 hf
    match xs, hx with
    | [y0], _ =>
      have h0 : DataW.trod enc Tryz.prog w base spare held n 84 ((([c0] : List Value).drop 0).take (Tryz.prog.cellsOf 84)) = [y0][0]? := hg 0 _ rfl
      rw [Tryz.cellsRibS] at h0
      replace h0 : DataW.trod enc Tryz.prog w base spare held n 84 [c0] = some y0 := h0
      obtain ⟨y, len, cap, rs, rfl, hA⟩ := open_rts h0
      exact ⟨y, len, cap, rs, rfl, hA⟩
end
end Go.Proofs.YtialedffpaoacaaGreatDoor
/- The laws' own tables measured and handed over. (Written by gen_rts.py.) -/
namespace Go.Proofs.YtialedffpaoacaaGreatDoor
open Go.RowKit Go.Sort

theorem set9 (A R : List Value) (k : Nat) (hA : A.length = k * 9) (z0 z1 z2 z3 z4 z5 z6 z7 z8 x0 x1 x2 x3 x4 x5 x6 x7 x8 : Value) : ((((((((((A ++ ([z0, z1, z2, z3, z4, z5, z6, z7, z8] ++ R)).set (k * 9) x0).set (k * 9 + 1) x1).set (k * 9 + 2) x2).set (k * 9 + 3) x3).set (k * 9 + 4) x4).set (k * 9 + 5) x5).set (k * 9 + 6) x6).set (k * 9 + 7) x7).set (k * 9 + 8) x8) = A ++ ([x0, x1, x2, x3, x4, x5, x6, x7, x8] ++ R) := by
  have e : ∀ (L : List Value) (j : Nat) (x : Value), (A ++ L).set (k * 9 + j) x = A ++ L.set j x := fun L j x => by
    rw [List.set_append, if_neg (by omega), hA, Nat.add_sub_cancel_left]
  have e0 : ∀ (L : List Value) (x : Value), (A ++ L).set (k * 9) x = A ++ L.set 0 x := fun L x => e L 0 x
  rw [e0, e, e, e, e, e, e, e, e]
  rfl
theorem Row.someR {w : World} {g : Nat} {t : TypeId} {l : List Value} (h : Row w g t l) (k : Nat) (hk : k < l.length) : ∃ v, w.cell? ⟨g, k, none⟩ = some v := ⟨l[k], by rw [h.cell, List.getElem?_eq_getElem hk]⟩
theorem Tryz.infoR : (Tryz.prog.info? 144).map (fun i => (i.zero, i.size, i.bytes)) = some (some (.agg #[.int .i64 0, .int .i64 0, .int .i64 0, .int .i64 0, .int .i64 0, .int .i64 0, .int .i64 0, .int .i64 0, .bool false]), 9, 72) := by kernel_rfl
def zeroRt : Rt := ⟨0, 0, 0, 0, 0, 0, 0, 0, false⟩
theorem rowR_zero_get (n i : Nat) (h : i < n * 9) : (rowR (List.replicate n zeroRt))[i]? = some (if i % 9 = 8 then .bool false else .int .i64 0) := by
  have hi : i / 9 < (List.replicate n zeroRt).length := by simp; omega
  have := rowR_get (List.replicate n zeroRt) (i / 9) (i % 9) hi (by omega)
  rw [show i / 9 * 9 + i % 9 = i by omega] at this
  rw [this, List.getElem_replicate]
  have h9 : i % 9 = 0 ∨ i % 9 = 1 ∨ i % 9 = 2 ∨ i % 9 = 3 ∨ i % 9 = 4 ∨ i % 9 = 5 ∨ i % 9 = 6 ∨ i % 9 = 7 ∨ i % 9 = 8 := by omega
  rcases h9 with h | h | h | h | h | h | h | h | h <;> (rw [h]; rfl)
theorem made_zeroR (n : Nat) : (madeCells (Value.agg #[.int .i64 0, .int .i64 0, .int .i64 0, .int .i64 0, .int .i64 0, .int .i64 0, .int .i64 0, .int .i64 0, .bool false]).cells (n * 9)).toList = rowR (List.replicate n zeroRt) := by
  apply List.ext_getElem?
  intro i
  by_cases h : i < n * 9
  · rw [rowR_zero_get n i h]
    simp only [madeCells, Value.cells, Array.toList_map, List.getElem?_map]
    have h9 : i % 9 = 0 ∨ i % 9 = 1 ∨ i % 9 = 2 ∨ i % 9 = 3 ∨ i % 9 = 4 ∨ i % 9 = 5 ∨ i % 9 = 6 ∨ i % 9 = 7 ∨ i % 9 = 8 := by omega
    rcases h9 with h9 | h9 | h9 | h9 | h9 | h9 | h9 | h9 | h9 <;> simp [h9, h]
  · rw [List.getElem?_eq_none (by simp [madeCells]; omega), List.getElem?_eq_none (by rw [rowR_length]; simp; omega)]
set_option maxRecDepth 100000 in
/-- 'make([]Route, n)'. -/
theorem wpList_make_rts {w : World} {ops : Array Oper} {rest : List Oper} {o : Oper} {a : Act} {Q : Exit → Act → World → Prop}
    (hgd : o.guard = none) (l c : Operand) (hop : o.op = Op.makeSlice 47 l c)
    (L : Int) (n : Nat) (hl : a.eval l = .int .i64 L) (hc : a.eval c = .int .i64 L) (hL : L = (n : Int)) (hn : n ≤ 100000000)
    (B : Nat) (w0 : World) (hb : Below B w0 w) (hB : B ≤ w.heap.size)
    (h : ∀ w', Row w' w.heap.size 144 (rowR (List.replicate n zeroRt)) → Below B w0 w' → wpList Tryz.prog ops Q rest (a.put o.dst (.slice (some ⟨w.heap.size, 0, none⟩) n n)) w') : wpList Tryz.prog ops Q (o :: rest) a w := by
  obtain ⟨i0, hi0, hz0, hz1, hz2⟩ := info_parts Tryz.infoR
  refine wpList_make_full w hgd l c 47 hop B 144 i0 _ 9 Tryz.underlying47 hi0 hz0 hz1 .i64 .i64 L L n hl hc hL hL (by rw [hz2]; omega) (by unfold maxLen; omega) hB ?_
  intro w' hown hgrow
  rcases hown.2 with ⟨h', _⟩ | ⟨g, cap, cur, h', hbg, hg, hnc, hcm, hcs, htake⟩
  · simp at h'
  · simp only [Value.slice.injEq, Option.some.injEq, Addr.mk.injEq, and_true, true_and] at h'
    obtain ⟨rfl, rfl⟩ := h'
    refine h w' ?_ (hb.trans ((Below.refl B w).grown hgrow hB (by intro k hk; cases hk)))
    unfold Row
    rw [hg, ← made_zeroR, ← htake, List.take_of_length_le (by simp [hcs])]
theorem rowR_set (es : List Rt) (k : Nat) (hk : k < es.length) (a l m n ii t u b : Int) (c : Bool) (he : es[k] = ⟨a, l, m, n, ii, t, u, b, c⟩) :
    ((((((((((rowR (es.take k ++ List.replicate (es.length - k) zeroRt)).set (k * 9) (.int .i64 a)).set (k * 9 + 1) (.int .i64 l)).set (k * 9 + 2) (.int .i64 m)).set (k * 9 + 3) (.int .i64 n)).set (k * 9 + 4) (.int .i64 ii)).set (k * 9 + 5) (.int .i64 t)).set (k * 9 + 6) (.int .i64 u)).set (k * 9 + 7) (.int .i64 b)).set (k * 9 + 8) (.bool c)) = rowR (es.take (k + 1) ++ List.replicate (es.length - (k + 1)) zeroRt) := by
  have e1 : es.length - k = (es.length - (k + 1)) + 1 := by omega
  rw [e1, List.replicate_succ, rowR_append, rowR_cons, List.take_succ_eq_append_getElem hk, List.append_assoc, rowR_append, List.singleton_append, rowR_cons, he]
  exact set9 _ _ k (by rw [rowR_length, List.length_take]; omega) _ _ _ _ _ _ _ _ _ _ _ _ _ _ _ _ _ _
set_option maxRecDepth 100000 in
theorem szRouteS_any (x : Option Addr) (len cap : Nat) (w : World) (hl : len ≤ maxLen) : Calls Tryz.prog 168 #[.slice x len cap, .int .i64 1048576] w fun e w' => e = .returned (.int .i64 (if len ≤ 1048576 then 1048576 - (len : Int) else -1)) ∧ w = w' := by
  unfold maxLen at hl
  by_cases h : len ≤ 1048576
  · rw [if_pos h]
    have d : decide (1048576 - (len : Int) < 0) = false := by simp; omega
    go_enter Tryz.func168, Tryz.ntmps168
    go_wp2
    go_ret
    exact ⟨rfl, rfl⟩
  · rw [if_neg h]
    have d : decide (1048576 - (len : Int) < 0) = true := by simp; omega
    go_enter Tryz.func168, Tryz.ntmps168
    go_wp2
    go_ret
    exact ⟨rfl, rfl⟩
set_option maxRecDepth 100000 in
theorem szRib_any (x : Option Addr) (len cap : Nat) (w : World) (hl : len ≤ maxLen) : Calls Tryz.prog 121 #[ribV x len cap, .int .i64 1048576] w fun e w' => e = .returned (.int .i64 (if len ≤ 1048576 then 1048576 - (len : Int) else -1)) ∧ Below w.heap.size w w' := by
  have HS : Hid (∀ w, Calls Tryz.prog 168 #[.slice x len cap, .int .i64 1048576] w fun e w' => e = .returned (.int .i64 (if len ≤ 1048576 then 1048576 - (len : Int) else -1)) ∧ w = w') := fun w => szRouteS_any x len cap w hl
  unfold maxLen at hl
  unfold ribV
  by_cases h : len ≤ 1048576
  · rw [if_pos h] at *
    have d : decide (1048576 - (len : Int) < 0) = false := by simp; omega
    go_enter Tryz.func121, Tryz.ntmps121
    go_wp2_with fail
    refine (HS.out _).mono ?_
    rintro e w1 ⟨rfl, rfl⟩
    go_wp2
    go_ret
    exact ⟨rfl, ent_new0 w _⟩
  · rw [if_neg h] at *
    go_enter Tryz.func121, Tryz.ntmps121
    go_wp2_with fail
    refine (HS.out _).mono ?_
    rintro e w1 ⟨rfl, rfl⟩
    go_wp2
    go_ret
    exact ⟨rfl, ent_new0 w _⟩
set_option maxRecDepth 100000 in
theorem toRouteS_any (x : Option Addr) (cap : Nat) (es : List Rt) (w : World) (h : ArgR w x es.length es) (hn : es.length ≤ 1048576) :
    Calls Tryz.prog 175 #[.slice x es.length cap] w fun e w' => ∃ g, e = .returned (.slice (some ⟨g, 0, none⟩) es.length es.length) ∧ w.heap.size ≤ g ∧ Row w' g 144 (rowR es) ∧ Below w.heap.size w w' := by
  have HE : Hid (∀ e w, Calls Tryz.prog 194 #[rtV e] w fun r w' => r = .returned (rtV e) ∧ Below w.heap.size w w') := toRoute_any
  have HX : Hid (ArgR w x es.length es) := h
  clear h
  go_enter Tryz.func175, Tryz.ntmps175
  go_wp2_with (at_make; refine wpList_make_rts rfl _ _ rfl _ es.length rfl rfl rfl (by omega) w.heap.size w (Below.refl _ _) (Nat.le_refl _) ?_)
  intro w0 hr0 hb0
  have hz : es.take 0 ++ List.replicate (es.length - 0) zeroRt = List.replicate es.length zeroRt := by simp
  rw [← hz] at hr0
  clear hz
  go_wp2_with fail
  go_loopw [4] (fun i wr => ∃ k : Nat, k ≤ es.length ∧ i = .int .i64 k ∧ Row wr w.heap.size 144 (rowR (es.take k ++ List.replicate (es.length - k) zeroRt)) ∧ Below w.heap.size w wr) (fun i _ => es.length - (intOf i).toNat)
  case atStart => exact ⟨0, Nat.zero_le _, rfl, hr0, hb0⟩
  case round =>
    obtain ⟨k, hk, rfl, hr, hb⟩ := hrel
    by_cases hlt : k < es.length
    · obtain ⟨p, a, l, m, n, ii, t, u, b, c, rfl, hek, c0, c1, c2, c3, c4, c5, c6, c7, c8⟩ := (HX.out.below hb).at k hlt
      have HEk : Hid (∀ w, Calls Tryz.prog 194 #[.agg #[.int .i64 a, .int .i64 l, .int .i64 m, .int .i64 n, .int .i64 ii, .int .i64 t, .int .i64 u, .int .i64 b, .bool c]] w fun r w' => r = .returned (.agg #[.int .i64 a, .int .i64 l, .int .i64 m, .int .i64 n, .int .i64 ii, .int .i64 t, .int .i64 u, .int .i64 b, .bool c]) ∧ Below w.heap.size w w') := HE.out ⟨a, l, m, n, ii, t, u, b, c⟩
      have hset := rowR_set es k hlt a l m n ii t u b c hek
      have HS : Hid _ := hset
      clear hset HE hek hr0 hb0
      go_wp2_with fail
      refine (HEk.out _).mono ?_
      rintro e w1 ⟨rfl, hb1⟩
      have hr1 := hr.below hb1 hr.lt
      have hB1 := hb.trans (hb1.mono hb.size)
      clear c0 c1 c2 c3 c4 c5 c6 c7 c8 hb1 HEk hr hb
      have hlr : (rowR (es.take k ++ List.replicate (es.length - k) zeroRt)).length = es.length * 9 := by rw [rowR_length]; simp; omega
      obtain ⟨z0, hz0⟩ := Row.someR hr1 (k * 9) (by omega)
      obtain ⟨z1, hz1⟩ := Row.someR hr1 (k * 9 + 1) (by omega)
      obtain ⟨z2, hz2⟩ := Row.someR hr1 (k * 9 + 2) (by omega)
      obtain ⟨z3, hz3⟩ := Row.someR hr1 (k * 9 + 3) (by omega)
      obtain ⟨z4, hz4⟩ := Row.someR hr1 (k * 9 + 4) (by omega)
      obtain ⟨z5, hz5⟩ := Row.someR hr1 (k * 9 + 5) (by omega)
      obtain ⟨z6, hz6⟩ := Row.someR hr1 (k * 9 + 6) (by omega)
      obtain ⟨z7, hz7⟩ := Row.someR hr1 (k * 9 + 7) (by omega)
      obtain ⟨z8, hz8⟩ := Row.someR hr1 (k * 9 + 8) (by omega)
      have f0 := hr1.frozen (k * 9)
      have f1 := hr1.frozen (k * 9 + 1)
      have f2 := hr1.frozen (k * 9 + 2)
      have f3 := hr1.frozen (k * 9 + 3)
      have f4 := hr1.frozen (k * 9 + 4)
      have f5 := hr1.frozen (k * 9 + 5)
      have f6 := hr1.frozen (k * 9 + 6)
      have f7 := hr1.frozen (k * 9 + 7)
      have f8 := hr1.frozen (k * 9 + 8)
      have hr2 := nine_row hr1 (k * 9) (.int .i64 a) (.int .i64 l) (.int .i64 m) (.int .i64 n) (.int .i64 ii) (.int .i64 t) (.int .i64 u) (.int .i64 b) (.bool c)
      rw [HS.out] at hr2
      have hB2 := nine_below hB1 w.heap.size (k * 9) (Nat.le_refl _) (.int .i64 a) (.int .i64 l) (.int .i64 m) (.int .i64 n) (.int .i64 ii) (.int .i64 t) (.int .i64 u) (.int .i64 b) (.bool c)
      unfold nine at hr2 hB2
      have HH : Hid _ := And.intro hr2 hB2
      clear hr1 hB1 HS hlr hr2 hB2
      go_wp2_with fail
      go_roundw
      case rel => exact ⟨k + 1, hlt, by go_num, HH.out.1, HH.out.2⟩
      case measure => simp [intOf]; omega
    · obtain rfl : k = es.length := by omega
      rw [List.take_length, Nat.sub_self, List.replicate_zero, List.append_nil] at hr
      clear hlt hk
      go_wp2
      go_ret
      exact ⟨_, rfl, Nat.le_refl _, hr, hb⟩
theorem three1 (w : World) (a0 b0 c0 : Value) (t u y : TypeId) : ∃ W, W = ((w.alloc (.cells #[a0] t)).alloc (.cells #[b0] u)).alloc (.cells #[c0] y) ∧ Row W w.heap.size t [a0] ∧ Row W (w.heap.size + 1) u [b0] ∧ Row W (w.heap.size + 1 + 1) y [c0] ∧ Below w.heap.size w W ∧ W.heap.size = w.heap.size + 1 + 1 + 1 := by
  have q0 := ((Row.new w t [a0]).alloc (.cells #[b0] u)).alloc (.cells #[c0] y)
  have q1 := (Row.new (w.alloc (.cells #[a0] t)) u [b0]).alloc (.cells #[c0] y)
  have q2 := Row.new ((w.alloc (.cells #[a0] t)).alloc (.cells #[b0] u)) y [c0]
  have e1 : (w.alloc (.cells #[a0] t)).heap.size = w.heap.size + 1 := by simp
  have e2 : ((w.alloc (.cells #[a0] t)).alloc (.cells #[b0] u)).heap.size = w.heap.size + 1 + 1 := by simp
  rw [e1] at q1
  rw [e2] at q2
  exact ⟨_, rfl, q0, q1, q2, ((ent_new0 w _).alloc (by simp) _).alloc (by simp; omega) _, by simp⟩
set_option maxRecDepth 100000 in
theorem toRib_any (x : Option Addr) (cap : Nat) (es : List Rt) (w : World) (h : ArgR w x es.length es) (hn : es.length ≤ 1048576) :
    Calls Tryz.prog 130 #[ribV x es.length cap] w fun e w' => ∃ g, e = .returned (ribV (some ⟨g, 0, none⟩) es.length es.length) ∧ w.heap.size ≤ g ∧ Row w' g 144 (rowR es) ∧ Below w.heap.size w w' := by
  have HE : Hid (∀ w, ArgR w x es.length es → Calls Tryz.prog 175 #[.slice x es.length cap] w fun e w' => ∃ g, e = .returned (.slice (some ⟨g, 0, none⟩) es.length es.length) ∧ w.heap.size ≤ g ∧ Row w' g 144 (rowR es) ∧ Below w.heap.size w w') := fun w h => toRouteS_any x cap es w h hn
  have HX : Hid (ArgR w x es.length es) := h
  clear h
  unfold ribV
  generalize es.length = N at *
  obtain ⟨W, hW, q0, q1, q2, hB, hS⟩ := three1 w (.slice x N cap) (.slice none 0 0) (.slice none 0 0) 86 49 49
  have HW : Hid _ := hW
  clear hW
  go_enter Tryz.func130, Tryz.ntmps130
  go_wp2_with fail
  rw [← HW.out]
  refine (HE.out _ (HX.out.below hB)).mono ?_
  rintro e w1 ⟨g, rfl, hg, hr, hb1⟩
  have p1 := q1.below hb1 q1.lt
  have p2 := q2.below hb1 q2.lt
  have hB1 := hB.trans (hb1.mono (by omega))
  have hg2 : w.heap.size + 1 + 1 < g := by omega
  clear q0 q1 q2 hb1 HW HX HE hB
  have b0 : w1.cell? ⟨w.heap.size + 1, 0, none⟩ = some (.slice none 0 0) := p1.cell 0
  have d0 : w1.cell? ⟨w.heap.size + 1 + 1, 0, none⟩ = some (.slice none 0 0) := p2.cell 0
  have f0 : w1.frozen? ⟨w.heap.size + 1, 0, none⟩ = false := p1.frozen 0
  have g0 : w1.frozen? ⟨w.heap.size + 1 + 1, 0, none⟩ = false := p2.frozen 0
  have hrow : Row ((w1.setCell ⟨w.heap.size + 1 + 1, 0, none⟩ (.slice (some ⟨g, 0, none⟩) N N)).setCell ⟨w.heap.size + 1, 0, none⟩ (.slice (some ⟨g, 0, none⟩) N N)) g 144 (rowR es) := (hr.other 0 _ (by omega)).other 0 _ (by omega)
  have hres : Row ((w1.setCell ⟨w.heap.size + 1 + 1, 0, none⟩ (.slice (some ⟨g, 0, none⟩) N N)).setCell ⟨w.heap.size + 1, 0, none⟩ (.slice (some ⟨g, 0, none⟩) N N)) (w.heap.size + 1) 49 [.slice (some ⟨g, 0, none⟩) N N] := (p1.other 0 _ (by omega)).set 0 _
  have hbel : Below w.heap.size w ((w1.setCell ⟨w.heap.size + 1 + 1, 0, none⟩ (.slice (some ⟨g, 0, none⟩) N N)).setCell ⟨w.heap.size + 1, 0, none⟩ (.slice (some ⟨g, 0, none⟩) N N)) := (hB1.setCell (p := ⟨w.heap.size + 1 + 1, 0, none⟩) (by show w.heap.size ≤ w.heap.size + 1 + 1; omega) _).setCell (p := ⟨w.heap.size + 1, 0, none⟩) (by show w.heap.size ≤ w.heap.size + 1; omega) _
  have HH : Hid _ := And.intro hrow (And.intro hres hbel)
  clear hrow hres hbel p1 p2 hr hB1
  go_wp2_with fail
  have HH2 := HH.out
  clear HH b0 d0 f0 g0
  generalize ((w1.setCell ⟨w.heap.size + 1 + 1, 0, none⟩ (.slice (some ⟨g, 0, none⟩) N N)).setCell ⟨w.heap.size + 1, 0, none⟩ (.slice (some ⟨g, 0, none⟩) N N)) = Z at *
  obtain ⟨h1, h2, h3⟩ := HH2
  have b0 : Z.cell? ⟨w.heap.size + 1, 0, none⟩ = some (.slice (some ⟨g, 0, none⟩) N N) := h2.cell 0
  refine bodyPost_ret (v := .agg #[.slice (some ⟨g, 0, none⟩) N N]) (by simp [results, Tryz.results130, go_sem, b0]) rfl ⟨g, rfl, by omega, h1, h3⟩
end Go.Proofs.YtialedffpaoacaaGreatDoor
/- Routes appended to a list of the call's own; a list of routes cut. -/
namespace Go.Proofs.YtialedffpaoacaaGreatDoor
open Go.RowKit Go.Sort

theorem ownsR_none {w : World} {base : Nat} {v : Value} {n : Nat} {xs : List Value} (h : w.ownsRow base 144 9 v n xs) (ty : TypeId) : (Builtin.append_ #[47, 47] ty #[v, .slice none 0 0]).run Tryz.prog w = .ok v w := by
  obtain ⟨i0, hi0, _, _, _⟩ := info_parts Tryz.infoR
  exact run_append_owned_none w base _ ty 144 i0 9 Tryz.underlying47 hi0 v n xs h
/-- 'append(v, x...)' of routes. -/
theorem run_append_rts (w : World) (base : Nat) (v : Value) (ls ms : List Rt) (q : Option Addr) (c : Nat) (ty : TypeId) (hown : w.ownsRow base 144 9 v ls.length (rowR ls)) (hq0 : q = none → ms = [] ∧ c = 0)
    (hq : ∀ ad, q = some ad → ∀ j u, (rowR ms)[j]? = some u → w.cell? (ad.add j) = some u) (hlen : ls.length + ms.length ≤ 1000000000) (hbase : base ≤ w.heap.size) :
    ∃ v' w', (Builtin.append_ #[47, 47] ty #[v, .slice q ms.length c]).run Tryz.prog w = .ok v' w' ∧ w'.ownsRow base 144 9 v' (ls ++ ms).length (rowR (ls ++ ms)) ∧ Below base w w' := by
  obtain ⟨i0, hi0, hz0, hz1, hz2⟩ := info_parts Tryz.infoR
  cases q with
  | none =>
    obtain ⟨rfl, rfl⟩ := hq0 rfl
    exact ⟨v, w, ownsR_none hown ty, by rw [List.append_nil]; exact hown, Below.refl _ _⟩
  | some ad =>
    obtain ⟨v', w', hr, h2, h3, _⟩ := run_append_own (P := Tryz.prog) w base _ ty 144 i0 _ 9 72 Tryz.underlying47 hi0 hz0 hz1 hz2 rfl (by decide) v ls.length (rowR ls) hown ad ms.length c (rowR ms) (by rw [rowR_length]; omega) (hq ad rfl) (rowR_one ms) (by unfold maxLen; omega) (by omega) hbase
    refine ⟨v', w', hr, ?_, (Below.refl base w).grown h3 hbase fun k hk => (World.ownsRow.lt hown k hk).1⟩
    rw [List.length_append, rowR_append]
    exact h2
theorem wpList_append_runs {P : Program} {w : World} {ops : Array Oper} {rest : List Oper} {o : Oper} {a : Act} {Q : Exit → Act → World → Prop} (hgd : o.guard = none) (s x : Operand) (t : TypeId)
    (ho : o.op = .call { callee := .builtin .append, args := #[s, x], argTypes := #[t, t] }) (vs vx : Value) (hs : a.eval s = vs) (hx : a.eval x = vx)
    {v' : Value} {w' : World} (hr : (Builtin.append_ #[t, t] o.type #[vs, vx]).run P w = .ok v' w') (h : wpList P ops Q rest (a.put o.dst v') w') : wpList P ops Q (o :: rest) a w := by
  refine wpList_plain hgd fun K hK => ?_
  unfold Oper.wp execOp
  simp only [ho, resolve, invoke, builtin, Sem.run_bind, Sem.run_pure, Result.andThen_ok, List.map_toArray, List.map_cons, List.map_nil, hs, hx, hr]
  exact hK _ _ h
theorem addR (g o j : Nat) : (⟨g, o, none⟩ : Addr).add j = ⟨g, o + j, none⟩ := by unfold Addr.add; split <;> simp_all
/-- Where the part of a list behind k begins. -/
def fromR (p : Option Addr) (cap k : Nat) : Option Addr := if cap = k then p else p.map (·.add (k * 9))
theorem sliceR_upto (p : Option Addr) (n cap k : Nat) (x : Int) (hx : x = k) (hk : k ≤ cap) (w : World) : (Instr.slice 47 (.slice p n cap) none (some (.int .i64 x)) none).run Tryz.prog w = .ok (.slice (fromR p cap 0) k cap) w := by
  subst hx
  have hb := run_sliceBound (P := Tryz.prog) w .i64 (k : Int) cap .sliceAcap (by omega) (by omega)
  unfold Instr.slice Instr.sliceBounds
  simp [Sem.run_bind, run_underlying Tryz.underlying47, hb, fromR]
theorem sliceR_from (p : Option Addr) (n cap k : Nat) (x : Int) (hx : x = k) (hk : k ≤ n) (w : World) : (Instr.slice 47 (.slice p n cap) (some (.int .i64 x)) none none).run Tryz.prog w = .ok (.slice (fromR p cap k) (n - k) (cap - k)) w := by
  subst hx
  have hb := run_sliceBound (P := Tryz.prog) w .i64 (k : Int) n .sliceB (by omega) (by omega)
  unfold Instr.slice Instr.sliceBounds
  simp [Sem.run_bind, run_underlying Tryz.underlying47, hb, fromR]
theorem fromR_none {p : Option Addr} {cap k : Nat} {rs : List Rt} (hc : p = none → cap = 0) (h : p = none → rs = []) : fromR p cap k = none → rs.drop k = [] ∧ cap - k = 0 := by
  intro e
  have hp : p = none := by
    unfold fromR at e
    split at e
    · exact e
    · simpa using e
  have := hc hp
  exact ⟨by rw [h hp]; simp, by omega⟩
theorem rtsIn_none {w : World} {p : Option Addr} {rs : List Rt} (h : RtsIn w p rs) : p = none → rs = [] := by
  rintro rfl
  rcases h with h | ⟨g, e, _⟩
  · exact h
  · cases e
theorem fromR_cells {w : World} {p : Option Addr} {cap k : Nat} {rs : List Rt} (h : RtsIn w p rs) (hl : rs.length ≤ cap) : ∀ ad, fromR p cap k = some ad → ∀ j u, (rowR (rs.drop k))[j]? = some u → w.cell? (ad.add j) = some u := by
  intro ad e j u hj
  rcases h with rfl | ⟨g, rfl, hg, hc⟩
  · simp [rowR] at hj
  · have hj9 : j < 9 * (rs.length - k) := by
      have := (List.getElem?_eq_some_iff.1 hj).1
      rw [rowR_length, List.length_drop] at this
      exact this
    unfold fromR at e
    rw [if_neg (by omega)] at e
    simp only [Option.map_some, Option.some.injEq] at e
    subst e
    have ea : ((⟨g, 0, none⟩ : Addr).add (k * 9)).add j = ⟨g, k * 9 + j, none⟩ := by rw [addR, addR, Nat.zero_add]
    rw [ea]
    refine hc _ _ ?_
    rw [← hj, ← List.take_append_drop k rs, rowR_append, List.take_append_drop, List.getElem?_append_right (by rw [rowR_length, List.length_take]; omega), rowR_length, List.length_take]
    congr 1
    omega
theorem fromR_upto {w : World} {p : Option Addr} {cap k : Nat} {rs : List Rt} (h : RtsIn w p rs) : ∀ ad, fromR p cap 0 = some ad → ∀ j u, (rowR (rs.take k))[j]? = some u → w.cell? (ad.add j) = some u := by
  intro ad e j u hj
  rcases h with rfl | ⟨g, rfl, hg, hc⟩
  · simp [rowR] at hj
  · have e' : ad = ⟨g, 0, none⟩ := by
      unfold fromR at e
      split at e
      · simpa using e.symm
      · simp only [Option.map_some, Option.some.injEq] at e
        rw [← e]; unfold Addr.add; split <;> simp_all
    subst e'
    have ea : (⟨g, 0, none⟩ : Addr).add j = ⟨g, j, none⟩ := by unfold Addr.add; split <;> simp_all
    rw [ea]
    refine hc _ _ ?_
    rw [← hj, ← List.take_append_drop k rs, rowR_append, List.take_append_drop]
    rw [List.getElem?_append_left (List.getElem?_eq_some_iff.1 hj).1]
end Go.Proofs.YtialedffpaoacaaGreatDoor
/- The laws' own look: Ifaces and lists of them are as themselves. (Written by gen_ifs.py.) -/
namespace Go.Proofs.YtialedffpaoacaaGreatDoor
open Go.RowKit Go.Sort

theorem boxes5i {w w1 : World} {xs ys : List Value} {t u : TypeId} (h : Below ((w.alloc (.cells xs.toArray t)).alloc (.cells ys.toArray u)).heap.size ((w.alloc (.cells xs.toArray t)).alloc (.cells ys.toArray u)) w1) :
    (∀ k v, xs[k]? = some v → w1.cell? ⟨w.heap.size, k, none⟩ = some v) ∧ (∀ k v, ys[k]? = some v → w1.cell? ⟨w.heap.size + 1, k, none⟩ = some v) ∧ Below w.heap.size w w1 := by
  have q0 := (Row.new w t xs).alloc (.cells ys.toArray u)
  have q1 := Row.new (w.alloc (.cells xs.toArray t)) u ys
  have p0 := q0.below h q0.lt
  have p1 := q1.below h q1.lt
  have e1 : (w.alloc (.cells xs.toArray t)).heap.size = w.heap.size + 1 := by simp
  rw [e1] at p1
  exact ⟨fun k v hv => (p0.cell k).trans hv, fun k v hv => (p1.cell k).trans hv, ((ent_new0 w _).alloc (by simp) _).trans (h.mono (by simp; omega))⟩
set_option maxRecDepth 100000 in
theorem eqIface_same (e : If) (w : World) : Calls Tryz.prog 184 #[ifV e, ifV e] w fun r w' => r = .returned (.bool true) ∧ Below w.heap.size w w' := by
  obtain ⟨d, a, l, c, u⟩ := e
  unfold ifV ifA
  have HN : Hid (∀ w, Calls Tryz.prog 110 #[.agg #[.int .i64 a, .int .i64 l], .agg #[.int .i64 a, .int .i64 l]] w fun e w' => e = .returned (.bool true) ∧ Below w.heap.size w w') := eqNet_same a l
  have ed : (d != d) = false := by simp
  have ec : (c != c) = false := by simp
  have eu : (u != u) = false := by simp
  go_enter Tryz.func184, Tryz.ntmps184
  go_wp2_with fail
  refine (HN.out _).mono ?_
  rintro e w1 ⟨rfl, hb1⟩
  obtain ⟨k0, k1, hB⟩ := boxes5i (xs := [.int .i64 d, .int .i64 a, .int .i64 l, .int .i64 c, .bool u]) (ys := [.int .i64 d, .int .i64 a, .int .i64 l, .int .i64 c, .bool u]) hb1
  have c3 := k0 3 _ rfl
  have d3 := k1 3 _ rfl
  have c4 := k0 4 _ rfl
  have d4 := k1 4 _ rfl
  clear k0 k1 hb1 HN
  go_wp2
  go_ret
  exact ⟨rfl, hB⟩
set_option maxRecDepth 100000 in
theorem eqIfaceS_any (p q : Option Addr) (c0 d0 : Nat) (es : List If) (w : World) (hp : IfsIn w p es) (hq : IfsIn w q es) (hn : es.length ≤ 100000000) : Calls Tryz.prog 155 #[.slice p es.length c0, .slice q es.length d0] w fun r w' => r = .returned (.bool true) ∧ Below w.heap.size w w' := by
  have HE : Hid (∀ e w, Calls Tryz.prog 184 #[ifV e, ifV e] w fun r w' => r = .returned (.bool true) ∧ Below w.heap.size w w') := eqIface_same
  have HX : Hid (IfsIn w p es ∧ IfsIn w q es) := ⟨hp, hq⟩
  have h0 : ((es.length : Int) != (es.length : Int)) = false := by simp
  clear hp hq
  go_enter Tryz.func155, Tryz.ntmps155
  go_wp2_with fail
  go_loopw [5] (fun i wr => ∃ k : Nat, k ≤ es.length ∧ i = .int .i64 k ∧ Below w.heap.size w wr) (fun i _ => es.length - (intOf i).toNat)
  case atStart => exact ⟨0, Nat.zero_le _, rfl, Below.refl _ _⟩
  case round =>
    obtain ⟨k, hk, rfl, hb⟩ := hrel
    by_cases hlt : k < es.length
    · obtain ⟨g, d, a, l, c, u, rfl, hg, hek, x0, x1, x2, x3, x4⟩ := (HX.out.1.below hb).at k hlt
      obtain ⟨g', d', a', l', c', u', rfl, hg', hek', y0, y1, y2, y3, y4⟩ := (HX.out.2.below hb).at k hlt
      rw [hek] at hek'
      simp only [If.mk.injEq] at hek'
      obtain ⟨rfl, rfl, rfl, rfl, rfl⟩ := hek'
      have HEk : Hid (∀ w, Calls Tryz.prog 184 #[.agg #[.int .i64 d, .int .i64 a, .int .i64 l, .int .i64 c, .bool u], .agg #[.int .i64 d, .int .i64 a, .int .i64 l, .int .i64 c, .bool u]] w fun r w' => r = .returned (.bool true) ∧ Below w.heap.size w w') := HE.out ⟨d, a, l, c, u⟩
      clear HE hek HX
      replace x0 := cell_regrown x0
      replace y0 := cell_regrown y0
      replace x1 := cell_regrown x1
      replace y1 := cell_regrown y1
      replace x2 := cell_regrown x2
      replace y2 := cell_regrown y2
      replace x3 := cell_regrown x3
      replace y3 := cell_regrown y3
      replace x4 := cell_regrown x4
      replace y4 := cell_regrown y4
      go_wp2_with fail
      refine wp_region_quiet_below (by kernel_rfl) (by kernel_rfl) ?_
      repeat (go_big_quiet_step ((go_at_call 184; exact Calls.regrown_of (HEk.out _))))
      refine wpQuiet_nil ?_
      intro w1 hw'
      obtain ⟨⟨dq, osq⟩, hw''⟩ := hw'
      have hbq := below_regrown wr dq osq
      rw [← hw''] at hbq
      clear hw'' osq dq x0 x1 x2 x3 x4 y0 y1 y2 y3 y4 HEk
      have hb2 := hb.trans (hbq.mono hb.size)
      clear hbq
      go_wp2
      go_roundw
      case rel => exact ⟨k + 1, hlt, by go_num, hb2⟩
      case measure => simp [intOf]; omega
    · obtain rfl : k = es.length := by omega
      clear hlt hk
      go_wp2
      go_ret
      exact ⟨rfl, hb⟩
end Go.Proofs.YtialedffpaoacaaGreatDoor
/- The laws' own look: routes, lists of them and tables are as themselves. (Written by gen_rts.py.) -/
namespace Go.Proofs.YtialedffpaoacaaGreatDoor
open Go.RowKit Go.Sort

/-- Two boxes of nine cells, one behind the other: what they hold behind a later call. -/
theorem boxes9 {w w1 : World} {xs ys : List Value} {t u : TypeId} (h : Below ((w.alloc (.cells xs.toArray t)).alloc (.cells ys.toArray u)).heap.size ((w.alloc (.cells xs.toArray t)).alloc (.cells ys.toArray u)) w1) :
    (∀ k v, xs[k]? = some v → w1.cell? ⟨w.heap.size, k, none⟩ = some v) ∧ (∀ k v, ys[k]? = some v → w1.cell? ⟨w.heap.size + 1, k, none⟩ = some v) ∧ Below w.heap.size w w1 := by
  have q0 := (Row.new w t xs).alloc (.cells ys.toArray u)
  have q1 := Row.new (w.alloc (.cells xs.toArray t)) u ys
  have p0 := q0.below h q0.lt
  have p1 := q1.below h q1.lt
  have e1 : (w.alloc (.cells xs.toArray t)).heap.size = w.heap.size + 1 := by simp
  rw [e1] at p1
  exact ⟨fun k v hv => (p0.cell k).trans hv, fun k v hv => (p1.cell k).trans hv, ((ent_new0 w _).alloc (by simp) _).trans (h.mono (by simp; omega))⟩
set_option maxRecDepth 100000 in
theorem eqRoute_same (e : Rt) (w : World) : Calls Tryz.prog 203 #[rtV e, rtV e] w fun r w' => r = .returned (.bool true) ∧ Below w.heap.size w w' := by
  obtain ⟨a, l, m, n, i, t, u, b, c⟩ := e
  unfold rtV rtA
  have HN : Hid (∀ w, Calls Tryz.prog 110 #[.agg #[.int .i64 a, .int .i64 l], .agg #[.int .i64 a, .int .i64 l]] w fun e w' => e = .returned (.bool true) ∧ Below w.heap.size w w') := eqNet_same a l
  have em : (m != m) = false := by simp
  have en : (n != n) = false := by simp
  have ei : (i != i) = false := by simp
  have et : (t != t) = false := by simp
  have eu : (u != u) = false := by simp
  have eb : (b != b) = false := by simp
  have ec : (c != c) = false := by simp
  go_enter Tryz.func203, Tryz.ntmps203
  go_wp2_with fail
  refine (HN.out _).mono ?_
  rintro e w1 ⟨rfl, hb1⟩
  obtain ⟨k0, k1, hB⟩ := boxes9 (xs := [.int .i64 a, .int .i64 l, .int .i64 m, .int .i64 n, .int .i64 i, .int .i64 t, .int .i64 u, .int .i64 b, .bool c]) (ys := [.int .i64 a, .int .i64 l, .int .i64 m, .int .i64 n, .int .i64 i, .int .i64 t, .int .i64 u, .int .i64 b, .bool c]) hb1
  have c2 := k0 2 _ rfl
  have d2 := k1 2 _ rfl
  have c3 := k0 3 _ rfl
  have d3 := k1 3 _ rfl
  have c4 := k0 4 _ rfl
  have d4 := k1 4 _ rfl
  have c5 := k0 5 _ rfl
  have d5 := k1 5 _ rfl
  have c6 := k0 6 _ rfl
  have d6 := k1 6 _ rfl
  have c7 := k0 7 _ rfl
  have d7 := k1 7 _ rfl
  have c8 := k0 8 _ rfl
  have d8 := k1 8 _ rfl
  clear k0 k1 hb1 HN
  go_wp2
  go_ret
  exact ⟨rfl, hB⟩
set_option maxRecDepth 100000 in
theorem eqRouteS_any (p q : Option Addr) (c d : Nat) (es : List Rt) (w : World) (hp : RtsIn w p es) (hq : RtsIn w q es) (hn : es.length ≤ 100000000) : Calls Tryz.prog 185 #[.slice p es.length c, .slice q es.length d] w fun r w' => r = .returned (.bool true) ∧ Below w.heap.size w w' := by
  have HE : Hid (∀ e w, Calls Tryz.prog 203 #[rtV e, rtV e] w fun r w' => r = .returned (.bool true) ∧ Below w.heap.size w w') := eqRoute_same
  have HX : Hid (RtsIn w p es ∧ RtsIn w q es) := ⟨hp, hq⟩
  have h0 : ((es.length : Int) != (es.length : Int)) = false := by simp
  clear hp hq
  go_enter Tryz.func185, Tryz.ntmps185
  go_wp2_with fail
  go_loopw [5] (fun i wr => ∃ k : Nat, k ≤ es.length ∧ i = .int .i64 k ∧ Below w.heap.size w wr) (fun i _ => es.length - (intOf i).toNat)
  case atStart => exact ⟨0, Nat.zero_le _, rfl, Below.refl _ _⟩
  case round =>
    obtain ⟨k, hk, rfl, hb⟩ := hrel
    by_cases hlt : k < es.length
    · obtain ⟨g, a, l, m, n, ii, t, u, b, cc, rfl, hg, hek, c0, c1, c2, c3, c4, c5, c6, c7, c8⟩ := (HX.out.1.below hb).at k hlt
      obtain ⟨g', a', l', m', n', ii', t', u', b', cc', rfl, hg', hek', d0, d1, d2, d3, d4, d5, d6, d7, d8⟩ := (HX.out.2.below hb).at k hlt
      rw [hek] at hek'
      simp only [Rt.mk.injEq] at hek'
      obtain ⟨rfl, rfl, rfl, rfl, rfl, rfl, rfl, rfl, rfl⟩ := hek'
      have HEk : Hid (∀ w, Calls Tryz.prog 203 #[.agg #[.int .i64 a, .int .i64 l, .int .i64 m, .int .i64 n, .int .i64 ii, .int .i64 t, .int .i64 u, .int .i64 b, .bool cc], .agg #[.int .i64 a, .int .i64 l, .int .i64 m, .int .i64 n, .int .i64 ii, .int .i64 t, .int .i64 u, .int .i64 b, .bool cc]] w fun r w' => r = .returned (.bool true) ∧ Below w.heap.size w w') := HE.out ⟨a, l, m, n, ii, t, u, b, cc⟩
      clear HE hek HX
      replace c0 := cell_regrown c0
      replace d0 := cell_regrown d0
      replace c1 := cell_regrown c1
      replace d1 := cell_regrown d1
      replace c2 := cell_regrown c2
      replace d2 := cell_regrown d2
      replace c3 := cell_regrown c3
      replace d3 := cell_regrown d3
      replace c4 := cell_regrown c4
      replace d4 := cell_regrown d4
      replace c5 := cell_regrown c5
      replace d5 := cell_regrown d5
      replace c6 := cell_regrown c6
      replace d6 := cell_regrown d6
      replace c7 := cell_regrown c7
      replace d7 := cell_regrown d7
      replace c8 := cell_regrown c8
      replace d8 := cell_regrown d8
      go_wp2_with fail
      refine wp_region_quiet_below (by kernel_rfl) (by kernel_rfl) ?_
      repeat (go_big_quiet_step ((go_at_call 203; exact Calls.regrown_of (HEk.out _))))
      refine wpQuiet_nil ?_
      intro w1 hw'
      obtain ⟨⟨dq, osq⟩, hw''⟩ := hw'
      have hbq := below_regrown wr dq osq
      rw [← hw''] at hbq
      clear hw'' osq dq c0 c1 c2 c3 c4 c5 c6 c7 c8 d0 d1 d2 d3 d4 d5 d6 d7 d8 HEk
      have hb2 := hb.trans (hbq.mono hb.size)
      clear hbq
      go_wp2
      go_roundw
      case rel => exact ⟨k + 1, hlt, by go_num, hb2⟩
      case measure => simp [intOf]; omega
    · obtain rfl : k = es.length := by omega
      clear hlt hk
      go_wp2
      go_ret
      exact ⟨rfl, hb⟩
set_option maxRecDepth 100000 in
theorem eqRib_any (p q : Option Addr) (c d : Nat) (es : List Rt) (w : World) (hp : RtsIn w p es) (hq : RtsIn w q es) (hn : es.length ≤ 100000000) : Calls Tryz.prog 156 #[ribV p es.length c, ribV q es.length d] w fun r w' => r = .returned (.bool true) ∧ Below w.heap.size w w' := by
  have HE : Hid (∀ w, RtsIn w p es → RtsIn w q es → Calls Tryz.prog 185 #[.slice p es.length c, .slice q es.length d] w fun r w' => r = .returned (.bool true) ∧ Below w.heap.size w w') := fun w h1 h2 => eqRouteS_any p q c d es w h1 h2 hn
  have HX : Hid (RtsIn w p es ∧ RtsIn w q es) := ⟨hp, hq⟩
  unfold ribV
  clear hp hq
  go_enter Tryz.func156, Tryz.ntmps156
  go_wp2_with fail
  refine (HE.out _ ((HX.out.1.alloc _).alloc _) ((HX.out.2.alloc _).alloc _)).mono ?_
  rintro e w1 ⟨rfl, hb1⟩
  have hB : Below w.heap.size w w1 := ((ent_new0 w _).alloc (by simp) _).trans (hb1.mono (by simp; omega))
  clear hb1 HE HX
  go_wp2
  go_ret
  exact ⟨rfl, hB⟩
end Go.Proofs.YtialedffpaoacaaGreatDoor
/- An Inst of the laws: measured, handed over, held against another one, opened. (Written by gen_inst.py.) -/
namespace Go.Proofs.YtialedffpaoacaaGreatDoor
open Go.ChangeShapes Go.WideShapes Go.RowKit Go.Sort Go.Deep Go.Joins

def instV (x : Option Addr) (n1 c1 : Nat) (y : Option Addr) (n2 c2 : Nat) (now : Int) : Value := .agg #[.slice x n1 c1, .slice y n2 c2, .int .i64 now]
set_option maxRecDepth 100000 in
theorem szIfaceSL_any (x : Option Addr) (len cap : Nat) (L : Int) (w : World) (hl : len ≤ maxLen) (h0 : 0 ≤ L) (h1 : L ≤ 1048576) : Calls Tryz.prog 120 #[.slice x len cap, .int .i64 L] w fun e w' => e = .returned (.int .i64 (if (len : Int) ≤ L then L - (len : Int) else -1)) ∧ w = w' := by
  unfold maxLen at hl
  by_cases h : (len : Int) ≤ L
  · rw [if_pos h]
    have d : decide (L - (len : Int) < 0) = false := by simp; omega
    go_enter Tryz.func120, Tryz.ntmps120
    go_wp2
    go_ret
    exact ⟨rfl, rfl⟩
  · rw [if_neg h]
    have d : decide (L - (len : Int) < 0) = true := by simp; omega
    go_enter Tryz.func120, Tryz.ntmps120
    go_wp2
    go_ret
    exact ⟨rfl, rfl⟩
set_option maxRecDepth 100000 in
theorem szRouteSL_any (x : Option Addr) (len cap : Nat) (L : Int) (w : World) (hl : len ≤ maxLen) (h0 : 0 ≤ L) (h1 : L ≤ 1048576) : Calls Tryz.prog 168 #[.slice x len cap, .int .i64 L] w fun e w' => e = .returned (.int .i64 (if (len : Int) ≤ L then L - (len : Int) else -1)) ∧ w = w' := by
  unfold maxLen at hl
  by_cases h : (len : Int) ≤ L
  · rw [if_pos h]
    have d : decide (L - (len : Int) < 0) = false := by simp; omega
    go_enter Tryz.func168, Tryz.ntmps168
    go_wp2
    go_ret
    exact ⟨rfl, rfl⟩
  · rw [if_neg h]
    have d : decide (L - (len : Int) < 0) = true := by simp; omega
    go_enter Tryz.func168, Tryz.ntmps168
    go_wp2
    go_ret
    exact ⟨rfl, rfl⟩
set_option maxRecDepth 100000 in
theorem szRibL_any (x : Option Addr) (len cap : Nat) (L : Int) (w : World) (hl : len ≤ maxLen) (h0 : 0 ≤ L) (h1 : L ≤ 1048576) : Calls Tryz.prog 121 #[.agg #[.slice x len cap], .int .i64 L] w fun e w' => e = .returned (.int .i64 (if (len : Int) ≤ L then L - (len : Int) else -1)) ∧ Below w.heap.size w w' := by
  have HS : Hid (∀ w, Calls Tryz.prog 168 #[.slice x len cap, .int .i64 L] w fun e w' => e = .returned (.int .i64 (if (len : Int) ≤ L then L - (len : Int) else -1)) ∧ w = w') := fun w => szRouteSL_any x len cap L w hl h0 h1
  unfold maxLen at hl
  by_cases h : (len : Int) ≤ L
  · rw [if_pos h] at *
    have d : decide (L - (len : Int) < 0) = false := by simp; omega
    go_enter Tryz.func121, Tryz.ntmps121
    go_wp2_with fail
    refine (HS.out _).mono ?_
    rintro e w1 ⟨rfl, rfl⟩
    go_wp2
    go_ret
    exact ⟨rfl, ent_new0 w _⟩
  · rw [if_neg h] at *
    go_enter Tryz.func121, Tryz.ntmps121
    go_wp2_with fail
    refine (HS.out _).mono ?_
    rintro e w1 ⟨rfl, rfl⟩
    go_wp2
    go_ret
    exact ⟨rfl, ent_new0 w _⟩
theorem box3i {w w1 : World} {x0 x1 x2 : Value} {t : TypeId} (h : Below (w.alloc (.cells #[x0, x1, x2] t)).heap.size (w.alloc (.cells #[x0, x1, x2] t)) w1) : Row w1 w.heap.size t [x0, x1, x2] ∧ Below w.heap.size w w1 := by
  have q := Row.new w t [x0, x1, x2]
  exact ⟨q.below h q.lt, (ent_new0 w _).trans (h.mono (by simp))⟩
set_option maxRecDepth 100000 in
theorem szInst_any (x : Option Addr) (n1 c1 : Nat) (y : Option Addr) (n2 c2 : Nat) (now : Int) (w : World) (h1 : n1 ≤ maxLen) (h2 : n2 ≤ maxLen) :
    Calls Tryz.prog 76 #[instV x n1 c1 y n2 c2 now, .int .i64 1048576] w fun e w' => (∃ v : Int, e = .returned (.int .i64 v) ∧ (v < 0 ∨ 0 ≤ v ∧ n1 ≤ 1048576 ∧ n2 ≤ 1048576)) ∧ Below w.heap.size w w' := by
  have HA : Hid (∀ w, Calls Tryz.prog 120 #[.slice x n1 c1, .int .i64 1048576] w fun e w' => e = .returned (.int .i64 (if (n1 : Int) ≤ 1048576 then 1048576 - (n1 : Int) else -1)) ∧ w = w') := fun w => szIfaceSL_any x n1 c1 1048576 w h1 (by omega) (by omega)
  have HB : Hid (∀ L : Int, 0 ≤ L → L ≤ 1048576 → ∀ w, Calls Tryz.prog 121 #[.agg #[.slice y n2 c2], .int .i64 L] w fun e w' => e = .returned (.int .i64 (if (n2 : Int) ≤ L then L - (n2 : Int) else -1)) ∧ Below w.heap.size w w') := fun L a b w => szRibL_any y n2 c2 L w h2 a b
  unfold instV
  by_cases k1 : (n1 : Int) ≤ 1048576
  · rw [if_pos k1] at HA
    have HB1 : Hid _ := HB.out (1048576 - (n1 : Int)) (by omega) (by omega)
    have d1 : decide (1048576 - (n1 : Int) < 0) = false := by simp; omega
    clear HB h1 h2
    by_cases k2 : (n2 : Int) ≤ 1048576 - (n1 : Int)
    · rw [if_pos k2] at HB1
      have d2 : decide (1048576 - (n1 : Int) - (n2 : Int) < 0) = false := by simp; omega
      go_enter Tryz.func76, Tryz.ntmps76
      go_wp2_with fail
      refine (HA.out _).mono ?_
      rintro e w1 ⟨rfl, rfl⟩
      go_wp2_with fail
      refine (HB1.out _).mono ?_
      rintro e w2 ⟨rfl, hb2⟩
      obtain ⟨-, hB⟩ := box3i hb2
      clear hb2
      go_wp2
      go_ret
      exact ⟨⟨_, rfl, .inr ⟨by omega, by omega, by omega⟩⟩, hB⟩
    · rw [if_neg k2] at HB1
      go_enter Tryz.func76, Tryz.ntmps76
      go_wp2_with fail
      refine (HA.out _).mono ?_
      rintro e w1 ⟨rfl, rfl⟩
      go_wp2_with fail
      refine (HB1.out _).mono ?_
      rintro e w2 ⟨rfl, hb2⟩
      obtain ⟨-, hB⟩ := box3i hb2
      clear hb2
      go_wp2
      go_ret
      exact ⟨⟨_, rfl, .inl (by omega)⟩, hB⟩
  · rw [if_neg k1] at HA
    clear HB h1 h2
    go_enter Tryz.func76, Tryz.ntmps76
    go_wp2_with fail
    refine (HA.out _).mono ?_
    rintro e w1 ⟨rfl, rfl⟩
    go_wp2
    go_ret
    exact ⟨⟨_, rfl, .inl (by omega)⟩, ent_new0 w _⟩
set_option maxRecDepth 100000 in
set_option maxHeartbeats 2000000 in
theorem eqInst_any (p q : Option Addr) (a1 b1 : Nat) (r s : Option Addr) (a2 b2 : Nat) (is : List If) (rs : List Rt) (now : Int) (w : World) (h1 : IfsIn w p is) (h2 : IfsIn w q is) (h3 : RtsIn w r rs) (h4 : RtsIn w s rs) (hn1 : is.length ≤ 100000000) (hn2 : rs.length ≤ 100000000) :
    Calls Tryz.prog 107 #[instV p is.length a1 r rs.length a2 now, instV q is.length b1 s rs.length b2 now] w fun e w' => e = .returned (.bool true) ∧ Below w.heap.size w w' := by
  have HI : Hid (∀ w, IfsIn w p is → IfsIn w q is → Calls Tryz.prog 155 #[.slice p is.length a1, .slice q is.length b1] w fun e w' => e = .returned (.bool true) ∧ Below w.heap.size w w') := fun w a b => eqIfaceS_any p q a1 b1 is w a b hn1
  have HR : Hid (∀ w, RtsIn w r rs → RtsIn w s rs → Calls Tryz.prog 156 #[.agg #[.slice r rs.length a2], .agg #[.slice s rs.length b2]] w fun e w' => e = .returned (.bool true) ∧ Below w.heap.size w w') := fun w a b => eqRib_any r s a2 b2 rs w a b hn2
  have HX : Hid (IfsIn w p is ∧ IfsIn w q is ∧ RtsIn w r rs ∧ RtsIn w s rs) := ⟨h1, h2, h3, h4⟩
  clear h1 h2 h3 h4 hn1 hn2
  have q0 := (Row.new w 51 [.slice p is.length a1, .slice r rs.length a2, .int .i64 now]).alloc (.cells #[.slice q is.length b1, .slice s rs.length b2, .int .i64 now] 51)
  have q1 := Row.new (w.alloc (.cells #[.slice p is.length a1, .slice r rs.length a2, .int .i64 now] 51)) 51 [.slice q is.length b1, .slice s rs.length b2, .int .i64 now]
  rw [show (w.alloc (.cells #[.slice p is.length a1, .slice r rs.length a2, .int .i64 now] 51)).heap.size = w.heap.size + 1 by simp] at q1
  have hBB : Below w.heap.size w ((w.alloc (.cells #[.slice p is.length a1, .slice r rs.length a2, .int .i64 now] 51)).alloc (.cells #[.slice q is.length b1, .slice s rs.length b2, .int .i64 now] 51)) := (ent_new0 w _).alloc (by simp) _
  have HQ : Hid _ := And.intro q0 (And.intro q1 hBB)
  have dn : (now != now) = false := by simp
  clear q0 q1 hBB
  unfold instV
  go_enter Tryz.func107, Tryz.ntmps107
  go_wp2_with fail
  obtain ⟨q0, q1, hB⟩ := HQ.out
  refine (HI.out _ (HX.out.1.below hB) (HX.out.2.1.below hB)).mono ?_
  rintro e w1 ⟨rfl, hb1⟩
  have q0 := q0.below hb1 q0.lt
  have q1 := q1.below hb1 q1.lt
  have hB := hB.trans (hb1.mono hB.size)
  clear hb1 HI HQ
  have x1 : w1.cell? ⟨w.heap.size, 1, none⟩ = some (.slice r rs.length a2) := q0.cell 1
  have y1 : w1.cell? ⟨w.heap.size + 1, 1, none⟩ = some (.slice s rs.length b2) := q1.cell 1
  go_wp2_with fail
  refine (HR.out _ (HX.out.2.2.1.below hB) (HX.out.2.2.2.below hB)).mono ?_
  rintro e w2 ⟨rfl, hb2⟩
  have q0 := q0.below hb2 q0.lt
  have q1 := q1.below hb2 q1.lt
  have hB := hB.trans (hb2.mono hB.size)
  clear hb2 HR x1 y1
  have x2 : w2.cell? ⟨w.heap.size, 2, none⟩ = some (.int .i64 now) := q0.cell 2
  have y2 : w2.cell? ⟨w.heap.size + 1, 2, none⟩ = some (.int .i64 now) := q1.cell 2
  go_wp2
  go_ret
  exact ⟨rfl, hB⟩
set_option maxRecDepth 100000 in
set_option maxHeartbeats 2000000 in
theorem toInst_any (x : Option Addr) (c1 : Nat) (y : Option Addr) (c2 : Nat) (is : List If) (rs : List Rt) (now : Int) (w : World) (h1 : ArgI w x is.length is) (h2 : ArgR w y rs.length rs) (hn1 : is.length ≤ 1048576) (hn2 : rs.length ≤ 1048576) :
    Calls Tryz.prog 90 #[instV x is.length c1 y rs.length c2 now] w fun e w' => ∃ g h, e = .returned (instV (some ⟨g, 0, none⟩) is.length is.length (some ⟨h, 0, none⟩) rs.length rs.length now) ∧ Row w' g 72 (rowI is) ∧ Row w' h 144 (rowR rs) ∧ Below w.heap.size w w' := by
  have HI : Hid (∀ w, ArgI w x is.length is → Calls Tryz.prog 129 #[.slice x is.length c1] w fun e w' => ∃ g, e = .returned (.slice (some ⟨g, 0, none⟩) is.length is.length) ∧ w.heap.size ≤ g ∧ Row w' g 72 (rowI is) ∧ Below w.heap.size w w') := fun w h => toIfaceS_any x c1 is w h hn1
  have HR : Hid (∀ w, ArgR w y rs.length rs → Calls Tryz.prog 130 #[.agg #[.slice y rs.length c2]] w fun e w' => ∃ g, e = .returned (.agg #[.slice (some ⟨g, 0, none⟩) rs.length rs.length]) ∧ w.heap.size ≤ g ∧ Row w' g 144 (rowR rs) ∧ Below w.heap.size w w') := fun w h => toRib_any y c2 rs w h hn2
  have HX : Hid (ArgI w x is.length is ∧ ArgR w y rs.length rs) := ⟨h1, h2⟩
  clear h1 h2 hn1 hn2
  unfold instV
  generalize is.length = n1 at *
  generalize rs.length = n2 at *
  obtain ⟨W, hW, q0, q1, q2, hB, hS⟩ := three_new w [.slice x n1 c1, .slice y n2 c2, .int .i64 now] [.slice none 0 0, .slice none 0 0, .int .i64 0] [.slice none 0 0, .slice none 0 0, .int .i64 0] 88 51 51
  have HW : Hid _ := hW
  have HQ : Hid _ := And.intro q0 (And.intro q1 (And.intro q2 hB))
  clear hW q0 q1 q2 hB
  go_enter Tryz.func90, Tryz.ntmps90
  go_wp2_with fail
  rw [← HW.out]
  obtain ⟨q0, q1, q2, hB⟩ := HQ.out
  refine (HI.out _ (HX.out.1.below hB)).mono ?_
  rintro e w1 ⟨g, rfl, hg, rg, hb1⟩
  have q0 := q0.below hb1 q0.lt
  have q1 := q1.below hb1 q1.lt
  have q2 := q2.below hb1 q2.lt
  have hB := hB.trans (hb1.mono (by omega))
  have hs1 := hb1.size
  clear hb1 HI HW HQ
  have x1 : w1.cell? ⟨w.heap.size, 1, none⟩ = some (.slice y n2 c2) := q0.cell 1
  have f0 : w1.frozen? ⟨w.heap.size + 1 + 1, 0, none⟩ = false := q2.frozen 0
  have z0 : w1.cell? ⟨w.heap.size + 1 + 1, 0, none⟩ = some (.slice none 0 0) := q2.cell 0
  have HE : Hid _ := And.intro (q0.other 0 (.slice (some ⟨g, 0, none⟩) n1 n1) (show w.heap.size ≠ w.heap.size + 1 + 1 by omega)) (And.intro (q1.other 0 (.slice (some ⟨g, 0, none⟩) n1 n1) (show w.heap.size + 1 ≠ w.heap.size + 1 + 1 by omega)) (And.intro (q2.set 0 (.slice (some ⟨g, 0, none⟩) n1 n1)) (And.intro (rg.other 0 (.slice (some ⟨g, 0, none⟩) n1 n1) (show g ≠ w.heap.size + 1 + 1 by omega)) (hB.setCell (p := ⟨w.heap.size + 1 + 1, 0, none⟩) (by show w.heap.size ≤ w.heap.size + 1 + 1; omega) (.slice (some ⟨g, 0, none⟩) n1 n1)))))
  clear q0 q1 q2 rg hB
  go_wp2_with fail
  clear x1 f0 z0
  have hsz : (w1.setCell ⟨w.heap.size + 1 + 1, 0, none⟩ (.slice (some ⟨g, 0, none⟩) n1 n1)).heap.size = w1.heap.size := by simp
  generalize w1.setCell ⟨w.heap.size + 1 + 1, 0, none⟩ (.slice (some ⟨g, 0, none⟩) n1 n1) = W1 at *
  obtain ⟨q0, q1, q2, rg, hB⟩ := HE.out
  clear HE
  refine (HR.out _ (HX.out.2.below hB)).mono ?_
  rintro e w2 ⟨h, rfl, hh, rh, hb2⟩
  have q0 := q0.below hb2 q0.lt
  have q1 := q1.below hb2 q1.lt
  have q2 := q2.below hb2 q2.lt
  have rg := rg.below hb2 rg.lt
  have hB := hB.trans (hb2.mono hB.size)
  clear hb2 HR
  have x2 : w2.cell? ⟨w.heap.size, 2, none⟩ = some (.int .i64 now) := q0.cell 2
  have a0 : w2.cell? ⟨w.heap.size + 1 + 1, 0, none⟩ = some (.slice (some ⟨g, 0, none⟩) n1 n1) := q2.cell 0
  have f0 : w2.frozen? ⟨w.heap.size + 1 + 1, 0, none⟩ = false := q2.frozen 0
  have a1 : w2.cell? ⟨w.heap.size + 1 + 1, 1, none⟩ = some (.slice none 0 0) := q2.cell 1
  have f1 : w2.frozen? ⟨w.heap.size + 1 + 1, 1, none⟩ = false := q2.frozen 1
  have a2 : w2.cell? ⟨w.heap.size + 1 + 1, 2, none⟩ = some (.int .i64 0) := q2.cell 2
  have f2 : w2.frozen? ⟨w.heap.size + 1 + 1, 2, none⟩ = false := q2.frozen 2
  have b0 : w2.cell? ⟨w.heap.size + 1, 0, none⟩ = some (.slice none 0 0) := q1.cell 0
  have e0 : w2.frozen? ⟨w.heap.size + 1, 0, none⟩ = false := q1.frozen 0
  have b1 : w2.cell? ⟨w.heap.size + 1, 1, none⟩ = some (.slice none 0 0) := q1.cell 1
  have e1 : w2.frozen? ⟨w.heap.size + 1, 1, none⟩ = false := q1.frozen 1
  have b2 : w2.cell? ⟨w.heap.size + 1, 2, none⟩ = some (.int .i64 0) := q1.cell 2
  have e2 : w2.frozen? ⟨w.heap.size + 1, 2, none⟩ = false := q1.frozen 2
  have ng2 : g ≠ w.heap.size + 1 + 1 := by omega
  have ng1 : g ≠ w.heap.size + 1 := by omega
  have nh2 : h ≠ w.heap.size + 1 + 1 := by omega
  have nh1 : h ≠ w.heap.size + 1 := by omega
  have n12 : w.heap.size + 1 ≠ w.heap.size + 1 + 1 := by omega
  have HF : Hid (Row (((((w2.setCell ⟨w.heap.size + 1 + 1, 1, none⟩ (.slice (some ⟨h, 0, none⟩) n2 n2)).setCell ⟨w.heap.size + 1 + 1, 2, none⟩ (.int .i64 now)).setCell ⟨w.heap.size + 1, 0, none⟩ (.slice (some ⟨g, 0, none⟩) n1 n1)).setCell ⟨w.heap.size + 1, 1, none⟩ (.slice (some ⟨h, 0, none⟩) n2 n2)).setCell ⟨w.heap.size + 1, 2, none⟩ (.int .i64 now)) (w.heap.size + 1) 51 [.slice (some ⟨g, 0, none⟩) n1 n1, .slice (some ⟨h, 0, none⟩) n2 n2, .int .i64 now] ∧ Row (((((w2.setCell ⟨w.heap.size + 1 + 1, 1, none⟩ (.slice (some ⟨h, 0, none⟩) n2 n2)).setCell ⟨w.heap.size + 1 + 1, 2, none⟩ (.int .i64 now)).setCell ⟨w.heap.size + 1, 0, none⟩ (.slice (some ⟨g, 0, none⟩) n1 n1)).setCell ⟨w.heap.size + 1, 1, none⟩ (.slice (some ⟨h, 0, none⟩) n2 n2)).setCell ⟨w.heap.size + 1, 2, none⟩ (.int .i64 now)) g 72 (rowI is) ∧ Row (((((w2.setCell ⟨w.heap.size + 1 + 1, 1, none⟩ (.slice (some ⟨h, 0, none⟩) n2 n2)).setCell ⟨w.heap.size + 1 + 1, 2, none⟩ (.int .i64 now)).setCell ⟨w.heap.size + 1, 0, none⟩ (.slice (some ⟨g, 0, none⟩) n1 n1)).setCell ⟨w.heap.size + 1, 1, none⟩ (.slice (some ⟨h, 0, none⟩) n2 n2)).setCell ⟨w.heap.size + 1, 2, none⟩ (.int .i64 now)) h 144 (rowR rs) ∧ Below w.heap.size w (((((w2.setCell ⟨w.heap.size + 1 + 1, 1, none⟩ (.slice (some ⟨h, 0, none⟩) n2 n2)).setCell ⟨w.heap.size + 1 + 1, 2, none⟩ (.int .i64 now)).setCell ⟨w.heap.size + 1, 0, none⟩ (.slice (some ⟨g, 0, none⟩) n1 n1)).setCell ⟨w.heap.size + 1, 1, none⟩ (.slice (some ⟨h, 0, none⟩) n2 n2)).setCell ⟨w.heap.size + 1, 2, none⟩ (.int .i64 now))) := ⟨((((((q1.other 1 (.slice (some ⟨h, 0, none⟩) n2 n2) n12).other 2 (.int .i64 now) n12).set 0 (.slice (some ⟨g, 0, none⟩) n1 n1)).set 1 (.slice (some ⟨h, 0, none⟩) n2 n2)).set 2 (.int .i64 now))), ((((((rg).other 1 (.slice (some ⟨h, 0, none⟩) n2 n2) ng2).other 2 (.int .i64 now) ng2).other 0 (.slice (some ⟨g, 0, none⟩) n1 n1) ng1).other 1 (.slice (some ⟨h, 0, none⟩) n2 n2) ng1).other 2 (.int .i64 now) ng1), ((((((rh).other 1 (.slice (some ⟨h, 0, none⟩) n2 n2) nh2).other 2 (.int .i64 now) nh2).other 0 (.slice (some ⟨g, 0, none⟩) n1 n1) nh1).other 1 (.slice (some ⟨h, 0, none⟩) n2 n2) nh1).other 2 (.int .i64 now) nh1), (((((hB.setCell (p := ⟨w.heap.size + 1 + 1, 1, none⟩) (by show w.heap.size ≤ w.heap.size + 1 + 1; omega) (.slice (some ⟨h, 0, none⟩) n2 n2)).setCell (p := ⟨w.heap.size + 1 + 1, 2, none⟩) (by show w.heap.size ≤ w.heap.size + 1 + 1; omega) (.int .i64 now)).setCell (p := ⟨w.heap.size + 1, 0, none⟩) (by show w.heap.size ≤ w.heap.size + 1; omega) (.slice (some ⟨g, 0, none⟩) n1 n1)).setCell (p := ⟨w.heap.size + 1, 1, none⟩) (by show w.heap.size ≤ w.heap.size + 1; omega) (.slice (some ⟨h, 0, none⟩) n2 n2)).setCell (p := ⟨w.heap.size + 1, 2, none⟩) (by show w.heap.size ≤ w.heap.size + 1; omega) (.int .i64 now))⟩
  clear q0 q1 q2 rg rh hB
  go_wp2_with fail
  have hF := HF.out
  clear HF x2 a0 f0 b0 e0 a1 f1 b1 e1 a2 f2 b2 e2
  generalize (((((w2.setCell ⟨w.heap.size + 1 + 1, 1, none⟩ (.slice (some ⟨h, 0, none⟩) n2 n2)).setCell ⟨w.heap.size + 1 + 1, 2, none⟩ (.int .i64 now)).setCell ⟨w.heap.size + 1, 0, none⟩ (.slice (some ⟨g, 0, none⟩) n1 n1)).setCell ⟨w.heap.size + 1, 1, none⟩ (.slice (some ⟨h, 0, none⟩) n2 n2)).setCell ⟨w.heap.size + 1, 2, none⟩ (.int .i64 now)) = Z at *
  obtain ⟨k1, k2, k3, k4⟩ := hF
  have e0 : Z.cell? ⟨w.heap.size + 1, 0, none⟩ = some (.slice (some ⟨g, 0, none⟩) n1 n1) := k1.cell 0
  have e1 : Z.cell? ⟨w.heap.size + 1, 1, none⟩ = some (.slice (some ⟨h, 0, none⟩) n2 n2) := k1.cell 1
  have e2 : Z.cell? ⟨w.heap.size + 1, 2, none⟩ = some (.int .i64 now) := k1.cell 2
  exact bodyPost_ret (v := .agg #[.slice (some ⟨g, 0, none⟩) n1 n1, .slice (some ⟨h, 0, none⟩) n2 n2, .int .i64 now]) (by simp [results, Tryz.results90, go_sem, e0, e1, e2]) rfl ⟨g, h, rfl, k2, k3, k4⟩
section
variable {H : Type} {enc : TypeId × Value → H} {w : World} {base : Nat} {spare : Nat → Bool} {held : Bool}
theorem Tryz.cellsInst : Tryz.prog.cellsOf 88 = 3 := by kernel_rfl
theorem Tryz.cellsIfsI : Tryz.prog.cellsOf 83 = 1 := by kernel_rfl
theorem Tryz.cellsRibI : Tryz.prog.cellsOf 86 = 1 := by kernel_rfl
theorem Tryz.cellsIntN : Tryz.prog.cellsOf 2 = 1 := by kernel_rfl
set_option maxRecDepth 100000 in
theorem open_instV {r : Reach} {b0 : Nat} {v : Value} {d : DataW H} {p : List MemPlace} (hv : Value.okWide Tryz.prog w r b0 88 v) (h : DataW.Trod enc Tryz.prog w base spare held 88 v d p) :
    ∃ x n1 c1 is y n2 c2 rs now, v = instV x n1 c1 y n2 c2 now ∧ ArgI w x n1 is ∧ ArgR w y n2 rs ∧ (Lit.int .i64 now).wf = true := by
  obtain ⟨cs, rfl, hsz⟩ := okWide_struct Tryz.underlying88 hv
  rw [Tryz.cellsInst] at hsz
  obtain ⟨l⟩ := cs
  match l, hsz with
  | [e0, e1, e2], _ =>
    obtain ⟨fuel, hf⟩ := h
    obtain ⟨xs, n, _, _, hl, hx, hg⟩ := DataW.trod_struct Tryz.underlying88 hf
    match xs, hx with
    | [y0, y1, y2], _ =>
      have h0 : DataW.trod enc Tryz.prog w base spare held n 83 ((([e0, e1, e2] : List Value).drop 0).take (Tryz.prog.cellsOf 83)) = [y0, y1, y2][0]? := hg 0 _ rfl
      rw [Tryz.cellsIfsI] at h0
      replace h0 : DataW.trod enc Tryz.prog w base spare held n 83 [e0] = some y0 := h0
      have h1 : DataW.trod enc Tryz.prog w base spare held n 86 ((([e0, e1, e2] : List Value).drop 1).take (Tryz.prog.cellsOf 86)) = [y0, y1, y2][1]? := hg 1 _ rfl
      rw [Tryz.cellsRibI] at h1
      replace h1 : DataW.trod enc Tryz.prog w base spare held n 86 [e1] = some y1 := h1
      have h2 : DataW.trod enc Tryz.prog w base spare held n 2 ((([e0, e1, e2] : List Value).drop 2).take (Tryz.prog.cellsOf 2)) = [y0, y1, y2][2]? := hg 2 _ rfl
      rw [Tryz.cellsIntN] at h2
      replace h2 : DataW.trod enc Tryz.prog w base spare held n 2 [e2] = some y2 := h2
      obtain ⟨xs', n', _, _, hl', hx', hg'⟩ := DataW.trod_struct Tryz.underlying86 h1
      match xs', hx' with
      | [z0], _ =>
        have k0 : DataW.trod enc Tryz.prog w base spare held n' 84 ((([e1] : List Value).drop 0).take (Tryz.prog.cellsOf 84)) = [z0][0]? := hg' 0 _ rfl
        rw [Tryz.cellsRibS] at k0
        replace k0 : DataW.trod enc Tryz.prog w base spare held n' 84 [e1] = some z0 := k0
        obtain ⟨x, n1, c1, is, rfl, hA⟩ := open_ifs h0
        obtain ⟨y, n2, c2, rs, rfl, hR⟩ := open_rts k0
        obtain ⟨now, en, _, wn⟩ := DataW.trod_int Tryz.underlying2 h2
        simp only [List.cons.injEq, and_true] at en
        subst en
        exact ⟨x, n1, c1, is, y, n2, c2, rs, now, rfl, hA, hR, wn⟩
end
end Go.Proofs.YtialedffpaoacaaGreatDoor
/- Ifaces that are unlike: by the program. (Written by gen_ifsr.py.) -/
namespace Go.Proofs.YtialedffpaoacaaGreatDoor
open Go.RowKit Go.Sort

def likeI (f g : If) : Bool := decide (f.d = g.d) || (decide (f.a = g.a) && decide (f.l = g.l))
def unlikeB (f : If) (rs : List If) : Bool := rs.all fun g => !likeI f g
theorem unlikeB_bad {f : If} {rs : List If} {k : Nat} (hk : k < rs.length) (h : likeI f rs[k] = true) : unlikeB f rs = false := by
  unfold unlikeB
  rw [List.all_eq_false]
  exact ⟨rs[k], List.getElem_mem hk, by simp [h]⟩
theorem unlikeB_good {f : If} {rs : List If} (h : ∀ j (hj : j < rs.length), likeI f rs[j] = false) : unlikeB f rs = true := by
  unfold unlikeB
  rw [List.all_eq_true]
  intro g hg
  obtain ⟨j, hj, rfl⟩ := List.mem_iff_getElem.1 hg
  simp [h j hj]
set_option maxRecDepth 100000 in
set_option maxHeartbeats 2000000 in
theorem unlike_any (f : If) (p : Option Addr) (cap : Nat) (rs : List If) (w : World) (h : IfsIn w p rs) (hn : rs.length ≤ 100000000) :
    Calls Tryz.prog 166 #[ifV f, .slice p rs.length cap] w fun e w' => e = .returned (.bool (unlikeB f rs)) ∧ Below w.heap.size w w' := by
  have HX : Hid (IfsIn w p rs) := h
  have HB1 : Hid (∀ k (hk : k < rs.length), likeI f rs[k] = true → unlikeB f rs = false) := fun k hk h => unlikeB_bad hk h
  have HG : Hid ((∀ j (hj : j < rs.length), likeI f rs[j] = false) → unlikeB f rs = true) := fun h => unlikeB_good h
  clear h
  generalize unlikeB f rs = R at *
  obtain ⟨d, a, l, c, u⟩ := f
  unfold ifV ifA
  simp only
  go_enter Tryz.func166, Tryz.ntmps166
  go_wp2_with fail
  go_loopw [9] (fun i wr => ∃ k : Nat, k ≤ rs.length ∧ i = .int .i64 k ∧ (∀ j (hj : j < rs.length), j < k → likeI ⟨d, a, l, c, u⟩ rs[j] = false) ∧ Row wr w.heap.size 72 [.int .i64 d, .int .i64 a, .int .i64 l, .int .i64 c, .bool u] ∧ Below w.heap.size w wr) (fun i _ => rs.length - (intOf i).toNat)
  case atStart => exact ⟨0, Nat.zero_le _, rfl, fun j _ hj => absurd hj (by omega), Row.new w 72 [.int .i64 d, .int .i64 a, .int .i64 l, .int .i64 c, .bool u], ent_new0 w _⟩
  case round =>
    obtain ⟨k, hk, rfl, ha, q, hB⟩ := hrel
    by_cases hlt : k < rs.length
    · have d1 : decide ((k : Int) < (rs.length : Int)) = true := by simpa using hlt
      obtain ⟨g, D, A, L, C, U, rfl, hg, hek, c0, c1, c2, c3, c4⟩ := (HX.out.below hB).at k hlt
      have HBad : Hid (likeI ⟨d, a, l, c, u⟩ rs[k] = true → R = false) := HB1.out k hlt
      have hNx : likeI ⟨d, a, l, c, u⟩ rs[k] = false → ∀ j (hj : j < rs.length), j < k + 1 → likeI ⟨d, a, l, c, u⟩ rs[j] = false := fun h j hj hjk => by
        rcases Nat.lt_or_ge j k with h' | h'
        · exact ha j hj h'
        · obtain rfl : j = k := by omega
          exact h
      have hBr := hB.alloc hB.size (.cells #[.int .i64 D, .int .i64 A, .int .i64 L, .int .i64 C, .bool U] 72)
      clear HB1 HG ha hB
      by_cases e0 : d = D
      · have z0 : (d == D) = true := by simpa using e0
        subst e0
        clear hNx
        have p := q.alloc (.cells #[.int .i64 d, .int .i64 A, .int .i64 L, .int .i64 C, .bool U] 72)
        have f0 : (wr.alloc (.cells #[.int .i64 d, .int .i64 A, .int .i64 L, .int .i64 C, .bool U] 72)).cell? ⟨w.heap.size, 0, none⟩ = some (.int .i64 d) := p.cell 0
        have f1 : (wr.alloc (.cells #[.int .i64 d, .int .i64 A, .int .i64 L, .int .i64 C, .bool U] 72)).cell? ⟨w.heap.size, 1, none⟩ = some (.int .i64 a) := p.cell 1
        have f2 : (wr.alloc (.cells #[.int .i64 d, .int .i64 A, .int .i64 L, .int .i64 C, .bool U] 72)).cell? ⟨w.heap.size, 2, none⟩ = some (.int .i64 l) := p.cell 2
        clear p
        go_wp2_with fail
        go_ret
        exact ⟨ret_bool (HBad.out (by rw [hek]; simp [likeI, *])).symm, hBr⟩
      · have z0 : (d == D) = false := by simpa using e0
        by_cases e1 : a = A
        · have z1 : (a == A) = true := by simpa using e1
          by_cases e2 : l = L
          · have z2 : (l == L) = true := by simpa using e2
            subst e1 e2
            clear hNx
            have p := q.alloc (.cells #[.int .i64 D, .int .i64 a, .int .i64 l, .int .i64 C, .bool U] 72)
            have f0 : (wr.alloc (.cells #[.int .i64 D, .int .i64 a, .int .i64 l, .int .i64 C, .bool U] 72)).cell? ⟨w.heap.size, 0, none⟩ = some (.int .i64 d) := p.cell 0
            have f1 : (wr.alloc (.cells #[.int .i64 D, .int .i64 a, .int .i64 l, .int .i64 C, .bool U] 72)).cell? ⟨w.heap.size, 1, none⟩ = some (.int .i64 a) := p.cell 1
            have f2 : (wr.alloc (.cells #[.int .i64 D, .int .i64 a, .int .i64 l, .int .i64 C, .bool U] 72)).cell? ⟨w.heap.size, 2, none⟩ = some (.int .i64 l) := p.cell 2
            clear p
            go_wp2_with fail
            go_ret
            exact ⟨ret_bool (HBad.out (by rw [hek]; simp [likeI, *])).symm, hBr⟩
          · have z2 : (l == L) = false := by simpa using e2
            have HNx : Hid _ := hNx (by rw [hek]; simp [likeI, e0, e2])
            clear HBad hek hNx e0 e1 e2
            have p := q.alloc (.cells #[.int .i64 D, .int .i64 A, .int .i64 L, .int .i64 C, .bool U] 72)
            have f0 : (wr.alloc (.cells #[.int .i64 D, .int .i64 A, .int .i64 L, .int .i64 C, .bool U] 72)).cell? ⟨w.heap.size, 0, none⟩ = some (.int .i64 d) := p.cell 0
            have f1 : (wr.alloc (.cells #[.int .i64 D, .int .i64 A, .int .i64 L, .int .i64 C, .bool U] 72)).cell? ⟨w.heap.size, 1, none⟩ = some (.int .i64 a) := p.cell 1
            have f2 : (wr.alloc (.cells #[.int .i64 D, .int .i64 A, .int .i64 L, .int .i64 C, .bool U] 72)).cell? ⟨w.heap.size, 2, none⟩ = some (.int .i64 l) := p.cell 2
            clear p
            go_wp2_with fail
            go_roundw
            case rel => exact ⟨k + 1, hlt, by go_num, HNx.out, q.alloc _, hBr⟩
            case measure => simp [intOf]; omega
        · have z1 : (a == A) = false := by simpa using e1
          have HNx : Hid _ := hNx (by rw [hek]; simp [likeI, e0, e1])
          clear HBad hek hNx e0 e1
          have p := q.alloc (.cells #[.int .i64 D, .int .i64 A, .int .i64 L, .int .i64 C, .bool U] 72)
          have f0 : (wr.alloc (.cells #[.int .i64 D, .int .i64 A, .int .i64 L, .int .i64 C, .bool U] 72)).cell? ⟨w.heap.size, 0, none⟩ = some (.int .i64 d) := p.cell 0
          have f1 : (wr.alloc (.cells #[.int .i64 D, .int .i64 A, .int .i64 L, .int .i64 C, .bool U] 72)).cell? ⟨w.heap.size, 1, none⟩ = some (.int .i64 a) := p.cell 1
          have f2 : (wr.alloc (.cells #[.int .i64 D, .int .i64 A, .int .i64 L, .int .i64 C, .bool U] 72)).cell? ⟨w.heap.size, 2, none⟩ = some (.int .i64 l) := p.cell 2
          clear p
          go_wp2_with fail
          go_roundw
          case rel => exact ⟨k + 1, hlt, by go_num, HNx.out, q.alloc _, hBr⟩
          case measure => simp [intOf]; omega
    · obtain rfl : k = rs.length := by omega
      have d1 : decide ((rs.length : Int) < (rs.length : Int)) = false := by simp
      have hR := HG.out (fun j hj => ha j hj hj)
      clear hlt hk HB1 HG ha
      go_wp2
      go_ret
      exact ⟨by rw [hR]; rfl, hB⟩
end Go.Proofs.YtialedffpaoacaaGreatDoor
/- The Ifaces of a router, right: by the program. (Written by gen_ifsr.py.) -/
namespace Go.Proofs.YtialedffpaoacaaGreatDoor
open Go.RowKit Go.Sort

def ifsOk (rs : List If) (k : Nat) : Bool := ifB rs[k]! && unlikeB rs[k]! (rs.take k)
def ifsB (rs : List If) : Bool := decide (rs.length ≤ 3) && (List.range rs.length).all (ifsOk rs)
theorem ifsB_bad {rs : List If} {k : Nat} (hk : k < rs.length) (h : ifsOk rs k = false) : ifsB rs = false := by
  unfold ifsB
  rw [Bool.and_eq_false_iff]
  right
  rw [List.all_eq_false]
  exact ⟨k, List.mem_range.2 hk, by simp [h]⟩
theorem ifsB_good {rs : List If} (h3 : rs.length ≤ 3) (h : ∀ j, j < rs.length → ifsOk rs j = true) : ifsB rs = true := by
  unfold ifsB
  rw [decide_eq_true h3, Bool.true_and, List.all_eq_true]
  intro j hj
  exact h j (List.mem_range.1 hj)
theorem get_bangI {rs : List If} {k : Nat} (h : k < rs.length) : rs[k]! = rs[k] := by simp [h]
theorem IfsIn.take {w : World} {p : Option Addr} {rs : List If} (h : IfsIn w p rs) (k : Nat) : IfsIn w p (rs.take k) := by
  rcases h with rfl | ⟨g, e, hg, hc⟩
  · exact .inl (by simp)
  · refine .inr ⟨g, e, hg, fun j u hj => hc j u ?_⟩
    rw [← List.take_append_drop k rs, rowI_append, List.getElem?_append_left (List.getElem?_eq_some_iff.1 hj).1]
    exact hj
theorem sliceI_upto (g n cap k : Nat) (x : Int) (hx : x = k) (hk : k ≤ cap) (w : World) : (Instr.slice 46 (.slice (some ⟨g, 0, none⟩) n cap) none (some (.int .i64 x)) none).run Tryz.prog w = .ok (.slice (some ⟨g, 0, none⟩) k cap) w := by
  subst hx
  have hb := run_sliceBound (P := Tryz.prog) w .i64 (k : Int) cap .sliceAcap (by omega) (by omega)
  have ha : (⟨g, 0, none⟩ : Addr).add 0 = ⟨g, 0, none⟩ := by unfold Addr.add; simp
  unfold Instr.slice Instr.sliceBounds
  simp [Sem.run_bind, run_underlying Tryz.underlying46, hb, ha]
set_option maxRecDepth 100000 in
set_option maxHeartbeats 4000000 in
theorem ifacesRight_any (p : Option Addr) (cap : Nat) (rs : List If) (w : World) (h : IfsIn w p rs) (hcl : rs.length ≤ cap) (hn : rs.length ≤ 100000000) :
    Calls Tryz.prog 117 #[.slice p rs.length cap] w fun e w' => e = .returned (.bool (ifsB rs)) ∧ Below w.heap.size w w' := by
  have HX : Hid (IfsIn w p rs) := h
  have HB1 : Hid (∀ k, k < rs.length → ifsOk rs k = false → ifsB rs = false) := fun k hk h => ifsB_bad hk h
  clear h
  by_cases h3 : rs.length ≤ 3
  · have d3 : decide (3 < (rs.length : Int)) = false := by simp; omega
    have HG : Hid ((∀ j, j < rs.length → ifsOk rs j = true) → ifsB rs = true) := fun h => ifsB_good h3 h
    generalize ifsB rs = R at *
    go_enter Tryz.func117, Tryz.ntmps117
    go_wp2_with fail
    go_loopw [10] (fun i wr => ∃ k : Nat, k ≤ rs.length ∧ i = .int .i64 k ∧ (∀ j, j < k → ifsOk rs j = true) ∧ Below w.heap.size w wr) (fun i _ => rs.length - (intOf i).toNat)
    case atStart => exact ⟨0, Nat.zero_le _, rfl, fun j hj => absurd hj (by omega), Below.refl _ _⟩
    case round =>
      obtain ⟨k, hk, rfl, ha, hB⟩ := hrel
      by_cases hlt : k < rs.length
      · have d1 : decide ((k : Int) < (rs.length : Int)) = true := by simpa using hlt
        obtain ⟨g, D, A, L, C, U, rfl, hg, hek, c0, c1, c2, c3, c4⟩ := (HX.out.below hB).at k hlt
        have hok : ifsOk rs k = (ifB ⟨D, A, L, C, U⟩ && unlikeB ⟨D, A, L, C, U⟩ (rs.take k)) := by unfold ifsOk; rw [get_bangI hlt, hek]
        have HI : Hid (∀ w, Calls Tryz.prog 165 #[.agg #[.int .i64 D, .int .i64 A, .int .i64 L, .int .i64 C, .bool U]] w fun e w' => e = .returned (.bool (ifB ⟨D, A, L, C, U⟩)) ∧ Below w.heap.size w w') := implIface_any ⟨D, A, L, C, U⟩
        have HU : Hid (∀ w, IfsIn w (some ⟨g, 0, none⟩) (rs.take k) → Calls Tryz.prog 166 #[.agg #[.int .i64 D, .int .i64 A, .int .i64 L, .int .i64 C, .bool U], .slice (some ⟨g, 0, none⟩) k cap] w fun e w' => e = .returned (.bool (unlikeB ⟨D, A, L, C, U⟩ (rs.take k))) ∧ Below w.heap.size w w') := fun w h => by
          have := unlike_any ⟨D, A, L, C, U⟩ (some ⟨g, 0, none⟩) cap (rs.take k) w h (by rw [List.length_take]; omega)
          rw [List.length_take, Nat.min_eq_left (by omega)] at this
          exact this
        have hX1 := ((HX.out.below hB).alloc (.cells #[.int .i64 D, .int .i64 A, .int .i64 L, .int .i64 C, .bool U] 72)).take k
        have qn := Row.new wr 72 [.int .i64 D, .int .i64 A, .int .i64 L, .int .i64 C, .bool U]
        have HBad : Hid (ifsOk rs k = false → R = false) := HB1.out k hlt
        have hNx : ifsOk rs k = true → ∀ j, j < k + 1 → ifsOk rs j = true := fun h j hj => by
          rcases Nat.lt_or_ge j k with h' | h'
          · exact ha j h'
          · obtain rfl : j = k := by omega
            exact h
        have HNx : Hid _ := hNx
        rw [hok] at HNx HBad
        have hBr := hB.alloc hB.size (.cells #[.int .i64 D, .int .i64 A, .int .i64 L, .int .i64 C, .bool U] 72)
        have hsl := sliceI_upto g rs.length cap k (k : Int) rfl (by omega)
        have y0 : (wr.alloc (.cells #[.int .i64 D, .int .i64 A, .int .i64 L, .int .i64 C, .bool U] 72)).cell? ⟨wr.heap.size, 0, none⟩ = some (.int .i64 D) := qn.cell 0
        have y1 : (wr.alloc (.cells #[.int .i64 D, .int .i64 A, .int .i64 L, .int .i64 C, .bool U] 72)).cell? ⟨wr.heap.size, 1, none⟩ = some (.int .i64 A) := qn.cell 1
        have y2 : (wr.alloc (.cells #[.int .i64 D, .int .i64 A, .int .i64 L, .int .i64 C, .bool U] 72)).cell? ⟨wr.heap.size, 2, none⟩ = some (.int .i64 L) := qn.cell 2
        have y3 : (wr.alloc (.cells #[.int .i64 D, .int .i64 A, .int .i64 L, .int .i64 C, .bool U] 72)).cell? ⟨wr.heap.size, 3, none⟩ = some (.int .i64 C) := qn.cell 3
        have y4 : (wr.alloc (.cells #[.int .i64 D, .int .i64 A, .int .i64 L, .int .i64 C, .bool U] 72)).cell? ⟨wr.heap.size, 4, none⟩ = some (.bool U) := qn.cell 4
        clear HB1 HG ha hB hok hNx qn hek
        generalize unlikeB ⟨D, A, L, C, U⟩ (rs.take k) = UB at *
        generalize ifB ⟨D, A, L, C, U⟩ = IB at *
        cases IB
        · clear HU hsl
          go_wp2_with fail
          replace y0 := cell_regrown y0
          replace y1 := cell_regrown y1
          replace y2 := cell_regrown y2
          replace y3 := cell_regrown y3
          replace y4 := cell_regrown y4
          refine wp_region_quiet_below (by kernel_rfl) (by kernel_rfl) ?_
          repeat (go_big_quiet_step (first | (go_at_call 165; exact Calls.regrown_of (HI.out _))))
          refine wpQuiet_nil ?_
          intro w1 hw'
          obtain ⟨⟨dq, osq⟩, hw''⟩ := hw'
          have hbq := below_regrown (wr.alloc (.cells #[.int .i64 D, .int .i64 A, .int .i64 L, .int .i64 C, .bool U] 72)) dq osq
          rw [← hw''] at hbq
          clear hw'' osq dq y0 y1 y2 y3 y4
          have hB2 := hBr.trans (hbq.mono hBr.size)
          clear hbq
          go_wp2
          go_ret
          exact ⟨ret_bool (HBad.out (by rfl)).symm, hB2⟩
        · cases UB
          · clear HNx
            go_wp2_with fail
            replace y0 := cell_regrown y0
            replace y1 := cell_regrown y1
            replace y2 := cell_regrown y2
            replace y3 := cell_regrown y3
            replace y4 := cell_regrown y4
            refine wp_region_quiet_below (by kernel_rfl) (by kernel_rfl) ?_
            repeat (go_big_quiet_step (first | (go_at_call 165; exact Calls.regrown_of (HI.out _)) | (go_at_call 166; exact Calls.regrown_of (HU.out _ (hX1.below (below_regrown _ _ _))))))
            refine wpQuiet_nil ?_
            intro w1 hw'
            obtain ⟨⟨dq, osq⟩, hw''⟩ := hw'
            have hbq := below_regrown (wr.alloc (.cells #[.int .i64 D, .int .i64 A, .int .i64 L, .int .i64 C, .bool U] 72)) dq osq
            rw [← hw''] at hbq
            clear hw'' osq dq y0 y1 y2 y3 y4
            have hB2 := hBr.trans (hbq.mono hBr.size)
            clear hbq
            go_wp2
            go_ret
            exact ⟨ret_bool (HBad.out (by rfl)).symm, hB2⟩
          · clear HBad
            go_wp2_with fail
            replace y0 := cell_regrown y0
            replace y1 := cell_regrown y1
            replace y2 := cell_regrown y2
            replace y3 := cell_regrown y3
            replace y4 := cell_regrown y4
            refine wp_region_quiet_below (by kernel_rfl) (by kernel_rfl) ?_
            repeat (go_big_quiet_step (first | (go_at_call 165; exact Calls.regrown_of (HI.out _)) | (go_at_call 166; exact Calls.regrown_of (HU.out _ (hX1.below (below_regrown _ _ _))))))
            refine wpQuiet_nil ?_
            intro w1 hw'
            obtain ⟨⟨dq, osq⟩, hw''⟩ := hw'
            have hbq := below_regrown (wr.alloc (.cells #[.int .i64 D, .int .i64 A, .int .i64 L, .int .i64 C, .bool U] 72)) dq osq
            rw [← hw''] at hbq
            clear hw'' osq dq y0 y1 y2 y3 y4
            have hB2 := hBr.trans (hbq.mono hBr.size)
            clear hbq
            go_wp2
            go_roundw
            case rel => exact ⟨k + 1, hlt, by go_num, HNx.out (by rfl), hB2⟩
            case measure => simp [intOf]; omega
      · obtain rfl : k = rs.length := by omega
        have d1 : decide ((rs.length : Int) < (rs.length : Int)) = false := by simp
        have hR := HG.out ha
        clear hlt hk HB1 HG ha
        go_wp2
        go_ret
        exact ⟨by rw [hR]; rfl, hB⟩
  · have d3 : decide (3 < (rs.length : Int)) = true := by simp; omega
    have hf : ifsB rs = false := by unfold ifsB; rw [decide_eq_false h3]; rfl
    rw [hf]
    clear HB1 hf
    go_enter Tryz.func117, Tryz.ntmps117
    go_wp2
    go_ret
    exact ⟨rfl, Below.refl _ _⟩
end Go.Proofs.YtialedffpaoacaaGreatDoor
/- The Ifaces of a router, right: by the model. (Written by gen_ifss.py.) -/
namespace Go.Proofs.YtialedffpaoacaaGreatDoor
open Go.RowKit Go.Sort

theorem likeI_comm (f g : If) : likeI f g = likeI g f := by
  unfold likeI
  rw [Bool.eq_iff_iff]
  simp only [Bool.or_eq_true, Bool.and_eq_true, decide_eq_true_eq]
  omega
theorem ifsOk_bad {rs : List If} {k j : Nat} (hk : k < rs.length) (hj : j < k) (h : likeI rs[j]! rs[k]! = true) : ifsOk rs k = false := by
  unfold ifsOk
  rw [Bool.and_eq_false_iff]
  right
  refine unlikeB_bad (k := j) (by rw [List.length_take]; omega) ?_
  rw [List.getElem_take, likeI_comm, ← get_bangI (by omega)]
  exact h
theorem ifsOk_good {rs : List If} {k : Nat} (hk : k < rs.length) (hi : ifB rs[k]! = true) (h : ∀ j, j < k → likeI rs[j]! rs[k]! = false) : ifsOk rs k = true := by
  unfold ifsOk
  rw [hi, Bool.true_and]
  refine unlikeB_good fun j hj => ?_
  rw [List.length_take] at hj
  rw [List.getElem_take, likeI_comm, ← get_bangI (by omega)]
  exact h j (by omega)
set_option maxRecDepth 100000 in
set_option maxHeartbeats 4000000 in
theorem l07Ifaces_any (p : Option Addr) (cap : Nat) (rs : List If) (w : World) (h : IfsIn w p rs) (hn : rs.length ≤ 100000000) :
    Calls Tryz.prog 63 #[.slice p rs.length cap] w fun e w' => e = .returned (.bool (ifsB rs)) ∧ Below w.heap.size w w' := by
  have HX : Hid (IfsIn w p rs) := h
  have HB1 : Hid (∀ k, k < rs.length → ifsOk rs k = false → ifsB rs = false) := fun k hk h => ifsB_bad hk h
  clear h
  by_cases h3 : rs.length ≤ 3
  · have d3 : decide (3 < (rs.length : Int)) = false := by simp; omega
    have HG : Hid ((∀ j, j < rs.length → ifsOk rs j = true) → ifsB rs = true) := fun h => ifsB_good h3 h
    generalize ifsB rs = R at *
    go_enter Tryz.func63, Tryz.ntmps63
    go_wp2_with fail
    go_loopw [3] (fun i wr => ∃ k : Nat, k ≤ rs.length ∧ i = .int .i64 k ∧ (∀ j, j < k → ifsOk rs j = true) ∧ Below w.heap.size w wr) (fun i _ => rs.length - (intOf i).toNat)
    case atStart => exact ⟨0, Nat.zero_le _, rfl, fun j hj => absurd hj (by omega), Below.refl _ _⟩
    case round =>
      obtain ⟨k, hk, rfl, ha, hB⟩ := hrel
      by_cases hlt : k < rs.length
      · have d1 : decide ((k : Int) < (rs.length : Int)) = true := by simpa using hlt
        obtain ⟨g, d, a, l, c, u, rfl, hg, hek, c0, c1, c2, c3, c4⟩ := (HX.out.below hB).at k hlt
        have hbk : rs[k]! = ⟨d, a, l, c, u⟩ := (get_bangI hlt).trans hek
        have HI : Hid (∀ w, Calls Tryz.prog 111 #[.agg #[.int .i64 d, .int .i64 a, .int .i64 l, .int .i64 c, .bool u]] w fun e w' => e = .returned (.bool (ifB ⟨d, a, l, c, u⟩)) ∧ Below w.heap.size w w') := specIface_any ⟨d, a, l, c, u⟩
        have HBad : Hid (ifsOk rs k = false → R = false) := HB1.out k hlt
        have HNxO : Hid (ifsOk rs k = true → ∀ j, j < k + 1 → ifsOk rs j = true) := fun h j hj => by
          rcases Nat.lt_or_ge j k with h' | h'
          · exact ha j h'
          · obtain rfl : j = k := by omega
            exact h
        have HBI : Hid (ifB ⟨d, a, l, c, u⟩ = false → ifsOk rs k = false) := fun h => by unfold ifsOk; rw [hbk, h]; rfl
        have HGo : Hid (ifB ⟨d, a, l, c, u⟩ = true → (∀ j, j < k → likeI rs[j]! rs[k]! = false) → ifsOk rs k = true) := fun h h' => ifsOk_good hlt (by rw [hbk]; exact h) h'
        have HLb : Hid (∀ j, j < k → likeI rs[j]! rs[k]! = true → ifsOk rs k = false) := fun j hj h => ifsOk_bad hlt hj h
        have HBK : Hid _ := hbk
        clear HB1 HG ha hek hbk
        go_wp2_with fail
        refine (HI.out _).mono ?_
        rintro e w1 ⟨rfl, hb1⟩
        have hB1 := hB.trans (hb1.mono hB.size)
        clear hb1 HI c0 c1 c2 c3 c4 hB
        generalize ifB ⟨d, a, l, c, u⟩ = IB at *
        cases IB
        · go_wp2
          go_ret
          exact ⟨ret_bool (HBad.out (HBI.out (by trivial))).symm, hB1⟩
        · clear HBI
          go_wp2_with fail
          go_loopw [4] (fun i wr => ∃ j : Nat, j ≤ k ∧ i = .int .i64 j ∧ (∀ t, t < j → likeI rs[t]! rs[k]! = false) ∧ Below w.heap.size w wr) (fun i _ => k - (intOf i).toNat)
          case atStart => exact ⟨0, Nat.zero_le _, rfl, fun j hj => absurd hj (by omega), hB1⟩
          case round =>
            obtain ⟨j, hj, rfl, hb, hB2⟩ := hrel
            clear hB1
            by_cases hjk : j < k
            · have d2 : decide ((j : Int) < (k : Int)) = true := by simpa using hjk
              have hjN : j < rs.length := by omega
              have d4 : decide ((j : Int) < (rs.length : Int)) = true := by simp; omega
              obtain ⟨g', D, A, L, C, U, hgg, hg', hej, x0, x1, x2, x3, x4⟩ := (HX.out.below hB2).at j hjN
              simp only [Option.some.injEq, Addr.mk.injEq, and_true] at hgg
              subst hgg
              obtain ⟨g', d', a', l', c', u', hgg, hg', hek', y0, y1, y2, y3, y4⟩ := (HX.out.below hB2).at k hlt
              simp only [Option.some.injEq, Addr.mk.injEq, and_true] at hgg
              subst hgg
              have hh := (get_bangI hlt).symm.trans HBK.out
              rw [hek'] at hh
              simp only [If.mk.injEq] at hh
              obtain ⟨rfl, rfl, rfl, rfl, rfl⟩ := hh
              have hlk : likeI rs[j]! rs[k]! = (decide (D = d') || (decide (A = a') && decide (L = l'))) := by rw [get_bangI hjN, get_bangI hlt, hej, hek']; rfl
              have HNe : Hid (likeI rs[j]! rs[k]! = false → ∀ t, t < j + 1 → likeI rs[t]! rs[k]! = false) := fun h t ht => by
                rcases Nat.lt_or_ge t j with h' | h'
                · exact hb t h'
                · obtain rfl : t = j := by omega
                  exact h
              have HLj : Hid (likeI rs[j]! rs[k]! = true → R = false) := fun h => HBad.out (HLb.out j hjk h)
              rw [hlk] at HLj
              have HNe2 : Hid ((decide (D = d') || (decide (A = a') && decide (L = l'))) = false → ∀ t, t < j + 1 → likeI rs[t]! rs[k]! = false) := fun h => HNe.out (by rw [hlk]; exact h)
              clear x3 x4 y3 y4 HNe hlk hek' hej hb HGo HLb HNxO
              by_cases e0 : D = d'
              · have z0 : (D == d') = true := by simpa using e0
                have HLk : Hid (R = false) := HLj.out (by simp [e0])
                clear e0 HLj HNe2 HBad
                go_wp2_with fail
                replace x0 := cell_regrown x0
                replace x1 := cell_regrown x1
                replace x2 := cell_regrown x2
                replace y0 := cell_regrown y0
                replace y1 := cell_regrown y1
                replace y2 := cell_regrown y2
                refine wp_region_quiet_below (by kernel_rfl) (by kernel_rfl) ?_
                repeat (go_big_quiet_step (fail))
                refine wpQuiet_nil ?_
                intro w3 hw'
                obtain ⟨⟨dq, osq⟩, hw''⟩ := hw'
                have hbq := below_regrown wr dq osq
                rw [← hw''] at hbq
                clear hw'' osq dq x0 x1 x2 y0 y1 y2
                have hB3 := hB2.trans (hbq.mono hB2.size)
                clear hbq
                go_wp2
                go_ret
                exact ⟨ret_bool HLk.out.symm, hB3⟩
              · have z0 : (D == d') = false := by simpa using e0
                by_cases e1 : A = a'
                · have z1 : (A == a') = true := by simpa using e1
                  by_cases e2 : L = l'
                  · have z2 : (L == l') = true := by simpa using e2
                    have HLk : Hid (R = false) := HLj.out (by simp [e1, e2])
                    clear e0 e1 e2 HLj HNe2 HBad
                    go_wp2_with fail
                    replace x0 := cell_regrown x0
                    replace x1 := cell_regrown x1
                    replace x2 := cell_regrown x2
                    replace y0 := cell_regrown y0
                    replace y1 := cell_regrown y1
                    replace y2 := cell_regrown y2
                    refine wp_region_quiet_below (by kernel_rfl) (by kernel_rfl) ?_
                    repeat (go_big_quiet_step (fail))
                    refine wpQuiet_nil ?_
                    intro w3 hw'
                    obtain ⟨⟨dq, osq⟩, hw''⟩ := hw'
                    have hbq := below_regrown wr dq osq
                    rw [← hw''] at hbq
                    clear hw'' osq dq x0 x1 x2 y0 y1 y2
                    have hB3 := hB2.trans (hbq.mono hB2.size)
                    clear hbq
                    go_wp2
                    go_ret
                    exact ⟨ret_bool HLk.out.symm, hB3⟩
                  · have z2 : (L == l') = false := by simpa using e2
                    have HNx : Hid _ := HNe2.out (by simp [e0, e2])
                    clear e0 e1 e2 HLj HNe2 HBad
                    go_wp2_with fail
                    replace x0 := cell_regrown x0
                    replace x1 := cell_regrown x1
                    replace x2 := cell_regrown x2
                    replace y0 := cell_regrown y0
                    replace y1 := cell_regrown y1
                    replace y2 := cell_regrown y2
                    refine wp_region_quiet_below (by kernel_rfl) (by kernel_rfl) ?_
                    repeat (go_big_quiet_step (fail))
                    refine wpQuiet_nil ?_
                    intro w3 hw'
                    obtain ⟨⟨dq, osq⟩, hw''⟩ := hw'
                    have hbq := below_regrown wr dq osq
                    rw [← hw''] at hbq
                    clear hw'' osq dq x0 x1 x2 y0 y1 y2
                    have hB3 := hB2.trans (hbq.mono hB2.size)
                    clear hbq
                    go_wp2
                    go_roundw
                    case rel => exact ⟨j + 1, hjk, by go_num, HNx.out, hB3⟩
                    case measure => simp [intOf]; omega
                · have z1 : (A == a') = false := by simpa using e1
                  have HNx : Hid _ := HNe2.out (by simp [e0, e1])
                  clear e0 e1 HLj HNe2 HBad
                  go_wp2_with fail
                  replace x0 := cell_regrown x0
                  replace x1 := cell_regrown x1
                  replace x2 := cell_regrown x2
                  replace y0 := cell_regrown y0
                  replace y1 := cell_regrown y1
                  replace y2 := cell_regrown y2
                  refine wp_region_quiet_below (by kernel_rfl) (by kernel_rfl) ?_
                  repeat (go_big_quiet_step (fail))
                  refine wpQuiet_nil ?_
                  intro w3 hw'
                  obtain ⟨⟨dq, osq⟩, hw''⟩ := hw'
                  have hbq := below_regrown wr dq osq
                  rw [← hw''] at hbq
                  clear hw'' osq dq x0 x1 x2 y0 y1 y2
                  have hB3 := hB2.trans (hbq.mono hB2.size)
                  clear hbq
                  go_wp2
                  go_roundw
                  case rel => exact ⟨j + 1, hjk, by go_num, HNx.out, hB3⟩
                  case measure => simp [intOf]; omega
            · obtain rfl : j = k := by omega
              have d2 : decide ((j : Int) < (j : Int)) = false := by simp
              have HNx : Hid _ := HNxO.out (HGo.out (by trivial) hb)
              clear hjk hj HBad HGo HLb HNxO hb
              go_wp2
              go_roundw
              case rel => exact ⟨j + 1, hlt, by go_num, HNx.out, hB2⟩
              case measure => simp [intOf]; omega
      · obtain rfl : k = rs.length := by omega
        have d1 : decide ((rs.length : Int) < (rs.length : Int)) = false := by simp
        have hR := HG.out ha
        clear hlt hk HB1 HG ha
        go_wp2
        go_ret
        exact ⟨by rw [hR]; rfl, hB⟩
  · have d3 : decide (3 < (rs.length : Int)) = true := by simp; omega
    have hf : ifsB rs = false := by unfold ifsB; rw [decide_eq_false h3]; rfl
    rw [hf]
    clear HB1 hf
    go_enter Tryz.func63, Tryz.ntmps63
    go_wp2
    go_ret
    exact ⟨rfl, Below.refl _ _⟩
end Go.Proofs.YtialedffpaoacaaGreatDoor
/- Is a table right? Asked by the program and by the model. (Written by gen_ribr.py.) -/
namespace Go.Proofs.YtialedffpaoacaaGreatDoor
open Go.RowKit Go.Sort

/-- One route's net is ahead of another one's. -/
def ltR (r s : Rt) : Bool := decide (r.a < s.a) || (r.a == s.a && decide (r.l < s.l))
/-- The route at k is right, and behind the one ahead of it. -/
def okAt (rs : List Rt) (k : Nat) : Bool := routeB rs[k]! && (decide (k = 0) || ltR rs[k - 1]! rs[k]!)
def ribB (rs : List Rt) : Bool := decide (rs.length ≤ 8) && (List.range rs.length).all (okAt rs)
theorem get_bang {rs : List Rt} {k : Nat} (h : k < rs.length) : rs[k]! = rs[k] := by simp [h]
theorem ribB_long {rs : List Rt} (h : ¬ rs.length ≤ 8) : ribB rs = false := by simp [ribB, h]
theorem ribB_bad {rs : List Rt} {k : Nat} (hk : k < rs.length) (h : okAt rs k = false) : ribB rs = false := by
  unfold ribB
  have : (List.range rs.length).all (okAt rs) = false := by
    rw [List.all_eq_false]
    exact ⟨k, List.mem_range.2 hk, by rw [h]; simp⟩
  rw [this, Bool.and_false]
theorem ribB_good {rs : List Rt} (h8 : rs.length ≤ 8) (h : ∀ j, j < rs.length → okAt rs j = true) : ribB rs = true := by
  unfold ribB
  have : (List.range rs.length).all (okAt rs) = true := by
    rw [List.all_eq_true]
    exact fun j hj => h j (List.mem_range.1 hj)
  rw [this, decide_eq_true h8]; rfl
theorem ribB_spec {rs : List Rt} (h : ribB rs = true) : rs.length ≤ 8 ∧ ∀ j, j < rs.length → okAt rs j = true := by
  simp only [ribB, Bool.and_eq_true, decide_eq_true_eq, List.all_eq_true] at h
  exact ⟨h.1, fun j hj => h.2 j (List.mem_range.2 hj)⟩
theorem okAt_route {rs : List Rt} {k : Nat} (h : okAt rs k = true) : routeB rs[k]! = true := by
  unfold okAt at h; simp only [Bool.and_eq_true] at h; exact h.1
theorem routeB_right {r : Rt} (h : routeB r = true) : rightB r.a r.l = true := by
  unfold routeB saidB entB rtE at h
  simp only [Bool.and_eq_true] at h
  exact h.1.1.1.1.1.1
theorem box1 {w w1 : World} {x : Value} {t : TypeId} (h : Below (w.alloc (.cells #[x] t)).heap.size (w.alloc (.cells #[x] t)) w1) : w1.cell? ⟨w.heap.size, 0, none⟩ = some x ∧ Below w.heap.size w w1 := by
  have q := Row.new w t [x]
  exact ⟨(q.below h q.lt).cell 0, (ent_new0 w _).trans (h.mono (by simp))⟩
set_option maxRecDepth 100000 in
set_option maxHeartbeats 1000000 in
theorem implRib_any (p : Option Addr) (cap : Nat) (rs : List Rt) (w : World) (h : RtsIn w p rs) (hn : rs.length ≤ 100000000) :
    Calls Tryz.prog 142 #[ribV p rs.length cap] w fun e w' => e = .returned (.bool (ribB rs)) ∧ Below w.heap.size w w' := by
  have HE : Hid (∀ e w, Calls Tryz.prog 179 #[rtV e] w fun r w' => r = .returned (.bool (routeB e)) ∧ Below w.heap.size w w') := implRoute_any
  have HL : Hid (∀ a l b m w, Calls Tryz.prog 180 #[.agg #[.int .i64 a, .int .i64 l], .agg #[.int .i64 b, .int .i64 m]] w fun e w' => e = .returned (.bool (lessB a l b m)) ∧ Below w.heap.size w w') := fun a l b m w => implLess_any a l b m w
  have HBd : Hid (∀ k, k < rs.length → okAt rs k = false → ribB rs = false) := fun k hk hf => ribB_bad hk hf
  have HX : Hid (RtsIn w p rs) := h
  clear h
  unfold ribV
  by_cases hl : rs.length ≤ 8
  · have d8 : decide (8 < (rs.length : Int)) = false := by simp; omega
    have HYs : Hid ((∀ j, j < rs.length → okAt rs j = true) → ribB rs = true) := fun h => ribB_good hl h
    generalize ribB rs = R at *
    go_enter Tryz.func142, Tryz.ntmps142
    go_wp2_with fail
    go_loopw [12] (fun i wr => ∃ k : Nat, k ≤ rs.length ∧ i = .int .i64 k ∧ (∀ j, j < k → okAt rs j = true) ∧ Below (w.alloc (.cells #[.slice p rs.length cap] 49)).heap.size (w.alloc (.cells #[.slice p rs.length cap] 49)) wr) (fun i _ => rs.length - (intOf i).toNat)
    case atStart => exact ⟨0, Nat.zero_le _, rfl, fun j hj => absurd hj (by omega), Below.refl _ _⟩
    case round =>
      obtain ⟨k, hk, rfl, ha, hb0⟩ := hrel
      obtain ⟨x0, hb⟩ := box1 hb0
      by_cases hlt : k < rs.length
      · have d1 : decide ((k : Int) < (rs.length : Int)) = true := by simpa using hlt
        obtain ⟨g, a, l, m, n, ii, t, u, b, c, rfl, hg, hek, c0, c1, c2, c3, c4, c5, c6, c7, c8⟩ := (HX.out.below hb).at k hlt
        have hbk : rs[k]! = ⟨a, l, m, n, ii, t, u, b, c⟩ := (get_bang hlt).trans hek
        have HEk : Hid (∀ w, Calls Tryz.prog 179 #[.agg #[.int .i64 a, .int .i64 l, .int .i64 m, .int .i64 n, .int .i64 ii, .int .i64 t, .int .i64 u, .int .i64 b, .bool c]] w fun r w' => r = .returned (.bool (routeB ⟨a, l, m, n, ii, t, u, b, c⟩)) ∧ Below w.heap.size w w') := HE.out ⟨a, l, m, n, ii, t, u, b, c⟩
        have HBk : Hid (okAt rs k = false → R = false) := HBd.out k hlt
        have HNx : Hid (okAt rs k = true → ∀ j, j < k + 1 → okAt rs j = true) := fun h j hj => by
          rcases Nat.lt_or_ge j k with h' | h'
          · exact ha j h'
          · obtain rfl : j = k := by omega
            exact h
        by_cases hz : k = 0
        · have hok : okAt rs k = routeB ⟨a, l, m, n, ii, t, u, b, c⟩ := by unfold okAt; rw [hbk, decide_eq_true hz]; simp
          rw [hok] at HBk HNx
          clear hok HE HL hek HBd ha hbk
          generalize routeB ⟨a, l, m, n, ii, t, u, b, c⟩ = B at *
          have z0 : decide (0 < k) = false := by simp; omega
          have z1 : decide (0 < (k : Int)) = false := by simp; omega
          clear hz
          have HBN : Hid (Below wr.heap.size wr (wr.alloc (.cells #[.int .i64 a, .int .i64 l, .int .i64 m, .int .i64 n, .int .i64 ii, .int .i64 t, .int .i64 u, .int .i64 b, .bool c] 144))) := ent_new0 wr _
          have HQN : Hid (Row (wr.alloc (.cells #[.int .i64 a, .int .i64 l, .int .i64 m, .int .i64 n, .int .i64 ii, .int .i64 t, .int .i64 u, .int .i64 b, .bool c] 144)) wr.heap.size 144 [.int .i64 a, .int .i64 l, .int .i64 m, .int .i64 n, .int .i64 ii, .int .i64 t, .int .i64 u, .int .i64 b, .bool c]) := Row.new wr _ _
          have HX0 : Hid ((wr.alloc (.cells #[.int .i64 a, .int .i64 l, .int .i64 m, .int .i64 n, .int .i64 ii, .int .i64 t, .int .i64 u, .int .i64 b, .bool c] 144)).cell? ⟨w.heap.size, 0, none⟩ = some (.slice (some ⟨g, 0, none⟩) rs.length cap)) := by show _ = _; rw [HBN.out.cell (p := ⟨w.heap.size, 0, none⟩) (by have := hb0.size; simp at this; show w.heap.size < wr.heap.size; omega)]; exact x0
          cases B
          · go_wp2_with fail
            clear c0 c1 c2 c3 c4 c5 c6 c7 c8 x0
            generalize (wr.alloc (.cells #[.int .i64 a, .int .i64 l, .int .i64 m, .int .i64 n, .int .i64 ii, .int .i64 t, .int .i64 u, .int .i64 b, .bool c] 144)) = WR at *
            have x0 := cell_regrown HX0.out
            have c0 : WR.cell? ⟨wr.heap.size, 0, none⟩ = some (.int .i64 a) := HQN.out.cell 0
            replace c0 := cell_regrown c0
            have c1 : WR.cell? ⟨wr.heap.size, 1, none⟩ = some (.int .i64 l) := HQN.out.cell 1
            replace c1 := cell_regrown c1
            have c2 : WR.cell? ⟨wr.heap.size, 2, none⟩ = some (.int .i64 m) := HQN.out.cell 2
            replace c2 := cell_regrown c2
            have c3 : WR.cell? ⟨wr.heap.size, 3, none⟩ = some (.int .i64 n) := HQN.out.cell 3
            replace c3 := cell_regrown c3
            have c4 : WR.cell? ⟨wr.heap.size, 4, none⟩ = some (.int .i64 ii) := HQN.out.cell 4
            replace c4 := cell_regrown c4
            have c5 : WR.cell? ⟨wr.heap.size, 5, none⟩ = some (.int .i64 t) := HQN.out.cell 5
            replace c5 := cell_regrown c5
            have c6 : WR.cell? ⟨wr.heap.size, 6, none⟩ = some (.int .i64 u) := HQN.out.cell 6
            replace c6 := cell_regrown c6
            have c7 : WR.cell? ⟨wr.heap.size, 7, none⟩ = some (.int .i64 b) := HQN.out.cell 7
            replace c7 := cell_regrown c7
            have c8 : WR.cell? ⟨wr.heap.size, 8, none⟩ = some (.bool c) := HQN.out.cell 8
            replace c8 := cell_regrown c8
            refine wp_region_quiet_below (by kernel_rfl) (by kernel_rfl) ?_
            repeat (go_big_quiet_step (first | (go_at_call 179; exact Calls.regrown_of (HEk.out _))))
            refine wpQuiet_nil ?_
            intro w1 hw'
            obtain ⟨⟨dq, osq⟩, hw''⟩ := hw'
            have hbq := below_regrown WR dq osq
            rw [← hw''] at hbq
            clear hw'' osq dq
            clear c0 c1 c2 c3 c4 c5 c6 c7 c8 x0 HQN HX0
            have hB1 := hb.trans ((HBN.out.trans (hbq.mono HBN.out.size)).mono hb.size)
            clear hbq HBN
            go_wp2
            go_ret
            exact ⟨ret_bool (HBk.out (by trivial)).symm, hB1⟩
          · go_wp2_with fail
            clear c0 c1 c2 c3 c4 c5 c6 c7 c8 x0
            generalize (wr.alloc (.cells #[.int .i64 a, .int .i64 l, .int .i64 m, .int .i64 n, .int .i64 ii, .int .i64 t, .int .i64 u, .int .i64 b, .bool c] 144)) = WR at *
            have x0 := cell_regrown HX0.out
            have c0 : WR.cell? ⟨wr.heap.size, 0, none⟩ = some (.int .i64 a) := HQN.out.cell 0
            replace c0 := cell_regrown c0
            have c1 : WR.cell? ⟨wr.heap.size, 1, none⟩ = some (.int .i64 l) := HQN.out.cell 1
            replace c1 := cell_regrown c1
            have c2 : WR.cell? ⟨wr.heap.size, 2, none⟩ = some (.int .i64 m) := HQN.out.cell 2
            replace c2 := cell_regrown c2
            have c3 : WR.cell? ⟨wr.heap.size, 3, none⟩ = some (.int .i64 n) := HQN.out.cell 3
            replace c3 := cell_regrown c3
            have c4 : WR.cell? ⟨wr.heap.size, 4, none⟩ = some (.int .i64 ii) := HQN.out.cell 4
            replace c4 := cell_regrown c4
            have c5 : WR.cell? ⟨wr.heap.size, 5, none⟩ = some (.int .i64 t) := HQN.out.cell 5
            replace c5 := cell_regrown c5
            have c6 : WR.cell? ⟨wr.heap.size, 6, none⟩ = some (.int .i64 u) := HQN.out.cell 6
            replace c6 := cell_regrown c6
            have c7 : WR.cell? ⟨wr.heap.size, 7, none⟩ = some (.int .i64 b) := HQN.out.cell 7
            replace c7 := cell_regrown c7
            have c8 : WR.cell? ⟨wr.heap.size, 8, none⟩ = some (.bool c) := HQN.out.cell 8
            replace c8 := cell_regrown c8
            refine wp_region_quiet_below (by kernel_rfl) (by kernel_rfl) ?_
            repeat (go_big_quiet_step (first | (go_at_call 179; exact Calls.regrown_of (HEk.out _))))
            refine wpQuiet_nil ?_
            intro w1 hw'
            obtain ⟨⟨dq, osq⟩, hw''⟩ := hw'
            have hbq := below_regrown WR dq osq
            rw [← hw''] at hbq
            clear hw'' osq dq
            clear c0 c1 c2 c3 c4 c5 c6 c7 c8 x0 HQN HX0
            have hB0 := hb0.trans ((HBN.out.trans (hbq.mono HBN.out.size)).mono hb0.size)
            clear hbq HBN
            go_wp2
            go_roundw
            case rel => exact ⟨k + 1, hlt, by go_num, HNx.out (by trivial), hB0⟩
            case measure => simp [intOf]; omega
        · obtain ⟨g', a', l', m', n', ii', t', u', b', c', hgg, hg', hej, d0, d1', d2, d3, d4, d5, d6, d7, d8⟩ := (HX.out.below hb).at (k - 1) (by omega)
          simp only [Option.some.injEq, Addr.mk.injEq, and_true] at hgg
          subst hgg
          have hbj : rs[k - 1]! = ⟨a', l', m', n', ii', t', u', b', c'⟩ := (get_bang (by omega)).trans hej
          have hrj := okAt_route (ha (k - 1) (by omega))
          rw [hbj] at hrj
          have hok : okAt rs k = (routeB ⟨a, l, m, n, ii, t, u, b, c⟩ && (decide (a' < a) || (a' == a && decide (l' < l)))) := by unfold okAt; rw [hbk, hbj, decide_eq_false hz]; rfl
          have HLk : Hid (∀ w, Calls Tryz.prog 180 #[.agg #[.int .i64 a', .int .i64 l'], .agg #[.int .i64 a, .int .i64 l]] w fun e w' => e = .returned (.bool (lessB a' l' a l)) ∧ Below w.heap.size w w') := HL.out a' l' a l
          have HLe : Hid (routeB ⟨a, l, m, n, ii, t, u, b, c⟩ = true → lessB a' l' a l = (decide (a' < a) || (a' == a && decide (l' < l)))) := fun h => by unfold lessB; rw [routeB_right hrj, routeB_right h]; rfl
          rw [hok] at HBk HNx
          clear hok HE HL hek hej HBd ha hbk hbj hrj
          generalize routeB ⟨a, l, m, n, ii, t, u, b, c⟩ = B at *
          have z0 : decide (0 < k) = true := by simp; omega
          have z1 : decide (0 < (k : Int)) = true := by simp; omega
          have z2 : IntKind.i64.wrap ((k : Int) - 1) = ((k - 1 : Nat) : Int) := by rw [wrap_i64_in _ (by omega) (by omega)]; omega
          have z3 : (k : Int) - 1 = ((k - 1 : Nat) : Int) := by omega
          have z4 : decide (((k - 1 : Nat) : Int) < (rs.length : Int)) = true := by simp; omega
          have z5 : k - 1 < rs.length := by omega
          have HBN : Hid (Below wr.heap.size wr (wr.alloc (.cells #[.int .i64 a, .int .i64 l, .int .i64 m, .int .i64 n, .int .i64 ii, .int .i64 t, .int .i64 u, .int .i64 b, .bool c] 144))) := ent_new0 wr _
          have HQN : Hid (Row (wr.alloc (.cells #[.int .i64 a, .int .i64 l, .int .i64 m, .int .i64 n, .int .i64 ii, .int .i64 t, .int .i64 u, .int .i64 b, .bool c] 144)) wr.heap.size 144 [.int .i64 a, .int .i64 l, .int .i64 m, .int .i64 n, .int .i64 ii, .int .i64 t, .int .i64 u, .int .i64 b, .bool c]) := Row.new wr _ _
          have HX0 : Hid ((wr.alloc (.cells #[.int .i64 a, .int .i64 l, .int .i64 m, .int .i64 n, .int .i64 ii, .int .i64 t, .int .i64 u, .int .i64 b, .bool c] 144)).cell? ⟨w.heap.size, 0, none⟩ = some (.slice (some ⟨g, 0, none⟩) rs.length cap)) := by show _ = _; rw [HBN.out.cell (p := ⟨w.heap.size, 0, none⟩) (by have := hb0.size; simp at this; show w.heap.size < wr.heap.size; omega)]; exact x0
          have HD0 : Hid ((wr.alloc (.cells #[.int .i64 a, .int .i64 l, .int .i64 m, .int .i64 n, .int .i64 ii, .int .i64 t, .int .i64 u, .int .i64 b, .bool c] 144)).cell? ⟨g, (k - 1) * 9, none⟩ = some (.int .i64 a')) := by show _ = _; rw [HBN.out.cell (p := ⟨g, (k - 1) * 9, none⟩) hg]; exact d0
          have HD1 : Hid ((wr.alloc (.cells #[.int .i64 a, .int .i64 l, .int .i64 m, .int .i64 n, .int .i64 ii, .int .i64 t, .int .i64 u, .int .i64 b, .bool c] 144)).cell? ⟨g, (k - 1) * 9 + 1, none⟩ = some (.int .i64 l')) := by show _ = _; rw [HBN.out.cell (p := ⟨g, (k - 1) * 9 + 1, none⟩) hg]; exact d1'
          clear d0 d1' d2 d3 d4 d5 d6 d7 d8
          cases B
          · clear HLk
            go_wp2_with fail
            clear c0 c1 c2 c3 c4 c5 c6 c7 c8 x0
            generalize (wr.alloc (.cells #[.int .i64 a, .int .i64 l, .int .i64 m, .int .i64 n, .int .i64 ii, .int .i64 t, .int .i64 u, .int .i64 b, .bool c] 144)) = WR at *
            have x0 := cell_regrown HX0.out
            have c0 : WR.cell? ⟨wr.heap.size, 0, none⟩ = some (.int .i64 a) := HQN.out.cell 0
            replace c0 := cell_regrown c0
            have c1 : WR.cell? ⟨wr.heap.size, 1, none⟩ = some (.int .i64 l) := HQN.out.cell 1
            replace c1 := cell_regrown c1
            have c2 : WR.cell? ⟨wr.heap.size, 2, none⟩ = some (.int .i64 m) := HQN.out.cell 2
            replace c2 := cell_regrown c2
            have c3 : WR.cell? ⟨wr.heap.size, 3, none⟩ = some (.int .i64 n) := HQN.out.cell 3
            replace c3 := cell_regrown c3
            have c4 : WR.cell? ⟨wr.heap.size, 4, none⟩ = some (.int .i64 ii) := HQN.out.cell 4
            replace c4 := cell_regrown c4
            have c5 : WR.cell? ⟨wr.heap.size, 5, none⟩ = some (.int .i64 t) := HQN.out.cell 5
            replace c5 := cell_regrown c5
            have c6 : WR.cell? ⟨wr.heap.size, 6, none⟩ = some (.int .i64 u) := HQN.out.cell 6
            replace c6 := cell_regrown c6
            have c7 : WR.cell? ⟨wr.heap.size, 7, none⟩ = some (.int .i64 b) := HQN.out.cell 7
            replace c7 := cell_regrown c7
            have c8 : WR.cell? ⟨wr.heap.size, 8, none⟩ = some (.bool c) := HQN.out.cell 8
            replace c8 := cell_regrown c8
            have d0 := cell_regrown HD0.out
            have d1' := cell_regrown HD1.out
            refine wp_region_quiet_below (by kernel_rfl) (by kernel_rfl) ?_
            repeat (go_big_quiet_step (first | (go_at_call 179; exact Calls.regrown_of (HEk.out _))))
            refine wpQuiet_nil ?_
            intro w1 hw'
            obtain ⟨⟨dq, osq⟩, hw''⟩ := hw'
            have hbq := below_regrown WR dq osq
            rw [← hw''] at hbq
            clear hw'' osq dq
            clear c0 c1 c2 c3 c4 c5 c6 c7 c8 x0 d0 d1' HQN HX0 HD0 HD1
            have hB1 := hb.trans ((HBN.out.trans (hbq.mono HBN.out.size)).mono hb.size)
            clear hbq HBN
            go_wp2
            go_ret
            exact ⟨ret_bool (HBk.out (by trivial)).symm, hB1⟩
          · have HLe' := HLe.out (by trivial)
            rw [HLe'] at HLk
            clear HLe HLe'
            generalize (decide (a' < a) || (a' == a && decide (l' < l))) = L at *
            cases L
            · go_wp2_with fail
              clear c0 c1 c2 c3 c4 c5 c6 c7 c8 x0
              generalize (wr.alloc (.cells #[.int .i64 a, .int .i64 l, .int .i64 m, .int .i64 n, .int .i64 ii, .int .i64 t, .int .i64 u, .int .i64 b, .bool c] 144)) = WR at *
              have x0 := cell_regrown HX0.out
              have c0 : WR.cell? ⟨wr.heap.size, 0, none⟩ = some (.int .i64 a) := HQN.out.cell 0
              replace c0 := cell_regrown c0
              have c1 : WR.cell? ⟨wr.heap.size, 1, none⟩ = some (.int .i64 l) := HQN.out.cell 1
              replace c1 := cell_regrown c1
              have c2 : WR.cell? ⟨wr.heap.size, 2, none⟩ = some (.int .i64 m) := HQN.out.cell 2
              replace c2 := cell_regrown c2
              have c3 : WR.cell? ⟨wr.heap.size, 3, none⟩ = some (.int .i64 n) := HQN.out.cell 3
              replace c3 := cell_regrown c3
              have c4 : WR.cell? ⟨wr.heap.size, 4, none⟩ = some (.int .i64 ii) := HQN.out.cell 4
              replace c4 := cell_regrown c4
              have c5 : WR.cell? ⟨wr.heap.size, 5, none⟩ = some (.int .i64 t) := HQN.out.cell 5
              replace c5 := cell_regrown c5
              have c6 : WR.cell? ⟨wr.heap.size, 6, none⟩ = some (.int .i64 u) := HQN.out.cell 6
              replace c6 := cell_regrown c6
              have c7 : WR.cell? ⟨wr.heap.size, 7, none⟩ = some (.int .i64 b) := HQN.out.cell 7
              replace c7 := cell_regrown c7
              have c8 : WR.cell? ⟨wr.heap.size, 8, none⟩ = some (.bool c) := HQN.out.cell 8
              replace c8 := cell_regrown c8
              have d0 := cell_regrown HD0.out
              have d1' := cell_regrown HD1.out
              refine wp_region_quiet_below (by kernel_rfl) (by kernel_rfl) ?_
              repeat (go_big_quiet_step (first | (go_at_call 179; exact Calls.regrown_of (HEk.out _)) | (go_at_call 180; exact Calls.regrown_of (HLk.out _))))
              refine wpQuiet_nil ?_
              intro w1 hw'
              obtain ⟨⟨dq, osq⟩, hw''⟩ := hw'
              have hbq := below_regrown WR dq osq
              rw [← hw''] at hbq
              clear hw'' osq dq
              clear c0 c1 c2 c3 c4 c5 c6 c7 c8 x0 d0 d1' HQN HX0 HD0 HD1
              have hB1 := hb.trans ((HBN.out.trans (hbq.mono HBN.out.size)).mono hb.size)
              clear hbq HBN
              go_wp2
              go_ret
              exact ⟨ret_bool (HBk.out (by trivial)).symm, hB1⟩
            · go_wp2_with fail
              clear c0 c1 c2 c3 c4 c5 c6 c7 c8 x0
              generalize (wr.alloc (.cells #[.int .i64 a, .int .i64 l, .int .i64 m, .int .i64 n, .int .i64 ii, .int .i64 t, .int .i64 u, .int .i64 b, .bool c] 144)) = WR at *
              have x0 := cell_regrown HX0.out
              have c0 : WR.cell? ⟨wr.heap.size, 0, none⟩ = some (.int .i64 a) := HQN.out.cell 0
              replace c0 := cell_regrown c0
              have c1 : WR.cell? ⟨wr.heap.size, 1, none⟩ = some (.int .i64 l) := HQN.out.cell 1
              replace c1 := cell_regrown c1
              have c2 : WR.cell? ⟨wr.heap.size, 2, none⟩ = some (.int .i64 m) := HQN.out.cell 2
              replace c2 := cell_regrown c2
              have c3 : WR.cell? ⟨wr.heap.size, 3, none⟩ = some (.int .i64 n) := HQN.out.cell 3
              replace c3 := cell_regrown c3
              have c4 : WR.cell? ⟨wr.heap.size, 4, none⟩ = some (.int .i64 ii) := HQN.out.cell 4
              replace c4 := cell_regrown c4
              have c5 : WR.cell? ⟨wr.heap.size, 5, none⟩ = some (.int .i64 t) := HQN.out.cell 5
              replace c5 := cell_regrown c5
              have c6 : WR.cell? ⟨wr.heap.size, 6, none⟩ = some (.int .i64 u) := HQN.out.cell 6
              replace c6 := cell_regrown c6
              have c7 : WR.cell? ⟨wr.heap.size, 7, none⟩ = some (.int .i64 b) := HQN.out.cell 7
              replace c7 := cell_regrown c7
              have c8 : WR.cell? ⟨wr.heap.size, 8, none⟩ = some (.bool c) := HQN.out.cell 8
              replace c8 := cell_regrown c8
              have d0 := cell_regrown HD0.out
              have d1' := cell_regrown HD1.out
              refine wp_region_quiet_below (by kernel_rfl) (by kernel_rfl) ?_
              repeat (go_big_quiet_step (first | (go_at_call 179; exact Calls.regrown_of (HEk.out _)) | (go_at_call 180; exact Calls.regrown_of (HLk.out _))))
              refine wpQuiet_nil ?_
              intro w1 hw'
              obtain ⟨⟨dq, osq⟩, hw''⟩ := hw'
              have hbq := below_regrown WR dq osq
              rw [← hw''] at hbq
              clear hw'' osq dq
              clear c0 c1 c2 c3 c4 c5 c6 c7 c8 x0 d0 d1' HQN HX0 HD0 HD1
              have hB0 := hb0.trans ((HBN.out.trans (hbq.mono HBN.out.size)).mono hb0.size)
              clear hbq HBN
              go_wp2
              go_roundw
              case rel => exact ⟨k + 1, hlt, by go_num, HNx.out (by trivial), hB0⟩
              case measure => simp [intOf]; omega
      · obtain rfl : k = rs.length := by omega
        have d1 : decide ((rs.length : Int) < (rs.length : Int)) = false := by simp
        have hR := HYs.out ha
        clear hlt hk
        go_wp2
        go_ret
        exact ⟨ret_bool hR.symm, hb⟩
  · rw [ribB_long hl]
    have d8 : decide (8 < (rs.length : Int)) = true := by simp; omega
    go_enter Tryz.func142, Tryz.ntmps142
    go_wp2
    go_ret
    exact ⟨rfl, ent_new0 w _⟩
set_option maxRecDepth 100000 in
set_option maxHeartbeats 1000000 in
theorem specRib_any (p : Option Addr) (cap : Nat) (rs : List Rt) (w : World) (h : RtsIn w p rs) (hn : rs.length ≤ 100000000) :
    Calls Tryz.prog 124 #[ribV p rs.length cap] w fun e w' => e = .returned (.bool (ribB rs)) ∧ Below w.heap.size w w' := by
  have HE : Hid (∀ e w, Calls Tryz.prog 170 #[rtV e] w fun r w' => r = .returned (.bool (routeB e)) ∧ Below w.heap.size w w') := specRoute_any
  have HL : Hid (∀ a l b m w, Calls Tryz.prog 160 #[.agg #[.int .i64 a, .int .i64 l], .agg #[.int .i64 b, .int .i64 m]] w fun e w' => e = .returned (.bool (decide (a < b) || (a == b && decide (l < m)))) ∧ Below w.heap.size w w') := fun a l b m w => l03Less_any a l b m w
  have HBd : Hid (∀ k, k < rs.length → okAt rs k = false → ribB rs = false) := fun k hk hf => ribB_bad hk hf
  have HX : Hid (RtsIn w p rs) := h
  clear h
  unfold ribV
  by_cases hl : rs.length ≤ 8
  · have d8 : decide (8 < (rs.length : Int)) = false := by simp; omega
    have HYs : Hid ((∀ j, j < rs.length → okAt rs j = true) → ribB rs = true) := fun h => ribB_good hl h
    generalize ribB rs = R at *
    go_enter Tryz.func124, Tryz.ntmps124
    go_wp2_with fail
    go_loopw [3] (fun i wr => ∃ k : Nat, k ≤ rs.length ∧ i = .int .i64 k ∧ (∀ j, j < k → okAt rs j = true) ∧ Below (w.alloc (.cells #[.slice p rs.length cap] 49)).heap.size (w.alloc (.cells #[.slice p rs.length cap] 49)) wr) (fun i _ => rs.length - (intOf i).toNat)
    case atStart => exact ⟨0, Nat.zero_le _, rfl, fun j hj => absurd hj (by omega), Below.refl _ _⟩
    case round =>
      obtain ⟨k, hk, rfl, ha, hb0⟩ := hrel
      obtain ⟨x0, hb⟩ := box1 hb0
      by_cases hlt : k < rs.length
      · have d1 : decide ((k : Int) < (rs.length : Int)) = true := by simpa using hlt
        obtain ⟨g, a, l, m, n, ii, t, u, b, c, rfl, hg, hek, c0, c1, c2, c3, c4, c5, c6, c7, c8⟩ := (HX.out.below hb).at k hlt
        have hbk : rs[k]! = ⟨a, l, m, n, ii, t, u, b, c⟩ := (get_bang hlt).trans hek
        have HEk : Hid (∀ w, Calls Tryz.prog 170 #[.agg #[.int .i64 a, .int .i64 l, .int .i64 m, .int .i64 n, .int .i64 ii, .int .i64 t, .int .i64 u, .int .i64 b, .bool c]] w fun r w' => r = .returned (.bool (routeB ⟨a, l, m, n, ii, t, u, b, c⟩)) ∧ Below w.heap.size w w') := HE.out ⟨a, l, m, n, ii, t, u, b, c⟩
        have HBk : Hid (okAt rs k = false → R = false) := HBd.out k hlt
        have HNx : Hid (okAt rs k = true → ∀ j, j < k + 1 → okAt rs j = true) := fun h j hj => by
          rcases Nat.lt_or_ge j k with h' | h'
          · exact ha j h'
          · obtain rfl : j = k := by omega
            exact h
        by_cases hz : k = 0
        · have hok : okAt rs k = routeB ⟨a, l, m, n, ii, t, u, b, c⟩ := by unfold okAt; rw [hbk, decide_eq_true hz]; simp
          rw [hok] at HBk HNx
          clear hok HE HL hek HBd ha hbk
          generalize routeB ⟨a, l, m, n, ii, t, u, b, c⟩ = B at *
          have z0 : decide (0 < k) = false := by simp; omega
          have z1 : decide (0 < (k : Int)) = false := by simp; omega
          clear hz
          have HBN : Hid (Below wr.heap.size wr wr) := Below.refl _ _
          cases B
          · go_wp2_with fail
            replace x0 := cell_regrown x0
            replace c0 := cell_regrown c0
            replace c1 := cell_regrown c1
            replace c2 := cell_regrown c2
            replace c3 := cell_regrown c3
            replace c4 := cell_regrown c4
            replace c5 := cell_regrown c5
            replace c6 := cell_regrown c6
            replace c7 := cell_regrown c7
            replace c8 := cell_regrown c8
            refine wp_region_quiet_below (by kernel_rfl) (by kernel_rfl) ?_
            repeat (go_big_quiet_step (first | (go_at_call 170; exact Calls.regrown_of (HEk.out _))))
            refine wpQuiet_nil ?_
            intro w1 hw'
            obtain ⟨⟨dq, osq⟩, hw''⟩ := hw'
            have hbq := below_regrown wr dq osq
            rw [← hw''] at hbq
            clear hw'' osq dq
            clear c0 c1 c2 c3 c4 c5 c6 c7 c8 x0
            have hB1 := hb.trans ((HBN.out.trans (hbq.mono HBN.out.size)).mono hb.size)
            clear hbq HBN
            go_wp2
            go_ret
            exact ⟨ret_bool (HBk.out (by trivial)).symm, hB1⟩
          · go_wp2_with fail
            replace x0 := cell_regrown x0
            replace c0 := cell_regrown c0
            replace c1 := cell_regrown c1
            replace c2 := cell_regrown c2
            replace c3 := cell_regrown c3
            replace c4 := cell_regrown c4
            replace c5 := cell_regrown c5
            replace c6 := cell_regrown c6
            replace c7 := cell_regrown c7
            replace c8 := cell_regrown c8
            refine wp_region_quiet_below (by kernel_rfl) (by kernel_rfl) ?_
            repeat (go_big_quiet_step (first | (go_at_call 170; exact Calls.regrown_of (HEk.out _))))
            refine wpQuiet_nil ?_
            intro w1 hw'
            obtain ⟨⟨dq, osq⟩, hw''⟩ := hw'
            have hbq := below_regrown wr dq osq
            rw [← hw''] at hbq
            clear hw'' osq dq
            clear c0 c1 c2 c3 c4 c5 c6 c7 c8 x0
            have hB0 := hb0.trans ((HBN.out.trans (hbq.mono HBN.out.size)).mono hb0.size)
            clear hbq HBN
            go_wp2
            go_roundw
            case rel => exact ⟨k + 1, hlt, by go_num, HNx.out (by trivial), hB0⟩
            case measure => simp [intOf]; omega
        · obtain ⟨g', a', l', m', n', ii', t', u', b', c', hgg, hg', hej, d0, d1', d2, d3, d4, d5, d6, d7, d8⟩ := (HX.out.below hb).at (k - 1) (by omega)
          simp only [Option.some.injEq, Addr.mk.injEq, and_true] at hgg
          subst hgg
          have hbj : rs[k - 1]! = ⟨a', l', m', n', ii', t', u', b', c'⟩ := (get_bang (by omega)).trans hej
          have hrj := okAt_route (ha (k - 1) (by omega))
          rw [hbj] at hrj
          have hok : okAt rs k = (routeB ⟨a, l, m, n, ii, t, u, b, c⟩ && (decide (a' < a) || (a' == a && decide (l' < l)))) := by unfold okAt; rw [hbk, hbj, decide_eq_false hz]; rfl
          have HLk : Hid (∀ w, Calls Tryz.prog 160 #[.agg #[.int .i64 a', .int .i64 l'], .agg #[.int .i64 a, .int .i64 l]] w fun e w' => e = .returned (.bool (decide (a' < a) || (a' == a && decide (l' < l)))) ∧ Below w.heap.size w w') := HL.out a' l' a l
          rw [hok] at HBk HNx
          clear hok HE HL hek hej HBd ha hbk hbj hrj
          generalize routeB ⟨a, l, m, n, ii, t, u, b, c⟩ = B at *
          have z0 : decide (0 < k) = true := by simp; omega
          have z1 : decide (0 < (k : Int)) = true := by simp; omega
          have z2 : IntKind.i64.wrap ((k : Int) - 1) = ((k - 1 : Nat) : Int) := by rw [wrap_i64_in _ (by omega) (by omega)]; omega
          have z3 : (k : Int) - 1 = ((k - 1 : Nat) : Int) := by omega
          have z4 : decide (((k - 1 : Nat) : Int) < (rs.length : Int)) = true := by simp; omega
          have z5 : k - 1 < rs.length := by omega
          have HBN : Hid (Below wr.heap.size wr wr) := Below.refl _ _
          clear d2 d3 d4 d5 d6 d7 d8
          cases B
          · clear HLk
            go_wp2_with fail
            replace x0 := cell_regrown x0
            replace c0 := cell_regrown c0
            replace c1 := cell_regrown c1
            replace c2 := cell_regrown c2
            replace c3 := cell_regrown c3
            replace c4 := cell_regrown c4
            replace c5 := cell_regrown c5
            replace c6 := cell_regrown c6
            replace c7 := cell_regrown c7
            replace c8 := cell_regrown c8
            replace d0 := cell_regrown d0
            replace d1' := cell_regrown d1'
            refine wp_region_quiet_below (by kernel_rfl) (by kernel_rfl) ?_
            repeat (go_big_quiet_step (first | (go_at_call 170; exact Calls.regrown_of (HEk.out _))))
            refine wpQuiet_nil ?_
            intro w1 hw'
            obtain ⟨⟨dq, osq⟩, hw''⟩ := hw'
            have hbq := below_regrown wr dq osq
            rw [← hw''] at hbq
            clear hw'' osq dq
            clear c0 c1 c2 c3 c4 c5 c6 c7 c8 x0 d0 d1'
            have hB1 := hb.trans ((HBN.out.trans (hbq.mono HBN.out.size)).mono hb.size)
            clear hbq HBN
            go_wp2
            go_ret
            exact ⟨ret_bool (HBk.out (by trivial)).symm, hB1⟩
          · generalize (decide (a' < a) || (a' == a && decide (l' < l))) = L at *
            cases L
            · go_wp2_with fail
              replace x0 := cell_regrown x0
              replace c0 := cell_regrown c0
              replace c1 := cell_regrown c1
              replace c2 := cell_regrown c2
              replace c3 := cell_regrown c3
              replace c4 := cell_regrown c4
              replace c5 := cell_regrown c5
              replace c6 := cell_regrown c6
              replace c7 := cell_regrown c7
              replace c8 := cell_regrown c8
              replace d0 := cell_regrown d0
              replace d1' := cell_regrown d1'
              refine wp_region_quiet_below (by kernel_rfl) (by kernel_rfl) ?_
              repeat (go_big_quiet_step (first | (go_at_call 170; exact Calls.regrown_of (HEk.out _)) | (go_at_call 160; exact Calls.regrown_of (HLk.out _))))
              refine wpQuiet_nil ?_
              intro w1 hw'
              obtain ⟨⟨dq, osq⟩, hw''⟩ := hw'
              have hbq := below_regrown wr dq osq
              rw [← hw''] at hbq
              clear hw'' osq dq
              clear c0 c1 c2 c3 c4 c5 c6 c7 c8 x0 d0 d1'
              have hB1 := hb.trans ((HBN.out.trans (hbq.mono HBN.out.size)).mono hb.size)
              clear hbq HBN
              go_wp2
              go_ret
              exact ⟨ret_bool (HBk.out (by trivial)).symm, hB1⟩
            · go_wp2_with fail
              replace x0 := cell_regrown x0
              replace c0 := cell_regrown c0
              replace c1 := cell_regrown c1
              replace c2 := cell_regrown c2
              replace c3 := cell_regrown c3
              replace c4 := cell_regrown c4
              replace c5 := cell_regrown c5
              replace c6 := cell_regrown c6
              replace c7 := cell_regrown c7
              replace c8 := cell_regrown c8
              replace d0 := cell_regrown d0
              replace d1' := cell_regrown d1'
              refine wp_region_quiet_below (by kernel_rfl) (by kernel_rfl) ?_
              repeat (go_big_quiet_step (first | (go_at_call 170; exact Calls.regrown_of (HEk.out _)) | (go_at_call 160; exact Calls.regrown_of (HLk.out _))))
              refine wpQuiet_nil ?_
              intro w1 hw'
              obtain ⟨⟨dq, osq⟩, hw''⟩ := hw'
              have hbq := below_regrown wr dq osq
              rw [← hw''] at hbq
              clear hw'' osq dq
              clear c0 c1 c2 c3 c4 c5 c6 c7 c8 x0 d0 d1'
              have hB0 := hb0.trans ((HBN.out.trans (hbq.mono HBN.out.size)).mono hb0.size)
              clear hbq HBN
              go_wp2
              go_roundw
              case rel => exact ⟨k + 1, hlt, by go_num, HNx.out (by trivial), hB0⟩
              case measure => simp [intOf]; omega
      · obtain rfl : k = rs.length := by omega
        have d1 : decide ((rs.length : Int) < (rs.length : Int)) = false := by simp
        have hR := HYs.out ha
        clear hlt hk
        go_wp2
        go_ret
        exact ⟨ret_bool hR.symm, hb⟩
  · rw [ribB_long hl]
    have d8 : decide (8 < (rs.length : Int)) = true := by simp; omega
    go_enter Tryz.func124, Tryz.ntmps124
    go_wp2
    go_ret
    exact ⟨rfl, ent_new0 w _⟩
end Go.Proofs.YtialedffpaoacaaGreatDoor
/- InstRight, of the program and of the model. (Written by gen_inst.py.) -/
namespace Go.Proofs.YtialedffpaoacaaGreatDoor
open Go.RowKit Go.Sort

def instB (is : List If) (rs : List Rt) (now : Int) : Bool := ifsB is && (ribB rs && (decide (0 ≤ now) && decide (now ≤ 999800)))
set_option maxRecDepth 100000 in
set_option maxHeartbeats 2000000 in
theorem implInst_any (x : Option Addr) (c1 : Nat) (y : Option Addr) (c2 : Nat) (is : List If) (rs : List Rt) (now : Int) (w : World) (h1 : IfsIn w x is) (hc : is.length ≤ c1) (h2 : RtsIn w y rs) (hn1 : is.length ≤ 100000000) (hn2 : rs.length ≤ 100000000) :
    Calls Tryz.prog 99 #[instV x is.length c1 y rs.length c2 now] w fun e w' => e = .returned (.bool (instB is rs now)) ∧ Below w.heap.size w w' := by
  have HI : Hid (∀ w, IfsIn w x is → Calls Tryz.prog 117 #[.slice x is.length c1] w fun e w' => e = .returned (.bool (ifsB is)) ∧ Below w.heap.size w w') := fun w h => ifacesRight_any x c1 is w h hc hn1
  have HR : Hid (∀ w, RtsIn w y rs → Calls Tryz.prog 142 #[.agg #[.slice y rs.length c2]] w fun e w' => e = .returned (.bool (ribB rs)) ∧ Below w.heap.size w w') := fun w h => implRib_any y c2 rs w h hn2
  have HX : Hid (IfsIn w x is ∧ RtsIn w y rs) := ⟨h1, h2⟩
  clear h1 h2 hc hn1 hn2
  unfold instV instB
  generalize is.length = n1 at *
  generalize rs.length = n2 at *
  generalize ifsB is = IB at *
  generalize ribB rs = RBB at *
  have q0 := Row.new w 51 [.slice x n1 c1, .slice y n2 c2, .int .i64 now]
  have HQ : Hid _ := And.intro q0 (ent_new0 w (.cells #[.slice x n1 c1, .slice y n2 c2, .int .i64 now] 51))
  clear q0
  go_enter Tryz.func99, Tryz.ntmps99
  go_wp2_with fail
  obtain ⟨q0, hB⟩ := HQ.out
  refine (HI.out _ (HX.out.1.below hB)).mono ?_
  rintro e w1 ⟨rfl, hb1⟩
  have q0 := q0.below hb1 q0.lt
  have hB := hB.trans (hb1.mono hB.size)
  clear hb1 HI HQ
  have x1 : w1.cell? ⟨w.heap.size, 1, none⟩ = some (.slice y n2 c2) := q0.cell 1
  cases IB
  · go_wp2
    go_ret
    exact ⟨rfl, hB⟩
  · go_wp2_with fail
    refine (HR.out _ (HX.out.2.below hB)).mono ?_
    rintro e w2 ⟨rfl, hb2⟩
    have q0 := q0.below hb2 q0.lt
    have hB := hB.trans (hb2.mono hB.size)
    clear hb2 HR x1
    have x2 : w2.cell? ⟨w.heap.size, 2, none⟩ = some (.int .i64 now) := q0.cell 2
    cases RBB
    · go_wp2
      go_ret
      exact ⟨rfl, hB⟩
    · by_cases k1 : 0 ≤ now
      · by_cases k2 : now ≤ 999800
        · go_wp2
          go_ret
          exact ⟨ret_bool (by simp [k1, k2]), hB⟩
        · go_wp2
          go_ret
          exact ⟨ret_bool (by simp; omega), hB⟩
      · go_wp2
        go_ret
        exact ⟨ret_bool (by simp; omega), hB⟩
set_option maxRecDepth 100000 in
set_option maxHeartbeats 2000000 in
theorem specInst_any (x : Option Addr) (c1 : Nat) (y : Option Addr) (c2 : Nat) (is : List If) (rs : List Rt) (now : Int) (w : World) (h1 : IfsIn w x is) (_hc : is.length ≤ c1) (h2 : RtsIn w y rs) (hn1 : is.length ≤ 100000000) (hn2 : rs.length ≤ 100000000) :
    Calls Tryz.prog 80 #[instV x is.length c1 y rs.length c2 now] w fun e w' => e = .returned (.bool (instB is rs now)) ∧ Below w.heap.size w w' := by
  have HI : Hid (∀ w, IfsIn w x is → Calls Tryz.prog 63 #[.slice x is.length c1] w fun e w' => e = .returned (.bool (ifsB is)) ∧ Below w.heap.size w w') := fun w h => l07Ifaces_any x c1 is w h hn1
  have HR : Hid (∀ w, RtsIn w y rs → Calls Tryz.prog 124 #[.agg #[.slice y rs.length c2]] w fun e w' => e = .returned (.bool (ribB rs)) ∧ Below w.heap.size w w') := fun w h => specRib_any y c2 rs w h hn2
  have HN : Hid (∀ w, Calls Tryz.prog 43 #[.int .i64 now, .int .i64 0, .int .i64 999800] w fun e w' => e = .returned (.bool (decide (0 ≤ now) && decide (now ≤ 999800))) ∧ w = w') := fun w => (l03Is_any now 0 999800 w).mono fun e w' h => by rw [← Bool.decide_and]; exact h
  have HX : Hid (IfsIn w x is ∧ RtsIn w y rs) := ⟨h1, h2⟩
  clear h1 h2 _hc hn1 hn2
  unfold instV instB
  generalize is.length = n1 at *
  generalize rs.length = n2 at *
  generalize ifsB is = IB at *
  generalize ribB rs = RBB at *
  have q0 := Row.new w 51 [.slice x n1 c1, .slice y n2 c2, .int .i64 now]
  have HQ : Hid _ := And.intro q0 (ent_new0 w (.cells #[.slice x n1 c1, .slice y n2 c2, .int .i64 now] 51))
  clear q0
  go_enter Tryz.func80, Tryz.ntmps80
  go_wp2_with fail
  obtain ⟨q0, hB⟩ := HQ.out
  refine (HI.out _ (HX.out.1.below hB)).mono ?_
  rintro e w1 ⟨rfl, hb1⟩
  have q0 := q0.below hb1 q0.lt
  have hB := hB.trans (hb1.mono hB.size)
  clear hb1 HI HQ
  have x1 : w1.cell? ⟨w.heap.size, 1, none⟩ = some (.slice y n2 c2) := q0.cell 1
  cases IB
  · go_wp2
    go_ret
    exact ⟨rfl, hB⟩
  · go_wp2_with fail
    refine (HR.out _ (HX.out.2.below hB)).mono ?_
    rintro e w2 ⟨rfl, hb2⟩
    have q0 := q0.below hb2 q0.lt
    have hB := hB.trans (hb2.mono hB.size)
    clear hb2 HR x1
    have x2 : w2.cell? ⟨w.heap.size, 2, none⟩ = some (.int .i64 now) := q0.cell 2
    cases RBB
    · go_wp2
      go_ret
      exact ⟨rfl, hB⟩
    · go_wp2_with fail
      refine (HN.out _).mono ?_
      rintro e w3 ⟨rfl, rfl⟩
      go_wp2
      go_ret
      exact ⟨rfl, hB⟩
end Go.Proofs.YtialedffpaoacaaGreatDoor
/- Lists of Routes that are one's own. (From gen_markr.py's MarkR and OwnRb.) -/
namespace Go.Proofs.YtialedffpaoacaaGreatDoor
open Go.RowKit Go.Sort

theorem ownsR_opened {w : World} {base : Nat} {p : Option Addr} {cv : Nat} {es : List Rt} (h : w.ownsRow base 144 9 (.slice p es.length cv) es.length (rowR es)) : es = [] ∨ ∃ g rest, p = some ⟨g, 0, none⟩ ∧ base ≤ g ∧ es.length ≤ cv ∧ cv ≤ maxLen ∧ Row w g 144 (rowR es ++ rest) ∧ (rowR es ++ rest).length = cv * 9 := by
  rcases h.2 with ⟨h1, h2⟩ | ⟨g, cap, cur, h1, h2, h3, h4, h5, h6, h7⟩
  · exact .inl (List.length_eq_zero_iff.1 h2)
  · simp only [Value.slice.injEq] at h1
    obtain ⟨rfl, _, rfl⟩ := h1
    refine .inr ⟨g, cur.toList.drop (es.length * 9), rfl, h2, h4, h5, ?_, ?_⟩
    · unfold Row
      rw [← h7, List.take_append_drop]
      exact h3
    · rw [← h7, List.take_append_drop]; simpa using h6
theorem ownsR_shut {w : World} {base g n cv : Nat} {es : List Rt} {rest : List Value} (hn : n = es.length) (hb : base ≤ g) (h4 : n ≤ cv) (h5 : cv ≤ maxLen) (hr : Row w g 144 (rowR es ++ rest)) (hl : (rowR es ++ rest).length = cv * 9) : w.ownsRow base 144 9 (.slice (some ⟨g, 0, none⟩) n cv) n (rowR es) := by
  subst hn
  exact ⟨by rw [rowR_length]; omega, .inr ⟨g, cv, _, rfl, hb, hr, h4, h5, by simpa using hl, by
    have : (rowR es).length = es.length * 9 := by rw [rowR_length]; omega
    simp only
    rw [← this]; simp⟩⟩
theorem rtsIn_rest {w : World} {g : Nat} {t : TypeId} {es : List Rt} {rest : List Value} (h : Row w g t (rowR es ++ rest)) : RtsIn w (some ⟨g, 0, none⟩) es := .inr ⟨g, rfl, h.lt, fun j u hj => by rw [h.cell, List.getElem?_append_left (List.getElem?_eq_some_iff.1 hj).1]; exact hj⟩

theorem ownsR_in {w : World} {base : Nat} {p : Option Addr} {n cv : Nat} {es : List Rt} (hn : n = es.length) (h : w.ownsRow base 144 9 (.slice p n cv) n (rowR es)) : RtsIn w p es := by
  subst hn
  rcases ownsR_opened h with h0 | ⟨g, rest, rfl, -, -, -, hr, -⟩
  · exact .inl h0
  · exact rtsIn_rest hr
theorem ownsR_row {w : World} {g n : Nat} {es : List Rt} (hn : n = es.length) (h8 : n ≤ 100000000) (h : Row w g 144 (rowR es)) : w.ownsRow g 144 9 (.slice (some ⟨g, 0, none⟩) n n) n (rowR es) := ownsR_shut (rest := []) hn (Nat.le_refl _) (Nat.le_refl _) (by unfold maxLen; omega) (by rw [List.append_nil]; exact h) (by rw [List.append_nil, rowR_length, hn]; omega)
theorem ownsR_kept {w w' : World} {base : Nat} {p : Option Addr} {n cv : Nat} {es : List Rt} (hn : n = es.length) (h : w.ownsRow base 144 9 (.slice p n cv) n (rowR es)) (hk : ∀ b t l, p = some ⟨b, 0, none⟩ → Row w b t l → Row w' b t l) : w'.ownsRow base 144 9 (.slice p n cv) n (rowR es) := by
  subst hn
  rcases ownsR_opened h with h0 | ⟨g, rest, rfl, h1, h2, h3, hr, hl⟩
  · subst h0
    rcases h.2 with ⟨e1, e2⟩ | ⟨g, cap, cur, e1, e2, e3, e4, e5, e6, e7⟩
    · exact ⟨rfl, .inl ⟨e1, e2⟩⟩
    · simp only [Value.slice.injEq] at e1
      obtain ⟨rfl, -, rfl⟩ := e1
      have := hk g 144 cur.toList rfl (by unfold Row; simpa using e3)
      exact ⟨rfl, .inr ⟨g, _, cur, rfl, e2, by unfold Row at this; simpa using this, e4, e5, e6, e7⟩⟩
  · exact ownsR_shut rfl h1 h2 h3 (hk _ _ _ rfl hr) hl
theorem ownsR_below {w w' : World} {base n : Nat} {v : Value} {xs : List Value} (h : w.ownsRow base 144 9 v n xs) (hb : Below w.heap.size w w') : w'.ownsRow base 144 9 v n xs :=
  World.ownsRow.kept h (row := none) ⟨hb.os, hb.tape, hb.output, hb.size, fun k hk _ => hb.block k hk⟩ (by cases v.ownBlock <;> simp)
theorem ownsR_mono {w : World} {base base' n : Nat} {v : Value} {xs : List Value} (h : w.ownsRow base 144 9 v n xs) (hb : base' ≤ base) : w.ownsRow base' 144 9 v n xs := by
  rcases h.2 with ⟨h1, h2⟩ | ⟨g, cap, cur, h1, h2, h3, h4, h5, h6, h7⟩
  · exact ⟨h.1, .inl ⟨h1, h2⟩⟩
  · exact ⟨h.1, .inr ⟨g, cap, cur, h1, by omega, h3, h4, h5, h6, h7⟩⟩
theorem ownsR_ne {w : World} {base n cv g : Nat} {p : Option Addr} {xs l : List Value} {t : TypeId} (h : w.ownsRow base 144 9 (.slice p n cv) n xs) (hr : Row w g t l) (ht : t ≠ 144) : p ≠ some ⟨g, 0, none⟩ := by
  rintro rfl
  rcases h.2 with ⟨h1, _⟩ | ⟨g', cap, cur, h1, _, h3, _⟩
  · simp at h1
  · simp only [Value.slice.injEq, Option.some.injEq, Addr.mk.injEq, and_true] at h1
    obtain ⟨rfl, _⟩ := h1
    unfold Row at hr
    rw [h3] at hr
    simp only [Option.some.injEq, Obj.cells.injEq] at hr
    exact ht hr.2.1.symm
theorem ownsR_base {w : World} {base n cv g : Nat} {p : Option Addr} {xs : List Value} (h : w.ownsRow base 144 9 (.slice p n cv) n xs) (hg : g < base) : p ≠ some ⟨g, 0, none⟩ := by
  rintro rfl
  have := (World.ownsRow.lt h g rfl).1
  omega
theorem ownsR_size {w : World} {base n cv g : Nat} {p : Option Addr} {xs : List Value} (h : w.ownsRow base 144 9 (.slice p n cv) n xs) (hg : w.heap.size ≤ g) : p ≠ some ⟨g, 0, none⟩ := by
  rintro rfl
  have := (World.ownsRow.lt h g rfl).2
  omega
theorem row_ne {w : World} {g k : Nat} {l m : List Value} {t u : TypeId} (h : Row w g t l) (hk : Row w k u m) (ht : t ≠ u) : g ≠ k := by
  rintro rfl
  unfold Row at h hk
  rw [h] at hk
  simp only [Option.some.injEq, Obj.cells.injEq] at hk
  exact ht hk.2.1
end Go.Proofs.YtialedffpaoacaaGreatDoor
/- The laws' own marks in a list of routes: written, and looked for. (Written by gen_markr.py.) -/
namespace Go.Proofs.YtialedffpaoacaaGreatDoor
open Go.RowKit Go.Sort

def m3 (x : Int) : Bool := x.tmod 3 == 0
def markR (K i : Nat) : Rt := ⟨(K : Int) + 9 * (i : Int) + 0, (K : Int) + 9 * (i : Int) + 1, (K : Int) + 9 * (i : Int) + 2, (K : Int) + 9 * (i : Int) + 3, (K : Int) + 9 * (i : Int) + 4, (K : Int) + 9 * (i : Int) + 5, (K : Int) + 9 * (i : Int) + 6, (K : Int) + 9 * (i : Int) + 7, m3 ((K : Int) + 9 * (i : Int) + 8)⟩
def marksR (K n : Nat) : List Rt := (List.range n).map (markR K)
theorem marksR_length (K n : Nat) : (marksR K n).length = n := by simp [marksR]
theorem marksR_set (K : Nat) (es : List Rt) (rest : List Value) (k : Nat) (hk : k < es.length) :
    (((((((((rowR (marksR K k ++ es.drop k) ++ rest).set (k * 9) (.int .i64 ((K : Int) + 9 * (k : Int) + 0))).set (k * 9 + 1) (.int .i64 ((K : Int) + 9 * (k : Int) + 1))).set (k * 9 + 2) (.int .i64 ((K : Int) + 9 * (k : Int) + 2))).set (k * 9 + 3) (.int .i64 ((K : Int) + 9 * (k : Int) + 3))).set (k * 9 + 4) (.int .i64 ((K : Int) + 9 * (k : Int) + 4))).set (k * 9 + 5) (.int .i64 ((K : Int) + 9 * (k : Int) + 5))).set (k * 9 + 6) (.int .i64 ((K : Int) + 9 * (k : Int) + 6))).set (k * 9 + 7) (.int .i64 ((K : Int) + 9 * (k : Int) + 7))).set (k * 9 + 8) (.bool (m3 ((K : Int) + 9 * (k : Int) + 8))) = rowR (marksR K (k + 1) ++ es.drop (k + 1)) ++ rest := by
  have e1 : marksR K (k + 1) = marksR K k ++ [markR K k] := by simp [marksR, List.range_succ]
  rw [List.drop_eq_getElem_cons hk, e1, rowR_append, rowR_cons, List.append_assoc (marksR K k), rowR_append, List.singleton_append, rowR_cons, List.append_assoc, List.append_assoc, List.append_assoc, List.append_assoc]
  exact set9 _ _ k (by rw [rowR_length, marksR_length]; omega) _ _ _ _ _ _ _ _ _ _ _ _ _ _ _ _ _ _
set_option maxRecDepth 100000 in
set_option maxHeartbeats 2000000 in
theorem markRouteS_in (K g n cv : Nat) (es : List Rt) (rest : List Value) (w : World) (hn : n = es.length) (hK : K ≤ 100000000) (h8 : n ≤ 100000000) (hr : Row w g 144 (rowR es ++ rest)) :
    Calls Tryz.prog 68 #[.slice (some ⟨g, 0, none⟩) n cv, .int .i64 K] w fun e w' => e = .returned (.int .i64 ((K : Int) + 9 * (n : Int))) ∧ Row w' g 144 (rowR (marksR K n) ++ rest) ∧ Below g w w' ∧ ∀ b t l, b ≠ g → Row w b t l → Row w' b t l := by
  have HN : Hid (n = es.length) := hn
  have hr0 : Row w g 144 (rowR (marksR K 0 ++ es.drop 0) ++ rest) := hr
  clear hn hr
  go_enter Tryz.func68, Tryz.ntmps68
  go_wp2_with fail
  go_loopw [5, 1] (fun i m wr => ∃ k : Nat, k ≤ n ∧ i = .int .i64 k ∧ m = .int .i64 ((K : Int) + 9 * (k : Int)) ∧ Row wr g 144 (rowR (marksR K k ++ es.drop k) ++ rest) ∧ Below g w wr ∧ ∀ b t l, b ≠ g → Row w b t l → Row wr b t l) (fun i _ _ => n - (intOf i).toNat)
  case atStart => exact ⟨0, Nat.zero_le _, rfl, by go_num, hr0, Below.refl _ _, fun _ _ _ _ h => h⟩
  case round =>
    obtain ⟨k, hk, rfl, rfl, hr, hb, hoth⟩ := hrel
    have HOT : Hid (∀ b t l, b ≠ g → Row w b t l → Row wr b t l) := hoth
    clear hr0 hoth
    by_cases hlt : k < n
    · have hlen : (marksR K k ++ es.drop k).length = n := by rw [List.length_append, marksR_length, List.length_drop, ← HN.out]; omega
      have hlr : k * 9 + 8 < (rowR (marksR K k ++ es.drop k) ++ rest).length := by rw [List.length_append, rowR_length, hlen]; omega
      obtain ⟨z0, c0⟩ := Row.someR hr (k * 9) (by omega)
      obtain ⟨z1, c1⟩ := Row.someR hr (k * 9 + 1) (by omega)
      obtain ⟨z2, c2⟩ := Row.someR hr (k * 9 + 2) (by omega)
      obtain ⟨z3, c3⟩ := Row.someR hr (k * 9 + 3) (by omega)
      obtain ⟨z4, c4⟩ := Row.someR hr (k * 9 + 4) (by omega)
      obtain ⟨z5, c5⟩ := Row.someR hr (k * 9 + 5) (by omega)
      obtain ⟨z6, c6⟩ := Row.someR hr (k * 9 + 6) (by omega)
      obtain ⟨z7, c7⟩ := Row.someR hr (k * 9 + 7) (by omega)
      obtain ⟨z8, c8⟩ := Row.someR hr (k * 9 + 8) (by omega)
      have f0 := hr.frozen (k * 9)
      have f1 := hr.frozen (k * 9 + 1)
      have f2 := hr.frozen (k * 9 + 2)
      have f3 := hr.frozen (k * 9 + 3)
      have f4 := hr.frozen (k * 9 + 4)
      have f5 := hr.frozen (k * 9 + 5)
      have f6 := hr.frozen (k * 9 + 6)
      have f7 := hr.frozen (k * 9 + 7)
      have f8 := hr.frozen (k * 9 + 8)
      have hr2 := nine_row hr (k * 9) (.int .i64 ((K : Int) + 9 * (k : Int) + 0)) (.int .i64 ((K : Int) + 9 * (k : Int) + 1)) (.int .i64 ((K : Int) + 9 * (k : Int) + 2)) (.int .i64 ((K : Int) + 9 * (k : Int) + 3)) (.int .i64 ((K : Int) + 9 * (k : Int) + 4)) (.int .i64 ((K : Int) + 9 * (k : Int) + 5)) (.int .i64 ((K : Int) + 9 * (k : Int) + 6)) (.int .i64 ((K : Int) + 9 * (k : Int) + 7)) (.bool (m3 ((K : Int) + 9 * (k : Int) + 8)))
      rw [marksR_set K es rest k (by rw [← HN.out]; exact hlt)] at hr2
      have hB2 := nine_below hb g (k * 9) (Nat.le_refl _) (.int .i64 ((K : Int) + 9 * (k : Int) + 0)) (.int .i64 ((K : Int) + 9 * (k : Int) + 1)) (.int .i64 ((K : Int) + 9 * (k : Int) + 2)) (.int .i64 ((K : Int) + 9 * (k : Int) + 3)) (.int .i64 ((K : Int) + 9 * (k : Int) + 4)) (.int .i64 ((K : Int) + 9 * (k : Int) + 5)) (.int .i64 ((K : Int) + 9 * (k : Int) + 6)) (.int .i64 ((K : Int) + 9 * (k : Int) + 7)) (.bool (m3 ((K : Int) + 9 * (k : Int) + 8)))
      have hO2 := fun b t l (hne : b ≠ g) (h : Row w b t l) => nine_other (HOT.out b t l hne h) hne (k * 9) (.int .i64 ((K : Int) + 9 * (k : Int) + 0)) (.int .i64 ((K : Int) + 9 * (k : Int) + 1)) (.int .i64 ((K : Int) + 9 * (k : Int) + 2)) (.int .i64 ((K : Int) + 9 * (k : Int) + 3)) (.int .i64 ((K : Int) + 9 * (k : Int) + 4)) (.int .i64 ((K : Int) + 9 * (k : Int) + 5)) (.int .i64 ((K : Int) + 9 * (k : Int) + 6)) (.int .i64 ((K : Int) + 9 * (k : Int) + 7)) (.bool (m3 ((K : Int) + 9 * (k : Int) + 8)))
      unfold nine at hr2 hB2 hO2
      have HH : Hid _ := And.intro hr2 (And.intro hB2 hO2)
      clear hr hb hr2 hB2 hlen hlr hO2 HOT
      go_wp2_with fail
      have E : ∀ x : Int, x = (K : Int) + 9 * (k : Int) → x + 1 = x + 1 := fun _ _ => rfl
      clear E
      rw [show (K : Int) + 9 * (k : Int) + 1 + 1 + 1 + 1 + 1 + 1 + 1 + 1 + 1 = (K : Int) + 9 * ((k + 1 : Nat) : Int) by omega, show (K : Int) + 9 * (k : Int) + 1 + 1 + 1 + 1 + 1 + 1 + 1 + 1 = (K : Int) + 9 * (k : Int) + 8 by omega, show (K : Int) + 9 * (k : Int) + 1 + 1 + 1 + 1 + 1 + 1 + 1 = (K : Int) + 9 * (k : Int) + 7 by omega, show (K : Int) + 9 * (k : Int) + 1 + 1 + 1 + 1 + 1 + 1 = (K : Int) + 9 * (k : Int) + 6 by omega, show (K : Int) + 9 * (k : Int) + 1 + 1 + 1 + 1 + 1 = (K : Int) + 9 * (k : Int) + 5 by omega, show (K : Int) + 9 * (k : Int) + 1 + 1 + 1 + 1 = (K : Int) + 9 * (k : Int) + 4 by omega, show (K : Int) + 9 * (k : Int) + 1 + 1 + 1 = (K : Int) + 9 * (k : Int) + 3 by omega, show (K : Int) + 9 * (k : Int) + 1 + 1 = (K : Int) + 9 * (k : Int) + 2 by omega]
      refine ⟨⟨k + 1, hlt, by go_num, rfl, HH.out.1, HH.out.2.1, HH.out.2.2⟩, ?_⟩
      simp [intOf]
      omega
    · obtain rfl : k = n := by omega
      have hre : marksR K k ++ es.drop k = marksR K k := by rw [HN.out, List.drop_length, List.append_nil]
      rw [hre] at hr
      clear hlt hk hre
      go_wp2
      go_ret
      exact ⟨rfl, hr, hb, HOT.out⟩
set_option maxRecDepth 100000 in
set_option maxHeartbeats 2000000 in
theorem heldRouteS_in (K : Nat) (p : Option Addr) (n cv : Nat) (w : World) (hK : K ≤ 100000000) (h8 : n ≤ 100000000) (hE : RtsIn w p (marksR K n)) :
    Calls Tryz.prog 73 #[.slice p n cv, .int .i64 K] w fun e w' => e = .returned (.int .i64 ((K : Int) + 9 * (n : Int))) ∧ w = w' := by
  have HX : Hid (RtsIn w p (marksR K n)) := hE
  clear hE
  go_enter Tryz.func73, Tryz.ntmps73
  go_wp2_with fail
  go_loop [5, 1] (fun i m => ∃ k : Nat, k ≤ n ∧ i = .int .i64 k ∧ m = .int .i64 ((K : Int) + 9 * (k : Int))) (fun i _ => n - (intOf i).toNat)
  case atStart => exact ⟨0, Nat.zero_le _, rfl, by go_num⟩
  case round =>
    obtain ⟨k, hk, rfl, rfl⟩ := hrel
    by_cases hlt : k < n
    · obtain ⟨g, y0, y1, y2, y3, y4, y5, y6, y7, y8, rfl, hg, hek, c0, c1, c2, c3, c4, c5, c6, c7, c8⟩ := HX.out.at k (by rw [marksR_length]; exact hlt)
      have hmk : (marksR K n)[k]'(by rw [marksR_length]; exact hlt) = markR K k := by simp [marksR]
      rw [hmk] at hek
      simp only [markR, Rt.mk.injEq] at hek
      obtain ⟨rfl, rfl, rfl, rfl, rfl, rfl, rfl, rfl, rfl⟩ := hek
      rw [Int.add_zero] at c0
      rw [show (K : Int) + 9 * (k : Int) + 1 = (K : Int) + 9 * (k : Int) + 1 by omega] at c1
      rw [show (K : Int) + 9 * (k : Int) + 2 = (K : Int) + 9 * (k : Int) + 1 + 1 by omega] at c2
      rw [show (K : Int) + 9 * (k : Int) + 3 = (K : Int) + 9 * (k : Int) + 1 + 1 + 1 by omega] at c3
      rw [show (K : Int) + 9 * (k : Int) + 4 = (K : Int) + 9 * (k : Int) + 1 + 1 + 1 + 1 by omega] at c4
      rw [show (K : Int) + 9 * (k : Int) + 5 = (K : Int) + 9 * (k : Int) + 1 + 1 + 1 + 1 + 1 by omega] at c5
      rw [show (K : Int) + 9 * (k : Int) + 6 = (K : Int) + 9 * (k : Int) + 1 + 1 + 1 + 1 + 1 + 1 by omega] at c6
      rw [show (K : Int) + 9 * (k : Int) + 7 = (K : Int) + 9 * (k : Int) + 1 + 1 + 1 + 1 + 1 + 1 + 1 by omega] at c7
      rw [show (K : Int) + 9 * (k : Int) + 8 = (K : Int) + 9 * (k : Int) + 1 + 1 + 1 + 1 + 1 + 1 + 1 + 1 by omega] at c8
      clear hmk
      unfold m3 at c8
      have hx : ((((K : Int) + 9 * (k : Int) + 1 + 1 + 1 + 1 + 1 + 1 + 1 + 1).tmod 3 == 0) != (((K : Int) + 9 * (k : Int) + 1 + 1 + 1 + 1 + 1 + 1 + 1 + 1).tmod 3 == 0)) = false := by simp
      go_wp2_with fail
      refine ⟨⟨k + 1, hlt, by go_num, by go_num⟩, ?_⟩
      simp [intOf]
      omega
    · obtain rfl : k = n := by omega
      clear hlt hk
      go_wp2
      go_ret
      exact ⟨rfl, rfl⟩

end Go.Proofs.YtialedffpaoacaaGreatDoor
/- The laws' own looks at tables that are handed back: alike, marked, held. (Written by gen_markr.py.) -/
namespace Go.Proofs.YtialedffpaoacaaGreatDoor
open Go.RowKit Go.Sort
set_option maxRecDepth 100000 in
theorem markRouteS_0 (K : Nat) (p : Option Addr) (cv : Nat) (w : World) : Calls Tryz.prog 68 #[.slice p 0 cv, .int .i64 K] w fun e w' => e = .returned (.int .i64 K) ∧ w = w' := by
  go_enter Tryz.func68, Tryz.ntmps68
  go_wp2_with fail
  go_loop [5, 1] (fun i k => i = .int .i64 0 ∧ k = .int .i64 K) (fun _ _ => 0)
  case atStart => exact ⟨rfl, rfl⟩
  case round =>
    obtain ⟨rfl, rfl⟩ := hrel
    go_wp2
    go_ret
    exact ⟨rfl, rfl⟩
set_option maxHeartbeats 1000000 in
theorem markRouteS_any (K : Nat) (p : Option Addr) (n cv base : Nat) (es : List Rt) (w : World) (hn : n = es.length) (hK : K ≤ 100000000) (h8 : n ≤ 100000000) (h : w.ownsRow base 144 9 (.slice p n cv) n (rowR es)) :
    Calls Tryz.prog 68 #[.slice p n cv, .int .i64 K] w fun e w' => e = .returned (.int .i64 ((K : Int) + 9 * (n : Int))) ∧ w'.ownsRow base 144 9 (.slice p n cv) n (rowR (marksR K n)) ∧ Below base w w' ∧ ∀ b t l, p ≠ some ⟨b, 0, none⟩ → Row w b t l → Row w' b t l := by
  subst hn
  rcases ownsR_opened h with h0 | ⟨g, rest, rfl, hb, h1, h2, hr, hl⟩
  · subst h0
    exact (markRouteS_0 K p cv w).mono fun e w' ⟨he, hw⟩ => ⟨by rw [he]; simp, hw ▸ h, hw ▸ Below.refl _ _, fun _ _ _ _ h => hw ▸ h⟩
  · refine (markRouteS_in K g _ cv es rest w rfl hK h8 hr).mono fun e w' ⟨he, hr', hb', ho'⟩ => ⟨he, ownsR_shut (marksR_length K _).symm hb h1 h2 hr' ?_, hb'.mono hb, fun b t l hp h => ho' b t l (fun e => hp (by rw [e])) h⟩
    rw [List.length_append, rowR_length, marksR_length]
    rw [List.length_append, rowR_length] at hl
    exact hl

end Go.Proofs.YtialedffpaoacaaGreatDoor
/- An answer of RibOut. -/
namespace Go.Proofs.YtialedffpaoacaaGreatDoor
open Go.RowKit Go.Sort

/-- An answer of RibOut: its code, its routes in memory of its own. -/
def OutR (base : Nat) (c : Int) (qs : List Rt) (e : Ending) (w : World) : Prop := ∃ p cap, e = .returned (.agg #[.slice p qs.length cap, .int .i64 c]) ∧ w.ownsRow base 144 9 (.slice p qs.length cap) qs.length (rowR qs)
end Go.Proofs.YtialedffpaoacaaGreatDoor
/- A table at work takes what it is told. (Written by gen_work.py.) -/
namespace Go.Proofs.YtialedffpaoacaaGreatDoor
open Go.RowKit Go.Sort

/-- What became of a table at work, whose routes stand at cell k of block g: with the code 0 the new routes, of its own, else as it was. -/
def Took (g k : Nat) (T : TypeId) (l : List Value) (base : Nat) (c : Int) (qs : List Rt) (w w' : World) : Prop := (if c = 0 then ∃ q' c', Row w' g T (l.set k (.slice q' qs.length c')) ∧ w'.ownsRow base 144 9 (.slice q' qs.length c') qs.length (rowR qs) else Row w' g T l) ∧ Below g w w' ∧ ∀ b t l, b ≠ g → Row w b t l → Row w' b t l
set_option maxRecDepth 100000 in
set_option maxHeartbeats 2000000 in
theorem take_any (g k : Nat) (T : TypeId) (l : List Value) (q : Option Addr) (n c : Nat) (cc : Int) (v0 : Value) (w : World) (hr : Row w g T l) (hk : l[k]? = some v0) :
    Calls Tryz.prog 190 #[.pointer (some ⟨g, k, none⟩), .agg #[.slice q n c, .int .i64 cc]] w fun e w' => e = .returned (.int .i64 cc) ∧ Row w' g T (if cc = 0 then l.set k (.slice q n c) else l) ∧ Below g w w' ∧ ∀ b t l, b ≠ g → Row w b t l → Row w' b t l := by
  have hlt := hr.lt
  have r0 := hr.alloc (.cells #[.slice q n c, .int .i64 cc] 126)
  have y0 : (w.alloc (.cells #[.slice q n c, .int .i64 cc] 126)).cell? ⟨g, k, none⟩ = some v0 := (r0.cell k).trans hk
  have f0 : (w.alloc (.cells #[.slice q n c, .int .i64 cc] 126)).frozen? ⟨g, k, none⟩ = false := r0.frozen k
  have HK : Hid _ := And.intro r0 (And.intro ((hr.set k (.slice q n c)).alloc (.cells #[.slice q n c, .int .i64 cc] 126)) (And.intro ((Below.refl g w).alloc (Nat.le_of_lt hlt) (.cells #[.slice q n c, .int .i64 cc] 126)) (And.intro (((Below.refl g w).setCell (p := ⟨g, k, none⟩) (Nat.le_refl g) (.slice q n c)).alloc (by simp; omega) (.cells #[.slice q n c, .int .i64 cc] 126)) (And.intro (fun b t l' (h : Row w b t l') => h.alloc (.cells #[.slice q n c, .int .i64 cc] 126)) (fun b t l' (hb : b ≠ g) (h : Row w b t l') => (h.other k (.slice q n c) hb).alloc (.cells #[.slice q n c, .int .i64 cc] 126))))))
  clear hr hk r0
  by_cases hc : cc = 0
  · have hcc : (cc == 0) = true := by simpa using hc
    rw [if_pos hc]
    clear hc
    go_enter Tryz.func190, Tryz.ntmps190
    go_wp2
    go_ret
    exact ⟨rfl, HK.out.2.1, HK.out.2.2.2.1, HK.out.2.2.2.2.2⟩
  · have hcc : (cc == 0) = false := by simpa using hc
    rw [if_neg hc]
    clear hc
    go_enter Tryz.func190, Tryz.ntmps190
    go_wp2
    go_ret
    exact ⟨rfl, HK.out.1, HK.out.2.2.1, fun b t l' _ h => HK.out.2.2.2.2.1 b t l' h⟩
/-- What a call told, handed to 'take'. -/
theorem took_of {g k : Nat} {T : TypeId} {l : List Value} {q : Option Addr} {c : Nat} {cc : Int} {qs : List Rt} {w w1 w2 : World} (hlt : g < w.heap.size) (hb : Below w.heap.size w w1) (ho : w1.ownsRow w.heap.size 144 9 (.slice q qs.length c) qs.length (rowR qs)) (hr : Row w2 g T (if cc = 0 then l.set k (.slice q qs.length c) else l)) (hb2 : Below g w1 w2) (hk2 : ∀ b t l, b ≠ g → Row w1 b t l → Row w2 b t l) : Took g k T l w.heap.size cc qs w w2 := by
  refine ⟨?_, (hb.mono (Nat.le_of_lt hlt)).trans hb2, fun b t l' hne h => hk2 b t l' hne (h.below hb h.lt)⟩
  by_cases hc : cc = 0
  · rw [if_pos hc] at hr ⊢
    refine ⟨q, c, hr, ownsR_kept rfl ho (fun b t l' e h => hk2 b t l' (fun e2 => ?_) h)⟩
    subst e2
    rw [e] at ho
    have := World.ownsRow.lt ho b rfl
    omega
  · rw [if_neg hc] at hr ⊢
    exact hr
end Go.Proofs.YtialedffpaoacaaGreatDoor
/- What a router at work tells. (Written by gen_work.py.) -/
namespace Go.Proofs.YtialedffpaoacaaGreatDoor
open Go.RowKit Go.Sort

def toldV (q2 : Option Addr) (n2 k2 : Nat) (q1 : Option Addr) (n1 k1 : Nat) (now c : Int) : Value := if c = 0 then .agg #[.slice q1 n1 k1, .slice q2 n2 k2, .int .i64 now, .int .i64 c] else .agg #[.slice none 0 0, .slice none 0 0, .int .i64 0, .int .i64 c]
set_option maxRecDepth 100000 in
set_option maxHeartbeats 2000000 in
theorem told_any (g : Nat) (q2 : Option Addr) (n2 k2 : Nat) (q1 : Option Addr) (n1 k1 : Nat) (now c : Int) (w : World) (hr : Row w g 179 [.slice q2 n2 k2, .slice q1 n1 k1, .int .i64 now]) :
    Calls Tryz.prog 119 #[.pointer (some ⟨g, 0, none⟩), .int .i64 c] w fun e w' => e = .returned (toldV q2 n2 k2 q1 n1 k1 now c) ∧ Below w.heap.size w w' := by
  have hlt := hr.lt
  have hne : g ≠ w.heap.size := by omega
  have r0 := hr.alloc (.cells #[.slice none 0 0, .slice none 0 0, .int .i64 0, .int .i64 0] 74)
  have y0 : (w.alloc (.cells #[.slice none 0 0, .slice none 0 0, .int .i64 0, .int .i64 0] 74)).cell? ⟨g, 0, none⟩ = some (.slice q2 n2 k2) := r0.cell 0
  have y1 : (w.alloc (.cells #[.slice none 0 0, .slice none 0 0, .int .i64 0, .int .i64 0] 74)).cell? ⟨g, 1, none⟩ = some (.slice q1 n1 k1) := r0.cell 1
  have y2 : (w.alloc (.cells #[.slice none 0 0, .slice none 0 0, .int .i64 0, .int .i64 0] 74)).cell? ⟨g, 2, none⟩ = some (.int .i64 now) := r0.cell 2
  clear hr r0 hlt hne
  unfold toldV
  by_cases hc : c = 0
  · subst hc
    rw [if_pos rfl]
    go_enter Tryz.func119, Tryz.ntmps119
    go_wp2_with fail
    refine wp_region_tail 15 (by kernel_rfl) (by kernel_rfl) ?_
    simp only [List.take_succ_cons, List.take_zero, List.drop_succ_cons, List.drop_zero]
    repeat (quiet_step (fail))
    refine wpQuiet_nil ?_
    intro _ hw'
    obtain ⟨nq, hw''⟩ := hw'
    subst hw''
    go_wp2
    exact bodyPost_ret (v := .agg #[.slice q1 n1 k1, .slice q2 n2 k2, .int .i64 now, .int .i64 0]) (by simp [results, Tryz.results119, go_sem]) rfl ⟨rfl, ((((below_drewN (ent_new0 _ _) _).setCell (Nat.le_refl _) _).setCell (Nat.le_refl _) _).setCell (Nat.le_refl _) _).setCell (Nat.le_refl _) _⟩
  · have hcc : (c != 0) = true := by simpa using hc
    rw [if_neg hc]
    go_enter Tryz.func119, Tryz.ntmps119
    go_wp2
    exact bodyPost_ret (v := .agg #[.slice none 0 0, .slice none 0 0, .int .i64 0, .int .i64 c]) (by simp [results, Tryz.results119, go_sem]) rfl ⟨rfl, ent_new0 _ _⟩
end Go.Proofs.YtialedffpaoacaaGreatDoor
