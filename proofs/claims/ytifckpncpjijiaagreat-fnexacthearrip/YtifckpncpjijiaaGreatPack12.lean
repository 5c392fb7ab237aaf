/- Texts that stand on each other, in one file: OpenEnt. -/
import Derived.Test.YtifckpncpjijiaaGreatPack10
import Derived.Lib.SmallJoins
import Derived.Deep.Slices
/- The laws' own entries, and lists of them, handed in: opened. -/
namespace Go.Proofs.YtifckpncpjijiaaGreat
open Go.ChangeShapes Go.WideShapes Go.RowKit Go.Deep Go.WideElems Go.Maps Go.Joins

theorem array5 {α : Type} {cs : Array α} (h : cs.size = 5) : ∃ c0 c1 c2 c3 c4, cs = #[c0, c1, c2, c3, c4] := by
  obtain ⟨l⟩ := cs
  match l, h with
  | [c0, c1, c2, c3, c4], _ => exact ⟨c0, c1, c2, c3, c4, rfl⟩
/-- All five numbers of an entry are of 64 bits. -/
def EntW (e : Ent) : Prop := (Lit.int .i64 e.a).wf = true ∧ (Lit.int .i64 e.l).wf = true ∧ (Lit.int .i64 e.n).wf = true ∧ (Lit.int .i64 e.m).wf = true ∧ (Lit.int .i64 e.t).wf = true
theorem Tryz.cellsEntry : Tryz.prog.cellsOf 147 = 5 := by kernel_rfl
theorem Tryz.cellsNetL : Tryz.prog.cellsOf 122 = 2 := by kernel_rfl
theorem Tryz.cellsInt : Tryz.prog.cellsOf 2 = 1 := by kernel_rfl
section
variable {H : Type} {enc : TypeId × Value → H} {w : World} {base : Nat} {spare : Nat → Bool} {held : Bool}
set_option maxRecDepth 100000 in
theorem open_ent {fuel : Nat} {cs : List Value} {x : DataW H × List MemPlace} (h : DataW.trod enc Tryz.prog w base spare held fuel 147 cs = some x) : ∃ e : Ent, cs = entL e ∧ EntW e := by
  obtain ⟨xs, n, _, _, hl, hx, hg⟩ := DataW.trod_struct Tryz.underlying147 h
  rw [Tryz.cellsEntry] at hl
  match cs, hl, xs, hx with
  | [c0, c1, c2, c3, c4], _, [y0, y1, y2, y3], _ =>
    have h0 : DataW.trod enc Tryz.prog w base spare held n 122 ((([c0, c1, c2, c3, c4] : List Value).drop 0).take (Tryz.prog.cellsOf 122)) = [y0, y1, y2, y3][0]? := hg 0 _ rfl
    rw [Tryz.cellsNetL] at h0
    replace h0 : DataW.trod enc Tryz.prog w base spare held n 122 [c0, c1] = some y0 := h0
    have h1 : DataW.trod enc Tryz.prog w base spare held n 2 ((([c0, c1, c2, c3, c4] : List Value).drop 2).take (Tryz.prog.cellsOf 2)) = [y0, y1, y2, y3][1]? := hg 1 _ rfl
    rw [Tryz.cellsInt] at h1
    replace h1 : DataW.trod enc Tryz.prog w base spare held n 2 [c2] = some y1 := h1
    have h2 : DataW.trod enc Tryz.prog w base spare held n 2 ((([c0, c1, c2, c3, c4] : List Value).drop 3).take (Tryz.prog.cellsOf 2)) = [y0, y1, y2, y3][2]? := hg 2 _ rfl
    rw [Tryz.cellsInt] at h2
    replace h2 : DataW.trod enc Tryz.prog w base spare held n 2 [c3] = some y2 := h2
    have h3 : DataW.trod enc Tryz.prog w base spare held n 2 ((([c0, c1, c2, c3, c4] : List Value).drop 4).take (Tryz.prog.cellsOf 2)) = [y0, y1, y2, y3][3]? := hg 3 _ rfl
    rw [Tryz.cellsInt] at h3
    replace h3 : DataW.trod enc Tryz.prog w base spare held n 2 [c4] = some y3 := h3
    obtain ⟨zs, k, _, _, _, hz, hk⟩ := DataW.trod_struct Tryz.underlying122 h0
    match zs, hz with
    | [z0, z1], _ =>
      have k0 : DataW.trod enc Tryz.prog w base spare held k 2 ((([c0, c1] : List Value).drop 0).take (Tryz.prog.cellsOf 2)) = [z0, z1][0]? := hk 0 _ rfl
      rw [Tryz.cellsInt] at k0
      replace k0 : DataW.trod enc Tryz.prog w base spare held k 2 [c0] = some z0 := k0
      have k1 : DataW.trod enc Tryz.prog w base spare held k 2 ((([c0, c1] : List Value).drop 1).take (Tryz.prog.cellsOf 2)) = [z0, z1][1]? := hk 1 _ rfl
      rw [Tryz.cellsInt] at k1
      replace k1 : DataW.trod enc Tryz.prog w base spare held k 2 [c1] = some z1 := k1
      obtain ⟨a, ea, _, wa⟩ := DataW.trod_int Tryz.underlying2 k0
      obtain ⟨l, el, _, wl⟩ := DataW.trod_int Tryz.underlying2 k1
      obtain ⟨p, ep, _, wp⟩ := DataW.trod_int Tryz.underlying2 h1
      obtain ⟨m, em, _, wm⟩ := DataW.trod_int Tryz.underlying2 h2
      obtain ⟨t, et, _, wt⟩ := DataW.trod_int Tryz.underlying2 h3
      simp only [List.cons.injEq, and_true] at ea el ep em et
      subst ea el ep em et
      exact ⟨⟨a, l, p, m, t⟩, rfl, wa, wl, wp, wm, wt⟩
set_option maxRecDepth 100000 in
theorem open_entV {r : Reach} {b0 : Nat} {v : Value} {d : DataW H} {p : List MemPlace} (hv : Value.okWide Tryz.prog w r b0 147 v) (h : DataW.Trod enc Tryz.prog w base spare held 147 v d p) :
    ∃ e : Ent, v = entV e ∧ EntW e := by
  obtain ⟨cs, rfl, hsz⟩ := okWide_struct Tryz.underlying147 hv
  obtain ⟨c0, c1, c2, c3, c4, rfl⟩ := array5 (hsz.trans Tryz.cellsEntry)
  obtain ⟨fuel, hf⟩ := h
  obtain ⟨e, he, hw⟩ := open_ent hf
  refine ⟨e, ?_, hw⟩
  simp only [Value.cells, entL] at he
  simp only [List.cons.injEq, and_true] at he
  obtain ⟨rfl, rfl, rfl, rfl, rfl⟩ := he
  rfl
end
end Go.Proofs.YtifckpncpjijiaaGreat
