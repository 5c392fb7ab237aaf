/- The laws' own Ifaces handed in: opened. (Written by gen_if.py.) -/
import Derived.Test.YtflmbkjnlgibnaaIff
import Derived.Lib.SmallJoins
import Derived.Deep.Slices
import Derived.OwnWalk
namespace Go.Proofs.Ytflmbkjnlgibnaa
open Go.ChangeShapes Go.WideShapes Go.RowKit Go.Deep Go.WideElems Go.Maps Go.Joins

def ifL (f : If) : List Value := [.int .i64 f.d, .int .i64 f.a, .int .i64 f.l, .int .i64 f.c, .bool f.u]
theorem array5i {α : Type} {cs : Array α} (h : cs.size = 5) : ∃ c0 c1 c2 c3 c4, cs = #[c0, c1, c2, c3, c4] := by
  obtain ⟨l⟩ := cs
  match l, h with
  | [c0, c1, c2, c3, c4], _ => exact ⟨c0, c1, c2, c3, c4, rfl⟩
/-- All four numbers of an Iface are of 64 bits. -/
def IfW (f : If) : Prop := (Lit.int .i64 f.d).wf = true ∧ (Lit.int .i64 f.a).wf = true ∧ (Lit.int .i64 f.l).wf = true ∧ (Lit.int .i64 f.c).wf = true
theorem Try.cellsIface : Try.prog.cellsOf 88 = 5 := by kernel_rfl
theorem Try.cellsNetI : Try.prog.cellsOf 58 = 2 := by kernel_rfl
theorem Try.cellsIntI : Try.prog.cellsOf 2 = 1 := by kernel_rfl
theorem Try.cellsBoolI : Try.prog.cellsOf 4 = 1 := by kernel_rfl
section
variable {H : Type} {enc : TypeId × Value → H} {w : World} {base : Nat} {spare : Nat → Bool} {held : Bool}
set_option maxRecDepth 100000 in
theorem open_if {fuel : Nat} {cs : List Value} {x : DataW H × List MemPlace} (h : DataW.trod enc Try.prog w base spare held fuel 88 cs = some x) : ∃ f : If, cs = ifL f ∧ IfW f := by
  obtain ⟨xs, n, _, _, hl, hx, hg⟩ := DataW.trod_struct Try.underlying88 h
  rw [Try.cellsIface] at hl
  match cs, hl, xs, hx with
  | [c0, c1, c2, c3, c4], _, [y0, y1, y2, y3], _ =>
    have h0 : DataW.trod enc Try.prog w base spare held n 2 ((([c0, c1, c2, c3, c4] : List Value).drop 0).take (Try.prog.cellsOf 2)) = [y0, y1, y2, y3][0]? := hg 0 _ rfl
    rw [Try.cellsIntI] at h0
    replace h0 : DataW.trod enc Try.prog w base spare held n 2 [c0] = some y0 := h0
    have h1 : DataW.trod enc Try.prog w base spare held n 58 ((([c0, c1, c2, c3, c4] : List Value).drop 1).take (Try.prog.cellsOf 58)) = [y0, y1, y2, y3][1]? := hg 1 _ rfl
    rw [Try.cellsNetI] at h1
    replace h1 : DataW.trod enc Try.prog w base spare held n 58 [c1, c2] = some y1 := h1
    have h2 : DataW.trod enc Try.prog w base spare held n 2 ((([c0, c1, c2, c3, c4] : List Value).drop 3).take (Try.prog.cellsOf 2)) = [y0, y1, y2, y3][2]? := hg 2 _ rfl
    rw [Try.cellsIntI] at h2
    replace h2 : DataW.trod enc Try.prog w base spare held n 2 [c3] = some y2 := h2
    have h3 : DataW.trod enc Try.prog w base spare held n 4 ((([c0, c1, c2, c3, c4] : List Value).drop 4).take (Try.prog.cellsOf 4)) = [y0, y1, y2, y3][3]? := hg 3 _ rfl
    rw [Try.cellsBoolI] at h3
    replace h3 : DataW.trod enc Try.prog w base spare held n 4 [c4] = some y3 := h3
    obtain ⟨zs, k, _, _, _, hz, hk⟩ := DataW.trod_struct Try.underlying58 h1
    match zs, hz with
    | [z0, z1], _ =>
      have k0 : DataW.trod enc Try.prog w base spare held k 2 ((([c1, c2] : List Value).drop 0).take (Try.prog.cellsOf 2)) = [z0, z1][0]? := hk 0 _ rfl
      rw [Try.cellsIntI] at k0
      replace k0 : DataW.trod enc Try.prog w base spare held k 2 [c1] = some z0 := k0
      have k1 : DataW.trod enc Try.prog w base spare held k 2 ((([c1, c2] : List Value).drop 1).take (Try.prog.cellsOf 2)) = [z0, z1][1]? := hk 1 _ rfl
      rw [Try.cellsIntI] at k1
      replace k1 : DataW.trod enc Try.prog w base spare held k 2 [c2] = some z1 := k1
      obtain ⟨d, ed, _, wd⟩ := DataW.trod_int Try.underlying2 h0
      obtain ⟨a, ea, _, wa⟩ := DataW.trod_int Try.underlying2 k0
      obtain ⟨l, el, _, wl⟩ := DataW.trod_int Try.underlying2 k1
      obtain ⟨c, ec, _, wc⟩ := DataW.trod_int Try.underlying2 h2
      obtain ⟨u, eu, _⟩ := DataW.trod_bool Try.underlying4 h3
      simp only [List.cons.injEq, and_true] at ed ea el ec eu
      subst ed ea el ec eu
      exact ⟨⟨d, a, l, c, u⟩, rfl, wd, wa, wl, wc⟩
set_option maxRecDepth 100000 in
theorem open_ifV {r : Reach} {b0 : Nat} {v : Value} {d : DataW H} {p : List MemPlace} (hv : Value.okWide Try.prog w r b0 88 v) (h : DataW.Trod enc Try.prog w base spare held 88 v d p) :
    ∃ f : If, v = ifV f ∧ IfW f := by
  obtain ⟨cs, rfl, hsz⟩ := okWide_struct Try.underlying88 hv
  obtain ⟨c0, c1, c2, c3, c4, rfl⟩ := array5i (hsz.trans Try.cellsIface)
  obtain ⟨fuel, hf⟩ := h
  obtain ⟨f, he, hw⟩ := open_if hf
  refine ⟨f, ?_, hw⟩
  simp only [Value.cells, ifL] at he
  simp only [List.cons.injEq, and_true] at he
  obtain ⟨rfl, rfl, rfl, rfl, rfl⟩ := he
  rfl
end
end Go.Proofs.Ytflmbkjnlgibnaa
