/- The laws' own Leaks handed in: opened. (Written by gen_lk.py.) -/
import Derived.Test.YtpkjkjepmloddaaLkk
import Derived.Lib.SmallJoins
import Derived.Deep.Slices
import Derived.OwnWalk
namespace Go.Proofs.Ytpkjkjepmloddaa
open Go.ChangeShapes Go.WideShapes Go.RowKit Go.Deep Go.WideElems Go.Maps Go.Joins

def lkL (f : Lk) : List Value := [.int .i64 f.fr, .int .i64 f.tt, .int .i64 f.a, .int .i64 f.l, .int .i64 f.ad, .int .i64 f.tg]
theorem array6k {α : Type} {cs : Array α} (h : cs.size = 6) : ∃ c0 c1 c2 c3 c4 c5, cs = #[c0, c1, c2, c3, c4, c5] := by
  obtain ⟨l⟩ := cs
  match l, h with
  | [c0, c1, c2, c3, c4, c5], _ => exact ⟨c0, c1, c2, c3, c4, c5, rfl⟩
/-- All six numbers of a Leak are of 64 bits. -/
def LkW (f : Lk) : Prop := (Lit.int .i64 f.fr).wf = true ∧ (Lit.int .i64 f.tt).wf = true ∧ (Lit.int .i64 f.a).wf = true ∧ (Lit.int .i64 f.l).wf = true ∧ (Lit.int .i64 f.ad).wf = true ∧ (Lit.int .i64 f.tg).wf = true
theorem Try.cellsLeak : Try.prog.cellsOf 80 = 6 := by kernel_rfl
theorem Try.cellsNetK : Try.prog.cellsOf 78 = 2 := by kernel_rfl
theorem Try.cellsIntK : Try.prog.cellsOf 2 = 1 := by kernel_rfl
section
variable {H : Type} {enc : TypeId × Value → H} {w : World} {base : Nat} {spare : Nat → Bool} {held : Bool}
set_option maxRecDepth 100000 in
theorem open_lk {fuel : Nat} {cs : List Value} {x : DataW H × List MemPlace} (h : DataW.trod enc Try.prog w base spare held fuel 80 cs = some x) : ∃ f : Lk, cs = lkL f ∧ LkW f := by
  obtain ⟨xs, n, _, _, hl, hx, hg⟩ := DataW.trod_struct Try.underlying80 h
  rw [Try.cellsLeak] at hl
  match cs, hl, xs, hx with
  | [c0, c1, c2, c3, c4, c5], _, [y0, y1, y2, y3, y4], _ =>
    have h0 : DataW.trod enc Try.prog w base spare held n 2 ((([c0, c1, c2, c3, c4, c5] : List Value).drop 0).take (Try.prog.cellsOf 2)) = [y0, y1, y2, y3, y4][0]? := hg 0 _ rfl
    rw [Try.cellsIntK] at h0
    replace h0 : DataW.trod enc Try.prog w base spare held n 2 [c0] = some y0 := h0
    have h1 : DataW.trod enc Try.prog w base spare held n 2 ((([c0, c1, c2, c3, c4, c5] : List Value).drop 1).take (Try.prog.cellsOf 2)) = [y0, y1, y2, y3, y4][1]? := hg 1 _ rfl
    rw [Try.cellsIntK] at h1
    replace h1 : DataW.trod enc Try.prog w base spare held n 2 [c1] = some y1 := h1
    have h2 : DataW.trod enc Try.prog w base spare held n 78 ((([c0, c1, c2, c3, c4, c5] : List Value).drop 2).take (Try.prog.cellsOf 78)) = [y0, y1, y2, y3, y4][2]? := hg 2 _ rfl
    rw [Try.cellsNetK] at h2
    replace h2 : DataW.trod enc Try.prog w base spare held n 78 [c2, c3] = some y2 := h2
    have h3 : DataW.trod enc Try.prog w base spare held n 2 ((([c0, c1, c2, c3, c4, c5] : List Value).drop 4).take (Try.prog.cellsOf 2)) = [y0, y1, y2, y3, y4][3]? := hg 3 _ rfl
    rw [Try.cellsIntK] at h3
    replace h3 : DataW.trod enc Try.prog w base spare held n 2 [c4] = some y3 := h3
    have h4 : DataW.trod enc Try.prog w base spare held n 2 ((([c0, c1, c2, c3, c4, c5] : List Value).drop 5).take (Try.prog.cellsOf 2)) = [y0, y1, y2, y3, y4][4]? := hg 4 _ rfl
    rw [Try.cellsIntK] at h4
    replace h4 : DataW.trod enc Try.prog w base spare held n 2 [c5] = some y4 := h4
    obtain ⟨zs, k, _, _, _, hz, hk⟩ := DataW.trod_struct Try.underlying78 h2
    match zs, hz with
    | [z0, z1], _ =>
      have k0 : DataW.trod enc Try.prog w base spare held k 2 ((([c2, c3] : List Value).drop 0).take (Try.prog.cellsOf 2)) = [z0, z1][0]? := hk 0 _ rfl
      rw [Try.cellsIntK] at k0
      replace k0 : DataW.trod enc Try.prog w base spare held k 2 [c2] = some z0 := k0
      have k1 : DataW.trod enc Try.prog w base spare held k 2 ((([c2, c3] : List Value).drop 1).take (Try.prog.cellsOf 2)) = [z0, z1][1]? := hk 1 _ rfl
      rw [Try.cellsIntK] at k1
      replace k1 : DataW.trod enc Try.prog w base spare held k 2 [c3] = some z1 := k1
      obtain ⟨fr, efr, _, wfr⟩ := DataW.trod_int Try.underlying2 h0
      obtain ⟨tt, ett, _, wtt⟩ := DataW.trod_int Try.underlying2 h1
      obtain ⟨a, ea, _, wa⟩ := DataW.trod_int Try.underlying2 k0
      obtain ⟨l, el, _, wl⟩ := DataW.trod_int Try.underlying2 k1
      obtain ⟨ad, ead, _, wad⟩ := DataW.trod_int Try.underlying2 h3
      obtain ⟨tg, etg, _, wtg⟩ := DataW.trod_int Try.underlying2 h4
      simp only [List.cons.injEq, and_true] at efr ett ea el ead etg
      subst efr ett ea el ead etg
      exact ⟨⟨fr, tt, a, l, ad, tg⟩, rfl, wfr, wtt, wa, wl, wad, wtg⟩
set_option maxRecDepth 100000 in
theorem open_lkV {r : Reach} {b0 : Nat} {v : Value} {d : DataW H} {p : List MemPlace} (hv : Value.okWide Try.prog w r b0 80 v) (h : DataW.Trod enc Try.prog w base spare held 80 v d p) :
    ∃ f : Lk, v = lkV f ∧ LkW f := by
  obtain ⟨cs, rfl, hsz⟩ := okWide_struct Try.underlying80 hv
  obtain ⟨c0, c1, c2, c3, c4, c5, rfl⟩ := array6k (hsz.trans Try.cellsLeak)
  obtain ⟨fuel, hf⟩ := h
  obtain ⟨f, he, hw⟩ := open_lk hf
  refine ⟨f, ?_, hw⟩
  simp only [Value.cells, lkL] at he
  simp only [List.cons.injEq, and_true] at he
  obtain ⟨rfl, rfl, rfl, rfl, rfl, rfl⟩ := he
  rfl
end
end Go.Proofs.Ytpkjkjepmloddaa
