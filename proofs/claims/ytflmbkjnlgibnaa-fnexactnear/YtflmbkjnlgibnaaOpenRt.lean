/- The laws' own routes, and lists of them, handed in: opened. (Written by gen_rts.py.) -/
import Derived.Test.YtflmbkjnlgibnaaRt
import Derived.Test.YtflmbkjnlgibnaaRowV
import Derived.Lib.SmallJoins
import Derived.Deep.Slices
import Derived.OwnWalk
namespace Go.Proofs.Ytflmbkjnlgibnaa
open Go.ChangeShapes Go.WideShapes Go.RowKit Go.Deep Go.WideElems Go.Maps Go.Joins

def rtL (r : Rt) : List Value := [.int .i64 r.a, .int .i64 r.l, .int .i64 r.m, .int .i64 r.n, .int .i64 r.i, .int .i64 r.t, .int .i64 r.u, .int .i64 r.b, .bool r.c]
theorem rtL_rtA (r : Rt) : (rtA r).toList = rtL r := rfl
theorem array9 {α : Type} {cs : Array α} (h : cs.size = 9) : ∃ c0 c1 c2 c3 c4 c5 c6 c7 c8, cs = #[c0, c1, c2, c3, c4, c5, c6, c7, c8] := by
  obtain ⟨l⟩ := cs
  match l, h with
  | [c0, c1, c2, c3, c4, c5, c6, c7, c8], _ => exact ⟨c0, c1, c2, c3, c4, c5, c6, c7, c8, rfl⟩
/-- All eight numbers of a route are of 64 bits. -/
def RtW (r : Rt) : Prop := (Lit.int .i64 r.a).wf = true ∧ (Lit.int .i64 r.l).wf = true ∧ (Lit.int .i64 r.m).wf = true ∧ (Lit.int .i64 r.n).wf = true ∧ (Lit.int .i64 r.i).wf = true ∧ (Lit.int .i64 r.t).wf = true ∧ (Lit.int .i64 r.u).wf = true ∧ (Lit.int .i64 r.b).wf = true
theorem Try.cellsRoute : Try.prog.cellsOf 130 = 9 := by kernel_rfl
theorem Try.cellsNetR : Try.prog.cellsOf 58 = 2 := by kernel_rfl
theorem Try.cellsIntR : Try.prog.cellsOf 2 = 1 := by kernel_rfl
theorem Try.cellsBoolR : Try.prog.cellsOf 4 = 1 := by kernel_rfl
section
variable {H : Type} {enc : TypeId × Value → H} {w : World} {base : Nat} {spare : Nat → Bool} {held : Bool}
set_option maxRecDepth 100000 in
theorem open_rt {fuel : Nat} {cs : List Value} {x : DataW H × List MemPlace} (h : DataW.trod enc Try.prog w base spare held fuel 130 cs = some x) : ∃ r : Rt, cs = rtL r ∧ RtW r := by
  obtain ⟨xs, n, _, _, hl, hx, hg⟩ := DataW.trod_struct Try.underlying130 h
  rw [Try.cellsRoute] at hl
  match cs, hl, xs, hx with
  | [c0, c1, c2, c3, c4, c5, c6, c7, c8], _, [y0, y1, y2, y3, y4, y5, y6, y7], _ =>
    have h0 : DataW.trod enc Try.prog w base spare held n 58 ((([c0, c1, c2, c3, c4, c5, c6, c7, c8] : List Value).drop 0).take (Try.prog.cellsOf 58)) = [y0, y1, y2, y3, y4, y5, y6, y7][0]? := hg 0 _ rfl
    rw [Try.cellsNetR] at h0
    replace h0 : DataW.trod enc Try.prog w base spare held n 58 [c0, c1] = some y0 := h0
    have h1 : DataW.trod enc Try.prog w base spare held n 2 ((([c0, c1, c2, c3, c4, c5, c6, c7, c8] : List Value).drop 2).take (Try.prog.cellsOf 2)) = [y0, y1, y2, y3, y4, y5, y6, y7][1]? := hg 1 _ rfl
    rw [Try.cellsIntR] at h1
    replace h1 : DataW.trod enc Try.prog w base spare held n 2 [c2] = some y1 := h1
    have h2 : DataW.trod enc Try.prog w base spare held n 2 ((([c0, c1, c2, c3, c4, c5, c6, c7, c8] : List Value).drop 3).take (Try.prog.cellsOf 2)) = [y0, y1, y2, y3, y4, y5, y6, y7][2]? := hg 2 _ rfl
    rw [Try.cellsIntR] at h2
    replace h2 : DataW.trod enc Try.prog w base spare held n 2 [c3] = some y2 := h2
    have h3 : DataW.trod enc Try.prog w base spare held n 2 ((([c0, c1, c2, c3, c4, c5, c6, c7, c8] : List Value).drop 4).take (Try.prog.cellsOf 2)) = [y0, y1, y2, y3, y4, y5, y6, y7][3]? := hg 3 _ rfl
    rw [Try.cellsIntR] at h3
    replace h3 : DataW.trod enc Try.prog w base spare held n 2 [c4] = some y3 := h3
    have h4 : DataW.trod enc Try.prog w base spare held n 2 ((([c0, c1, c2, c3, c4, c5, c6, c7, c8] : List Value).drop 5).take (Try.prog.cellsOf 2)) = [y0, y1, y2, y3, y4, y5, y6, y7][4]? := hg 4 _ rfl
    rw [Try.cellsIntR] at h4
    replace h4 : DataW.trod enc Try.prog w base spare held n 2 [c5] = some y4 := h4
    have h5 : DataW.trod enc Try.prog w base spare held n 2 ((([c0, c1, c2, c3, c4, c5, c6, c7, c8] : List Value).drop 6).take (Try.prog.cellsOf 2)) = [y0, y1, y2, y3, y4, y5, y6, y7][5]? := hg 5 _ rfl
    rw [Try.cellsIntR] at h5
    replace h5 : DataW.trod enc Try.prog w base spare held n 2 [c6] = some y5 := h5
    have h6 : DataW.trod enc Try.prog w base spare held n 2 ((([c0, c1, c2, c3, c4, c5, c6, c7, c8] : List Value).drop 7).take (Try.prog.cellsOf 2)) = [y0, y1, y2, y3, y4, y5, y6, y7][6]? := hg 6 _ rfl
    rw [Try.cellsIntR] at h6
    replace h6 : DataW.trod enc Try.prog w base spare held n 2 [c7] = some y6 := h6
    have h7 : DataW.trod enc Try.prog w base spare held n 4 ((([c0, c1, c2, c3, c4, c5, c6, c7, c8] : List Value).drop 8).take (Try.prog.cellsOf 4)) = [y0, y1, y2, y3, y4, y5, y6, y7][7]? := hg 7 _ rfl
    rw [Try.cellsBoolR] at h7
    replace h7 : DataW.trod enc Try.prog w base spare held n 4 [c8] = some y7 := h7
    obtain ⟨zs, k, _, _, _, hz, hk⟩ := DataW.trod_struct Try.underlying58 h0
    match zs, hz with
    | [z0, z1], _ =>
      have k0 : DataW.trod enc Try.prog w base spare held k 2 ((([c0, c1] : List Value).drop 0).take (Try.prog.cellsOf 2)) = [z0, z1][0]? := hk 0 _ rfl
      rw [Try.cellsIntR] at k0
      replace k0 : DataW.trod enc Try.prog w base spare held k 2 [c0] = some z0 := k0
      have k1 : DataW.trod enc Try.prog w base spare held k 2 ((([c0, c1] : List Value).drop 1).take (Try.prog.cellsOf 2)) = [z0, z1][1]? := hk 1 _ rfl
      rw [Try.cellsIntR] at k1
      replace k1 : DataW.trod enc Try.prog w base spare held k 2 [c1] = some z1 := k1
      obtain ⟨a, ea, _, wa⟩ := DataW.trod_int Try.underlying2 k0
      obtain ⟨l, el, _, wl⟩ := DataW.trod_int Try.underlying2 k1
      obtain ⟨m, em, _, wm⟩ := DataW.trod_int Try.underlying2 h1
      obtain ⟨n, en, _, wn⟩ := DataW.trod_int Try.underlying2 h2
      obtain ⟨i, ei, _, wi⟩ := DataW.trod_int Try.underlying2 h3
      obtain ⟨t, et, _, wt⟩ := DataW.trod_int Try.underlying2 h4
      obtain ⟨u, eu, _, wu⟩ := DataW.trod_int Try.underlying2 h5
      obtain ⟨b, eb, _, wb⟩ := DataW.trod_int Try.underlying2 h6
      obtain ⟨c, ec, _⟩ := DataW.trod_bool Try.underlying4 h7
      simp only [List.cons.injEq, and_true] at ea el em en ei et eu eb ec
      subst ea el em en ei et eu eb ec
      exact ⟨⟨a, l, m, n, i, t, u, b, c⟩, rfl, wa, wl, wm, wn, wi, wt, wu, wb⟩
set_option maxRecDepth 100000 in
theorem open_rtV {r : Reach} {b0 : Nat} {v : Value} {d : DataW H} {p : List MemPlace} (hv : Value.okWide Try.prog w r b0 130 v) (h : DataW.Trod enc Try.prog w base spare held 130 v d p) :
    ∃ e : Rt, v = rtV e ∧ RtW e := by
  obtain ⟨cs, rfl, hsz⟩ := okWide_struct Try.underlying130 hv
  obtain ⟨c0, c1, c2, c3, c4, c5, c6, c7, c8, rfl⟩ := array9 (hsz.trans Try.cellsRoute)
  obtain ⟨fuel, hf⟩ := h
  obtain ⟨e, he, hw⟩ := open_rt hf
  refine ⟨e, ?_, hw⟩
  simp only [Value.cells, rtL] at he
  simp only [List.cons.injEq, and_true] at he
  obtain ⟨rfl, rfl, rfl, rfl, rfl, rfl, rfl, rfl, rfl⟩ := he
  rfl
end
end Go.Proofs.Ytflmbkjnlgibnaa
