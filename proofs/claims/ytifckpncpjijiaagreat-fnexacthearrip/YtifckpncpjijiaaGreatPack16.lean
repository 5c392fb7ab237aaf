/- Texts that stand on each other, in one file: OpenRt, Rts, RibR, ToRts, ToRib, AppS, EqRts, MarkR, RibMarks, OutD, OpenIf, Ifs. -/
import Derived.Test.YtifckpncpjijiaaGreatPack10
import Derived.Test.YtifckpncpjijiaaGreatPack9
import Derived.Lib.SmallJoins
import Derived.Deep.Slices
import Derived.OwnWalk
import Derived.Lib.QuietBelow
import Derived.BigQuiet
import Derived.Test.YtifckpncpjijiaaGreatPack13
/- The laws' own routes, and lists of them, handed in: opened. (Written by gen_rts.py.) -/
namespace Go.Proofs.YtifckpncpjijiaaGreat
open Go.ChangeShapes Go.WideShapes Go.RowKit Go.Deep Go.WideElems Go.Maps Go.Joins

def rtL (r : Rt) : List Value := [.int .i64 r.a, .int .i64 r.l, .int .i64 r.m, .int .i64 r.n, .int .i64 r.i, .int .i64 r.t, .int .i64 r.u, .int .i64 r.b, .bool r.c]
theorem rtL_rtA (r : Rt) : (rtA r).toList = rtL r := rfl
theorem array9 {α : Type} {cs : Array α} (h : cs.size = 9) : ∃ c0 c1 c2 c3 c4 c5 c6 c7 c8, cs = #[c0, c1, c2, c3, c4, c5, c6, c7, c8] := by
  obtain ⟨l⟩ := cs
  match l, h with
  | [c0, c1, c2, c3, c4, c5, c6, c7, c8], _ => exact ⟨c0, c1, c2, c3, c4, c5, c6, c7, c8, rfl⟩
/-- All eight numbers of a route are of 64 bits. -/
def RtW (r : Rt) : Prop := (Lit.int .i64 r.a).wf = true ∧ (Lit.int .i64 r.l).wf = true ∧ (Lit.int .i64 r.m).wf = true ∧ (Lit.int .i64 r.n).wf = true ∧ (Lit.int .i64 r.i).wf = true ∧ (Lit.int .i64 r.t).wf = true ∧ (Lit.int .i64 r.u).wf = true ∧ (Lit.int .i64 r.b).wf = true
theorem Tryz.cellsRoute : Tryz.prog.cellsOf 174 = 9 := by kernel_rfl
theorem Tryz.cellsNetR : Tryz.prog.cellsOf 122 = 2 := by kernel_rfl
theorem Tryz.cellsIntR : Tryz.prog.cellsOf 2 = 1 := by kernel_rfl
theorem Tryz.cellsBoolR : Tryz.prog.cellsOf 4 = 1 := by kernel_rfl
section
variable {H : Type} {enc : TypeId × Value → H} {w : World} {base : Nat} {spare : Nat → Bool} {held : Bool}
set_option maxRecDepth 100000 in
theorem open_rt {fuel : Nat} {cs : List Value} {x : DataW H × List MemPlace} (h : DataW.trod enc Tryz.prog w base spare held fuel 174 cs = some x) : ∃ r : Rt, cs = rtL r ∧ RtW r := by
  obtain ⟨xs, n, _, _, hl, hx, hg⟩ := DataW.trod_struct Tryz.underlying174 h
  rw [Tryz.cellsRoute] at hl
  match cs, hl, xs, hx with
  | [c0, c1, c2, c3, c4, c5, c6, c7, c8], _, [y0, y1, y2, y3, y4, y5, y6, y7], _ =>
    have h0 : DataW.trod enc Tryz.prog w base spare held n 122 ((([c0, c1, c2, c3, c4, c5, c6, c7, c8] : List Value).drop 0).take (Tryz.prog.cellsOf 122)) = [y0, y1, y2, y3, y4, y5, y6, y7][0]? := hg 0 _ rfl
    rw [Tryz.cellsNetR] at h0
    replace h0 : DataW.trod enc Tryz.prog w base spare held n 122 [c0, c1] = some y0 := h0
    have h1 : DataW.trod enc Tryz.prog w base spare held n 2 ((([c0, c1, c2, c3, c4, c5, c6, c7, c8] : List Value).drop 2).take (Tryz.prog.cellsOf 2)) = [y0, y1, y2, y3, y4, y5, y6, y7][1]? := hg 1 _ rfl
    rw [Tryz.cellsIntR] at h1
    replace h1 : DataW.trod enc Tryz.prog w base spare held n 2 [c2] = some y1 := h1
    have h2 : DataW.trod enc Tryz.prog w base spare held n 2 ((([c0, c1, c2, c3, c4, c5, c6, c7, c8] : List Value).drop 3).take (Tryz.prog.cellsOf 2)) = [y0, y1, y2, y3, y4, y5, y6, y7][2]? := hg 2 _ rfl
    rw [Tryz.cellsIntR] at h2
    replace h2 : DataW.trod enc Tryz.prog w base spare held n 2 [c3] = some y2 := h2
    have h3 : DataW.trod enc Tryz.prog w base spare held n 2 ((([c0, c1, c2, c3, c4, c5, c6, c7, c8] : List Value).drop 4).take (Tryz.prog.cellsOf 2)) = [y0, y1, y2, y3, y4, y5, y6, y7][3]? := hg 3 _ rfl
    rw [Tryz.cellsIntR] at h3
    replace h3 : DataW.trod enc Tryz.prog w base spare held n 2 [c4] = some y3 := h3
    have h4 : DataW.trod enc Tryz.prog w base spare held n 2 ((([c0, c1, c2, c3, c4, c5, c6, c7, c8] : List Value).drop 5).take (Tryz.prog.cellsOf 2)) = [y0, y1, y2, y3, y4, y5, y6, y7][4]? := hg 4 _ rfl
    rw [Tryz.cellsIntR] at h4
    replace h4 : DataW.trod enc Tryz.prog w base spare held n 2 [c5] = some y4 := h4
    have h5 : DataW.trod enc Tryz.prog w base spare held n 2 ((([c0, c1, c2, c3, c4, c5, c6, c7, c8] : List Value).drop 6).take (Tryz.prog.cellsOf 2)) = [y0, y1, y2, y3, y4, y5, y6, y7][5]? := hg 5 _ rfl
    rw [Tryz.cellsIntR] at h5
    replace h5 : DataW.trod enc Tryz.prog w base spare held n 2 [c6] = some y5 := h5
    have h6 : DataW.trod enc Tryz.prog w base spare held n 2 ((([c0, c1, c2, c3, c4, c5, c6, c7, c8] : List Value).drop 7).take (Tryz.prog.cellsOf 2)) = [y0, y1, y2, y3, y4, y5, y6, y7][6]? := hg 6 _ rfl
    rw [Tryz.cellsIntR] at h6
    replace h6 : DataW.trod enc Tryz.prog w base spare held n 2 [c7] = some y6 := h6
    have h7 : DataW.trod enc Tryz.prog w base spare held n 4 ((([c0, c1, c2, c3, c4, c5, c6, c7, c8] : List Value).drop 8).take (Tryz.prog.cellsOf 4)) = [y0, y1, y2, y3, y4, y5, y6, y7][7]? := hg 7 _ rfl
    rw [Tryz.cellsBoolR] at h7
    replace h7 : DataW.trod enc Tryz.prog w base spare held n 4 [c8] = some y7 := h7
    obtain ⟨zs, k, _, _, _, hz, hk⟩ := DataW.trod_struct Tryz.underlying122 h0
    match zs, hz with
    | [z0, z1], _ =>
      have k0 : DataW.trod enc Tryz.prog w base spare held k 2 ((([c0, c1] : List Value).drop 0).take (Tryz.prog.cellsOf 2)) = [z0, z1][0]? := hk 0 _ rfl
      rw [Tryz.cellsIntR] at k0
      replace k0 : DataW.trod enc Tryz.prog w base spare held k 2 [c0] = some z0 := k0
      have k1 : DataW.trod enc Tryz.prog w base spare held k 2 ((([c0, c1] : List Value).drop 1).take (Tryz.prog.cellsOf 2)) = [z0, z1][1]? := hk 1 _ rfl
      rw [Tryz.cellsIntR] at k1
      replace k1 : DataW.trod enc Tryz.prog w base spare held k 2 [c1] = some z1 := k1
      obtain ⟨a, ea, _, wa⟩ := DataW.trod_int Tryz.underlying2 k0
      obtain ⟨l, el, _, wl⟩ := DataW.trod_int Tryz.underlying2 k1
      obtain ⟨m, em, _, wm⟩ := DataW.trod_int Tryz.underlying2 h1
      obtain ⟨n, en, _, wn⟩ := DataW.trod_int Tryz.underlying2 h2
      obtain ⟨i, ei, _, wi⟩ := DataW.trod_int Tryz.underlying2 h3
      obtain ⟨t, et, _, wt⟩ := DataW.trod_int Tryz.underlying2 h4
      obtain ⟨u, eu, _, wu⟩ := DataW.trod_int Tryz.underlying2 h5
      obtain ⟨b, eb, _, wb⟩ := DataW.trod_int Tryz.underlying2 h6
      obtain ⟨c, ec, _⟩ := DataW.trod_bool Tryz.underlying4 h7
      simp only [List.cons.injEq, and_true] at ea el em en ei et eu eb ec
      subst ea el em en ei et eu eb ec
      exact ⟨⟨a, l, m, n, i, t, u, b, c⟩, rfl, wa, wl, wm, wn, wi, wt, wu, wb⟩
set_option maxRecDepth 100000 in
theorem open_rtV {r : Reach} {b0 : Nat} {v : Value} {d : DataW H} {p : List MemPlace} (hv : Value.okWide Tryz.prog w r b0 174 v) (h : DataW.Trod enc Tryz.prog w base spare held 174 v d p) :
    ∃ e : Rt, v = rtV e ∧ RtW e := by
  obtain ⟨cs, rfl, hsz⟩ := okWide_struct Tryz.underlying174 hv
  obtain ⟨c0, c1, c2, c3, c4, c5, c6, c7, c8, rfl⟩ := array9 (hsz.trans Tryz.cellsRoute)
  obtain ⟨fuel, hf⟩ := h
  obtain ⟨e, he, hw⟩ := open_rt hf
  refine ⟨e, ?_, hw⟩
  simp only [Value.cells, rtL] at he
  simp only [List.cons.injEq, and_true] at he
  obtain ⟨rfl, rfl, rfl, rfl, rfl, rfl, rfl, rfl, rfl⟩ := he
  rfl
end
end Go.Proofs.YtifckpncpjijiaaGreat
/- Lists of routes in memory. (Written by gen_rts.py.) -/
namespace Go.Proofs.YtifckpncpjijiaaGreat
open Go.RowKit Go.Sort

def rowR (rs : List Rt) : List Value := rs.flatMap rtL
theorem rtL_length (r : Rt) : (rtL r).length = 9 := rfl
theorem rowR_length (rs : List Rt) : (rowR rs).length = 9 * rs.length := by
  induction rs with
  | nil => rfl
  | cons e es ih => simp only [rowR, List.flatMap_cons, List.length_append, List.length_cons] at ih ⊢; rw [ih, rtL_length]; omega
theorem rowR_append (a b : List Rt) : rowR (a ++ b) = rowR a ++ rowR b := by simp [rowR]
theorem rowR_cons (e : Rt) (es : List Rt) : rowR (e :: es) = rtL e ++ rowR es := rfl
theorem rowR_get (es : List Rt) (i k : Nat) (hi : i < es.length) (hk : k < 9) : (rowR es)[i * 9 + k]? = (rtL es[i])[k]? := by
  induction es generalizing i with
  | nil => simp at hi
  | cons e es ih =>
    rw [rowR_cons]
    match i with
    | 0 => rw [Nat.zero_mul, Nat.zero_add, List.getElem?_append_left (by rw [rtL_length]; omega)]; rfl
    | i + 1 =>
      rw [List.getElem?_append_right (by rw [rtL_length]; omega), rtL_length, show (i + 1) * 9 + k - 9 = i * 9 + k by omega, ih i (by simpa using hi)]
      rfl
theorem rowR_one (es : List Rt) : ∀ u ∈ rowR es, u.oneCell' = true := by
  intro u hu
  simp only [rowR, List.mem_flatMap, rtL, List.mem_cons, List.not_mem_nil, or_false] at hu
  obtain ⟨e, _, h⟩ := hu
  rcases h with h | h | h | h | h | h | h | h | h <;> (rw [h]; rfl)
/-- The slice (p, rs.length) holds the routes rs. -/
def RtsIn (w : World) (p : Option Addr) (rs : List Rt) : Prop := rs = [] ∨ ∃ g, p = some ⟨g, 0, none⟩ ∧ g < w.heap.size ∧ ∀ j u, (rowR rs)[j]? = some u → w.cell? ⟨g, j, none⟩ = some u
theorem RtsIn.below {w w' : World} {p : Option Addr} {rs : List Rt} (h : RtsIn w p rs) (hb : Below w.heap.size w w') : RtsIn w' p rs := by
  rcases h with h | ⟨g, hp, hg, hc⟩
  · exact .inl h
  · refine .inr ⟨g, hp, by have := hb.size; omega, fun j u hj => ?_⟩
    rw [hb.cell (p := ⟨g, j, none⟩) hg]
    exact hc j u hj
theorem RtsIn.alloc {w : World} {p : Option Addr} {rs : List Rt} (h : RtsIn w p rs) (o : Obj) : RtsIn (w.alloc o) p rs := h.below (ent_new0 w o)
theorem RtsIn.at {w : World} {p : Option Addr} {rs : List Rt} (h : RtsIn w p rs) (i : Nat) (hi : i < rs.length) : ∃ g a l m n ii t u b c, p = some ⟨g, 0, none⟩ ∧ g < w.heap.size ∧ rs[i] = ⟨a, l, m, n, ii, t, u, b, c⟩ ∧ w.cell? ⟨g, i * 9, none⟩ = some (.int .i64 a) ∧ w.cell? ⟨g, i * 9 + 1, none⟩ = some (.int .i64 l) ∧ w.cell? ⟨g, i * 9 + 2, none⟩ = some (.int .i64 m) ∧ w.cell? ⟨g, i * 9 + 3, none⟩ = some (.int .i64 n) ∧ w.cell? ⟨g, i * 9 + 4, none⟩ = some (.int .i64 ii) ∧ w.cell? ⟨g, i * 9 + 5, none⟩ = some (.int .i64 t) ∧ w.cell? ⟨g, i * 9 + 6, none⟩ = some (.int .i64 u) ∧ w.cell? ⟨g, i * 9 + 7, none⟩ = some (.int .i64 b) ∧ w.cell? ⟨g, i * 9 + 8, none⟩ = some (.bool c) := by
  rcases h with rfl | ⟨g, hp, hg, hc⟩
  · simp at hi
  · exact ⟨g, rs[i].a, rs[i].l, rs[i].m, rs[i].n, rs[i].i, rs[i].t, rs[i].u, rs[i].b, rs[i].c, hp, hg, rfl, hc _ _ (rowR_get rs i 0 hi (by omega)), hc _ _ (rowR_get rs i 1 hi (by omega)), hc _ _ (rowR_get rs i 2 hi (by omega)), hc _ _ (rowR_get rs i 3 hi (by omega)), hc _ _ (rowR_get rs i 4 hi (by omega)), hc _ _ (rowR_get rs i 5 hi (by omega)), hc _ _ (rowR_get rs i 6 hi (by omega)), hc _ _ (rowR_get rs i 7 hi (by omega)), hc _ _ (rowR_get rs i 8 hi (by omega))⟩
def ribV (p : Option Addr) (n cap : Nat) : Value := .agg #[.slice p n cap]
theorem rtsIn_row {w : World} {g : Nat} {t : TypeId} {rs : List Rt} (h : Row w g t (rowR rs)) : RtsIn w (some ⟨g, 0, none⟩) rs := .inr ⟨g, rfl, h.lt, fun j _ hj => (h.cell j).trans hj⟩
end Go.Proofs.YtifckpncpjijiaaGreat
/- Is a table right? Asked by the program and by the model. (Written by gen_ribr.py.) -/
namespace Go.Proofs.YtifckpncpjijiaaGreat
open Go.RowKit Go.Sort

/-- One route's net is ahead of another one's. -/
def ltR (r s : Rt) : Bool := decide (r.a < s.a) || (r.a == s.a && decide (r.l < s.l))
/-- The route at k is right, and behind the one ahead of it. -/
def okAt (rs : List Rt) (k : Nat) : Bool := routeB rs[k]! && (decide (k = 0) || ltR rs[k - 1]! rs[k]!)
def ribB (rs : List Rt) : Bool := decide (rs.length ≤ 8) && (List.range rs.length).all (okAt rs)
theorem get_bang {rs : List Rt} {k : Nat} (h : k < rs.length) : rs[k]! = rs[k] := by simp [h]
theorem ribB_long {rs : List Rt} (h : ¬ rs.length ≤ 8) : ribB rs = false := by simp [ribB, h]
theorem ribB_bad {rs : List Rt} {k : Nat} (hk : k < rs.length) (h : okAt rs k = false) : ribB rs = false := by
  unfold ribB
  have : (List.range rs.length).all (okAt rs) = false := by
    rw [List.all_eq_false]
    exact ⟨k, List.mem_range.2 hk, by rw [h]; simp⟩
  rw [this, Bool.and_false]
theorem ribB_good {rs : List Rt} (h8 : rs.length ≤ 8) (h : ∀ j, j < rs.length → okAt rs j = true) : ribB rs = true := by
  unfold ribB
  have : (List.range rs.length).all (okAt rs) = true := by
    rw [List.all_eq_true]
    exact fun j hj => h j (List.mem_range.1 hj)
  rw [this, decide_eq_true h8]; rfl
theorem ribB_spec {rs : List Rt} (h : ribB rs = true) : rs.length ≤ 8 ∧ ∀ j, j < rs.length → okAt rs j = true := by
  simp only [ribB, Bool.and_eq_true, decide_eq_true_eq, List.all_eq_true] at h
  exact ⟨h.1, fun j hj => h.2 j (List.mem_range.2 hj)⟩
theorem okAt_route {rs : List Rt} {k : Nat} (h : okAt rs k = true) : routeB rs[k]! = true := by
  unfold okAt at h; simp only [Bool.and_eq_true] at h; exact h.1
theorem routeB_right {r : Rt} (h : routeB r = true) : rightB r.a r.l = true := by
  unfold routeB saidB entB rtE at h
  simp only [Bool.and_eq_true] at h
  exact h.1.1.1.1.1.1
theorem box1 {w w1 : World} {x : Value} {t : TypeId} (h : Below (w.alloc (.cells #[x] t)).heap.size (w.alloc (.cells #[x] t)) w1) : w1.cell? ⟨w.heap.size, 0, none⟩ = some x ∧ Below w.heap.size w w1 := by
  have q := Row.new w t [x]
  exact ⟨(q.below h q.lt).cell 0, (ent_new0 w _).trans (h.mono (by simp))⟩
set_option maxRecDepth 100000 in
set_option maxHeartbeats 1000000 in
theorem implRib_any (p : Option Addr) (cap : Nat) (rs : List Rt) (w : World) (h : RtsIn w p rs) (hn : rs.length ≤ 100000000) :
    Calls Tryz.prog 103 #[ribV p rs.length cap] w fun e w' => e = .returned (.bool (ribB rs)) ∧ Below w.heap.size w w' := by
  have HE : Hid (∀ e w, Calls Tryz.prog 144 #[rtV e] w fun r w' => r = .returned (.bool (routeB e)) ∧ Below w.heap.size w w') := implRoute_any
  have HL : Hid (∀ a l b m w, Calls Tryz.prog 145 #[.agg #[.int .i64 a, .int .i64 l], .agg #[.int .i64 b, .int .i64 m]] w fun e w' => e = .returned (.bool (lessB a l b m)) ∧ Below w.heap.size w w') := fun a l b m w => implLess_any a l b m w
  have HBd : Hid (∀ k, k < rs.length → okAt rs k = false → ribB rs = false) := fun k hk hf => ribB_bad hk hf
  have HX : Hid (RtsIn w p rs) := h
  clear h
  unfold ribV
  by_cases hl : rs.length ≤ 8
  · have d8 : decide (8 < (rs.length : Int)) = false := by simp; omega
    have HYs : Hid ((∀ j, j < rs.length → okAt rs j = true) → ribB rs = true) := fun h => ribB_good hl h
    generalize ribB rs = R at *
    go_enter Tryz.func103, Tryz.ntmps103
    go_wp2_with fail
    go_loopw [12] (fun i wr => ∃ k : Nat, k ≤ rs.length ∧ i = .int .i64 k ∧ (∀ j, j < k → okAt rs j = true) ∧ Below (w.alloc (.cells #[.slice p rs.length cap] 36)).heap.size (w.alloc (.cells #[.slice p rs.length cap] 36)) wr) (fun i _ => rs.length - (intOf i).toNat)
    case atStart => exact ⟨0, Nat.zero_le _, rfl, fun j hj => absurd hj (by omega), Below.refl _ _⟩
    case round =>
      obtain ⟨k, hk, rfl, ha, hb0⟩ := hrel
      obtain ⟨x0, hb⟩ := box1 hb0
      by_cases hlt : k < rs.length
      · have d1 : decide ((k : Int) < (rs.length : Int)) = true := by simpa using hlt
        obtain ⟨g, a, l, m, n, ii, t, u, b, c, rfl, hg, hek, c0, c1, c2, c3, c4, c5, c6, c7, c8⟩ := (HX.out.below hb).at k hlt
        have hbk : rs[k]! = ⟨a, l, m, n, ii, t, u, b, c⟩ := (get_bang hlt).trans hek
        have HEk : Hid (∀ w, Calls Tryz.prog 144 #[.agg #[.int .i64 a, .int .i64 l, .int .i64 m, .int .i64 n, .int .i64 ii, .int .i64 t, .int .i64 u, .int .i64 b, .bool c]] w fun r w' => r = .returned (.bool (routeB ⟨a, l, m, n, ii, t, u, b, c⟩)) ∧ Below w.heap.size w w') := HE.out ⟨a, l, m, n, ii, t, u, b, c⟩
        have HBk : Hid (okAt rs k = false → R = false) := HBd.out k hlt
        have HNx : Hid (okAt rs k = true → ∀ j, j < k + 1 → okAt rs j = true) := fun h j hj => by
          rcases Nat.lt_or_ge j k with h' | h'
          · exact ha j h'
          · obtain rfl : j = k := by omega
            exact h
        by_cases hz : k = 0
        · have hok : okAt rs k = routeB ⟨a, l, m, n, ii, t, u, b, c⟩ := by unfold okAt; rw [hbk, decide_eq_true hz]; simp
          rw [hok] at HBk HNx
          clear hok HE HL hek HBd ha hbk
          generalize routeB ⟨a, l, m, n, ii, t, u, b, c⟩ = B at *
          have z0 : decide (0 < k) = false := by simp; omega
          have z1 : decide (0 < (k : Int)) = false := by simp; omega
          clear hz
          have HBN : Hid (Below wr.heap.size wr (wr.alloc (.cells #[.int .i64 a, .int .i64 l, .int .i64 m, .int .i64 n, .int .i64 ii, .int .i64 t, .int .i64 u, .int .i64 b, .bool c] 98))) := ent_new0 wr _
          have HQN : Hid (Row (wr.alloc (.cells #[.int .i64 a, .int .i64 l, .int .i64 m, .int .i64 n, .int .i64 ii, .int .i64 t, .int .i64 u, .int .i64 b, .bool c] 98)) wr.heap.size 98 [.int .i64 a, .int .i64 l, .int .i64 m, .int .i64 n, .int .i64 ii, .int .i64 t, .int .i64 u, .int .i64 b, .bool c]) := Row.new wr _ _
          have HX0 : Hid ((wr.alloc (.cells #[.int .i64 a, .int .i64 l, .int .i64 m, .int .i64 n, .int .i64 ii, .int .i64 t, .int .i64 u, .int .i64 b, .bool c] 98)).cell? ⟨w.heap.size, 0, none⟩ = some (.slice (some ⟨g, 0, none⟩) rs.length cap)) := by show _ = _; rw [HBN.out.cell (p := ⟨w.heap.size, 0, none⟩) (by have := hb0.size; simp at this; show w.heap.size < wr.heap.size; omega)]; exact x0
          cases B
          · go_wp2_with fail
            clear c0 c1 c2 c3 c4 c5 c6 c7 c8 x0
            generalize (wr.alloc (.cells #[.int .i64 a, .int .i64 l, .int .i64 m, .int .i64 n, .int .i64 ii, .int .i64 t, .int .i64 u, .int .i64 b, .bool c] 98)) = WR at *
            have x0 := cell_regrown HX0.out
            have c0 : WR.cell? ⟨wr.heap.size, 0, none⟩ = some (.int .i64 a) := HQN.out.cell 0
            replace c0 := cell_regrown c0
            have c1 : WR.cell? ⟨wr.heap.size, 1, none⟩ = some (.int .i64 l) := HQN.out.cell 1
            replace c1 := cell_regrown c1
            have c2 : WR.cell? ⟨wr.heap.size, 2, none⟩ = some (.int .i64 m) := HQN.out.cell 2
            replace c2 := cell_regrown c2
            have c3 : WR.cell? ⟨wr.heap.size, 3, none⟩ = some (.int .i64 n) := HQN.out.cell 3
            replace c3 := cell_regrown c3
            have c4 : WR.cell? ⟨wr.heap.size, 4, none⟩ = some (.int .i64 ii) := HQN.out.cell 4
            replace c4 := cell_regrown c4
            have c5 : WR.cell? ⟨wr.heap.size, 5, none⟩ = some (.int .i64 t) := HQN.out.cell 5
            replace c5 := cell_regrown c5
            have c6 : WR.cell? ⟨wr.heap.size, 6, none⟩ = some (.int .i64 u) := HQN.out.cell 6
            replace c6 := cell_regrown c6
            have c7 : WR.cell? ⟨wr.heap.size, 7, none⟩ = some (.int .i64 b) := HQN.out.cell 7
            replace c7 := cell_regrown c7
            have c8 : WR.cell? ⟨wr.heap.size, 8, none⟩ = some (.bool c) := HQN.out.cell 8
            replace c8 := cell_regrown c8
            refine wp_region_quiet_below (by kernel_rfl) (by kernel_rfl) ?_
            repeat (go_big_quiet_step (first | (go_at_call 144; exact Calls.regrown_of (HEk.out _))))
            refine wpQuiet_nil ?_
            intro w1 hw'
            obtain ⟨⟨dq, osq⟩, hw''⟩ := hw'
            have hbq := below_regrown WR dq osq
            rw [← hw''] at hbq
            clear hw'' osq dq
            clear c0 c1 c2 c3 c4 c5 c6 c7 c8 x0 HQN HX0
            have hB1 := hb.trans ((HBN.out.trans (hbq.mono HBN.out.size)).mono hb.size)
            clear hbq HBN
            go_wp2
            go_ret
            exact ⟨ret_bool (HBk.out (by trivial)).symm, hB1⟩
          · go_wp2_with fail
            clear c0 c1 c2 c3 c4 c5 c6 c7 c8 x0
            generalize (wr.alloc (.cells #[.int .i64 a, .int .i64 l, .int .i64 m, .int .i64 n, .int .i64 ii, .int .i64 t, .int .i64 u, .int .i64 b, .bool c] 98)) = WR at *
            have x0 := cell_regrown HX0.out
            have c0 : WR.cell? ⟨wr.heap.size, 0, none⟩ = some (.int .i64 a) := HQN.out.cell 0
            replace c0 := cell_regrown c0
            have c1 : WR.cell? ⟨wr.heap.size, 1, none⟩ = some (.int .i64 l) := HQN.out.cell 1
            replace c1 := cell_regrown c1
            have c2 : WR.cell? ⟨wr.heap.size, 2, none⟩ = some (.int .i64 m) := HQN.out.cell 2
            replace c2 := cell_regrown c2
            have c3 : WR.cell? ⟨wr.heap.size, 3, none⟩ = some (.int .i64 n) := HQN.out.cell 3
            replace c3 := cell_regrown c3
            have c4 : WR.cell? ⟨wr.heap.size, 4, none⟩ = some (.int .i64 ii) := HQN.out.cell 4
            replace c4 := cell_regrown c4
            have c5 : WR.cell? ⟨wr.heap.size, 5, none⟩ = some (.int .i64 t) := HQN.out.cell 5
            replace c5 := cell_regrown c5
            have c6 : WR.cell? ⟨wr.heap.size, 6, none⟩ = some (.int .i64 u) := HQN.out.cell 6
            replace c6 := cell_regrown c6
            have c7 : WR.cell? ⟨wr.heap.size, 7, none⟩ = some (.int .i64 b) := HQN.out.cell 7
            replace c7 := cell_regrown c7
            have c8 : WR.cell? ⟨wr.heap.size, 8, none⟩ = some (.bool c) := HQN.out.cell 8
            replace c8 := cell_regrown c8
            refine wp_region_quiet_below (by kernel_rfl) (by kernel_rfl) ?_
            repeat (go_big_quiet_step (first | (go_at_call 144; exact Calls.regrown_of (HEk.out _))))
            refine wpQuiet_nil ?_
            intro w1 hw'
            obtain ⟨⟨dq, osq⟩, hw''⟩ := hw'
            have hbq := below_regrown WR dq osq
            rw [← hw''] at hbq
            clear hw'' osq dq
            clear c0 c1 c2 c3 c4 c5 c6 c7 c8 x0 HQN HX0
            have hB0 := hb0.trans ((HBN.out.trans (hbq.mono HBN.out.size)).mono hb0.size)
            clear hbq HBN
            go_wp2
            go_roundw
            case rel => exact ⟨k + 1, hlt, by go_num, HNx.out (by trivial), hB0⟩
            case measure => simp [intOf]; omega
        · obtain ⟨g', a', l', m', n', ii', t', u', b', c', hgg, hg', hej, d0, d1', d2, d3, d4, d5, d6, d7, d8⟩ := (HX.out.below hb).at (k - 1) (by omega)
          simp only [Option.some.injEq, Addr.mk.injEq, and_true] at hgg
          subst hgg
          have hbj : rs[k - 1]! = ⟨a', l', m', n', ii', t', u', b', c'⟩ := (get_bang (by omega)).trans hej
          have hrj := okAt_route (ha (k - 1) (by omega))
          rw [hbj] at hrj
          have hok : okAt rs k = (routeB ⟨a, l, m, n, ii, t, u, b, c⟩ && (decide (a' < a) || (a' == a && decide (l' < l)))) := by unfold okAt; rw [hbk, hbj, decide_eq_false hz]; rfl
          have HLk : Hid (∀ w, Calls Tryz.prog 145 #[.agg #[.int .i64 a', .int .i64 l'], .agg #[.int .i64 a, .int .i64 l]] w fun e w' => e = .returned (.bool (lessB a' l' a l)) ∧ Below w.heap.size w w') := HL.out a' l' a l
          have HLe : Hid (routeB ⟨a, l, m, n, ii, t, u, b, c⟩ = true → lessB a' l' a l = (decide (a' < a) || (a' == a && decide (l' < l)))) := fun h => by unfold lessB; rw [routeB_right hrj, routeB_right h]; rfl
          rw [hok] at HBk HNx
          clear hok HE HL hek hej HBd ha hbk hbj hrj
          generalize routeB ⟨a, l, m, n, ii, t, u, b, c⟩ = B at *
          have z0 : decide (0 < k) = true := by simp; omega
          have z1 : decide (0 < (k : Int)) = true := by simp; omega
          have z2 : IntKind.i64.wrap ((k : Int) - 1) = ((k - 1 : Nat) : Int) := by rw [wrap_i64_in _ (by omega) (by omega)]; omega
          have z3 : (k : Int) - 1 = ((k - 1 : Nat) : Int) := by omega
          have z4 : decide (((k - 1 : Nat) : Int) < (rs.length : Int)) = true := by simp; omega
          have z5 : k - 1 < rs.length := by omega
          have HBN : Hid (Below wr.heap.size wr (wr.alloc (.cells #[.int .i64 a, .int .i64 l, .int .i64 m, .int .i64 n, .int .i64 ii, .int .i64 t, .int .i64 u, .int .i64 b, .bool c] 98))) := ent_new0 wr _
          have HQN : Hid (Row (wr.alloc (.cells #[.int .i64 a, .int .i64 l, .int .i64 m, .int .i64 n, .int .i64 ii, .int .i64 t, .int .i64 u, .int .i64 b, .bool c] 98)) wr.heap.size 98 [.int .i64 a, .int .i64 l, .int .i64 m, .int .i64 n, .int .i64 ii, .int .i64 t, .int .i64 u, .int .i64 b, .bool c]) := Row.new wr _ _
          have HX0 : Hid ((wr.alloc (.cells #[.int .i64 a, .int .i64 l, .int .i64 m, .int .i64 n, .int .i64 ii, .int .i64 t, .int .i64 u, .int .i64 b, .bool c] 98)).cell? ⟨w.heap.size, 0, none⟩ = some (.slice (some ⟨g, 0, none⟩) rs.length cap)) := by show _ = _; rw [HBN.out.cell (p := ⟨w.heap.size, 0, none⟩) (by have := hb0.size; simp at this; show w.heap.size < wr.heap.size; omega)]; exact x0
          have HD0 : Hid ((wr.alloc (.cells #[.int .i64 a, .int .i64 l, .int .i64 m, .int .i64 n, .int .i64 ii, .int .i64 t, .int .i64 u, .int .i64 b, .bool c] 98)).cell? ⟨g, (k - 1) * 9, none⟩ = some (.int .i64 a')) := by show _ = _; rw [HBN.out.cell (p := ⟨g, (k - 1) * 9, none⟩) hg]; exact d0
          have HD1 : Hid ((wr.alloc (.cells #[.int .i64 a, .int .i64 l, .int .i64 m, .int .i64 n, .int .i64 ii, .int .i64 t, .int .i64 u, .int .i64 b, .bool c] 98)).cell? ⟨g, (k - 1) * 9 + 1, none⟩ = some (.int .i64 l')) := by show _ = _; rw [HBN.out.cell (p := ⟨g, (k - 1) * 9 + 1, none⟩) hg]; exact d1'
          clear d0 d1' d2 d3 d4 d5 d6 d7 d8
          cases B
          · clear HLk
            go_wp2_with fail
            clear c0 c1 c2 c3 c4 c5 c6 c7 c8 x0
            generalize (wr.alloc (.cells #[.int .i64 a, .int .i64 l, .int .i64 m, .int .i64 n, .int .i64 ii, .int .i64 t, .int .i64 u, .int .i64 b, .bool c] 98)) = WR at *
            have x0 := cell_regrown HX0.out
            have c0 : WR.cell? ⟨wr.heap.size, 0, none⟩ = some (.int .i64 a) := HQN.out.cell 0
            replace c0 := cell_regrown c0
            have c1 : WR.cell? ⟨wr.heap.size, 1, none⟩ = some (.int .i64 l) := HQN.out.cell 1
            replace c1 := cell_regrown c1
            have c2 : WR.cell? ⟨wr.heap.size, 2, none⟩ = some (.int .i64 m) := HQN.out.cell 2
            replace c2 := cell_regrown c2
            have c3 : WR.cell? ⟨wr.heap.size, 3, none⟩ = some (.int .i64 n) := HQN.out.cell 3
            replace c3 := cell_regrown c3
            have c4 : WR.cell? ⟨wr.heap.size, 4, none⟩ = some (.int .i64 ii) := HQN.out.cell 4
            replace c4 := cell_regrown c4
            have c5 : WR.cell? ⟨wr.heap.size, 5, none⟩ = some (.int .i64 t) := HQN.out.cell 5
            replace c5 := cell_regrown c5
            have c6 : WR.cell? ⟨wr.heap.size, 6, none⟩ = some (.int .i64 u) := HQN.out.cell 6
            replace c6 := cell_regrown c6
            have c7 : WR.cell? ⟨wr.heap.size, 7, none⟩ = some (.int .i64 b) := HQN.out.cell 7
            replace c7 := cell_regrown c7
            have c8 : WR.cell? ⟨wr.heap.size, 8, none⟩ = some (.bool c) := HQN.out.cell 8
            replace c8 := cell_regrown c8
            have d0 := cell_regrown HD0.out
            have d1' := cell_regrown HD1.out
            refine wp_region_quiet_below (by kernel_rfl) (by kernel_rfl) ?_
            repeat (go_big_quiet_step (first | (go_at_call 144; exact Calls.regrown_of (HEk.out _))))
            refine wpQuiet_nil ?_
            intro w1 hw'
            obtain ⟨⟨dq, osq⟩, hw''⟩ := hw'
            have hbq := below_regrown WR dq osq
            rw [← hw''] at hbq
            clear hw'' osq dq
            clear c0 c1 c2 c3 c4 c5 c6 c7 c8 x0 d0 d1' HQN HX0 HD0 HD1
            have hB1 := hb.trans ((HBN.out.trans (hbq.mono HBN.out.size)).mono hb.size)
            clear hbq HBN
            go_wp2
            go_ret
            exact ⟨ret_bool (HBk.out (by trivial)).symm, hB1⟩
          · have HLe' := HLe.out (by trivial)
            rw [HLe'] at HLk
            clear HLe HLe'
            generalize (decide (a' < a) || (a' == a && decide (l' < l))) = L at *
            cases L
            · go_wp2_with fail
              clear c0 c1 c2 c3 c4 c5 c6 c7 c8 x0
              generalize (wr.alloc (.cells #[.int .i64 a, .int .i64 l, .int .i64 m, .int .i64 n, .int .i64 ii, .int .i64 t, .int .i64 u, .int .i64 b, .bool c] 98)) = WR at *
              have x0 := cell_regrown HX0.out
              have c0 : WR.cell? ⟨wr.heap.size, 0, none⟩ = some (.int .i64 a) := HQN.out.cell 0
              replace c0 := cell_regrown c0
              have c1 : WR.cell? ⟨wr.heap.size, 1, none⟩ = some (.int .i64 l) := HQN.out.cell 1
              replace c1 := cell_regrown c1
              have c2 : WR.cell? ⟨wr.heap.size, 2, none⟩ = some (.int .i64 m) := HQN.out.cell 2
              replace c2 := cell_regrown c2
              have c3 : WR.cell? ⟨wr.heap.size, 3, none⟩ = some (.int .i64 n) := HQN.out.cell 3
              replace c3 := cell_regrown c3
              have c4 : WR.cell? ⟨wr.heap.size, 4, none⟩ = some (.int .i64 ii) := HQN.out.cell 4
              replace c4 := cell_regrown c4
              have c5 : WR.cell? ⟨wr.heap.size, 5, none⟩ = some (.int .i64 t) := HQN.out.cell 5
              replace c5 := cell_regrown c5
              have c6 : WR.cell? ⟨wr.heap.size, 6, none⟩ = some (.int .i64 u) := HQN.out.cell 6
              replace c6 := cell_regrown c6
              have c7 : WR.cell? ⟨wr.heap.size, 7, none⟩ = some (.int .i64 b) := HQN.out.cell 7
              replace c7 := cell_regrown c7
              have c8 : WR.cell? ⟨wr.heap.size, 8, none⟩ = some (.bool c) := HQN.out.cell 8
              replace c8 := cell_regrown c8
              have d0 := cell_regrown HD0.out
              have d1' := cell_regrown HD1.out
              refine wp_region_quiet_below (by kernel_rfl) (by kernel_rfl) ?_
              repeat (go_big_quiet_step (first | (go_at_call 144; exact Calls.regrown_of (HEk.out _)) | (go_at_call 145; exact Calls.regrown_of (HLk.out _))))
              refine wpQuiet_nil ?_
              intro w1 hw'
              obtain ⟨⟨dq, osq⟩, hw''⟩ := hw'
              have hbq := below_regrown WR dq osq
              rw [← hw''] at hbq
              clear hw'' osq dq
              clear c0 c1 c2 c3 c4 c5 c6 c7 c8 x0 d0 d1' HQN HX0 HD0 HD1
              have hB1 := hb.trans ((HBN.out.trans (hbq.mono HBN.out.size)).mono hb.size)
              clear hbq HBN
              go_wp2
              go_ret
              exact ⟨ret_bool (HBk.out (by trivial)).symm, hB1⟩
            · go_wp2_with fail
              clear c0 c1 c2 c3 c4 c5 c6 c7 c8 x0
              generalize (wr.alloc (.cells #[.int .i64 a, .int .i64 l, .int .i64 m, .int .i64 n, .int .i64 ii, .int .i64 t, .int .i64 u, .int .i64 b, .bool c] 98)) = WR at *
              have x0 := cell_regrown HX0.out
              have c0 : WR.cell? ⟨wr.heap.size, 0, none⟩ = some (.int .i64 a) := HQN.out.cell 0
              replace c0 := cell_regrown c0
              have c1 : WR.cell? ⟨wr.heap.size, 1, none⟩ = some (.int .i64 l) := HQN.out.cell 1
              replace c1 := cell_regrown c1
              have c2 : WR.cell? ⟨wr.heap.size, 2, none⟩ = some (.int .i64 m) := HQN.out.cell 2
              replace c2 := cell_regrown c2
              have c3 : WR.cell? ⟨wr.heap.size, 3, none⟩ = some (.int .i64 n) := HQN.out.cell 3
              replace c3 := cell_regrown c3
              have c4 : WR.cell? ⟨wr.heap.size, 4, none⟩ = some (.int .i64 ii) := HQN.out.cell 4
              replace c4 := cell_regrown c4
              have c5 : WR.cell? ⟨wr.heap.size, 5, none⟩ = some (.int .i64 t) := HQN.out.cell 5
              replace c5 := cell_regrown c5
              have c6 : WR.cell? ⟨wr.heap.size, 6, none⟩ = some (.int .i64 u) := HQN.out.cell 6
              replace c6 := cell_regrown c6
              have c7 : WR.cell? ⟨wr.heap.size, 7, none⟩ = some (.int .i64 b) := HQN.out.cell 7
              replace c7 := cell_regrown c7
              have c8 : WR.cell? ⟨wr.heap.size, 8, none⟩ = some (.bool c) := HQN.out.cell 8
              replace c8 := cell_regrown c8
              have d0 := cell_regrown HD0.out
              have d1' := cell_regrown HD1.out
              refine wp_region_quiet_below (by kernel_rfl) (by kernel_rfl) ?_
              repeat (go_big_quiet_step (first | (go_at_call 144; exact Calls.regrown_of (HEk.out _)) | (go_at_call 145; exact Calls.regrown_of (HLk.out _))))
              refine wpQuiet_nil ?_
              intro w1 hw'
              obtain ⟨⟨dq, osq⟩, hw''⟩ := hw'
              have hbq := below_regrown WR dq osq
              rw [← hw''] at hbq
              clear hw'' osq dq
              clear c0 c1 c2 c3 c4 c5 c6 c7 c8 x0 d0 d1' HQN HX0 HD0 HD1
              have hB0 := hb0.trans ((HBN.out.trans (hbq.mono HBN.out.size)).mono hb0.size)
              clear hbq HBN
              go_wp2
              go_roundw
              case rel => exact ⟨k + 1, hlt, by go_num, HNx.out (by trivial), hB0⟩
              case measure => simp [intOf]; omega
      · obtain rfl : k = rs.length := by omega
        have d1 : decide ((rs.length : Int) < (rs.length : Int)) = false := by simp
        have hR := HYs.out ha
        clear hlt hk
        go_wp2
        go_ret
        exact ⟨ret_bool hR.symm, hb⟩
  · rw [ribB_long hl]
    have d8 : decide (8 < (rs.length : Int)) = true := by simp; omega
    go_enter Tryz.func103, Tryz.ntmps103
    go_wp2
    go_ret
    exact ⟨rfl, ent_new0 w _⟩
set_option maxRecDepth 100000 in
set_option maxHeartbeats 1000000 in
theorem specRib_any (p : Option Addr) (cap : Nat) (rs : List Rt) (w : World) (h : RtsIn w p rs) (hn : rs.length ≤ 100000000) :
    Calls Tryz.prog 79 #[ribV p rs.length cap] w fun e w' => e = .returned (.bool (ribB rs)) ∧ Below w.heap.size w w' := by
  have HE : Hid (∀ e w, Calls Tryz.prog 126 #[rtV e] w fun r w' => r = .returned (.bool (routeB e)) ∧ Below w.heap.size w w') := specRoute_any
  have HL : Hid (∀ a l b m w, Calls Tryz.prog 127 #[.agg #[.int .i64 a, .int .i64 l], .agg #[.int .i64 b, .int .i64 m]] w fun e w' => e = .returned (.bool (decide (a < b) || (a == b && decide (l < m)))) ∧ Below w.heap.size w w') := fun a l b m w => l03Less_any a l b m w
  have HBd : Hid (∀ k, k < rs.length → okAt rs k = false → ribB rs = false) := fun k hk hf => ribB_bad hk hf
  have HX : Hid (RtsIn w p rs) := h
  clear h
  unfold ribV
  by_cases hl : rs.length ≤ 8
  · have d8 : decide (8 < (rs.length : Int)) = false := by simp; omega
    have HYs : Hid ((∀ j, j < rs.length → okAt rs j = true) → ribB rs = true) := fun h => ribB_good hl h
    generalize ribB rs = R at *
    go_enter Tryz.func79, Tryz.ntmps79
    go_wp2_with fail
    go_loopw [3] (fun i wr => ∃ k : Nat, k ≤ rs.length ∧ i = .int .i64 k ∧ (∀ j, j < k → okAt rs j = true) ∧ Below (w.alloc (.cells #[.slice p rs.length cap] 36)).heap.size (w.alloc (.cells #[.slice p rs.length cap] 36)) wr) (fun i _ => rs.length - (intOf i).toNat)
    case atStart => exact ⟨0, Nat.zero_le _, rfl, fun j hj => absurd hj (by omega), Below.refl _ _⟩
    case round =>
      obtain ⟨k, hk, rfl, ha, hb0⟩ := hrel
      obtain ⟨x0, hb⟩ := box1 hb0
      by_cases hlt : k < rs.length
      · have d1 : decide ((k : Int) < (rs.length : Int)) = true := by simpa using hlt
        obtain ⟨g, a, l, m, n, ii, t, u, b, c, rfl, hg, hek, c0, c1, c2, c3, c4, c5, c6, c7, c8⟩ := (HX.out.below hb).at k hlt
        have hbk : rs[k]! = ⟨a, l, m, n, ii, t, u, b, c⟩ := (get_bang hlt).trans hek
        have HEk : Hid (∀ w, Calls Tryz.prog 126 #[.agg #[.int .i64 a, .int .i64 l, .int .i64 m, .int .i64 n, .int .i64 ii, .int .i64 t, .int .i64 u, .int .i64 b, .bool c]] w fun r w' => r = .returned (.bool (routeB ⟨a, l, m, n, ii, t, u, b, c⟩)) ∧ Below w.heap.size w w') := HE.out ⟨a, l, m, n, ii, t, u, b, c⟩
        have HBk : Hid (okAt rs k = false → R = false) := HBd.out k hlt
        have HNx : Hid (okAt rs k = true → ∀ j, j < k + 1 → okAt rs j = true) := fun h j hj => by
          rcases Nat.lt_or_ge j k with h' | h'
          · exact ha j h'
          · obtain rfl : j = k := by omega
            exact h
        by_cases hz : k = 0
        · have hok : okAt rs k = routeB ⟨a, l, m, n, ii, t, u, b, c⟩ := by unfold okAt; rw [hbk, decide_eq_true hz]; simp
          rw [hok] at HBk HNx
          clear hok HE HL hek HBd ha hbk
          generalize routeB ⟨a, l, m, n, ii, t, u, b, c⟩ = B at *
          have z0 : decide (0 < k) = false := by simp; omega
          have z1 : decide (0 < (k : Int)) = false := by simp; omega
          clear hz
          have HBN : Hid (Below wr.heap.size wr wr) := Below.refl _ _
          cases B
          · go_wp2_with fail
            replace x0 := cell_regrown x0
            replace c0 := cell_regrown c0
            replace c1 := cell_regrown c1
            replace c2 := cell_regrown c2
            replace c3 := cell_regrown c3
            replace c4 := cell_regrown c4
            replace c5 := cell_regrown c5
            replace c6 := cell_regrown c6
            replace c7 := cell_regrown c7
            replace c8 := cell_regrown c8
            refine wp_region_quiet_below (by kernel_rfl) (by kernel_rfl) ?_
            repeat (go_big_quiet_step (first | (go_at_call 126; exact Calls.regrown_of (HEk.out _))))
            refine wpQuiet_nil ?_
            intro w1 hw'
            obtain ⟨⟨dq, osq⟩, hw''⟩ := hw'
            have hbq := below_regrown wr dq osq
            rw [← hw''] at hbq
            clear hw'' osq dq
            clear c0 c1 c2 c3 c4 c5 c6 c7 c8 x0
            have hB1 := hb.trans ((HBN.out.trans (hbq.mono HBN.out.size)).mono hb.size)
            clear hbq HBN
            go_wp2
            go_ret
            exact ⟨ret_bool (HBk.out (by trivial)).symm, hB1⟩
          · go_wp2_with fail
            replace x0 := cell_regrown x0
            replace c0 := cell_regrown c0
            replace c1 := cell_regrown c1
            replace c2 := cell_regrown c2
            replace c3 := cell_regrown c3
            replace c4 := cell_regrown c4
            replace c5 := cell_regrown c5
            replace c6 := cell_regrown c6
            replace c7 := cell_regrown c7
            replace c8 := cell_regrown c8
            refine wp_region_quiet_below (by kernel_rfl) (by kernel_rfl) ?_
            repeat (go_big_quiet_step (first | (go_at_call 126; exact Calls.regrown_of (HEk.out _))))
            refine wpQuiet_nil ?_
            intro w1 hw'
            obtain ⟨⟨dq, osq⟩, hw''⟩ := hw'
            have hbq := below_regrown wr dq osq
            rw [← hw''] at hbq
            clear hw'' osq dq
            clear c0 c1 c2 c3 c4 c5 c6 c7 c8 x0
            have hB0 := hb0.trans ((HBN.out.trans (hbq.mono HBN.out.size)).mono hb0.size)
            clear hbq HBN
            go_wp2
            go_roundw
            case rel => exact ⟨k + 1, hlt, by go_num, HNx.out (by trivial), hB0⟩
            case measure => simp [intOf]; omega
        · obtain ⟨g', a', l', m', n', ii', t', u', b', c', hgg, hg', hej, d0, d1', d2, d3, d4, d5, d6, d7, d8⟩ := (HX.out.below hb).at (k - 1) (by omega)
          simp only [Option.some.injEq, Addr.mk.injEq, and_true] at hgg
          subst hgg
          have hbj : rs[k - 1]! = ⟨a', l', m', n', ii', t', u', b', c'⟩ := (get_bang (by omega)).trans hej
          have hrj := okAt_route (ha (k - 1) (by omega))
          rw [hbj] at hrj
          have hok : okAt rs k = (routeB ⟨a, l, m, n, ii, t, u, b, c⟩ && (decide (a' < a) || (a' == a && decide (l' < l)))) := by unfold okAt; rw [hbk, hbj, decide_eq_false hz]; rfl
          have HLk : Hid (∀ w, Calls Tryz.prog 127 #[.agg #[.int .i64 a', .int .i64 l'], .agg #[.int .i64 a, .int .i64 l]] w fun e w' => e = .returned (.bool (decide (a' < a) || (a' == a && decide (l' < l)))) ∧ Below w.heap.size w w') := HL.out a' l' a l
          rw [hok] at HBk HNx
          clear hok HE HL hek hej HBd ha hbk hbj hrj
          generalize routeB ⟨a, l, m, n, ii, t, u, b, c⟩ = B at *
          have z0 : decide (0 < k) = true := by simp; omega
          have z1 : decide (0 < (k : Int)) = true := by simp; omega
          have z2 : IntKind.i64.wrap ((k : Int) - 1) = ((k - 1 : Nat) : Int) := by rw [wrap_i64_in _ (by omega) (by omega)]; omega
          have z3 : (k : Int) - 1 = ((k - 1 : Nat) : Int) := by omega
          have z4 : decide (((k - 1 : Nat) : Int) < (rs.length : Int)) = true := by simp; omega
          have z5 : k - 1 < rs.length := by omega
          have HBN : Hid (Below wr.heap.size wr wr) := Below.refl _ _
          clear d2 d3 d4 d5 d6 d7 d8
          cases B
          · clear HLk
            go_wp2_with fail
            replace x0 := cell_regrown x0
            replace c0 := cell_regrown c0
            replace c1 := cell_regrown c1
            replace c2 := cell_regrown c2
            replace c3 := cell_regrown c3
            replace c4 := cell_regrown c4
            replace c5 := cell_regrown c5
            replace c6 := cell_regrown c6
            replace c7 := cell_regrown c7
            replace c8 := cell_regrown c8
            replace d0 := cell_regrown d0
            replace d1' := cell_regrown d1'
            refine wp_region_quiet_below (by kernel_rfl) (by kernel_rfl) ?_
            repeat (go_big_quiet_step (first | (go_at_call 126; exact Calls.regrown_of (HEk.out _))))
            refine wpQuiet_nil ?_
            intro w1 hw'
            obtain ⟨⟨dq, osq⟩, hw''⟩ := hw'
            have hbq := below_regrown wr dq osq
            rw [← hw''] at hbq
            clear hw'' osq dq
            clear c0 c1 c2 c3 c4 c5 c6 c7 c8 x0 d0 d1'
            have hB1 := hb.trans ((HBN.out.trans (hbq.mono HBN.out.size)).mono hb.size)
            clear hbq HBN
            go_wp2
            go_ret
            exact ⟨ret_bool (HBk.out (by trivial)).symm, hB1⟩
          · generalize (decide (a' < a) || (a' == a && decide (l' < l))) = L at *
            cases L
            · go_wp2_with fail
              replace x0 := cell_regrown x0
              replace c0 := cell_regrown c0
              replace c1 := cell_regrown c1
              replace c2 := cell_regrown c2
              replace c3 := cell_regrown c3
              replace c4 := cell_regrown c4
              replace c5 := cell_regrown c5
              replace c6 := cell_regrown c6
              replace c7 := cell_regrown c7
              replace c8 := cell_regrown c8
              replace d0 := cell_regrown d0
              replace d1' := cell_regrown d1'
              refine wp_region_quiet_below (by kernel_rfl) (by kernel_rfl) ?_
              repeat (go_big_quiet_step (first | (go_at_call 126; exact Calls.regrown_of (HEk.out _)) | (go_at_call 127; exact Calls.regrown_of (HLk.out _))))
              refine wpQuiet_nil ?_
              intro w1 hw'
              obtain ⟨⟨dq, osq⟩, hw''⟩ := hw'
              have hbq := below_regrown wr dq osq
              rw [← hw''] at hbq
              clear hw'' osq dq
              clear c0 c1 c2 c3 c4 c5 c6 c7 c8 x0 d0 d1'
              have hB1 := hb.trans ((HBN.out.trans (hbq.mono HBN.out.size)).mono hb.size)
              clear hbq HBN
              go_wp2
              go_ret
              exact ⟨ret_bool (HBk.out (by trivial)).symm, hB1⟩
            · go_wp2_with fail
              replace x0 := cell_regrown x0
              replace c0 := cell_regrown c0
              replace c1 := cell_regrown c1
              replace c2 := cell_regrown c2
              replace c3 := cell_regrown c3
              replace c4 := cell_regrown c4
              replace c5 := cell_regrown c5
              replace c6 := cell_regrown c6
              replace c7 := cell_regrown c7
              replace c8 := cell_regrown c8
              replace d0 := cell_regrown d0
              replace d1' := cell_regrown d1'
              refine wp_region_quiet_below (by kernel_rfl) (by kernel_rfl) ?_
              repeat (go_big_quiet_step (first | (go_at_call 126; exact Calls.regrown_of (HEk.out _)) | (go_at_call 127; exact Calls.regrown_of (HLk.out _))))
              refine wpQuiet_nil ?_
              intro w1 hw'
              obtain ⟨⟨dq, osq⟩, hw''⟩ := hw'
              have hbq := below_regrown wr dq osq
              rw [← hw''] at hbq
              clear hw'' osq dq
              clear c0 c1 c2 c3 c4 c5 c6 c7 c8 x0 d0 d1'
              have hB0 := hb0.trans ((HBN.out.trans (hbq.mono HBN.out.size)).mono hb0.size)
              clear hbq HBN
              go_wp2
              go_roundw
              case rel => exact ⟨k + 1, hlt, by go_num, HNx.out (by trivial), hB0⟩
              case measure => simp [intOf]; omega
      · obtain rfl : k = rs.length := by omega
        have d1 : decide ((rs.length : Int) < (rs.length : Int)) = false := by simp
        have hR := HYs.out ha
        clear hlt hk
        go_wp2
        go_ret
        exact ⟨ret_bool hR.symm, hb⟩
  · rw [ribB_long hl]
    have d8 : decide (8 < (rs.length : Int)) = true := by simp; omega
    go_enter Tryz.func79, Tryz.ntmps79
    go_wp2
    go_ret
    exact ⟨rfl, ent_new0 w _⟩
end Go.Proofs.YtifckpncpjijiaaGreat
/- The laws' own tables: opened, measured, handed over. (Written by gen_rts.py.) -/
namespace Go.Proofs.YtifckpncpjijiaaGreat
open Go.ChangeShapes Go.WideShapes Go.RowKit Go.Sort Go.Deep Go.Joins

/-- The slice (x, len) that was handed in holds the routes rs. -/
def ArgR (w : World) (x : Option Addr) (len : Nat) (rs : List Rt) : Prop := rs.length = len ∧ len ≤ maxLen ∧ (∀ e ∈ rs, RtW e) ∧ ∀ i, (h : i < rs.length) → ∃ p, x = some p ∧ w.cell? (p.add (i * 9)) = some (.int .i64 rs[i].a) ∧ w.cell? (p.add (i * 9 + 1)) = some (.int .i64 rs[i].l) ∧ w.cell? (p.add (i * 9 + 2)) = some (.int .i64 rs[i].m) ∧ w.cell? (p.add (i * 9 + 3)) = some (.int .i64 rs[i].n) ∧ w.cell? (p.add (i * 9 + 4)) = some (.int .i64 rs[i].i) ∧ w.cell? (p.add (i * 9 + 5)) = some (.int .i64 rs[i].t) ∧ w.cell? (p.add (i * 9 + 6)) = some (.int .i64 rs[i].u) ∧ w.cell? (p.add (i * 9 + 7)) = some (.int .i64 rs[i].b) ∧ w.cell? (p.add (i * 9 + 8)) = some (.bool rs[i].c)
theorem ArgR.below {w w' : World} {x : Option Addr} {len : Nat} {rs : List Rt} (h : ArgR w x len rs) (hb : Below w.heap.size w w') : ArgR w' x len rs := by
  obtain ⟨h1, h2, h3, h4⟩ := h
  refine ⟨h1, h2, h3, fun i hi => ?_⟩
  obtain ⟨p, hp, c0, c1, c2, c3, c4, c5, c6, c7, c8⟩ := h4 i hi
  have hk : ∀ k v, w.cell? (p.add k) = some v → w'.cell? (p.add k) = some v := fun k v hv => by rw [hb.cell (World.block_lt_of_cell? w _ hv)]; exact hv
  exact ⟨p, hp, hk _ _ c0, hk _ _ c1, hk _ _ c2, hk _ _ c3, hk _ _ c4, hk _ _ c5, hk _ _ c6, hk _ _ c7, hk _ _ c8⟩
theorem addr_moreR (p : Addr) (m j : Nat) (hj : j ≠ 0) : p.add (m + j) = ⟨(p.add m).block, (p.add m).off + j, none⟩ := by
  rw [← Addr.add_add]
  generalize p.add m = q
  unfold Addr.add
  rw [if_neg hj]
theorem ArgR.at {w : World} {x : Option Addr} {len : Nat} {rs : List Rt} (h : ArgR w x len rs) (i : Nat) (hi : i < rs.length) : ∃ p a l m n ii t u b c, x = some p ∧ rs[i] = ⟨a, l, m, n, ii, t, u, b, c⟩ ∧ w.cell? (p.add (i * 9)) = some (.int .i64 a) ∧ w.cell? ⟨(p.add (i * 9)).block, (p.add (i * 9)).off + 1, none⟩ = some (.int .i64 l) ∧ w.cell? ⟨(p.add (i * 9)).block, (p.add (i * 9)).off + 2, none⟩ = some (.int .i64 m) ∧ w.cell? ⟨(p.add (i * 9)).block, (p.add (i * 9)).off + 3, none⟩ = some (.int .i64 n) ∧ w.cell? ⟨(p.add (i * 9)).block, (p.add (i * 9)).off + 4, none⟩ = some (.int .i64 ii) ∧ w.cell? ⟨(p.add (i * 9)).block, (p.add (i * 9)).off + 5, none⟩ = some (.int .i64 t) ∧ w.cell? ⟨(p.add (i * 9)).block, (p.add (i * 9)).off + 6, none⟩ = some (.int .i64 u) ∧ w.cell? ⟨(p.add (i * 9)).block, (p.add (i * 9)).off + 7, none⟩ = some (.int .i64 b) ∧ w.cell? ⟨(p.add (i * 9)).block, (p.add (i * 9)).off + 8, none⟩ = some (.bool c) := by
  obtain ⟨p, hp, c0, c1, c2, c3, c4, c5, c6, c7, c8⟩ := h.2.2.2 i hi
  rw [addr_moreR _ _ _ (by omega)] at c1 c2 c3 c4 c5 c6 c7 c8
  exact ⟨p, _, _, _, _, _, _, _, _, _, hp, rfl, c0, c1, c2, c3, c4, c5, c6, c7, c8⟩
section
variable {H : Type} {enc : TypeId × Value → H} {w : World} {base : Nat} {spare : Nat → Bool} {held : Bool}
set_option maxRecDepth 100000 in
theorem open_rts {fuel : Nat} {v : Value} {x : DataW H × List MemPlace} (h : DataW.trod enc Tryz.prog w base spare held fuel 23 [v] = some x) : ∃ y len cap rs, v = .slice y len cap ∧ ArgR w y len rs := by
  rcases open_slice Tryz.underlying23 h with ⟨h0, _⟩ | ⟨a, len, cap, m, n, D, Pl, h0, hb, hl, hm, hmm, _, hx⟩
  · simp only [List.cons.injEq, and_true] at h0
    exact ⟨none, 0, 0, [], h0, rfl, Nat.zero_le _, by simp, fun i hi => absurd hi (by simp)⟩
  · simp only [List.cons.injEq, and_true] at h0
    have hlm : len ≤ m := by rw [hmm]; split <;> omega
    have each : ∀ i, i < m → ∃ e : Rt, RtW e ∧ w.cell? (a.add (i * 9)) = some (.int .i64 e.a) ∧ w.cell? (a.add (i * 9 + 1)) = some (.int .i64 e.l) ∧ w.cell? (a.add (i * 9 + 2)) = some (.int .i64 e.m) ∧ w.cell? (a.add (i * 9 + 3)) = some (.int .i64 e.n) ∧ w.cell? (a.add (i * 9 + 4)) = some (.int .i64 e.i) ∧ w.cell? (a.add (i * 9 + 5)) = some (.int .i64 e.t) ∧ w.cell? (a.add (i * 9 + 6)) = some (.int .i64 e.u) ∧ w.cell? (a.add (i * 9 + 7)) = some (.int .i64 e.b) ∧ w.cell? (a.add (i * 9 + 8)) = some (.bool e.c) := by
      intro i hi
      obtain ⟨cs', h1, h2⟩ := hx i hi
      rw [Tryz.cellsRoute] at h1
      obtain ⟨e, rfl, hw⟩ := open_rt h2
      obtain ⟨_, _, hcell⟩ := World.cells?_some h1
      have hadd : ∀ j k, (a.add j).add k = a.add (j + k) := fun j k => by
        unfold Addr.add
        by_cases hj : j = 0
        · subst hj; by_cases hk : k = 0 <;> simp [hk]
        · by_cases hk : k = 0
          · simp [hj, hk]
          · simp [hj, hk, Nat.add_assoc]
      refine ⟨e, hw, ?_⟩
      have k0 := hcell 0 (by omega)
      have k1 := hcell 1 (by omega)
      have k2 := hcell 2 (by omega)
      have k3 := hcell 3 (by omega)
      have k4 := hcell 4 (by omega)
      have k5 := hcell 5 (by omega)
      have k6 := hcell 6 (by omega)
      have k7 := hcell 7 (by omega)
      have k8 := hcell 8 (by omega)
      simp only [hadd, Nat.add_zero, rtL] at k0 k1 k2 k3 k4 k5 k6 k7 k8
      exact ⟨by simpa using k0, by simpa using k1, by simpa using k2, by simpa using k3, by simpa using k4, by simpa using k5, by simpa using k6, by simpa using k7, by simpa using k8⟩
    obtain ⟨E, hE⟩ := choose_lt (α := Rt) (p := fun i e => RtW e ∧ w.cell? (a.add (i * 9)) = some (.int .i64 e.a) ∧ w.cell? (a.add (i * 9 + 1)) = some (.int .i64 e.l) ∧ w.cell? (a.add (i * 9 + 2)) = some (.int .i64 e.m) ∧ w.cell? (a.add (i * 9 + 3)) = some (.int .i64 e.n) ∧ w.cell? (a.add (i * 9 + 4)) = some (.int .i64 e.i) ∧ w.cell? (a.add (i * 9 + 5)) = some (.int .i64 e.t) ∧ w.cell? (a.add (i * 9 + 6)) = some (.int .i64 e.u) ∧ w.cell? (a.add (i * 9 + 7)) = some (.int .i64 e.b) ∧ w.cell? (a.add (i * 9 + 8)) = some (.bool e.c)) each
    refine ⟨some a, len, cap, (List.range len).map E, h0, by simp, by omega, ?_, ?_⟩
    · intro e he
      simp only [List.mem_map, List.mem_range] at he
      obtain ⟨i, hi, rfl⟩ := he
      exact (hE i (by omega)).1
    · intro i hi
      simp only [List.length_map, List.length_range] at hi
      refine ⟨a, rfl, ?_⟩
      simp only [List.getElem_map, List.getElem_range]
      exact (hE i (by omega)).2
set_option maxRecDepth 100000 in
theorem Tryz.cellsRibS : Tryz.prog.cellsOf 23 = 1 := by kernel_rfl
theorem Tryz.cellsRib : Tryz.prog.cellsOf 25 = 1 := by kernel_rfl
set_option maxRecDepth 100000 in
theorem open_ribV {r : Reach} {b0 : Nat} {v : Value} {d : DataW H} {p : List MemPlace} (hv : Value.okWide Tryz.prog w r b0 25 v) (h : DataW.Trod enc Tryz.prog w base spare held 25 v d p) :
    ∃ y len cap rs, v = ribV y len cap ∧ ArgR w y len rs := by
  obtain ⟨cs, rfl, hsz⟩ := okWide_struct Tryz.underlying25 hv
  rw [Tryz.cellsRib] at hsz
  obtain ⟨l⟩ := cs
  match l, hsz with
  | [c0], _ =>
    obtain ⟨fuel, hf⟩ := h
    obtain ⟨xs, n, _, _, hl, hx, hg⟩ := DataW.trod_struct Tryz.underlying25 hf
    match xs, hx with
    | [y0], _ =>
      have h0 : DataW.trod enc Tryz.prog w base spare held n 23 ((([c0] : List Value).drop 0).take (Tryz.prog.cellsOf 23)) = [y0][0]? := hg 0 _ rfl
      rw [Tryz.cellsRibS] at h0
      replace h0 : DataW.trod enc Tryz.prog w base spare held n 23 [c0] = some y0 := h0
      obtain ⟨y, len, cap, rs, rfl, hA⟩ := open_rts h0
      exact ⟨y, len, cap, rs, rfl, hA⟩
end
end Go.Proofs.YtifckpncpjijiaaGreat
/- The laws' own tables measured and handed over. (Written by gen_rts.py.) -/
namespace Go.Proofs.YtifckpncpjijiaaGreat
open Go.RowKit Go.Sort

theorem set9 (A R : List Value) (k : Nat) (hA : A.length = k * 9) (z0 z1 z2 z3 z4 z5 z6 z7 z8 x0 x1 x2 x3 x4 x5 x6 x7 x8 : Value) : ((((((((((A ++ ([z0, z1, z2, z3, z4, z5, z6, z7, z8] ++ R)).set (k * 9) x0).set (k * 9 + 1) x1).set (k * 9 + 2) x2).set (k * 9 + 3) x3).set (k * 9 + 4) x4).set (k * 9 + 5) x5).set (k * 9 + 6) x6).set (k * 9 + 7) x7).set (k * 9 + 8) x8) = A ++ ([x0, x1, x2, x3, x4, x5, x6, x7, x8] ++ R) := by
  have e : ∀ (L : List Value) (j : Nat) (x : Value), (A ++ L).set (k * 9 + j) x = A ++ L.set j x := fun L j x => by
    rw [List.set_append, if_neg (by omega), hA, Nat.add_sub_cancel_left]
  have e0 : ∀ (L : List Value) (x : Value), (A ++ L).set (k * 9) x = A ++ L.set 0 x := fun L x => e L 0 x
  rw [e0, e, e, e, e, e, e, e, e]
  rfl
theorem Row.someR {w : World} {g : Nat} {t : TypeId} {l : List Value} (h : Row w g t l) (k : Nat) (hk : k < l.length) : ∃ v, w.cell? ⟨g, k, none⟩ = some v := ⟨l[k], by rw [h.cell, List.getElem?_eq_getElem hk]⟩
theorem Tryz.infoR : (Tryz.prog.info? 98).map (fun i => (i.zero, i.size, i.bytes)) = some (some (.agg #[.int .i64 0, .int .i64 0, .int .i64 0, .int .i64 0, .int .i64 0, .int .i64 0, .int .i64 0, .int .i64 0, .bool false]), 9, 72) := by kernel_rfl
def zeroRt : Rt := ⟨0, 0, 0, 0, 0, 0, 0, 0, false⟩
theorem rowR_zero_get (n i : Nat) (h : i < n * 9) : (rowR (List.replicate n zeroRt))[i]? = some (if i % 9 = 8 then .bool false else .int .i64 0) := by
  have hi : i / 9 < (List.replicate n zeroRt).length := by simp; omega
  have := rowR_get (List.replicate n zeroRt) (i / 9) (i % 9) hi (by omega)
  rw [show i / 9 * 9 + i % 9 = i by omega] at this
  rw [this, List.getElem_replicate]
  have h9 : i % 9 = 0 ∨ i % 9 = 1 ∨ i % 9 = 2 ∨ i % 9 = 3 ∨ i % 9 = 4 ∨ i % 9 = 5 ∨ i % 9 = 6 ∨ i % 9 = 7 ∨ i % 9 = 8 := by omega
  rcases h9 with h | h | h | h | h | h | h | h | h <;> (rw [h]; rfl)
theorem made_zeroR (n : Nat) : (madeCells (Value.agg #[.int .i64 0, .int .i64 0, .int .i64 0, .int .i64 0, .int .i64 0, .int .i64 0, .int .i64 0, .int .i64 0, .bool false]).cells (n * 9)).toList = rowR (List.replicate n zeroRt) := by
  apply List.ext_getElem?
  intro i
  by_cases h : i < n * 9
  · rw [rowR_zero_get n i h]
    simp only [madeCells, Value.cells, Array.toList_map, List.getElem?_map]
    have h9 : i % 9 = 0 ∨ i % 9 = 1 ∨ i % 9 = 2 ∨ i % 9 = 3 ∨ i % 9 = 4 ∨ i % 9 = 5 ∨ i % 9 = 6 ∨ i % 9 = 7 ∨ i % 9 = 8 := by omega
    rcases h9 with h9 | h9 | h9 | h9 | h9 | h9 | h9 | h9 | h9 <;> simp [h9, h]
  · rw [List.getElem?_eq_none (by simp [madeCells]; omega), List.getElem?_eq_none (by rw [rowR_length]; simp; omega)]
set_option maxRecDepth 100000 in
/-- 'make([]Route, n)'. -/
theorem wpList_make_rts {w : World} {ops : Array Oper} {rest : List Oper} {o : Oper} {a : Act} {Q : Exit → Act → World → Prop}
    (hgd : o.guard = none) (l c : Operand) (hop : o.op = Op.makeSlice 34 l c)
    (L : Int) (n : Nat) (hl : a.eval l = .int .i64 L) (hc : a.eval c = .int .i64 L) (hL : L = (n : Int)) (hn : n ≤ 100000000)
    (B : Nat) (w0 : World) (hb : Below B w0 w) (hB : B ≤ w.heap.size)
    (h : ∀ w', Row w' w.heap.size 98 (rowR (List.replicate n zeroRt)) → Below B w0 w' → wpList Tryz.prog ops Q rest (a.put o.dst (.slice (some ⟨w.heap.size, 0, none⟩) n n)) w') : wpList Tryz.prog ops Q (o :: rest) a w := by
  obtain ⟨i0, hi0, hz0, hz1, hz2⟩ := info_parts Tryz.infoR
  refine wpList_make_full w hgd l c 34 hop B 98 i0 _ 9 Tryz.underlying34 hi0 hz0 hz1 .i64 .i64 L L n hl hc hL hL (by rw [hz2]; omega) (by unfold maxLen; omega) hB ?_
  intro w' hown hgrow
  rcases hown.2 with ⟨h', _⟩ | ⟨g, cap, cur, h', hbg, hg, hnc, hcm, hcs, htake⟩
  · simp at h'
  · simp only [Value.slice.injEq, Option.some.injEq, Addr.mk.injEq, and_true, true_and] at h'
    obtain ⟨rfl, rfl⟩ := h'
    refine h w' ?_ (hb.trans ((Below.refl B w).grown hgrow hB (by intro k hk; cases hk)))
    unfold Row
    rw [hg, ← made_zeroR, ← htake, List.take_of_length_le (by simp [hcs])]
theorem rowR_set (es : List Rt) (k : Nat) (hk : k < es.length) (a l m n ii t u b : Int) (c : Bool) (he : es[k] = ⟨a, l, m, n, ii, t, u, b, c⟩) :
    ((((((((((rowR (es.take k ++ List.replicate (es.length - k) zeroRt)).set (k * 9) (.int .i64 a)).set (k * 9 + 1) (.int .i64 l)).set (k * 9 + 2) (.int .i64 m)).set (k * 9 + 3) (.int .i64 n)).set (k * 9 + 4) (.int .i64 ii)).set (k * 9 + 5) (.int .i64 t)).set (k * 9 + 6) (.int .i64 u)).set (k * 9 + 7) (.int .i64 b)).set (k * 9 + 8) (.bool c)) = rowR (es.take (k + 1) ++ List.replicate (es.length - (k + 1)) zeroRt) := by
  have e1 : es.length - k = (es.length - (k + 1)) + 1 := by omega
  rw [e1, List.replicate_succ, rowR_append, rowR_cons, List.take_succ_eq_append_getElem hk, List.append_assoc, rowR_append, List.singleton_append, rowR_cons, he]
  exact set9 _ _ k (by rw [rowR_length, List.length_take]; omega) _ _ _ _ _ _ _ _ _ _ _ _ _ _ _ _ _ _
set_option maxRecDepth 100000 in
theorem szRouteS_any (x : Option Addr) (len cap : Nat) (w : World) (hl : len ≤ maxLen) : Calls Tryz.prog 92 #[.slice x len cap, .int .i64 1048576] w fun e w' => e = .returned (.int .i64 (if len ≤ 1048576 then 1048576 - (len : Int) else -1)) ∧ w = w' := by
  unfold maxLen at hl
  by_cases h : len ≤ 1048576
  · rw [if_pos h]
    have d : decide (1048576 - (len : Int) < 0) = false := by simp; omega
    go_enter Tryz.func92, Tryz.ntmps92
    go_wp2
    go_ret
    exact ⟨rfl, rfl⟩
  · rw [if_neg h]
    have d : decide (1048576 - (len : Int) < 0) = true := by simp; omega
    go_enter Tryz.func92, Tryz.ntmps92
    go_wp2
    go_ret
    exact ⟨rfl, rfl⟩
set_option maxRecDepth 100000 in
theorem szRib_any (x : Option Addr) (len cap : Nat) (w : World) (hl : len ≤ maxLen) : Calls Tryz.prog 42 #[ribV x len cap, .int .i64 1048576] w fun e w' => e = .returned (.int .i64 (if len ≤ 1048576 then 1048576 - (len : Int) else -1)) ∧ Below w.heap.size w w' := by
  have HS : Hid (∀ w, Calls Tryz.prog 92 #[.slice x len cap, .int .i64 1048576] w fun e w' => e = .returned (.int .i64 (if len ≤ 1048576 then 1048576 - (len : Int) else -1)) ∧ w = w') := fun w => szRouteS_any x len cap w hl
  unfold maxLen at hl
  unfold ribV
  by_cases h : len ≤ 1048576
  · rw [if_pos h] at *
    have d : decide (1048576 - (len : Int) < 0) = false := by simp; omega
    go_enter Tryz.func42, Tryz.ntmps42
    go_wp2_with fail
    refine (HS.out _).mono ?_
    rintro e w1 ⟨rfl, rfl⟩
    go_wp2
    go_ret
    exact ⟨rfl, ent_new0 w _⟩
  · rw [if_neg h] at *
    go_enter Tryz.func42, Tryz.ntmps42
    go_wp2_with fail
    refine (HS.out _).mono ?_
    rintro e w1 ⟨rfl, rfl⟩
    go_wp2
    go_ret
    exact ⟨rfl, ent_new0 w _⟩
set_option maxRecDepth 100000 in
theorem toRouteS_any (x : Option Addr) (cap : Nat) (es : List Rt) (w : World) (h : ArgR w x es.length es) (hn : es.length ≤ 1048576) :
    Calls Tryz.prog 100 #[.slice x es.length cap] w fun e w' => ∃ g, e = .returned (.slice (some ⟨g, 0, none⟩) es.length es.length) ∧ w.heap.size ≤ g ∧ Row w' g 98 (rowR es) ∧ Below w.heap.size w w' := by
  have HE : Hid (∀ e w, Calls Tryz.prog 141 #[rtV e] w fun r w' => r = .returned (rtV e) ∧ Below w.heap.size w w') := toRoute_any
  have HX : Hid (ArgR w x es.length es) := h
  clear h
  go_enter Tryz.func100, Tryz.ntmps100
  go_wp2_with (at_make; refine wpList_make_rts rfl _ _ rfl _ es.length rfl rfl rfl (by omega) w.heap.size w (Below.refl _ _) (Nat.le_refl _) ?_)
  intro w0 hr0 hb0
  have hz : es.take 0 ++ List.replicate (es.length - 0) zeroRt = List.replicate es.length zeroRt := by simp
  rw [← hz] at hr0
  clear hz
  go_wp2_with fail
  go_loopw [4] (fun i wr => ∃ k : Nat, k ≤ es.length ∧ i = .int .i64 k ∧ Row wr w.heap.size 98 (rowR (es.take k ++ List.replicate (es.length - k) zeroRt)) ∧ Below w.heap.size w wr) (fun i _ => es.length - (intOf i).toNat)
  case atStart => exact ⟨0, Nat.zero_le _, rfl, hr0, hb0⟩
  case round =>
    obtain ⟨k, hk, rfl, hr, hb⟩ := hrel
    by_cases hlt : k < es.length
    · obtain ⟨p, a, l, m, n, ii, t, u, b, c, rfl, hek, c0, c1, c2, c3, c4, c5, c6, c7, c8⟩ := (HX.out.below hb).at k hlt
      have HEk : Hid (∀ w, Calls Tryz.prog 141 #[.agg #[.int .i64 a, .int .i64 l, .int .i64 m, .int .i64 n, .int .i64 ii, .int .i64 t, .int .i64 u, .int .i64 b, .bool c]] w fun r w' => r = .returned (.agg #[.int .i64 a, .int .i64 l, .int .i64 m, .int .i64 n, .int .i64 ii, .int .i64 t, .int .i64 u, .int .i64 b, .bool c]) ∧ Below w.heap.size w w') := HE.out ⟨a, l, m, n, ii, t, u, b, c⟩
      have hset := rowR_set es k hlt a l m n ii t u b c hek
      have HS : Hid _ := hset
      clear hset HE hek hr0 hb0
      go_wp2_with fail
      refine (HEk.out _).mono ?_
      rintro e w1 ⟨rfl, hb1⟩
      have hr1 := hr.below hb1 hr.lt
      have hB1 := hb.trans (hb1.mono hb.size)
      clear c0 c1 c2 c3 c4 c5 c6 c7 c8 hb1 HEk hr hb
      have hlr : (rowR (es.take k ++ List.replicate (es.length - k) zeroRt)).length = es.length * 9 := by rw [rowR_length]; simp; omega
      obtain ⟨z0, hz0⟩ := Row.someR hr1 (k * 9) (by omega)
      obtain ⟨z1, hz1⟩ := Row.someR hr1 (k * 9 + 1) (by omega)
      obtain ⟨z2, hz2⟩ := Row.someR hr1 (k * 9 + 2) (by omega)
      obtain ⟨z3, hz3⟩ := Row.someR hr1 (k * 9 + 3) (by omega)
      obtain ⟨z4, hz4⟩ := Row.someR hr1 (k * 9 + 4) (by omega)
      obtain ⟨z5, hz5⟩ := Row.someR hr1 (k * 9 + 5) (by omega)
      obtain ⟨z6, hz6⟩ := Row.someR hr1 (k * 9 + 6) (by omega)
      obtain ⟨z7, hz7⟩ := Row.someR hr1 (k * 9 + 7) (by omega)
      obtain ⟨z8, hz8⟩ := Row.someR hr1 (k * 9 + 8) (by omega)
      have f0 := hr1.frozen (k * 9)
      have f1 := hr1.frozen (k * 9 + 1)
      have f2 := hr1.frozen (k * 9 + 2)
      have f3 := hr1.frozen (k * 9 + 3)
      have f4 := hr1.frozen (k * 9 + 4)
      have f5 := hr1.frozen (k * 9 + 5)
      have f6 := hr1.frozen (k * 9 + 6)
      have f7 := hr1.frozen (k * 9 + 7)
      have f8 := hr1.frozen (k * 9 + 8)
      have hr2 := nine_row hr1 (k * 9) (.int .i64 a) (.int .i64 l) (.int .i64 m) (.int .i64 n) (.int .i64 ii) (.int .i64 t) (.int .i64 u) (.int .i64 b) (.bool c)
      rw [HS.out] at hr2
      have hB2 := nine_below hB1 w.heap.size (k * 9) (Nat.le_refl _) (.int .i64 a) (.int .i64 l) (.int .i64 m) (.int .i64 n) (.int .i64 ii) (.int .i64 t) (.int .i64 u) (.int .i64 b) (.bool c)
      unfold nine at hr2 hB2
      have HH : Hid _ := And.intro hr2 hB2
      clear hr1 hB1 HS hlr hr2 hB2
      go_wp2_with fail
      go_roundw
      case rel => exact ⟨k + 1, hlt, by go_num, HH.out.1, HH.out.2⟩
      case measure => simp [intOf]; omega
    · obtain rfl : k = es.length := by omega
      rw [List.take_length, Nat.sub_self, List.replicate_zero, List.append_nil] at hr
      clear hlt hk
      go_wp2
      go_ret
      exact ⟨_, rfl, Nat.le_refl _, hr, hb⟩
theorem three1 (w : World) (a0 b0 c0 : Value) (t u y : TypeId) : ∃ W, W = ((w.alloc (.cells #[a0] t)).alloc (.cells #[b0] u)).alloc (.cells #[c0] y) ∧ Row W w.heap.size t [a0] ∧ Row W (w.heap.size + 1) u [b0] ∧ Row W (w.heap.size + 1 + 1) y [c0] ∧ Below w.heap.size w W ∧ W.heap.size = w.heap.size + 1 + 1 + 1 := by
  have q0 := ((Row.new w t [a0]).alloc (.cells #[b0] u)).alloc (.cells #[c0] y)
  have q1 := (Row.new (w.alloc (.cells #[a0] t)) u [b0]).alloc (.cells #[c0] y)
  have q2 := Row.new ((w.alloc (.cells #[a0] t)).alloc (.cells #[b0] u)) y [c0]
  have e1 : (w.alloc (.cells #[a0] t)).heap.size = w.heap.size + 1 := by simp
  have e2 : ((w.alloc (.cells #[a0] t)).alloc (.cells #[b0] u)).heap.size = w.heap.size + 1 + 1 := by simp
  rw [e1] at q1
  rw [e2] at q2
  exact ⟨_, rfl, q0, q1, q2, ((ent_new0 w _).alloc (by simp) _).alloc (by simp; omega) _, by simp⟩
set_option maxRecDepth 100000 in
theorem toRib_any (x : Option Addr) (cap : Nat) (es : List Rt) (w : World) (h : ArgR w x es.length es) (hn : es.length ≤ 1048576) :
    Calls Tryz.prog 50 #[ribV x es.length cap] w fun e w' => ∃ g, e = .returned (ribV (some ⟨g, 0, none⟩) es.length es.length) ∧ w.heap.size ≤ g ∧ Row w' g 98 (rowR es) ∧ Below w.heap.size w w' := by
  have HE : Hid (∀ w, ArgR w x es.length es → Calls Tryz.prog 100 #[.slice x es.length cap] w fun e w' => ∃ g, e = .returned (.slice (some ⟨g, 0, none⟩) es.length es.length) ∧ w.heap.size ≤ g ∧ Row w' g 98 (rowR es) ∧ Below w.heap.size w w') := fun w h => toRouteS_any x cap es w h hn
  have HX : Hid (ArgR w x es.length es) := h
  clear h
  unfold ribV
  generalize es.length = N at *
  obtain ⟨W, hW, q0, q1, q2, hB, hS⟩ := three1 w (.slice x N cap) (.slice none 0 0) (.slice none 0 0) 25 36 36
  have HW : Hid _ := hW
  clear hW
  go_enter Tryz.func50, Tryz.ntmps50
  go_wp2_with fail
  rw [← HW.out]
  refine (HE.out _ (HX.out.below hB)).mono ?_
  rintro e w1 ⟨g, rfl, hg, hr, hb1⟩
  have p1 := q1.below hb1 q1.lt
  have p2 := q2.below hb1 q2.lt
  have hB1 := hB.trans (hb1.mono (by omega))
  have hg2 : w.heap.size + 1 + 1 < g := by omega
  clear q0 q1 q2 hb1 HW HX HE hB
  have b0 : w1.cell? ⟨w.heap.size + 1, 0, none⟩ = some (.slice none 0 0) := p1.cell 0
  have d0 : w1.cell? ⟨w.heap.size + 1 + 1, 0, none⟩ = some (.slice none 0 0) := p2.cell 0
  have f0 : w1.frozen? ⟨w.heap.size + 1, 0, none⟩ = false := p1.frozen 0
  have g0 : w1.frozen? ⟨w.heap.size + 1 + 1, 0, none⟩ = false := p2.frozen 0
  have hrow : Row ((w1.setCell ⟨w.heap.size + 1 + 1, 0, none⟩ (.slice (some ⟨g, 0, none⟩) N N)).setCell ⟨w.heap.size + 1, 0, none⟩ (.slice (some ⟨g, 0, none⟩) N N)) g 98 (rowR es) := (hr.other 0 _ (by omega)).other 0 _ (by omega)
  have hres : Row ((w1.setCell ⟨w.heap.size + 1 + 1, 0, none⟩ (.slice (some ⟨g, 0, none⟩) N N)).setCell ⟨w.heap.size + 1, 0, none⟩ (.slice (some ⟨g, 0, none⟩) N N)) (w.heap.size + 1) 36 [.slice (some ⟨g, 0, none⟩) N N] := (p1.other 0 _ (by omega)).set 0 _
  have hbel : Below w.heap.size w ((w1.setCell ⟨w.heap.size + 1 + 1, 0, none⟩ (.slice (some ⟨g, 0, none⟩) N N)).setCell ⟨w.heap.size + 1, 0, none⟩ (.slice (some ⟨g, 0, none⟩) N N)) := (hB1.setCell (p := ⟨w.heap.size + 1 + 1, 0, none⟩) (by show w.heap.size ≤ w.heap.size + 1 + 1; omega) _).setCell (p := ⟨w.heap.size + 1, 0, none⟩) (by show w.heap.size ≤ w.heap.size + 1; omega) _
  have HH : Hid _ := And.intro hrow (And.intro hres hbel)
  clear hrow hres hbel p1 p2 hr hB1
  go_wp2_with fail
  have HH2 := HH.out
  clear HH b0 d0 f0 g0
  generalize ((w1.setCell ⟨w.heap.size + 1 + 1, 0, none⟩ (.slice (some ⟨g, 0, none⟩) N N)).setCell ⟨w.heap.size + 1, 0, none⟩ (.slice (some ⟨g, 0, none⟩) N N)) = Z at *
  obtain ⟨h1, h2, h3⟩ := HH2
  have b0 : Z.cell? ⟨w.heap.size + 1, 0, none⟩ = some (.slice (some ⟨g, 0, none⟩) N N) := h2.cell 0
  refine bodyPost_ret (v := .agg #[.slice (some ⟨g, 0, none⟩) N N]) (by simp [results, Tryz.results50, go_sem, b0]) rfl ⟨g, rfl, by omega, h1, h3⟩
end Go.Proofs.YtifckpncpjijiaaGreat
/- Routes appended to a list of the call's own; a list of routes cut. -/
namespace Go.Proofs.YtifckpncpjijiaaGreat
open Go.RowKit Go.Sort

theorem ownsR_none {w : World} {base : Nat} {v : Value} {n : Nat} {xs : List Value} (h : w.ownsRow base 98 9 v n xs) (ty : TypeId) : (Builtin.append_ #[34, 34] ty #[v, .slice none 0 0]).run Tryz.prog w = .ok v w := by
  obtain ⟨i0, hi0, _, _, _⟩ := info_parts Tryz.infoR
  exact run_append_owned_none w base _ ty 98 i0 9 Tryz.underlying34 hi0 v n xs h
/-- 'append(v, x...)' of routes. -/
theorem run_append_rts (w : World) (base : Nat) (v : Value) (ls ms : List Rt) (q : Option Addr) (c : Nat) (ty : TypeId) (hown : w.ownsRow base 98 9 v ls.length (rowR ls)) (hq0 : q = none → ms = [] ∧ c = 0)
    (hq : ∀ ad, q = some ad → ∀ j u, (rowR ms)[j]? = some u → w.cell? (ad.add j) = some u) (hlen : ls.length + ms.length ≤ 1000000000) (hbase : base ≤ w.heap.size) :
    ∃ v' w', (Builtin.append_ #[34, 34] ty #[v, .slice q ms.length c]).run Tryz.prog w = .ok v' w' ∧ w'.ownsRow base 98 9 v' (ls ++ ms).length (rowR (ls ++ ms)) ∧ Below base w w' := by
  obtain ⟨i0, hi0, hz0, hz1, hz2⟩ := info_parts Tryz.infoR
  cases q with
  | none =>
    obtain ⟨rfl, rfl⟩ := hq0 rfl
    exact ⟨v, w, ownsR_none hown ty, by rw [List.append_nil]; exact hown, Below.refl _ _⟩
  | some ad =>
    obtain ⟨v', w', hr, h2, h3, _⟩ := run_append_own (P := Tryz.prog) w base _ ty 98 i0 _ 9 72 Tryz.underlying34 hi0 hz0 hz1 hz2 rfl (by decide) v ls.length (rowR ls) hown ad ms.length c (rowR ms) (by rw [rowR_length]; omega) (hq ad rfl) (rowR_one ms) (by unfold maxLen; omega) (by omega) hbase
    refine ⟨v', w', hr, ?_, (Below.refl base w).grown h3 hbase fun k hk => (World.ownsRow.lt hown k hk).1⟩
    rw [List.length_append, rowR_append]
    exact h2
theorem wpList_append_runs {P : Program} {w : World} {ops : Array Oper} {rest : List Oper} {o : Oper} {a : Act} {Q : Exit → Act → World → Prop} (hgd : o.guard = none) (s x : Operand) (t : TypeId)
    (ho : o.op = .call { callee := .builtin .append, args := #[s, x], argTypes := #[t, t] }) (vs vx : Value) (hs : a.eval s = vs) (hx : a.eval x = vx)
    {v' : Value} {w' : World} (hr : (Builtin.append_ #[t, t] o.type #[vs, vx]).run P w = .ok v' w') (h : wpList P ops Q rest (a.put o.dst v') w') : wpList P ops Q (o :: rest) a w := by
  refine wpList_plain hgd fun K hK => ?_
  unfold Oper.wp execOp
  simp only [ho, resolve, invoke, builtin, Sem.run_bind, Sem.run_pure, Result.andThen_ok, List.map_toArray, List.map_cons, List.map_nil, hs, hx, hr]
  exact hK _ _ h
theorem addR (g o j : Nat) : (⟨g, o, none⟩ : Addr).add j = ⟨g, o + j, none⟩ := by unfold Addr.add; split <;> simp_all
/-- Where the part of a list behind k begins. -/
def fromR (p : Option Addr) (cap k : Nat) : Option Addr := if cap = k then p else p.map (·.add (k * 9))
theorem sliceR_upto (p : Option Addr) (n cap k : Nat) (x : Int) (hx : x = k) (hk : k ≤ cap) (w : World) : (Instr.slice 34 (.slice p n cap) none (some (.int .i64 x)) none).run Tryz.prog w = .ok (.slice (fromR p cap 0) k cap) w := by
  subst hx
  have hb := run_sliceBound (P := Tryz.prog) w .i64 (k : Int) cap .sliceAcap (by omega) (by omega)
  unfold Instr.slice Instr.sliceBounds
  simp [Sem.run_bind, run_underlying Tryz.underlying34, hb, fromR]
theorem sliceR_from (p : Option Addr) (n cap k : Nat) (x : Int) (hx : x = k) (hk : k ≤ n) (w : World) : (Instr.slice 34 (.slice p n cap) (some (.int .i64 x)) none none).run Tryz.prog w = .ok (.slice (fromR p cap k) (n - k) (cap - k)) w := by
  subst hx
  have hb := run_sliceBound (P := Tryz.prog) w .i64 (k : Int) n .sliceB (by omega) (by omega)
  unfold Instr.slice Instr.sliceBounds
  simp [Sem.run_bind, run_underlying Tryz.underlying34, hb, fromR]
theorem fromR_none {p : Option Addr} {cap k : Nat} {rs : List Rt} (hc : p = none → cap = 0) (h : p = none → rs = []) : fromR p cap k = none → rs.drop k = [] ∧ cap - k = 0 := by
  intro e
  have hp : p = none := by
    unfold fromR at e
    split at e
    · exact e
    · simpa using e
  have := hc hp
  exact ⟨by rw [h hp]; simp, by omega⟩
theorem rtsIn_none {w : World} {p : Option Addr} {rs : List Rt} (h : RtsIn w p rs) : p = none → rs = [] := by
  rintro rfl
  rcases h with h | ⟨g, e, _⟩
  · exact h
  · cases e
theorem fromR_cells {w : World} {p : Option Addr} {cap k : Nat} {rs : List Rt} (h : RtsIn w p rs) (hl : rs.length ≤ cap) : ∀ ad, fromR p cap k = some ad → ∀ j u, (rowR (rs.drop k))[j]? = some u → w.cell? (ad.add j) = some u := by
  intro ad e j u hj
  rcases h with rfl | ⟨g, rfl, hg, hc⟩
  · simp [rowR] at hj
  · have hj9 : j < 9 * (rs.length - k) := by
      have := (List.getElem?_eq_some_iff.1 hj).1
      rw [rowR_length, List.length_drop] at this
      exact this
    unfold fromR at e
    rw [if_neg (by omega)] at e
    simp only [Option.map_some, Option.some.injEq] at e
    subst e
    have ea : ((⟨g, 0, none⟩ : Addr).add (k * 9)).add j = ⟨g, k * 9 + j, none⟩ := by rw [addR, addR, Nat.zero_add]
    rw [ea]
    refine hc _ _ ?_
    rw [← hj, ← List.take_append_drop k rs, rowR_append, List.take_append_drop, List.getElem?_append_right (by rw [rowR_length, List.length_take]; omega), rowR_length, List.length_take]
    congr 1
    omega
theorem fromR_upto {w : World} {p : Option Addr} {cap k : Nat} {rs : List Rt} (h : RtsIn w p rs) : ∀ ad, fromR p cap 0 = some ad → ∀ j u, (rowR (rs.take k))[j]? = some u → w.cell? (ad.add j) = some u := by
  intro ad e j u hj
  rcases h with rfl | ⟨g, rfl, hg, hc⟩
  · simp [rowR] at hj
  · have e' : ad = ⟨g, 0, none⟩ := by
      unfold fromR at e
      split at e
      · simpa using e.symm
      · simp only [Option.map_some, Option.some.injEq] at e
        rw [← e]; unfold Addr.add; split <;> simp_all
    subst e'
    have ea : (⟨g, 0, none⟩ : Addr).add j = ⟨g, j, none⟩ := by unfold Addr.add; split <;> simp_all
    rw [ea]
    refine hc _ _ ?_
    rw [← hj, ← List.take_append_drop k rs, rowR_append, List.take_append_drop]
    rw [List.getElem?_append_left (List.getElem?_eq_some_iff.1 hj).1]
end Go.Proofs.YtifckpncpjijiaaGreat
/- The laws' own look: routes, lists of them and tables are as themselves. (Written by gen_rts.py.) -/
namespace Go.Proofs.YtifckpncpjijiaaGreat
open Go.RowKit Go.Sort

/-- Two boxes of nine cells, one behind the other: what they hold behind a later call. -/
theorem boxes9 {w w1 : World} {xs ys : List Value} {t u : TypeId} (h : Below ((w.alloc (.cells xs.toArray t)).alloc (.cells ys.toArray u)).heap.size ((w.alloc (.cells xs.toArray t)).alloc (.cells ys.toArray u)) w1) :
    (∀ k v, xs[k]? = some v → w1.cell? ⟨w.heap.size, k, none⟩ = some v) ∧ (∀ k v, ys[k]? = some v → w1.cell? ⟨w.heap.size + 1, k, none⟩ = some v) ∧ Below w.heap.size w w1 := by
  have q0 := (Row.new w t xs).alloc (.cells ys.toArray u)
  have q1 := Row.new (w.alloc (.cells xs.toArray t)) u ys
  have p0 := q0.below h q0.lt
  have p1 := q1.below h q1.lt
  have e1 : (w.alloc (.cells xs.toArray t)).heap.size = w.heap.size + 1 := by simp
  rw [e1] at p1
  exact ⟨fun k v hv => (p0.cell k).trans hv, fun k v hv => (p1.cell k).trans hv, ((ent_new0 w _).alloc (by simp) _).trans (h.mono (by simp; omega))⟩
set_option maxRecDepth 100000 in
theorem eqRoute_same (e : Rt) (w : World) : Calls Tryz.prog 158 #[rtV e, rtV e] w fun r w' => r = .returned (.bool true) ∧ Below w.heap.size w w' := by
  obtain ⟨a, l, m, n, i, t, u, b, c⟩ := e
  unfold rtV rtA
  have HN : Hid (∀ w, Calls Tryz.prog 134 #[.agg #[.int .i64 a, .int .i64 l], .agg #[.int .i64 a, .int .i64 l]] w fun e w' => e = .returned (.bool true) ∧ Below w.heap.size w w') := eqNet_same a l
  have em : (m != m) = false := by simp
  have en : (n != n) = false := by simp
  have ei : (i != i) = false := by simp
  have et : (t != t) = false := by simp
  have eu : (u != u) = false := by simp
  have eb : (b != b) = false := by simp
  have ec : (c != c) = false := by simp
  go_enter Tryz.func158, Tryz.ntmps158
  go_wp2_with fail
  refine (HN.out _).mono ?_
  rintro e w1 ⟨rfl, hb1⟩
  obtain ⟨k0, k1, hB⟩ := boxes9 (xs := [.int .i64 a, .int .i64 l, .int .i64 m, .int .i64 n, .int .i64 i, .int .i64 t, .int .i64 u, .int .i64 b, .bool c]) (ys := [.int .i64 a, .int .i64 l, .int .i64 m, .int .i64 n, .int .i64 i, .int .i64 t, .int .i64 u, .int .i64 b, .bool c]) hb1
  have c2 := k0 2 _ rfl
  have d2 := k1 2 _ rfl
  have c3 := k0 3 _ rfl
  have d3 := k1 3 _ rfl
  have c4 := k0 4 _ rfl
  have d4 := k1 4 _ rfl
  have c5 := k0 5 _ rfl
  have d5 := k1 5 _ rfl
  have c6 := k0 6 _ rfl
  have d6 := k1 6 _ rfl
  have c7 := k0 7 _ rfl
  have d7 := k1 7 _ rfl
  have c8 := k0 8 _ rfl
  have d8 := k1 8 _ rfl
  clear k0 k1 hb1 HN
  go_wp2
  go_ret
  exact ⟨rfl, hB⟩
set_option maxRecDepth 100000 in
theorem eqRouteS_any (p q : Option Addr) (c d : Nat) (es : List Rt) (w : World) (hp : RtsIn w p es) (hq : RtsIn w q es) (hn : es.length ≤ 100000000) : Calls Tryz.prog 111 #[.slice p es.length c, .slice q es.length d] w fun r w' => r = .returned (.bool true) ∧ Below w.heap.size w w' := by
  have HE : Hid (∀ e w, Calls Tryz.prog 158 #[rtV e, rtV e] w fun r w' => r = .returned (.bool true) ∧ Below w.heap.size w w') := eqRoute_same
  have HX : Hid (RtsIn w p es ∧ RtsIn w q es) := ⟨hp, hq⟩
  have h0 : ((es.length : Int) != (es.length : Int)) = false := by simp
  clear hp hq
  go_enter Tryz.func111, Tryz.ntmps111
  go_wp2_with fail
  go_loopw [5] (fun i wr => ∃ k : Nat, k ≤ es.length ∧ i = .int .i64 k ∧ Below w.heap.size w wr) (fun i _ => es.length - (intOf i).toNat)
  case atStart => exact ⟨0, Nat.zero_le _, rfl, Below.refl _ _⟩
  case round =>
    obtain ⟨k, hk, rfl, hb⟩ := hrel
    by_cases hlt : k < es.length
    · obtain ⟨g, a, l, m, n, ii, t, u, b, cc, rfl, hg, hek, c0, c1, c2, c3, c4, c5, c6, c7, c8⟩ := (HX.out.1.below hb).at k hlt
      obtain ⟨g', a', l', m', n', ii', t', u', b', cc', rfl, hg', hek', d0, d1, d2, d3, d4, d5, d6, d7, d8⟩ := (HX.out.2.below hb).at k hlt
      rw [hek] at hek'
      simp only [Rt.mk.injEq] at hek'
      obtain ⟨rfl, rfl, rfl, rfl, rfl, rfl, rfl, rfl, rfl⟩ := hek'
      have HEk : Hid (∀ w, Calls Tryz.prog 158 #[.agg #[.int .i64 a, .int .i64 l, .int .i64 m, .int .i64 n, .int .i64 ii, .int .i64 t, .int .i64 u, .int .i64 b, .bool cc], .agg #[.int .i64 a, .int .i64 l, .int .i64 m, .int .i64 n, .int .i64 ii, .int .i64 t, .int .i64 u, .int .i64 b, .bool cc]] w fun r w' => r = .returned (.bool true) ∧ Below w.heap.size w w') := HE.out ⟨a, l, m, n, ii, t, u, b, cc⟩
      clear HE hek HX
      replace c0 := cell_regrown c0
      replace d0 := cell_regrown d0
      replace c1 := cell_regrown c1
      replace d1 := cell_regrown d1
      replace c2 := cell_regrown c2
      replace d2 := cell_regrown d2
      replace c3 := cell_regrown c3
      replace d3 := cell_regrown d3
      replace c4 := cell_regrown c4
      replace d4 := cell_regrown d4
      replace c5 := cell_regrown c5
      replace d5 := cell_regrown d5
      replace c6 := cell_regrown c6
      replace d6 := cell_regrown d6
      replace c7 := cell_regrown c7
      replace d7 := cell_regrown d7
      replace c8 := cell_regrown c8
      replace d8 := cell_regrown d8
      go_wp2_with fail
      refine wp_region_quiet_below (by kernel_rfl) (by kernel_rfl) ?_
      repeat (go_big_quiet_step ((go_at_call 158; exact Calls.regrown_of (HEk.out _))))
      refine wpQuiet_nil ?_
      intro w1 hw'
      obtain ⟨⟨dq, osq⟩, hw''⟩ := hw'
      have hbq := below_regrown wr dq osq
      rw [← hw''] at hbq
      clear hw'' osq dq c0 c1 c2 c3 c4 c5 c6 c7 c8 d0 d1 d2 d3 d4 d5 d6 d7 d8 HEk
      have hb2 := hb.trans (hbq.mono hb.size)
      clear hbq
      go_wp2
      go_roundw
      case rel => exact ⟨k + 1, hlt, by go_num, hb2⟩
      case measure => simp [intOf]; omega
    · obtain rfl : k = es.length := by omega
      clear hlt hk
      go_wp2
      go_ret
      exact ⟨rfl, hb⟩
set_option maxRecDepth 100000 in
theorem eqRib_any (p q : Option Addr) (c d : Nat) (es : List Rt) (w : World) (hp : RtsIn w p es) (hq : RtsIn w q es) (hn : es.length ≤ 100000000) : Calls Tryz.prog 61 #[ribV p es.length c, ribV q es.length d] w fun r w' => r = .returned (.bool true) ∧ Below w.heap.size w w' := by
  have HE : Hid (∀ w, RtsIn w p es → RtsIn w q es → Calls Tryz.prog 111 #[.slice p es.length c, .slice q es.length d] w fun r w' => r = .returned (.bool true) ∧ Below w.heap.size w w') := fun w h1 h2 => eqRouteS_any p q c d es w h1 h2 hn
  have HX : Hid (RtsIn w p es ∧ RtsIn w q es) := ⟨hp, hq⟩
  unfold ribV
  clear hp hq
  go_enter Tryz.func61, Tryz.ntmps61
  go_wp2_with fail
  refine (HE.out _ ((HX.out.1.alloc _).alloc _) ((HX.out.2.alloc _).alloc _)).mono ?_
  rintro e w1 ⟨rfl, hb1⟩
  have hB : Below w.heap.size w w1 := ((ent_new0 w _).alloc (by simp) _).trans (hb1.mono (by simp; omega))
  clear hb1 HE HX
  go_wp2
  go_ret
  exact ⟨rfl, hB⟩
end Go.Proofs.YtifckpncpjijiaaGreat
/- The laws' own marks in a list of routes: written, and looked for. (Written by gen_markr.py.) -/
namespace Go.Proofs.YtifckpncpjijiaaGreat
open Go.RowKit Go.Sort

def m3 (x : Int) : Bool := x.tmod 3 == 0
def markR (K i : Nat) : Rt := ⟨(K : Int) + 9 * (i : Int) + 0, (K : Int) + 9 * (i : Int) + 1, (K : Int) + 9 * (i : Int) + 2, (K : Int) + 9 * (i : Int) + 3, (K : Int) + 9 * (i : Int) + 4, (K : Int) + 9 * (i : Int) + 5, (K : Int) + 9 * (i : Int) + 6, (K : Int) + 9 * (i : Int) + 7, m3 ((K : Int) + 9 * (i : Int) + 8)⟩
def marksR (K n : Nat) : List Rt := (List.range n).map (markR K)
theorem marksR_length (K n : Nat) : (marksR K n).length = n := by simp [marksR]
theorem ownsR_opened {w : World} {base : Nat} {p : Option Addr} {cv : Nat} {es : List Rt} (h : w.ownsRow base 98 9 (.slice p es.length cv) es.length (rowR es)) : es = [] ∨ ∃ g rest, p = some ⟨g, 0, none⟩ ∧ base ≤ g ∧ es.length ≤ cv ∧ cv ≤ maxLen ∧ Row w g 98 (rowR es ++ rest) ∧ (rowR es ++ rest).length = cv * 9 := by
  rcases h.2 with ⟨h1, h2⟩ | ⟨g, cap, cur, h1, h2, h3, h4, h5, h6, h7⟩
  · exact .inl (List.length_eq_zero_iff.1 h2)
  · simp only [Value.slice.injEq] at h1
    obtain ⟨rfl, _, rfl⟩ := h1
    refine .inr ⟨g, cur.toList.drop (es.length * 9), rfl, h2, h4, h5, ?_, ?_⟩
    · unfold Row
      rw [← h7, List.take_append_drop]
      exact h3
    · rw [← h7, List.take_append_drop]; simpa using h6
theorem ownsR_shut {w : World} {base g n cv : Nat} {es : List Rt} {rest : List Value} (hn : n = es.length) (hb : base ≤ g) (h4 : n ≤ cv) (h5 : cv ≤ maxLen) (hr : Row w g 98 (rowR es ++ rest)) (hl : (rowR es ++ rest).length = cv * 9) : w.ownsRow base 98 9 (.slice (some ⟨g, 0, none⟩) n cv) n (rowR es) := by
  subst hn
  exact ⟨by rw [rowR_length]; omega, .inr ⟨g, cv, _, rfl, hb, hr, h4, h5, by simpa using hl, by
    have : (rowR es).length = es.length * 9 := by rw [rowR_length]; omega
    simp only
    rw [← this]; simp⟩⟩
theorem marksR_set (K : Nat) (es : List Rt) (rest : List Value) (k : Nat) (hk : k < es.length) :
    (((((((((rowR (marksR K k ++ es.drop k) ++ rest).set (k * 9) (.int .i64 ((K : Int) + 9 * (k : Int) + 0))).set (k * 9 + 1) (.int .i64 ((K : Int) + 9 * (k : Int) + 1))).set (k * 9 + 2) (.int .i64 ((K : Int) + 9 * (k : Int) + 2))).set (k * 9 + 3) (.int .i64 ((K : Int) + 9 * (k : Int) + 3))).set (k * 9 + 4) (.int .i64 ((K : Int) + 9 * (k : Int) + 4))).set (k * 9 + 5) (.int .i64 ((K : Int) + 9 * (k : Int) + 5))).set (k * 9 + 6) (.int .i64 ((K : Int) + 9 * (k : Int) + 6))).set (k * 9 + 7) (.int .i64 ((K : Int) + 9 * (k : Int) + 7))).set (k * 9 + 8) (.bool (m3 ((K : Int) + 9 * (k : Int) + 8))) = rowR (marksR K (k + 1) ++ es.drop (k + 1)) ++ rest := by
  have e1 : marksR K (k + 1) = marksR K k ++ [markR K k] := by simp [marksR, List.range_succ]
  rw [List.drop_eq_getElem_cons hk, e1, rowR_append, rowR_cons, List.append_assoc (marksR K k), rowR_append, List.singleton_append, rowR_cons, List.append_assoc, List.append_assoc, List.append_assoc, List.append_assoc]
  exact set9 _ _ k (by rw [rowR_length, marksR_length]; omega) _ _ _ _ _ _ _ _ _ _ _ _ _ _ _ _ _ _
theorem rtsIn_rest {w : World} {g : Nat} {t : TypeId} {es : List Rt} {rest : List Value} (h : Row w g t (rowR es ++ rest)) : RtsIn w (some ⟨g, 0, none⟩) es := .inr ⟨g, rfl, h.lt, fun j u hj => by rw [h.cell, List.getElem?_append_left (List.getElem?_eq_some_iff.1 hj).1]; exact hj⟩
set_option maxRecDepth 100000 in
set_option maxHeartbeats 2000000 in
theorem markRouteS_in (K g n cv : Nat) (es : List Rt) (rest : List Value) (w : World) (hn : n = es.length) (hK : K ≤ 100000000) (h8 : n ≤ 100000000) (hr : Row w g 98 (rowR es ++ rest)) :
    Calls Tryz.prog 90 #[.slice (some ⟨g, 0, none⟩) n cv, .int .i64 K] w fun e w' => e = .returned (.int .i64 ((K : Int) + 9 * (n : Int))) ∧ Row w' g 98 (rowR (marksR K n) ++ rest) ∧ Below g w w' ∧ ∀ b t l, b ≠ g → Row w b t l → Row w' b t l := by
  have HN : Hid (n = es.length) := hn
  have hr0 : Row w g 98 (rowR (marksR K 0 ++ es.drop 0) ++ rest) := hr
  clear hn hr
  go_enter Tryz.func90, Tryz.ntmps90
  go_wp2_with fail
  go_loopw [5, 1] (fun i m wr => ∃ k : Nat, k ≤ n ∧ i = .int .i64 k ∧ m = .int .i64 ((K : Int) + 9 * (k : Int)) ∧ Row wr g 98 (rowR (marksR K k ++ es.drop k) ++ rest) ∧ Below g w wr ∧ ∀ b t l, b ≠ g → Row w b t l → Row wr b t l) (fun i _ _ => n - (intOf i).toNat)
  case atStart => exact ⟨0, Nat.zero_le _, rfl, by go_num, hr0, Below.refl _ _, fun _ _ _ _ h => h⟩
  case round =>
    obtain ⟨k, hk, rfl, rfl, hr, hb, hoth⟩ := hrel
    have HOT : Hid (∀ b t l, b ≠ g → Row w b t l → Row wr b t l) := hoth
    clear hr0 hoth
    by_cases hlt : k < n
    · have hlen : (marksR K k ++ es.drop k).length = n := by rw [List.length_append, marksR_length, List.length_drop, ← HN.out]; omega
      have hlr : k * 9 + 8 < (rowR (marksR K k ++ es.drop k) ++ rest).length := by rw [List.length_append, rowR_length, hlen]; omega
      obtain ⟨z0, c0⟩ := Row.someR hr (k * 9) (by omega)
      obtain ⟨z1, c1⟩ := Row.someR hr (k * 9 + 1) (by omega)
      obtain ⟨z2, c2⟩ := Row.someR hr (k * 9 + 2) (by omega)
      obtain ⟨z3, c3⟩ := Row.someR hr (k * 9 + 3) (by omega)
      obtain ⟨z4, c4⟩ := Row.someR hr (k * 9 + 4) (by omega)
      obtain ⟨z5, c5⟩ := Row.someR hr (k * 9 + 5) (by omega)
      obtain ⟨z6, c6⟩ := Row.someR hr (k * 9 + 6) (by omega)
      obtain ⟨z7, c7⟩ := Row.someR hr (k * 9 + 7) (by omega)
      obtain ⟨z8, c8⟩ := Row.someR hr (k * 9 + 8) (by omega)
      have f0 := hr.frozen (k * 9)
      have f1 := hr.frozen (k * 9 + 1)
      have f2 := hr.frozen (k * 9 + 2)
      have f3 := hr.frozen (k * 9 + 3)
      have f4 := hr.frozen (k * 9 + 4)
      have f5 := hr.frozen (k * 9 + 5)
      have f6 := hr.frozen (k * 9 + 6)
      have f7 := hr.frozen (k * 9 + 7)
      have f8 := hr.frozen (k * 9 + 8)
      have hr2 := nine_row hr (k * 9) (.int .i64 ((K : Int) + 9 * (k : Int) + 0)) (.int .i64 ((K : Int) + 9 * (k : Int) + 1)) (.int .i64 ((K : Int) + 9 * (k : Int) + 2)) (.int .i64 ((K : Int) + 9 * (k : Int) + 3)) (.int .i64 ((K : Int) + 9 * (k : Int) + 4)) (.int .i64 ((K : Int) + 9 * (k : Int) + 5)) (.int .i64 ((K : Int) + 9 * (k : Int) + 6)) (.int .i64 ((K : Int) + 9 * (k : Int) + 7)) (.bool (m3 ((K : Int) + 9 * (k : Int) + 8)))
      rw [marksR_set K es rest k (by rw [← HN.out]; exact hlt)] at hr2
      have hB2 := nine_below hb g (k * 9) (Nat.le_refl _) (.int .i64 ((K : Int) + 9 * (k : Int) + 0)) (.int .i64 ((K : Int) + 9 * (k : Int) + 1)) (.int .i64 ((K : Int) + 9 * (k : Int) + 2)) (.int .i64 ((K : Int) + 9 * (k : Int) + 3)) (.int .i64 ((K : Int) + 9 * (k : Int) + 4)) (.int .i64 ((K : Int) + 9 * (k : Int) + 5)) (.int .i64 ((K : Int) + 9 * (k : Int) + 6)) (.int .i64 ((K : Int) + 9 * (k : Int) + 7)) (.bool (m3 ((K : Int) + 9 * (k : Int) + 8)))
      have hO2 := fun b t l (hne : b ≠ g) (h : Row w b t l) => nine_other (HOT.out b t l hne h) hne (k * 9) (.int .i64 ((K : Int) + 9 * (k : Int) + 0)) (.int .i64 ((K : Int) + 9 * (k : Int) + 1)) (.int .i64 ((K : Int) + 9 * (k : Int) + 2)) (.int .i64 ((K : Int) + 9 * (k : Int) + 3)) (.int .i64 ((K : Int) + 9 * (k : Int) + 4)) (.int .i64 ((K : Int) + 9 * (k : Int) + 5)) (.int .i64 ((K : Int) + 9 * (k : Int) + 6)) (.int .i64 ((K : Int) + 9 * (k : Int) + 7)) (.bool (m3 ((K : Int) + 9 * (k : Int) + 8)))
      unfold nine at hr2 hB2 hO2
      have HH : Hid _ := And.intro hr2 (And.intro hB2 hO2)
      clear hr hb hr2 hB2 hlen hlr hO2 HOT
      go_wp2_with fail
      have E : ∀ x : Int, x = (K : Int) + 9 * (k : Int) → x + 1 = x + 1 := fun _ _ => rfl
      clear E
      rw [show (K : Int) + 9 * (k : Int) + 1 + 1 + 1 + 1 + 1 + 1 + 1 + 1 + 1 = (K : Int) + 9 * ((k + 1 : Nat) : Int) by omega, show (K : Int) + 9 * (k : Int) + 1 + 1 + 1 + 1 + 1 + 1 + 1 + 1 = (K : Int) + 9 * (k : Int) + 8 by omega, show (K : Int) + 9 * (k : Int) + 1 + 1 + 1 + 1 + 1 + 1 + 1 = (K : Int) + 9 * (k : Int) + 7 by omega, show (K : Int) + 9 * (k : Int) + 1 + 1 + 1 + 1 + 1 + 1 = (K : Int) + 9 * (k : Int) + 6 by omega, show (K : Int) + 9 * (k : Int) + 1 + 1 + 1 + 1 + 1 = (K : Int) + 9 * (k : Int) + 5 by omega, show (K : Int) + 9 * (k : Int) + 1 + 1 + 1 + 1 = (K : Int) + 9 * (k : Int) + 4 by omega, show (K : Int) + 9 * (k : Int) + 1 + 1 + 1 = (K : Int) + 9 * (k : Int) + 3 by omega, show (K : Int) + 9 * (k : Int) + 1 + 1 = (K : Int) + 9 * (k : Int) + 2 by omega]
      refine ⟨⟨k + 1, hlt, by go_num, rfl, HH.out.1, HH.out.2.1, HH.out.2.2⟩, ?_⟩
      simp [intOf]
      omega
    · obtain rfl : k = n := by omega
      have hre : marksR K k ++ es.drop k = marksR K k := by rw [HN.out, List.drop_length, List.append_nil]
      rw [hre] at hr
      clear hlt hk hre
      go_wp2
      go_ret
      exact ⟨rfl, hr, hb, HOT.out⟩
set_option maxRecDepth 100000 in
set_option maxHeartbeats 2000000 in
theorem heldRouteS_in (K : Nat) (p : Option Addr) (n cv : Nat) (w : World) (hK : K ≤ 100000000) (h8 : n ≤ 100000000) (hE : RtsIn w p (marksR K n)) :
    Calls Tryz.prog 91 #[.slice p n cv, .int .i64 K] w fun e w' => e = .returned (.int .i64 ((K : Int) + 9 * (n : Int))) ∧ w = w' := by
  have HX : Hid (RtsIn w p (marksR K n)) := hE
  clear hE
  go_enter Tryz.func91, Tryz.ntmps91
  go_wp2_with fail
  go_loop [5, 1] (fun i m => ∃ k : Nat, k ≤ n ∧ i = .int .i64 k ∧ m = .int .i64 ((K : Int) + 9 * (k : Int))) (fun i _ => n - (intOf i).toNat)
  case atStart => exact ⟨0, Nat.zero_le _, rfl, by go_num⟩
  case round =>
    obtain ⟨k, hk, rfl, rfl⟩ := hrel
    by_cases hlt : k < n
    · obtain ⟨g, y0, y1, y2, y3, y4, y5, y6, y7, y8, rfl, hg, hek, c0, c1, c2, c3, c4, c5, c6, c7, c8⟩ := HX.out.at k (by rw [marksR_length]; exact hlt)
      have hmk : (marksR K n)[k]'(by rw [marksR_length]; exact hlt) = markR K k := by simp [marksR]
      rw [hmk] at hek
      simp only [markR, Rt.mk.injEq] at hek
      obtain ⟨rfl, rfl, rfl, rfl, rfl, rfl, rfl, rfl, rfl⟩ := hek
      rw [Int.add_zero] at c0
      rw [show (K : Int) + 9 * (k : Int) + 1 = (K : Int) + 9 * (k : Int) + 1 by omega] at c1
      rw [show (K : Int) + 9 * (k : Int) + 2 = (K : Int) + 9 * (k : Int) + 1 + 1 by omega] at c2
      rw [show (K : Int) + 9 * (k : Int) + 3 = (K : Int) + 9 * (k : Int) + 1 + 1 + 1 by omega] at c3
      rw [show (K : Int) + 9 * (k : Int) + 4 = (K : Int) + 9 * (k : Int) + 1 + 1 + 1 + 1 by omega] at c4
      rw [show (K : Int) + 9 * (k : Int) + 5 = (K : Int) + 9 * (k : Int) + 1 + 1 + 1 + 1 + 1 by omega] at c5
      rw [show (K : Int) + 9 * (k : Int) + 6 = (K : Int) + 9 * (k : Int) + 1 + 1 + 1 + 1 + 1 + 1 by omega] at c6
      rw [show (K : Int) + 9 * (k : Int) + 7 = (K : Int) + 9 * (k : Int) + 1 + 1 + 1 + 1 + 1 + 1 + 1 by omega] at c7
      rw [show (K : Int) + 9 * (k : Int) + 8 = (K : Int) + 9 * (k : Int) + 1 + 1 + 1 + 1 + 1 + 1 + 1 + 1 by omega] at c8
      clear hmk
      unfold m3 at c8
      have hx : ((((K : Int) + 9 * (k : Int) + 1 + 1 + 1 + 1 + 1 + 1 + 1 + 1).tmod 3 == 0) != (((K : Int) + 9 * (k : Int) + 1 + 1 + 1 + 1 + 1 + 1 + 1 + 1).tmod 3 == 0)) = false := by simp
      go_wp2_with fail
      refine ⟨⟨k + 1, hlt, by go_num, by go_num⟩, ?_⟩
      simp [intOf]
      omega
    · obtain rfl : k = n := by omega
      clear hlt hk
      go_wp2
      go_ret
      exact ⟨rfl, rfl⟩
end Go.Proofs.YtifckpncpjijiaaGreat
/- The laws' own looks at tables that are handed back: alike, marked, held. (Written by gen_markr.py.) -/
namespace Go.Proofs.YtifckpncpjijiaaGreat
open Go.RowKit Go.Sort

theorem ownsR_in {w : World} {base : Nat} {p : Option Addr} {n cv : Nat} {es : List Rt} (hn : n = es.length) (h : w.ownsRow base 98 9 (.slice p n cv) n (rowR es)) : RtsIn w p es := by
  subst hn
  rcases ownsR_opened h with h0 | ⟨g, rest, rfl, -, -, -, hr, -⟩
  · exact .inl h0
  · exact rtsIn_rest hr
theorem ownsR_row {w : World} {g n : Nat} {es : List Rt} (hn : n = es.length) (h8 : n ≤ 100000000) (h : Row w g 98 (rowR es)) : w.ownsRow g 98 9 (.slice (some ⟨g, 0, none⟩) n n) n (rowR es) := ownsR_shut (rest := []) hn (Nat.le_refl _) (Nat.le_refl _) (by unfold maxLen; omega) (by rw [List.append_nil]; exact h) (by rw [List.append_nil, rowR_length, hn]; omega)
theorem ownsR_kept {w w' : World} {base : Nat} {p : Option Addr} {n cv : Nat} {es : List Rt} (hn : n = es.length) (h : w.ownsRow base 98 9 (.slice p n cv) n (rowR es)) (hk : ∀ b t l, p = some ⟨b, 0, none⟩ → Row w b t l → Row w' b t l) : w'.ownsRow base 98 9 (.slice p n cv) n (rowR es) := by
  subst hn
  rcases ownsR_opened h with h0 | ⟨g, rest, rfl, h1, h2, h3, hr, hl⟩
  · subst h0
    rcases h.2 with ⟨e1, e2⟩ | ⟨g, cap, cur, e1, e2, e3, e4, e5, e6, e7⟩
    · exact ⟨rfl, .inl ⟨e1, e2⟩⟩
    · simp only [Value.slice.injEq] at e1
      obtain ⟨rfl, -, rfl⟩ := e1
      have := hk g 98 cur.toList rfl (by unfold Row; simpa using e3)
      exact ⟨rfl, .inr ⟨g, _, cur, rfl, e2, by unfold Row at this; simpa using this, e4, e5, e6, e7⟩⟩
  · exact ownsR_shut rfl h1 h2 h3 (hk _ _ _ rfl hr) hl
theorem ownsR_below {w w' : World} {base n : Nat} {v : Value} {xs : List Value} (h : w.ownsRow base 98 9 v n xs) (hb : Below w.heap.size w w') : w'.ownsRow base 98 9 v n xs :=
  World.ownsRow.kept h (row := none) ⟨hb.os, hb.tape, hb.output, hb.size, fun k hk _ => hb.block k hk⟩ (by cases v.ownBlock <;> simp)
theorem ownsR_mono {w : World} {base base' n : Nat} {v : Value} {xs : List Value} (h : w.ownsRow base 98 9 v n xs) (hb : base' ≤ base) : w.ownsRow base' 98 9 v n xs := by
  rcases h.2 with ⟨h1, h2⟩ | ⟨g, cap, cur, h1, h2, h3, h4, h5, h6, h7⟩
  · exact ⟨h.1, .inl ⟨h1, h2⟩⟩
  · exact ⟨h.1, .inr ⟨g, cap, cur, h1, by omega, h3, h4, h5, h6, h7⟩⟩
theorem ownsR_ne {w : World} {base n cv g : Nat} {p : Option Addr} {xs l : List Value} {t : TypeId} (h : w.ownsRow base 98 9 (.slice p n cv) n xs) (hr : Row w g t l) (ht : t ≠ 98) : p ≠ some ⟨g, 0, none⟩ := by
  rintro rfl
  rcases h.2 with ⟨h1, _⟩ | ⟨g', cap, cur, h1, _, h3, _⟩
  · simp at h1
  · simp only [Value.slice.injEq, Option.some.injEq, Addr.mk.injEq, and_true] at h1
    obtain ⟨rfl, _⟩ := h1
    unfold Row at hr
    rw [h3] at hr
    simp only [Option.some.injEq, Obj.cells.injEq] at hr
    exact ht hr.2.1.symm
theorem ownsR_base {w : World} {base n cv g : Nat} {p : Option Addr} {xs : List Value} (h : w.ownsRow base 98 9 (.slice p n cv) n xs) (hg : g < base) : p ≠ some ⟨g, 0, none⟩ := by
  rintro rfl
  have := (World.ownsRow.lt h g rfl).1
  omega
theorem ownsR_size {w : World} {base n cv g : Nat} {p : Option Addr} {xs : List Value} (h : w.ownsRow base 98 9 (.slice p n cv) n xs) (hg : w.heap.size ≤ g) : p ≠ some ⟨g, 0, none⟩ := by
  rintro rfl
  have := (World.ownsRow.lt h g rfl).2
  omega
theorem row_ne {w : World} {g k : Nat} {l m : List Value} {t u : TypeId} (h : Row w g t l) (hk : Row w k u m) (ht : t ≠ u) : g ≠ k := by
  rintro rfl
  unfold Row at h hk
  rw [h] at hk
  simp only [Option.some.injEq, Obj.cells.injEq] at hk
  exact ht hk.2.1
set_option maxRecDepth 100000 in
theorem markRouteS_0 (K : Nat) (p : Option Addr) (cv : Nat) (w : World) : Calls Tryz.prog 90 #[.slice p 0 cv, .int .i64 K] w fun e w' => e = .returned (.int .i64 K) ∧ w = w' := by
  go_enter Tryz.func90, Tryz.ntmps90
  go_wp2_with fail
  go_loop [5, 1] (fun i k => i = .int .i64 0 ∧ k = .int .i64 K) (fun _ _ => 0)
  case atStart => exact ⟨rfl, rfl⟩
  case round =>
    obtain ⟨rfl, rfl⟩ := hrel
    go_wp2
    go_ret
    exact ⟨rfl, rfl⟩
set_option maxHeartbeats 1000000 in
theorem markRouteS_any (K : Nat) (p : Option Addr) (n cv base : Nat) (es : List Rt) (w : World) (hn : n = es.length) (hK : K ≤ 100000000) (h8 : n ≤ 100000000) (h : w.ownsRow base 98 9 (.slice p n cv) n (rowR es)) :
    Calls Tryz.prog 90 #[.slice p n cv, .int .i64 K] w fun e w' => e = .returned (.int .i64 ((K : Int) + 9 * (n : Int))) ∧ w'.ownsRow base 98 9 (.slice p n cv) n (rowR (marksR K n)) ∧ Below base w w' ∧ ∀ b t l, p ≠ some ⟨b, 0, none⟩ → Row w b t l → Row w' b t l := by
  subst hn
  rcases ownsR_opened h with h0 | ⟨g, rest, rfl, hb, h1, h2, hr, hl⟩
  · subst h0
    exact (markRouteS_0 K p cv w).mono fun e w' ⟨he, hw⟩ => ⟨by rw [he]; simp, hw ▸ h, hw ▸ Below.refl _ _, fun _ _ _ _ h => hw ▸ h⟩
  · refine (markRouteS_in K g _ cv es rest w rfl hK h8 hr).mono fun e w' ⟨he, hr', hb', ho'⟩ => ⟨he, ownsR_shut (marksR_length K _).symm hb h1 h2 hr' ?_, hb'.mono hb, fun b t l hp h => ho' b t l (fun e => hp (by rw [e])) h⟩
    rw [List.length_append, rowR_length, marksR_length]
    rw [List.length_append, rowR_length] at hl
    exact hl
set_option maxRecDepth 100000 in
set_option maxHeartbeats 1000000 in
theorem markRib_any (K : Nat) (p : Option Addr) (n cv base : Nat) (es : List Rt) (w : World) (hn : n = es.length) (hK : K ≤ 100000000) (h8 : n ≤ 100000000) (h : w.ownsRow base 98 9 (.slice p n cv) n (rowR es)) (hbs : base ≤ w.heap.size) :
    Calls Tryz.prog 64 #[.agg #[.slice p n cv], .int .i64 K] w fun e w' => e = .returned (.int .i64 ((K : Int) + 9 * (n : Int))) ∧ w'.ownsRow base 98 9 (.slice p n cv) n (rowR (marksR K n)) ∧ Below base w w' ∧ ∀ b t l, p ≠ some ⟨b, 0, none⟩ → Row w b t l → Row w' b t l := by
  have HM : Hid (Calls Tryz.prog 90 #[.slice p n cv, .int .i64 K] (w.alloc (.cells #[.slice p n cv] 36)) fun e w' => e = .returned (.int .i64 ((K : Int) + 9 * (n : Int))) ∧ w'.ownsRow base 98 9 (.slice p n cv) n (rowR (marksR K n)) ∧ Below base (w.alloc (.cells #[.slice p n cv] 36)) w' ∧ ∀ b t l, p ≠ some ⟨b, 0, none⟩ → Row (w.alloc (.cells #[.slice p n cv] 36)) b t l → Row w' b t l) := markRouteS_any K p n cv base es _ hn hK h8 (World.ownsRow.alloc h _)
  clear h hn hK h8
  go_enter Tryz.func64, Tryz.ntmps64
  go_wp2_with fail
  refine (HM.out).mono ?_
  rintro e w1 ⟨rfl, ho, hb, hot⟩
  have hB : Below base w w1 := ((Below.refl base w).alloc hbs _).trans hb
  have HOT : Hid (∀ b t l, p ≠ some ⟨b, 0, none⟩ → Row w b t l → Row w1 b t l) := fun b t l hp h => hot b t l hp (h.alloc _)
  clear hb hot
  go_wp2
  go_ret
  exact ⟨rfl, ho, hB, HOT.out⟩
set_option maxRecDepth 100000 in
set_option maxHeartbeats 1000000 in
theorem heldRib_any (K : Nat) (p : Option Addr) (n cv : Nat) (w : World) (hK : K ≤ 100000000) (h8 : n ≤ 100000000) (h : RtsIn w p (marksR K n)) :
    Calls Tryz.prog 114 #[.agg #[.slice p n cv], .int .i64 K] w fun e w' => e = .returned (.int .i64 ((K : Int) + 9 * (n : Int))) ∧ Below w.heap.size w w' := by
  have HM : Hid (Calls Tryz.prog 91 #[.slice p n cv, .int .i64 K] (w.alloc (.cells #[.slice p n cv] 36)) fun e w' => e = .returned (.int .i64 ((K : Int) + 9 * (n : Int))) ∧ (w.alloc (.cells #[.slice p n cv] 36)) = w') := heldRouteS_in K p n cv _ hK h8 (h.alloc _)
  have d : decide ((K : Int) + 9 * (n : Int) < 0) = false := by simp; omega
  clear h hK h8
  go_enter Tryz.func114, Tryz.ntmps114
  go_wp2_with fail
  refine (HM.out).mono ?_
  rintro e w1 ⟨rfl, hb⟩
  have hB : Below w.heap.size w w1 := by rw [← hb]; exact ent_new0 w _
  clear hb
  go_wp2
  go_ret
  exact ⟨rfl, hB⟩
end Go.Proofs.YtifckpncpjijiaaGreat
/- An answer of RibOut. -/
namespace Go.Proofs.YtifckpncpjijiaaGreat
open Go.RowKit Go.Sort

/-- An answer of RibOut: its code, its routes in memory of its own. -/
def OutR (base : Nat) (c : Int) (qs : List Rt) (e : Ending) (w : World) : Prop := ∃ p cap, e = .returned (.agg #[.slice p qs.length cap, .int .i64 c]) ∧ w.ownsRow base 98 9 (.slice p qs.length cap) qs.length (rowR qs)
end Go.Proofs.YtifckpncpjijiaaGreat
/- The laws' own Ifaces handed in: opened. (Written by gen_if.py.) -/
namespace Go.Proofs.YtifckpncpjijiaaGreat
open Go.ChangeShapes Go.WideShapes Go.RowKit Go.Deep Go.WideElems Go.Maps Go.Joins

def ifL (f : If) : List Value := [.int .i64 f.d, .int .i64 f.a, .int .i64 f.l, .int .i64 f.c, .bool f.u]
theorem array5i {α : Type} {cs : Array α} (h : cs.size = 5) : ∃ c0 c1 c2 c3 c4, cs = #[c0, c1, c2, c3, c4] := by
  obtain ⟨l⟩ := cs
  match l, h with
  | [c0, c1, c2, c3, c4], _ => exact ⟨c0, c1, c2, c3, c4, rfl⟩
/-- All four numbers of an Iface are of 64 bits. -/
def IfW (f : If) : Prop := (Lit.int .i64 f.d).wf = true ∧ (Lit.int .i64 f.a).wf = true ∧ (Lit.int .i64 f.l).wf = true ∧ (Lit.int .i64 f.c).wf = true
theorem Tryz.cellsIface : Tryz.prog.cellsOf 143 = 5 := by kernel_rfl
theorem Tryz.cellsNetI : Tryz.prog.cellsOf 122 = 2 := by kernel_rfl
theorem Tryz.cellsIntI : Tryz.prog.cellsOf 2 = 1 := by kernel_rfl
theorem Tryz.cellsBoolI : Tryz.prog.cellsOf 4 = 1 := by kernel_rfl
section
variable {H : Type} {enc : TypeId × Value → H} {w : World} {base : Nat} {spare : Nat → Bool} {held : Bool}
set_option maxRecDepth 100000 in
theorem open_if {fuel : Nat} {cs : List Value} {x : DataW H × List MemPlace} (h : DataW.trod enc Tryz.prog w base spare held fuel 143 cs = some x) : ∃ f : If, cs = ifL f ∧ IfW f := by
  obtain ⟨xs, n, _, _, hl, hx, hg⟩ := DataW.trod_struct Tryz.underlying143 h
  rw [Tryz.cellsIface] at hl
  match cs, hl, xs, hx with
  | [c0, c1, c2, c3, c4], _, [y0, y1, y2, y3], _ =>
    have h0 : DataW.trod enc Tryz.prog w base spare held n 2 ((([c0, c1, c2, c3, c4] : List Value).drop 0).take (Tryz.prog.cellsOf 2)) = [y0, y1, y2, y3][0]? := hg 0 _ rfl
    rw [Tryz.cellsIntI] at h0
    replace h0 : DataW.trod enc Tryz.prog w base spare held n 2 [c0] = some y0 := h0
    have h1 : DataW.trod enc Tryz.prog w base spare held n 122 ((([c0, c1, c2, c3, c4] : List Value).drop 1).take (Tryz.prog.cellsOf 122)) = [y0, y1, y2, y3][1]? := hg 1 _ rfl
    rw [Tryz.cellsNetI] at h1
    replace h1 : DataW.trod enc Tryz.prog w base spare held n 122 [c1, c2] = some y1 := h1
    have h2 : DataW.trod enc Tryz.prog w base spare held n 2 ((([c0, c1, c2, c3, c4] : List Value).drop 3).take (Tryz.prog.cellsOf 2)) = [y0, y1, y2, y3][2]? := hg 2 _ rfl
    rw [Tryz.cellsIntI] at h2
    replace h2 : DataW.trod enc Tryz.prog w base spare held n 2 [c3] = some y2 := h2
    have h3 : DataW.trod enc Tryz.prog w base spare held n 4 ((([c0, c1, c2, c3, c4] : List Value).drop 4).take (Tryz.prog.cellsOf 4)) = [y0, y1, y2, y3][3]? := hg 3 _ rfl
    rw [Tryz.cellsBoolI] at h3
    replace h3 : DataW.trod enc Tryz.prog w base spare held n 4 [c4] = some y3 := h3
    obtain ⟨zs, k, _, _, _, hz, hk⟩ := DataW.trod_struct Tryz.underlying122 h1
    match zs, hz with
    | [z0, z1], _ =>
      have k0 : DataW.trod enc Tryz.prog w base spare held k 2 ((([c1, c2] : List Value).drop 0).take (Tryz.prog.cellsOf 2)) = [z0, z1][0]? := hk 0 _ rfl
      rw [Tryz.cellsIntI] at k0
      replace k0 : DataW.trod enc Tryz.prog w base spare held k 2 [c1] = some z0 := k0
      have k1 : DataW.trod enc Tryz.prog w base spare held k 2 ((([c1, c2] : List Value).drop 1).take (Tryz.prog.cellsOf 2)) = [z0, z1][1]? := hk 1 _ rfl
      rw [Tryz.cellsIntI] at k1
      replace k1 : DataW.trod enc Tryz.prog w base spare held k 2 [c2] = some z1 := k1
      obtain ⟨d, ed, _, wd⟩ := DataW.trod_int Tryz.underlying2 h0
      obtain ⟨a, ea, _, wa⟩ := DataW.trod_int Tryz.underlying2 k0
      obtain ⟨l, el, _, wl⟩ := DataW.trod_int Tryz.underlying2 k1
      obtain ⟨c, ec, _, wc⟩ := DataW.trod_int Tryz.underlying2 h2
      obtain ⟨u, eu, _⟩ := DataW.trod_bool Tryz.underlying4 h3
      simp only [List.cons.injEq, and_true] at ed ea el ec eu
      subst ed ea el ec eu
      exact ⟨⟨d, a, l, c, u⟩, rfl, wd, wa, wl, wc⟩
set_option maxRecDepth 100000 in
theorem open_ifV {r : Reach} {b0 : Nat} {v : Value} {d : DataW H} {p : List MemPlace} (hv : Value.okWide Tryz.prog w r b0 143 v) (h : DataW.Trod enc Tryz.prog w base spare held 143 v d p) :
    ∃ f : If, v = ifV f ∧ IfW f := by
  obtain ⟨cs, rfl, hsz⟩ := okWide_struct Tryz.underlying143 hv
  obtain ⟨c0, c1, c2, c3, c4, rfl⟩ := array5i (hsz.trans Tryz.cellsIface)
  obtain ⟨fuel, hf⟩ := h
  obtain ⟨f, he, hw⟩ := open_if hf
  refine ⟨f, ?_, hw⟩
  simp only [Value.cells, ifL] at he
  simp only [List.cons.injEq, and_true] at he
  obtain ⟨rfl, rfl, rfl, rfl, rfl⟩ := he
  rfl
end
end Go.Proofs.YtifckpncpjijiaaGreat
/- Lists of Ifaces in memory. (Written by gen_ifs.py.) -/
namespace Go.Proofs.YtifckpncpjijiaaGreat
open Go.RowKit Go.Sort

def rowI (rs : List If) : List Value := rs.flatMap ifL
theorem ifL_length (r : If) : (ifL r).length = 5 := rfl
theorem rowI_length (rs : List If) : (rowI rs).length = 5 * rs.length := by
  induction rs with
  | nil => rfl
  | cons e es ih => simp only [rowI, List.flatMap_cons, List.length_append, List.length_cons] at ih ⊢; rw [ih, ifL_length]; omega
theorem rowI_append (a b : List If) : rowI (a ++ b) = rowI a ++ rowI b := by simp [rowI]
theorem rowI_cons (e : If) (es : List If) : rowI (e :: es) = ifL e ++ rowI es := rfl
theorem rowI_get (es : List If) (i k : Nat) (hi : i < es.length) (hk : k < 5) : (rowI es)[i * 5 + k]? = (ifL es[i])[k]? := by
  induction es generalizing i with
  | nil => simp at hi
  | cons e es ih =>
    rw [rowI_cons]
    match i with
    | 0 => rw [Nat.zero_mul, Nat.zero_add, List.getElem?_append_left (by rw [ifL_length]; omega)]; rfl
    | i + 1 =>
      rw [List.getElem?_append_right (by rw [ifL_length]; omega), ifL_length, show (i + 1) * 5 + k - 5 = i * 5 + k by omega, ih i (by simpa using hi)]
      rfl
theorem rowI_one (es : List If) : ∀ u ∈ rowI es, u.oneCell' = true := by
  intro u hu
  simp only [rowI, List.mem_flatMap, ifL, List.mem_cons, List.not_mem_nil, or_false] at hu
  obtain ⟨e, _, h⟩ := hu
  rcases h with h | h | h | h | h <;> (rw [h]; rfl)
/-- The slice (p, rs.length) holds the Ifaces rs. -/
def IfsIn (w : World) (p : Option Addr) (rs : List If) : Prop := rs = [] ∨ ∃ g, p = some ⟨g, 0, none⟩ ∧ g < w.heap.size ∧ ∀ j u, (rowI rs)[j]? = some u → w.cell? ⟨g, j, none⟩ = some u
theorem IfsIn.below {w w' : World} {p : Option Addr} {rs : List If} (h : IfsIn w p rs) (hb : Below w.heap.size w w') : IfsIn w' p rs := by
  rcases h with h | ⟨g, hp, hg, hc⟩
  · exact .inl h
  · refine .inr ⟨g, hp, by have := hb.size; omega, fun j u hj => ?_⟩
    rw [hb.cell (p := ⟨g, j, none⟩) hg]
    exact hc j u hj
theorem IfsIn.alloc {w : World} {p : Option Addr} {rs : List If} (h : IfsIn w p rs) (o : Obj) : IfsIn (w.alloc o) p rs := h.below (ent_new0 w o)
theorem IfsIn.at {w : World} {p : Option Addr} {rs : List If} (h : IfsIn w p rs) (i : Nat) (hi : i < rs.length) : ∃ g d a l c u, p = some ⟨g, 0, none⟩ ∧ g < w.heap.size ∧ rs[i] = ⟨d, a, l, c, u⟩ ∧ w.cell? ⟨g, i * 5, none⟩ = some (.int .i64 d) ∧ w.cell? ⟨g, i * 5 + 1, none⟩ = some (.int .i64 a) ∧ w.cell? ⟨g, i * 5 + 2, none⟩ = some (.int .i64 l) ∧ w.cell? ⟨g, i * 5 + 3, none⟩ = some (.int .i64 c) ∧ w.cell? ⟨g, i * 5 + 4, none⟩ = some (.bool u) := by
  rcases h with rfl | ⟨g, hp, hg, hc⟩
  · simp at hi
  · exact ⟨g, rs[i].d, rs[i].a, rs[i].l, rs[i].c, rs[i].u, hp, hg, rfl, hc _ _ (rowI_get rs i 0 hi (by omega)), hc _ _ (rowI_get rs i 1 hi (by omega)), hc _ _ (rowI_get rs i 2 hi (by omega)), hc _ _ (rowI_get rs i 3 hi (by omega)), hc _ _ (rowI_get rs i 4 hi (by omega))⟩
theorem ifsIn_row {w : World} {g : Nat} {t : TypeId} {rs : List If} (h : Row w g t (rowI rs)) : IfsIn w (some ⟨g, 0, none⟩) rs := .inr ⟨g, rfl, h.lt, fun j _ hj => (h.cell j).trans hj⟩
end Go.Proofs.YtifckpncpjijiaaGreat
