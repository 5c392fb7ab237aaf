/- Texts that stand on each other, in one file: ToRib, AppS, SortI, SortM, KeysM, KeysI, AppN, BitsI, InsI, SortedI, Steady, AllI. -/
import Derived.Test.YtaledidomgelcaaPack2
import Derived.Test.YtaledidomgelcaaPack1
import Derived.Lib.QuietBelow
import Derived.BigQuiet
import Derived.Maps.RangeRun
import Derived.RangeFuncNested
import Derived.RangeFuncBound
import Derived.RangeFuncCalls
import Derived.RangeFuncLeaves
import Derived.Shelf.Abstract
import Derived.Shelf.RegionOpen
import Derived.WalkKit
import Derived.OwnWalkIn
import Derived.TacticsInMore
import Derived.LoopNIn
import Derived.LoopIn
import Derived.Maps.AppendAt
import Derived.Lib.IndexLaws
import Derived.Test.YtaledidomgelcaaTail
/- The laws' own tables measured and handed over. (Written by gen_rts.py.) -/
namespace Go.Proofs.Ytaledidomgelcaa
open Go.RowKit Go.Sort

theorem set9 (A R : List Value) (k : Nat) (hA : A.length = k * 9) (z0 z1 z2 z3 z4 z5 z6 z7 z8 x0 x1 x2 x3 x4 x5 x6 x7 x8 : Value) : ((((((((((A ++ ([z0, z1, z2, z3, z4, z5, z6, z7, z8] ++ R)).set (k * 9) x0).set (k * 9 + 1) x1).set (k * 9 + 2) x2).set (k * 9 + 3) x3).set (k * 9 + 4) x4).set (k * 9 + 5) x5).set (k * 9 + 6) x6).set (k * 9 + 7) x7).set (k * 9 + 8) x8) = A ++ ([x0, x1, x2, x3, x4, x5, x6, x7, x8] ++ R) := by
  have e : ∀ (L : List Value) (j : Nat) (x : Value), (A ++ L).set (k * 9 + j) x = A ++ L.set j x := fun L j x => by
    rw [List.set_append, if_neg (by omega), hA, Nat.add_sub_cancel_left]
  have e0 : ∀ (L : List Value) (x : Value), (A ++ L).set (k * 9) x = A ++ L.set 0 x := fun L x => e L 0 x
  rw [e0, e, e, e, e, e, e, e, e]
  rfl
theorem Row.someR {w : World} {g : Nat} {t : TypeId} {l : List Value} (h : Row w g t l) (k : Nat) (hk : k < l.length) : ∃ v, w.cell? ⟨g, k, none⟩ = some v := ⟨l[k], by rw [h.cell, List.getElem?_eq_getElem hk]⟩
theorem Try.infoR : (Try.prog.info? 46).map (fun i => (i.zero, i.size, i.bytes)) = some (some (.agg #[.int .i64 0, .int .i64 0, .int .i64 0, .int .i64 0, .int .i64 0, .int .i64 0, .int .i64 0, .int .i64 0, .bool false]), 9, 72) := by kernel_rfl
def zeroRt : Rt := ⟨0, 0, 0, 0, 0, 0, 0, 0, false⟩
theorem rowR_zero_get (n i : Nat) (h : i < n * 9) : (rowR (List.replicate n zeroRt))[i]? = some (if i % 9 = 8 then .bool false else .int .i64 0) := by
  have hi : i / 9 < (List.replicate n zeroRt).length := by simp; omega
  have := rowR_get (List.replicate n zeroRt) (i / 9) (i % 9) hi (by omega)
  rw [show i / 9 * 9 + i % 9 = i by omega] at this
  rw [this, List.getElem_replicate]
  have h9 : i % 9 = 0 ∨ i % 9 = 1 ∨ i % 9 = 2 ∨ i % 9 = 3 ∨ i % 9 = 4 ∨ i % 9 = 5 ∨ i % 9 = 6 ∨ i % 9 = 7 ∨ i % 9 = 8 := by omega
  rcases h9 with h | h | h | h | h | h | h | h | h <;> (rw [h]; rfl)
theorem made_zeroR (n : Nat) : (madeCells (Value.agg #[.int .i64 0, .int .i64 0, .int .i64 0, .int .i64 0, .int .i64 0, .int .i64 0, .int .i64 0, .int .i64 0, .bool false]).cells (n * 9)).toList = rowR (List.replicate n zeroRt) := by
  apply List.ext_getElem?
  intro i
  by_cases h : i < n * 9
  · rw [rowR_zero_get n i h]
    simp only [madeCells, Value.cells, Array.toList_map, List.getElem?_map]
    have h9 : i % 9 = 0 ∨ i % 9 = 1 ∨ i % 9 = 2 ∨ i % 9 = 3 ∨ i % 9 = 4 ∨ i % 9 = 5 ∨ i % 9 = 6 ∨ i % 9 = 7 ∨ i % 9 = 8 := by omega
    rcases h9 with h9 | h9 | h9 | h9 | h9 | h9 | h9 | h9 | h9 <;> simp [h9, h]
  · rw [List.getElem?_eq_none (by simp [madeCells]; omega), List.getElem?_eq_none (by rw [rowR_length]; simp; omega)]
set_option maxRecDepth 100000 in
/-- 'make([]Route, n)'. -/
theorem wpList_make_rts {w : World} {ops : Array Oper} {rest : List Oper} {o : Oper} {a : Act} {Q : Exit → Act → World → Prop}
    (hgd : o.guard = none) (l c : Operand) (hop : o.op = Op.makeSlice 28 l c)
    (L : Int) (n : Nat) (hl : a.eval l = .int .i64 L) (hc : a.eval c = .int .i64 L) (hL : L = (n : Int)) (hn : n ≤ 100000000)
    (B : Nat) (w0 : World) (hb : Below B w0 w) (hB : B ≤ w.heap.size)
    (h : ∀ w', Row w' w.heap.size 46 (rowR (List.replicate n zeroRt)) → Below B w0 w' → wpList Try.prog ops Q rest (a.put o.dst (.slice (some ⟨w.heap.size, 0, none⟩) n n)) w') : wpList Try.prog ops Q (o :: rest) a w := by
  obtain ⟨i0, hi0, hz0, hz1, hz2⟩ := info_parts Try.infoR
  refine wpList_make_full w hgd l c 28 hop B 46 i0 _ 9 Try.underlying28 hi0 hz0 hz1 .i64 .i64 L L n hl hc hL hL (by rw [hz2]; omega) (by unfold maxLen; omega) hB ?_
  intro w' hown hgrow
  rcases hown.2 with ⟨h', _⟩ | ⟨g, cap, cur, h', hbg, hg, hnc, hcm, hcs, htake⟩
  · simp at h'
  · simp only [Value.slice.injEq, Option.some.injEq, Addr.mk.injEq, and_true, true_and] at h'
    obtain ⟨rfl, rfl⟩ := h'
    refine h w' ?_ (hb.trans ((Below.refl B w).grown hgrow hB (by intro k hk; cases hk)))
    unfold Row
    rw [hg, ← made_zeroR, ← htake, List.take_of_length_le (by simp [hcs])]
theorem rowR_set (es : List Rt) (k : Nat) (hk : k < es.length) (a l m n ii t u b : Int) (c : Bool) (he : es[k] = ⟨a, l, m, n, ii, t, u, b, c⟩) :
    ((((((((((rowR (es.take k ++ List.replicate (es.length - k) zeroRt)).set (k * 9) (.int .i64 a)).set (k * 9 + 1) (.int .i64 l)).set (k * 9 + 2) (.int .i64 m)).set (k * 9 + 3) (.int .i64 n)).set (k * 9 + 4) (.int .i64 ii)).set (k * 9 + 5) (.int .i64 t)).set (k * 9 + 6) (.int .i64 u)).set (k * 9 + 7) (.int .i64 b)).set (k * 9 + 8) (.bool c)) = rowR (es.take (k + 1) ++ List.replicate (es.length - (k + 1)) zeroRt) := by
  have e1 : es.length - k = (es.length - (k + 1)) + 1 := by omega
  rw [e1, List.replicate_succ, rowR_append, rowR_cons, List.take_succ_eq_append_getElem hk, List.append_assoc, rowR_append, List.singleton_append, rowR_cons, he]
  exact set9 _ _ k (by rw [rowR_length, List.length_take]; omega) _ _ _ _ _ _ _ _ _ _ _ _ _ _ _ _ _ _
set_option maxRecDepth 100000 in
theorem szRouteS_any (x : Option Addr) (len cap : Nat) (w : World) (hl : len ≤ maxLen) : Calls Try.prog 35 #[.slice x len cap, .int .i64 1048576] w fun e w' => e = .returned (.int .i64 (if len ≤ 1048576 then 1048576 - (len : Int) else -1)) ∧ w = w' := by
  unfold maxLen at hl
  by_cases h : len ≤ 1048576
  · rw [if_pos h]
    have d : decide (1048576 - (len : Int) < 0) = false := by simp; omega
    go_enter Try.func35, Try.ntmps35
    go_wp2
    go_ret
    exact ⟨rfl, rfl⟩
  · rw [if_neg h]
    have d : decide (1048576 - (len : Int) < 0) = true := by simp; omega
    go_enter Try.func35, Try.ntmps35
    go_wp2
    go_ret
    exact ⟨rfl, rfl⟩
set_option maxRecDepth 100000 in
theorem szRib_any (x : Option Addr) (len cap : Nat) (w : World) (hl : len ≤ maxLen) : Calls Try.prog 9 #[ribV x len cap, .int .i64 1048576] w fun e w' => e = .returned (.int .i64 (if len ≤ 1048576 then 1048576 - (len : Int) else -1)) ∧ Below w.heap.size w w' := by
  have HS : Hid (∀ w, Calls Try.prog 35 #[.slice x len cap, .int .i64 1048576] w fun e w' => e = .returned (.int .i64 (if len ≤ 1048576 then 1048576 - (len : Int) else -1)) ∧ w = w') := fun w => szRouteS_any x len cap w hl
  unfold maxLen at hl
  unfold ribV
  by_cases h : len ≤ 1048576
  · rw [if_pos h] at *
    have d : decide (1048576 - (len : Int) < 0) = false := by simp; omega
    go_enter Try.func9, Try.ntmps9
    go_wp2_with fail
    refine (HS.out _).mono ?_
    rintro e w1 ⟨rfl, rfl⟩
    go_wp2
    go_ret
    exact ⟨rfl, ent_new0 w _⟩
  · rw [if_neg h] at *
    go_enter Try.func9, Try.ntmps9
    go_wp2_with fail
    refine (HS.out _).mono ?_
    rintro e w1 ⟨rfl, rfl⟩
    go_wp2
    go_ret
    exact ⟨rfl, ent_new0 w _⟩
set_option maxRecDepth 100000 in
theorem toRouteS_any (x : Option Addr) (cap : Nat) (es : List Rt) (w : World) (h : ArgR w x es.length es) (hn : es.length ≤ 1048576) :
    Calls Try.prog 41 #[.slice x es.length cap] w fun e w' => ∃ g, e = .returned (.slice (some ⟨g, 0, none⟩) es.length es.length) ∧ w.heap.size ≤ g ∧ Row w' g 46 (rowR es) ∧ Below w.heap.size w w' := by
  have HE : Hid (∀ e w, Calls Try.prog 20 #[rtV e] w fun r w' => r = .returned (rtV e) ∧ Below w.heap.size w w') := toRoute_any
  have HX : Hid (ArgR w x es.length es) := h
  clear h
  go_enter Try.func41, Try.ntmps41
  go_wp2_with (at_make; refine wpList_make_rts rfl _ _ rfl _ es.length rfl rfl rfl (by omega) w.heap.size w (Below.refl _ _) (Nat.le_refl _) ?_)
  intro w0 hr0 hb0
  have hz : es.take 0 ++ List.replicate (es.length - 0) zeroRt = List.replicate es.length zeroRt := by simp
  rw [← hz] at hr0
  clear hz
  go_wp2_with fail
  go_loopw [4] (fun i wr => ∃ k : Nat, k ≤ es.length ∧ i = .int .i64 k ∧ Row wr w.heap.size 46 (rowR (es.take k ++ List.replicate (es.length - k) zeroRt)) ∧ Below w.heap.size w wr) (fun i _ => es.length - (intOf i).toNat)
  case atStart => exact ⟨0, Nat.zero_le _, rfl, hr0, hb0⟩
  case round =>
    obtain ⟨k, hk, rfl, hr, hb⟩ := hrel
    by_cases hlt : k < es.length
    · obtain ⟨p, a, l, m, n, ii, t, u, b, c, rfl, hek, c0, c1, c2, c3, c4, c5, c6, c7, c8⟩ := (HX.out.below hb).at k hlt
      have HEk : Hid (∀ w, Calls Try.prog 20 #[.agg #[.int .i64 a, .int .i64 l, .int .i64 m, .int .i64 n, .int .i64 ii, .int .i64 t, .int .i64 u, .int .i64 b, .bool c]] w fun r w' => r = .returned (.agg #[.int .i64 a, .int .i64 l, .int .i64 m, .int .i64 n, .int .i64 ii, .int .i64 t, .int .i64 u, .int .i64 b, .bool c]) ∧ Below w.heap.size w w') := HE.out ⟨a, l, m, n, ii, t, u, b, c⟩
      have hset := rowR_set es k hlt a l m n ii t u b c hek
      have HS : Hid _ := hset
      clear hset HE hek hr0 hb0
      go_wp2_with fail
      refine (HEk.out _).mono ?_
      rintro e w1 ⟨rfl, hb1⟩
      have hr1 := hr.below hb1 hr.lt
      have hB1 := hb.trans (hb1.mono hb.size)
      clear c0 c1 c2 c3 c4 c5 c6 c7 c8 hb1 HEk hr hb
      have hlr : (rowR (es.take k ++ List.replicate (es.length - k) zeroRt)).length = es.length * 9 := by rw [rowR_length]; simp; omega
      obtain ⟨z0, hz0⟩ := Row.someR hr1 (k * 9) (by omega)
      obtain ⟨z1, hz1⟩ := Row.someR hr1 (k * 9 + 1) (by omega)
      obtain ⟨z2, hz2⟩ := Row.someR hr1 (k * 9 + 2) (by omega)
      obtain ⟨z3, hz3⟩ := Row.someR hr1 (k * 9 + 3) (by omega)
      obtain ⟨z4, hz4⟩ := Row.someR hr1 (k * 9 + 4) (by omega)
      obtain ⟨z5, hz5⟩ := Row.someR hr1 (k * 9 + 5) (by omega)
      obtain ⟨z6, hz6⟩ := Row.someR hr1 (k * 9 + 6) (by omega)
      obtain ⟨z7, hz7⟩ := Row.someR hr1 (k * 9 + 7) (by omega)
      obtain ⟨z8, hz8⟩ := Row.someR hr1 (k * 9 + 8) (by omega)
      have f0 := hr1.frozen (k * 9)
      have f1 := hr1.frozen (k * 9 + 1)
      have f2 := hr1.frozen (k * 9 + 2)
      have f3 := hr1.frozen (k * 9 + 3)
      have f4 := hr1.frozen (k * 9 + 4)
      have f5 := hr1.frozen (k * 9 + 5)
      have f6 := hr1.frozen (k * 9 + 6)
      have f7 := hr1.frozen (k * 9 + 7)
      have f8 := hr1.frozen (k * 9 + 8)
      have hr2 := nine_row hr1 (k * 9) (.int .i64 a) (.int .i64 l) (.int .i64 m) (.int .i64 n) (.int .i64 ii) (.int .i64 t) (.int .i64 u) (.int .i64 b) (.bool c)
      rw [HS.out] at hr2
      have hB2 := nine_below hB1 w.heap.size (k * 9) (Nat.le_refl _) (.int .i64 a) (.int .i64 l) (.int .i64 m) (.int .i64 n) (.int .i64 ii) (.int .i64 t) (.int .i64 u) (.int .i64 b) (.bool c)
      unfold nine at hr2 hB2
      have HH : Hid _ := And.intro hr2 hB2
      clear hr1 hB1 HS hlr hr2 hB2
      go_wp2_with fail
      go_roundw
      case rel => exact ⟨k + 1, hlt, by go_num, HH.out.1, HH.out.2⟩
      case measure => simp [intOf]; omega
    · obtain rfl : k = es.length := by omega
      rw [List.take_length, Nat.sub_self, List.replicate_zero, List.append_nil] at hr
      clear hlt hk
      go_wp2
      go_ret
      exact ⟨_, rfl, Nat.le_refl _, hr, hb⟩
theorem three1 (w : World) (a0 b0 c0 : Value) (t u y : TypeId) : ∃ W, W = ((w.alloc (.cells #[a0] t)).alloc (.cells #[b0] u)).alloc (.cells #[c0] y) ∧ Row W w.heap.size t [a0] ∧ Row W (w.heap.size + 1) u [b0] ∧ Row W (w.heap.size + 1 + 1) y [c0] ∧ Below w.heap.size w W ∧ W.heap.size = w.heap.size + 1 + 1 + 1 := by
  have q0 := ((Row.new w t [a0]).alloc (.cells #[b0] u)).alloc (.cells #[c0] y)
  have q1 := (Row.new (w.alloc (.cells #[a0] t)) u [b0]).alloc (.cells #[c0] y)
  have q2 := Row.new ((w.alloc (.cells #[a0] t)).alloc (.cells #[b0] u)) y [c0]
  have e1 : (w.alloc (.cells #[a0] t)).heap.size = w.heap.size + 1 := by simp
  have e2 : ((w.alloc (.cells #[a0] t)).alloc (.cells #[b0] u)).heap.size = w.heap.size + 1 + 1 := by simp
  rw [e1] at q1
  rw [e2] at q2
  exact ⟨_, rfl, q0, q1, q2, ((ent_new0 w _).alloc (by simp) _).alloc (by simp; omega) _, by simp⟩
set_option maxRecDepth 100000 in
theorem toRib_any (x : Option Addr) (cap : Nat) (es : List Rt) (w : World) (h : ArgR w x es.length es) (hn : es.length ≤ 1048576) :
    Calls Try.prog 11 #[ribV x es.length cap] w fun e w' => ∃ g, e = .returned (ribV (some ⟨g, 0, none⟩) es.length es.length) ∧ w.heap.size ≤ g ∧ Row w' g 46 (rowR es) ∧ Below w.heap.size w w' := by
  have HE : Hid (∀ w, ArgR w x es.length es → Calls Try.prog 41 #[.slice x es.length cap] w fun e w' => ∃ g, e = .returned (.slice (some ⟨g, 0, none⟩) es.length es.length) ∧ w.heap.size ≤ g ∧ Row w' g 46 (rowR es) ∧ Below w.heap.size w w') := fun w h => toRouteS_any x cap es w h hn
  have HX : Hid (ArgR w x es.length es) := h
  clear h
  unfold ribV
  generalize es.length = N at *
  obtain ⟨W, hW, q0, q1, q2, hB, hS⟩ := three1 w (.slice x N cap) (.slice none 0 0) (.slice none 0 0) 24 30 30
  have HW : Hid _ := hW
  clear hW
  go_enter Try.func11, Try.ntmps11
  go_wp2_with fail
  rw [← HW.out]
  refine (HE.out _ (HX.out.below hB)).mono ?_
  rintro e w1 ⟨g, rfl, hg, hr, hb1⟩
  have p1 := q1.below hb1 q1.lt
  have p2 := q2.below hb1 q2.lt
  have hB1 := hB.trans (hb1.mono (by omega))
  have hg2 : w.heap.size + 1 + 1 < g := by omega
  clear q0 q1 q2 hb1 HW HX HE hB
  have b0 : w1.cell? ⟨w.heap.size + 1, 0, none⟩ = some (.slice none 0 0) := p1.cell 0
  have d0 : w1.cell? ⟨w.heap.size + 1 + 1, 0, none⟩ = some (.slice none 0 0) := p2.cell 0
  have f0 : w1.frozen? ⟨w.heap.size + 1, 0, none⟩ = false := p1.frozen 0
  have g0 : w1.frozen? ⟨w.heap.size + 1 + 1, 0, none⟩ = false := p2.frozen 0
  have hrow : Row ((w1.setCell ⟨w.heap.size + 1 + 1, 0, none⟩ (.slice (some ⟨g, 0, none⟩) N N)).setCell ⟨w.heap.size + 1, 0, none⟩ (.slice (some ⟨g, 0, none⟩) N N)) g 46 (rowR es) := (hr.other 0 _ (by omega)).other 0 _ (by omega)
  have hres : Row ((w1.setCell ⟨w.heap.size + 1 + 1, 0, none⟩ (.slice (some ⟨g, 0, none⟩) N N)).setCell ⟨w.heap.size + 1, 0, none⟩ (.slice (some ⟨g, 0, none⟩) N N)) (w.heap.size + 1) 30 [.slice (some ⟨g, 0, none⟩) N N] := (p1.other 0 _ (by omega)).set 0 _
  have hbel : Below w.heap.size w ((w1.setCell ⟨w.heap.size + 1 + 1, 0, none⟩ (.slice (some ⟨g, 0, none⟩) N N)).setCell ⟨w.heap.size + 1, 0, none⟩ (.slice (some ⟨g, 0, none⟩) N N)) := (hB1.setCell (p := ⟨w.heap.size + 1 + 1, 0, none⟩) (by show w.heap.size ≤ w.heap.size + 1 + 1; omega) _).setCell (p := ⟨w.heap.size + 1, 0, none⟩) (by show w.heap.size ≤ w.heap.size + 1; omega) _
  have HH : Hid _ := And.intro hrow (And.intro hres hbel)
  clear hrow hres hbel p1 p2 hr hB1
  go_wp2_with fail
  have HH2 := HH.out
  clear HH b0 d0 f0 g0
  generalize ((w1.setCell ⟨w.heap.size + 1 + 1, 0, none⟩ (.slice (some ⟨g, 0, none⟩) N N)).setCell ⟨w.heap.size + 1, 0, none⟩ (.slice (some ⟨g, 0, none⟩) N N)) = Z at *
  obtain ⟨h1, h2, h3⟩ := HH2
  have b0 : Z.cell? ⟨w.heap.size + 1, 0, none⟩ = some (.slice (some ⟨g, 0, none⟩) N N) := h2.cell 0
  refine bodyPost_ret (v := .agg #[.slice (some ⟨g, 0, none⟩) N N]) (by simp [results, Try.results11, go_sem, b0]) rfl ⟨g, rfl, by omega, h1, h3⟩
end Go.Proofs.Ytaledidomgelcaa
/- Routes appended to a list of the call's own; a list of routes cut. -/
namespace Go.Proofs.Ytaledidomgelcaa
open Go.RowKit Go.Sort

theorem ownsR_none {w : World} {base : Nat} {v : Value} {n : Nat} {xs : List Value} (h : w.ownsRow base 46 9 v n xs) (ty : TypeId) : (Builtin.append_ #[28, 28] ty #[v, .slice none 0 0]).run Try.prog w = .ok v w := by
  obtain ⟨i0, hi0, _, _, _⟩ := info_parts Try.infoR
  exact run_append_owned_none w base _ ty 46 i0 9 Try.underlying28 hi0 v n xs h
/-- 'append(v, x...)' of routes. -/
theorem run_append_rts (w : World) (base : Nat) (v : Value) (ls ms : List Rt) (q : Option Addr) (c : Nat) (ty : TypeId) (hown : w.ownsRow base 46 9 v ls.length (rowR ls)) (hq0 : q = none → ms = [] ∧ c = 0)
    (hq : ∀ ad, q = some ad → ∀ j u, (rowR ms)[j]? = some u → w.cell? (ad.add j) = some u) (hlen : ls.length + ms.length ≤ 1000000000) (hbase : base ≤ w.heap.size) :
    ∃ v' w', (Builtin.append_ #[28, 28] ty #[v, .slice q ms.length c]).run Try.prog w = .ok v' w' ∧ w'.ownsRow base 46 9 v' (ls ++ ms).length (rowR (ls ++ ms)) ∧ Below base w w' := by
  obtain ⟨i0, hi0, hz0, hz1, hz2⟩ := info_parts Try.infoR
  cases q with
  | none =>
    obtain ⟨rfl, rfl⟩ := hq0 rfl
    exact ⟨v, w, ownsR_none hown ty, by rw [List.append_nil]; exact hown, Below.refl _ _⟩
  | some ad =>
    obtain ⟨v', w', hr, h2, h3, _⟩ := run_append_own (P := Try.prog) w base _ ty 46 i0 _ 9 72 Try.underlying28 hi0 hz0 hz1 hz2 rfl (by decide) v ls.length (rowR ls) hown ad ms.length c (rowR ms) (by rw [rowR_length]; omega) (hq ad rfl) (rowR_one ms) (by unfold maxLen; omega) (by omega) hbase
    refine ⟨v', w', hr, ?_, (Below.refl base w).grown h3 hbase fun k hk => (World.ownsRow.lt hown k hk).1⟩
    rw [List.length_append, rowR_append]
    exact h2
theorem wpList_append_runs {P : Program} {w : World} {ops : Array Oper} {rest : List Oper} {o : Oper} {a : Act} {Q : Exit → Act → World → Prop} (hgd : o.guard = none) (s x : Operand) (t : TypeId)
    (ho : o.op = .call { callee := .builtin .append, args := #[s, x], argTypes := #[t, t] }) (vs vx : Value) (hs : a.eval s = vs) (hx : a.eval x = vx)
    {v' : Value} {w' : World} (hr : (Builtin.append_ #[t, t] o.type #[vs, vx]).run P w = .ok v' w') (h : wpList P ops Q rest (a.put o.dst v') w') : wpList P ops Q (o :: rest) a w := by
  refine wpList_plain hgd fun K hK => ?_
  unfold Oper.wp execOp
  simp only [ho, resolve, invoke, builtin, Sem.run_bind, Sem.run_pure, Result.andThen_ok, List.map_toArray, List.map_cons, List.map_nil, hs, hx, hr]
  exact hK _ _ h
theorem addR (g o j : Nat) : (⟨g, o, none⟩ : Addr).add j = ⟨g, o + j, none⟩ := by unfold Addr.add; split <;> simp_all
/-- Where the part of a list behind k begins. -/
def fromR (p : Option Addr) (cap k : Nat) : Option Addr := if cap = k then p else p.map (·.add (k * 9))
theorem sliceR_upto (p : Option Addr) (n cap k : Nat) (x : Int) (hx : x = k) (hk : k ≤ cap) (w : World) : (Instr.slice 28 (.slice p n cap) none (some (.int .i64 x)) none).run Try.prog w = .ok (.slice (fromR p cap 0) k cap) w := by
  subst hx
  have hb := run_sliceBound (P := Try.prog) w .i64 (k : Int) cap .sliceAcap (by omega) (by omega)
  unfold Instr.slice Instr.sliceBounds
  simp [Sem.run_bind, run_underlying Try.underlying28, hb, fromR]
theorem sliceR_from (p : Option Addr) (n cap k : Nat) (x : Int) (hx : x = k) (hk : k ≤ n) (w : World) : (Instr.slice 28 (.slice p n cap) (some (.int .i64 x)) none none).run Try.prog w = .ok (.slice (fromR p cap k) (n - k) (cap - k)) w := by
  subst hx
  have hb := run_sliceBound (P := Try.prog) w .i64 (k : Int) n .sliceB (by omega) (by omega)
  unfold Instr.slice Instr.sliceBounds
  simp [Sem.run_bind, run_underlying Try.underlying28, hb, fromR]
theorem fromR_none {p : Option Addr} {cap k : Nat} {rs : List Rt} (hc : p = none → cap = 0) (h : p = none → rs = []) : fromR p cap k = none → rs.drop k = [] ∧ cap - k = 0 := by
  intro e
  have hp : p = none := by
    unfold fromR at e
    split at e
    · exact e
    · simpa using e
  have := hc hp
  exact ⟨by rw [h hp]; simp, by omega⟩
theorem rtsIn_none {w : World} {p : Option Addr} {rs : List Rt} (h : RtsIn w p rs) : p = none → rs = [] := by
  rintro rfl
  rcases h with h | ⟨g, e, _⟩
  · exact h
  · cases e
theorem fromR_cells {w : World} {p : Option Addr} {cap k : Nat} {rs : List Rt} (h : RtsIn w p rs) (hl : rs.length ≤ cap) : ∀ ad, fromR p cap k = some ad → ∀ j u, (rowR (rs.drop k))[j]? = some u → w.cell? (ad.add j) = some u := by
  intro ad e j u hj
  rcases h with rfl | ⟨g, rfl, hg, hc⟩
  · simp [rowR] at hj
  · have hj9 : j < 9 * (rs.length - k) := by
      have := (List.getElem?_eq_some_iff.1 hj).1
      rw [rowR_length, List.length_drop] at this
      exact this
    unfold fromR at e
    rw [if_neg (by omega)] at e
    simp only [Option.map_some, Option.some.injEq] at e
    subst e
    have ea : ((⟨g, 0, none⟩ : Addr).add (k * 9)).add j = ⟨g, k * 9 + j, none⟩ := by rw [addR, addR, Nat.zero_add]
    rw [ea]
    refine hc _ _ ?_
    rw [← hj, ← List.take_append_drop k rs, rowR_append, List.take_append_drop, List.getElem?_append_right (by rw [rowR_length, List.length_take]; omega), rowR_length, List.length_take]
    congr 1
    omega
theorem fromR_upto {w : World} {p : Option Addr} {cap k : Nat} {rs : List Rt} (h : RtsIn w p rs) : ∀ ad, fromR p cap 0 = some ad → ∀ j u, (rowR (rs.take k))[j]? = some u → w.cell? (ad.add j) = some u := by
  intro ad e j u hj
  rcases h with rfl | ⟨g, rfl, hg, hc⟩
  · simp [rowR] at hj
  · have e' : ad = ⟨g, 0, none⟩ := by
      unfold fromR at e
      split at e
      · simpa using e.symm
      · simp only [Option.map_some, Option.some.injEq] at e
        rw [← e]; unfold Addr.add; split <;> simp_all
    subst e'
    have ea : (⟨g, 0, none⟩ : Addr).add j = ⟨g, j, none⟩ := by unfold Addr.add; split <;> simp_all
    rw [ea]
    refine hc _ _ ?_
    rw [← hj, ← List.take_append_drop k rs, rowR_append, List.take_append_drop]
    rw [List.getElem?_append_left (List.getElem?_eq_some_iff.1 hj).1]
end Go.Proofs.Ytaledidomgelcaa
/- The order of nets, as the program's sort asks for it. -/
namespace Go.Proofs.Ytaledidomgelcaa
open Go.RowKit Go.Sort

/-- What netOrder tells of two nets. -/
def cmpN (x y : Int × Int) : Int := if lessB x.1 x.2 y.1 y.2 = true then -1 else if lessB y.1 y.2 x.1 x.2 = true then 1 else 0
def pairV (x : Int × Int) : Value := .agg #[.int .i64 x.1, .int .i64 x.2]
set_option maxRecDepth 100000 in
theorem netOrder_any (a l b m : Int) (w : World) : Calls Try.prog 82 #[.agg #[.int .i64 a, .int .i64 l], .agg #[.int .i64 b, .int .i64 m]] w fun e w' => e = .returned (.int .i64 (cmpN (a, l) (b, m))) ∧ Below w.heap.size w w' := by
  have H1 : Hid (∀ w, Calls Try.prog 80 #[.agg #[.int .i64 a, .int .i64 l], .agg #[.int .i64 b, .int .i64 m]] w fun e w' => e = .returned (.bool (lessB a l b m)) ∧ Below w.heap.size w w') := implLess_any a l b m
  have H2 : Hid (∀ w, Calls Try.prog 80 #[.agg #[.int .i64 b, .int .i64 m], .agg #[.int .i64 a, .int .i64 l]] w fun e w' => e = .returned (.bool (lessB b m a l)) ∧ Below w.heap.size w w') := implLess_any b m a l
  have HC : Hid (cmpN (a, l) (b, m) = if lessB a l b m = true then -1 else if lessB b m a l = true then 1 else 0) := rfl
  generalize cmpN (a, l) (b, m) = R at *
  generalize lessB a l b m = X at *
  generalize lessB b m a l = Y at *
  go_enter Try.func82, Try.ntmps82
  go_wp2_with fail
  refine (H1.out _).mono ?_
  rintro e w1 ⟨rfl, hb1⟩
  obtain ⟨c0, c1, c2, c3, hs1, hB1⟩ := four_later hb1
  clear hb1 H1
  cases X
  · go_wp2_with fail
    refine (H2.out _).mono ?_
    rintro e w2 ⟨rfl, hb2⟩
    have hB2 := hB1.trans (hb2.mono hB1.size)
    clear c0 c1 c2 c3 hb2
    cases Y
    · have HR : Hid (R = 0) := HC.out
      clear HC
      go_wp2
      go_ret
      exact ⟨by rw [HR.out]; rfl, hB2⟩
    · have HR : Hid (R = 1) := HC.out
      clear HC
      go_wp2
      go_ret
      exact ⟨by rw [HR.out]; rfl, hB2⟩
  · have HR : Hid (R = -1) := HC.out
    clear HC
    go_wp2
    go_ret
    exact ⟨by rw [HR.out]; rfl, hB1⟩
end Go.Proofs.Ytaledidomgelcaa
/- Nets in a row of memory, and their order, in plain lists. (Written by gen_ins.py.) -/
namespace Go.Proofs.Ytaledidomgelcaa
open Go.RowKit Go.Sort

abbrev NP := Int × Int
def flatN (ds : List NP) : List Value := ds.flatMap fun x => [.int .i64 x.1, .int .i64 x.2]
theorem flatN_length (ds : List NP) : (flatN ds).length = 2 * ds.length := by
  induction ds with
  | nil => rfl
  | cons x ds ih => simp only [flatN, List.flatMap_cons, List.length_append, List.length_cons, List.length_nil] at ih ⊢; omega
theorem flatN_get (ds : List NP) (i : Nat) (hi : i < ds.length) : (flatN ds)[i * 2]? = some (.int .i64 ds[i].1) ∧ (flatN ds)[i * 2 + 1]? = some (.int .i64 ds[i].2) := by
  induction ds generalizing i with
  | nil => simp at hi
  | cons x ds ih =>
    match i with
    | 0 => exact ⟨rfl, rfl⟩
    | i + 1 =>
      have := ih i (by simpa using hi)
      have e : flatN (x :: ds) = .int .i64 x.1 :: .int .i64 x.2 :: flatN ds := rfl
      rw [e, show (i + 1) * 2 = i * 2 + 1 + 1 by omega]
      exact this
theorem flatN_set (ds : List NP) (i : Nat) (hi : i < ds.length) (y : NP) : ((flatN ds).set (i * 2) (.int .i64 y.1)).set (i * 2 + 1) (.int .i64 y.2) = flatN (ds.set i y) := by
  induction ds generalizing i with
  | nil => simp at hi
  | cons x ds ih =>
    have e : ∀ (z : NP) zs, flatN (z :: zs) = .int .i64 z.1 :: .int .i64 z.2 :: flatN zs := fun _ _ => rfl
    match i with
    | 0 => rfl
    | i + 1 =>
      rw [List.set_cons_succ, e, e, show (i + 1) * 2 = i * 2 + 1 + 1 by omega, show i * 2 + 1 + 1 + 1 = (i * 2 + 1) + 1 + 1 by omega]
      simp only [List.set_cons_succ]
      rw [ih i (by simpa using hi)]
/-- Block g begins with the nets ds. -/
def NetsAt (w : World) (g : Nat) (ds : List NP) : Prop := ∃ cur, Row w g 35 cur ∧ cur.take (2 * ds.length) = flatN ds
theorem NetsAt.lt {w : World} {g : Nat} {ds : List NP} (h : NetsAt w g ds) : g < w.heap.size := by
  obtain ⟨cur, h, _⟩ := h
  exact h.lt
theorem NetsAt.below {B : Nat} {w w' : World} {g : Nat} {ds : List NP} (h : NetsAt w g ds) (hb : Below B w w') (hg : g < B) : NetsAt w' g ds := by
  obtain ⟨cur, h, e⟩ := h
  exact ⟨cur, h.below hb hg, e⟩
theorem NetsAt.cell {w : World} {g : Nat} {ds : List NP} (h : NetsAt w g ds) (i : Nat) (hi : i < ds.length) : w.cell? ⟨g, i * 2, none⟩ = some (.int .i64 ds[i].1) ∧ w.cell? ⟨g, i * 2 + 1, none⟩ = some (.int .i64 ds[i].2) ∧ w.frozen? ⟨g, i * 2, none⟩ = false ∧ w.frozen? ⟨g, i * 2 + 1, none⟩ = false := by
  obtain ⟨cur, h, e⟩ := h
  have hk : ∀ k, k < 2 * ds.length → cur[k]? = (flatN ds)[k]? := fun k hk => by rw [← e, List.getElem?_take, if_pos hk]
  obtain ⟨h0, h1⟩ := flatN_get ds i hi
  exact ⟨by rw [h.cell, hk _ (by omega)]; exact h0, by rw [h.cell, hk _ (by omega)]; exact h1, h.frozen _, h.frozen _⟩
theorem NetsAt.set {w : World} {g : Nat} {ds : List NP} (h : NetsAt w g ds) (i : Nat) (hi : i < ds.length) (y : NP) : NetsAt ((w.setCell ⟨g, i * 2, none⟩ (.int .i64 y.1)).setCell ⟨g, i * 2 + 1, none⟩ (.int .i64 y.2)) g (ds.set i y) := by
  obtain ⟨cur, h, e⟩ := h
  refine ⟨_, (h.set (i * 2) _).set (i * 2 + 1) _, ?_⟩
  rw [List.length_set, List.take_set, List.take_set, e]
  exact flatN_set ds i hi y
/-- Two of them change places. -/
def swapN (ds : List NP) (j : Nat) : List NP := (ds.set j ds[j - 1]!).set (j - 1) ds[j]!
theorem swapN_length (ds : List NP) (j : Nat) : (swapN ds j).length = ds.length := by simp [swapN]
theorem swapN_get (ds : List NP) (j : Nat) (h0 : 0 < j) (hj : j < ds.length) (k : Nat) (hk : k < ds.length) : (swapN ds j)[k]! = if k = j then ds[j - 1]! else if k = j - 1 then ds[j]! else ds[k]! := by
  unfold swapN
  have hk' : k < ((ds.set j ds[j - 1]!).set (j - 1) ds[j]!).length := by simp; exact hk
  rw [getElem!_pos _ k hk', getElem!_pos ds k hk, List.getElem_set, List.getElem_set]
  by_cases h1 : k = j
  · subst h1
    rw [if_neg (by omega), if_pos rfl, if_pos rfl]
  · rw [if_neg h1]
    by_cases h2 : k = j - 1
    · subst h2; rw [if_pos rfl, if_pos rfl]
    · rw [if_neg (fun e => h2 e.symm), if_neg (fun e => h1 e.symm), if_neg h2]
theorem swapN_perm (ds : List NP) (j : Nat) (h0 : 0 < j) (hj : j < ds.length) : (swapN ds j).Perm ds := by
  unfold swapN
  rw [getElem!_pos ds (j - 1) (by omega), getElem!_pos ds j hj]
  exact List.set_set_perm hj (by omega)
/-- x comes ahead of y. -/
def ahead (x y : NP) : Bool := decide (cmpN x y < 0)
theorem ahead_iff (x y : NP) : ahead x y = lessB x.1 x.2 y.1 y.2 := by
  unfold ahead cmpN
  cases lessB x.1 x.2 y.1 y.2 <;> cases lessB y.1 y.2 x.1 x.2 <;> rfl
theorem ahead_asym {x y : NP} (h : ahead x y = true) : ahead y x = false := by
  rw [ahead_iff] at h ⊢
  unfold lessB at h ⊢
  simp only [Bool.and_eq_true, Bool.or_eq_true, decide_eq_true_eq, beq_iff_eq] at h
  obtain ⟨_, _, h⟩ := h
  have : (decide (y.1 < x.1) || (y.1 == x.1 && decide (y.2 < x.2))) = false := by
    rw [Bool.or_eq_false_iff, Bool.and_eq_false_iff]
    simp only [decide_eq_false_iff_not, beq_eq_false_iff_ne, ne_eq]
    omega
  rw [this]; simp
/-- In order up to k. -/
def Risen (ds : List NP) (k : Nat) : Prop := ∀ p, p + 1 < k → ahead ds[p + 1]! ds[p]! = false
/-- In order up to i, but for the one at j on its way. -/
def Going (ds : List NP) (i j : Nat) : Prop := j ≤ i ∧ (∀ p, p + 1 ≤ i → p + 1 ≠ j → ahead ds[p + 1]! ds[p]! = false) ∧ (0 < j → j < i → ahead ds[j + 1]! ds[j - 1]! = false)
theorem going_first {ds : List NP} {i : Nat} (h : Risen ds i) : Going ds i i := ⟨Nat.le_refl _, fun p hp hne => h p (by omega), fun _ h => absurd h (by omega)⟩
theorem going_end {ds : List NP} {i j : Nat} (h : Going ds i j) (he : j = 0 ∨ ahead ds[j]! ds[j - 1]! = false) : Risen ds (i + 1) := by
  intro p hp
  by_cases hpj : p + 1 = j
  · subst hpj
    rcases he with he | he
    · omega
    · simpa using he
  · exact h.2.1 p (by omega) hpj
theorem going_next {ds : List NP} {i j : Nat} (hi : i < ds.length) (h0 : 0 < j) (h : Going ds i j) (ha : ahead ds[j]! ds[j - 1]! = true) : Going (swapN ds j) i (j - 1) := by
  obtain ⟨hj, h1, h2⟩ := h
  have g := fun k (hk : k < ds.length) => swapN_get ds j h0 (by omega) k hk
  refine ⟨by omega, fun p hp hne => ?_, fun hj1 _ => ?_⟩
  · rw [g (p + 1) (by omega), g p (by omega)]
    by_cases e1 : p + 1 = j
    · rw [if_pos e1, if_neg (by omega), if_pos (by omega)]
      exact ahead_asym ha
    · rw [if_neg e1, if_neg hne]
      by_cases e2 : p = j
      · subst e2
        rw [if_pos rfl]
        exact h2 h0 (by omega)
      · rw [if_neg e2]
        by_cases e3 : p = j - 1
        · omega
        · rw [if_neg e3]
          exact h1 p hp e1
  · rw [show j - 1 + 1 = j by omega, g j (by omega), g (j - 1 - 1) (by omega), if_pos rfl, if_neg (by omega), if_neg (by omega)]
    have := h1 (j - 1 - 1) (by omega) (by omega)
    rwa [show j - 1 - 1 + 1 = j - 1 by omega] at this
end Go.Proofs.Ytaledidomgelcaa
/- A range over a map of routes: which nets have come. -/
namespace Go.Proofs.Ytaledidomgelcaa
open Go.RowKit Go.Sort

def netOfR (r : Rt) : NP := (r.a, r.l)
def bornAt (es : List MapEntry) (i : Nat) : Nat := (es[i]?.map (·.born)).getD 0
theorem bornAt_get {es : List MapEntry} {i : Nat} {e : MapEntry} (h : es[i]? = some e) : bornAt es i = e.born := by simp [bornAt, h]
theorem bornAt_inj {es : List MapEntry} (hp : (es.map (·.born)).Pairwise (· < ·)) {i j : Nat} (hi : i < es.length) (hj : j < es.length) (h : bornAt es i = bornAt es j) : i = j := by
  rw [bornAt_get (List.getElem?_eq_getElem hi), bornAt_get (List.getElem?_eq_getElem hj)] at h
  have hq := List.pairwise_iff_getElem.1 hp
  rcases Nat.lt_trichotomy i j with h' | h' | h'
  · have := hq i j (by simpa using hi) (by simpa using hj) h'
    simp only [List.getElem_map] at this
    omega
  · exact h'
  · have := hq j i (by simpa using hj) (by simpa using hi) h'
    simp only [List.getElem_map] at this
    omega
theorem nodup_bound : ∀ (n : Nat) (l : List Nat), l.Nodup → (∀ x ∈ l, x < n) → l.length ≤ n
  | 0, l, _, h => by
    cases l with
    | nil => simp
    | cons x l => exact absurd (h x (by simp)) (by omega)
  | n + 1, l, hd, h => by
    by_cases hm : n ∈ l
    · have h1 := nodup_bound n (l.erase n) (hd.erase n) (fun x hx => by
        rw [hd.mem_erase_iff] at hx
        have := h x hx.2
        omega)
      rw [List.length_erase_of_mem hm] at h1
      have : 0 < l.length := List.length_pos_of_mem hm
      omega
    · have h1 := nodup_bound n l hd (fun x hx => by
        have := h x hx
        have : x ≠ n := fun e => hm (e ▸ hx)
        omega)
      omega
/-- Block r is a range over the map in block b, which holds rs; the nets got have come. -/
def Rng (w : World) (b r : Nat) (rs : List Rt) (got : List NP) : Prop := ∃ (es : Array MapEntry) (clock : Nat) (seen : Array Nat) (ix : List Nat), w.heap[b]? = some (.map es clock) ∧ Holds es.toList rs ∧ (es.toList.map (·.born)).Pairwise (· < ·) ∧ (∀ e ∈ es.toList, e.born < clock) ∧ w.heap[r]? = some (.mapIter (some b) clock seen clock) ∧
  ix.Nodup ∧ (∀ i ∈ ix, i < rs.length) ∧ seen.toList = ix.map (bornAt es.toList) ∧ got = ix.map fun i => netOfR rs[i]!
theorem Rng.map {w : World} {b r : Nat} {rs : List Rt} {got : List NP} (h : Rng w b r rs got) : MapIs w b rs := by
  obtain ⟨es, clock, seen, ix, h1, h2, h3, h4, _⟩ := h
  exact ⟨es, clock, h1, h2, h3, h4⟩
theorem Rng.kept {w w' : World} {b r : Nat} {rs : List Rt} {got : List NP} (h : Rng w b r rs got) (hb : ∀ o, w.heap[b]? = some o → w'.heap[b]? = some o) (hr : ∀ m s c t, w.heap[r]? = some (.mapIter m s c t) → w'.heap[r]? = some (.mapIter m s c t)) : Rng w' b r rs got := by
  obtain ⟨es, clock, seen, ix, h1, h2, h3, h4, h5, h6⟩ := h
  exact ⟨es, clock, seen, ix, hb _ h1, h2, h3, h4, hr _ _ _ _ h5, h6⟩
theorem range_run {w : World} {b : Nat} {rs : List Rt} (h : MapIs w b rs) : ∃ w', (Instr.range 79 (.map (some b))).run Try.prog w = .ok (.pointer (some ⟨w.heap.size, 0, none⟩)) w' ∧ Rng w' b w.heap.size rs [] ∧ w.grownBy w' none ∧ w'.heap.size = w.heap.size + 1 := by
  have hlt := h.lt
  obtain ⟨es, clock, hb, hh, hp, hc⟩ := h
  refine ⟨w.alloc (.mapIter (some b) clock #[] clock), ?_, ⟨es, clock, #[], [], ?_, hh, hp, hc, heap_alloc_new w _, List.nodup_nil, by simp, rfl, rfl⟩, World.grownBy_alloc w _ none, by simp⟩
  · unfold Instr.range
    simp only [Sem.run_bind, run_underlying mapUnd, Result.andThen_ok, MapKept.run_getObj_map hb, Sem.run_pure]
    rfl
  · exact (Below.heap_alloc w _ b hlt).trans hb
theorem rng_next {w : World} {b r : Nat} {rs : List Rt} {got : List NP} (h : Rng w b r rs got) (hne : b ≠ r) (ty : TypeId) :
    (got.Perm (rs.map netOfR) ∧ (Instr.next (.pointer (some ⟨r, 0, none⟩)) false ty).run Try.prog w = .ok (.tuple #[.bool false]) w) ∨
    ∃ x v w', (Instr.next (.pointer (some ⟨r, 0, none⟩)) false ty).run Try.prog w = .ok (.tuple #[.bool true, netV x.1 x.2, v]) w' ∧ Rng w' b r rs (got ++ [x]) ∧ w.grownBy w' (some r) ∧ w'.heap.size = w.heap.size ∧ got.length < rs.length ∧ (Instr.entry (.pointer (some ⟨r, 0, none⟩))).run Try.prog w' = .ok (.tuple #[netV x.1 x.2, v]) w' := by
  obtain ⟨es, clock, seen, ix, hb, hh, hp, hc, hr, hnd, hix, hseen, rfl⟩ := h
  have hlen := hh.nil_iff
  have hcon : ∀ i, i < rs.length → (seen.contains (bornAt es.toList i) = true ↔ i ∈ ix) := by
    intro i hi
    rw [Array.contains_iff_mem, ← Array.mem_toList_iff, hseen, List.mem_map]
    constructor
    · rintro ⟨j, hj, e⟩
      have := bornAt_inj hp (i := j) (j := i) (by have := hix j hj; omega) (by omega) e
      rwa [this] at hj
    · intro hi'
      exact ⟨i, hi', rfl⟩
  rcases run_next_at (P := Try.prog) w ty r b clock clock seen es clock hr hb hc (Nat.le_refl _) with ⟨h0, hrun⟩ | ⟨e, he, w1, hw1, hrun⟩
  · refine .inl ⟨?_, hrun⟩
    have hall : ∀ i, i < rs.length → i ∈ ix := by
      intro i hi
      by_cases hm : i ∈ ix
      · exact hm
      · exfalso
        have hne' : seen.contains (bornAt es.toList i) = false := by
          cases hcc : seen.contains (bornAt es.toList i) with
          | false => rfl
          | true => exact absurd ((hcon i hi).1 hcc) hm
        have hmem : es.toList[i]'(by omega) ∈ (leftOf es seen).toList := by
          unfold leftOf
          rw [Array.toList_filter, List.mem_filter]
          refine ⟨List.getElem_mem _, ?_⟩
          rw [bornAt_get (List.getElem?_eq_getElem (by omega))] at hne'
          rw [hne']
          rfl
        have : (leftOf es seen).toList = [] := List.length_eq_zero_iff.1 (by simpa using h0)
        rw [this] at hmem
        cases hmem
    have hperm : ix.Perm (List.range rs.length) := (List.perm_ext_iff_of_nodup hnd List.nodup_range).2 fun i => ⟨fun hi => List.mem_range.2 (hix i hi), fun hi => hall i (List.mem_range.1 hi)⟩
    have e2 : (List.range rs.length).map (fun i => netOfR rs[i]!) = rs.map netOfR := by
      apply List.ext_getElem (by simp)
      intro i h1 h2
      simp only [List.length_map, List.length_range] at h1
      simp [h1]
    rw [← e2]
    exact hperm.map _
  · have hmem : e ∈ es.toList ∧ seen.contains e.born = false := by
      unfold leftOf at he
      rw [Array.toList_filter, List.mem_filter] at he
      exact ⟨he.1, by simpa using he.2⟩
    obtain ⟨i, hi, hei⟩ := List.mem_iff_getElem.1 hmem.1
    have hi' : i < rs.length := by omega
    have hg : es.toList[i]? = some e := by rw [List.getElem?_eq_getElem hi, hei]
    have hni : i ∉ ix := fun hm => by
      have := (hcon i hi').2 hm
      rw [bornAt_get hg, hmem.2] at this
      cases this
    obtain ⟨e', he', hk, hv⟩ := hh.get i hi'
    rw [hg] at he'
    obtain rfl : e = e' := by simpa using he'
    have hx : netOfR rs[i]! = (rs[i].a, rs[i].l) := by rw [getElem!_pos rs i hi']; rfl
    have hrl : r < w.heap.size := (Array.getElem?_eq_some_iff.1 hr).1
    have hb1 : w1.heap = w.heap := by rcases hw1 with rfl | rfl <;> rfl
    have hset : (ChangeMaps.setBlock w1 r (.mapIter (some b) clock (seen.push e.born) clock)).heap = w.heap.setIfInBounds r (.mapIter (some b) clock (seen.push e.born) clock) := by simp [ChangeMaps.setBlock, hb1]
    have hrb : (ChangeMaps.setBlock w1 r (.mapIter (some b) clock (seen.push e.born) clock)).heap[r]? = some (.mapIter (some b) clock (seen.push e.born) clock) := by rw [hset]; simp [hrl]
    have hbb : (ChangeMaps.setBlock w1 r (.mapIter (some b) clock (seen.push e.born) clock)).heap[b]? = some (.map es clock) := by rw [hset, Array.getElem?_setIfInBounds_ne hne.symm]; exact hb
    refine .inr ⟨netOfR rs[i]!, e.val, _, ?_, ⟨es, clock, seen.push e.born, ix ++ [i], hbb, hh, hp, hc, hrb, ?_, ?_, ?_, ?_⟩, ?_, ?_, ?_, ?_⟩
    · rw [hrun, hk, hx]
    · rw [List.nodup_append]
      exact ⟨hnd, by simp, fun p hpm q hq => by simp only [List.mem_singleton] at hq; exact fun e => hni (hq ▸ e ▸ hpm)⟩
    · intro j hj
      simp only [List.mem_append, List.mem_singleton] at hj
      rcases hj with hj | rfl
      · exact hix j hj
      · exact hi'
    · rw [Array.toList_push, hseen, List.map_append, List.map_cons, List.map_nil, bornAt_get hg]
    · rw [List.map_append]; rfl
    · refine ⟨?_, ?_, ?_, by rw [hset]; simp, fun k _ hk => ?_⟩
      · rcases hw1 with rfl | rfl <;> rfl
      · rcases hw1 with rfl | rfl <;> rfl
      · rcases hw1 with rfl | rfl <;> rfl
      · rw [hset, Array.getElem?_setIfInBounds_ne (by intro e; exact hk (by rw [e]))]
    · rw [hset]; simp
    · rw [List.length_map]
      have h1 := nodup_bound rs.length (ix ++ [i]) (by
        rw [List.nodup_append]
        exact ⟨hnd, by simp, fun p hpm q hq => by simp only [List.mem_singleton] at hq; exact fun e => hni (hq ▸ e ▸ hpm)⟩) (fun j hj => by
          simp only [List.mem_append, List.mem_singleton] at hj
          rcases hj with hj | rfl
          · exact hix j hj
          · exact hi')
      simp at h1
      omega
    · rw [hx, ← hk]
      exact run_entry_at _ r b clock seen es clock e hrb hbb hmem.1 (by
        have := hp
        exact this.imp (fun h => by omega))
end Go.Proofs.Ytaledidomgelcaa
/- maps.Keys of a map of routes: its iterator. -/
namespace Go.Proofs.Ytaledidomgelcaa
open Go.RowKit Go.Sort Go.Shelf
attribute [local go_sem] Oper.semAt_some

/-- How many have come. -/
def seenN (w : World) (r : Nat) : Nat := match w.heap[r]? with | some (.mapIter _ _ s _) => s.size | _ => 0
theorem Rng.seen {w : World} {b r : Nat} {rs : List Rt} {got : List NP} (h : Rng w b r rs got) : seenN w r = got.length := by
  obtain ⟨es, clock, seen, ix, _, _, _, _, hr, _, _, hs, hg⟩ := h
  unfold seenN
  rw [hr]
  show seen.size = got.length
  rw [hg, List.length_map, ← Array.length_toList, hs, List.length_map]
theorem Rng.walks {w w' : World} {b r : Nat} {rs : List Rt} {got : List NP} (h : Rng w b r rs got) (hk : KeepsWalks w w') : Rng w' b r rs got := by
  obtain ⟨es, clock, seen, ix, h1, h2, h3, h4, h5, h6⟩ := h
  exact ⟨es, clock, seen, ix, hk.same b _ h1 rfl, h2, h3, h4, hk.same r _ h5 rfl, h6⟩
theorem Rng.alloc {w : World} {b r : Nat} {rs : List Rt} {got : List NP} (h : Rng w b r rs got) (o : Obj) : Rng (w.alloc o) b r rs got := by
  obtain ⟨es, clock, seen, ix, h1, h2, h3, h4, h5, h6⟩ := h
  exact ⟨es, clock, seen, ix, (Below.heap_alloc w o b (Array.getElem?_eq_some_iff.1 h1).1).trans h1, h2, h3, h4, (Below.heap_alloc w o r (Array.getElem?_eq_some_iff.1 h5).1).trans h5, h6⟩
theorem Rng.iter {w : World} {b r : Nat} {rs : List Rt} {got : List NP} (h : Rng w b r rs got) : ∃ o : Obj, w.heap[r]? = some o ∧ o.isWalk = true := by
  obtain ⟨es, clock, seen, ix, _, _, _, _, hr, _⟩ := h
  exact ⟨_, hr, rfl⟩
set_option maxRecDepth 100000 in
set_option maxHeartbeats 1000000 in
/-- The nets come, each once, in some order; or a round says no more. -/
theorem keys1_in (F : Fence) (n : Nat) (hf : F.fn 109) (hro : F.round = none) (hn : 1 ≤ n) (l Bm b : Nat) (rs : List Rt) (J Jx : List NP → World → Prop)
    (hY : ∀ pre x W, J pre W → pre.length < rs.length → YieldAt F (n - 1) Try.prog l #[netV x.1 x.2] W fun e W' =>
      (e = .returned (.bool true) ∧ J (pre ++ [x]) W' ∧ KeepsWalks W W') ∨ (e = .returned (.bool false) ∧ Jx (pre ++ [x]) W'))
    (W : World) (hJ : AbidesFrom W.heap.size J) (hm : W.cell? ⟨Bm, 0, none⟩ = some (.map (some b))) (hM : MapIs W b rs) (h0 : J [] W) :
    CallsIn F n Try.prog 109 #[.func (.yield l) #[] #[], .pointer (some ⟨Bm, 0, none⟩)] W fun e W' => (∃ v, e = .returned v) ∧
      ((∃ xs : List NP, xs.Perm (rs.map netOfR) ∧ J xs W') ∨ (∃ pre : List NP, True ∧ Jx pre W')) := by
  obtain ⟨w0, hrun0, hrg0, hg0, hs0⟩ := range_run hM
  have hbl := hM.lt
  refine callsIn_of_wp Try.func109 rfl hf ?_ hro
  simp only [Try.ntmps109, List.size_toArray, List.length_cons, List.length_nil, Nat.reduceAdd, Nat.reduceSub, Array.replicate_succ, Array.replicate_zero, List.push_toArray, List.append_toArray, List.nil_append, List.cons_append]
  gi_wp2
  have hne : b ≠ W.heap.size := by omega
  clear hrun0
  gi_loopw [3] (fun _ wr => ∃ got : List NP, Rng wr b W.heap.size rs got ∧ J got wr) (fun _ wr => rs.length - seenN wr W.heap.size)
  case atStart => exact ⟨[], hrg0, hJ [] W w0 none h0 hg0 (fun r e => by cases e)⟩
  case round =>
    obtain ⟨got, hrg, hJs⟩ := hrel
    rcases rng_next hrg hne 0 with ⟨hP, hrun⟩ | ⟨x, v, w2, hrun, hrg2, hg2, hs2, hlt, hen⟩
    · gi_wp2
      go_end0
      exact ⟨⟨_, rfl⟩, .inl ⟨got, hP, hJs⟩⟩
    · have hJ2 : J got w2 := hJ got wr w2 (some W.heap.size) hJs hg2 (fun r e => by cases e; exact ⟨Nat.le_refl _, hrg.iter⟩)
      have hJ3 : J got (w2.alloc (.cells #[.int .i64 x.1, .int .i64 x.2] 35)) := hJ got w2 _ none hJ2 (World.grownBy_alloc w2 _ none) (fun r e => by cases e)
      have hrg3 : Rng (w2.alloc (.cells #[.int .i64 x.1, .int .i64 x.2] 35)) b W.heap.size rs (got ++ [x]) := hrg2.alloc _
      obtain ⟨fn, tmps, assign, body, hy, hR⟩ := hY got x _ hJ3 hlt
      have hold := hrg.seen
      clear hs2 hg2 hJ2 hrg2 hJ3
      obtain ⟨a, l'⟩ := x
      unfold netV at hrun hen hy
      simp only at hrun hen hy hR hrg3
      gi_wp2
      refine hR.mono ?_
      rintro e W3 (⟨rfl, hJ3, hk3⟩ | ⟨rfl, hJx3⟩)
      · have hrg4 := hrg3.walks hk3
        have hnew := hrg4.seen
        clear hrun hen hy
        gi_wp2
        go_roundw
        case rel => exact ⟨got ++ [(a, l')], hrg4, hJ3⟩
        case measure => rw [hnew, hold, List.length_append]; simp; omega
      · clear hrun hen hy
        gi_wp2
        refine bodyPost_ret (results_none rfl _ _ _) rfl ?_
        exact ⟨⟨_, rfl⟩, .inr ⟨got ++ [(a, l')], trivial, hJx3⟩⟩
end Go.Proofs.Ytaledidomgelcaa
/- slices.AppendSeq and Collect at nets, over maps.Keys. (Written by gen_appn.py.) -/
namespace Go.Proofs.Ytaledidomgelcaa
open Go.RowKit Go.Sort Go.Shelf
attribute [local go_sem] Oper.semAt_some

theorem cell_two_new (W : World) (a b : Value) (t : TypeId) : ∀ j u, [a, b][j]? = some u → (W.alloc (.cells #[a, b] t)).cell? ((⟨W.heap.size, 0, none⟩ : Addr).add j) = some u := by
  intro j u hj
  match j, hj with
  | 0, hj => cases hj; exact (Row.new W t [a, b]).cell 0
  | 1, hj => cases hj; exact (Row.new W t [a, b]).cell 1
  | j + 2, hj => simp at hj
theorem Try.infoNet : (Try.prog.info? 35).map (fun i => (i.zero, i.size, i.bytes)) = some (some (.agg #[.int .i64 0, .int .i64 0]), 2, 16) := by kernel_rfl
theorem keys_stops (F : Fence) (n : Nat) (hf : F.fn 109) (hro : F.round = none) (hn : 1 ≤ n) (Bm b : Nat) (rs : List Rt) (w : World) (hm : w.cell? ⟨Bm, 0, none⟩ = some (.map (some b))) (hM : MapIs w b rs) :
    SeqStopsK F n Try.prog 109 #[.pointer (some ⟨Bm, 0, none⟩)] (fun x : NP => #[netV x.1 x.2]) KeepsWalks (fun xs => xs.Perm (rs.map netOfR)) (fun _ => True) rs.length w := fun l J Jx W hW hJ _ hY h0 =>
  keys1_in F n hf hro hn l Bm b rs J Jx hY W hJ ((hW.cell (p := ⟨Bm, 0, none⟩) (World.block_lt_of_cell? w _ hm)).trans hm) (hM.below hW hM.lt) h0
set_option maxRecDepth 100000 in
set_option maxHeartbeats 2000000 in
theorem appendSeqN (Bm b : Nat) (rs : List Rt) (w : World) (h8 : rs.length ≤ 100) (hm : w.cell? ⟨Bm, 0, none⟩ = some (.map (some b))) (hM : MapIs w b rs) :
    Calls Try.prog 110 #[.slice none 0 0, .func (.func 109) #[] #[.pointer (some ⟨Bm, 0, none⟩)]] w fun e w' => ∃ v xs, e = .returned v ∧ xs.Perm (rs.map netOfR) ∧ w'.ownsRow w.heap.size 35 2 v xs.length (flatN xs) ∧ Below w.heap.size w w' := by
  refine (callsIn_wide (n := 9)).1 ?_
  refine callsIn_of_wp_marks Try.func110 rfl trivial ?_ rfl
  simp only [Try.ntmps110, List.size_toArray, List.length_cons, List.length_nil, Nat.reduceAdd, Nat.reduceSub, Array.replicate_succ, Array.replicate_zero, List.push_toArray, List.append_toArray, List.nil_append, List.cons_append]
  gi_wp2
  have bS := Boxed.new w 114 (.slice none 0 0)
  have hB0 : Below w.heap.size w (w.alloc (.cells #[.slice none 0 0] 114)) := ent_new0 w _
  have hm0 : (w.alloc (.cells #[.slice none 0 0] 114)).cell? ⟨Bm, 0, none⟩ = some (.map (some b)) := by rw [hB0.cell (p := ⟨Bm, 0, none⟩) (World.block_lt_of_cell? w _ hm)]; exact hm
  have hM0 := hM.below hB0 hM.lt
  have hs0 : (w.alloc (.cells #[.slice none 0 0] 114)).heap.size = w.heap.size + 1 := by simp
  obtain ⟨Z, hZ⟩ : ∃ Z, (w.alloc (.cells #[.slice none 0 0] 114)) = Z := ⟨_, rfl⟩
  rw [hZ] at bS hB0 hm0 hM0 hs0 ⊢
  clear hZ hm hM
  refine wpIn_rangeFunc_ownH rfl (by omega) (gf := 109) (lb := #[.pointer (some ⟨Bm, 0, none⟩)]) rfl trivial (enters_of Try.func109 (by kernel_rfl) rfl)
    (keys_stops Fence.wide (9 - 1) trivial rfl (by omega) Bm b rs Z hm0 hM0) walksK_t walksK_b (Below.refl _ _) (fun _ => rfl)
    (fun pre W => (∃ v, Boxed W w.heap.size 114 v ∧ W.ownsRow w.heap.size 35 2 v pre.length (flatN pre) ∧ True) ∧ Below w.heap.size w W)
    (fun _ _ _ => False)
    (OwnFrom.and (Own.from (holdsRow_own w.heap.size w.heap.size 114 35 2 (fun pre : List NP => pre.length) flatN (fun _ _ => True)) _) (ownFrom_below (Nat.le_refl _) (by omega)))
    (fun _ _ _ _ _ hs _ _ => hs)
    ⟨⟨_, bS, World.ownsRow_nil Z _ _ 2, trivial⟩, hB0⟩
    (fun x a' W => ∃ Bx, w.heap.size < Bx ∧ Row W Bx 35 [.int .i64 x.1, .int .i64 x.2] ∧ a' = { tmps := #[.slice none 0 0, .func (.func 109) #[] #[.pointer (some ⟨Bm, 0, none⟩)], .pointer (some ⟨w.heap.size, 0, none⟩), undef, .slice none 0 0, .pointer (some ⟨Bx, 0, none⟩), .func (.func 109) #[] #[.pointer (some ⟨Bm, 0, none⟩)], netV x.1 x.2, undef, undef, undef, undef, undef], defers := [] })
    (fun x a' _ X Y row hs hg hr => by
      obtain ⟨Bx, h1, h2, h3⟩ := hs
      refine ⟨Bx, h1, (hg.block Bx h2.lt (fun e => ?_)).trans h2, h3⟩
      obtain ⟨_, o, ho, hc⟩ := hr Bx e.symm
      rw [show X.heap[Bx]? = _ from h2] at ho
      cases ho
      cases hc)
    ?assign ?body ?done ?stop
  case assign =>
    rintro l pre x W K ⟨⟨v, bv, hv, -⟩, hB1⟩ hK
    obtain ⟨xa, xl⟩ := x
    unfold netV at hK ⊢
    simp only at hK ⊢
    gi_wp2
    exact hK _ _ ((KeepsOthers.alloc _ _).from _) (KeepsWalks.alloc _ _) ⟨⟨v, bv.alloc _, hv.alloc _, trivial⟩, hB1.alloc hB1.size _⟩ ⟨W.heap.size, bv.lt, Row.new W 35 [.int .i64 xa, .int .i64 xl], rfl⟩
  case body =>
    rintro l pre x a' W hl ⟨r, hr⟩ ⟨⟨v, bv, hv, -⟩, hB1⟩ ⟨Bx, hBx, hRx, rfl⟩ hlt
    obtain ⟨xa, xl⟩ := x
    unfold netV
    simp only at hRx ⊢
    have c0 := bv.cell
    have x0 : W.cell? ⟨Bx, 0, none⟩ = some (.int .i64 xa) := hRx.cell 0
    have x1 : W.cell? ⟨Bx, 1, none⟩ = some (.int .i64 xl) := hRx.cell 1
    obtain ⟨i0, hi0, hz0, hz1, hz2⟩ := info_parts Try.infoNet
    gi_wp2_with (gi_at_builtin; refine wpListIn_append_own _ rfl _ _ 114 rfl w.heap.size 35 i0 (.agg #[.int .i64 0, .int .i64 0]) 2 16 Try.underlying114 hi0 hz0 hz1 hz2 rfl (by decide) _ _ _ rfl (hv.alloc _) ⟨W.heap.size, 0, none⟩ 1 1 [.int .i64 xa, .int .i64 xl] rfl rfl (cell_two_new W _ _ _) (by simp [Value.oneCell']) (by unfold maxLen; omega) (by omega) (by have := hB1.size; simp; omega) ?_; intro v' w1 hown' hgrow _; obtain ⟨g', cap', rfl⟩ := ownsRow_succ hown'; obtain ⟨hv1, hv2, hr2, hk2, hb2⟩ := bv.appended (by decide) hv hB1.size (Nat.le_refl _) hown' hgrow; have hc1 := hv1.cell; have hf1 := hv1.frozen)
    refine ⟨hk2.from _, hk2.walks, ⟨_, hv2, ?_, trivial⟩, hB1.trans hb2⟩
    rw [List.length_append, show flatN (pre ++ [(xa, xl)]) = flatN pre ++ [.int .i64 xa, .int .i64 xl] by simp [flatN]]
    exact hr2
  case done =>
    rintro D xs W hD hS ⟨⟨v, bv, hv, -⟩, hB1⟩ hK
    have c0 := bv.cell
    gi_wp2
    refine ⟨by simp, .inl ⟨_, _, rfl, run_takeDeferred hK, ?_⟩⟩
    refine ⟨_, results_tmp rfl _ _ _, v, xs, rfl, hS, ownsRow_putObj hv _ hK rfl, ?_⟩
    exact hB1.trans (belowK_b (w := w) (Nat.le_refl _) W D _ _ (by omega) hK rfl rfl)
  case stop =>
    rintro D c pre W _ _ h _
    exact h.elim
set_option maxRecDepth 100000 in
theorem collectN (Bm b : Nat) (rs : List Rt) (w : World) (h8 : rs.length ≤ 100) (hm : w.cell? ⟨Bm, 0, none⟩ = some (.map (some b))) (hM : MapIs w b rs) :
    Calls Try.prog 107 #[.func (.func 109) #[] #[.pointer (some ⟨Bm, 0, none⟩)]] w fun e w' => ∃ v xs, e = .returned v ∧ xs.Perm (rs.map netOfR) ∧ w'.ownsRow w.heap.size 35 2 v xs.length (flatN xs) ∧ Below w.heap.size w w' := by
  have HA : Hid (Calls Try.prog 110 #[.slice none 0 0, .func (.func 109) #[] #[.pointer (some ⟨Bm, 0, none⟩)]] w fun e w' => ∃ v xs, e = .returned v ∧ xs.Perm (rs.map netOfR) ∧ w'.ownsRow w.heap.size 35 2 v xs.length (flatN xs) ∧ Below w.heap.size w w') := appendSeqN Bm b rs w h8 hm hM
  clear hm hM
  go_enter Try.func107, Try.ntmps107
  go_wp2_with fail
  refine (HA.out).mono ?_
  rintro e w1 ⟨v, xs, rfl, h1, h2, h3⟩
  go_wp2
  go_ret
  exact ⟨v, xs, rfl, h1, h2, h3⟩
end Go.Proofs.Ytaledidomgelcaa
/- math/bits.Len at numbers of at most twelve: it answers. (Written by gen_bits.py.) -/
namespace Go.Proofs.Ytaledidomgelcaa
open Go.RowKit

set_option maxRecDepth 100000 in
theorem len64_0 (w : World) : Calls Try.prog 122 #[.int .u64 0] w fun e w' => ∃ r, e = .returned (.int .i64 r) ∧ w = w' := by
  go_enter Try.func122, Try.ntmps122
  go_wp2
  go_ret
  exact ⟨_, rfl, rfl⟩
set_option maxRecDepth 100000 in
theorem len64_1 (w : World) : Calls Try.prog 122 #[.int .u64 1] w fun e w' => ∃ r, e = .returned (.int .i64 r) ∧ w = w' := by
  go_enter Try.func122, Try.ntmps122
  go_wp2
  go_ret
  exact ⟨_, rfl, rfl⟩
set_option maxRecDepth 100000 in
theorem len64_2 (w : World) : Calls Try.prog 122 #[.int .u64 2] w fun e w' => ∃ r, e = .returned (.int .i64 r) ∧ w = w' := by
  go_enter Try.func122, Try.ntmps122
  go_wp2
  go_ret
  exact ⟨_, rfl, rfl⟩
set_option maxRecDepth 100000 in
theorem len64_3 (w : World) : Calls Try.prog 122 #[.int .u64 3] w fun e w' => ∃ r, e = .returned (.int .i64 r) ∧ w = w' := by
  go_enter Try.func122, Try.ntmps122
  go_wp2
  go_ret
  exact ⟨_, rfl, rfl⟩
set_option maxRecDepth 100000 in
theorem len64_4 (w : World) : Calls Try.prog 122 #[.int .u64 4] w fun e w' => ∃ r, e = .returned (.int .i64 r) ∧ w = w' := by
  go_enter Try.func122, Try.ntmps122
  go_wp2
  go_ret
  exact ⟨_, rfl, rfl⟩
set_option maxRecDepth 100000 in
theorem len64_5 (w : World) : Calls Try.prog 122 #[.int .u64 5] w fun e w' => ∃ r, e = .returned (.int .i64 r) ∧ w = w' := by
  go_enter Try.func122, Try.ntmps122
  go_wp2
  go_ret
  exact ⟨_, rfl, rfl⟩
set_option maxRecDepth 100000 in
theorem len64_6 (w : World) : Calls Try.prog 122 #[.int .u64 6] w fun e w' => ∃ r, e = .returned (.int .i64 r) ∧ w = w' := by
  go_enter Try.func122, Try.ntmps122
  go_wp2
  go_ret
  exact ⟨_, rfl, rfl⟩
set_option maxRecDepth 100000 in
theorem len64_7 (w : World) : Calls Try.prog 122 #[.int .u64 7] w fun e w' => ∃ r, e = .returned (.int .i64 r) ∧ w = w' := by
  go_enter Try.func122, Try.ntmps122
  go_wp2
  go_ret
  exact ⟨_, rfl, rfl⟩
set_option maxRecDepth 100000 in
theorem len64_8 (w : World) : Calls Try.prog 122 #[.int .u64 8] w fun e w' => ∃ r, e = .returned (.int .i64 r) ∧ w = w' := by
  go_enter Try.func122, Try.ntmps122
  go_wp2
  go_ret
  exact ⟨_, rfl, rfl⟩
set_option maxRecDepth 100000 in
theorem len64_9 (w : World) : Calls Try.prog 122 #[.int .u64 9] w fun e w' => ∃ r, e = .returned (.int .i64 r) ∧ w = w' := by
  go_enter Try.func122, Try.ntmps122
  go_wp2
  go_ret
  exact ⟨_, rfl, rfl⟩
set_option maxRecDepth 100000 in
theorem len64_10 (w : World) : Calls Try.prog 122 #[.int .u64 10] w fun e w' => ∃ r, e = .returned (.int .i64 r) ∧ w = w' := by
  go_enter Try.func122, Try.ntmps122
  go_wp2
  go_ret
  exact ⟨_, rfl, rfl⟩
set_option maxRecDepth 100000 in
theorem len64_11 (w : World) : Calls Try.prog 122 #[.int .u64 11] w fun e w' => ∃ r, e = .returned (.int .i64 r) ∧ w = w' := by
  go_enter Try.func122, Try.ntmps122
  go_wp2
  go_ret
  exact ⟨_, rfl, rfl⟩
set_option maxRecDepth 100000 in
theorem len64_12 (w : World) : Calls Try.prog 122 #[.int .u64 12] w fun e w' => ∃ r, e = .returned (.int .i64 r) ∧ w = w' := by
  go_enter Try.func122, Try.ntmps122
  go_wp2
  go_ret
  exact ⟨_, rfl, rfl⟩
theorem len64_small (n : Nat) (h : n ≤ 12) (w : World) : Calls Try.prog 122 #[.int .u64 (n : Int)] w fun e w' => ∃ r, e = .returned (.int .i64 r) ∧ w = w' := by
  match n, h with
  | 0, _ => exact len64_0 w
  | 1, _ => exact len64_1 w
  | 2, _ => exact len64_2 w
  | 3, _ => exact len64_3 w
  | 4, _ => exact len64_4 w
  | 5, _ => exact len64_5 w
  | 6, _ => exact len64_6 w
  | 7, _ => exact len64_7 w
  | 8, _ => exact len64_8 w
  | 9, _ => exact len64_9 w
  | 10, _ => exact len64_10 w
  | 11, _ => exact len64_11 w
  | 12, _ => exact len64_12 w
  | k + 13, h => exact absurd h (by omega)
set_option maxRecDepth 100000 in
theorem bitsLen_small (n : Nat) (h : n ≤ 12) (w : World) : Calls Try.prog 112 #[.int .u64 (n : Int)] w fun e w' => ∃ r, e = .returned (.int .i64 r) ∧ w = w' := by
  have HL : Hid (∀ w, Calls Try.prog 122 #[.int .u64 (n : Int)] w fun e w' => ∃ r, e = .returned (.int .i64 r) ∧ w = w') := fun w => len64_small n h w
  go_enter Try.func112, Try.ntmps112
  go_wp2_with fail
  refine (HL.out _).mono ?_
  rintro e w1 ⟨r, rfl, rfl⟩
  go_wp2
  go_ret
  exact ⟨r, rfl, rfl⟩
end Go.Proofs.Ytaledidomgelcaa
/- slices.SortFunc at a few nets. (Written by gen_ins.py.) -/
namespace Go.Proofs.Ytaledidomgelcaa
open Go.RowKit Go.Sort

/-- All blocks of w but g lie in w' as they lay. -/
def But (g : Nat) (w w' : World) : Prop := ∀ B w0, Below B w0 w → B ≤ g → Below B w0 w'
theorem But.refl (g : Nat) (w : World) : But g w w := fun _ _ h _ => h
theorem But.trans {g : Nat} {w w1 w2 : World} (h : But g w w1) (k : But g w1 w2) : But g w w2 := fun B w0 hb hB => k B w0 (h B w0 hb hB) hB
theorem But.of_below {g : Nat} {w w' : World} (hg : g < w.heap.size) (h : Below w.heap.size w w') : But g w w' := fun B w0 hb hB => hb.trans (h.mono (by omega))
theorem But.set {g : Nat} {w w1 : World} (h : But g w w1) (k : Nat) (v : Value) : But g w (w1.setCell ⟨g, k, none⟩ v) := fun B w0 hb hB => (h B w0 hb hB).setCell (p := ⟨g, k, none⟩) hB v
/-- The state of the sort: a list in the place of ds, in order up to k. -/
def InsSt (g : Nat) (ds : List NP) (w : World) (k : Nat) (wr : World) : Prop := ∃ cur : List NP, NetsAt wr g cur ∧ cur.Perm ds ∧ Risen cur k ∧ But g w wr
set_option maxRecDepth 100000 in
set_option maxHeartbeats 2000000 in
theorem insertion_any (g cap : Nat) (ds : List NP) (w : World) (h12 : ds.length ≤ 12) (h : NetsAt w g ds) :
    Calls Try.prog 113 #[.slice (some ⟨g, 0, none⟩) ds.length cap, .int .i64 0, .int .i64 (ds.length : Int), .func (.func 82) #[] #[]] w fun e w' => e = .returned (.tuple #[]) ∧ InsSt g ds w ds.length w' := by
  have HO : Hid (∀ a l b m w, Calls Try.prog 82 #[.agg #[.int .i64 a, .int .i64 l], .agg #[.int .i64 b, .int .i64 m]] w fun e w' => e = .returned (.int .i64 (cmpN (a, l) (b, m))) ∧ Below w.heap.size w w') := netOrder_any
  have HX : Hid (NetsAt w g ds) := h
  clear h
  go_enter Try.func113, Try.ntmps113
  go_wp2_with fail
  go_loopw [8] (fun i wr => ∃ k : Nat, 1 ≤ k ∧ i = .int .i64 k ∧ (k ≤ ds.length ∨ k = 1) ∧ InsSt g ds w k wr) (fun i _ => ds.length + 1 - (intOf i).toNat)
  case atStart => exact ⟨1, Nat.le_refl _, rfl, .inr rfl, ds, HX.out, List.Perm.refl _, fun p hp => absurd hp (by omega), But.refl _ _⟩
  case round =>
    obtain ⟨k, hk1, rfl, hkl, cur, hN, hP, hR, hBt⟩ := hrel
    have hlen : cur.length = ds.length := hP.length_eq
    by_cases hlt : k < ds.length
    · have d1 : decide ((k : Int) < (ds.length : Int)) = true := by simpa using hlt
      have HC : Hid (NetsAt wr g cur ∧ cur.Perm ds ∧ Going cur k k ∧ But g w wr) := ⟨hN, hP, going_first hR, hBt⟩
      clear hN hP hR hBt
      go_wp2_with fail
      go_loopw [9] (fun i wr => ∃ j : Nat, j ≤ k ∧ i = .int .i64 j ∧ ∃ cur : List NP, NetsAt wr g cur ∧ cur.Perm ds ∧ Going cur k j ∧ But g w wr) (fun i _ => (intOf i).toNat)
      case atStart => exact ⟨k, Nat.le_refl _, rfl, cur, HC.out⟩
      case round =>
        clear HC
        obtain ⟨j, hj, rfl, cur, hN, hP, hG, hBt⟩ := hrel
        have hlen : cur.length = ds.length := hP.length_eq
        by_cases hz : j = 0
        · have HE : Hid (Risen cur (k + 1)) := going_end hG (.inl hz)
          have z0 : decide (0 < j) = false := by simp; omega
          have z1 : decide (0 < (j : Int)) = false := by simp; omega
          have HN : Hid (NetsAt wr g cur ∧ cur.Perm ds ∧ But g w wr) := ⟨hN, hP, hBt⟩
          clear hN hP hG hBt hz HO
          go_wp2_with fail
          refine wp_region_quiet_below (by kernel_rfl) (by kernel_rfl) ?_
          repeat (go_big_quiet_step (fail))
          refine wpQuiet_nil ?_
          intro w1 hw'
          obtain ⟨⟨dq, osq⟩, hw''⟩ := hw'
          have hbq := below_regrown wr dq osq
          rw [← hw''] at hbq
          clear hw'' osq dq
          obtain ⟨hN, hP, hBt⟩ := HN.out
          have HS : Hid (InsSt g ds w (k + 1) w1) := ⟨cur, hN.below hbq hN.lt, hP, HE.out, hBt.trans (But.of_below hN.lt hbq)⟩
          clear hN hP hBt HN hbq HE
          go_wp2
          go_roundw
          case rel => exact ⟨k + 1, by omega, by go_num, .inl hlt, HS.out⟩
          case measure => simp [intOf]; omega
        · obtain ⟨c0, c1, f0, f1⟩ := hN.cell j (by omega)
          obtain ⟨e0, e1, g0, g1⟩ := hN.cell (j - 1) (by omega)
          have HB : Hid (cur[j]! = cur[j]'(by omega) ∧ cur[j - 1]! = cur[j - 1]'(by omega)) := ⟨getElem!_pos _ _ _, getElem!_pos _ _ _⟩
          generalize hX : cur[j]'(by omega) = X at *
          generalize hY : cur[j - 1]'(by omega) = Y at *
          obtain ⟨a, l⟩ := X
          obtain ⟨b, m⟩ := Y
          simp only at c0 c1 e0 e1
          have HOk : Hid (∀ w, Calls Try.prog 82 #[.agg #[.int .i64 a, .int .i64 l], .agg #[.int .i64 b, .int .i64 m]] w fun e w' => e = .returned (.int .i64 (cmpN (a, l) (b, m))) ∧ Below w.heap.size w w') := HO.out a l b m
          have HA : Hid (ahead cur[j]! cur[j - 1]! = decide (cmpN (a, l) (b, m) < 0)) := by show _ = _; rw [HB.out.1, HB.out.2]; rfl
          have z0 : decide (0 < j) = true := by simp; omega
          have z1 : decide (0 < (j : Int)) = true := by simp; omega
          have z2 : IntKind.i64.wrap ((j : Int) - 1) = ((j - 1 : Nat) : Int) := by rw [wrap_i64_in _ (by omega) (by omega)]; omega
          have z3 : (j : Int) - 1 = ((j - 1 : Nat) : Int) := by omega
          have z4 : decide (((j - 1 : Nat) : Int) < (ds.length : Int)) = true := by simp; omega
          have z5 : j - 1 < ds.length := by omega
          have z6 : j < ds.length := by omega
          have z7 : decide ((j : Int) < (ds.length : Int)) = true := by simp; omega
          have hj0 : 0 < j := by omega
          have HN : Hid (NetsAt wr g cur ∧ cur.Perm ds ∧ Going cur k j ∧ But g w wr) := ⟨hN, hP, hG, hBt⟩
          clear hN hP hG hBt hX hY HO
          generalize cmpN (a, l) (b, m) = C at *
          replace c0 := cell_regrown c0
          replace c1 := cell_regrown c1
          replace e0 := cell_regrown e0
          replace e1 := cell_regrown e1
          go_wp2_with fail
          refine wp_region_quiet_below (by kernel_rfl) (by kernel_rfl) ?_
          repeat (go_big_quiet_step ((go_at_call 82; exact Calls.regrown_of (HOk.out _))))
          refine wpQuiet_nil ?_
          intro w1 hw'
          obtain ⟨⟨dq, osq⟩, hw''⟩ := hw'
          have hbq := below_regrown wr dq osq
          rw [← hw''] at hbq
          clear hw'' osq dq c0 c1 e0 e1 f0 f1 g0 g1 HOk
          obtain ⟨hN, hP, hG, hBt⟩ := HN.out
          have hN1 := hN.below hbq hN.lt
          have hB1 := hBt.trans (But.of_below hN.lt hbq)
          clear hN hBt hbq HN
          by_cases hC : C < 0
          · have dC : decide (C < 0) = true := decide_eq_true hC
            obtain ⟨c0, c1, f0, f1⟩ := hN1.cell j (by omega)
            obtain ⟨e0, e1, g0, g1⟩ := hN1.cell (j - 1) (by omega)
            have hbp := HB.out
            rw [getElem!_pos cur j (by omega), getElem!_pos cur (j - 1) (by omega)] at hbp
            rw [hbp.1] at c0 c1
            rw [hbp.2] at e0 e1
            have ho1 : ¬ j * 2 = (j - 1) * 2 := by omega
            have ho2 : ¬ j * 2 + 1 = (j - 1) * 2 := by omega
            have ho3 : ¬ j * 2 = (j - 1) * 2 + 1 := by omega
            have ho4 : ¬ j * 2 + 1 = (j - 1) * 2 + 1 := by omega
            have ho5 : ¬ (j - 1) * 2 = j * 2 := by omega
            have ho6 : ¬ (j - 1) * 2 = j * 2 + 1 := by omega
            have ho7 : ¬ (j - 1) * 2 + 1 = j * 2 := by omega
            have ho8 : ¬ (j - 1) * 2 + 1 = j * 2 + 1 := by omega
            have HS : Hid (NetsAt w1 g cur ∧ cur.Perm ds ∧ Going cur k j ∧ But g w w1 ∧ ahead cur[j]! cur[j - 1]! = true) := ⟨hN1, hP, hG, hB1, by rw [HA.out]; exact dC⟩
            clear hN1 hP hB1 hG HA hbp
            go_wp2_with fail
            go_region
            have hsw : swapN cur j = (cur.set j (b, m)).set (j - 1) (a, l) := by unfold swapN; rw [HB.out.1, HB.out.2]
            obtain ⟨hN, hP, hG, hB, hA⟩ := HS.out
            have hZ : NetsAt ((((w1.setCell ⟨g, j * 2, none⟩ (.int .i64 b)).setCell ⟨g, j * 2 + 1, none⟩ (.int .i64 m)).setCell ⟨g, (j - 1) * 2, none⟩ (.int .i64 a)).setCell ⟨g, (j - 1) * 2 + 1, none⟩ (.int .i64 l)).drew g (swapN cur j) := by
              rw [hsw]
              exact (hN.set j (by omega) (b, m)).set (j - 1) (by rw [List.length_set]; omega) (a, l)
            have hBZ : But g w ((((w1.setCell ⟨g, j * 2, none⟩ (.int .i64 b)).setCell ⟨g, j * 2 + 1, none⟩ (.int .i64 m)).setCell ⟨g, (j - 1) * 2, none⟩ (.int .i64 a)).setCell ⟨g, (j - 1) * 2 + 1, none⟩ (.int .i64 l)).drew := fun B w0 hb hBg => (((((hB.set _ _).set _ _).set _ _).set _ _) B w0 hb hBg).drew
            have HF : Hid (NetsAt _ g (swapN cur j) ∧ (swapN cur j).Perm ds ∧ Going (swapN cur j) k (j - 1) ∧ But g w _) := ⟨hZ, (swapN_perm cur j hj0 (by omega)).trans hP, going_next (by omega) hj0 hG hA, hBZ⟩
            clear hZ hBZ hsw hN hP hG hB hA HS HB c0 c1 e0 e1 f0 f1 g0 g1 ho1 ho2 ho3 ho4 ho5 ho6 ho7 ho8
            generalize ((((w1.setCell ⟨g, j * 2, none⟩ (.int .i64 b)).setCell ⟨g, j * 2 + 1, none⟩ (.int .i64 m)).setCell ⟨g, (j - 1) * 2, none⟩ (.int .i64 a)).setCell ⟨g, (j - 1) * 2 + 1, none⟩ (.int .i64 l)).drew = Z at *
            go_wp2
            go_roundw
            case rel => exact ⟨j - 1, by omega, by first | rfl | go_num, _, HF.out⟩
            case measure => simp [intOf]; omega
          · have dC : decide (C < 0) = false := decide_eq_false hC
            have HS : Hid (InsSt g ds w (k + 1) w1) := ⟨cur, hN1, hP, going_end hG (.inr (by rw [HA.out]; exact dC)), hB1⟩
            clear hN1 hP hB1 hG HA HB
            go_wp2
            go_roundw
            case rel => exact ⟨k + 1, by omega, by go_num, .inl hlt, HS.out⟩
            case measure => simp [intOf]; omega
    · have d1 : decide ((k : Int) < (ds.length : Int)) = false := by simpa using hlt
      have HS : Hid (InsSt g ds w ds.length wr) := ⟨cur, hN, hP, fun p hp => hR p (by omega), hBt⟩
      clear hN hP hR hBt HO HX
      go_wp2
      refine bodyPost_end (v := .tuple #[]) (by simp [results, Try.results113, go_sem]) rfl ⟨rfl, HS.out⟩
set_option maxRecDepth 100000 in
set_option maxHeartbeats 1000000 in
theorem pdq_any (g cap : Nat) (ds : List NP) (r : Int) (w : World) (h12 : ds.length ≤ 12) (h : NetsAt w g ds) :
    Calls Try.prog 111 #[.slice (some ⟨g, 0, none⟩) ds.length cap, .int .i64 0, .int .i64 (ds.length : Int), .int .i64 r, .func (.func 82) #[] #[]] w fun e w' => e = .returned (.tuple #[]) ∧ InsSt g ds w ds.length w' := by
  have HI : Hid (Calls Try.prog 113 #[.slice (some ⟨g, 0, none⟩) ds.length cap, .int .i64 0, .int .i64 (ds.length : Int), .func (.func 82) #[] #[]] w fun e w' => e = .returned (.tuple #[]) ∧ InsSt g ds w ds.length w') := insertion_any g cap ds w h12 h
  have d1 : decide ((ds.length : Int) ≤ 12) = true := by simp; omega
  clear h
  go_enter Try.func111, Try.ntmps111
  go_wp2_with fail
  refine wp_loop_once ?_
  go_wp2_with fail
  refine (HI.out).mono ?_
  rintro e w1 ⟨rfl, h1⟩
  have HS : Hid _ := h1
  clear h1 HI
  go_wp2
  refine bodyPost_ret (v := .tuple #[]) (by simp [results, Try.results111, go_sem]) rfl ⟨rfl, HS.out⟩
set_option maxRecDepth 100000 in
set_option maxHeartbeats 1000000 in
/-- slices.SortFunc of a few nets by netOrder. -/
theorem sortFunc_any (g cap : Nat) (ds : List NP) (w : World) (h12 : ds.length ≤ 12) (h : NetsAt w g ds) :
    Calls Try.prog 108 #[.slice (some ⟨g, 0, none⟩) ds.length cap, .func (.func 82) #[] #[]] w fun e w' => e = .returned (.tuple #[]) ∧ InsSt g ds w ds.length w' := by
  have HP : Hid (∀ r, Calls Try.prog 111 #[.slice (some ⟨g, 0, none⟩) ds.length cap, .int .i64 0, .int .i64 (ds.length : Int), .int .i64 r, .func (.func 82) #[] #[]] w fun e w' => e = .returned (.tuple #[]) ∧ InsSt g ds w ds.length w') := fun r => pdq_any g cap ds r w h12 h
  have HL : Hid (Calls Try.prog 112 #[.int .u64 (ds.length : Int)] w fun e w' => ∃ r, e = .returned (.int .i64 r) ∧ w = w') := bitsLen_small ds.length h12 w
  clear h
  go_enter Try.func108, Try.ntmps108
  go_wp2_with fail
  refine (HL.out).mono ?_
  rintro e w1 ⟨r, rfl, rfl⟩
  go_wp2_with fail
  refine (HP.out r).mono ?_
  rintro e w1 ⟨rfl, h1⟩
  have HS : Hid _ := h1
  clear h1 HP HL
  go_wp2
  refine bodyPost_end (v := .tuple #[]) (by simp [results, Try.results108, go_sem]) rfl ⟨rfl, HS.out⟩
end Go.Proofs.Ytaledidomgelcaa
/- slices.SortedFunc of the nets of a map. (Written by gen_sorted.py.) -/
namespace Go.Proofs.Ytaledidomgelcaa
open Go.RowKit Go.Sort

set_option maxRecDepth 100000 in
theorem insertion_nil (w : World) : Calls Try.prog 113 #[.slice none 0 0, .int .i64 0, .int .i64 0, .func (.func 82) #[] #[]] w fun e w' => e = .returned (.tuple #[]) ∧ w = w' := by
  go_enter Try.func113, Try.ntmps113
  go_wp2_with fail
  refine wp_loop_once ?_
  go_wp2
  refine bodyPost_end (v := .tuple #[]) (by simp [results, Try.results113, go_sem]) rfl ⟨rfl, rfl⟩
set_option maxRecDepth 100000 in
theorem pdq_nil (r : Int) (w : World) : Calls Try.prog 111 #[.slice none 0 0, .int .i64 0, .int .i64 0, .int .i64 r, .func (.func 82) #[] #[]] w fun e w' => e = .returned (.tuple #[]) ∧ w = w' := by
  have HI : Hid (Calls Try.prog 113 #[.slice none 0 0, .int .i64 0, .int .i64 0, .func (.func 82) #[] #[]] w fun e w' => e = .returned (.tuple #[]) ∧ w = w') := insertion_nil w
  go_enter Try.func111, Try.ntmps111
  go_wp2_with fail
  refine wp_loop_once ?_
  go_wp2_with fail
  refine (HI.out).mono ?_
  rintro e w1 ⟨rfl, rfl⟩
  clear HI
  go_wp2
  refine bodyPost_ret (v := .tuple #[]) (by simp [results, Try.results111, go_sem]) rfl ⟨rfl, rfl⟩
set_option maxRecDepth 100000 in
theorem sortFunc_nil (w : World) : Calls Try.prog 108 #[.slice none 0 0, .func (.func 82) #[] #[]] w fun e w' => e = .returned (.tuple #[]) ∧ w = w' := by
  have HP : Hid (∀ r, Calls Try.prog 111 #[.slice none 0 0, .int .i64 0, .int .i64 0, .int .i64 r, .func (.func 82) #[] #[]] w fun e w' => e = .returned (.tuple #[]) ∧ w = w') := fun r => pdq_nil r w
  have HL : Hid (Calls Try.prog 112 #[.int .u64 0] w fun e w' => ∃ r, e = .returned (.int .i64 r) ∧ w = w') := bitsLen_small 0 (by omega) w
  go_enter Try.func108, Try.ntmps108
  go_wp2_with fail
  refine (HL.out).mono ?_
  rintro e w1 ⟨r, rfl, rfl⟩
  go_wp2_with fail
  refine (HP.out r).mono ?_
  rintro e w1 ⟨rfl, rfl⟩
  clear HP HL
  go_wp2
  refine bodyPost_end (v := .tuple #[]) (by simp [results, Try.results108, go_sem]) rfl ⟨rfl, rfl⟩
/-- The slice v holds the nets xs, in memory laid since block B. -/
def HoldsN (w : World) (B : Nat) (v : Value) (xs : List NP) : Prop := (xs = [] ∧ v = .slice none 0 0) ∨ ∃ g cap, v = .slice (some ⟨g, 0, none⟩) xs.length cap ∧ NetsAt w g xs ∧ B ≤ g
theorem holdsN_row {w : World} {B : Nat} {v : Value} {xs : List NP} (h : w.ownsRow B 35 2 v xs.length (flatN xs)) : HoldsN w B v xs := by
  rcases h.2 with ⟨rfl, h0⟩ | ⟨g, cap, cur, rfl, hb, hg, hnc, hcm, hcs, htake⟩
  · exact .inl ⟨List.length_eq_zero_iff.1 h0, rfl⟩
  · refine .inr ⟨g, cap, rfl, ⟨cur.toList, ?_, ?_⟩, hb⟩
    · show w.heap[g]? = _
      rw [hg]
    · rw [Nat.mul_comm]; exact htake
set_option maxRecDepth 100000 in
set_option maxHeartbeats 1000000 in
theorem sortedN (Bm b : Nat) (rs : List Rt) (w : World) (h8 : rs.length ≤ 12) (hm : w.cell? ⟨Bm, 0, none⟩ = some (.map (some b))) (hM : MapIs w b rs) :
    Calls Try.prog 92 #[.func (.func 109) #[] #[.pointer (some ⟨Bm, 0, none⟩)], .func (.func 82) #[] #[]] w fun e w' => ∃ v xs, e = .returned v ∧ xs.Perm (rs.map netOfR) ∧ Risen xs xs.length ∧ HoldsN w' w.heap.size v xs ∧ Below w.heap.size w w' := by
  have HA : Hid (Calls Try.prog 107 #[.func (.func 109) #[] #[.pointer (some ⟨Bm, 0, none⟩)]] w fun e w' => ∃ v xs, e = .returned v ∧ xs.Perm (rs.map netOfR) ∧ w'.ownsRow w.heap.size 35 2 v xs.length (flatN xs) ∧ Below w.heap.size w w') := collectN Bm b rs w (by omega) hm hM
  clear hm hM
  go_enter Try.func92, Try.ntmps92
  go_wp2_with fail
  refine (HA.out).mono ?_
  rintro e w1 ⟨v, xs, rfl, h1, h2, h3⟩
  have hl : xs.length ≤ 12 := by rw [h1.length_eq, List.length_map]; exact h8
  rcases holdsN_row h2 with ⟨rfl, rfl⟩ | ⟨g, cap, rfl, hN, hg⟩
  · have HS : Hid (Calls Try.prog 108 #[.slice none 0 0, .func (.func 82) #[] #[]] w1 fun e w' => e = .returned (.tuple #[]) ∧ w1 = w') := sortFunc_nil w1
    clear h2 HA
    go_wp2_with fail
    refine (HS.out).mono ?_
    rintro e w2 ⟨rfl, rfl⟩
    clear HS
    go_wp2
    go_ret
    exact ⟨_, [], rfl, h1, fun p hp => absurd hp (by simp), .inl ⟨rfl, rfl⟩, h3⟩
  · have HS : Hid (Calls Try.prog 108 #[.slice (some ⟨g, 0, none⟩) xs.length cap, .func (.func 82) #[] #[]] w1 fun e w' => e = .returned (.tuple #[]) ∧ InsSt g xs w1 xs.length w') := sortFunc_any g cap xs w1 hl hN
    clear h2 HA hN
    have HX : Hid _ := And.intro h1 (And.intro h3 hg)
    clear h1 h3 hg
    go_wp2_with fail
    refine (HS.out).mono ?_
    rintro e w2 ⟨rfl, cur, hN, hP, hR, hBt⟩
    have HLn : Hid (cur.length = xs.length) := hP.length_eq
    have HY : Hid _ := And.intro hN (And.intro hP (And.intro hR hBt))
    clear hN hP hR hBt HS
    go_wp2
    go_ret
    obtain ⟨hN, hP, hR, hBt⟩ := HY.out
    obtain ⟨h1, h3, hg⟩ := HX.out
    exact ⟨_, cur, rfl, hP.trans h1, by rw [HLn.out]; exact hR, .inr ⟨g, cap, by rw [HLn.out]; rfl, hN, hg⟩, hBt _ _ h3 hg⟩
def ltN (x y : NP) : Prop := x.1 < y.1 ∨ (x.1 = y.1 ∧ x.2 < y.2)
/-- The nets of a right table, in whatever order they came, sorted: they stand as in the table. -/
theorem risen_nets {rs : List Rt} (hr : ribB rs = true) {xs : List NP} (hp : xs.Perm (rs.map netOfR)) (hx : Risen xs xs.length) : xs = rs.map netOfR := by
  have hpw : (rs.map netOfR).Pairwise ltN := by
    rw [List.pairwise_map]
    exact (rib_rising hr).imp fun h => h
  have hright : ∀ x ∈ xs, rightB x.1 x.2 = true := by
    intro x hm
    obtain ⟨r, hrm, rfl⟩ := List.mem_map.1 (hp.mem_iff.1 hm)
    obtain ⟨j, hj, rfl⟩ := List.mem_iff_getElem.1 hrm
    have := okAt_route ((ribB_spec hr).2 j hj)
    rw [get_bang hj] at this
    exact routeB_right this
  have hnd : xs.Nodup := (hp.nodup_iff).2 (hpw.imp fun h e => by subst e; unfold ltN at h; omega)
  have step : ∀ p (h : p + 1 < xs.length), ltN (xs[p]'(by omega)) xs[p + 1] := by
    intro p h
    have h1 := hx p h
    rw [getElem!_pos xs (p + 1) h, getElem!_pos xs p (by omega), ahead_iff] at h1
    unfold lessB at h1
    rw [hright _ (List.getElem_mem _), hright _ (List.getElem_mem _)] at h1
    have hne : xs[p]'(by omega) ≠ xs[p + 1] := (List.pairwise_iff_getElem.1 hnd) p (p + 1) (by omega) h (by omega)
    have hne' : ¬ ((xs[p]'(by omega)).1 = xs[p + 1].1 ∧ (xs[p]'(by omega)).2 = xs[p + 1].2) := fun h => hne (Prod.ext h.1 h.2)
    simp only [Bool.true_and, Bool.or_eq_false_iff, Bool.and_eq_false_iff, decide_eq_false_iff_not, beq_eq_false_iff_ne, ne_eq] at h1
    unfold ltN
    omega
  have hxs : xs.Pairwise ltN := by
    rw [List.pairwise_iff_getElem]
    intro i j hi hj hij
    induction j with
    | zero => omega
    | succ j ih =>
      rcases Nat.lt_or_ge i j with h' | h'
      · have h1 := ih (by omega) h'
        have h2 := step j hj
        unfold ltN at *
        omega
      · obtain rfl : i = j := by omega
        exact step i hj
  exact hp.eq_of_pairwise (fun a b _ _ h1 h2 => by unfold ltN at h1 h2; omega) hxs hpw
end Go.Proofs.Ytaledidomgelcaa
/- A law of our own on regions that draw their order: where each operation, whatever has come up before it, leaves in its slot a value that meets the slot's condition, and a world with some blocks laid behind, and the conditions bear that, any order ends in a frame that meets them all. -/
namespace Go.Proofs.Ytaledidomgelcaa
open Go Go.RowKit

section
variable {P : Program}

/-- The slots of the operations that o waits for. -/
def depSlots (l : List Oper) (o : Oper) : List Nat := (o.after.toList.filter (Region.binds .any)).filterMap fun e => (l[e.on]?).bind (·.dst)
def steadyChk (l : List Oper) (n : Nat) : Bool :=
  ((List.range l.length).all fun j => match l[j]? with | none => true | some o => (o.after.all fun e => decide (e.on < j)) && o.guard.isNone && (match o.dst with | none => true | some d => decide (d < n))) &&
  (List.range l.length).all fun i => (List.range l.length).all fun j => decide (i = j) || ((l[i]?).bind (·.dst)).isNone || decide ((l[i]?).bind (·.dst) ≠ (l[j]?).bind (·.dst))
/-- The frame a' is as a, but for what the operations write. -/
def Agrees (l : List Oper) (a a' : Act) : Prop := a'.tmps.size = a.tmps.size ∧ a'.defers = a.defers ∧ ∀ d, (∀ o ∈ l, o.dst ≠ some d) → a'.tmps.getD d undef = a.tmps.getD d undef

theorem steadyChk_at {l : List Oper} {n j : Nat} {o : Oper} (h : steadyChk l n = true) (ho : l[j]? = some o) : (∀ e ∈ o.after, e.on < j) ∧ o.guard = none ∧ ∀ d, o.dst = some d → d < n := by
  have hlt : j < l.length := (List.getElem?_eq_some_iff.1 ho).1
  simp only [steadyChk, Bool.and_eq_true] at h
  have h1 := (List.all_eq_true.1 h.1) j (List.mem_range.2 hlt)
  simp only [ho, Bool.and_eq_true] at h1
  refine ⟨fun e he => of_decide_eq_true ((Array.all_eq_true_iff_forall_mem.1 h1.1.1) e he), by simpa using h1.1.2, fun d hd => ?_⟩
  have := h1.2
  simpa [hd] using this
theorem steadyChk_ne {l : List Oper} {n i j d : Nat} {oi oj : Oper} (h : steadyChk l n = true) (hi : l[i]? = some oi) (hj : l[j]? = some oj) (hne : i ≠ j) (hd : oi.dst = some d) : oj.dst ≠ some d := by
  have hlt : i < l.length := (List.getElem?_eq_some_iff.1 hi).1
  have hlt2 : j < l.length := (List.getElem?_eq_some_iff.1 hj).1
  simp only [steadyChk, Bool.and_eq_true] at h
  have h1 := (List.all_eq_true.1 ((List.all_eq_true.1 h.2) i (List.mem_range.2 hlt))) j (List.mem_range.2 hlt2)
  simp only [hi, hj, Option.bind_some, Bool.or_eq_true, decide_eq_true_eq] at h1
  rcases h1 with (h1 | h1) | h1
  · exact absurd h1 hne
  · rw [hd] at h1; simp at h1
  · rw [hd] at h1; exact fun e => h1 e.symm
theorem put_getD (a : Act) (d : Nat) (v : Value) (h : d < a.tmps.size) : (a.put (some d) v).tmps.getD d undef = v := by
  simp [Act.put, Array.getD_eq_getD_getElem?, h]
theorem put_getD_ne (a : Act) (dst : Option Tmp) (d : Nat) (v : Value) (h : dst ≠ some d) : (a.put dst v).tmps.getD d undef = a.tmps.getD d undef := by
  cases dst with
  | none => rfl
  | some x =>
    have hx : x ≠ d := fun e => h (by rw [e])
    simp [Act.put, Array.getD_eq_getD_getElem?, hx]
theorem put_size (a : Act) (dst : Option Tmp) (v : Value) : (a.put dst v).tmps.size = a.tmps.size := by cases dst <;> simp [Act.put]
theorem put_defers (a : Act) (dst : Option Tmp) (v : Value) : (a.put dst v).defers = a.defers := by cases dst <;> rfl

theorem act_eq (a : Act) (n : Nat) (h : a.tmps.size = n) : a = ⟨((List.range n).map fun k => a.tmps.getD k undef).toArray, a.defers⟩ := by
  subst h
  cases a with
  | mk T D =>
    simp only [Act.mk.injEq, and_true]
    apply Array.ext
    · simp
    · intro i h1 h2
      simp [Array.getD_eq_getD_getElem?, h1]
theorem wpAny_steady {l : List Oper} {Q : Exit → Act → World → Prop} {a : Act} {w : World} (m : Nat) (hml : m ≤ l.length) (G : Nat → Value → World → Prop) (hB : tailB .any l.toArray 0 m = true) (hchk : steadyChk (l.take m) a.tmps.size = true)
    (hstab : ∀ d v w1 w2, G d v w1 → Below w1.heap.size w1 w2 → G d v w2)
    (hstep : ∀ o ∈ l.take m, ∀ a' w', Below w.heap.size w w' → Agrees (l.take m) a a' → (∀ d ∈ depSlots (l.take m) o, G d (a'.tmps.getD d undef) w') → o.wp P a' w' (fun a'' w'' => ∃ v, a'' = a'.put o.dst v ∧ Below w'.heap.size w' w'' ∧ ∀ d, o.dst = some d → G d v w'') Q)
    (hfin : ∀ a' w', Below w.heap.size w w' → Agrees (l.take m) a a' → (∀ o ∈ l.take m, ∀ d, o.dst = some d → G d (a'.tmps.getD d undef) w') → wpList P l.toArray Q (l.drop m) a' w') :
    ∀ (fuel : Nat) (U : List Nat) (listed : Array Bool) (a' : Act) (w' : World), U.length = fuel → U.Nodup → listed.size = l.length → (∀ j, j < m → (listed.getD j true = false ↔ j ∈ U)) → (∀ j ∈ U, j < m) → (∀ j, m ≤ j → j < l.length → listed.getD j true = false) → ClosedL .any l.toArray listed →
      Below w.heap.size w w' → Agrees (l.take m) a a' → (∀ j o d, (l.take m)[j]? = some o → listed.getD j true = true → o.dst = some d → G d (a'.tmps.getD d undef) w') → wpAny P .any l.toArray Q (fuel + (l.length - m)) listed a' w' := by
  intro fuel
  induction fuel with
  | zero =>
    intro U listed a' w' hU _ hs hm _ ho hc hb hag hG
    have hU0 : U = [] := List.length_eq_zero_iff.1 hU
    subst hU0
    have hT : ∀ j, j < m → listed.getD j true = true := fun j hj => by
      cases h : listed.getD j true with
      | true => rfl
      | false => exact absurd ((hm j hj).1 h) (by simp)
    rw [Nat.zero_add]
    refine wpAny_tail (c := 0) (m := m) (Nat.zero_le _) hB (l.length - m) m listed a' w' (by omega) (Nat.le_refl _) hs hT ho hc ?_
    refine hfin a' w' hb hag fun o ho d hd => ?_
    obtain ⟨j, hj, rfl⟩ := List.getElem_of_mem ho
    exact hG j _ d (List.getElem?_eq_getElem hj) (hT j (by simp at hj; omega)) hd
  | succ fuel ih =>
    intro U listed a' w' hU hnd hs hm hUm ho hc hb hag hG
    rw [show fuel + 1 + (l.length - m) = (fuel + (l.length - m)) + 1 by omega]
    obtain ⟨k, hk⟩ : ∃ k, k ∈ U := by
      cases U with
      | nil => simp at hU
      | cons x _ => exact ⟨x, by simp⟩
    have hkm := hUm k hk
    have hkl := (hm k hkm).2 hk
    refine ⟨fun h0 => ?_, fun i hi => ?_⟩
    · have := ready_nil_all (md := .any) (ops := l.toArray) (by simpa using hs) (fun j o ho e he => tailB_lex hB ho e he) h0 (k + 1) k (by omega) (by simp; omega)
      rw [hkl] at this
      cases this
    · obtain ⟨hu, o, hoi, hdep⟩ := mem_ready.1 hi
      have hil : i < l.length := by simpa using (Array.getElem?_eq_some_iff.1 hoi).1
      have him : i < m := by
        rcases Nat.lt_or_ge i m with h | h
        · exact h
        · have := ready_all hB hc h hi (i - k) k (Nat.zero_le _) (by omega) (Nat.le_refl _)
          rw [hkl] at this
          cases this
      have hoL : (l.take m)[i]? = some o := by rw [List.getElem?_take, if_pos him]; simpa using hoi
      have hmem : o ∈ l.take m := List.mem_of_getElem? hoL
      obtain ⟨_, hgd, hdn⟩ := steadyChk_at hchk hoL
      have hiU : i ∈ U := (hm i him).1 hu
      unfold wpOp
      simp only [hoi]
      rw [if_pos (by simp [Region.wanted, hgd])]
      left
      have hs1 := hstep o hmem a' w' hb hag ?_
      · refine Oper.wp_mono ?_ hs1
        rintro a'' w'' ⟨v, rfl, hb2, hGv⟩
        have hset : ∀ j, (listed.setIfInBounds i true).getD j true = if j = i then true else listed.getD j true := by
          intro j
          by_cases hji : j = i
          · subst hji
            by_cases hjs : j < listed.size
            · simp [Array.getD_eq_getD_getElem?, hjs]
            · simp [Array.getD_eq_getD_getElem?, hjs]
          · rw [if_neg hji]
            simp [Array.getD_eq_getD_getElem?, Ne.symm hji]
        refine ih (U.erase i) _ _ _ (by rw [List.length_erase_of_mem hiU]; omega) (hnd.erase i) (by simpa using hs) ?_ (fun j hj => hUm j (List.mem_of_mem_erase hj)) ?_ (hc.set hi) (hb.trans (hb2.mono hb.size)) ?_ ?_
        · intro j hj
          rw [hset j, hnd.mem_erase_iff]
          by_cases hji : j = i
          · simp [hji]
          · rw [if_neg hji, hm j hj]; simp [hji]
        · intro j hj hjl
          rw [hset j, if_neg (by omega)]
          exact ho j hj hjl
        · refine ⟨by rw [put_size]; exact hag.1, by rw [put_defers]; exact hag.2.1, fun d hd => ?_⟩
          rw [put_getD_ne _ _ _ _ (hd o hmem)]
          exact hag.2.2 d hd
        · intro j oj d hj hlj hdj
          rw [hset j] at hlj
          by_cases hji : j = i
          · subst hji
            rw [hoL] at hj
            cases hj
            rw [hdj, put_getD _ _ _ (by rw [hag.1]; exact hdn d hdj)]
            exact hGv d hdj
          · rw [if_neg hji] at hlj
            rw [put_getD_ne _ _ _ _ (steadyChk_ne hchk hj hoL hji hdj)]
            exact hstab d _ _ _ (hG j oj d hj hlj hdj) hb2
      · intro d hd
        simp only [depSlots, List.mem_filterMap, List.mem_filter] at hd
        obtain ⟨e, ⟨he, hbn⟩, hed⟩ := hd
        have hlst := hdep e (by simpa using he) hbn
        cases hoe : (l.take m)[e.on]? with
        | none => simp [hoe] at hed
        | some oe =>
          simp only [hoe, Option.bind_some] at hed
          exact hG e.on oe d hoe (getD_true_of_false hlst) hed
theorem wp_region_steady {id : Nat} {Q : Exit → Act → World → Prop} {a : Act} {w : World} {l : List Oper} (m : Nat) (G : Nat → Value → World → Prop) (hm : P.follows .mixedOrders = true) (hchk : (decide (m ≤ l.length) && tailB .any l.toArray 0 m && steadyChk (l.take m) a.tmps.size) = true)
    (hstab : ∀ d v w1 w2, G d v w1 → Below w1.heap.size w1 w2 → G d v w2)
    (hstep : ∀ o ∈ l.take m, ∀ a' w', Below w.heap.size w w' → Agrees (l.take m) a a' → (∀ d ∈ depSlots (l.take m) o, G d (a'.tmps.getD d undef) w') → o.wp P a' w' (fun a'' w'' => ∃ v, a'' = a'.put o.dst v ∧ Below w'.heap.size w' w'' ∧ ∀ d, o.dst = some d → G d v w'') Q)
    (hfin : ∀ a' w', Below w.heap.size w w' → Agrees (l.take m) a a' → (∀ o ∈ l.take m, ∀ d, o.dst = some d → G d (a'.tmps.getD d undef) w') → wpList P l.toArray Q (l.drop m) a' w') :
    (Code.region id l.toArray true).wp P Q a w := by
  refine wp_region_any hm ?_
  simp only [Bool.and_eq_true, decide_eq_true_eq] at hchk
  obtain ⟨⟨hml, hB⟩, hck⟩ := hchk
  have h := wpAny_steady (P := P) (w := w) m hml G hB hck hstab hstep hfin m (List.range m) (Array.replicate l.length false) a { w with drawn := w.drawn + 1 } (by simp) List.nodup_range (by simp) ?_ (by simp) ?_ ?_ ((Below.refl w.heap.size w).drew) ⟨rfl, rfl, fun _ _ => rfl⟩ ?_
  · rw [show m + (l.length - m) = l.length by omega] at h
    simpa using h
  · intro j hj
    have hjl : j < l.length := by omega
    simp [Array.getD_eq_getD_getElem?, hjl, hj]
  · intro j _ hjl
    simp [Array.getD_eq_getD_getElem?, hjl]
  · intro k o ho hk
    have hlt : k < l.length := by simpa using (Array.getElem?_eq_some_iff.1 ho).1
    simp [Array.getD_eq_getD_getElem?, hlt] at hk
  · intro j o d hj hl _
    have hlt : j < l.length := by have := (List.getElem?_eq_some_iff.1 hj).1; simp at this; omega
    simp [Array.getD_eq_getD_getElem?, hlt] at hl
end
/-- Conditions, a slot each. -/
def SlotG (gs : List (Nat × (Value → World → Prop))) (d : Nat) (x : Value) (w : World) : Prop := ∀ p, (d, p) ∈ gs → p x w
def Stabs : List (Nat × (Value → World → Prop)) → Prop
  | [] => True
  | p :: l => (∀ x w1 w2, p.2 x w1 → Below w1.heap.size w1 w2 → p.2 x w2) ∧ Stabs l
def Is (v : Value) : Value → World → Prop := fun x _ => x = v
theorem stab_is (v : Value) : ∀ x w1 w2, Is v x w1 → Below w1.heap.size w1 w2 → Is v x w2 := fun _ _ _ h _ => h
theorem SlotG.get {gs : List (Nat × (Value → World → Prop))} {d : Nat} {x : Value} {w : World} (h : SlotG gs d x w) (k : Nat) {p : Value → World → Prop} (hk : gs[k]? = some (d, p)) : p x w := h p (List.mem_of_getElem? hk)
theorem SlotG.is {gs : List (Nat × (Value → World → Prop))} {d : Nat} {x : Value} {w : World} (h : SlotG gs d x w) (k : Nat) {v : Value} (hk : gs[k]? = some (d, Is v)) : x = v := h (Is v) (List.mem_of_getElem? hk)
theorem key_one {α : Type} : ∀ {gs : List (Nat × α)}, (gs.map (·.1)).Nodup → ∀ {d : Nat} {p q : α}, (d, p) ∈ gs → (d, q) ∈ gs → p = q
  | [], _, _, _, _, h, _ => by cases h
  | (k, r) :: gs, hn, d, p, q, h1, h2 => by
    simp only [List.map_cons, List.nodup_cons] at hn
    have hin : ∀ x, (d, x) ∈ gs → d ∈ gs.map (·.1) := fun x hx => List.mem_map.2 ⟨(d, x), hx, rfl⟩
    rcases List.mem_cons.1 h1 with e1 | h1
    · rcases List.mem_cons.1 h2 with e2 | h2
      · rw [← e2] at e1; exact (Prod.mk.inj e1).2
      · have := hin q h2
        rw [(Prod.mk.inj e1).1] at this
        exact absurd this hn.1
    · rcases List.mem_cons.1 h2 with e2 | h2
      · have := hin p h1
        rw [(Prod.mk.inj e2).1] at this
        exact absurd this hn.1
      · exact key_one hn.2 h1 h2
theorem SlotG.mk {gs : List (Nat × (Value → World → Prop))} {d : Nat} {x : Value} {w : World} (k : Nat) {p : Value → World → Prop} (hk : gs[k]? = some (d, p)) (hn : (gs.map (·.1)).Nodup) (h : p x w) : SlotG gs d x w := by
  intro q hq
  rw [key_one hn hq (List.mem_of_getElem? hk)]
  exact h
theorem Stabs.all : ∀ {gs : List (Nat × (Value → World → Prop))}, Stabs gs → ∀ d v w1 w2, SlotG gs d v w1 → Below w1.heap.size w1 w2 → SlotG gs d v w2
  | [], _, _, _, _, _, _, _ => fun p hp => by cases hp
  | (k, q) :: gs, ⟨h1, h2⟩, d, v, w1, w2, h, hb => fun p hp => by
    rcases List.mem_cons.1 hp with e | hp
    · have hq : p = q := by simpa using (Prod.mk.inj e).2
      have hp1 := h p (by rw [e]; simp)
      rw [hq] at hp1 ⊢
      exact h1 v w1 w2 hp1 hb
    · exact Stabs.all h2 d v w1 w2 (fun p hp => h p (List.mem_cons_of_mem _ hp)) hb p hp
theorem Agrees.at {l : List Oper} {a a' : Act} (h : Agrees l a a') (d : Nat) (hd : (l.all fun o => decide (o.dst ≠ some d)) = true) : a'.tmps.getD d undef = a.tmps.getD d undef :=
  h.2.2 d fun o ho => of_decide_eq_true ((List.all_eq_true.1 hd) o ho)
end Go.Proofs.Ytaledidomgelcaa
/- The table's iterator: routes in the order of their nets. (Written by gen_all.py.) -/
namespace Go.Proofs.Ytaledidomgelcaa
open Go.RowKit Go.Sort Go.Shelf
attribute [local go_sem] Oper.semAt_some

set_option maxRecDepth 100000 in
theorem keys_make (b : Nat) (w : World) : Calls Try.prog 93 #[.map (some b)] w fun e w' => e = .returned (.func (.func 109) #[] #[.pointer (some ⟨w.heap.size, 0, none⟩)]) ∧ w.alloc (.cells #[.map (some b)] 79) = w' := by
  go_enter Try.func93, Try.ntmps93
  go_wp2
  go_ret
  exact ⟨rfl, rfl⟩
set_option maxRecDepth 100000 in
theorem all_make (B : Nat) (w : World) : Calls Try.prog 59 #[tabV B] w fun e w' => e = .returned (.func (.func 91) #[] #[.pointer (some ⟨w.heap.size, 0, none⟩)]) ∧ w.alloc (.cells #[.map (some B), .func (.func 82) #[] #[]] 82) = w' := by
  unfold tabV
  go_enter Try.func59, Try.ntmps59
  go_wp2
  go_ret
  exact ⟨rfl, rfl⟩
theorem HoldsN.form {w : World} {B : Nat} {v : Value} {xs : List NP} (h : HoldsN w B v xs) : ∃ p cap, v = .slice p xs.length cap := by
  rcases h with ⟨rfl, rfl⟩ | ⟨g, cap, rfl, _, _⟩
  · exact ⟨none, 0, rfl⟩
  · exact ⟨_, cap, rfl⟩
theorem HoldsN.below {w w' : World} {B : Nat} {v : Value} {xs : List NP} (h : HoldsN w B v xs) (hb : Below w.heap.size w w') : HoldsN w' B v xs := by
  rcases h with ⟨rfl, rfl⟩ | ⟨g, cap, rfl, hN, hg⟩
  · exact .inl ⟨rfl, rfl⟩
  · exact .inr ⟨g, cap, rfl, hN.below hb hN.lt, hg⟩
theorem stab_seq (b : Nat) : ∀ (x : Value) (w1 w2 : World), (∃ Bm, x = .func (.func 109) #[] #[.pointer (some ⟨Bm, 0, none⟩)] ∧ Row w1 Bm 79 [.map (some b)]) → Below w1.heap.size w1 w2 → ∃ Bm, x = .func (.func 109) #[] #[.pointer (some ⟨Bm, 0, none⟩)] ∧ Row w2 Bm 79 [.map (some b)] := by
  rintro x w1 w2 ⟨B, e, h⟩ hb
  exact ⟨B, e, h.below hb h.lt⟩
theorem stab_nets (n : Nat) (xs : List NP) : ∀ (x : Value) (w1 w2 : World), (∃ B0, n ≤ B0 ∧ HoldsN w1 B0 x xs) → Below w1.heap.size w1 w2 → ∃ B0, n ≤ B0 ∧ HoldsN w2 B0 x xs := by
  rintro x w1 w2 ⟨B, e, h⟩ hb
  exact ⟨B, e, h.below hb⟩
theorem HoldsN.at {w : World} {B : Nat} {p : Option Addr} {n cap : Nat} {xs : List NP} (h : HoldsN w B (.slice p n cap) xs) (hx : 0 < xs.length) : ∃ g, p = some ⟨g, 0, none⟩ ∧ NetsAt w g xs ∧ B ≤ g := by
  rcases h with ⟨rfl, _⟩ | ⟨g, cap', e, hN, hBg⟩
  · simp at hx
  · simp only [Value.slice.injEq] at e
    exact ⟨g, e.1, hN, hBg⟩
theorem lookN_at {rs : List Rt} (h : rs.Pairwise ltP) (k : Nat) (hk : k < rs.length) : lookN rs rs[k].a rs[k].l = some rs[k] := by
  unfold lookN
  rw [List.find?_eq_some_iff_getElem]
  refine ⟨by simp [isN], k, hk, rfl, fun j hj => ?_⟩
  have := ltP_ne ((List.pairwise_iff_getElem.1 h) j k (by omega) hk hj)
  simp [this]
theorem lookN_perm {ms rs : List Rt} (hp : ms.Perm rs) (h : rs.Pairwise ltP) (k : Nat) (hk : k < rs.length) : lookN ms rs[k].a rs[k].l = some rs[k] := by
  have hmem : rs[k] ∈ ms := hp.mem_iff.2 (List.getElem_mem hk)
  have hsome : (lookN ms rs[k].a rs[k].l).isSome = true := by
    unfold lookN
    rw [List.find?_isSome]
    exact ⟨rs[k], hmem, by simp [isN]⟩
  obtain ⟨r, hr⟩ := Option.isSome_iff_exists.1 hsome
  rw [hr]
  unfold lookN at hr
  have h1 := List.find?_some hr
  have h2 : r ∈ rs := hp.mem_iff.1 (List.mem_of_find?_eq_some hr)
  obtain ⟨j, hj, rfl⟩ := List.mem_iff_getElem.1 h2
  have hjk : j = k := by
    rcases Nat.lt_trichotomy j k with h' | h' | h'
    · have := ltP_ne ((List.pairwise_iff_getElem.1 h) j k hj hk h')
      rw [this] at h1; cases h1
    · exact h'
    · have h3 := (List.pairwise_iff_getElem.1 h) k j hk hj h'
      obtain ⟨e1, e2⟩ := isN_eq h1
      unfold ltP at h3
      omega
  subst hjk
  rfl
theorem map_look1 {w : World} {b : Nat} {rs : List Rt} (h : MapIs w b rs) (a l : Int) :
    (Instr.lookup 79 (.map (some b)) (netV a l) false).run Try.prog w = .ok (rtV ((lookN rs a l).getD zeroR)) w := by
  obtain ⟨es, clock, hb, hh, _, _⟩ := h
  unfold Instr.lookup
  simp only [Sem.run_bind, run_underlying mapUnd, Result.andThen_ok, MapKept.run_getObj_map hb, pure_bind, checkNet, findKey_run a l w es.toList rs hh]
  cases hi : idxN rs a l with
  | none =>
    rw [idx_none hi]
    simp
    rfl
  | some k =>
    obtain ⟨hk, hl, _⟩ := idx_get hi
    rw [hl]
    simp
/-- What a round of a loop over the table keeps: its nets, its tables, its maps. -/
structure KpN (W W' : World) : Prop where
  size : W.heap.size ≤ W'.heap.size
  rows : ∀ (k : Nat) (cur : Array Value) (t : TypeId), W.heap[k]? = some (Obj.cells cur t (0, 0)) → t = 35 ∨ t = 82 → W'.heap[k]? = W.heap[k]?
  walks : KeepsWalks W W'
set_option maxRecDepth 100000 in
set_option maxHeartbeats 2000000 in
theorem all1_in (n : Nat) (hn : 1 ≤ n) (l Bt b : Nat) (ms rs : List Rt) (hp : ms.Perm rs) (hr : ribB rs = true) (J Jx : List Rt → World → Prop)
    (hY : ∀ pre x W, J pre W → pre.length < rs.length → YieldAt Fence.wide (n - 1) Try.prog l #[rtV x] W fun e W' =>
      (e = .returned (.bool true) ∧ J (pre ++ [x]) W' ∧ KpN W W') ∨ (e = .returned (.bool false) ∧ Jx (pre ++ [x]) W'))
    (W0 : World) (hJ : AbidesFrom W0.heap.size J) (hT : Row W0 Bt 82 [.map (some b), .func (.func 82) #[] #[]]) (hM : MapIs W0 b ms) (h0 : J [] W0) :
    CallsIn Fence.wide n Try.prog 91 #[.func (.yield l) #[] #[], .pointer (some ⟨Bt, 0, none⟩)] W0 fun e W' => (∃ v, e = .returned v) ∧
      ((∃ xs : List Rt, xs = rs ∧ J xs W') ∨ (∃ pre : List Rt, pre <+: rs ∧ Jx pre W')) := by
  have h8 := (ribB_spec hr).1
  have HS : Hid (∀ Bm w, w.cell? ⟨Bm, 0, none⟩ = some (.map (some b)) → MapIs w b ms → Calls Try.prog 92 #[.func (.func 109) #[] #[.pointer (some ⟨Bm, 0, none⟩)], .func (.func 82) #[] #[]] w fun e w' => ∃ v, e = .returned v ∧ HoldsN w' w.heap.size v (rs.map netOfR) ∧ Below w.heap.size w w') := fun Bm w h1 h2 =>
    (sortedN Bm b ms w (by rw [hp.length_eq]; omega) h1 h2).mono fun e w' h => by
      obtain ⟨v, xs, e, hq, hR, hH, hb⟩ := h
      rw [risen_nets hr (hq.trans (hp.map _)) hR] at hH
      exact ⟨v, e, hH, hb⟩
  refine callsIn_of_wp Try.func91 rfl trivial ?_ rfl
  simp only [Try.ntmps91, List.size_toArray, List.length_cons, List.length_nil, Nat.reduceAdd, Nat.reduceSub, Array.replicate_succ, Array.replicate_zero, List.push_toArray, List.append_toArray, List.nil_append, List.cons_append]
  refine wpIn_seq ?_
  refine wpIn_wide.2 ?_
  have hGN : (([(5, Is (.pointer (some ⟨Bt, 0, none⟩))), (6, Is (.map (some b))), (7, fun v W => ∃ Bm, v = .func (.func 109) #[] #[.pointer (some ⟨Bm, 0, none⟩)] ∧ Row W Bm 79 [.map (some b)]), (8, Is (.pointer (some ⟨Bt, 1, none⟩))), (9, Is (.func (.func 82) #[] #[])), (10, fun v W => ∃ B0, W0.heap.size ≤ B0 ∧ HoldsN W B0 v (rs.map netOfR)), (11, Is (.int .i64 (rs.length : Int))), (12, Is (.int .i64 0))] : List (Nat × (Value → World → Prop))).map (·.1)).Nodup := by simp
  refine wp_region_steady 8 (SlotG [(5, Is (.pointer (some ⟨Bt, 0, none⟩))), (6, Is (.map (some b))), (7, fun v W => ∃ Bm, v = .func (.func 109) #[] #[.pointer (some ⟨Bm, 0, none⟩)] ∧ Row W Bm 79 [.map (some b)]), (8, Is (.pointer (some ⟨Bt, 1, none⟩))), (9, Is (.func (.func 82) #[] #[])), (10, fun v W => ∃ B0, W0.heap.size ≤ B0 ∧ HoldsN W B0 v (rs.map netOfR)), (11, Is (.int .i64 (rs.length : Int))), (12, Is (.int .i64 0))]) (by kernel_rfl) (by kernel_rfl) (Stabs.all ⟨stab_is _, stab_is _, stab_seq b, stab_is _, stab_is _, stab_nets _ _, stab_is _, stab_is _, trivial⟩) ?_ ?_
  · intro o ho
    simp only [List.take_succ_cons, List.take_zero, List.mem_cons, List.not_mem_nil, or_false] at ho
    rcases ho with rfl | rfl | rfl | rfl | rfl | rfl | rfl | rfl
    · intro a' w' hb ha hdep
      have d1 : a'.tmps.getD 1 undef = .pointer (some ⟨Bt, 0, none⟩) := ha.at 1 (by kernel_rfl)
      have hmk := fun (x : Value) (W : World) => SlotG.mk (x := x) (w := W) 0 rfl hGN
      clear hGN ha hdep
      go_simp
      exact ⟨_, rfl, Below.refl _ _, hmk _ _ rfl⟩
    · intro a' w' hb ha hdep
      have d5 : a'.tmps.getD 5 undef = .pointer (some ⟨Bt, 0, none⟩) := (hdep 5 (of_decide_eq_true (by kernel_rfl))).is 0 rfl
      have hmk := fun (x : Value) (W : World) => SlotG.mk (x := x) (w := W) 1 rfl hGN
      clear hGN ha hdep
      have y0 : w'.cell? ⟨Bt, 0, none⟩ = some (.map (some b)) := (hT.below hb hT.lt).cell 0
      go_simp
      exact ⟨_, rfl, Below.refl _ _, hmk _ _ rfl⟩
    · intro a' w' hb ha hdep
      have d6 : a'.tmps.getD 6 undef = .map (some b) := (hdep 6 (of_decide_eq_true (by kernel_rfl))).is 1 rfl
      have hmk := fun (x : Value) (W : World) => SlotG.mk (x := x) (w := W) 2 rfl hGN
      clear hGN ha hdep
      go_simp
      refine (keys_make b _).mono ?_
      rintro e w2 ⟨rfl, rfl⟩
      exact ⟨_, rfl, ent_new0 _ _, hmk _ _ ⟨_, rfl, Row.new w' _ [.map (some b)]⟩⟩
    · intro a' w' hb ha hdep
      have d1 : a'.tmps.getD 1 undef = .pointer (some ⟨Bt, 0, none⟩) := ha.at 1 (by kernel_rfl)
      have hmk := fun (x : Value) (W : World) => SlotG.mk (x := x) (w := W) 3 rfl hGN
      clear hGN ha hdep
      go_simp
      exact ⟨_, rfl, Below.refl _ _, hmk _ _ rfl⟩
    · intro a' w' hb ha hdep
      have d8 : a'.tmps.getD 8 undef = .pointer (some ⟨Bt, 1, none⟩) := (hdep 8 (of_decide_eq_true (by kernel_rfl))).is 3 rfl
      have hmk := fun (x : Value) (W : World) => SlotG.mk (x := x) (w := W) 4 rfl hGN
      clear hGN ha hdep
      have y1 : w'.cell? ⟨Bt, 1, none⟩ = some (.func (.func 82) #[] #[]) := (hT.below hb hT.lt).cell 1
      go_simp
      exact ⟨_, rfl, Below.refl _ _, hmk _ _ rfl⟩
    · intro a' w' hb ha hdep
      have D7 := (hdep 7 (of_decide_eq_true (by kernel_rfl))).get 2 rfl
      have d9 : a'.tmps.getD 9 undef = .func (.func 82) #[] #[] := (hdep 9 (of_decide_eq_true (by kernel_rfl))).is 4 rfl
      have hmk := fun (x : Value) (W : World) => SlotG.mk (x := x) (w := W) 5 rfl hGN
      clear hGN ha hdep
      obtain ⟨Bm, d7, hRm⟩ := D7
      have hsz := hb.size
      go_simp
      refine (HS.out Bm _ (hRm.cell 0) (hM.below hb hM.lt)).mono ?_
      rintro e w2 ⟨v, rfl, hv, hb2⟩
      exact ⟨_, rfl, hb2, hmk _ _ ⟨_, hsz, hv⟩⟩
    · intro a' w' hb ha hdep
      have D10 := (hdep 10 (of_decide_eq_true (by kernel_rfl))).get 5 rfl
      have hmk := fun (x : Value) (W : World) => SlotG.mk (x := x) (w := W) 6 rfl hGN
      clear hGN ha hdep
      obtain ⟨B0, hB0, hv⟩ := D10
      obtain ⟨p, cap, d10⟩ := hv.form
      rw [List.length_map] at d10
      go_simp
      exact ⟨_, rfl, Below.refl _ _, hmk _ _ rfl⟩
    · intro a' w' hb ha hdep
      have hmk := fun (x : Value) (W : World) => SlotG.mk (x := x) (w := W) 7 rfl hGN
      clear hGN ha hdep
      go_simp
      exact ⟨_, rfl, Below.refl _ _, hmk _ _ rfl⟩
  · intro a' w' hb ha hG
    clear hGN
    have D10 := (hG _ (List.mem_of_getElem? (i := 5) rfl) 10 rfl).get 5 rfl
    have d11 : a'.tmps.getD 11 undef = .int .i64 (rs.length : Int) := (hG _ (List.mem_of_getElem? (i := 6) rfl) 11 rfl).is 6 rfl
    have d12 : a'.tmps.getD 12 undef = .int .i64 0 := (hG _ (List.mem_of_getElem? (i := 7) rfl) 12 rfl).is 7 rfl
    have d0 : a'.tmps.getD 0 undef = .func (.yield l) #[] #[] := ha.at 0 (by kernel_rfl)
    have d1 : a'.tmps.getD 1 undef = .pointer (some ⟨Bt, 0, none⟩) := ha.at 1 (by kernel_rfl)
    have e2 : a' = ⟨#[a'.tmps.getD 0 undef, a'.tmps.getD 1 undef, a'.tmps.getD 2 undef, a'.tmps.getD 3 undef, a'.tmps.getD 4 undef, a'.tmps.getD 5 undef, a'.tmps.getD 6 undef, a'.tmps.getD 7 undef, a'.tmps.getD 8 undef, a'.tmps.getD 9 undef, a'.tmps.getD 10 undef, a'.tmps.getD 11 undef, a'.tmps.getD 12 undef, a'.tmps.getD 13 undef, a'.tmps.getD 14 undef, a'.tmps.getD 15 undef, a'.tmps.getD 16 undef, a'.tmps.getD 17 undef, a'.tmps.getD 18 undef, a'.tmps.getD 19 undef, a'.tmps.getD 20 undef, a'.tmps.getD 21 undef, a'.tmps.getD 22 undef, a'.tmps.getD 23 undef], []⟩ := by rw [← (show a'.defers = [] from ha.2.1)]; exact act_eq a' 24 ha.1
    rw [d11, d12, d0, d1] at e2
    clear hG ha d11 d12 d0 d1
    generalize a'.tmps.getD 2 undef = x2 at *
    generalize a'.tmps.getD 3 undef = x3 at *
    generalize a'.tmps.getD 4 undef = x4 at *
    generalize a'.tmps.getD 5 undef = x5 at *
    generalize a'.tmps.getD 6 undef = x6 at *
    generalize a'.tmps.getD 7 undef = x7 at *
    generalize a'.tmps.getD 8 undef = x8 at *
    generalize a'.tmps.getD 9 undef = x9 at *
    generalize a'.tmps.getD 10 undef = x10 at *
    generalize a'.tmps.getD 13 undef = x13 at *
    generalize a'.tmps.getD 14 undef = x14 at *
    generalize a'.tmps.getD 15 undef = x15 at *
    generalize a'.tmps.getD 16 undef = x16 at *
    generalize a'.tmps.getD 17 undef = x17 at *
    generalize a'.tmps.getD 18 undef = x18 at *
    generalize a'.tmps.getD 19 undef = x19 at *
    generalize a'.tmps.getD 20 undef = x20 at *
    generalize a'.tmps.getD 21 undef = x21 at *
    generalize a'.tmps.getD 22 undef = x22 at *
    generalize a'.tmps.getD 23 undef = x23 at *
    subst e2
    simp only [List.drop_succ_cons, List.drop_zero]
    refine wpList_nil ?_
    obtain ⟨B0, hB0, hH⟩ := D10
    have hJ1 : J [] w' := hJ [] W0 w' none h0 ⟨hb.os, hb.tape, hb.output, hb.size, fun k hk _ => hb.block k hk⟩ (fun r e => by cases e)
    have hT1 := hT.below hb hT.lt
    have hM1 := hM.below hb hM.lt
    have hsz := hb.size
    clear hb HS h0 hT hM
    generalize x10 = v at *
    obtain ⟨p, cap, rfl⟩ := hH.form
    rw [List.length_map] at hH ⊢
    gi_wp2
    gi_loopw [12] (fun i wr => ∃ k : Nat, k ≤ rs.length ∧ i = .int .i64 k ∧ J (rs.take k) wr ∧ W0.heap.size ≤ wr.heap.size ∧ Row wr Bt 82 [.map (some b), .func (.func 82) #[] #[]] ∧ MapIs wr b ms ∧ HoldsN wr B0 (.slice p rs.length cap) (rs.map netOfR)) (fun i _ => rs.length - (intOf i).toNat)
    case atStart => exact ⟨0, Nat.zero_le _, rfl, hJ1, hsz, hT1, hM1, hH⟩
    case round =>
      clear hJ1 hT1 hM1 hH hsz
      obtain ⟨k, hk, rfl, hJk, hsz, hTk, hMk, hHk⟩ := hrel
      by_cases hlt : k < rs.length
      · have d1 : decide ((k : Int) < (rs.length : Int)) = true := by simpa using hlt
        obtain ⟨g, rfl, hNk, hBg⟩ := hHk.at (by rw [List.length_map]; omega)
        obtain ⟨c0, c1, -, -⟩ := hNk.cell k (by rw [List.length_map]; exact hlt)
        rw [List.getElem_map] at c0 c1
        have hlk := lookN_perm hp (rib_rising hr) k hlt
        have hJa : J (rs.take k) (wr.alloc (.cells #[.int .i64 rs[k].a, .int .i64 rs[k].l] 35)) := hJ _ wr _ none hJk (World.grownBy_alloc wr _ none) (fun r e => by cases e)
        have hTa := hTk.alloc (.cells #[.int .i64 rs[k].a, .int .i64 rs[k].l] 35)
        have hMa := hMk.below (ent_new0 wr (.cells #[.int .i64 rs[k].a, .int .i64 rs[k].l] 35)) hMk.lt
        have hNa := hNk.below (ent_new0 wr (.cells #[.int .i64 rs[k].a, .int .i64 rs[k].l] 35)) hNk.lt
        have hrun := map_look1 hMa rs[k].a rs[k].l
        rw [hlk, Option.getD_some] at hrun
        obtain ⟨fn, tmps, assign, body, hy, hR⟩ := hY (rs.take k) rs[k] _ hJa (by rw [List.length_take]; omega)
        have t0 : (wr.alloc (.cells #[.int .i64 rs[k].a, .int .i64 rs[k].l] 35)).cell? ⟨Bt, 0, none⟩ = some (.map (some b)) := hTa.cell 0
        have HX : Hid (rs.take k ++ [rs[k]] = rs.take (k + 1)) := (List.take_succ_eq_append_getElem hlt).symm
        have HA : Hid _ := And.intro hTa (And.intro hMa hNa)
        have hbt : Bt < wr.heap.size := hTk.lt
        clear hJk hTk hMk hNk hHk hJa hTa hMa hNa hlk
        rw [HX.out] at hR
        generalize rs[k] = q at *
        obtain ⟨A, L, M, O, I, T, U, E, C⟩ := q
        unfold netV rtV rtA at hrun
        unfold rtV rtA at hy
        simp only [netOfR] at hrun hy c0 c1 t0
        gi_wp2
        refine hR.mono ?_
        rintro e W3 (⟨rfl, hJ3, hk3⟩ | ⟨rfl, hJx3⟩)
        · obtain ⟨hTa, hMa, hNa⟩ := HA.out
          have hT3 : Row W3 Bt 82 [.map (some b), .func (.func 82) #[] #[]] := (hk3.rows Bt _ _ hTa (.inr rfl)).trans hTa
          have hN3 : NetsAt W3 g (rs.map netOfR) := by
            obtain ⟨cur, hc, e⟩ := hNa
            exact ⟨cur, (hk3.rows g _ _ hc (.inl rfl)).trans hc, e⟩
          have hM3 : MapIs W3 b ms := by
            obtain ⟨es, cl, hb', h'⟩ := hMa
            exact ⟨es, cl, hk3.walks.same b _ hb' rfl, h'⟩
          have hs3 : W0.heap.size ≤ W3.heap.size := by have := hk3.size; simp at this; omega
          have HZ : Hid _ := And.intro hJ3 (And.intro hs3 (And.intro hT3 (And.intro hM3 hN3)))
          clear hJ3 hk3 hT3 hN3 hM3 hs3 HA hrun hy hTa hMa hNa c0 c1 t0 hsz hR
          gi_wp2
          go_roundw
          case rel => exact ⟨k + 1, hlt, by go_num, HZ.out.1, HZ.out.2.1, HZ.out.2.2.1, HZ.out.2.2.2.1, .inr ⟨g, cap, by rw [List.length_map], HZ.out.2.2.2.2, hBg⟩⟩
          case measure => simp [intOf]; omega
        · clear HA hrun hy c0 c1 t0 hR
          gi_wp2
          refine bodyPost_ret (results_none rfl _ _ _) rfl ?_
          exact ⟨⟨_, rfl⟩, .inr ⟨rs.take (k + 1), List.take_prefix _ _, hJx3⟩⟩
      · obtain rfl : k = rs.length := by omega
        have d1 : decide ((rs.length : Int) < (rs.length : Int)) = false := by simp
        rw [List.take_length] at hJk
        clear hlt hk
        gi_wp2
        go_end0
        exact ⟨⟨_, rfl⟩, .inl ⟨rs, rfl, hJk⟩⟩
theorem all_stops (n : Nat) (hn : 1 ≤ n) (Bt b : Nat) (ms rs : List Rt) (hp : ms.Perm rs) (hr : ribB rs = true) (w : World) (hT : Row w Bt 82 [.map (some b), .func (.func 82) #[] #[]]) (hM : MapIs w b ms) :
    SeqStopsK Fence.wide n Try.prog 91 #[.pointer (some ⟨Bt, 0, none⟩)] (fun x : Rt => #[rtV x]) KpN (fun xs => xs = rs) (fun pre => pre <+: rs) rs.length w := fun l J Jx W hW hJ _ hY h0 =>
  all1_in n hn l Bt b ms rs hp hr J Jx hY W hJ (hT.below hW hT.lt) (hM.below hW hM.lt) h0
theorem KpN.t {A B C : World} (h : KpN A B) (k : KpN B C) : KpN A C :=
  ⟨Nat.le_trans h.size k.size, fun i cur t hi ht => (k.rows i cur t ((h.rows i cur t hi ht).trans hi) ht).trans (h.rows i cur t hi ht), h.walks.trans k.walks⟩
theorem KpN.b {w : World} (W : World) (l : Nat) (o o' : Obj) (_ : w.heap.size ≤ l) (h : W.heap[l]? = some o) (hc : o.isCells = false) (hw : o.isWalk = false) : KpN W (W.putObj l o') :=
  KpN.mk (by simp) (fun i cur t hi _ => World.putObj_heap_other (fun e => by
    subst e
    rw [h] at hi
    cases hi
    cases hc)) (KeepsWalks.putObj _ h hw)
end Go.Proofs.Ytaledidomgelcaa
