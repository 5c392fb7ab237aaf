/- The laws' own lists of Ifaces measured and handed over. (Written by gen_ifs.py.) -/
import Derived.Test.YtflmbkjnlgibnaaToIfs
import Derived.Test.YtflmbkjnlgibnaaToIf
namespace Go.Proofs.Ytflmbkjnlgibnaa
open Go.RowKit Go.Sort

def fiveI (w : World) (g o : Nat) (x0 x1 x2 x3 x4 : Value) : World := (((((w.setCell ⟨g, o, none⟩ x0).setCell ⟨g, o + 1, none⟩ x1).setCell ⟨g, o + 2, none⟩ x2).setCell ⟨g, o + 3, none⟩ x3).setCell ⟨g, o + 4, none⟩ x4)
theorem fiveI_below {B : Nat} {w0 w : World} (h : Below B w0 w) (g o : Nat) (hg : B ≤ g) (x0 x1 x2 x3 x4 : Value) : Below B w0 (fiveI w g o x0 x1 x2 x3 x4) := (((((h.setCell (p := ⟨g, o, none⟩) hg x0).setCell (p := ⟨g, o + 1, none⟩) hg x1).setCell (p := ⟨g, o + 2, none⟩) hg x2).setCell (p := ⟨g, o + 3, none⟩) hg x3).setCell (p := ⟨g, o + 4, none⟩) hg x4)
theorem fiveI_row {w : World} {g : Nat} {t : TypeId} {l : List Value} (h : Row w g t l) (o : Nat) (x0 x1 x2 x3 x4 : Value) : Row (fiveI w g o x0 x1 x2 x3 x4) g t (((((l.set (o) x0).set (o + 1) x1).set (o + 2) x2).set (o + 3) x3).set (o + 4) x4) := (((((h.set (o) x0).set (o + 1) x1).set (o + 2) x2).set (o + 3) x3).set (o + 4) x4)
theorem fiveI_other {w : World} {b g : Nat} {t : TypeId} {l : List Value} (h : Row w b t l) (hne : b ≠ g) (o : Nat) (x0 x1 x2 x3 x4 : Value) : Row (fiveI w g o x0 x1 x2 x3 x4) b t l := (((((h.other (o) x0 hne).other (o + 1) x1 hne).other (o + 2) x2 hne).other (o + 3) x3 hne).other (o + 4) x4 hne)
theorem set5i (A R : List Value) (k : Nat) (hA : A.length = k * 5) (z0 z1 z2 z3 z4 x0 x1 x2 x3 x4 : Value) : ((((((A ++ ([z0, z1, z2, z3, z4] ++ R)).set (k * 5) x0).set (k * 5 + 1) x1).set (k * 5 + 2) x2).set (k * 5 + 3) x3).set (k * 5 + 4) x4) = A ++ ([x0, x1, x2, x3, x4] ++ R) := by
  have e : ∀ (L : List Value) (j : Nat) (x : Value), (A ++ L).set (k * 5 + j) x = A ++ L.set j x := fun L j x => by
    rw [List.set_append, if_neg (by omega), hA, Nat.add_sub_cancel_left]
  have e0 : ∀ (L : List Value) (x : Value), (A ++ L).set (k * 5) x = A ++ L.set 0 x := fun L x => e L 0 x
  rw [e0, e, e, e, e]
  rfl
theorem Row.someI {w : World} {g : Nat} {t : TypeId} {l : List Value} (h : Row w g t l) (k : Nat) (hk : k < l.length) : ∃ v, w.cell? ⟨g, k, none⟩ = some v := ⟨l[k], by rw [h.cell, List.getElem?_eq_getElem hk]⟩
theorem Try.infoI : (Try.prog.info? 82).map (fun i => (i.zero, i.size, i.bytes)) = some (some (.agg #[.int .i64 0, .int .i64 0, .int .i64 0, .int .i64 0, .bool false]), 5, 40) := by kernel_rfl
def zeroIf : If := ⟨0, 0, 0, 0, false⟩
theorem rowI_zero_get (n i : Nat) (h : i < n * 5) : (rowI (List.replicate n zeroIf))[i]? = some (if i % 5 = 4 then .bool false else .int .i64 0) := by
  have hi : i / 5 < (List.replicate n zeroIf).length := by simp; omega
  have := rowI_get (List.replicate n zeroIf) (i / 5) (i % 5) hi (by omega)
  rw [show i / 5 * 5 + i % 5 = i by omega] at this
  rw [this, List.getElem_replicate]
  have h9 : i % 5 = 0 ∨ i % 5 = 1 ∨ i % 5 = 2 ∨ i % 5 = 3 ∨ i % 5 = 4 := by omega
  rcases h9 with h | h | h | h | h <;> (rw [h]; rfl)
theorem made_zeroI (n : Nat) : (madeCells (Value.agg #[.int .i64 0, .int .i64 0, .int .i64 0, .int .i64 0, .bool false]).cells (n * 5)).toList = rowI (List.replicate n zeroIf) := by
  apply List.ext_getElem?
  intro i
  by_cases h : i < n * 5
  · rw [rowI_zero_get n i h]
    simp only [madeCells, Value.cells, Array.toList_map, List.getElem?_map]
    have h9 : i % 5 = 0 ∨ i % 5 = 1 ∨ i % 5 = 2 ∨ i % 5 = 3 ∨ i % 5 = 4 := by omega
    rcases h9 with h9 | h9 | h9 | h9 | h9 <;> simp [h9, h]
  · rw [List.getElem?_eq_none (by simp [madeCells]; omega), List.getElem?_eq_none (by rw [rowI_length]; simp; omega)]
set_option maxRecDepth 100000 in
/-- 'make([]Iface, n)'. -/
theorem wpList_make_ifs {w : World} {ops : Array Oper} {rest : List Oper} {o : Oper} {a : Act} {Q : Exit → Act → World → Prop}
    (hgd : o.guard = none) (l c : Operand) (hop : o.op = Op.makeSlice 30 l c)
    (L : Int) (n : Nat) (hl : a.eval l = .int .i64 L) (hc : a.eval c = .int .i64 L) (hL : L = (n : Int)) (hn : n ≤ 100000000)
    (B : Nat) (w0 : World) (hb : Below B w0 w) (hB : B ≤ w.heap.size)
    (h : ∀ w', Row w' w.heap.size 82 (rowI (List.replicate n zeroIf)) → Below B w0 w' → wpList Try.prog ops Q rest (a.put o.dst (.slice (some ⟨w.heap.size, 0, none⟩) n n)) w') : wpList Try.prog ops Q (o :: rest) a w := by
  obtain ⟨i0, hi0, hz0, hz1, hz2⟩ := info_parts Try.infoI
  refine wpList_make_full w hgd l c 30 hop B 82 i0 _ 5 Try.underlying30 hi0 hz0 hz1 .i64 .i64 L L n hl hc hL hL (by rw [hz2]; omega) (by unfold maxLen; omega) hB ?_
  intro w' hown hgrow
  rcases hown.2 with ⟨h', _⟩ | ⟨g, cap, cur, h', hbg, hg, hnc, hcm, hcs, htake⟩
  · simp at h'
  · simp only [Value.slice.injEq, Option.some.injEq, Addr.mk.injEq, and_true, true_and] at h'
    obtain ⟨rfl, rfl⟩ := h'
    refine h w' ?_ (hb.trans ((Below.refl B w).grown hgrow hB (by intro k hk; cases hk)))
    unfold Row
    rw [hg, ← made_zeroI, ← htake, List.take_of_length_le (by simp [hcs])]
theorem rowI_set (es : List If) (k : Nat) (hk : k < es.length) (d a l c : Int) (u : Bool) (he : es[k] = ⟨d, a, l, c, u⟩) :
    ((((((rowI (es.take k ++ List.replicate (es.length - k) zeroIf)).set (k * 5) (.int .i64 d)).set (k * 5 + 1) (.int .i64 a)).set (k * 5 + 2) (.int .i64 l)).set (k * 5 + 3) (.int .i64 c)).set (k * 5 + 4) (.bool u)) = rowI (es.take (k + 1) ++ List.replicate (es.length - (k + 1)) zeroIf) := by
  have e1 : es.length - k = (es.length - (k + 1)) + 1 := by omega
  rw [e1, List.replicate_succ, rowI_append, rowI_cons, List.take_succ_eq_append_getElem hk, List.append_assoc, rowI_append, List.singleton_append, rowI_cons, he]
  exact set5i _ _ k (by rw [rowI_length, List.length_take]; omega) _ _ _ _ _ _ _ _ _ _
set_option maxRecDepth 100000 in
theorem szIfaceS_any (x : Option Addr) (len cap : Nat) (w : World) (hl : len ≤ maxLen) : Calls Try.prog 14 #[.slice x len cap, .int .i64 1048576] w fun e w' => e = .returned (.int .i64 (if len ≤ 1048576 then 1048576 - (len : Int) else -1)) ∧ w = w' := by
  unfold maxLen at hl
  by_cases h : len ≤ 1048576
  · rw [if_pos h]
    have d : decide (1048576 - (len : Int) < 0) = false := by simp; omega
    go_enter Try.func14, Try.ntmps14
    go_wp2
    go_ret
    exact ⟨rfl, rfl⟩
  · rw [if_neg h]
    have d : decide (1048576 - (len : Int) < 0) = true := by simp; omega
    go_enter Try.func14, Try.ntmps14
    go_wp2
    go_ret
    exact ⟨rfl, rfl⟩
set_option maxRecDepth 100000 in
theorem toIfaceS_any (x : Option Addr) (cap : Nat) (es : List If) (w : World) (h : ArgI w x es.length es) (hn : es.length ≤ 1048576) :
    Calls Try.prog 16 #[.slice x es.length cap] w fun e w' => ∃ g, e = .returned (.slice (some ⟨g, 0, none⟩) es.length es.length) ∧ w.heap.size ≤ g ∧ Row w' g 82 (rowI es) ∧ Below w.heap.size w w' := by
  have HE : Hid (∀ e w, Calls Try.prog 49 #[ifV e] w fun r w' => r = .returned (ifV e) ∧ Below w.heap.size w w') := toIface_any
  have HX : Hid (ArgI w x es.length es) := h
  clear h
  go_enter Try.func16, Try.ntmps16
  go_wp2_with (at_make; refine wpList_make_ifs rfl _ _ rfl _ es.length rfl rfl rfl (by omega) w.heap.size w (Below.refl _ _) (Nat.le_refl _) ?_)
  intro w0 hr0 hb0
  have hz : es.take 0 ++ List.replicate (es.length - 0) zeroIf = List.replicate es.length zeroIf := by simp
  rw [← hz] at hr0
  clear hz
  go_wp2_with fail
  go_loopw [4] (fun i wr => ∃ k : Nat, k ≤ es.length ∧ i = .int .i64 k ∧ Row wr w.heap.size 82 (rowI (es.take k ++ List.replicate (es.length - k) zeroIf)) ∧ Below w.heap.size w wr) (fun i _ => es.length - (intOf i).toNat)
  case atStart => exact ⟨0, Nat.zero_le _, rfl, hr0, hb0⟩
  case round =>
    obtain ⟨k, hk, rfl, hr, hb⟩ := hrel
    by_cases hlt : k < es.length
    · obtain ⟨p, d, a, l, c, u, rfl, hek, c0, c1, c2, c3, c4⟩ := (HX.out.below hb).at k hlt
      have HEk : Hid (∀ w, Calls Try.prog 49 #[.agg #[.int .i64 d, .int .i64 a, .int .i64 l, .int .i64 c, .bool u]] w fun r w' => r = .returned (.agg #[.int .i64 d, .int .i64 a, .int .i64 l, .int .i64 c, .bool u]) ∧ Below w.heap.size w w') := HE.out ⟨d, a, l, c, u⟩
      have hset := rowI_set es k hlt d a l c u hek
      have HS : Hid _ := hset
      clear hset HE hek hr0 hb0
      go_wp2_with fail
      refine (HEk.out _).mono ?_
      rintro e w1 ⟨rfl, hb1⟩
      have hr1 := hr.below hb1 hr.lt
      have hB1 := hb.trans (hb1.mono hb.size)
      clear c0 c1 c2 c3 c4 hb1 HEk hr hb
      have hlr : (rowI (es.take k ++ List.replicate (es.length - k) zeroIf)).length = es.length * 5 := by rw [rowI_length]; simp; omega
      obtain ⟨z0, hz0⟩ := Row.someI hr1 (k * 5) (by omega)
      obtain ⟨z1, hz1⟩ := Row.someI hr1 (k * 5 + 1) (by omega)
      obtain ⟨z2, hz2⟩ := Row.someI hr1 (k * 5 + 2) (by omega)
      obtain ⟨z3, hz3⟩ := Row.someI hr1 (k * 5 + 3) (by omega)
      obtain ⟨z4, hz4⟩ := Row.someI hr1 (k * 5 + 4) (by omega)
      have f0 := hr1.frozen (k * 5)
      have f1 := hr1.frozen (k * 5 + 1)
      have f2 := hr1.frozen (k * 5 + 2)
      have f3 := hr1.frozen (k * 5 + 3)
      have f4 := hr1.frozen (k * 5 + 4)
      have hr2 := fiveI_row hr1 (k * 5) (.int .i64 d) (.int .i64 a) (.int .i64 l) (.int .i64 c) (.bool u)
      rw [HS.out] at hr2
      have hB2 := fiveI_below hB1 w.heap.size (k * 5) (Nat.le_refl _) (.int .i64 d) (.int .i64 a) (.int .i64 l) (.int .i64 c) (.bool u)
      unfold fiveI at hr2 hB2
      have HH : Hid _ := And.intro hr2 hB2
      clear hr1 hB1 HS hlr hr2 hB2
      go_wp2_with fail
      go_roundw
      case rel => exact ⟨k + 1, hlt, by go_num, HH.out.1, HH.out.2⟩
      case measure => simp [intOf]; omega
    · obtain rfl : k = es.length := by omega
      rw [List.take_length, Nat.sub_self, List.replicate_zero, List.append_nil] at hr
      clear hlt hk
      go_wp2
      go_ret
      exact ⟨_, rfl, Nat.le_refl _, hr, hb⟩
end Go.Proofs.Ytflmbkjnlgibnaa
