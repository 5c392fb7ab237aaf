/- The laws' own lists of Leaks measured and handed over. (Written by gen_lks.py.) -/
import Derived.Test.YtpkjkjepmloddaaToLks
import Derived.Test.YtpkjkjepmloddaaToLk
namespace Go.Proofs.Ytpkjkjepmloddaa
open Go.RowKit Go.Sort

def sixL (w : World) (g o : Nat) (x0 x1 x2 x3 x4 x5 : Value) : World := ((((((w.setCell ⟨g, o, none⟩ x0).setCell ⟨g, o + 1, none⟩ x1).setCell ⟨g, o + 2, none⟩ x2).setCell ⟨g, o + 3, none⟩ x3).setCell ⟨g, o + 4, none⟩ x4).setCell ⟨g, o + 5, none⟩ x5)
theorem sixL_below {B : Nat} {w0 w : World} (h : Below B w0 w) (g o : Nat) (hg : B ≤ g) (x0 x1 x2 x3 x4 x5 : Value) : Below B w0 (sixL w g o x0 x1 x2 x3 x4 x5) := ((((((h.setCell (p := ⟨g, o, none⟩) hg x0).setCell (p := ⟨g, o + 1, none⟩) hg x1).setCell (p := ⟨g, o + 2, none⟩) hg x2).setCell (p := ⟨g, o + 3, none⟩) hg x3).setCell (p := ⟨g, o + 4, none⟩) hg x4).setCell (p := ⟨g, o + 5, none⟩) hg x5)
theorem sixL_row {w : World} {g : Nat} {t : TypeId} {l : List Value} (h : Row w g t l) (o : Nat) (x0 x1 x2 x3 x4 x5 : Value) : Row (sixL w g o x0 x1 x2 x3 x4 x5) g t ((((((l.set (o) x0).set (o + 1) x1).set (o + 2) x2).set (o + 3) x3).set (o + 4) x4).set (o + 5) x5) := ((((((h.set (o) x0).set (o + 1) x1).set (o + 2) x2).set (o + 3) x3).set (o + 4) x4).set (o + 5) x5)
theorem sixL_other {w : World} {b g : Nat} {t : TypeId} {l : List Value} (h : Row w b t l) (hne : b ≠ g) (o : Nat) (x0 x1 x2 x3 x4 x5 : Value) : Row (sixL w g o x0 x1 x2 x3 x4 x5) b t l := ((((((h.other (o) x0 hne).other (o + 1) x1 hne).other (o + 2) x2 hne).other (o + 3) x3 hne).other (o + 4) x4 hne).other (o + 5) x5 hne)
theorem set6L (A R : List Value) (k : Nat) (hA : A.length = k * 6) (z0 z1 z2 z3 z4 z5 x0 x1 x2 x3 x4 x5 : Value) : (((((((A ++ ([z0, z1, z2, z3, z4, z5] ++ R)).set (k * 6) x0).set (k * 6 + 1) x1).set (k * 6 + 2) x2).set (k * 6 + 3) x3).set (k * 6 + 4) x4).set (k * 6 + 5) x5) = A ++ ([x0, x1, x2, x3, x4, x5] ++ R) := by
  have e : ∀ (L : List Value) (j : Nat) (x : Value), (A ++ L).set (k * 6 + j) x = A ++ L.set j x := fun L j x => by
    rw [List.set_append, if_neg (by omega), hA, Nat.add_sub_cancel_left]
  have e0 : ∀ (L : List Value) (x : Value), (A ++ L).set (k * 6) x = A ++ L.set 0 x := fun L x => e L 0 x
  rw [e0, e, e, e, e, e]
  rfl
theorem Row.someL {w : World} {g : Nat} {t : TypeId} {l : List Value} (h : Row w g t l) (k : Nat) (hk : k < l.length) : ∃ v, w.cell? ⟨g, k, none⟩ = some v := ⟨l[k], by rw [h.cell, List.getElem?_eq_getElem hk]⟩
theorem Try.infoL : (Try.prog.info? 76).map (fun i => (i.zero, i.size, i.bytes)) = some (some (.agg #[.int .i64 0, .int .i64 0, .int .i64 0, .int .i64 0, .int .i64 0, .int .i64 0]), 6, 48) := by kernel_rfl
def zeroLk : Lk := ⟨0, 0, 0, 0, 0, 0⟩
theorem rowL_zero_get (n i : Nat) (h : i < n * 6) : (rowL (List.replicate n zeroLk))[i]? = some (.int .i64 0) := by
  have hi : i / 6 < (List.replicate n zeroLk).length := by simp; omega
  have := rowL_get (List.replicate n zeroLk) (i / 6) (i % 6) hi (by omega)
  rw [show i / 6 * 6 + i % 6 = i by omega] at this
  rw [this, List.getElem_replicate]
  have h9 : i % 6 = 0 ∨ i % 6 = 1 ∨ i % 6 = 2 ∨ i % 6 = 3 ∨ i % 6 = 4 ∨ i % 6 = 5 := by omega
  rcases h9 with h | h | h | h | h | h <;> (rw [h]; rfl)
theorem made_zeroL (n : Nat) : (madeCells (Value.agg #[.int .i64 0, .int .i64 0, .int .i64 0, .int .i64 0, .int .i64 0, .int .i64 0]).cells (n * 6)).toList = rowL (List.replicate n zeroLk) := by
  apply List.ext_getElem?
  intro i
  by_cases h : i < n * 6
  · rw [rowL_zero_get n i h]
    simp only [madeCells, Value.cells, Array.toList_map, List.getElem?_map]
    have h9 : i % 6 = 0 ∨ i % 6 = 1 ∨ i % 6 = 2 ∨ i % 6 = 3 ∨ i % 6 = 4 ∨ i % 6 = 5 := by omega
    rcases h9 with h9 | h9 | h9 | h9 | h9 | h9 <;> simp [h9, h]
  · rw [List.getElem?_eq_none (by simp [madeCells]; omega), List.getElem?_eq_none (by rw [rowL_length]; simp; omega)]
set_option maxRecDepth 100000 in
/-- 'make([]Leak, n)'. -/
theorem wpList_make_lks {w : World} {ops : Array Oper} {rest : List Oper} {o : Oper} {a : Act} {Q : Exit → Act → World → Prop}
    (hgd : o.guard = none) (l c : Operand) (hop : o.op = Op.makeSlice 43 l c)
    (L : Int) (n : Nat) (hl : a.eval l = .int .i64 L) (hc : a.eval c = .int .i64 L) (hL : L = (n : Int)) (hn : n ≤ 100000000)
    (B : Nat) (w0 : World) (hb : Below B w0 w) (hB : B ≤ w.heap.size)
    (h : ∀ w', Row w' w.heap.size 76 (rowL (List.replicate n zeroLk)) → Below B w0 w' → wpList Try.prog ops Q rest (a.put o.dst (.slice (some ⟨w.heap.size, 0, none⟩) n n)) w') : wpList Try.prog ops Q (o :: rest) a w := by
  obtain ⟨i0, hi0, hz0, hz1, hz2⟩ := info_parts Try.infoL
  refine wpList_make_full w hgd l c 43 hop B 76 i0 _ 6 Try.underlying43 hi0 hz0 hz1 .i64 .i64 L L n hl hc hL hL (by rw [hz2]; omega) (by unfold maxLen; omega) hB ?_
  intro w' hown hgrow
  rcases hown.2 with ⟨h', _⟩ | ⟨g, cap, cur, h', hbg, hg, hnc, hcm, hcs, htake⟩
  · simp at h'
  · simp only [Value.slice.injEq, Option.some.injEq, Addr.mk.injEq, and_true, true_and] at h'
    obtain ⟨rfl, rfl⟩ := h'
    refine h w' ?_ (hb.trans ((Below.refl B w).grown hgrow hB (by intro k hk; cases hk)))
    unfold Row
    rw [hg, ← made_zeroL, ← htake, List.take_of_length_le (by simp [hcs])]
theorem rowL_set (es : List Lk) (k : Nat) (hk : k < es.length) (fr tt a l ad tg : Int) (he : es[k] = ⟨fr, tt, a, l, ad, tg⟩) :
    (((((((rowL (es.take k ++ List.replicate (es.length - k) zeroLk)).set (k * 6) (.int .i64 fr)).set (k * 6 + 1) (.int .i64 tt)).set (k * 6 + 2) (.int .i64 a)).set (k * 6 + 3) (.int .i64 l)).set (k * 6 + 4) (.int .i64 ad)).set (k * 6 + 5) (.int .i64 tg)) = rowL (es.take (k + 1) ++ List.replicate (es.length - (k + 1)) zeroLk) := by
  have e1 : es.length - k = (es.length - (k + 1)) + 1 := by omega
  rw [e1, List.replicate_succ, rowL_append, rowL_cons, List.take_succ_eq_append_getElem hk, List.append_assoc, rowL_append, List.singleton_append, rowL_cons, he]
  exact set6L _ _ k (by rw [rowL_length, List.length_take]; omega) _ _ _ _ _ _ _ _ _ _ _ _
set_option maxRecDepth 100000 in
theorem szLeakS_any (x : Option Addr) (len cap : Nat) (w : World) (hl : len ≤ maxLen) : Calls Try.prog 11 #[.slice x len cap, .int .i64 1048576] w fun e w' => e = .returned (.int .i64 (if len ≤ 1048576 then 1048576 - (len : Int) else -1)) ∧ w = w' := by
  unfold maxLen at hl
  by_cases h : len ≤ 1048576
  · rw [if_pos h]
    have d : decide (1048576 - (len : Int) < 0) = false := by simp; omega
    go_enter Try.func11, Try.ntmps11
    go_wp2
    go_ret
    exact ⟨rfl, rfl⟩
  · rw [if_neg h]
    have d : decide (1048576 - (len : Int) < 0) = true := by simp; omega
    go_enter Try.func11, Try.ntmps11
    go_wp2
    go_ret
    exact ⟨rfl, rfl⟩
set_option maxRecDepth 100000 in
theorem toLeakS_any (x : Option Addr) (cap : Nat) (es : List Lk) (w : World) (h : ArgL w x es.length es) (hn : es.length ≤ 1048576) :
    Calls Try.prog 13 #[.slice x es.length cap] w fun e w' => ∃ g, e = .returned (.slice (some ⟨g, 0, none⟩) es.length es.length) ∧ w.heap.size ≤ g ∧ Row w' g 76 (rowL es) ∧ Below w.heap.size w w' := by
  have HE : Hid (∀ e w, Calls Try.prog 37 #[lkV e] w fun r w' => r = .returned (lkV e) ∧ Below w.heap.size w w') := toLeak_any
  have HX : Hid (ArgL w x es.length es) := h
  clear h
  go_enter Try.func13, Try.ntmps13
  go_wp2_with (at_make; refine wpList_make_lks rfl _ _ rfl _ es.length rfl rfl rfl (by omega) w.heap.size w (Below.refl _ _) (Nat.le_refl _) ?_)
  intro w0 hr0 hb0
  have hz : es.take 0 ++ List.replicate (es.length - 0) zeroLk = List.replicate es.length zeroLk := by simp
  rw [← hz] at hr0
  clear hz
  go_wp2_with fail
  go_loopw [4] (fun i wr => ∃ k : Nat, k ≤ es.length ∧ i = .int .i64 k ∧ Row wr w.heap.size 76 (rowL (es.take k ++ List.replicate (es.length - k) zeroLk)) ∧ Below w.heap.size w wr) (fun i _ => es.length - (intOf i).toNat)
  case atStart => exact ⟨0, Nat.zero_le _, rfl, hr0, hb0⟩
  case round =>
    obtain ⟨k, hk, rfl, hr, hb⟩ := hrel
    by_cases hlt : k < es.length
    · obtain ⟨p, fr, tt, a, l, ad, tg, rfl, hek, c0, c1, c2, c3, c4, c5⟩ := (HX.out.below hb).at k hlt
      have HEk : Hid (∀ w, Calls Try.prog 37 #[.agg #[.int .i64 fr, .int .i64 tt, .int .i64 a, .int .i64 l, .int .i64 ad, .int .i64 tg]] w fun r w' => r = .returned (.agg #[.int .i64 fr, .int .i64 tt, .int .i64 a, .int .i64 l, .int .i64 ad, .int .i64 tg]) ∧ Below w.heap.size w w') := HE.out ⟨fr, tt, a, l, ad, tg⟩
      have hset := rowL_set es k hlt fr tt a l ad tg hek
      have HS : Hid _ := hset
      clear hset HE hek hr0 hb0
      go_wp2_with fail
      refine (HEk.out _).mono ?_
      rintro e w1 ⟨rfl, hb1⟩
      have hr1 := hr.below hb1 hr.lt
      have hB1 := hb.trans (hb1.mono hb.size)
      clear c0 c1 c2 c3 c4 c5 hb1 HEk hr hb
      have hlr : (rowL (es.take k ++ List.replicate (es.length - k) zeroLk)).length = es.length * 6 := by rw [rowL_length]; simp; omega
      obtain ⟨z0, hz0⟩ := Row.someL hr1 (k * 6) (by omega)
      obtain ⟨z1, hz1⟩ := Row.someL hr1 (k * 6 + 1) (by omega)
      obtain ⟨z2, hz2⟩ := Row.someL hr1 (k * 6 + 2) (by omega)
      obtain ⟨z3, hz3⟩ := Row.someL hr1 (k * 6 + 3) (by omega)
      obtain ⟨z4, hz4⟩ := Row.someL hr1 (k * 6 + 4) (by omega)
      obtain ⟨z5, hz5⟩ := Row.someL hr1 (k * 6 + 5) (by omega)
      have f0 := hr1.frozen (k * 6)
      have f1 := hr1.frozen (k * 6 + 1)
      have f2 := hr1.frozen (k * 6 + 2)
      have f3 := hr1.frozen (k * 6 + 3)
      have f4 := hr1.frozen (k * 6 + 4)
      have f5 := hr1.frozen (k * 6 + 5)
      have hr2 := sixL_row hr1 (k * 6) (.int .i64 fr) (.int .i64 tt) (.int .i64 a) (.int .i64 l) (.int .i64 ad) (.int .i64 tg)
      rw [HS.out] at hr2
      have hB2 := sixL_below hB1 w.heap.size (k * 6) (Nat.le_refl _) (.int .i64 fr) (.int .i64 tt) (.int .i64 a) (.int .i64 l) (.int .i64 ad) (.int .i64 tg)
      unfold sixL at hr2 hB2
      have HH : Hid _ := And.intro hr2 hB2
      clear hr1 hB1 HS hlr hr2 hB2
      go_wp2_with fail
      go_roundw
      case rel => exact ⟨k + 1, hlt, by go_num, HH.out.1, HH.out.2⟩
      case measure => simp [intOf]; omega
    · obtain rfl : k = es.length := by omega
      rw [List.take_length, Nat.sub_self, List.replicate_zero, List.append_nil] at hr
      clear hlt hk
      go_wp2
      go_ret
      exact ⟨_, rfl, Nat.le_refl _, hr, hb⟩
end Go.Proofs.Ytpkjkjepmloddaa
