/- The laws' own marks in a list of routes: written, and looked for. (Written by gen_markr.py.) -/
import Derived.Test.YtflmbkjnlgibnaaToRib
import Derived.Test.YtflmbkjnlgibnaaEqRts
namespace Go.Proofs.Ytflmbkjnlgibnaa
open Go.RowKit Go.Sort

def m3 (x : Int) : Bool := x.tmod 3 == 0
def markR (K i : Nat) : Rt := ⟨(K : Int) + 9 * (i : Int) + 0, (K : Int) + 9 * (i : Int) + 1, (K : Int) + 9 * (i : Int) + 2, (K : Int) + 9 * (i : Int) + 3, (K : Int) + 9 * (i : Int) + 4, (K : Int) + 9 * (i : Int) + 5, (K : Int) + 9 * (i : Int) + 6, (K : Int) + 9 * (i : Int) + 7, m3 ((K : Int) + 9 * (i : Int) + 8)⟩
def marksR (K n : Nat) : List Rt := (List.range n).map (markR K)
theorem marksR_length (K n : Nat) : (marksR K n).length = n := by simp [marksR]
theorem ownsR_opened {w : World} {base : Nat} {p : Option Addr} {cv : Nat} {es : List Rt} (h : w.ownsRow base 101 9 (.slice p es.length cv) es.length (rowR es)) : es = [] ∨ ∃ g rest, p = some ⟨g, 0, none⟩ ∧ base ≤ g ∧ es.length ≤ cv ∧ cv ≤ maxLen ∧ Row w g 101 (rowR es ++ rest) ∧ (rowR es ++ rest).length = cv * 9 := by
  rcases h.2 with ⟨h1, h2⟩ | ⟨g, cap, cur, h1, h2, h3, h4, h5, h6, h7⟩
  · exact .inl (List.length_eq_zero_iff.1 h2)
  · simp only [Value.slice.injEq] at h1
    obtain ⟨rfl, _, rfl⟩ := h1
    refine .inr ⟨g, cur.toList.drop (es.length * 9), rfl, h2, h4, h5, ?_, ?_⟩
    · unfold Row
      rw [← h7, List.take_append_drop]
      exact h3
    · rw [← h7, List.take_append_drop]; simpa using h6
theorem ownsR_shut {w : World} {base g n cv : Nat} {es : List Rt} {rest : List Value} (hn : n = es.length) (hb : base ≤ g) (h4 : n ≤ cv) (h5 : cv ≤ maxLen) (hr : Row w g 101 (rowR es ++ rest)) (hl : (rowR es ++ rest).length = cv * 9) : w.ownsRow base 101 9 (.slice (some ⟨g, 0, none⟩) n cv) n (rowR es) := by
  subst hn
  exact ⟨by rw [rowR_length]; omega, .inr ⟨g, cv, _, rfl, hb, hr, h4, h5, by simpa using hl, by
    have : (rowR es).length = es.length * 9 := by rw [rowR_length]; omega
    simp only
    rw [← this]; simp⟩⟩
theorem marksR_set (K : Nat) (es : List Rt) (rest : List Value) (k : Nat) (hk : k < es.length) :
    (((((((((rowR (marksR K k ++ es.drop k) ++ rest).set (k * 9) (.int .i64 ((K : Int) + 9 * (k : Int) + 0))).set (k * 9 + 1) (.int .i64 ((K : Int) + 9 * (k : Int) + 1))).set (k * 9 + 2) (.int .i64 ((K : Int) + 9 * (k : Int) + 2))).set (k * 9 + 3) (.int .i64 ((K : Int) + 9 * (k : Int) + 3))).set (k * 9 + 4) (.int .i64 ((K : Int) + 9 * (k : Int) + 4))).set (k * 9 + 5) (.int .i64 ((K : Int) + 9 * (k : Int) + 5))).set (k * 9 + 6) (.int .i64 ((K : Int) + 9 * (k : Int) + 6))).set (k * 9 + 7) (.int .i64 ((K : Int) + 9 * (k : Int) + 7))).set (k * 9 + 8) (.bool (m3 ((K : Int) + 9 * (k : Int) + 8))) = rowR (marksR K (k + 1) ++ es.drop (k + 1)) ++ rest := by
  have e1 : marksR K (k + 1) = marksR K k ++ [markR K k] := by simp [marksR, List.range_succ]
  rw [List.drop_eq_getElem_cons hk, e1, rowR_append, rowR_cons, List.append_assoc (marksR K k), rowR_append, List.singleton_append, rowR_cons, List.append_assoc, List.append_assoc, List.append_assoc, List.append_assoc]
  exact set9 _ _ k (by rw [rowR_length, marksR_length]; omega) _ _ _ _ _ _ _ _ _ _ _ _ _ _ _ _ _ _
theorem rtsIn_rest {w : World} {g : Nat} {t : TypeId} {es : List Rt} {rest : List Value} (h : Row w g t (rowR es ++ rest)) : RtsIn w (some ⟨g, 0, none⟩) es := .inr ⟨g, rfl, h.lt, fun j u hj => by rw [h.cell, List.getElem?_append_left (List.getElem?_eq_some_iff.1 hj).1]; exact hj⟩
set_option maxRecDepth 100000 in
set_option maxHeartbeats 2000000 in
theorem markRouteS_in (K g n cv : Nat) (es : List Rt) (rest : List Value) (w : World) (hn : n = es.length) (hK : K ≤ 100000000) (h8 : n ≤ 100000000) (hr : Row w g 101 (rowR es ++ rest)) :
    Calls Try.prog 92 #[.slice (some ⟨g, 0, none⟩) n cv, .int .i64 K] w fun e w' => e = .returned (.int .i64 ((K : Int) + 9 * (n : Int))) ∧ Row w' g 101 (rowR (marksR K n) ++ rest) ∧ Below g w w' ∧ ∀ b t l, b ≠ g → Row w b t l → Row w' b t l := by
  have HN : Hid (n = es.length) := hn
  have hr0 : Row w g 101 (rowR (marksR K 0 ++ es.drop 0) ++ rest) := hr
  clear hn hr
  go_enter Try.func92, Try.ntmps92
  go_wp2_with fail
  go_loopw [5, 1] (fun i m wr => ∃ k : Nat, k ≤ n ∧ i = .int .i64 k ∧ m = .int .i64 ((K : Int) + 9 * (k : Int)) ∧ Row wr g 101 (rowR (marksR K k ++ es.drop k) ++ rest) ∧ Below g w wr ∧ ∀ b t l, b ≠ g → Row w b t l → Row wr b t l) (fun i _ _ => n - (intOf i).toNat)
  case atStart => exact ⟨0, Nat.zero_le _, rfl, by go_num, hr0, Below.refl _ _, fun _ _ _ _ h => h⟩
  case round =>
    obtain ⟨k, hk, rfl, rfl, hr, hb, hoth⟩ := hrel
    have HOT : Hid (∀ b t l, b ≠ g → Row w b t l → Row wr b t l) := hoth
    clear hr0 hoth
    by_cases hlt : k < n
    · have hlen : (marksR K k ++ es.drop k).length = n := by rw [List.length_append, marksR_length, List.length_drop, ← HN.out]; omega
      have hlr : k * 9 + 8 < (rowR (marksR K k ++ es.drop k) ++ rest).length := by rw [List.length_append, rowR_length, hlen]; omega
      obtain ⟨z0, c0⟩ := Row.someR hr (k * 9) (by omega)
      obtain ⟨z1, c1⟩ := Row.someR hr (k * 9 + 1) (by omega)
      obtain ⟨z2, c2⟩ := Row.someR hr (k * 9 + 2) (by omega)
      obtain ⟨z3, c3⟩ := Row.someR hr (k * 9 + 3) (by omega)
      obtain ⟨z4, c4⟩ := Row.someR hr (k * 9 + 4) (by omega)
      obtain ⟨z5, c5⟩ := Row.someR hr (k * 9 + 5) (by omega)
      obtain ⟨z6, c6⟩ := Row.someR hr (k * 9 + 6) (by omega)
      obtain ⟨z7, c7⟩ := Row.someR hr (k * 9 + 7) (by omega)
      obtain ⟨z8, c8⟩ := Row.someR hr (k * 9 + 8) (by omega)
      have f0 := hr.frozen (k * 9)
      have f1 := hr.frozen (k * 9 + 1)
      have f2 := hr.frozen (k * 9 + 2)
      have f3 := hr.frozen (k * 9 + 3)
      have f4 := hr.frozen (k * 9 + 4)
      have f5 := hr.frozen (k * 9 + 5)
      have f6 := hr.frozen (k * 9 + 6)
      have f7 := hr.frozen (k * 9 + 7)
      have f8 := hr.frozen (k * 9 + 8)
      have hr2 := nine_row hr (k * 9) (.int .i64 ((K : Int) + 9 * (k : Int) + 0)) (.int .i64 ((K : Int) + 9 * (k : Int) + 1)) (.int .i64 ((K : Int) + 9 * (k : Int) + 2)) (.int .i64 ((K : Int) + 9 * (k : Int) + 3)) (.int .i64 ((K : Int) + 9 * (k : Int) + 4)) (.int .i64 ((K : Int) + 9 * (k : Int) + 5)) (.int .i64 ((K : Int) + 9 * (k : Int) + 6)) (.int .i64 ((K : Int) + 9 * (k : Int) + 7)) (.bool (m3 ((K : Int) + 9 * (k : Int) + 8)))
      rw [marksR_set K es rest k (by rw [← HN.out]; exact hlt)] at hr2
      have hB2 := nine_below hb g (k * 9) (Nat.le_refl _) (.int .i64 ((K : Int) + 9 * (k : Int) + 0)) (.int .i64 ((K : Int) + 9 * (k : Int) + 1)) (.int .i64 ((K : Int) + 9 * (k : Int) + 2)) (.int .i64 ((K : Int) + 9 * (k : Int) + 3)) (.int .i64 ((K : Int) + 9 * (k : Int) + 4)) (.int .i64 ((K : Int) + 9 * (k : Int) + 5)) (.int .i64 ((K : Int) + 9 * (k : Int) + 6)) (.int .i64 ((K : Int) + 9 * (k : Int) + 7)) (.bool (m3 ((K : Int) + 9 * (k : Int) + 8)))
      have hO2 := fun b t l (hne : b ≠ g) (h : Row w b t l) => nine_other (HOT.out b t l hne h) hne (k * 9) (.int .i64 ((K : Int) + 9 * (k : Int) + 0)) (.int .i64 ((K : Int) + 9 * (k : Int) + 1)) (.int .i64 ((K : Int) + 9 * (k : Int) + 2)) (.int .i64 ((K : Int) + 9 * (k : Int) + 3)) (.int .i64 ((K : Int) + 9 * (k : Int) + 4)) (.int .i64 ((K : Int) + 9 * (k : Int) + 5)) (.int .i64 ((K : Int) + 9 * (k : Int) + 6)) (.int .i64 ((K : Int) + 9 * (k : Int) + 7)) (.bool (m3 ((K : Int) + 9 * (k : Int) + 8)))
      unfold nine at hr2 hB2 hO2
      have HH : Hid _ := And.intro hr2 (And.intro hB2 hO2)
      clear hr hb hr2 hB2 hlen hlr hO2 HOT
      go_wp2_with fail
      have E : ∀ x : Int, x = (K : Int) + 9 * (k : Int) → x + 1 = x + 1 := fun _ _ => rfl
      clear E
      rw [show (K : Int) + 9 * (k : Int) + 1 + 1 + 1 + 1 + 1 + 1 + 1 + 1 + 1 = (K : Int) + 9 * ((k + 1 : Nat) : Int) by omega, show (K : Int) + 9 * (k : Int) + 1 + 1 + 1 + 1 + 1 + 1 + 1 + 1 = (K : Int) + 9 * (k : Int) + 8 by omega, show (K : Int) + 9 * (k : Int) + 1 + 1 + 1 + 1 + 1 + 1 + 1 = (K : Int) + 9 * (k : Int) + 7 by omega, show (K : Int) + 9 * (k : Int) + 1 + 1 + 1 + 1 + 1 + 1 = (K : Int) + 9 * (k : Int) + 6 by omega, show (K : Int) + 9 * (k : Int) + 1 + 1 + 1 + 1 + 1 = (K : Int) + 9 * (k : Int) + 5 by omega, show (K : Int) + 9 * (k : Int) + 1 + 1 + 1 + 1 = (K : Int) + 9 * (k : Int) + 4 by omega, show (K : Int) + 9 * (k : Int) + 1 + 1 + 1 = (K : Int) + 9 * (k : Int) + 3 by omega, show (K : Int) + 9 * (k : Int) + 1 + 1 = (K : Int) + 9 * (k : Int) + 2 by omega]
      refine ⟨⟨k + 1, hlt, by go_num, rfl, HH.out.1, HH.out.2.1, HH.out.2.2⟩, ?_⟩
      simp [intOf]
      omega
    · obtain rfl : k = n := by omega
      have hre : marksR K k ++ es.drop k = marksR K k := by rw [HN.out, List.drop_length, List.append_nil]
      rw [hre] at hr
      clear hlt hk hre
      go_wp2
      go_ret
      exact ⟨rfl, hr, hb, HOT.out⟩
set_option maxRecDepth 100000 in
set_option maxHeartbeats 2000000 in
theorem heldRouteS_in (K : Nat) (p : Option Addr) (n cv : Nat) (w : World) (hK : K ≤ 100000000) (h8 : n ≤ 100000000) (hE : RtsIn w p (marksR K n)) :
    Calls Try.prog 105 #[.slice p n cv, .int .i64 K] w fun e w' => e = .returned (.int .i64 ((K : Int) + 9 * (n : Int))) ∧ w = w' := by
  have HX : Hid (RtsIn w p (marksR K n)) := hE
  clear hE
  go_enter Try.func105, Try.ntmps105
  go_wp2_with fail
  go_loop [5, 1] (fun i m => ∃ k : Nat, k ≤ n ∧ i = .int .i64 k ∧ m = .int .i64 ((K : Int) + 9 * (k : Int))) (fun i _ => n - (intOf i).toNat)
  case atStart => exact ⟨0, Nat.zero_le _, rfl, by go_num⟩
  case round =>
    obtain ⟨k, hk, rfl, rfl⟩ := hrel
    by_cases hlt : k < n
    · obtain ⟨g, y0, y1, y2, y3, y4, y5, y6, y7, y8, rfl, hg, hek, c0, c1, c2, c3, c4, c5, c6, c7, c8⟩ := HX.out.at k (by rw [marksR_length]; exact hlt)
      have hmk : (marksR K n)[k]'(by rw [marksR_length]; exact hlt) = markR K k := by simp [marksR]
      rw [hmk] at hek
      simp only [markR, Rt.mk.injEq] at hek
      obtain ⟨rfl, rfl, rfl, rfl, rfl, rfl, rfl, rfl, rfl⟩ := hek
      rw [Int.add_zero] at c0
      rw [show (K : Int) + 9 * (k : Int) + 1 = (K : Int) + 9 * (k : Int) + 1 by omega] at c1
      rw [show (K : Int) + 9 * (k : Int) + 2 = (K : Int) + 9 * (k : Int) + 1 + 1 by omega] at c2
      rw [show (K : Int) + 9 * (k : Int) + 3 = (K : Int) + 9 * (k : Int) + 1 + 1 + 1 by omega] at c3
      rw [show (K : Int) + 9 * (k : Int) + 4 = (K : Int) + 9 * (k : Int) + 1 + 1 + 1 + 1 by omega] at c4
      rw [show (K : Int) + 9 * (k : Int) + 5 = (K : Int) + 9 * (k : Int) + 1 + 1 + 1 + 1 + 1 by omega] at c5
      rw [show (K : Int) + 9 * (k : Int) + 6 = (K : Int) + 9 * (k : Int) + 1 + 1 + 1 + 1 + 1 + 1 by omega] at c6
      rw [show (K : Int) + 9 * (k : Int) + 7 = (K : Int) + 9 * (k : Int) + 1 + 1 + 1 + 1 + 1 + 1 + 1 by omega] at c7
      rw [show (K : Int) + 9 * (k : Int) + 8 = (K : Int) + 9 * (k : Int) + 1 + 1 + 1 + 1 + 1 + 1 + 1 + 1 by omega] at c8
      clear hmk
      unfold m3 at c8
      have hx : ((((K : Int) + 9 * (k : Int) + 1 + 1 + 1 + 1 + 1 + 1 + 1 + 1).tmod 3 == 0) != (((K : Int) + 9 * (k : Int) + 1 + 1 + 1 + 1 + 1 + 1 + 1 + 1).tmod 3 == 0)) = false := by simp
      go_wp2_with fail
      refine ⟨⟨k + 1, hlt, by go_num, by go_num⟩, ?_⟩
      simp [intOf]
      omega
    · obtain rfl : k = n := by omega
      clear hlt hk
      go_wp2
      go_ret
      exact ⟨rfl, rfl⟩
end Go.Proofs.Ytflmbkjnlgibnaa
