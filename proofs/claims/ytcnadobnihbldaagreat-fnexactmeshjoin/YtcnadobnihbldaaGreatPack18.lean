/- Texts that stand on each other, in one file: OwnO, MarkR, OwnRb, OutD, Took, Told, MarkI, MarkIv, OpLi, MkLi, MarkLi, EqIv, MeshM. -/
import Derived.Test.YtcnadobnihbldaaGreatPack16
import Derived.Test.YtcnadobnihbldaaGreatPack17
import Derived.Test.YtcnadobnihbldaaGreatTail
import Derived.Test.YtcnadobnihbldaaGreatPack13
import Derived.Lib.SmallJoins
import Derived.Deep.Slices
import Derived.OwnWalk
import Derived.Lib.QuietBelow
import Derived.BigQuiet
/- Lists of Routes that are one's own. (From gen_markr.py's MarkR and OwnRb.) -/
namespace Go.Proofs.YtcnadobnihbldaaGreat
open Go.RowKit Go.Sort

theorem ownsR_opened {w : World} {base : Nat} {p : Option Addr} {cv : Nat} {es : List Rt} (h : w.ownsRow base 155 9 (.slice p es.length cv) es.length (rowR es)) : es = [] ∨ ∃ g rest, p = some ⟨g, 0, none⟩ ∧ base ≤ g ∧ es.length ≤ cv ∧ cv ≤ maxLen ∧ Row w g 155 (rowR es ++ rest) ∧ (rowR es ++ rest).length = cv * 9 := by
  rcases h.2 with ⟨h1, h2⟩ | ⟨g, cap, cur, h1, h2, h3, h4, h5, h6, h7⟩
  · exact .inl (List.length_eq_zero_iff.1 h2)
  · simp only [Value.slice.injEq] at h1
    obtain ⟨rfl, _, rfl⟩ := h1
    refine .inr ⟨g, cur.toList.drop (es.length * 9), rfl, h2, h4, h5, ?_, ?_⟩
    · unfold Row
      rw [← h7, List.take_append_drop]
      exact h3
    · rw [← h7, List.take_append_drop]; simpa using h6
theorem ownsR_shut {w : World} {base g n cv : Nat} {es : List Rt} {rest : List Value} (hn : n = es.length) (hb : base ≤ g) (h4 : n ≤ cv) (h5 : cv ≤ maxLen) (hr : Row w g 155 (rowR es ++ rest)) (hl : (rowR es ++ rest).length = cv * 9) : w.ownsRow base 155 9 (.slice (some ⟨g, 0, none⟩) n cv) n (rowR es) := by
  subst hn
  exact ⟨by rw [rowR_length]; omega, .inr ⟨g, cv, _, rfl, hb, hr, h4, h5, by simpa using hl, by
    have : (rowR es).length = es.length * 9 := by rw [rowR_length]; omega
    simp only
    rw [← this]; simp⟩⟩
theorem rtsIn_rest {w : World} {g : Nat} {t : TypeId} {es : List Rt} {rest : List Value} (h : Row w g t (rowR es ++ rest)) : RtsIn w (some ⟨g, 0, none⟩) es := .inr ⟨g, rfl, h.lt, fun j u hj => by rw [h.cell, List.getElem?_append_left (List.getElem?_eq_some_iff.1 hj).1]; exact hj⟩

theorem ownsR_in {w : World} {base : Nat} {p : Option Addr} {n cv : Nat} {es : List Rt} (hn : n = es.length) (h : w.ownsRow base 155 9 (.slice p n cv) n (rowR es)) : RtsIn w p es := by
  subst hn
  rcases ownsR_opened h with h0 | ⟨g, rest, rfl, -, -, -, hr, -⟩
  · exact .inl h0
  · exact rtsIn_rest hr
theorem ownsR_row {w : World} {g n : Nat} {es : List Rt} (hn : n = es.length) (h8 : n ≤ 100000000) (h : Row w g 155 (rowR es)) : w.ownsRow g 155 9 (.slice (some ⟨g, 0, none⟩) n n) n (rowR es) := ownsR_shut (rest := []) hn (Nat.le_refl _) (Nat.le_refl _) (by unfold maxLen; omega) (by rw [List.append_nil]; exact h) (by rw [List.append_nil, rowR_length, hn]; omega)
theorem ownsR_kept {w w' : World} {base : Nat} {p : Option Addr} {n cv : Nat} {es : List Rt} (hn : n = es.length) (h : w.ownsRow base 155 9 (.slice p n cv) n (rowR es)) (hk : ∀ b t l, p = some ⟨b, 0, none⟩ → Row w b t l → Row w' b t l) : w'.ownsRow base 155 9 (.slice p n cv) n (rowR es) := by
  subst hn
  rcases ownsR_opened h with h0 | ⟨g, rest, rfl, h1, h2, h3, hr, hl⟩
  · subst h0
    rcases h.2 with ⟨e1, e2⟩ | ⟨g, cap, cur, e1, e2, e3, e4, e5, e6, e7⟩
    · exact ⟨rfl, .inl ⟨e1, e2⟩⟩
    · simp only [Value.slice.injEq] at e1
      obtain ⟨rfl, -, rfl⟩ := e1
      have := hk g 155 cur.toList rfl (by unfold Row; simpa using e3)
      exact ⟨rfl, .inr ⟨g, _, cur, rfl, e2, by unfold Row at this; simpa using this, e4, e5, e6, e7⟩⟩
  · exact ownsR_shut rfl h1 h2 h3 (hk _ _ _ rfl hr) hl
theorem ownsR_below {w w' : World} {base n : Nat} {v : Value} {xs : List Value} (h : w.ownsRow base 155 9 v n xs) (hb : Below w.heap.size w w') : w'.ownsRow base 155 9 v n xs :=
  World.ownsRow.kept h (row := none) ⟨hb.os, hb.tape, hb.output, hb.size, fun k hk _ => hb.block k hk⟩ (by cases v.ownBlock <;> simp)
theorem ownsR_mono {w : World} {base base' n : Nat} {v : Value} {xs : List Value} (h : w.ownsRow base 155 9 v n xs) (hb : base' ≤ base) : w.ownsRow base' 155 9 v n xs := by
  rcases h.2 with ⟨h1, h2⟩ | ⟨g, cap, cur, h1, h2, h3, h4, h5, h6, h7⟩
  · exact ⟨h.1, .inl ⟨h1, h2⟩⟩
  · exact ⟨h.1, .inr ⟨g, cap, cur, h1, by omega, h3, h4, h5, h6, h7⟩⟩
theorem ownsR_ne {w : World} {base n cv g : Nat} {p : Option Addr} {xs l : List Value} {t : TypeId} (h : w.ownsRow base 155 9 (.slice p n cv) n xs) (hr : Row w g t l) (ht : t ≠ 155) : p ≠ some ⟨g, 0, none⟩ := by
  rintro rfl
  rcases h.2 with ⟨h1, _⟩ | ⟨g', cap, cur, h1, _, h3, _⟩
  · simp at h1
  · simp only [Value.slice.injEq, Option.some.injEq, Addr.mk.injEq, and_true] at h1
    obtain ⟨rfl, _⟩ := h1
    unfold Row at hr
    rw [h3] at hr
    simp only [Option.some.injEq, Obj.cells.injEq] at hr
    exact ht hr.2.1.symm
theorem ownsR_base {w : World} {base n cv g : Nat} {p : Option Addr} {xs : List Value} (h : w.ownsRow base 155 9 (.slice p n cv) n xs) (hg : g < base) : p ≠ some ⟨g, 0, none⟩ := by
  rintro rfl
  have := (World.ownsRow.lt h g rfl).1
  omega
theorem ownsR_size {w : World} {base n cv g : Nat} {p : Option Addr} {xs : List Value} (h : w.ownsRow base 155 9 (.slice p n cv) n xs) (hg : w.heap.size ≤ g) : p ≠ some ⟨g, 0, none⟩ := by
  rintro rfl
  have := (World.ownsRow.lt h g rfl).2
  omega
theorem row_ne {w : World} {g k : Nat} {l m : List Value} {t u : TypeId} (h : Row w g t l) (hk : Row w k u m) (ht : t ≠ u) : g ≠ k := by
  rintro rfl
  unfold Row at h hk
  rw [h] at hk
  simp only [Option.some.injEq, Obj.cells.injEq] at hk
  exact ht hk.2.1
end Go.Proofs.YtcnadobnihbldaaGreat
/- The laws' own marks in a list of routes: written, and looked for. (Written by gen_markr.py.) -/
namespace Go.Proofs.YtcnadobnihbldaaGreat
open Go.RowKit Go.Sort

def m3 (x : Int) : Bool := x.tmod 3 == 0
def markR (K i : Nat) : Rt := ⟨(K : Int) + 9 * (i : Int) + 0, (K : Int) + 9 * (i : Int) + 1, (K : Int) + 9 * (i : Int) + 2, (K : Int) + 9 * (i : Int) + 3, (K : Int) + 9 * (i : Int) + 4, (K : Int) + 9 * (i : Int) + 5, (K : Int) + 9 * (i : Int) + 6, (K : Int) + 9 * (i : Int) + 7, m3 ((K : Int) + 9 * (i : Int) + 8)⟩
def marksR (K n : Nat) : List Rt := (List.range n).map (markR K)
theorem marksR_length (K n : Nat) : (marksR K n).length = n := by simp [marksR]
theorem marksR_set (K : Nat) (es : List Rt) (rest : List Value) (k : Nat) (hk : k < es.length) :
    (((((((((rowR (marksR K k ++ es.drop k) ++ rest).set (k * 9) (.int .i64 ((K : Int) + 9 * (k : Int) + 0))).set (k * 9 + 1) (.int .i64 ((K : Int) + 9 * (k : Int) + 1))).set (k * 9 + 2) (.int .i64 ((K : Int) + 9 * (k : Int) + 2))).set (k * 9 + 3) (.int .i64 ((K : Int) + 9 * (k : Int) + 3))).set (k * 9 + 4) (.int .i64 ((K : Int) + 9 * (k : Int) + 4))).set (k * 9 + 5) (.int .i64 ((K : Int) + 9 * (k : Int) + 5))).set (k * 9 + 6) (.int .i64 ((K : Int) + 9 * (k : Int) + 6))).set (k * 9 + 7) (.int .i64 ((K : Int) + 9 * (k : Int) + 7))).set (k * 9 + 8) (.bool (m3 ((K : Int) + 9 * (k : Int) + 8))) = rowR (marksR K (k + 1) ++ es.drop (k + 1)) ++ rest := by
  have e1 : marksR K (k + 1) = marksR K k ++ [markR K k] := by simp [marksR, List.range_succ]
  rw [List.drop_eq_getElem_cons hk, e1, rowR_append, rowR_cons, List.append_assoc (marksR K k), rowR_append, List.singleton_append, rowR_cons, List.append_assoc, List.append_assoc, List.append_assoc, List.append_assoc]
  exact set9 _ _ k (by rw [rowR_length, marksR_length]; omega) _ _ _ _ _ _ _ _ _ _ _ _ _ _ _ _ _ _
set_option maxRecDepth 100000 in
set_option maxHeartbeats 2000000 in
theorem markRouteS_in (K g n cv : Nat) (es : List Rt) (rest : List Value) (w : World) (hn : n = es.length) (hK : K ≤ 100000000) (h8 : n ≤ 100000000) (hr : Row w g 155 (rowR es ++ rest)) :
    Calls Tryz.prog 85 #[.slice (some ⟨g, 0, none⟩) n cv, .int .i64 K] w fun e w' => e = .returned (.int .i64 ((K : Int) + 9 * (n : Int))) ∧ Row w' g 155 (rowR (marksR K n) ++ rest) ∧ Below g w w' ∧ ∀ b t l, b ≠ g → Row w b t l → Row w' b t l := by
  have HN : Hid (n = es.length) := hn
  have hr0 : Row w g 155 (rowR (marksR K 0 ++ es.drop 0) ++ rest) := hr
  clear hn hr
  go_enter Tryz.func85, Tryz.ntmps85
  go_wp2_with fail
  go_loopw [5, 1] (fun i m wr => ∃ k : Nat, k ≤ n ∧ i = .int .i64 k ∧ m = .int .i64 ((K : Int) + 9 * (k : Int)) ∧ Row wr g 155 (rowR (marksR K k ++ es.drop k) ++ rest) ∧ Below g w wr ∧ ∀ b t l, b ≠ g → Row w b t l → Row wr b t l) (fun i _ _ => n - (intOf i).toNat)
  case atStart => exact ⟨0, Nat.zero_le _, rfl, by go_num, hr0, Below.refl _ _, fun _ _ _ _ h => h⟩
  case round =>
    obtain ⟨k, hk, rfl, rfl, hr, hb, hoth⟩ := hrel
    have HOT : Hid (∀ b t l, b ≠ g → Row w b t l → Row wr b t l) := hoth
    clear hr0 hoth
    by_cases hlt : k < n
    · have hlen : (marksR K k ++ es.drop k).length = n := by rw [List.length_append, marksR_length, List.length_drop, ← HN.out]; omega
      have hlr : k * 9 + 8 < (rowR (marksR K k ++ es.drop k) ++ rest).length := by rw [List.length_append, rowR_length, hlen]; omega
      obtain ⟨z0, c0⟩ := Row.someR hr (k * 9) (by omega)
      obtain ⟨z1, c1⟩ := Row.someR hr (k * 9 + 1) (by omega)
      obtain ⟨z2, c2⟩ := Row.someR hr (k * 9 + 2) (by omega)
      obtain ⟨z3, c3⟩ := Row.someR hr (k * 9 + 3) (by omega)
      obtain ⟨z4, c4⟩ := Row.someR hr (k * 9 + 4) (by omega)
      obtain ⟨z5, c5⟩ := Row.someR hr (k * 9 + 5) (by omega)
      obtain ⟨z6, c6⟩ := Row.someR hr (k * 9 + 6) (by omega)
      obtain ⟨z7, c7⟩ := Row.someR hr (k * 9 + 7) (by omega)
      obtain ⟨z8, c8⟩ := Row.someR hr (k * 9 + 8) (by omega)
      have f0 := hr.frozen (k * 9)
      have f1 := hr.frozen (k * 9 + 1)
      have f2 := hr.frozen (k * 9 + 2)
      have f3 := hr.frozen (k * 9 + 3)
      have f4 := hr.frozen (k * 9 + 4)
      have f5 := hr.frozen (k * 9 + 5)
      have f6 := hr.frozen (k * 9 + 6)
      have f7 := hr.frozen (k * 9 + 7)
      have f8 := hr.frozen (k * 9 + 8)
      have hr2 := nine_row hr (k * 9) (.int .i64 ((K : Int) + 9 * (k : Int) + 0)) (.int .i64 ((K : Int) + 9 * (k : Int) + 1)) (.int .i64 ((K : Int) + 9 * (k : Int) + 2)) (.int .i64 ((K : Int) + 9 * (k : Int) + 3)) (.int .i64 ((K : Int) + 9 * (k : Int) + 4)) (.int .i64 ((K : Int) + 9 * (k : Int) + 5)) (.int .i64 ((K : Int) + 9 * (k : Int) + 6)) (.int .i64 ((K : Int) + 9 * (k : Int) + 7)) (.bool (m3 ((K : Int) + 9 * (k : Int) + 8)))
      rw [marksR_set K es rest k (by rw [← HN.out]; exact hlt)] at hr2
      have hB2 := nine_below hb g (k * 9) (Nat.le_refl _) (.int .i64 ((K : Int) + 9 * (k : Int) + 0)) (.int .i64 ((K : Int) + 9 * (k : Int) + 1)) (.int .i64 ((K : Int) + 9 * (k : Int) + 2)) (.int .i64 ((K : Int) + 9 * (k : Int) + 3)) (.int .i64 ((K : Int) + 9 * (k : Int) + 4)) (.int .i64 ((K : Int) + 9 * (k : Int) + 5)) (.int .i64 ((K : Int) + 9 * (k : Int) + 6)) (.int .i64 ((K : Int) + 9 * (k : Int) + 7)) (.bool (m3 ((K : Int) + 9 * (k : Int) + 8)))
      have hO2 := fun b t l (hne : b ≠ g) (h : Row w b t l) => nine_other (HOT.out b t l hne h) hne (k * 9) (.int .i64 ((K : Int) + 9 * (k : Int) + 0)) (.int .i64 ((K : Int) + 9 * (k : Int) + 1)) (.int .i64 ((K : Int) + 9 * (k : Int) + 2)) (.int .i64 ((K : Int) + 9 * (k : Int) + 3)) (.int .i64 ((K : Int) + 9 * (k : Int) + 4)) (.int .i64 ((K : Int) + 9 * (k : Int) + 5)) (.int .i64 ((K : Int) + 9 * (k : Int) + 6)) (.int .i64 ((K : Int) + 9 * (k : Int) + 7)) (.bool (m3 ((K : Int) + 9 * (k : Int) + 8)))
      unfold nine at hr2 hB2 hO2
      have HH : Hid _ := And.intro hr2 (And.intro hB2 hO2)
      clear hr hb hr2 hB2 hlen hlr hO2 HOT
      go_wp2_with fail
      have E : ∀ x : Int, x = (K : Int) + 9 * (k : Int) → x + 1 = x + 1 := fun _ _ => rfl
      clear E
      rw [show (K : Int) + 9 * (k : Int) + 1 + 1 + 1 + 1 + 1 + 1 + 1 + 1 + 1 = (K : Int) + 9 * ((k + 1 : Nat) : Int) by omega, show (K : Int) + 9 * (k : Int) + 1 + 1 + 1 + 1 + 1 + 1 + 1 + 1 = (K : Int) + 9 * (k : Int) + 8 by omega, show (K : Int) + 9 * (k : Int) + 1 + 1 + 1 + 1 + 1 + 1 + 1 = (K : Int) + 9 * (k : Int) + 7 by omega, show (K : Int) + 9 * (k : Int) + 1 + 1 + 1 + 1 + 1 + 1 = (K : Int) + 9 * (k : Int) + 6 by omega, show (K : Int) + 9 * (k : Int) + 1 + 1 + 1 + 1 + 1 = (K : Int) + 9 * (k : Int) + 5 by omega, show (K : Int) + 9 * (k : Int) + 1 + 1 + 1 + 1 = (K : Int) + 9 * (k : Int) + 4 by omega, show (K : Int) + 9 * (k : Int) + 1 + 1 + 1 = (K : Int) + 9 * (k : Int) + 3 by omega, show (K : Int) + 9 * (k : Int) + 1 + 1 = (K : Int) + 9 * (k : Int) + 2 by omega]
      refine ⟨⟨k + 1, hlt, by go_num, rfl, HH.out.1, HH.out.2.1, HH.out.2.2⟩, ?_⟩
      simp [intOf]
      omega
    · obtain rfl : k = n := by omega
      have hre : marksR K k ++ es.drop k = marksR K k := by rw [HN.out, List.drop_length, List.append_nil]
      rw [hre] at hr
      clear hlt hk hre
      go_wp2
      go_ret
      exact ⟨rfl, hr, hb, HOT.out⟩
set_option maxRecDepth 100000 in
set_option maxHeartbeats 2000000 in
theorem heldRouteS_in (K : Nat) (p : Option Addr) (n cv : Nat) (w : World) (hK : K ≤ 100000000) (h8 : n ≤ 100000000) (hE : RtsIn w p (marksR K n)) :
    Calls Tryz.prog 105 #[.slice p n cv, .int .i64 K] w fun e w' => e = .returned (.int .i64 ((K : Int) + 9 * (n : Int))) ∧ w = w' := by
  have HX : Hid (RtsIn w p (marksR K n)) := hE
  clear hE
  go_enter Tryz.func105, Tryz.ntmps105
  go_wp2_with fail
  go_loop [5, 1] (fun i m => ∃ k : Nat, k ≤ n ∧ i = .int .i64 k ∧ m = .int .i64 ((K : Int) + 9 * (k : Int))) (fun i _ => n - (intOf i).toNat)
  case atStart => exact ⟨0, Nat.zero_le _, rfl, by go_num⟩
  case round =>
    obtain ⟨k, hk, rfl, rfl⟩ := hrel
    by_cases hlt : k < n
    · obtain ⟨g, y0, y1, y2, y3, y4, y5, y6, y7, y8, rfl, hg, hek, c0, c1, c2, c3, c4, c5, c6, c7, c8⟩ := HX.out.at k (by rw [marksR_length]; exact hlt)
      have hmk : (marksR K n)[k]'(by rw [marksR_length]; exact hlt) = markR K k := by simp [marksR]
      rw [hmk] at hek
      simp only [markR, Rt.mk.injEq] at hek
      obtain ⟨rfl, rfl, rfl, rfl, rfl, rfl, rfl, rfl, rfl⟩ := hek
      rw [Int.add_zero] at c0
      rw [show (K : Int) + 9 * (k : Int) + 1 = (K : Int) + 9 * (k : Int) + 1 by omega] at c1
      rw [show (K : Int) + 9 * (k : Int) + 2 = (K : Int) + 9 * (k : Int) + 1 + 1 by omega] at c2
      rw [show (K : Int) + 9 * (k : Int) + 3 = (K : Int) + 9 * (k : Int) + 1 + 1 + 1 by omega] at c3
      rw [show (K : Int) + 9 * (k : Int) + 4 = (K : Int) + 9 * (k : Int) + 1 + 1 + 1 + 1 by omega] at c4
      rw [show (K : Int) + 9 * (k : Int) + 5 = (K : Int) + 9 * (k : Int) + 1 + 1 + 1 + 1 + 1 by omega] at c5
      rw [show (K : Int) + 9 * (k : Int) + 6 = (K : Int) + 9 * (k : Int) + 1 + 1 + 1 + 1 + 1 + 1 by omega] at c6
      rw [show (K : Int) + 9 * (k : Int) + 7 = (K : Int) + 9 * (k : Int) + 1 + 1 + 1 + 1 + 1 + 1 + 1 by omega] at c7
      rw [show (K : Int) + 9 * (k : Int) + 8 = (K : Int) + 9 * (k : Int) + 1 + 1 + 1 + 1 + 1 + 1 + 1 + 1 by omega] at c8
      clear hmk
      unfold m3 at c8
      have hx : ((((K : Int) + 9 * (k : Int) + 1 + 1 + 1 + 1 + 1 + 1 + 1 + 1).tmod 3 == 0) != (((K : Int) + 9 * (k : Int) + 1 + 1 + 1 + 1 + 1 + 1 + 1 + 1).tmod 3 == 0)) = false := by simp
      go_wp2_with fail
      refine ⟨⟨k + 1, hlt, by go_num, by go_num⟩, ?_⟩
      simp [intOf]
      omega
    · obtain rfl : k = n := by omega
      clear hlt hk
      go_wp2
      go_ret
      exact ⟨rfl, rfl⟩

end Go.Proofs.YtcnadobnihbldaaGreat
/- The laws' own looks at tables that are handed back: alike, marked, held. (Written by gen_markr.py.) -/
namespace Go.Proofs.YtcnadobnihbldaaGreat
open Go.RowKit Go.Sort
set_option maxRecDepth 100000 in
theorem markRouteS_0 (K : Nat) (p : Option Addr) (cv : Nat) (w : World) : Calls Tryz.prog 85 #[.slice p 0 cv, .int .i64 K] w fun e w' => e = .returned (.int .i64 K) ∧ w = w' := by
  go_enter Tryz.func85, Tryz.ntmps85
  go_wp2_with fail
  go_loop [5, 1] (fun i k => i = .int .i64 0 ∧ k = .int .i64 K) (fun _ _ => 0)
  case atStart => exact ⟨rfl, rfl⟩
  case round =>
    obtain ⟨rfl, rfl⟩ := hrel
    go_wp2
    go_ret
    exact ⟨rfl, rfl⟩
set_option maxHeartbeats 1000000 in
theorem markRouteS_any (K : Nat) (p : Option Addr) (n cv base : Nat) (es : List Rt) (w : World) (hn : n = es.length) (hK : K ≤ 100000000) (h8 : n ≤ 100000000) (h : w.ownsRow base 155 9 (.slice p n cv) n (rowR es)) :
    Calls Tryz.prog 85 #[.slice p n cv, .int .i64 K] w fun e w' => e = .returned (.int .i64 ((K : Int) + 9 * (n : Int))) ∧ w'.ownsRow base 155 9 (.slice p n cv) n (rowR (marksR K n)) ∧ Below base w w' ∧ ∀ b t l, p ≠ some ⟨b, 0, none⟩ → Row w b t l → Row w' b t l := by
  subst hn
  rcases ownsR_opened h with h0 | ⟨g, rest, rfl, hb, h1, h2, hr, hl⟩
  · subst h0
    exact (markRouteS_0 K p cv w).mono fun e w' ⟨he, hw⟩ => ⟨by rw [he]; simp, hw ▸ h, hw ▸ Below.refl _ _, fun _ _ _ _ h => hw ▸ h⟩
  · refine (markRouteS_in K g _ cv es rest w rfl hK h8 hr).mono fun e w' ⟨he, hr', hb', ho'⟩ => ⟨he, ownsR_shut (marksR_length K _).symm hb h1 h2 hr' ?_, hb'.mono hb, fun b t l hp h => ho' b t l (fun e => hp (by rw [e])) h⟩
    rw [List.length_append, rowR_length, marksR_length]
    rw [List.length_append, rowR_length] at hl
    exact hl

end Go.Proofs.YtcnadobnihbldaaGreat
/- An answer of RibOut. -/
namespace Go.Proofs.YtcnadobnihbldaaGreat
open Go.RowKit Go.Sort

/-- An answer of RibOut: its code, its routes in memory of its own. -/
def OutR (base : Nat) (c : Int) (qs : List Rt) (e : Ending) (w : World) : Prop := ∃ p cap, e = .returned (.agg #[.slice p qs.length cap, .int .i64 c]) ∧ w.ownsRow base 155 9 (.slice p qs.length cap) qs.length (rowR qs)
end Go.Proofs.YtcnadobnihbldaaGreat
/- A table at work takes what it is told. (Written by gen_work.py.) -/
namespace Go.Proofs.YtcnadobnihbldaaGreat
open Go.RowKit Go.Sort

/-- What became of a table at work, whose routes stand at cell k of block g: with the code 0 the new routes, of its own, else as it was. -/
def Took (g k : Nat) (T : TypeId) (l : List Value) (base : Nat) (c : Int) (qs : List Rt) (w w' : World) : Prop := (if c = 0 then ∃ q' c', Row w' g T (l.set k (.slice q' qs.length c')) ∧ w'.ownsRow base 155 9 (.slice q' qs.length c') qs.length (rowR qs) else Row w' g T l) ∧ Below g w w' ∧ ∀ b t l, b ≠ g → Row w b t l → Row w' b t l
set_option maxRecDepth 100000 in
set_option maxHeartbeats 2000000 in
theorem take_any (g k : Nat) (T : TypeId) (l : List Value) (q : Option Addr) (n c : Nat) (cc : Int) (v0 : Value) (w : World) (hr : Row w g T l) (hk : l[k]? = some v0) :
    Calls Tryz.prog 137 #[.pointer (some ⟨g, k, none⟩), .agg #[.slice q n c, .int .i64 cc]] w fun e w' => e = .returned (.int .i64 cc) ∧ Row w' g T (if cc = 0 then l.set k (.slice q n c) else l) ∧ Below g w w' ∧ ∀ b t l, b ≠ g → Row w b t l → Row w' b t l := by
  have hlt := hr.lt
  have r0 := hr.alloc (.cells #[.slice q n c, .int .i64 cc] 94)
  have y0 : (w.alloc (.cells #[.slice q n c, .int .i64 cc] 94)).cell? ⟨g, k, none⟩ = some v0 := (r0.cell k).trans hk
  have f0 : (w.alloc (.cells #[.slice q n c, .int .i64 cc] 94)).frozen? ⟨g, k, none⟩ = false := r0.frozen k
  have HK : Hid _ := And.intro r0 (And.intro ((hr.set k (.slice q n c)).alloc (.cells #[.slice q n c, .int .i64 cc] 94)) (And.intro ((Below.refl g w).alloc (Nat.le_of_lt hlt) (.cells #[.slice q n c, .int .i64 cc] 94)) (And.intro (((Below.refl g w).setCell (p := ⟨g, k, none⟩) (Nat.le_refl g) (.slice q n c)).alloc (by simp; omega) (.cells #[.slice q n c, .int .i64 cc] 94)) (And.intro (fun b t l' (h : Row w b t l') => h.alloc (.cells #[.slice q n c, .int .i64 cc] 94)) (fun b t l' (hb : b ≠ g) (h : Row w b t l') => (h.other k (.slice q n c) hb).alloc (.cells #[.slice q n c, .int .i64 cc] 94))))))
  clear hr hk r0
  by_cases hc : cc = 0
  · have hcc : (cc == 0) = true := by simpa using hc
    rw [if_pos hc]
    clear hc
    go_enter Tryz.func137, Tryz.ntmps137
    go_wp2
    go_ret
    exact ⟨rfl, HK.out.2.1, HK.out.2.2.2.1, HK.out.2.2.2.2.2⟩
  · have hcc : (cc == 0) = false := by simpa using hc
    rw [if_neg hc]
    clear hc
    go_enter Tryz.func137, Tryz.ntmps137
    go_wp2
    go_ret
    exact ⟨rfl, HK.out.1, HK.out.2.2.1, fun b t l' _ h => HK.out.2.2.2.2.1 b t l' h⟩
/-- What a call told, handed to 'take'. -/
theorem took_of {g k : Nat} {T : TypeId} {l : List Value} {q : Option Addr} {c : Nat} {cc : Int} {qs : List Rt} {w w1 w2 : World} (hlt : g < w.heap.size) (hb : Below w.heap.size w w1) (ho : w1.ownsRow w.heap.size 155 9 (.slice q qs.length c) qs.length (rowR qs)) (hr : Row w2 g T (if cc = 0 then l.set k (.slice q qs.length c) else l)) (hb2 : Below g w1 w2) (hk2 : ∀ b t l, b ≠ g → Row w1 b t l → Row w2 b t l) : Took g k T l w.heap.size cc qs w w2 := by
  refine ⟨?_, (hb.mono (Nat.le_of_lt hlt)).trans hb2, fun b t l' hne h => hk2 b t l' hne (h.below hb h.lt)⟩
  by_cases hc : cc = 0
  · rw [if_pos hc] at hr ⊢
    refine ⟨q, c, hr, ownsR_kept rfl ho (fun b t l' e h => hk2 b t l' (fun e2 => ?_) h)⟩
    subst e2
    rw [e] at ho
    have := World.ownsRow.lt ho b rfl
    omega
  · rw [if_neg hc] at hr ⊢
    exact hr
end Go.Proofs.YtcnadobnihbldaaGreat
/- What a router at work tells. (Written by gen_work.py.) -/
namespace Go.Proofs.YtcnadobnihbldaaGreat
open Go.RowKit Go.Sort

def toldV (q2 : Option Addr) (n2 k2 : Nat) (q1 : Option Addr) (n1 k1 : Nat) (now c : Int) : Value := if c = 0 then .agg #[.slice q1 n1 k1, .slice q2 n2 k2, .int .i64 now, .int .i64 c] else .agg #[.slice none 0 0, .slice none 0 0, .int .i64 0, .int .i64 c]
set_option maxRecDepth 100000 in
set_option maxHeartbeats 2000000 in
theorem told_any (g : Nat) (q2 : Option Addr) (n2 k2 : Nat) (q1 : Option Addr) (n1 k1 : Nat) (now c : Int) (w : World) (hr : Row w g 103 [.slice q2 n2 k2, .slice q1 n1 k1, .int .i64 now]) :
    Calls Tryz.prog 62 #[.pointer (some ⟨g, 0, none⟩), .int .i64 c] w fun e w' => e = .returned (toldV q2 n2 k2 q1 n1 k1 now c) ∧ Below w.heap.size w w' := by
  have hlt := hr.lt
  have hne : g ≠ w.heap.size := by omega
  have r0 := hr.alloc (.cells #[.slice none 0 0, .slice none 0 0, .int .i64 0, .int .i64 0] 63)
  have y0 : (w.alloc (.cells #[.slice none 0 0, .slice none 0 0, .int .i64 0, .int .i64 0] 63)).cell? ⟨g, 0, none⟩ = some (.slice q2 n2 k2) := r0.cell 0
  have y1 : (w.alloc (.cells #[.slice none 0 0, .slice none 0 0, .int .i64 0, .int .i64 0] 63)).cell? ⟨g, 1, none⟩ = some (.slice q1 n1 k1) := r0.cell 1
  have y2 : (w.alloc (.cells #[.slice none 0 0, .slice none 0 0, .int .i64 0, .int .i64 0] 63)).cell? ⟨g, 2, none⟩ = some (.int .i64 now) := r0.cell 2
  clear hr r0 hlt hne
  unfold toldV
  by_cases hc : c = 0
  · subst hc
    rw [if_pos rfl]
    go_enter Tryz.func62, Tryz.ntmps62
    go_wp2_with fail
    refine wp_region_tail 15 (by kernel_rfl) (by kernel_rfl) ?_
    simp only [List.take_succ_cons, List.take_zero, List.drop_succ_cons, List.drop_zero]
    repeat (quiet_step (fail))
    refine wpQuiet_nil ?_
    intro _ hw'
    obtain ⟨nq, hw''⟩ := hw'
    subst hw''
    go_wp2
    exact bodyPost_ret (v := .agg #[.slice q1 n1 k1, .slice q2 n2 k2, .int .i64 now, .int .i64 0]) (by simp [results, Tryz.results62, go_sem]) rfl ⟨rfl, ((((below_drewN (ent_new0 _ _) _).setCell (Nat.le_refl _) _).setCell (Nat.le_refl _) _).setCell (Nat.le_refl _) _).setCell (Nat.le_refl _) _⟩
  · have hcc : (c != 0) = true := by simpa using hc
    rw [if_neg hc]
    go_enter Tryz.func62, Tryz.ntmps62
    go_wp2
    exact bodyPost_ret (v := .agg #[.slice none 0 0, .slice none 0 0, .int .i64 0, .int .i64 c]) (by simp [results, Tryz.results62, go_sem]) rfl ⟨rfl, ent_new0 _ _⟩
end Go.Proofs.YtcnadobnihbldaaGreat
/- The laws' own marks in a list of Ifaces: written, and looked for; owned lists of Ifaces. (Written by gen_iout.py.) -/
namespace Go.Proofs.YtcnadobnihbldaaGreat
open Go.RowKit Go.Sort

def markI (K i : Nat) : If := ⟨(K : Int) + 5 * (i : Int) + 0, (K : Int) + 5 * (i : Int) + 1, (K : Int) + 5 * (i : Int) + 2, (K : Int) + 5 * (i : Int) + 3, m3 ((K : Int) + 5 * (i : Int) + 4)⟩
def marksI (K n : Nat) : List If := (List.range n).map (markI K)
theorem marksI_length (K n : Nat) : (marksI K n).length = n := by simp [marksI]
theorem ownsI_kept {w w' : World} {base : Nat} {p : Option Addr} {n cv : Nat} {xs : List Value} (h : w.ownsRow base 53 5 (.slice p n cv) n xs) (hk : ∀ b t l, p = some ⟨b, 0, none⟩ → Row w b t l → Row w' b t l) : w'.ownsRow base 53 5 (.slice p n cv) n xs := by
  refine ⟨h.1, ?_⟩
  rcases h.2 with h2 | ⟨g, cap, cur, e1, e2, e3, e4⟩
  · exact .inl h2
  · simp only [Value.slice.injEq] at e1
    obtain ⟨rfl, _, rfl⟩ := e1
    have := hk g 53 cur.toList rfl (by unfold Row; simpa using e3)
    exact .inr ⟨g, _, cur, rfl, e2, by unfold Row at this; simpa using this, e4⟩
theorem ownsI_ne {w : World} {base n cv g : Nat} {p : Option Addr} {xs l : List Value} {t : TypeId} (h : w.ownsRow base 53 5 (.slice p n cv) n xs) (hr : Row w g t l) (ht : t ≠ 53) : p ≠ some ⟨g, 0, none⟩ := by
  rintro rfl
  rcases h.2 with ⟨h1, _⟩ | ⟨g', cap, cur, h1, _, h3, _⟩
  · simp at h1
  · simp only [Value.slice.injEq, Option.some.injEq, Addr.mk.injEq, and_true] at h1
    obtain ⟨rfl, _⟩ := h1
    unfold Row at hr
    rw [h3] at hr
    simp only [Option.some.injEq, Obj.cells.injEq] at hr
    exact ht hr.2.1.symm
theorem ownsIR_ne {w : World} {base base' n cv m cm b : Nat} {p q : Option Addr} {xs ys : List Value} (h : w.ownsRow base 53 5 (.slice p n cv) n xs) (h' : w.ownsRow base' 155 9 (.slice q m cm) m ys) (e : q = some ⟨b, 0, none⟩) : p ≠ some ⟨b, 0, none⟩ := by
  subst e
  rcases h'.2 with ⟨h1, _⟩ | ⟨g', cap, cur, h1, _, h3, _⟩
  · simp at h1
  · simp only [Value.slice.injEq, Option.some.injEq, Addr.mk.injEq, and_true] at h1
    obtain ⟨rfl, _⟩ := h1
    exact ownsI_ne h (show Row w b 155 cur.toList by unfold Row; simpa using h3) (by decide)
theorem ownsRI_ne {w : World} {base base' n cv m cm b : Nat} {p q : Option Addr} {xs ys : List Value} (h : w.ownsRow base 53 5 (.slice p n cv) n xs) (h' : w.ownsRow base' 155 9 (.slice q m cm) m ys) (e : p = some ⟨b, 0, none⟩) : q ≠ some ⟨b, 0, none⟩ := fun e' => ownsIR_ne h h' e' e
theorem ownsI_base {w : World} {base n cv g : Nat} {p : Option Addr} {xs : List Value} (h : w.ownsRow base 53 5 (.slice p n cv) n xs) (hg : g < base) : p ≠ some ⟨g, 0, none⟩ := by
  rintro rfl
  have := (World.ownsRow.lt h g rfl).1
  omega
theorem ownsI_lt {w : World} {base n cv : Nat} {p : Option Addr} {xs : List Value} (h : w.ownsRow base 53 5 (.slice p n cv) n xs) : ∀ b, p = some ⟨b, 0, none⟩ → b < w.heap.size := fun b e => by
  subst e
  exact (World.ownsRow.lt h b rfl).2
theorem ownsI_row {w : World} {g n : Nat} {es : List If} (hn : n = es.length) (h8 : n ≤ 100000000) (h : Row w g 53 (rowI es)) : w.ownsRow g 53 5 (.slice (some ⟨g, 0, none⟩) n n) n (rowI es) := ownsI_shut (rest := []) hn (Nat.le_refl _) (Nat.le_refl _) (by unfold maxLen; omega) (by rw [List.append_nil]; exact h) (by rw [List.append_nil, rowI_length, hn]; omega)
theorem marksI_set (K : Nat) (es : List If) (rest : List Value) (k : Nat) (hk : k < es.length) :
    (((((rowI (marksI K k ++ es.drop k) ++ rest).set (k * 5) (.int .i64 ((K : Int) + 5 * (k : Int) + 0))).set (k * 5 + 1) (.int .i64 ((K : Int) + 5 * (k : Int) + 1))).set (k * 5 + 2) (.int .i64 ((K : Int) + 5 * (k : Int) + 2))).set (k * 5 + 3) (.int .i64 ((K : Int) + 5 * (k : Int) + 3))).set (k * 5 + 4) (.bool (m3 ((K : Int) + 5 * (k : Int) + 4))) = rowI (marksI K (k + 1) ++ es.drop (k + 1)) ++ rest := by
  have e1 : marksI K (k + 1) = marksI K k ++ [markI K k] := by simp [marksI, List.range_succ]
  rw [List.drop_eq_getElem_cons hk, e1, rowI_append, rowI_cons, List.append_assoc (marksI K k), rowI_append, List.singleton_append, rowI_cons, List.append_assoc, List.append_assoc, List.append_assoc, List.append_assoc]
  exact set5i _ _ k (by rw [rowI_length, marksI_length]; omega) _ _ _ _ _ _ _ _ _ _
set_option maxRecDepth 100000 in
set_option maxHeartbeats 2000000 in
theorem markIfaceS_in (K g n cv : Nat) (es : List If) (rest : List Value) (w : World) (hn : n = es.length) (hK : K ≤ 100000000) (h8 : n ≤ 100000000) (hr : Row w g 53 (rowI es ++ rest)) :
    Calls Tryz.prog 84 #[.slice (some ⟨g, 0, none⟩) n cv, .int .i64 K] w fun e w' => e = .returned (.int .i64 ((K : Int) + 5 * (n : Int))) ∧ Row w' g 53 (rowI (marksI K n) ++ rest) ∧ Below g w w' ∧ ∀ b t l, b ≠ g → Row w b t l → Row w' b t l := by
  have HN : Hid (n = es.length) := hn
  have hr0 : Row w g 53 (rowI (marksI K 0 ++ es.drop 0) ++ rest) := hr
  clear hn hr
  go_enter Tryz.func84, Tryz.ntmps84
  go_wp2_with fail
  go_loopw [5, 1] (fun i m wr => ∃ k : Nat, k ≤ n ∧ i = .int .i64 k ∧ m = .int .i64 ((K : Int) + 5 * (k : Int)) ∧ Row wr g 53 (rowI (marksI K k ++ es.drop k) ++ rest) ∧ Below g w wr ∧ ∀ b t l, b ≠ g → Row w b t l → Row wr b t l) (fun i _ _ => n - (intOf i).toNat)
  case atStart => exact ⟨0, Nat.zero_le _, rfl, by go_num, hr0, Below.refl _ _, fun _ _ _ _ h => h⟩
  case round =>
    obtain ⟨k, hk, rfl, rfl, hr, hb, hoth⟩ := hrel
    have HOT : Hid (∀ b t l, b ≠ g → Row w b t l → Row wr b t l) := hoth
    clear hr0 hoth
    by_cases hlt : k < n
    · have hlen : (marksI K k ++ es.drop k).length = n := by rw [List.length_append, marksI_length, List.length_drop, ← HN.out]; omega
      have hlr : k * 5 + 4 < (rowI (marksI K k ++ es.drop k) ++ rest).length := by rw [List.length_append, rowI_length, hlen]; omega
      obtain ⟨z0, c0⟩ := Row.someI hr (k * 5) (by omega)
      obtain ⟨z1, c1⟩ := Row.someI hr (k * 5 + 1) (by omega)
      obtain ⟨z2, c2⟩ := Row.someI hr (k * 5 + 2) (by omega)
      obtain ⟨z3, c3⟩ := Row.someI hr (k * 5 + 3) (by omega)
      obtain ⟨z4, c4⟩ := Row.someI hr (k * 5 + 4) (by omega)
      have f0 := hr.frozen (k * 5)
      have f1 := hr.frozen (k * 5 + 1)
      have f2 := hr.frozen (k * 5 + 2)
      have f3 := hr.frozen (k * 5 + 3)
      have f4 := hr.frozen (k * 5 + 4)
      have hr2 := fiveI_row hr (k * 5) (.int .i64 ((K : Int) + 5 * (k : Int) + 0)) (.int .i64 ((K : Int) + 5 * (k : Int) + 1)) (.int .i64 ((K : Int) + 5 * (k : Int) + 2)) (.int .i64 ((K : Int) + 5 * (k : Int) + 3)) (.bool (m3 ((K : Int) + 5 * (k : Int) + 4)))
      rw [marksI_set K es rest k (by rw [← HN.out]; exact hlt)] at hr2
      have hB2 := fiveI_below hb g (k * 5) (Nat.le_refl _) (.int .i64 ((K : Int) + 5 * (k : Int) + 0)) (.int .i64 ((K : Int) + 5 * (k : Int) + 1)) (.int .i64 ((K : Int) + 5 * (k : Int) + 2)) (.int .i64 ((K : Int) + 5 * (k : Int) + 3)) (.bool (m3 ((K : Int) + 5 * (k : Int) + 4)))
      have hO2 := fun b t l (hne : b ≠ g) (h : Row w b t l) => fiveI_other (HOT.out b t l hne h) hne (k * 5) (.int .i64 ((K : Int) + 5 * (k : Int) + 0)) (.int .i64 ((K : Int) + 5 * (k : Int) + 1)) (.int .i64 ((K : Int) + 5 * (k : Int) + 2)) (.int .i64 ((K : Int) + 5 * (k : Int) + 3)) (.bool (m3 ((K : Int) + 5 * (k : Int) + 4)))
      unfold fiveI at hr2 hB2 hO2
      have HH : Hid _ := And.intro hr2 (And.intro hB2 hO2)
      clear hr hb hr2 hB2 hlen hlr hO2 HOT
      go_wp2_with fail
      rw [show (K : Int) + 5 * (k : Int) + 1 + 1 + 1 + 1 + 1 = (K : Int) + 5 * ((k + 1 : Nat) : Int) by omega, show (K : Int) + 5 * (k : Int) + 1 + 1 + 1 + 1 = (K : Int) + 5 * (k : Int) + 4 by omega, show (K : Int) + 5 * (k : Int) + 1 + 1 + 1 = (K : Int) + 5 * (k : Int) + 3 by omega, show (K : Int) + 5 * (k : Int) + 1 + 1 = (K : Int) + 5 * (k : Int) + 2 by omega]
      refine ⟨⟨k + 1, hlt, by go_num, rfl, HH.out.1, HH.out.2.1, HH.out.2.2⟩, ?_⟩
      simp [intOf]
      omega
    · obtain rfl : k = n := by omega
      have hre : marksI K k ++ es.drop k = marksI K k := by rw [HN.out, List.drop_length, List.append_nil]
      rw [hre] at hr
      clear hlt hk hre
      go_wp2
      go_ret
      exact ⟨rfl, hr, hb, HOT.out⟩
set_option maxRecDepth 100000 in
set_option maxHeartbeats 2000000 in
theorem heldIfaceS_in (K : Nat) (p : Option Addr) (n cv : Nat) (w : World) (hK : K ≤ 100000000) (h8 : n ≤ 100000000) (hE : IfsIn w p (marksI K n)) :
    Calls Tryz.prog 104 #[.slice p n cv, .int .i64 K] w fun e w' => e = .returned (.int .i64 ((K : Int) + 5 * (n : Int))) ∧ w = w' := by
  have HX : Hid (IfsIn w p (marksI K n)) := hE
  clear hE
  go_enter Tryz.func104, Tryz.ntmps104
  go_wp2_with fail
  go_loop [5, 1] (fun i m => ∃ k : Nat, k ≤ n ∧ i = .int .i64 k ∧ m = .int .i64 ((K : Int) + 5 * (k : Int))) (fun i _ => n - (intOf i).toNat)
  case atStart => exact ⟨0, Nat.zero_le _, rfl, by go_num⟩
  case round =>
    obtain ⟨k, hk, rfl, rfl⟩ := hrel
    by_cases hlt : k < n
    · obtain ⟨g, y0, y1, y2, y3, y4, rfl, hg, hek, c0, c1, c2, c3, c4⟩ := HX.out.at k (by rw [marksI_length]; exact hlt)
      have hmk : (marksI K n)[k]'(by rw [marksI_length]; exact hlt) = markI K k := by simp [marksI]
      rw [hmk] at hek
      simp only [markI, If.mk.injEq] at hek
      obtain ⟨rfl, rfl, rfl, rfl, rfl⟩ := hek
      rw [Int.add_zero] at c0
      rw [show (K : Int) + 5 * (k : Int) + 1 = (K : Int) + 5 * (k : Int) + 1 by omega] at c1
      rw [show (K : Int) + 5 * (k : Int) + 2 = (K : Int) + 5 * (k : Int) + 1 + 1 by omega] at c2
      rw [show (K : Int) + 5 * (k : Int) + 3 = (K : Int) + 5 * (k : Int) + 1 + 1 + 1 by omega] at c3
      rw [show (K : Int) + 5 * (k : Int) + 4 = (K : Int) + 5 * (k : Int) + 1 + 1 + 1 + 1 by omega] at c4
      clear hmk
      unfold m3 at c4
      have hx : ((((K : Int) + 5 * (k : Int) + 1 + 1 + 1 + 1).tmod 3 == 0) != (((K : Int) + 5 * (k : Int) + 1 + 1 + 1 + 1).tmod 3 == 0)) = false := by simp
      go_wp2_with fail
      refine ⟨⟨k + 1, hlt, by go_num, by go_num⟩, ?_⟩
      simp [intOf]
      omega
    · obtain rfl : k = n := by omega
      clear hlt hk
      go_wp2
      go_ret
      exact ⟨rfl, rfl⟩
set_option maxRecDepth 100000 in
set_option maxHeartbeats 2000000 in
theorem markIfaceS_0 (K : Nat) (p : Option Addr) (cv : Nat) (w : World) : Calls Tryz.prog 84 #[.slice p 0 cv, .int .i64 K] w fun e w' => e = .returned (.int .i64 K) ∧ w = w' := by
  go_enter Tryz.func84, Tryz.ntmps84
  go_wp2_with fail
  go_loop [5, 1] (fun i k => i = .int .i64 0 ∧ k = .int .i64 K) (fun _ _ => 0)
  case atStart => exact ⟨rfl, rfl⟩
  case round =>
    obtain ⟨rfl, rfl⟩ := hrel
    go_wp2
    go_ret
    exact ⟨rfl, rfl⟩
theorem markIfaceS_any (K : Nat) (p : Option Addr) (n cv base : Nat) (es : List If) (w : World) (hn : n = es.length) (hK : K ≤ 100000000) (h8 : n ≤ 100000000) (h : w.ownsRow base 53 5 (.slice p n cv) n (rowI es)) :
    Calls Tryz.prog 84 #[.slice p n cv, .int .i64 K] w fun e w' => e = .returned (.int .i64 ((K : Int) + 5 * (n : Int))) ∧ w'.ownsRow base 53 5 (.slice p n cv) n (rowI (marksI K n)) ∧ Below base w w' ∧ ∀ b t l, p ≠ some ⟨b, 0, none⟩ → Row w b t l → Row w' b t l := by
  subst hn
  rcases ownsI_opened h with h0 | ⟨g, rest, rfl, hb, h1, h2, hr, hl⟩
  · subst h0
    exact (markIfaceS_0 K p cv w).mono fun e w' ⟨he, hw⟩ => ⟨by rw [he]; simp, hw ▸ h, hw ▸ Below.refl _ _, fun _ _ _ _ h => hw ▸ h⟩
  · refine (markIfaceS_in K g _ cv es rest w rfl hK h8 hr).mono fun e w' ⟨he, hr', hb', ho'⟩ => ⟨he, ownsI_shut (marksI_length K _).symm hb h1 h2 hr' ?_, hb'.mono hb, fun b t l hp h => ho' b t l (fun e => hp (by rw [e])) h⟩
    rw [List.length_append, rowI_length, marksI_length]
    rw [List.length_append, rowI_length] at hl
    exact hl
end Go.Proofs.YtcnadobnihbldaaGreat
/- The laws' own marks in lists of Insts: written, and looked for. (Written by gen_markiv.py.) -/
namespace Go.Proofs.YtcnadobnihbldaaGreat
open Go.RowKit Go.Sort

def szT (t : Iv) : Nat := 5 * t.is.length + 9 * t.rs.length + 1
/-- The number with which the j-th Inst begins. -/
def kAt (K : Nat) (ts : List Iv) : Nat → Nat
  | 0 => K
  | j + 1 => kAt K ts j + szT ts[j]!
theorem kAt_mono (K : Nat) (ts : List Iv) {i j : Nat} (h : i ≤ j) : kAt K ts i ≤ kAt K ts j := by
  induction j with
  | zero => obtain rfl : i = 0 := by omega
            exact Nat.le_refl _
  | succ j ih =>
    rcases Nat.lt_or_ge i (j + 1) with h1 | h1
    · exact Nat.le_trans (ih (by omega)) (Nat.le_add_right _ _)
    · obtain rfl : i = j + 1 := by omega
      exact Nat.le_refl _
def markT (K : Nat) (t : Iv) : Iv := ⟨marksI K t.is.length, marksR (K + 5 * t.is.length) t.rs.length, ((K + 5 * t.is.length + 9 * t.rs.length : Nat) : Int)⟩
/-- The j-th one, behind k rounds. -/
def mixT (K : Nat) (ts : List Iv) (k j : Nat) : Iv := if j < k then markT (kAt K ts j) ts[j]! else ts[j]!
theorem mixT_done (K : Nat) (ts : List Iv) {k j : Nat} (h : j < k) : mixT K ts k j = markT (kAt K ts j) ts[j]! := if_pos h
theorem mixT_not (K : Nat) (ts : List Iv) {k j : Nat} (h : k ≤ j) : mixT K ts k j = ts[j]! := if_neg (by omega)
theorem mixT_step (K : Nat) (ts : List Iv) {k j : Nat} (h : j ≠ k) : mixT K ts k j = mixT K ts (k + 1) j := by
  unfold mixT
  by_cases h1 : j < k
  · rw [if_pos h1, if_pos (by omega)]
  · rw [if_neg h1, if_neg (by omega)]
theorem mixT_is (K : Nat) (ts : List Iv) (k j : Nat) : (mixT K ts k j).is.length = ts[j]!.is.length := by
  unfold mixT
  split
  · simp [markT, marksI_length]
  · rfl
theorem mixT_rs (K : Nat) (ts : List Iv) (k j : Nat) : (mixT K ts k j).rs.length = ts[j]!.rs.length := by
  unfold mixT
  split
  · simp [markT, marksR_length]
  · rfl
def mixQ (K : Nat) (qs : List IvP) (k : Nat) : List IvP := (List.range qs.length).map fun j => (qs[j]!.1, mixT K (qs.map (·.2)) k j)
theorem mixQ_length (K : Nat) (qs : List IvP) (k : Nat) : (mixQ K qs k).length = qs.length := by simp [mixQ]
theorem mixQ_at (K : Nat) (qs : List IvP) (k j : Nat) (hj : j < qs.length) : (mixQ K qs k)[j]'(by rw [mixQ_length]; exact hj) = (qs[j].1, mixT K (qs.map (·.2)) k j) := by
  simp only [mixQ, List.getElem_map, List.getElem_range]
  rw [getElem!_pos qs j hj]
theorem map_at {qs : List IvP} {j : Nat} (hj : j < qs.length) : (qs.map (·.2))[j]! = qs[j].2 := by rw [getElem!_pos _ j (by simpa using hj), List.getElem_map]
theorem mixQ_zero (K : Nat) (qs : List IvP) : mixQ K qs 0 = qs := by
  apply List.ext_getElem (mixQ_length K qs 0)
  intro j h1 h2
  rw [mixQ_at K qs 0 j h2, mixT_not K _ (Nat.zero_le j), map_at h2]
theorem mixQ_set (K : Nat) (qs : List IvP) (k : Nat) (hk : k < qs.length) : (rowIv (mixQ K qs k)).set (k * 3 + 2) (.int .i64 (markT (kAt K (qs.map (·.2)) k) (qs.map (·.2))[k]!).now) = rowIv (mixQ K qs (k + 1)) := by
  apply List.ext_getElem?
  intro i
  have hl : ∀ m, (mixQ K qs m).length = qs.length := fun m => mixQ_length K qs m
  rw [List.getElem?_set]
  by_cases hi : i < qs.length * 3
  · have e : i = i / 3 * 3 + i % 3 := by omega
    have hj : i / 3 < qs.length := by omega
    have h1 := rowIv_get (mixQ K qs k) (i / 3) (i % 3) (by rw [hl]; exact hj) (by omega)
    have h2 := rowIv_get (mixQ K qs (k + 1)) (i / 3) (i % 3) (by rw [hl]; exact hj) (by omega)
    rw [← e] at h1 h2
    rw [h1, h2, mixQ_at _ _ _ _ hj, mixQ_at _ _ _ _ hj]
    by_cases hc : k * 3 + 2 = i
    · have ej : i / 3 = k := by omega
      have em : i % 3 = 2 := by omega
      rw [if_pos hc, if_pos (by rw [rowIv_length, hl]; omega)]
      simp only [ej, em]
      rw [mixT_done K (qs.map (·.2)) (Nat.lt_succ_self k)]
      rfl
    · rw [if_neg hc]
      by_cases hjk : i / 3 = k
      · have em : i % 3 = 0 ∨ i % 3 = 1 := by omega
        simp only [hjk, ivL]
        rw [mixT_is, mixT_rs, mixT_is, mixT_rs]
        rcases em with em | em <;> simp [em]
      · rw [mixT_step K (qs.map (·.2)) hjk]
  · rw [if_neg (by omega), List.getElem?_eq_none (by rw [rowIv_length, hl]; omega), List.getElem?_eq_none (by rw [rowIv_length, hl]; omega)]
/-- Its lists are its own. -/
def OwnIv (W : World) (base : Nat) (a : Ip) (t : Iv) : Prop := W.ownsRow base 53 5 (.slice a.x t.is.length a.c1) t.is.length (rowI t.is) ∧ W.ownsRow base 155 9 (.slice a.y t.rs.length a.c2) t.rs.length (rowR t.rs)
theorem OwnIv.kept {w w' : World} {base : Nat} {a : Ip} {t : Iv} (h : OwnIv w base a t) (hk : ∀ b t l, (a.x = some ⟨b, 0, none⟩ ∨ a.y = some ⟨b, 0, none⟩) → Row w b t l → Row w' b t l) : OwnIv w' base a t :=
  ⟨owns_kept h.1 fun b t l e r => hk b t l (.inl e) r, owns_kept h.2 fun b t l e r => hk b t l (.inr e) r⟩
theorem OwnIv.below {w w' : World} {base : Nat} {a : Ip} {t : Iv} (h : OwnIv w base a t) (hb : Below w.heap.size w w') : OwnIv w' base a t := ⟨owns_below h.1 hb, owns_below h.2 hb⟩
theorem OwnIv.mono {w : World} {base base' : Nat} {a : Ip} {t : Iv} (h : OwnIv w base a t) (hb : base' ≤ base) : OwnIv w base' a t := ⟨owns_mono h.1 hb, owns_mono h.2 hb⟩
theorem OwnIv.inIv {w : World} {base : Nat} {a : Ip} {t : Iv} (h : OwnIv w base a t) : InIv w a t := ⟨ownsI_in rfl h.1, ownsR_in rfl h.2⟩
/-- No two of them share a list. -/
def ApQ (qs : List IvP) : Prop := ∀ i j (hi : i < qs.length) (hj : j < qs.length), i ≠ j → ∀ g, (qs[i].1.x = some ⟨g, 0, none⟩ → qs[j].1.x ≠ some ⟨g, 0, none⟩) ∧ (qs[i].1.y = some ⟨g, 0, none⟩ → qs[j].1.y ≠ some ⟨g, 0, none⟩)
theorem Row.someIw {w : World} {g : Nat} {t : TypeId} {l : List Value} (h : Row w g t l) (k : Nat) (hk : k < l.length) : ∃ v, w.cell? ⟨g, k, none⟩ = some v := ⟨l[k], by rw [h.cell, List.getElem?_eq_getElem hk]⟩
theorem rowIv_at {w : World} {g : Nat} {qs : List IvP} {rest : List Value} {t : TypeId} (hr : Row w g t (rowIv qs ++ rest)) {k : Nat} (hk : k < qs.length) (r : Nat) (h3 : r < 3) : w.cell? ⟨g, k * 3 + r, none⟩ = (ivL qs[k].1 qs[k].2)[r]? := by
  rw [hr.cell, List.getElem?_append_left (by rw [rowIv_length]; omega), rowIv_get qs k r hk h3]
set_option maxRecDepth 100000 in
set_option maxHeartbeats 4000000 in
theorem markInstS_in (K g n cv base : Nat) (qs : List IvP) (rest : List Value) (w : World) (hn : n = qs.length) (h8 : n ≤ 100000000) (hK : kAt K (qs.map (·.2)) qs.length ≤ 100000000) (hb : base ≤ g) (hr : Row w g 61 (rowIv qs ++ rest)) (hO : ∀ j (hj : j < qs.length), OwnIv w base qs[j].1 qs[j].2) (hA : ApQ qs) :
    Calls Tryz.prog 48 #[.slice (some ⟨g, 0, none⟩) n cv, .int .i64 K] w fun e w' => e = .returned (.int .i64 ((kAt K (qs.map (·.2)) n : Nat) : Int)) ∧ Row w' g 61 (rowIv (mixQ K qs n) ++ rest) ∧ (∀ j (hj : j < qs.length), OwnIv w' base qs[j].1 (mixT K (qs.map (·.2)) n j)) ∧ Below base w w' ∧ ∀ b t l, b ≠ g → (∀ j (hj : j < qs.length), qs[j].1.x ≠ some ⟨b, 0, none⟩ ∧ qs[j].1.y ≠ some ⟨b, 0, none⟩) → Row w b t l → Row w' b t l := by
  obtain rfl := hn
  have HA : Hid (ApQ qs) := hA
  have HK : Hid (kAt K (qs.map (·.2)) qs.length ≤ 100000000) := hK
  have HS0 : Hid (Row w g 61 (rowIv (mixQ K qs 0) ++ rest) ∧ (∀ j (hj : j < qs.length), OwnIv w base qs[j].1 (mixT K (qs.map (·.2)) 0 j)) ∧ Below base w w ∧ ∀ b t l, b ≠ g → (∀ j (hj : j < qs.length), qs[j].1.x ≠ some ⟨b, 0, none⟩ ∧ qs[j].1.y ≠ some ⟨b, 0, none⟩) → Row w b t l → Row w b t l) := by
    refine ⟨by rw [mixQ_zero]; exact hr, fun j hj => ?_, Below.refl _ _, fun _ _ _ _ _ h => h⟩
    rw [mixT_not K _ (Nat.zero_le j), map_at hj]
    exact hO j hj
  have HG : Hid (base ≤ g) := hb
  clear hr hO hA hK hb
  go_enter Tryz.func48, Tryz.ntmps48
  go_wp2_with fail
  go_loopw [5, 1] (fun i m wr => ∃ k : Nat, k ≤ qs.length ∧ i = .int .i64 k ∧ m = .int .i64 ((kAt K (qs.map (·.2)) k : Nat) : Int) ∧ Row wr g 61 (rowIv (mixQ K qs k) ++ rest) ∧ (∀ j (hj : j < qs.length), OwnIv wr base qs[j].1 (mixT K (qs.map (·.2)) k j)) ∧ Below base w wr ∧ ∀ b t l, b ≠ g → (∀ j (hj : j < qs.length), qs[j].1.x ≠ some ⟨b, 0, none⟩ ∧ qs[j].1.y ≠ some ⟨b, 0, none⟩) → Row w b t l → Row wr b t l) (fun i _ _ => qs.length - (intOf i).toNat)
  case atStart => exact ⟨0, Nat.zero_le _, rfl, rfl, HS0.out⟩
  case round =>
    clear HS0
    obtain ⟨k, hk, rfl, rfl, hr, hO, hB, hoth⟩ := hrel
    by_cases hlt : k < qs.length
    · have dk : decide ((k : Int) < (qs.length : Int)) = true := by simpa using hlt
      have hml : k < (mixQ K qs k).length := by rw [mixQ_length]; exact hlt
      have hq : (mixQ K qs k)[k] = (qs[k].1, (qs.map (fun x : IvP => x.2))[k]!) := by rw [mixQ_at K qs k k hlt, mixT_not K _ (Nat.le_refl k)]
      have c0 : wr.cell? ⟨g, k * 3, none⟩ = _ := rowIv_at hr hml 0 (by omega)
      have c1 := rowIv_at hr hml 1 (by omega)
      have c2 := rowIv_at hr hml 2 (by omega)
      rw [hq] at c0 c1 c2
      have hown := hO k hlt
      rw [mixT_not K _ (Nat.le_refl k)] at hown
      have hkb : kAt K (qs.map (·.2)) (k + 1) ≤ 100000000 := Nat.le_trans (kAt_mono K _ hlt) HK.out
      have hk1 : kAt K (qs.map (·.2)) (k + 1) = kAt K (qs.map (·.2)) k + (5 * ((qs.map (fun x : IvP => x.2))[k]!).is.length + 9 * ((qs.map (fun x : IvP => x.2))[k]!).rs.length + 1) := rfl
      have hset := mixQ_set K qs k hlt
      have hdone := mixT_done K (qs.map (·.2)) (Nat.lt_succ_self k)
      have HST : Hid _ := And.intro hset (And.intro hdone (And.intro hk1 hkb))
      have HOj : Hid (∀ j (hj : j < qs.length), j ≠ k → OwnIv wr base qs[j].1 (mixT K (qs.map (·.2)) (k + 1) j)) := fun j hj hne => by rw [← mixT_step K _ hne]; exact hO j hj
      have HOT : Hid _ := hoth
      have HL : Hid ((rowIv (mixQ K qs k)).length = 3 * qs.length) := by show _ = _; rw [rowIv_length, mixQ_length]
      have HML : Hid (k < (mixQ K qs k).length) := hml
      have HMQ : Hid ((mixQ K qs k)[k]'(HML.out) = (qs[k].1, (qs.map (fun x : IvP => x.2))[k]!)) := hq
      clear hset hdone hO hoth hml hq
      have hk2 : kAt K (qs.map (·.2)) k + 5 * ((qs.map (fun x : IvP => x.2))[k]!).is.length + 9 * ((qs.map (fun x : IvP => x.2))[k]!).rs.length ≤ 100000000 := by omega
      clear hk1 hkb
      have HAk : Hid (∀ j (hj : j < qs.length), j ≠ k → ∀ g, (qs[k].1.x = some ⟨g, 0, none⟩ → qs[j].1.x ≠ some ⟨g, 0, none⟩) ∧ (qs[k].1.y = some ⟨g, 0, none⟩ → qs[j].1.y ≠ some ⟨g, 0, none⟩)) := fun j hj hne => HA.out k j hlt hj (fun e => hne e.symm)
      have HNk : Hid (∀ b, (∀ j (hj : j < qs.length), qs[j].1.x ≠ some ⟨b, 0, none⟩ ∧ qs[j].1.y ≠ some ⟨b, 0, none⟩) → qs[k].1.x ≠ some ⟨b, 0, none⟩ ∧ qs[k].1.y ≠ some ⟨b, 0, none⟩) := fun b h => h k hlt
      generalize hkk : kAt K (qs.map (·.2)) k = kk at *
      generalize hqa : qs[k].1 = a at *
      generalize hqt : (qs.map (fun x : IvP => x.2))[k]! = t at *
      have HQQ : Hid _ := And.intro hkk (And.intro hqa hqt)
      clear hkk hqa hqt
      obtain ⟨ax, ac1, ay, ac2⟩ := a
      simp only [ivL, OwnIv, List.getElem?_cons_zero, List.getElem?_cons_succ] at c0 c1 c2 hown
      have HM1 : Hid (Calls Tryz.prog 84 #[.slice ax t.is.length ac1, .int .i64 ((kk : Nat) : Int)] wr fun e w'' => e = .returned (.int .i64 (((kk : Nat) : Int) + 5 * (t.is.length : Int))) ∧ w''.ownsRow base 53 5 (.slice ax t.is.length ac1) t.is.length (rowI (marksI kk t.is.length)) ∧ Below base wr w'' ∧ ∀ b t l, ax ≠ some ⟨b, 0, none⟩ → Row wr b t l → Row w'' b t l) := markIfaceS_any kk ax t.is.length ac1 base t.is wr rfl (by omega) (by omega) hown.1
      have HM2 : Hid (∀ w', w'.ownsRow base 155 9 (.slice ay t.rs.length ac2) t.rs.length (rowR t.rs) → Calls Tryz.prog 85 #[.slice ay t.rs.length ac2, .int .i64 ((kk + 5 * t.is.length : Nat) : Int)] w' fun e w'' => e = .returned (.int .i64 (((kk + 5 * t.is.length : Nat) : Int) + 9 * (t.rs.length : Int))) ∧ w''.ownsRow base 155 9 (.slice ay t.rs.length ac2) t.rs.length (rowR (marksR (kk + 5 * t.is.length) t.rs.length)) ∧ Below base w' w'' ∧ ∀ b t l, ay ≠ some ⟨b, 0, none⟩ → Row w' b t l → Row w'' b t l) := fun w' h => markRouteS_any (kk + 5 * t.is.length) ay t.rs.length ac2 base t.rs w' rfl (by omega) (by omega) h
      have hn1 : ax ≠ some ⟨g, 0, none⟩ := owns_ne hown.1 hr (by decide)
      have hn2 : ay ≠ some ⟨g, 0, none⟩ := owns_ne hown.2 hr (by decide)
      have HOX : Hid _ := And.intro hown.1 (And.intro hown.2 (And.intro hr (And.intro hB (And.intro hn1 hn2))))
      clear hown hr hB hn1
      go_wp2_with fail
      refine HM1.out.mono ?_
      rintro e w1 ⟨rfl, hi1, hb1, ho1⟩
      obtain ⟨hown1, hown2, hr, hB, hn1, hn2⟩ := HOX.out
      have hr1 := ho1 _ _ _ hn1 hr
      have hO2 := owns_kept hown2 (fun b t l e h => ho1 b t l (ownsIR_ne hown1 hown2 e) h)
      have hOj1 : ∀ j (hj : j < qs.length), j ≠ k → OwnIv w1 base qs[j].1 (mixT K (qs.map (·.2)) (k + 1) j) := fun j hj hne => (HOj.out j hj hne).kept (fun b t l e h => ho1 b t l (by
        rcases e with e | e
        · exact fun e2 => ((HAk.out j hj hne b).1 e2) e
        · exact ownsIR_ne hown1 (HOj.out j hj hne).2 e) h)
      have hB1 := hB.trans hb1
      have HOT1 : Hid (∀ b t l, b ≠ g → (∀ j (hj : j < qs.length), qs[j].1.x ≠ some ⟨b, 0, none⟩ ∧ qs[j].1.y ≠ some ⟨b, 0, none⟩) → Row w b t l → Row w1 b t l) := fun b t l hne hh h => ho1 b t l (HNk.out b hh).1 (HOT.out b t l hne hh h)
      have HM2k := HM2.out w1 hO2
      have HM2k : Hid (Calls Tryz.prog 85 #[.slice ay t.rs.length ac2, .int .i64 ((kk + 5 * t.is.length : Nat) : Int)] w1 fun e w'' => e = .returned (.int .i64 (((kk + 5 * t.is.length : Nat) : Int) + 9 * (t.rs.length : Int))) ∧ w''.ownsRow base 155 9 (.slice ay t.rs.length ac2) t.rs.length (rowR (marksR (kk + 5 * t.is.length) t.rs.length)) ∧ Below base w1 w'' ∧ ∀ b t l, ay ≠ some ⟨b, 0, none⟩ → Row w1 b t l → Row w'' b t l) := HM2k
      have d1 := rowIv_at hr1 HML.out 1 (by omega)
      rw [HMQ.out] at d1
      simp only [ivL, List.getElem?_cons_zero, List.getElem?_cons_succ] at d1
      have HX1 : Hid _ := And.intro hi1 (And.intro hO2 (And.intro hr1 (And.intro hOj1 hB1)))
      clear hown1 hown2 hr hB hn1 hO2 hOj1 hB1 hr1 hi1 hb1 ho1 HOX HM1 HM2 HOT HOj c0 c1 c2
      rw [show ((kk : Nat) : Int) + 5 * ((t.is.length : Nat) : Int) = ((kk + 5 * t.is.length : Nat) : Int) by omega]
      go_wp2_with fail
      refine HM2k.out.mono ?_
      rintro e w2 ⟨rfl, hi2, hb2, ho2⟩
      obtain ⟨hi1, hO2, hr1, hOj1, hB1⟩ := HX1.out
      have hr2 := ho2 _ _ _ hn2 hr1
      have hO1 := owns_kept hi1 (fun b t l e h => ho2 b t l (ownsRI_ne hi1 hO2 e) h)
      have hOj2 : ∀ j (hj : j < qs.length), j ≠ k → OwnIv w2 base qs[j].1 (mixT K (qs.map (·.2)) (k + 1) j) := fun j hj hne => (hOj1 j hj hne).kept (fun b t l e h => ho2 b t l (by
        rcases e with e | e
        · exact ownsRI_ne (hOj1 j hj hne).1 hO2 e
        · exact fun e2 => ((HAk.out j hj hne b).2 e2) e) h)
      have hB2 := hB1.trans hb2
      have HOT2 : Hid (∀ b t l, b ≠ g → (∀ j (hj : j < qs.length), qs[j].1.x ≠ some ⟨b, 0, none⟩ ∧ qs[j].1.y ≠ some ⟨b, 0, none⟩) → Row w b t l → Row w2 b t l) := fun b t l hne hh h => ho2 b t l (HNk.out b hh).2 (HOT1.out b t l hne hh h)
      rw [show ((kk + 5 * t.is.length : Nat) : Int) + 9 * ((t.rs.length : Nat) : Int) = ((kk + 5 * t.is.length + 9 * t.rs.length : Nat) : Int) by omega]
      obtain ⟨z2, d2⟩ := Row.someIw hr2 (k * 3 + 2) (by rw [List.length_append, HL.out]; omega)
      have f2 := hr2.frozen (k * 3 + 2)
      have hz : IntKind.i64.wrap (((kk + 5 * t.is.length + 9 * t.rs.length : Nat) : Int) + 1) = ((kk + 5 * t.is.length + 9 * t.rs.length : Nat) : Int) + 1 := wrap_i64_in _ (by omega) (by omega)
      have hr3 := hr2.set (k * 3 + 2) (.int .i64 ((kk + 5 * t.is.length + 9 * t.rs.length : Nat) : Int))
      rw [List.set_append, if_pos (by rw [HL.out]; omega)] at hr3
      rw [show ((kk + 5 * t.is.length + 9 * t.rs.length : Nat) : Int) = (markT kk t).now from rfl, HST.out.1] at hr3
      rw [show (markT kk t).now = ((kk + 5 * t.is.length + 9 * t.rs.length : Nat) : Int) from rfl] at hr3
      have hB3 := hB2.setCell (p := ⟨g, k * 3 + 2, none⟩) HG.out (.int .i64 ((kk + 5 * t.is.length + 9 * t.rs.length : Nat) : Int))
      have hO3 : ∀ j (hj : j < qs.length), OwnIv (w2.setCell ⟨g, k * 3 + 2, none⟩ (.int .i64 ((kk + 5 * t.is.length + 9 * t.rs.length : Nat) : Int))) base qs[j].1 (mixT K (qs.map (·.2)) (k + 1) j) := fun j hj => by
        by_cases hne : j = k
        · subst hne
          rw [HST.out.2.1, HQQ.out.2.1]
          have hOk : OwnIv w2 base ⟨ax, ac1, ay, ac2⟩ (markT kk t) := ⟨by show w2.ownsRow base 53 5 (.slice ax (marksI kk t.is.length).length ac1) (marksI kk t.is.length).length _; rw [marksI_length]; exact hO1, by show w2.ownsRow base 155 9 (.slice ay (marksR (kk + 5 * t.is.length) t.rs.length).length ac2) (marksR (kk + 5 * t.is.length) t.rs.length).length _; rw [marksR_length]; exact hi2⟩
          exact hOk.kept (fun b tt l e h => h.other _ _ (by
            rcases e with e | e
            · exact fun e2 => owns_ne hOk.1 hr2 (by decide) (by rw [e, e2])
            · exact fun e2 => owns_ne hOk.2 hr2 (by decide) (by rw [e, e2])))
        · exact (hOj2 j hj hne).kept (fun b tt l e h => h.other _ _ (by
            rcases e with e | e
            · exact fun e2 => owns_ne (hOj2 j hj hne).1 hr2 (by decide) (by rw [e, e2])
            · exact fun e2 => owns_ne (hOj2 j hj hne).2 hr2 (by decide) (by rw [e, e2])))
      have hT3 : ∀ b tt l, b ≠ g → (∀ j (hj : j < qs.length), qs[j].1.x ≠ some ⟨b, 0, none⟩ ∧ qs[j].1.y ≠ some ⟨b, 0, none⟩) → Row w b tt l → Row (w2.setCell ⟨g, k * 3 + 2, none⟩ (.int .i64 ((kk + 5 * t.is.length + 9 * t.rs.length : Nat) : Int))) b tt l := fun b tt l hne hh h => (HOT2.out b tt l hne hh h).other _ _ hne
      have HH : Hid _ := And.intro hr3 (And.intro hO3 (And.intro hB3 hT3))
      have HKE : Hid (((kk + 5 * t.is.length + 9 * t.rs.length : Nat) : Int) + 1 = ((kAt K (qs.map (·.2)) (k + 1) : Nat) : Int)) := by show _ = _; rw [HST.out.2.2.1]; omega
      clear hr1 hr2 hr3 hO1 hO2 hO3 hOj1 hOj2 hB1 hB2 hB3 hT3 hi1 hi2 hb2 ho2 hn2 HX1 HOT1 HOT2 d1 HM2k
      go_wp2_with fail
      refine ⟨⟨k + 1, hlt, by go_num, by first | rfl | (rw [← HKE.out]; push_cast; rfl) | (rw [← HKE.out]; simp), HH.out.1, HH.out.2.1, HH.out.2.2.1, HH.out.2.2.2⟩, ?_⟩
      simp [intOf]
      omega
    · obtain rfl : k = qs.length := by omega
      have dk : decide ((qs.length : Int) < (qs.length : Int)) = false := by simp
      clear hlt hk
      go_wp2
      go_ret
      exact ⟨rfl, hr, hO, hB, hoth⟩
set_option maxRecDepth 100000 in
set_option maxHeartbeats 4000000 in
theorem markInstS_0 (K : Nat) (p : Option Addr) (cv : Nat) (w : World) : Calls Tryz.prog 48 #[.slice p 0 cv, .int .i64 K] w fun e w' => e = .returned (.int .i64 K) ∧ w = w' := by
  go_enter Tryz.func48, Tryz.ntmps48
  go_wp2_with fail
  go_loop [5, 1] (fun i k => i = .int .i64 0 ∧ k = .int .i64 K) (fun _ _ => 0)
  case atStart => exact ⟨rfl, rfl⟩
  case round =>
    obtain ⟨rfl, rfl⟩ := hrel
    go_wp2
    go_ret
    exact ⟨rfl, rfl⟩
theorem markInstS_any (K : Nat) (p : Option Addr) (n cv base : Nat) (qs : List IvP) (w : World) (hn : n = qs.length) (h8 : n ≤ 100000000) (hK : kAt K (qs.map (·.2)) qs.length ≤ 100000000) (h : w.ownsRow base 61 3 (.slice p n cv) n (rowIv qs)) (hO : ∀ j (hj : j < qs.length), OwnIv w base qs[j].1 qs[j].2) (hA : ApQ qs) :
    Calls Tryz.prog 48 #[.slice p n cv, .int .i64 K] w fun e w' => e = .returned (.int .i64 ((kAt K (qs.map (·.2)) n : Nat) : Int)) ∧ w'.ownsRow base 61 3 (.slice p n cv) n (rowIv (mixQ K qs n)) ∧ (∀ j (hj : j < qs.length), OwnIv w' base qs[j].1 (mixT K (qs.map (·.2)) n j)) ∧ Below base w w' ∧ ∀ b t l, p ≠ some ⟨b, 0, none⟩ → (∀ j (hj : j < qs.length), qs[j].1.x ≠ some ⟨b, 0, none⟩ ∧ qs[j].1.y ≠ some ⟨b, 0, none⟩) → Row w b t l → Row w' b t l := by
  rcases owns_opened h with h0 | ⟨g, rest, rfl, hb, h1, h2, hr, hl⟩
  · have hq : qs = [] := List.length_eq_zero_iff.1 (by omega)
    subst hq
    subst h0
    exact (markInstS_0 K p cv w).mono fun e w' ⟨he, hw⟩ => ⟨he, hw ▸ h, fun j hj => absurd hj (by simp), hw ▸ Below.refl _ _, fun _ _ _ _ _ h => hw ▸ h⟩
  · refine (markInstS_in K g n cv base qs rest w hn h8 hK hb hr hO hA).mono fun e w' ⟨he, hr', ho', hb', ht'⟩ => ⟨he, owns_shut ?_ hb h1 h2 hr' ?_, ho', hb', fun b t l hp hh h => ht' b t l (fun e => hp (by rw [e])) hh h⟩
    · rw [rowIv_length, mixQ_length, hn]; omega
    · rw [List.length_append, rowIv_length, mixQ_length]
      rw [List.length_append, rowIv_length] at hl
      exact hl
set_option maxRecDepth 100000 in
set_option maxHeartbeats 4000000 in
theorem heldInstS_any (K : Nat) (p : Option Addr) (n cv : Nat) (ts : List Iv) (ps : List IvP) (w : World) (hn : n = ps.length) (h8 : n ≤ 100000000) (hK : kAt K ts n ≤ 100000000) (hI : IvsIn w p ps) (hM : ∀ j (hj : j < ps.length), ps[j].2 = markT (kAt K ts j) ts[j]!) :
    Calls Tryz.prog 63 #[.slice p n cv, .int .i64 K] w fun e w' => e = .returned (.int .i64 ((kAt K ts n : Nat) : Int)) ∧ w = w' := by
  obtain rfl := hn
  have HX : Hid (IvsIn w p ps) := hI
  have HMM : Hid (∀ j (hj : j < ps.length), ps[j].2 = markT (kAt K ts j) ts[j]!) := hM
  have HKK : Hid (kAt K ts ps.length ≤ 100000000) := hK
  clear hI hM hK
  go_enter Tryz.func63, Tryz.ntmps63
  go_wp2_with fail
  go_loop [5, 1] (fun i m => ∃ k : Nat, k ≤ ps.length ∧ i = .int .i64 k ∧ m = .int .i64 ((kAt K ts k : Nat) : Int)) (fun i _ => ps.length - (intOf i).toNat)
  case atStart => exact ⟨0, Nat.zero_le _, rfl, rfl⟩
  case round =>
    obtain ⟨k, hk, rfl, rfl⟩ := hrel
    by_cases hlt : k < ps.length
    · have dk : decide ((k : Int) < (ps.length : Int)) = true := by simpa using hlt
      obtain ⟨g, a, t, rfl, hg, hek, hI, c0, c1, c2⟩ := HX.out.at k hlt
      have ht := HMM.out k hlt
      rw [hek] at ht
      simp only at ht
      subst ht
      have hkb : kAt K ts (k + 1) ≤ 100000000 := Nat.le_trans (kAt_mono K ts hlt) HKK.out
      have hk1 : kAt K ts (k + 1) = kAt K ts k + (5 * (ts[k]!).is.length + 9 * (ts[k]!).rs.length + 1) := rfl
      have HST : Hid _ := hk1
      unfold InIv at hI
      simp only [markT, marksI_length, marksR_length] at c0 c1 c2 hI
      clear hek
      generalize hkk : kAt K ts k = kk at *
      generalize (ts[k]!).is.length = m1 at *
      generalize (ts[k]!).rs.length = m2 at *
      have hm : kk + 5 * m1 + 9 * m2 ≤ 100000000 := by omega
      have HI : Hid (Calls Tryz.prog 104 #[.slice a.x m1 a.c1, .int .i64 ((kk : Nat) : Int)] w fun e w' => e = .returned (.int .i64 (((kk : Nat) : Int) + 5 * (m1 : Int))) ∧ w = w') := heldIfaceS_in kk a.x m1 a.c1 w (by omega) (by omega) hI.1
      have HR : Hid (Calls Tryz.prog 105 #[.slice a.y m2 a.c2, .int .i64 ((kk + 5 * m1 : Nat) : Int)] w fun e w' => e = .returned (.int .i64 (((kk + 5 * m1 : Nat) : Int) + 9 * (m2 : Int))) ∧ w = w') := heldRouteS_in (kk + 5 * m1) a.y m2 a.c2 w (by omega) (by omega) hI.2
      rw [show ((kk + 5 * m1 : Nat) : Int) = (kk : Int) + 5 * (m1 : Int) by omega] at HR
      rw [show ((kk + 5 * m1 + 9 * m2 : Nat) : Int) = (kk : Int) + 5 * (m1 : Int) + 9 * (m2 : Int) by omega] at c2
      have HKE : Hid ((kk : Int) + 5 * (m1 : Int) + 9 * (m2 : Int) + 1 = ((kAt K ts (k + 1) : Nat) : Int)) := by show _ = _; rw [HST.out]; omega
      have d1 : decide ((kk : Int) + 5 * (m1 : Int) < 0) = false := by simp; omega
      have d2 : decide ((kk : Int) + 5 * (m1 : Int) + 9 * (m2 : Int) < 0) = false := by simp; omega
      have d3 : ((kk : Int) + 5 * (m1 : Int) + 9 * (m2 : Int) != (kk : Int) + 5 * (m1 : Int) + 9 * (m2 : Int)) = false := by simp
      clear hI hkb hk1 HX HMM HKK hkk
      generalize a.x = ax at *
      generalize a.y = ay at *
      generalize a.c1 = ac1 at *
      generalize a.c2 = ac2 at *
      go_wp2_with fail
      refine (HI.out).mono ?_
      rintro e w1 ⟨rfl, rfl⟩
      go_wp2_with fail
      refine (HR.out).mono ?_
      rintro e w1 ⟨rfl, rfl⟩
      clear HI HR
      go_wp2
      go_round
      case rel => exact ⟨k + 1, hlt, by go_num, by rw [← HKE.out]⟩
      case measure => simp [intOf]; omega
    · obtain rfl : k = ps.length := by omega
      have dk : decide ((ps.length : Int) < (ps.length : Int)) = false := by simp
      clear hlt hk HX HMM
      go_wp2
      go_ret
      exact ⟨rfl, rfl⟩
end Go.Proofs.YtcnadobnihbldaaGreat
/- The laws' own Links handed in: opened. (Written by gen_flat.py.) -/
namespace Go.Proofs.YtcnadobnihbldaaGreat
open Go.ChangeShapes Go.WideShapes Go.RowKit Go.Deep Go.WideElems Go.Maps Go.Joins Go.Sort

def LiW (f : Li) : Prop := (Lit.int .i64 f.la).wf = true ∧ (Lit.int .i64 f.lx).wf = true ∧ (Lit.int .i64 f.lb).wf = true ∧ (Lit.int .i64 f.ly).wf = true
theorem Tryz.cellsLi : Tryz.prog.cellsOf 123 = 4 := by kernel_rfl
theorem Tryz.cellsIntLi : Tryz.prog.cellsOf 2 = 1 := by kernel_rfl
/-- The slice (x, len) that was handed in holds them. -/
def ArgLi (w : World) (x : Option Addr) (len : Nat) (rs : List Li) : Prop := rs.length = len ∧ len ≤ maxLen ∧ (∀ e ∈ rs, LiW e) ∧ ∀ i, (h : i < rs.length) → ∃ p, x = some p ∧ w.cell? (p.add (i * 4)) = some (.int .i64 rs[i].la) ∧ w.cell? (p.add (i * 4 + 1)) = some (.int .i64 rs[i].lx) ∧ w.cell? (p.add (i * 4 + 2)) = some (.int .i64 rs[i].lb) ∧ w.cell? (p.add (i * 4 + 3)) = some (.int .i64 rs[i].ly)
theorem ArgLi.below {w w' : World} {x : Option Addr} {len : Nat} {rs : List Li} (h : ArgLi w x len rs) (hb : Below w.heap.size w w') : ArgLi w' x len rs := by
  obtain ⟨h1, h2, h3, h4⟩ := h
  refine ⟨h1, h2, h3, fun i hi => ?_⟩
  obtain ⟨p, hp, c0, c1, c2, c3⟩ := h4 i hi
  have hk : ∀ k v, w.cell? (p.add k) = some v → w'.cell? (p.add k) = some v := fun k v hv => by rw [hb.cell (World.block_lt_of_cell? w _ hv)]; exact hv
  exact ⟨p, hp, hk _ _ c0, hk _ _ c1, hk _ _ c2, hk _ _ c3⟩
theorem addr_moreLi (p : Addr) (m j : Nat) (hj : j ≠ 0) : p.add (m + j) = ⟨(p.add m).block, (p.add m).off + j, none⟩ := by
  rw [← Addr.add_add]
  generalize p.add m = q
  unfold Addr.add
  rw [if_neg hj]
theorem ArgLi.at {w : World} {x : Option Addr} {len : Nat} {rs : List Li} (h : ArgLi w x len rs) (i : Nat) (hi : i < rs.length) : ∃ p la lx lb ly, x = some p ∧ rs[i] = ⟨la, lx, lb, ly⟩ ∧ w.cell? (p.add (i * 4)) = some (.int .i64 la) ∧ w.cell? ⟨(p.add (i * 4)).block, (p.add (i * 4)).off + 1, none⟩ = some (.int .i64 lx) ∧ w.cell? ⟨(p.add (i * 4)).block, (p.add (i * 4)).off + 2, none⟩ = some (.int .i64 lb) ∧ w.cell? ⟨(p.add (i * 4)).block, (p.add (i * 4)).off + 3, none⟩ = some (.int .i64 ly) := by
  obtain ⟨p, hp, c0, c1, c2, c3⟩ := h.2.2.2 i hi
  rw [addr_moreLi _ _ _ (by omega)] at c1 c2 c3
  exact ⟨p, _, _, _, _, hp, rfl, c0, c1, c2, c3⟩
section
variable {H : Type} {enc : TypeId × Value → H} {w : World} {base : Nat} {spare : Nat → Bool} {held : Bool}
set_option maxRecDepth 100000 in
theorem open_li {fuel : Nat} {cs : List Value} {x : DataW H × List MemPlace} (h : DataW.trod enc Tryz.prog w base spare held fuel 123 cs = some x) : ∃ f : Li, cs = liL f ∧ LiW f := by
  obtain ⟨xs, n, _, _, hl, hx, hg⟩ := DataW.trod_struct Tryz.underlying123 h
  rw [Tryz.cellsLi] at hl
  match cs, hl, xs, hx with
  | [c0, c1, c2, c3], _, [y0, y1, y2, y3], _ =>
    have h0 : DataW.trod enc Tryz.prog w base spare held n 2 ((([c0, c1, c2, c3] : List Value).drop 0).take (Tryz.prog.cellsOf 2)) = [y0, y1, y2, y3][0]? := hg 0 _ rfl
    rw [Tryz.cellsIntLi] at h0
    replace h0 : DataW.trod enc Tryz.prog w base spare held n 2 [c0] = some y0 := h0
    obtain ⟨la, ela, _, wla⟩ := DataW.trod_int Tryz.underlying2 h0
    have h1 : DataW.trod enc Tryz.prog w base spare held n 2 ((([c0, c1, c2, c3] : List Value).drop 1).take (Tryz.prog.cellsOf 2)) = [y0, y1, y2, y3][1]? := hg 1 _ rfl
    rw [Tryz.cellsIntLi] at h1
    replace h1 : DataW.trod enc Tryz.prog w base spare held n 2 [c1] = some y1 := h1
    obtain ⟨lx, elx, _, wlx⟩ := DataW.trod_int Tryz.underlying2 h1
    have h2 : DataW.trod enc Tryz.prog w base spare held n 2 ((([c0, c1, c2, c3] : List Value).drop 2).take (Tryz.prog.cellsOf 2)) = [y0, y1, y2, y3][2]? := hg 2 _ rfl
    rw [Tryz.cellsIntLi] at h2
    replace h2 : DataW.trod enc Tryz.prog w base spare held n 2 [c2] = some y2 := h2
    obtain ⟨lb, elb, _, wlb⟩ := DataW.trod_int Tryz.underlying2 h2
    have h3 : DataW.trod enc Tryz.prog w base spare held n 2 ((([c0, c1, c2, c3] : List Value).drop 3).take (Tryz.prog.cellsOf 2)) = [y0, y1, y2, y3][3]? := hg 3 _ rfl
    rw [Tryz.cellsIntLi] at h3
    replace h3 : DataW.trod enc Tryz.prog w base spare held n 2 [c3] = some y3 := h3
    obtain ⟨ly, ely, _, wly⟩ := DataW.trod_int Tryz.underlying2 h3
    simp only [List.cons.injEq, and_true] at ela elx elb ely
    subst ela elx elb ely
    exact ⟨⟨la, lx, lb, ly⟩, rfl, wla, wlx, wlb, wly⟩
set_option maxRecDepth 100000 in
theorem open_lis {fuel : Nat} {v : Value} {x : DataW H × List MemPlace} (h : DataW.trod enc Tryz.prog w base spare held fuel 37 [v] = some x) : ∃ y len cap rs, v = .slice y len cap ∧ ArgLi w y len rs := by
  rcases open_slice Tryz.underlying37 h with ⟨h0, _⟩ | ⟨a, len, cap, m, n, D, Pl, h0, hb, hl, hm, hmm, _, hx⟩
  · simp only [List.cons.injEq, and_true] at h0
    exact ⟨none, 0, 0, [], h0, rfl, Nat.zero_le _, by simp, fun i hi => absurd hi (by simp)⟩
  · simp only [List.cons.injEq, and_true] at h0
    have hlm : len ≤ m := by rw [hmm]; split <;> omega
    have each : ∀ i, i < m → ∃ e : Li, LiW e ∧ w.cell? (a.add (i * 4)) = some (.int .i64 e.la) ∧ w.cell? (a.add (i * 4 + 1)) = some (.int .i64 e.lx) ∧ w.cell? (a.add (i * 4 + 2)) = some (.int .i64 e.lb) ∧ w.cell? (a.add (i * 4 + 3)) = some (.int .i64 e.ly) := by
      intro i hi
      obtain ⟨cs', h1, h2⟩ := hx i hi
      rw [Tryz.cellsLi] at h1
      obtain ⟨e, rfl, hw⟩ := open_li h2
      obtain ⟨_, _, hcell⟩ := World.cells?_some h1
      have hadd : ∀ j k, (a.add j).add k = a.add (j + k) := fun j k => by
        unfold Addr.add
        by_cases hj : j = 0
        · subst hj; by_cases hk : k = 0 <;> simp [hk]
        · by_cases hk : k = 0
          · simp [hj, hk]
          · simp [hj, hk, Nat.add_assoc]
      refine ⟨e, hw, ?_⟩
      have k0 := hcell 0 (by omega)
      have k1 := hcell 1 (by omega)
      have k2 := hcell 2 (by omega)
      have k3 := hcell 3 (by omega)
      simp only [hadd, Nat.add_zero, liL] at k0 k1 k2 k3
      exact ⟨by simpa using k0, by simpa using k1, by simpa using k2, by simpa using k3⟩
    obtain ⟨E, hE⟩ := choose_lt (α := Li) (p := fun i e => LiW e ∧ w.cell? (a.add (i * 4)) = some (.int .i64 e.la) ∧ w.cell? (a.add (i * 4 + 1)) = some (.int .i64 e.lx) ∧ w.cell? (a.add (i * 4 + 2)) = some (.int .i64 e.lb) ∧ w.cell? (a.add (i * 4 + 3)) = some (.int .i64 e.ly)) each
    refine ⟨some a, len, cap, (List.range len).map E, h0, by simp, by omega, ?_, ?_⟩
    · intro e he
      simp only [List.mem_map, List.mem_range] at he
      obtain ⟨i, hi, rfl⟩ := he
      exact (hE i (by omega)).1
    · intro i hi
      simp only [List.length_map, List.length_range] at hi
      refine ⟨a, rfl, ?_⟩
      simp only [List.getElem_map, List.getElem_range]
      exact (hE i (by omega)).2
end
end Go.Proofs.YtcnadobnihbldaaGreat
/- The laws' own Links handed over. (Written by gen_flat.py.) -/
namespace Go.Proofs.YtcnadobnihbldaaGreat
open Go.RowKit Go.Sort

set_option maxRecDepth 100000 in
theorem toLink_any (f : Li) (w : World) : Calls Tryz.prog 74 #[liV f] w fun e w' => e = .returned (liV f) ∧ Below w.heap.size w w' := by
  obtain ⟨la, lx, lb, ly⟩ := f
  unfold liV
  go_enter Tryz.func74, Tryz.ntmps74
  go_wp2
  refine bodyPost_ret (v := .agg #[.int .i64 la, .int .i64 lx, .int .i64 lb, .int .i64 ly]) (by simp [results, Tryz.results74, go_sem]) rfl ⟨rfl, ?_⟩
  exact (((Below.refl _ _).alloc (Nat.le_refl _) _).alloc (by simp) _).alloc (by simp; omega) _
def fourLi (w : World) (g o : Nat) (x0 x1 x2 x3 : Value) : World := ((((w.setCell ⟨g, o, none⟩ x0).setCell ⟨g, o + 1, none⟩ x1).setCell ⟨g, o + 2, none⟩ x2).setCell ⟨g, o + 3, none⟩ x3)
theorem fourLi_below {B : Nat} {w0 w : World} (h : Below B w0 w) (g o : Nat) (hg : B ≤ g) (x0 x1 x2 x3 : Value) : Below B w0 (fourLi w g o x0 x1 x2 x3) := ((((h.setCell (p := ⟨g, o, none⟩) hg x0).setCell (p := ⟨g, o + 1, none⟩) hg x1).setCell (p := ⟨g, o + 2, none⟩) hg x2).setCell (p := ⟨g, o + 3, none⟩) hg x3)
theorem fourLi_row {w : World} {g : Nat} {t : TypeId} {l : List Value} (h : Row w g t l) (o : Nat) (x0 x1 x2 x3 : Value) : Row (fourLi w g o x0 x1 x2 x3) g t ((((l.set (o) x0).set (o + 1) x1).set (o + 2) x2).set (o + 3) x3) := ((((h.set (o) x0).set (o + 1) x1).set (o + 2) x2).set (o + 3) x3)
theorem fourLi_other {w : World} {b g : Nat} {t : TypeId} {l : List Value} (h : Row w b t l) (hne : b ≠ g) (o : Nat) (x0 x1 x2 x3 : Value) : Row (fourLi w g o x0 x1 x2 x3) b t l := ((((h.other (o) x0 hne).other (o + 1) x1 hne).other (o + 2) x2 hne).other (o + 3) x3 hne)
theorem setLi (A R : List Value) (k : Nat) (hA : A.length = k * 4) (z0 z1 z2 z3 x0 x1 x2 x3 : Value) : (((((A ++ ([z0, z1, z2, z3] ++ R)).set (k * 4) x0).set (k * 4 + 1) x1).set (k * 4 + 2) x2).set (k * 4 + 3) x3) = A ++ ([x0, x1, x2, x3] ++ R) := by
  have e : ∀ (L : List Value) (j : Nat) (x : Value), (A ++ L).set (k * 4 + j) x = A ++ L.set j x := fun L j x => by
    rw [List.set_append, if_neg (by omega), hA, Nat.add_sub_cancel_left]
  have e0 : ∀ (L : List Value) (x : Value), (A ++ L).set (k * 4) x = A ++ L.set 0 x := fun L x => e L 0 x
  rw [e0, e, e, e]
  rfl
theorem Row.someLi {w : World} {g : Nat} {t : TypeId} {l : List Value} (h : Row w g t l) (k : Nat) (hk : k < l.length) : ∃ v, w.cell? ⟨g, k, none⟩ = some v := ⟨l[k], by rw [h.cell, List.getElem?_eq_getElem hk]⟩
theorem Tryz.infoLi : (Tryz.prog.info? 56).map (fun i => (i.zero, i.size, i.bytes)) = some (some (.agg #[.int .i64 0, .int .i64 0, .int .i64 0, .int .i64 0]), 4, 32) := by kernel_rfl
def zeroLi : Li := ⟨0, 0, 0, 0⟩
theorem rowLi_zero_get (n i : Nat) (h : i < n * 4) : (rowLi (List.replicate n zeroLi))[i]? = (liL zeroLi)[i % 4]? := by
  have hi : i / 4 < (List.replicate n zeroLi).length := by simp; omega
  have := rowLi_get (List.replicate n zeroLi) (i / 4) (i % 4) hi (by omega)
  rw [show i / 4 * 4 + i % 4 = i by omega] at this
  rw [this, List.getElem_replicate]
theorem made_zeroLi (n : Nat) : (madeCells (Value.agg #[.int .i64 0, .int .i64 0, .int .i64 0, .int .i64 0]).cells (n * 4)).toList = rowLi (List.replicate n zeroLi) := by
  apply List.ext_getElem?
  intro i
  by_cases h : i < n * 4
  · rw [rowLi_zero_get n i h]
    simp only [madeCells, Value.cells, Array.toList_map, List.getElem?_map]
    have h9 : i % 4 = 0 ∨ i % 4 = 1 ∨ i % 4 = 2 ∨ i % 4 = 3 := by omega
    rcases h9 with h9 | h9 | h9 | h9 <;> simp [h9, h, liL, zeroLi]
  · rw [List.getElem?_eq_none (by simp [madeCells]; omega), List.getElem?_eq_none (by rw [rowLi_length]; simp; omega)]
set_option maxRecDepth 100000 in
theorem wpList_make_lis {w : World} {ops : Array Oper} {rest : List Oper} {o : Oper} {a : Act} {Q : Exit → Act → World → Prop}
    (hgd : o.guard = none) (l c : Operand) (hop : o.op = Op.makeSlice 24 l c)
    (L : Int) (n : Nat) (hl : a.eval l = .int .i64 L) (hc : a.eval c = .int .i64 L) (hL : L = (n : Int)) (hn : n ≤ 100000000)
    (B : Nat) (w0 : World) (hb : Below B w0 w) (hB : B ≤ w.heap.size)
    (h : ∀ w', Row w' w.heap.size 56 (rowLi (List.replicate n zeroLi)) → Below B w0 w' → wpList Tryz.prog ops Q rest (a.put o.dst (.slice (some ⟨w.heap.size, 0, none⟩) n n)) w') : wpList Tryz.prog ops Q (o :: rest) a w := by
  obtain ⟨i0, hi0, hz0, hz1, hz2⟩ := info_parts Tryz.infoLi
  refine wpList_make_full w hgd l c 24 hop B 56 i0 _ 4 Tryz.underlying24 hi0 hz0 hz1 .i64 .i64 L L n hl hc hL hL (by rw [hz2]; omega) (by unfold maxLen; omega) hB ?_
  intro w' hown hgrow
  rcases hown.2 with ⟨h', _⟩ | ⟨g, cap, cur, h', hbg, hg, hnc, hcm, hcs, htake⟩
  · simp at h'
  · simp only [Value.slice.injEq, Option.some.injEq, Addr.mk.injEq, and_true, true_and] at h'
    obtain ⟨rfl, rfl⟩ := h'
    refine h w' ?_ (hb.trans ((Below.refl B w).grown hgrow hB (by intro k hk; cases hk)))
    unfold Row
    rw [hg, ← made_zeroLi, ← htake, List.take_of_length_le (by simp [hcs])]
theorem rowLi_set (es : List Li) (k : Nat) (hk : k < es.length) (la : Int) (lx : Int) (lb : Int) (ly : Int) (he : es[k] = ⟨la, lx, lb, ly⟩) :
    (((((rowLi (es.take k ++ List.replicate (es.length - k) zeroLi)).set (k * 4) (.int .i64 la)).set (k * 4 + 1) (.int .i64 lx)).set (k * 4 + 2) (.int .i64 lb)).set (k * 4 + 3) (.int .i64 ly)) = rowLi (es.take (k + 1) ++ List.replicate (es.length - (k + 1)) zeroLi) := by
  have e1 : es.length - k = (es.length - (k + 1)) + 1 := by omega
  rw [e1, List.replicate_succ, rowLi_append, rowLi_cons, List.take_succ_eq_append_getElem hk, List.append_assoc, rowLi_append, List.singleton_append, rowLi_cons, he]
  exact setLi _ _ k (by rw [rowLi_length, List.length_take]; omega) _ _ _ _ _ _ _ _
set_option maxRecDepth 100000 in
theorem toLinkS_any (x : Option Addr) (cap : Nat) (es : List Li) (w : World) (h : ArgLi w x es.length es) (hn : es.length ≤ 1048576) :
    Calls Tryz.prog 40 #[.slice x es.length cap] w fun e w' => ∃ g, e = .returned (.slice (some ⟨g, 0, none⟩) es.length es.length) ∧ w.heap.size ≤ g ∧ Row w' g 56 (rowLi es) ∧ Below w.heap.size w w' := by
  have HE : Hid (∀ e w, Calls Tryz.prog 74 #[liV e] w fun r w' => r = .returned (liV e) ∧ Below w.heap.size w w') := toLink_any
  have HX : Hid (ArgLi w x es.length es) := h
  clear h
  go_enter Tryz.func40, Tryz.ntmps40
  go_wp2_with (at_make; refine wpList_make_lis rfl _ _ rfl _ es.length rfl rfl rfl (by omega) w.heap.size w (Below.refl _ _) (Nat.le_refl _) ?_)
  intro w0 hr0 hb0
  have hz : es.take 0 ++ List.replicate (es.length - 0) zeroLi = List.replicate es.length zeroLi := by simp
  rw [← hz] at hr0
  clear hz
  go_wp2_with fail
  go_loopw [4] (fun i wr => ∃ k : Nat, k ≤ es.length ∧ i = .int .i64 k ∧ Row wr w.heap.size 56 (rowLi (es.take k ++ List.replicate (es.length - k) zeroLi)) ∧ Below w.heap.size w wr) (fun i _ => es.length - (intOf i).toNat)
  case atStart => exact ⟨0, Nat.zero_le _, rfl, hr0, hb0⟩
  case round =>
    obtain ⟨k, hk, rfl, hr, hb⟩ := hrel
    by_cases hlt : k < es.length
    · obtain ⟨p, la, lx, lb, ly, rfl, hek, c0, c1, c2, c3⟩ := (HX.out.below hb).at k hlt
      have HEk : Hid (∀ w, Calls Tryz.prog 74 #[.agg #[.int .i64 la, .int .i64 lx, .int .i64 lb, .int .i64 ly]] w fun r w' => r = .returned (.agg #[.int .i64 la, .int .i64 lx, .int .i64 lb, .int .i64 ly]) ∧ Below w.heap.size w w') := HE.out ⟨la, lx, lb, ly⟩
      have hset := rowLi_set es k hlt la lx lb ly hek
      have HS : Hid _ := hset
      clear hset HE hek hr0 hb0
      go_wp2_with fail
      refine (HEk.out _).mono ?_
      rintro e w1 ⟨rfl, hb1⟩
      have hr1 := hr.below hb1 hr.lt
      have hB1 := hb.trans (hb1.mono hb.size)
      clear c0 c1 c2 c3 hb1 HEk hr hb
      have hlr : (rowLi (es.take k ++ List.replicate (es.length - k) zeroLi)).length = es.length * 4 := by rw [rowLi_length]; simp; omega
      obtain ⟨z0, hz0⟩ := Row.someLi hr1 (k * 4) (by omega)
      obtain ⟨z1, hz1⟩ := Row.someLi hr1 (k * 4 + 1) (by omega)
      obtain ⟨z2, hz2⟩ := Row.someLi hr1 (k * 4 + 2) (by omega)
      obtain ⟨z3, hz3⟩ := Row.someLi hr1 (k * 4 + 3) (by omega)
      have f0 := hr1.frozen (k * 4)
      have f1 := hr1.frozen (k * 4 + 1)
      have f2 := hr1.frozen (k * 4 + 2)
      have f3 := hr1.frozen (k * 4 + 3)
      have hr2 := fourLi_row hr1 (k * 4) (.int .i64 la) (.int .i64 lx) (.int .i64 lb) (.int .i64 ly)
      rw [HS.out] at hr2
      have hB2 := fourLi_below hB1 w.heap.size (k * 4) (Nat.le_refl _) (.int .i64 la) (.int .i64 lx) (.int .i64 lb) (.int .i64 ly)
      unfold fourLi at hr2 hB2
      have HH : Hid _ := And.intro hr2 hB2
      clear hr1 hB1 HS hlr hr2 hB2
      go_wp2_with fail
      go_roundw
      case rel => exact ⟨k + 1, hlt, by go_num, HH.out.1, HH.out.2⟩
      case measure => simp [intOf]; omega
    · obtain rfl : k = es.length := by omega
      rw [List.take_length, Nat.sub_self, List.replicate_zero, List.append_nil] at hr
      clear hlt hk
      go_wp2
      go_ret
      exact ⟨_, rfl, Nat.le_refl _, hr, hb⟩
set_option maxRecDepth 100000 in
theorem szLinkS_any (x : Option Addr) (len cap : Nat) (L : Int) (w : World) (hl : len ≤ maxLen) (h0 : 0 ≤ L) (h1 : L ≤ 1048576) : Calls Tryz.prog 35 #[.slice x len cap, .int .i64 L] w fun e w' => e = .returned (.int .i64 (if (len : Int) ≤ L then L - (len : Int) else -1)) ∧ w = w' := by
  unfold maxLen at hl
  have z : IntKind.i64.wrap (L - (len : Int)) = L - (len : Int) := wrap_i64_in _ (by omega) (by omega)
  by_cases h : (len : Int) ≤ L
  · rw [if_pos h]
    have d : decide (L - (len : Int) < 0) = false := by simp; omega
    go_enter Tryz.func35, Tryz.ntmps35
    go_wp2
    go_ret
    exact ⟨rfl, rfl⟩
  · rw [if_neg h]
    have d : decide (L - (len : Int) < 0) = true := by simp; omega
    go_enter Tryz.func35, Tryz.ntmps35
    go_wp2
    go_ret
    exact ⟨rfl, rfl⟩
end Go.Proofs.YtcnadobnihbldaaGreat
/- The laws' own marks in lists of Links: written, and looked for. (Written by gen_markiv.py.) -/
namespace Go.Proofs.YtcnadobnihbldaaGreat
open Go.RowKit Go.Sort

def markL (K i : Nat) : Li := ⟨(K : Int) + 4 * (i : Int) + 0, (K : Int) + 4 * (i : Int) + 1, (K : Int) + 4 * (i : Int) + 2, (K : Int) + 4 * (i : Int) + 3⟩
def marksL (K n : Nat) : List Li := (List.range n).map (markL K)
theorem marksL_length (K n : Nat) : (marksL K n).length = n := by simp [marksL]
theorem marksL_set (K : Nat) (es : List Li) (rest : List Value) (k : Nat) (hk : k < es.length) :
    ((((rowLi (marksL K k ++ es.drop k) ++ rest).set (k * 4) (.int .i64 ((K : Int) + 4 * (k : Int) + 0))).set (k * 4 + 1) (.int .i64 ((K : Int) + 4 * (k : Int) + 1))).set (k * 4 + 2) (.int .i64 ((K : Int) + 4 * (k : Int) + 2))).set (k * 4 + 3) (.int .i64 ((K : Int) + 4 * (k : Int) + 3)) = rowLi (marksL K (k + 1) ++ es.drop (k + 1)) ++ rest := by
  have e : es.drop k = es[k] :: es.drop (k + 1) := List.drop_eq_getElem_cons hk
  have e2 : marksL K (k + 1) = marksL K k ++ [markL K k] := by simp [marksL, List.range_succ]
  rw [e, e2, rowLi_append, rowLi_cons, List.append_assoc, List.append_assoc, List.append_assoc, rowLi_append, List.singleton_append, rowLi_cons, List.append_assoc]
  exact setLi _ _ k (by rw [rowLi_length, marksL_length]; omega) _ _ _ _ _ _ _ _
set_option maxRecDepth 100000 in
set_option maxHeartbeats 4000000 in
theorem markLinkS_in (K g n cv : Nat) (es : List Li) (rest : List Value) (w : World) (hn : n = es.length) (hK : K ≤ 100000000) (h8 : n ≤ 100000000) (hr : Row w g 56 (rowLi es ++ rest)) :
    Calls Tryz.prog 49 #[.slice (some ⟨g, 0, none⟩) n cv, .int .i64 K] w fun e w' => e = .returned (.int .i64 ((K : Int) + 4 * (n : Int))) ∧ Row w' g 56 (rowLi (marksL K n) ++ rest) ∧ Below g w w' ∧ ∀ b t l, b ≠ g → Row w b t l → Row w' b t l := by
  have HN : Hid (n = es.length) := hn
  have hr0 : Row w g 56 (rowLi (marksL K 0 ++ es.drop 0) ++ rest) := hr
  clear hn hr
  go_enter Tryz.func49, Tryz.ntmps49
  go_wp2_with fail
  go_loopw [5, 1] (fun i m wr => ∃ k : Nat, k ≤ n ∧ i = .int .i64 k ∧ m = .int .i64 ((K : Int) + 4 * (k : Int)) ∧ Row wr g 56 (rowLi (marksL K k ++ es.drop k) ++ rest) ∧ Below g w wr ∧ ∀ b t l, b ≠ g → Row w b t l → Row wr b t l) (fun i _ _ => n - (intOf i).toNat)
  case atStart => exact ⟨0, Nat.zero_le _, rfl, by go_num, hr0, Below.refl _ _, fun _ _ _ _ h => h⟩
  case round =>
    obtain ⟨k, hk, rfl, rfl, hr, hb, hoth⟩ := hrel
    have HOT : Hid (∀ b t l, b ≠ g → Row w b t l → Row wr b t l) := hoth
    clear hr0 hoth
    by_cases hlt : k < n
    · have hlen : (marksL K k ++ es.drop k).length = n := by rw [List.length_append, marksL_length, List.length_drop, ← HN.out]; omega
      have hlr : k * 4 + 3 < (rowLi (marksL K k ++ es.drop k) ++ rest).length := by rw [List.length_append, rowLi_length, hlen]; omega
      obtain ⟨z0, c0⟩ := Row.someLi hr (k * 4) (by omega)
      obtain ⟨z1, c1⟩ := Row.someLi hr (k * 4 + 1) (by omega)
      obtain ⟨z2, c2⟩ := Row.someLi hr (k * 4 + 2) (by omega)
      obtain ⟨z3, c3⟩ := Row.someLi hr (k * 4 + 3) (by omega)
      have f0 := hr.frozen (k * 4)
      have f1 := hr.frozen (k * 4 + 1)
      have f2 := hr.frozen (k * 4 + 2)
      have f3 := hr.frozen (k * 4 + 3)
      have hr2 := fourLi_row hr (k * 4) (.int .i64 ((K : Int) + 4 * (k : Int) + 0)) (.int .i64 ((K : Int) + 4 * (k : Int) + 1)) (.int .i64 ((K : Int) + 4 * (k : Int) + 2)) (.int .i64 ((K : Int) + 4 * (k : Int) + 3))
      rw [marksL_set K es rest k (by rw [← HN.out]; exact hlt)] at hr2
      have hB2 := fourLi_below hb g (k * 4) (Nat.le_refl _) (.int .i64 ((K : Int) + 4 * (k : Int) + 0)) (.int .i64 ((K : Int) + 4 * (k : Int) + 1)) (.int .i64 ((K : Int) + 4 * (k : Int) + 2)) (.int .i64 ((K : Int) + 4 * (k : Int) + 3))
      have hO2 := fun b t l (hne : b ≠ g) (h : Row w b t l) => fourLi_other (HOT.out b t l hne h) hne (k * 4) (.int .i64 ((K : Int) + 4 * (k : Int) + 0)) (.int .i64 ((K : Int) + 4 * (k : Int) + 1)) (.int .i64 ((K : Int) + 4 * (k : Int) + 2)) (.int .i64 ((K : Int) + 4 * (k : Int) + 3))
      unfold fourLi at hr2 hB2 hO2
      have HH : Hid _ := And.intro hr2 (And.intro hB2 hO2)
      clear hr hb hr2 hB2 hlen hlr hO2 HOT
      go_wp2_with fail
      rw [show (K : Int) + 4 * (k : Int) + 1 + 1 + 1 + 1 = (K : Int) + 4 * ((k + 1 : Nat) : Int) by omega, show (K : Int) + 4 * (k : Int) + 1 + 1 + 1 = (K : Int) + 4 * (k : Int) + 3 by omega, show (K : Int) + 4 * (k : Int) + 1 + 1 = (K : Int) + 4 * (k : Int) + 2 by omega]
      refine ⟨⟨k + 1, hlt, by go_num, rfl, HH.out.1, HH.out.2.1, HH.out.2.2⟩, ?_⟩
      simp [intOf]
      omega
    · obtain rfl : k = n := by omega
      have hre : marksL K k ++ es.drop k = marksL K k := by rw [HN.out, List.drop_length, List.append_nil]
      rw [hre] at hr
      clear hlt hk hre
      go_wp2
      go_ret
      exact ⟨rfl, hr, hb, HOT.out⟩
set_option maxRecDepth 100000 in
set_option maxHeartbeats 4000000 in
theorem markLinkS_0 (K : Nat) (p : Option Addr) (cv : Nat) (w : World) : Calls Tryz.prog 49 #[.slice p 0 cv, .int .i64 K] w fun e w' => e = .returned (.int .i64 K) ∧ w = w' := by
  go_enter Tryz.func49, Tryz.ntmps49
  go_wp2_with fail
  go_loop [5, 1] (fun i k => i = .int .i64 0 ∧ k = .int .i64 K) (fun _ _ => 0)
  case atStart => exact ⟨rfl, rfl⟩
  case round =>
    obtain ⟨rfl, rfl⟩ := hrel
    go_wp2
    go_ret
    exact ⟨rfl, rfl⟩
theorem markLinkS_any (K : Nat) (p : Option Addr) (n cv base : Nat) (es : List Li) (w : World) (hn : n = es.length) (hK : K ≤ 100000000) (h8 : n ≤ 100000000) (h : w.ownsRow base 56 4 (.slice p n cv) n (rowLi es)) :
    Calls Tryz.prog 49 #[.slice p n cv, .int .i64 K] w fun e w' => e = .returned (.int .i64 ((K : Int) + 4 * (n : Int))) ∧ w'.ownsRow base 56 4 (.slice p n cv) n (rowLi (marksL K n)) ∧ Below base w w' ∧ ∀ b t l, p ≠ some ⟨b, 0, none⟩ → Row w b t l → Row w' b t l := by
  rcases owns_opened h with h0 | ⟨g, rest, rfl, hb, h1, h2, hr, hl⟩
  · have hq : es = [] := List.length_eq_zero_iff.1 (by omega)
    subst hq
    subst h0
    exact (markLinkS_0 K p cv w).mono fun e w' ⟨he, hw⟩ => ⟨by rw [he]; simp, hw ▸ h, hw ▸ Below.refl _ _, fun _ _ _ _ h => hw ▸ h⟩
  · refine (markLinkS_in K g n cv es rest w hn hK h8 hr).mono fun e w' ⟨he, hr', hb', ho'⟩ => ⟨he, owns_shut (by rw [rowLi_length, marksL_length]; omega) hb h1 h2 hr' ?_, hb'.mono hb, fun b t l hp h => ho' b t l (fun e => hp (by rw [e])) h⟩
    rw [List.length_append, rowLi_length, marksL_length]
    rw [List.length_append, rowLi_length, ← hn] at hl
    exact hl
set_option maxRecDepth 100000 in
set_option maxHeartbeats 4000000 in
theorem heldLinkS_in (K : Nat) (p : Option Addr) (n cv : Nat) (w : World) (hK : K ≤ 100000000) (h8 : n ≤ 100000000) (hE : LisIn w p (marksL K n)) :
    Calls Tryz.prog 64 #[.slice p n cv, .int .i64 K] w fun e w' => e = .returned (.int .i64 ((K : Int) + 4 * (n : Int))) ∧ w = w' := by
  have HX : Hid (LisIn w p (marksL K n)) := hE
  clear hE
  go_enter Tryz.func64, Tryz.ntmps64
  go_wp2_with fail
  go_loop [5, 1] (fun i m => ∃ k : Nat, k ≤ n ∧ i = .int .i64 k ∧ m = .int .i64 ((K : Int) + 4 * (k : Int))) (fun i _ => n - (intOf i).toNat)
  case atStart => exact ⟨0, Nat.zero_le _, rfl, by go_num⟩
  case round =>
    obtain ⟨k, hk, rfl, rfl⟩ := hrel
    by_cases hlt : k < n
    · have dk : decide ((k : Int) < (n : Int)) = true := by simpa using hlt
      obtain ⟨g, m0, m1, m2, m3, rfl, hg, hek, c0, c1, c2, c3⟩ := HX.out.at k (by rw [marksL_length]; exact hlt)
      have hm : (marksL K n)[k]'(by rw [marksL_length]; exact hlt) = markL K k := by simp [marksL]
      rw [hm] at hek
      simp only [markL, Li.mk.injEq] at hek
      obtain ⟨rfl, rfl, rfl, rfl⟩ := hek
      simp only [Int.add_zero] at c0
      have d0 : ((K : Int) + 4 * (k : Int) != (K : Int) + 4 * (k : Int)) = false := by simp
      have d1 : ((K : Int) + 4 * (k : Int) + 1 != (K : Int) + 4 * (k : Int) + 1) = false := by simp
      have d2 : ((K : Int) + 4 * (k : Int) + 2 != (K : Int) + 4 * (k : Int) + 1 + 1) = false := by simp; omega
      have d3 : ((K : Int) + 4 * (k : Int) + 3 != (K : Int) + 4 * (k : Int) + 1 + 1 + 1) = false := by simp; omega
      clear hm HX
      go_wp2
      go_round
      case rel => exact ⟨k + 1, hlt, by go_num, by rw [show (K : Int) + 4 * (k : Int) + 1 + 1 + 1 + 1 = (K : Int) + 4 * ((k + 1 : Nat) : Int) by omega]⟩
      case measure => simp [intOf]; omega
    · obtain rfl : k = n := by omega
      have dk : decide ((k : Int) < (k : Int)) = false := by simp
      clear hlt hk HX
      go_wp2
      go_ret
      exact ⟨rfl, rfl⟩
end Go.Proofs.YtcnadobnihbldaaGreat
/- The laws' own look: lists of Insts are as themselves. (Written by gen_isl.py.) -/
namespace Go.Proofs.YtcnadobnihbldaaGreat
open Go.RowKit Go.Sort

set_option maxRecDepth 100000 in
set_option maxHeartbeats 4000000 in
theorem eqInstS_any (p q : Option Addr) (c0 d0 : Nat) (ps qs : List IvP) (w : World) (hp : IvsIn w p ps) (hq : IvsIn w q qs) (hpq : ps.map (·.2) = qs.map (·.2)) (hn : ps.length ≤ 100000000) (hs : ∀ e ∈ ps, e.2.is.length ≤ 100000000 ∧ e.2.rs.length ≤ 100000000) : Calls Tryz.prog 46 #[.slice p ps.length c0, .slice q ps.length d0] w fun r w' => r = .returned (.bool true) ∧ Below w.heap.size w w' := by
  have HE : Hid (∀ a a' t w, InIv w a t → InIv w a' t → (t.is.length ≤ 100000000 ∧ t.rs.length ≤ 100000000) → Calls Tryz.prog 82 #[.agg #[.slice a.x t.is.length a.c1, .slice a.y t.rs.length a.c2, .int .i64 t.now], .agg #[.slice a'.x t.is.length a'.c1, .slice a'.y t.rs.length a'.c2, .int .i64 t.now]] w fun r w' => r = .returned (.bool true) ∧ Below w.heap.size w w') := fun a a' t w h1 h2 h3 => eqInst_any a.x a'.x a.c1 a'.c1 a.y a'.y a.c2 a'.c2 t.is t.rs t.now w h1.1 h2.1 h1.2 h2.2 h3.1 h3.2
  have HX : Hid (IvsIn w p ps ∧ IvsIn w q qs) := ⟨hp, hq⟩
  have HL : Hid (ps.length = qs.length ∧ ∀ k (h1 : k < ps.length) (h2 : k < qs.length), ps[k].2 = qs[k].2) := by
    refine ⟨by simpa using congrArg List.length hpq, fun k h1 h2 => ?_⟩
    have := congrArg (fun l => l[k]?) hpq
    simpa [h1, h2] using this
  have HS : Hid (∀ e ∈ ps, e.2.is.length ≤ 100000000 ∧ e.2.rs.length ≤ 100000000) := hs
  have h0 : ((ps.length : Int) != (ps.length : Int)) = false := by simp
  clear hp hq hpq hs
  go_enter Tryz.func46, Tryz.ntmps46
  go_wp2_with fail
  go_loopw [5] (fun i wr => ∃ k : Nat, k ≤ ps.length ∧ i = .int .i64 k ∧ Below w.heap.size w wr) (fun i _ => ps.length - (intOf i).toNat)
  case atStart => exact ⟨0, Nat.zero_le _, rfl, Below.refl _ _⟩
  case round =>
    obtain ⟨k, hk, rfl, hb⟩ := hrel
    by_cases hlt : k < ps.length
    · have hlq : k < qs.length := by have := HL.out.1; omega
      obtain ⟨g, a, t, rfl, hg, hek, hI, x0, x1, x2⟩ := (HX.out.1.below hb).at k hlt
      obtain ⟨g', a', t', rfl, hg', hek', hI', y0, y1, y2⟩ := (HX.out.2.below hb).at k hlq
      have ht := HL.out.2 k hlt hlq
      have hS := HS.out _ (List.getElem_mem hlt)
      rw [hek] at hS
      rw [hek, hek'] at ht
      simp only at ht hS
      subst ht
      have HEr : Hid (∀ d os, Calls Tryz.prog 82 #[.agg #[.slice a.x t.is.length a.c1, .slice a.y t.rs.length a.c2, .int .i64 t.now], .agg #[.slice a'.x t.is.length a'.c1, .slice a'.y t.rs.length a'.c2, .int .i64 t.now]] (grow (redrawn wr d) os) fun e w'' => e = .returned (.bool true) ∧ ∃ p : Regrown, w'' = grow (redrawn wr p.d) p.os) := fun d os => Calls.regrown_of (HE.out a a' t _ (hI.below (below_regrown wr d os)) (hI'.below (below_regrown wr d os)) hS)
      clear HE hek hek' hI hI' hS HX HL HS
      generalize a.x = ax at *
      generalize a.y = ay at *
      generalize a.c1 = ac1 at *
      generalize a.c2 = ac2 at *
      generalize t.is.length = tn1 at *
      generalize t.rs.length = tn2 at *
      generalize t.now = tw at *
      generalize a'.x = vx at *
      generalize a'.y = vy at *
      generalize a'.c1 = vc1 at *
      generalize a'.c2 = vc2 at *
      replace x0 := cell_regrown x0
      replace y0 := cell_regrown y0
      replace x1 := cell_regrown x1
      replace y1 := cell_regrown y1
      replace x2 := cell_regrown x2
      replace y2 := cell_regrown y2
      go_wp2_with fail
      refine wp_region_quiet_below (by kernel_rfl) (by kernel_rfl) ?_
      repeat (go_big_quiet_step ((go_at_call 82; exact HEr.out _ _)))
      refine wpQuiet_nil ?_
      intro w1 hw'
      obtain ⟨⟨dq, osq⟩, hw''⟩ := hw'
      have hbq := below_regrown wr dq osq
      rw [← hw''] at hbq
      clear hw'' osq dq x0 x1 x2 y0 y1 y2 HEr
      have hb2 := hb.trans (hbq.mono hb.size)
      clear hbq
      go_wp2
      go_roundw
      case rel => exact ⟨k + 1, hlt, by go_num, hb2⟩
      case measure => simp [intOf]; omega
    · obtain rfl : k = ps.length := by omega
      clear hlt hk
      go_wp2
      go_ret
      exact ⟨rfl, hb⟩
end Go.Proofs.YtcnadobnihbldaaGreat
/- Right meshes, in plain lists: both readings of their Links agree. -/
namespace Go.Proofs.YtcnadobnihbldaaGreat
open Go.RowKit Go.Sort

def hasR (n : Nat) (r : Int) : Bool := decide (0 ≤ r) && decide (r < (n : Int))
/-- Is the end there? -/
def endB (ts : List Iv) (e : Int × Int) : Bool := hasR ts.length e.1 && (decide (0 ≤ e.2) && decide (e.2 < (ts[e.1.toNat]!.is.length : Int)))
def ifAtE (ts : List Iv) (e : Int × Int) : If := ts[e.1.toNat]!.is[e.2.toNat]!
/-- Of two routers, and of one net? -/
def fitB (ts : List Iv) (a b : Int × Int) : Bool := decide (a.1 ≠ b.1) && (decide ((ifAtE ts a).a = (ifAtE ts b).a) && decide ((ifAtE ts a).l = (ifAtE ts b).l))
def wayB (ts : List Iv) (y : Wy) : Bool := endB ts y.1 && (endB ts y.2 && fitB ts y.1 y.2)
/-- What is taken behind these ways. -/
def takenE (ys : List Wy) : List (Int × Int) := ys.map (·.1)
def stepB (ts : List Iv) (ys : List Wy) (y : Wy) : Bool := wayB ts y && !((takenE ys).contains y.1)
/-- Link by link, as the model looks. -/
def apartB (x y : Li) : Bool := decide (((x.la ≠ y.la ∨ x.lx ≠ y.lx) ∧ (x.la ≠ y.lb ∨ x.lx ≠ y.ly)) ∧ ((x.lb ≠ y.la ∨ x.ly ≠ y.lx) ∧ (x.lb ≠ y.lb ∨ x.ly ≠ y.ly)))
def linkB (ts : List Iv) (x : Li) : Bool := decide (x.la ≠ x.lb) && (endB ts (x.la, x.lx) && (endB ts (x.lb, x.ly) && (decide ((ifAtE ts (x.la, x.lx)).a = (ifAtE ts (x.lb, x.ly)).a) && decide ((ifAtE ts (x.la, x.lx)).l = (ifAtE ts (x.lb, x.ly)).l))))
def linkAt (ts : List Iv) (ls : List Li) (i : Nat) : Bool := linkB ts ls[i]! && (ls.take i).all fun z => apartB z ls[i]!
def linksB (ts : List Iv) (ls : List Li) : Bool := decide (ls.length ≤ 4) && (List.range ls.length).all (linkAt ts ls)
def ivB (t : Iv) : Bool := instB t.is t.rs t.now
def routersB (ts : List Iv) : Bool := decide (1 ≤ ts.length ∧ ts.length ≤ 4) && ts.all ivB
/-- Is the mesh right? -/
def meshB (ts : List Iv) (ls : List Li) : Bool := routersB ts && linksB ts ls

theorem linksB_long {ts : List Iv} {ls : List Li} (h : ¬ ls.length ≤ 4) : linksB ts ls = false := by unfold linksB; rw [decide_eq_false h]; rfl
theorem linksB_bad {ts : List Iv} {ls : List Li} {i : Nat} (hi : i < ls.length) (h : linkAt ts ls i = false) : linksB ts ls = false := by
  unfold linksB
  rw [Bool.and_eq_false_iff]
  right
  rw [List.all_eq_false]
  exact ⟨i, List.mem_range.2 hi, by simp [h]⟩
theorem linksB_good {ts : List Iv} {ls : List Li} (h4 : ls.length ≤ 4) (h : ∀ i, i < ls.length → linkAt ts ls i = true) : linksB ts ls = true := by
  unfold linksB
  rw [decide_eq_true h4, Bool.true_and, List.all_eq_true]
  exact fun i hi => h i (List.mem_range.1 hi)
theorem fitB_symm (ts : List Iv) (a b : Int × Int) : fitB ts a b = fitB ts b a := by
  unfold fitB
  rw [show decide (a.1 ≠ b.1) = decide (b.1 ≠ a.1) from decide_eq_decide.2 ⟨fun h => h.symm, fun h => h.symm⟩, show decide ((ifAtE ts a).a = (ifAtE ts b).a) = decide ((ifAtE ts b).a = (ifAtE ts a).a) from decide_eq_decide.2 ⟨fun h => h.symm, fun h => h.symm⟩,
    show decide ((ifAtE ts a).l = (ifAtE ts b).l) = decide ((ifAtE ts b).l = (ifAtE ts a).l) from decide_eq_decide.2 ⟨fun h => h.symm, fun h => h.symm⟩]
theorem linkB_ways (ts : List Iv) (x : Li) : (linkB ts x = true ↔ wayB ts (wayAB x) = true) ∧ (wayB ts (wayBA x) = true ↔ wayB ts (wayAB x) = true) := by
  unfold linkB wayB wayAB wayBA
  constructor
  · simp only [fitB, Bool.and_eq_true, decide_eq_true_eq]
    constructor
    · rintro ⟨h1, h2, h3, h4, h5⟩; exact ⟨h2, h3, h1, h4, h5⟩
    · rintro ⟨h2, h3, h1, h4, h5⟩; exact ⟨h1, h2, h3, h4, h5⟩
  · simp only [Bool.and_eq_true]
    rw [fitB_symm ts (x.lb, x.ly) (x.la, x.lx)]
    constructor
    · rintro ⟨h1, h2, h3⟩; exact ⟨h2, h1, h3⟩
    · rintro ⟨h1, h2, h3⟩; exact ⟨h2, h1, h3⟩
theorem takenE_mem {ls : List Li} {e : Int × Int} : e ∈ takenE (wayL ls) ↔ ∃ z ∈ ls, e = (z.la, z.lx) ∨ e = (z.lb, z.ly) := by
  induction ls with
  | nil => simp [takenE, wayL]
  | cons x ls ih =>
    rw [wayL_cons]
    simp only [takenE, List.map_cons, List.mem_cons] at ih ⊢
    constructor
    · rintro (h | h | h)
      · exact ⟨x, .inl rfl, .inl h⟩
      · exact ⟨x, .inl rfl, .inr h⟩
      · obtain ⟨z, hz, h⟩ := ih.1 h
        exact ⟨z, .inr hz, h⟩
    · rintro ⟨z, rfl | hz, h⟩
      · rcases h with h | h
        · exact .inl h
        · exact .inr (.inl h)
      · exact .inr (.inr (ih.2 ⟨z, hz, h⟩))
theorem wayL_take (ls : List Li) (k : Nat) : (wayL ls).take (2 * k) = wayL (ls.take k) := by
  induction ls generalizing k with
  | nil => simp [wayL]
  | cons x ls ih =>
    cases k with
    | zero => rfl
    | succ k =>
      rw [wayL_cons, show 2 * (k + 1) = 2 * k + 1 + 1 by omega, List.take_succ_cons, List.take_succ_cons, ih k, List.take_succ_cons, wayL_cons]
theorem take_more {α : Type} (l : List α) (k : Nat) (x : α) (h : l[k]? = some x) : l.take (k + 1) = l.take k ++ [x] := by
  rw [List.take_add_one, h]
  rfl
/-- A Link that the model lets by is let by from both ends. -/
theorem steps_of_link {ts : List Iv} {ls : List Li} {k : Nat} (hk : k < ls.length) (h : linkAt ts ls k = true) :
    stepB ts ((wayL ls).take (2 * k)) (wayAB ls[k]) = true ∧ stepB ts ((wayL ls).take (2 * k + 1)) (wayBA ls[k]) = true := by
  unfold linkAt at h
  rw [getElem!_pos ls k hk, Bool.and_eq_true, List.all_eq_true] at h
  obtain ⟨h1, h2⟩ := h
  have w1 := (linkB_ways ts ls[k]).1.1 h1
  have w2 := (linkB_ways ts ls[k]).2.2 w1
  have hne : ls[k].la ≠ ls[k].lb := by
    unfold linkB at h1
    simp only [Bool.and_eq_true, decide_eq_true_eq] at h1
    exact h1.1
  have hap : ∀ z ∈ ls.take k, (z.la, z.lx) ≠ (ls[k].la, ls[k].lx) ∧ (z.la, z.lx) ≠ (ls[k].lb, ls[k].ly) ∧ (z.lb, z.ly) ≠ (ls[k].la, ls[k].lx) ∧ (z.lb, z.ly) ≠ (ls[k].lb, ls[k].ly) := fun z hz => by
    have := h2 z hz
    unfold apartB at this
    simp only [decide_eq_true_eq] at this
    simp only [ne_eq, Prod.mk.injEq]
    omega
  constructor
  · unfold stepB
    rw [w1, Bool.true_and, Bool.not_eq_true', wayL_take]
    rw [← Bool.not_eq_true, List.contains_iff_mem, takenE_mem]
    rintro ⟨z, hz, h | h⟩
    · exact (hap z hz).1 h.symm
    · exact (hap z hz).2.2.1 h.symm
  · unfold stepB
    rw [w2, Bool.true_and, Bool.not_eq_true', take_more _ _ _ (wayL_at0 ls k hk), wayL_take]
    rw [← Bool.not_eq_true, List.contains_iff_mem]
    unfold takenE
    rw [List.map_append, List.mem_append]
    rintro (h | h)
    · obtain ⟨z, hz, h | h⟩ := takenE_mem.1 h
      · exact (hap z hz).2.1 h.symm
      · exact (hap z hz).2.2.2 h.symm
    · simp only [List.map_cons, List.map_nil, List.mem_singleton, wayAB, wayBA, Prod.mk.injEq] at h
      exact hne h.1.symm
/-- A Link that is let by from both ends the model lets by. -/
theorem link_of_steps {ts : List Iv} {ls : List Li} {k : Nat} (hk : k < ls.length) (h1 : stepB ts ((wayL ls).take (2 * k)) (wayAB ls[k]) = true) (h2 : stepB ts ((wayL ls).take (2 * k + 1)) (wayBA ls[k]) = true) : linkAt ts ls k = true := by
  unfold stepB at h1 h2
  rw [Bool.and_eq_true, Bool.not_eq_true', ← Bool.not_eq_true, List.contains_iff_mem] at h1 h2
  obtain ⟨w1, n1⟩ := h1
  obtain ⟨w2, n2⟩ := h2
  rw [wayL_take, takenE_mem] at n1
  rw [take_more _ _ _ (wayL_at0 ls k hk), wayL_take] at n2
  have n2 : ¬ (ls[k].lb, ls[k].ly) ∈ takenE (wayL (ls.take k)) := fun h => n2 (by unfold takenE at h ⊢; rw [List.map_append, List.mem_append]; exact .inl h)
  rw [takenE_mem] at n2
  unfold linkAt
  rw [getElem!_pos ls k hk, Bool.and_eq_true, List.all_eq_true]
  refine ⟨(linkB_ways ts ls[k]).1.2 w1, fun z hz => ?_⟩
  have a1 : ¬ (ls[k].la, ls[k].lx) = (z.la, z.lx) := fun h => n1 ⟨z, hz, .inl h⟩
  have a2 : ¬ (ls[k].la, ls[k].lx) = (z.lb, z.ly) := fun h => n1 ⟨z, hz, .inr h⟩
  have a3 : ¬ (ls[k].lb, ls[k].ly) = (z.la, z.lx) := fun h => n2 ⟨z, hz, .inl h⟩
  have a4 : ¬ (ls[k].lb, ls[k].ly) = (z.lb, z.ly) := fun h => n2 ⟨z, hz, .inr h⟩
  unfold apartB
  simp only [Prod.mk.injEq] at a1 a2 a3 a4
  simp only [decide_eq_true_eq]
  omega
/-- One way that is not let by: the Links are not right. -/
theorem linksB_step {ts : List Iv} {ls : List Li} {j : Nat} {y : Wy} (hy : (wayL ls)[j]? = some y) (h : stepB ts ((wayL ls).take j) y = false) : linksB ts ls = false := by
  have hj : j < (wayL ls).length := (List.getElem?_eq_some_iff.1 hy).1
  rw [wayL_length] at hj
  have hk : j / 2 < ls.length := by omega
  cases hl : linkAt ts ls (j / 2) with
  | false => exact linksB_bad hk hl
  | true =>
    obtain ⟨s1, s2⟩ := steps_of_link hk hl
    rcases Nat.mod_two_eq_zero_or_one j with h0 | h0
    · have e : 2 * (j / 2) = j := by omega
      have := wayL_at0 ls (j / 2) hk
      rw [e, hy] at this
      cases this
      rw [e] at s1
      rw [s1] at h; cases h
    · have e : 2 * (j / 2) + 1 = j := by omega
      have := wayL_at1 ls (j / 2) hk
      rw [e, hy] at this
      cases this
      rw [e] at s2
      rw [s2] at h; cases h
/-- All ways let by: the Links are right. -/
theorem linksB_steps {ts : List Iv} {ls : List Li} (h4 : ls.length ≤ 4) (h : ∀ j y, (wayL ls)[j]? = some y → stepB ts ((wayL ls).take j) y = true) : linksB ts ls = true :=
  linksB_good h4 fun k hk => link_of_steps hk (h _ _ (wayL_at0 ls k hk)) (h _ _ (wayL_at1 ls k hk))
theorem routersB_few {ts : List Iv} (h : ¬ (1 ≤ ts.length ∧ ts.length ≤ 4)) : routersB ts = false := by unfold routersB; rw [decide_eq_false h]; rfl
theorem routersB_bad {ts : List Iv} {k : Nat} (hk : k < ts.length) (h : ivB ts[k] = false) : routersB ts = false := by
  unfold routersB
  rw [Bool.and_eq_false_iff]
  right
  rw [List.all_eq_false]
  exact ⟨ts[k], List.getElem_mem hk, by simp [h]⟩
theorem routersB_good {ts : List Iv} (h1 : 1 ≤ ts.length) (h4 : ts.length ≤ 4) (h : ∀ k (hk : k < ts.length), ivB ts[k] = true) : routersB ts = true := by
  unfold routersB
  rw [decide_eq_true ⟨h1, h4⟩, Bool.true_and, List.all_eq_true]
  intro t ht
  obtain ⟨k, hk, rfl⟩ := List.mem_iff_getElem.1 ht
  exact h k hk
theorem iv_at {ps : List IvP} {k : Nat} {a : Ip} {t : Iv} (hk : k < ps.length) (h : ps[k] = (a, t)) : (ps.map (·.2))[k]! = t := by
  rw [getElem!_pos _ k (by simpa using hk), List.getElem_map, h]
theorem iv_at' {ps : List IvP} {k : Nat} {a : Ip} {t : Iv} (hk : k < ps.length) (h : ps[k] = (a, t)) : (ps.map (·.2))[k]'(by simpa using hk) = t := by rw [List.getElem_map, h]
theorem endB_spec {ts : List Iv} {e : Int × Int} (h : endB ts e = true) : ∃ r i : Nat, e = ((r : Int), (i : Int)) ∧ r < ts.length ∧ i < ts[r]!.is.length := by
  unfold endB hasR at h
  simp only [Bool.and_eq_true, decide_eq_true_eq] at h
  obtain ⟨⟨h1, h2⟩, h3, h4⟩ := h
  refine ⟨e.1.toNat, e.2.toNat, ?_, by omega, by omega⟩
  rw [Int.toNat_of_nonneg h1, Int.toNat_of_nonneg h3]
end Go.Proofs.YtcnadobnihbldaaGreat
