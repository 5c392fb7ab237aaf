/- The laws' own marks in a list of Leaks. (Written by gen_wsrcs.py.) -/
import Derived.Test.YtpkjkjepmloddaaMakeLks
namespace Go.Proofs.Ytpkjkjepmloddaa
open Go.RowKit Go.Sort

def markL (K i : Nat) : Lk := ⟨(K : Int) + 6 * (i : Int) + 0, (K : Int) + 6 * (i : Int) + 1, (K : Int) + 6 * (i : Int) + 2, (K : Int) + 6 * (i : Int) + 3, (K : Int) + 6 * (i : Int) + 4, (K : Int) + 6 * (i : Int) + 5⟩
def marksL (K n : Nat) : List Lk := (List.range n).map (markL K)
theorem marksL_length (K n : Nat) : (marksL K n).length = n := by simp [marksL]
theorem marksL_set (K : Nat) (es : List Lk) (rest : List Value) (k : Nat) (hk : k < es.length) :
    ((((((rowL (marksL K k ++ es.drop k) ++ rest).set (k * 6) (.int .i64 ((K : Int) + 6 * (k : Int) + 0))).set (k * 6 + 1) (.int .i64 ((K : Int) + 6 * (k : Int) + 1))).set (k * 6 + 2) (.int .i64 ((K : Int) + 6 * (k : Int) + 2))).set (k * 6 + 3) (.int .i64 ((K : Int) + 6 * (k : Int) + 3))).set (k * 6 + 4) (.int .i64 ((K : Int) + 6 * (k : Int) + 4))).set (k * 6 + 5) (.int .i64 ((K : Int) + 6 * (k : Int) + 5)) = rowL (marksL K (k + 1) ++ es.drop (k + 1)) ++ rest := by
  have e1 : marksL K (k + 1) = marksL K k ++ [markL K k] := by simp [marksL, List.range_succ]
  rw [List.drop_eq_getElem_cons hk, e1, rowL_append, rowL_cons, List.append_assoc (marksL K k), rowL_append, List.singleton_append, rowL_cons, List.append_assoc, List.append_assoc, List.append_assoc, List.append_assoc]
  exact set6L _ _ k (by rw [rowL_length, marksL_length]; omega) _ _ _ _ _ _ _ _ _ _ _ _
set_option maxRecDepth 100000 in
set_option maxHeartbeats 2000000 in
theorem markLeakS_in (K g n cv : Nat) (es : List Lk) (rest : List Value) (w : World) (hn : n = es.length) (hK : K ≤ 100000000) (h8 : n ≤ 100000000) (hr : Row w g 76 (rowL es ++ rest)) :
    Calls Try.prog 17 #[.slice (some ⟨g, 0, none⟩) n cv, .int .i64 K] w fun e w' => e = .returned (.int .i64 ((K : Int) + 6 * (n : Int))) ∧ Row w' g 76 (rowL (marksL K n) ++ rest) ∧ Below g w w' ∧ w'.heap.size = w.heap.size ∧ ∀ b t l, b ≠ g → Row w b t l → Row w' b t l := by
  have HN : Hid (n = es.length) := hn
  have hr0 : Row w g 76 (rowL (marksL K 0 ++ es.drop 0) ++ rest) := hr
  clear hn hr
  go_enter Try.func17, Try.ntmps17
  go_wp2_with fail
  go_loopw [5, 1] (fun i m wr => ∃ k : Nat, k ≤ n ∧ i = .int .i64 k ∧ m = .int .i64 ((K : Int) + 6 * (k : Int)) ∧ Row wr g 76 (rowL (marksL K k ++ es.drop k) ++ rest) ∧ Below g w wr ∧ wr.heap.size = w.heap.size ∧ ∀ b t l, b ≠ g → Row w b t l → Row wr b t l) (fun i _ _ => n - (intOf i).toNat)
  case atStart => exact ⟨0, Nat.zero_le _, rfl, by go_num, hr0, Below.refl _ _, rfl, fun _ _ _ _ h => h⟩
  case round =>
    obtain ⟨k, hk, rfl, rfl, hr, hb, hsz, hoth⟩ := hrel
    have HOT : Hid (∀ b t l, b ≠ g → Row w b t l → Row wr b t l) := hoth
    clear hr0 hoth
    by_cases hlt : k < n
    · have hlen : (marksL K k ++ es.drop k).length = n := by rw [List.length_append, marksL_length, List.length_drop, ← HN.out]; omega
      have hlr : k * 6 + 5 < (rowL (marksL K k ++ es.drop k) ++ rest).length := by rw [List.length_append, rowL_length, hlen]; omega
      obtain ⟨z0, c0⟩ := Row.someL hr (k * 6) (by omega)
      obtain ⟨z1, c1⟩ := Row.someL hr (k * 6 + 1) (by omega)
      obtain ⟨z2, c2⟩ := Row.someL hr (k * 6 + 2) (by omega)
      obtain ⟨z3, c3⟩ := Row.someL hr (k * 6 + 3) (by omega)
      obtain ⟨z4, c4⟩ := Row.someL hr (k * 6 + 4) (by omega)
      obtain ⟨z5, c5⟩ := Row.someL hr (k * 6 + 5) (by omega)
      have f0 := hr.frozen (k * 6)
      have f1 := hr.frozen (k * 6 + 1)
      have f2 := hr.frozen (k * 6 + 2)
      have f3 := hr.frozen (k * 6 + 3)
      have f4 := hr.frozen (k * 6 + 4)
      have f5 := hr.frozen (k * 6 + 5)
      have hr2 := sixL_row hr (k * 6) (.int .i64 ((K : Int) + 6 * (k : Int) + 0)) (.int .i64 ((K : Int) + 6 * (k : Int) + 1)) (.int .i64 ((K : Int) + 6 * (k : Int) + 2)) (.int .i64 ((K : Int) + 6 * (k : Int) + 3)) (.int .i64 ((K : Int) + 6 * (k : Int) + 4)) (.int .i64 ((K : Int) + 6 * (k : Int) + 5))
      rw [marksL_set K es rest k (by rw [← HN.out]; exact hlt)] at hr2
      have hB2 := sixL_below hb g (k * 6) (Nat.le_refl _) (.int .i64 ((K : Int) + 6 * (k : Int) + 0)) (.int .i64 ((K : Int) + 6 * (k : Int) + 1)) (.int .i64 ((K : Int) + 6 * (k : Int) + 2)) (.int .i64 ((K : Int) + 6 * (k : Int) + 3)) (.int .i64 ((K : Int) + 6 * (k : Int) + 4)) (.int .i64 ((K : Int) + 6 * (k : Int) + 5))
      have hO2 := fun b t l (hne : b ≠ g) (h : Row w b t l) => sixL_other (HOT.out b t l hne h) hne (k * 6) (.int .i64 ((K : Int) + 6 * (k : Int) + 0)) (.int .i64 ((K : Int) + 6 * (k : Int) + 1)) (.int .i64 ((K : Int) + 6 * (k : Int) + 2)) (.int .i64 ((K : Int) + 6 * (k : Int) + 3)) (.int .i64 ((K : Int) + 6 * (k : Int) + 4)) (.int .i64 ((K : Int) + 6 * (k : Int) + 5))
      have hS2 : (sixL wr g (k * 6) (.int .i64 ((K : Int) + 6 * (k : Int) + 0)) (.int .i64 ((K : Int) + 6 * (k : Int) + 1)) (.int .i64 ((K : Int) + 6 * (k : Int) + 2)) (.int .i64 ((K : Int) + 6 * (k : Int) + 3)) (.int .i64 ((K : Int) + 6 * (k : Int) + 4)) (.int .i64 ((K : Int) + 6 * (k : Int) + 5))).heap.size = w.heap.size := by unfold sixL; simp [hsz]
      unfold sixL at hr2 hB2 hO2 hS2
      have HH : Hid _ := And.intro hr2 (And.intro hB2 (And.intro hS2 hO2))
      clear hr hb hr2 hB2 hlen hlr hO2 HOT hS2
      go_wp2_with fail
      rw [show (K : Int) + 6 * (k : Int) + 1 + 1 + 1 + 1 + 1 + 1 = (K : Int) + 6 * ((k + 1 : Nat) : Int) by omega, show (K : Int) + 6 * (k : Int) + 1 + 1 + 1 + 1 + 1 = (K : Int) + 6 * (k : Int) + 5 by omega, show (K : Int) + 6 * (k : Int) + 1 + 1 + 1 + 1 = (K : Int) + 6 * (k : Int) + 4 by omega, show (K : Int) + 6 * (k : Int) + 1 + 1 + 1 = (K : Int) + 6 * (k : Int) + 3 by omega, show (K : Int) + 6 * (k : Int) + 1 + 1 = (K : Int) + 6 * (k : Int) + 2 by omega]
      refine ⟨⟨k + 1, hlt, by go_num, rfl, HH.out.1, HH.out.2.1, HH.out.2.2.1, HH.out.2.2.2⟩, ?_⟩
      simp [intOf]
      omega
    · obtain rfl : k = n := by omega
      have hre : marksL K k ++ es.drop k = marksL K k := by rw [HN.out, List.drop_length, List.append_nil]
      rw [hre] at hr
      clear hlt hk hre
      go_wp2
      go_ret
      exact ⟨rfl, hr, hb, hsz, HOT.out⟩
end Go.Proofs.Ytpkjkjepmloddaa
