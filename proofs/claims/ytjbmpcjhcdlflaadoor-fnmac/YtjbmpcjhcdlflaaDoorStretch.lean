/- Stretch, of the program and of the model: the same text. -/
import Derived.Test.YtjbmpcjhcdlflaaDoorMacS
namespace Go.Proofs.YtjbmpcjhcdlflaaDoor
open Go.RowKit

def stretchV (p : ByteArray) (n : Int) : ByteArray := if p.size ≤ 8000 ∧ 1 ≤ n ∧ n ≤ 100 then stretchT p n.toNat else ByteArray.empty
theorem stretchV_in (p : ByteArray) (n : Int) (h : p.size ≤ 8000) (h1 : 1 ≤ n) (h2 : n ≤ 100) : stretchV p n = stretchT p n.toNat := if_pos ⟨h, h1, h2⟩
theorem stretchV_out (p : ByteArray) (n : Int) (h : ¬ (p.size ≤ 8000 ∧ 1 ≤ n ∧ n ≤ 100)) : stretchV p n = ByteArray.empty := if_neg h
set_option maxRecDepth 100000 in
theorem implStretch_in (p : ByteArray) (n : Nat) (w : World) (h : p.size ≤ 8000) (h1 : 1 ≤ n) (h2 : n ≤ 100) (hL : Laid w) :
    Calls Tryd.prog 14 #[.string p, .int .i64 (n : Int)] w fun e w' => e = .returned (.string (stretchT p n)) ∧ Below w.heap.size w w' := by
  have HS : Hid (∀ k, stretchT p (k + 1) = macT p (stretchT p k)) := fun _ => rfl
  have H0 : Hid (stretchT p 0 = ⟨#[115, 97, 108, 116]⟩) := rfl
  have HZ : Hid (∀ k, (stretchT p k).size ≤ 32) := stretchT_size p
  generalize stretchT p = S at *
  go_enter Tryd.func14, Tryd.ntmps14
  go_wp2_with fail
  go_loopw [5, 18] (fun v i wr => ∃ k : Nat, k ≤ n ∧ i = .int .i64 k ∧ v = .string (S k) ∧ Below w.heap.size w wr) (fun _ i _ => n - (intOf i).toNat)
  case atStart => exact ⟨0, by omega, rfl, by rw [H0.out], Below.refl _ _⟩
  case round =>
    obtain ⟨k, hk, rfl, rfl, hbel⟩ := hrel
    by_cases hlt : k < n
    · have hz := HZ.out k
      have HK := HS.out k
      have HKH : Hid (S (k + 1) = macT p (S k)) := HK
      clear HK
      go_wp2_with fail
      refine (implMac_in p (S k) _ h (by omega) (hL.below hbel)).mono ?_
      rintro e w2 ⟨rfl, hb2⟩
      rw [← HKH.out]
      go_wp2
      go_roundw
      case rel => exact ⟨k + 1, by omega, by go_num, rfl, hbel.trans (hb2.mono hbel.size)⟩
      case measure => simp [intOf]; omega
    · obtain rfl : k = n := by omega
      go_wp2
      go_ret
      exact ⟨rfl, hbel⟩
set_option maxRecDepth 100000 in
theorem specStretch_in (p : ByteArray) (n : Nat) (w : World) (h : p.size ≤ 8000) (h1 : 1 ≤ n) (h2 : n ≤ 100) :
    Calls Tryd.prog 15 #[.string p, .int .i64 (n : Int)] w fun e w' => e = .returned (.string (stretchT p n)) ∧ Below w.heap.size w w' := by
  have HS : Hid (∀ k, stretchT p (k + 1) = macT p (stretchT p k)) := fun _ => rfl
  have H0 : Hid (stretchT p 0 = ⟨#[115, 97, 108, 116]⟩) := rfl
  have HZ : Hid (∀ k, (stretchT p k).size ≤ 32) := stretchT_size p
  generalize stretchT p = S at *
  have d0 : decide ((8000 : Int) < (p.size : Int)) = false := by simp; omega
  have d1 : decide ((n : Int) < 1) = false := by simp; omega
  have d2 : decide ((100 : Int) < (n : Int)) = false := by simp; omega
  go_enter Tryd.func15, Tryd.ntmps15
  go_wp2_with fail
  go_loopw [5, 6] (fun v i wr => ∃ k : Nat, k ≤ n ∧ i = .int .i64 k ∧ v = .string (S k) ∧ Below w.heap.size w wr) (fun _ i _ => n - (intOf i).toNat)
  case atStart => exact ⟨0, by omega, rfl, by rw [H0.out], Below.refl _ _⟩
  case round =>
    obtain ⟨k, hk, rfl, rfl, hbel⟩ := hrel
    by_cases hlt : k < n
    · have hz := HZ.out k
      have HKH : Hid (S (k + 1) = macT p (S k)) := HS.out k
      go_wp2_with fail
      refine (specMac_in p (S k) _ h (by omega)).mono ?_
      rintro e w2 ⟨rfl, hb2⟩
      rw [← HKH.out]
      go_wp2
      go_roundw
      case rel => exact ⟨k + 1, by omega, by go_num, rfl, hbel.trans (hb2.mono hbel.size)⟩
      case measure => simp [intOf]; omega
    · obtain rfl : k = n := by omega
      go_wp2
      go_ret
      exact ⟨rfl, hbel⟩
set_option maxRecDepth 100000 in
theorem implStretch_any (p : ByteArray) (n : Int) (w : World) (hz : p.size ≤ 1048576) (hn0 : -9223372036854775808 ≤ n) (hn1 : n ≤ 9223372036854775807) (hL : Laid w) :
    Calls Tryd.prog 14 #[.string p, .int .i64 n] w fun e w' => e = .returned (.string (stretchV p n)) ∧ Below w.heap.size w w' := by
  by_cases hp : p.size ≤ 8000
  · by_cases h1 : 1 ≤ n
    · by_cases h2 : n ≤ 100
      · rw [stretchV_in p n hp h1 h2]
        obtain ⟨k, rfl⟩ := Int.eq_ofNat_of_zero_le (show 0 ≤ n by omega)
        rw [Int.toNat_natCast]
        exact implStretch_in p k w hp (by omega) (by omega) hL
      · rw [stretchV_out p n (by omega)]
        go_enter Tryd.func14, Tryd.ntmps14
        go_wp2
        all_goals (go_ret; exact ⟨rfl, Below.refl _ _⟩)
    · rw [stretchV_out p n (by omega)]
      go_enter Tryd.func14, Tryd.ntmps14
      go_wp2
      all_goals (go_ret; exact ⟨rfl, Below.refl _ _⟩)
  · rw [stretchV_out p n (by omega)]
    go_enter Tryd.func14, Tryd.ntmps14
    go_wp2
    all_goals (go_ret; exact ⟨rfl, Below.refl _ _⟩)
set_option maxRecDepth 100000 in
theorem specStretch_any (p : ByteArray) (n : Int) (w : World) (hz : p.size ≤ 1048576) (hn0 : -9223372036854775808 ≤ n) (hn1 : n ≤ 9223372036854775807) :
    Calls Tryd.prog 15 #[.string p, .int .i64 n] w fun e w' => e = .returned (.string (stretchV p n)) ∧ Below w.heap.size w w' := by
  by_cases hp : p.size ≤ 8000
  · by_cases h1 : 1 ≤ n
    · by_cases h2 : n ≤ 100
      · rw [stretchV_in p n hp h1 h2]
        obtain ⟨k, rfl⟩ := Int.eq_ofNat_of_zero_le (show 0 ≤ n by omega)
        rw [Int.toNat_natCast]
        exact specStretch_in p k w hp (by omega) (by omega)
      · rw [stretchV_out p n (by omega)]
        go_enter Tryd.func15, Tryd.ntmps15
        go_wp2
        all_goals (go_ret; exact ⟨rfl, Below.refl _ _⟩)
    · rw [stretchV_out p n (by omega)]
      go_enter Tryd.func15, Tryd.ntmps15
      go_wp2
      all_goals (go_ret; exact ⟨rfl, Below.refl _ _⟩)
  · rw [stretchV_out p n (by omega)]
    go_enter Tryd.func15, Tryd.ntmps15
    go_wp2
    all_goals (go_ret; exact ⟨rfl, Below.refl _ _⟩)
end Go.Proofs.YtjbmpcjhcdlflaaDoor
