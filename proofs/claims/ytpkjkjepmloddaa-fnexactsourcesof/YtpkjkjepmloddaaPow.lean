/- Powers of two of the model, and its look at limits. -/
import Derived.Test.YtpkjkjepmloddaaAddrMath
import Derived.Test.YtpkjkjepmloddaaBase
import Derived.Laws.ShiftsVarLaws
namespace Go.Proofs.Ytpkjkjepmloddaa
open Go.RowKit

theorem wrap64_in (x : Int) (h0 : -9223372036854775808 ≤ x) (h1 : x ≤ 9223372036854775807) : wrap64 x = x := by unfold wrap64; omega
set_option maxRecDepth 100000 in
theorem l03Is_any (n a b : Int) (w : World) :
    Calls Try.prog 29 #[.int .i64 n, .int .i64 a, .int .i64 b] w fun e w' => e = .returned (.bool (decide (a ≤ n ∧ n ≤ b))) ∧ w = w' := by
  by_cases h1 : a ≤ n
  · by_cases h2 : n ≤ b
    · go_enter Try.func29, Try.ntmps29
      go_wp2
      go_ret
      exact ⟨ret_bool (by simp; omega), rfl⟩
    · go_enter Try.func29, Try.ntmps29
      go_wp2
      go_ret
      exact ⟨ret_bool (by simp; omega), rfl⟩
  · go_enter Try.func29, Try.ntmps29
    go_wp2
    go_ret
    exact ⟨ret_bool (by simp; omega), rfl⟩
set_option maxRecDepth 100000 in
theorem l03Pow_any (k : Nat) (w : World) (hk : k ≤ 32) :
    Calls Try.prog 117 #[.int .i64 (k : Int)] w fun e w' => e = .returned (.int .i64 ((2 ^ k : Nat) : Int)) ∧ w = w' := by
  have hb : ∀ j, j ≤ 32 → (2 : Nat) ^ j ≤ 4294967296 := fun j hj => by rw [show (4294967296 : Nat) = 2 ^ 32 from rfl]; exact Nat.pow_le_pow_right (by decide) hj
  have HB : Hid (∀ j, j ≤ 32 → (2 : Nat) ^ j ≤ 4294967296) := hb
  have HS : Hid (∀ j, (2 : Nat) ^ (j + 1) = 2 * 2 ^ j) := fun j => by show _ = _; rw [Nat.pow_succ]; omega
  have H0 : Hid ((2 : Nat) ^ 0 = 1) := rfl
  clear hb
  generalize hP : (fun j : Nat => (2 : Nat) ^ j) = P
  have e : ∀ j : Nat, (2 : Nat) ^ j = P j := fun j => by rw [← hP]
  simp only [e] at HB HS H0 ⊢
  clear e hP
  go_enter Try.func117, Try.ntmps117
  go_wp2_with fail
  go_loop [0, 3] (fun x n => ∃ j : Nat, j ≤ k ∧ x = .int .i64 ((k - j : Nat) : Int) ∧ n = .int .i64 (P j : Int)) (fun x _ => (intOf x).toNat)
  case atStart => exact ⟨0, by omega, rfl, by rw [H0.out]; rfl⟩
  case round =>
    obtain ⟨j, hj, rfl, rfl⟩ := hrel
    by_cases hlt : j < k
    · have hb := HB.out (j + 1) (by omega)
      have hs := HS.out j
      have HSJ : Hid (P (j + 1) = 2 * P j) := hs
      have hb2 : P j ≤ 2147483648 := by omega
      clear hs hb
      go_wp2
      go_round
      case rel => exact ⟨j + 1, by omega, by go_num, by rw [HSJ.out]; go_num⟩
      case measure => simp [intOf]; omega
    · obtain rfl : j = k := by omega
      go_wp2
      go_ret
      exact ⟨rfl, rfl⟩
theorem l03Pow_at (l x : Int) (w : World) (h0 : 0 ≤ l) (h1 : l ≤ 32) (hx : x = 32 - l) :
    Calls Try.prog 117 #[.int .i64 x] w fun e w' => e = .returned (.int .i64 (gap l : Int)) ∧ w = w' := by
  obtain ⟨k, rfl⟩ := Int.eq_ofNat_of_zero_le h0
  have h := l03Pow_any (32 - k) w (by omega)
  rw [show x = ((32 - k : Nat) : Int) by omega]
  exact h
end Go.Proofs.Ytpkjkjepmloddaa
