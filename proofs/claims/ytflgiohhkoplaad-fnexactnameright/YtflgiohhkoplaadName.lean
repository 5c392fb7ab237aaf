/- The two NameRight of spec and impl answer one and the same predicate. -/
import Derived.Test.YtflgiohhkoplaadRows
import Derived.WalkKit
import Derived.ProofKit
import Derived.BigGuardPart
namespace Go.Proofs.Ytflgiohhkoplaad
open Go.RowKit

def goodB (i : Nat) (c : Nat) : Bool := decide (97 ≤ c ∧ c ≤ 122) || (decide (i ≠ 0) && (decide (48 ≤ c ∧ c ≤ 57) || decide (c = 95)))
def nameUpto (s : ByteArray) : Nat → Bool
  | 0 => true
  | k + 1 => nameUpto s k && goodB k (s.data[k]?.getD 0).toNat
def nameB (s : ByteArray) : Bool := decide (1 ≤ s.size ∧ s.size ≤ 20) && nameUpto s s.size

theorem nameUpto_false {s : ByteArray} {k n : Nat} (h : nameUpto s k = false) (hn : k ≤ n) : nameUpto s n = false := by
  induction n with
  | zero => have : k = 0 := by omega
            subst this; exact h
  | succ n ih =>
    by_cases hk : k = n + 1
    · subst hk; exact h
    · simp [nameUpto, ih (by omega)]

theorem getD_at (s : ByteArray) (k : Nat) (h : k < s.size) : s.data[k]?.getD 0 = s[k] := by
  rw [Array.getElem?_eq_getElem h]; rfl

theorem nameB_out {s : ByteArray} (h : ¬ (1 ≤ s.size ∧ s.size ≤ 20)) : nameB s = false := by simp [nameB, h]
theorem nameB_stop {s : ByteArray} {k : Nat} (hk : k < s.size) (h : goodB k s[k].toNat = false) : nameB s = false := by
  have h1 : nameUpto s (k + 1) = false := by simp [nameUpto, getD_at s k hk, h]
  simp [nameB, nameUpto_false h1 (show k + 1 ≤ s.size by omega)]
theorem nameB_all {s : ByteArray} (h1 : 1 ≤ s.size) (h2 : s.size ≤ 20) (h : nameUpto s s.size = true) : nameB s = true := by simp [nameB, h, h1, h2]
theorem nameUpto_next {s : ByteArray} {k : Nat} (hk : k < s.size) (h : nameUpto s k = true) (hg : goodB k s[k].toNat = true) : nameUpto s (k + 1) = true := by
  simp [nameUpto, getD_at s k hk, h, hg]

theorem ret_bool {a b : Bool} (h : a = b) : Ending.returned (.bool a) = .returned (.bool b) := by rw [h]

set_option maxHeartbeats 1000000 in
theorem specName_in (s : ByteArray) (w : World) (h1 : 1 ≤ s.size) (h2 : s.size ≤ 20) :
    Calls Try.prog 11 #[.string s] w fun e w' => e = .returned (.bool (nameB s)) ∧ w' = w := by
  go_enter Try.func11, Try.ntmps11
  go_wp2
  go_loop [3] (fun i => ∃ k : Nat, k ≤ s.size ∧ i = .int .i64 k ∧ nameUpto s k = true) (fun i => s.size - (intOf i).toNat)
  case atStart => exact ⟨0, Nat.zero_le _, rfl, rfl⟩
  case round =>
    obtain ⟨k, hk, rfl, hn⟩ := hrel
    have HN : Hid (nameUpto s k = true) := hn
    clear hn
    by_cases hlt : k < s.size
    · rcases (show s[k].toNat < 95 ∨ 95 < s[k].toNat ∨ (95 ≤ s[k].toNat ∧ s[k].toNat ≤ 95) from by omega) with h95 | h95 | h95
      all_goals
        by_cases hk0 : k < 1
        all_goals
          go_wp2
          all_goals first
            | (go_ret
               exact ⟨ret_bool (nameB_stop hlt (by simp [goodB]; omega)).symm, rfl⟩)
            | (go_round
               case rel => exact ⟨k + 1, by omega, by go_num, nameUpto_next hlt HN.out (by simp [goodB]; omega)⟩
               case measure => simp [intOf]; omega)
    · go_wp2
      go_ret
      exact ⟨ret_bool (nameB_all h1 h2 (by rw [show s.size = k by omega]; exact HN.out)).symm, rfl⟩

theorem specName_any (s : ByteArray) (w : World) (hs : s.size ≤ maxLen) :
    Calls Try.prog 11 #[.string s] w fun e w' => e = .returned (.bool (nameB s)) ∧ w' = w := by
  unfold maxLen at hs
  by_cases h1 : 1 ≤ s.size
  · by_cases h2 : s.size ≤ 20
    · exact specName_in s w h1 h2
    · go_enter Try.func11, Try.ntmps11
      go_wp2
      go_ret
      exact ⟨ret_bool (nameB_out (by omega)).symm, rfl⟩
  · go_enter Try.func11, Try.ntmps11
    go_wp2
    go_ret
    exact ⟨ret_bool (nameB_out (by omega)).symm, rfl⟩
set_option maxHeartbeats 1000000 in
theorem implName_in (s : ByteArray) (w : World) (h1 : 1 ≤ s.size) (h2 : s.size ≤ 20) :
    Calls Try.prog 12 #[.string s] w fun e w' => e = .returned (.bool (nameB s)) ∧ w' = w := by
  go_enter Try.func12, Try.ntmps12
  go_wp2
  any_goals (exfalso; omega; done)
  go_loop [17] (fun i => ∃ k : Nat, k ≤ s.size ∧ i = .int .i64 k ∧ nameUpto s k = true) (fun i => s.size - (intOf i).toNat)
  case atStart => exact ⟨0, Nat.zero_le _, rfl, rfl⟩
  case round =>
    obtain ⟨k, hk, rfl, hn⟩ := hrel
    have HN : Hid (nameUpto s k = true) := hn
    clear hn
    by_cases hlt : k < s.size
    · obtain ⟨b95, e95, h95⟩ : ∃ b, ((s[k].toNat : Int) == 95) = b ∧ ((s[k].toNat < 95 ∨ 95 < s[k].toNat) ∧ b = false ∨ (95 ≤ s[k].toNat ∧ s[k].toNat ≤ 95) ∧ b = true) := by
        refine ⟨_, rfl, ?_⟩
        by_cases h : s[k].toNat = 95
        · right; exact ⟨by omega, by simp; omega⟩
        · left; exact ⟨by omega, by simp; omega⟩
      rcases h95 with ⟨h95 | h95, rfl⟩ | ⟨h95, rfl⟩
      all_goals
        by_cases hk0 : k < 1
        all_goals
          go_wp2
          all_goals first
            | (exfalso; omega; done)
            | (go_ret
               exact ⟨ret_bool (nameB_stop hlt (by simp [goodB]; omega)).symm, rfl⟩)
            | (go_round
               case rel => exact ⟨k + 1, by omega, by go_num, nameUpto_next hlt HN.out (by simp [goodB]; omega)⟩
               case measure => simp [intOf]; omega)
    · go_wp2
      go_ret
      exact ⟨ret_bool (nameB_all h1 h2 (by rw [show s.size = k by omega]; exact HN.out)).symm, rfl⟩

theorem implName_any (s : ByteArray) (w : World) (hs : s.size ≤ maxLen) :
    Calls Try.prog 12 #[.string s] w fun e w' => e = .returned (.bool (nameB s)) ∧ w' = w := by
  unfold maxLen at hs
  by_cases h1 : 1 ≤ s.size
  · by_cases h2 : s.size ≤ 20
    · exact implName_in s w h1 h2
    · go_enter Try.func12, Try.ntmps12
      go_wp2
      all_goals (go_ret; exact ⟨ret_bool (nameB_out (by omega)).symm, rfl⟩)
  · go_enter Try.func12, Try.ntmps12
    go_wp2
    go_ret
    exact ⟨ret_bool (nameB_out (by omega)).symm, rfl⟩
end Go.Proofs.Ytflgiohhkoplaad
