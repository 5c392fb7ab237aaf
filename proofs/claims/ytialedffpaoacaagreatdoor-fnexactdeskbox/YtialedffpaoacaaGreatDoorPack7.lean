/- Texts that stand on each other, in one file: Pow, MaskI, LookA, TimeI. -/
import Derived.Test.YtialedffpaoacaaGreatDoorPack1
import Derived.Test.YtialedffpaoacaaGreatDoorPack5
import Derived.Laws.ShiftsVarLaws
/- Powers of two of the model, and its look at limits. -/
namespace Go.Proofs.YtialedffpaoacaaGreatDoor
open Go.RowKit

theorem wrap64_in (x : Int) (h0 : -9223372036854775808 ≤ x) (h1 : x ≤ 9223372036854775807) : wrap64 x = x := by unfold wrap64; omega
set_option maxRecDepth 100000 in
theorem l03Is_any (n a b : Int) (w : World) :
    Calls Tryz.prog 43 #[.int .i64 n, .int .i64 a, .int .i64 b] w fun e w' => e = .returned (.bool (decide (a ≤ n ∧ n ≤ b))) ∧ w = w' := by
  by_cases h1 : a ≤ n
  · by_cases h2 : n ≤ b
    · go_enter Tryz.func43, Tryz.ntmps43
      go_wp2
      go_ret
      exact ⟨ret_bool (by simp; omega), rfl⟩
    · go_enter Tryz.func43, Tryz.ntmps43
      go_wp2
      go_ret
      exact ⟨ret_bool (by simp; omega), rfl⟩
  · go_enter Tryz.func43, Tryz.ntmps43
    go_wp2
    go_ret
    exact ⟨ret_bool (by simp; omega), rfl⟩
set_option maxRecDepth 100000 in
theorem l03Pow_any (k : Nat) (w : World) (hk : k ≤ 32) :
    Calls Tryz.prog 171 #[.int .i64 (k : Int)] w fun e w' => e = .returned (.int .i64 ((2 ^ k : Nat) : Int)) ∧ w = w' := by
  have hb : ∀ j, j ≤ 32 → (2 : Nat) ^ j ≤ 4294967296 := fun j hj => by rw [show (4294967296 : Nat) = 2 ^ 32 from rfl]; exact Nat.pow_le_pow_right (by decide) hj
  have HB : Hid (∀ j, j ≤ 32 → (2 : Nat) ^ j ≤ 4294967296) := hb
  have HS : Hid (∀ j, (2 : Nat) ^ (j + 1) = 2 * 2 ^ j) := fun j => by show _ = _; rw [Nat.pow_succ]; omega
  have H0 : Hid ((2 : Nat) ^ 0 = 1) := rfl
  clear hb
  generalize hP : (fun j : Nat => (2 : Nat) ^ j) = P
  have e : ∀ j : Nat, (2 : Nat) ^ j = P j := fun j => by rw [← hP]
  simp only [e] at HB HS H0 ⊢
  clear e hP
  go_enter Tryz.func171, Tryz.ntmps171
  go_wp2_with fail
  go_loop [0, 3] (fun x n => ∃ j : Nat, j ≤ k ∧ x = .int .i64 ((k - j : Nat) : Int) ∧ n = .int .i64 (P j : Int)) (fun x _ => (intOf x).toNat)
  case atStart => exact ⟨0, by omega, rfl, by rw [H0.out]; rfl⟩
  case round =>
    obtain ⟨j, hj, rfl, rfl⟩ := hrel
    by_cases hlt : j < k
    · have hb := HB.out (j + 1) (by omega)
      have hs := HS.out j
      have HSJ : Hid (P (j + 1) = 2 * P j) := hs
      have hb2 : P j ≤ 2147483648 := by omega
      clear hs hb
      go_wp2
      go_round
      case rel => exact ⟨j + 1, by omega, by go_num, by rw [HSJ.out]; go_num⟩
      case measure => simp [intOf]; omega
    · obtain rfl : j = k := by omega
      go_wp2
      go_ret
      exact ⟨rfl, rfl⟩
theorem l03Pow_at (l x : Int) (w : World) (h0 : 0 ≤ l) (h1 : l ≤ 32) (hx : x = 32 - l) :
    Calls Tryz.prog 171 #[.int .i64 x] w fun e w' => e = .returned (.int .i64 (gap l : Int)) ∧ w = w' := by
  obtain ⟨k, rfl⟩ := Int.eq_ofNat_of_zero_le h0
  have h := l03Pow_any (32 - k) w (by omega)
  rw [show x = ((32 - k : Nat) : Int) by omega]
  exact h
end Go.Proofs.YtialedffpaoacaaGreatDoor
/- Masks of the program. -/
namespace Go.Proofs.YtialedffpaoacaaGreatDoor
open Go.RowKit

set_option maxRecDepth 100000 in
theorem implMask_any (l : Int) (w : World) :
    Calls Tryz.prog 164 #[.int .i64 l] w fun e w' => e = .returned (.int .i64 (maskV l)) ∧ w = w' := by
  by_cases h0 : 0 ≤ l
  · by_cases h1 : l ≤ 32
    · have hd : Hid _ := down_up l h0 h1
      have hr := maskV_range l
      go_enter Tryz.func164, Tryz.ntmps164
      go_wp2
      go_ret
      exact ⟨ret_i64 (by rw [hd.out, wrap64_in _ (by omega) (by omega)]), rfl⟩
    · rw [maskV_out l (by omega)]
      go_enter Tryz.func164, Tryz.ntmps164
      go_wp2
      go_ret
      exact ⟨rfl, rfl⟩
  · rw [maskV_out l (by omega)]
    go_enter Tryz.func164, Tryz.ntmps164
    go_wp2
    go_ret
    exact ⟨rfl, rfl⟩
end Go.Proofs.YtialedffpaoacaaGreatDoor
/- Is it an address? Asked by the program and by the model. -/
namespace Go.Proofs.YtialedffpaoacaaGreatDoor
open Go.RowKit

def inAddr (a : Int) : Bool := decide (0 ≤ a ∧ a ≤ 4294967295)
set_option maxRecDepth 100000 in
theorem isAddr_any (a : Int) (w : World) : Calls Tryz.prog 162 #[.int .i64 a] w fun e w' => e = .returned (.bool (inAddr a)) ∧ w = w' := by
  by_cases h1 : 0 ≤ a
  · by_cases h2 : a ≤ 4294967295
    · go_enter Tryz.func162, Tryz.ntmps162
      go_wp2
      go_ret
      exact ⟨ret_bool (by simp [inAddr]; omega), rfl⟩
    · go_enter Tryz.func162, Tryz.ntmps162
      go_wp2
      go_ret
      exact ⟨ret_bool (by simp [inAddr]; omega), rfl⟩
  · go_enter Tryz.func162, Tryz.ntmps162
    go_wp2
    go_ret
    exact ⟨ret_bool (by simp [inAddr]; omega), rfl⟩
set_option maxRecDepth 100000 in
theorem l03Addr_any (a : Int) (w : World) : Calls Tryz.prog 125 #[.int .i64 a] w fun e w' => e = .returned (.bool (inAddr a)) ∧ w = w' := by
  have HB : Hid (decide (0 ≤ a ∧ a ≤ 4294967295) = inAddr a) := rfl
  go_enter Tryz.func125, Tryz.ntmps125
  go_wp2_with fail
  refine (l03Is_any a 0 4294967295 _).mono ?_
  rintro e w1 ⟨rfl, rfl⟩
  rw [HB.out]
  go_wp2
  go_ret
  exact ⟨rfl, rfl⟩
end Go.Proofs.YtialedffpaoacaaGreatDoor
/- Times, of the program and of the model. -/
namespace Go.Proofs.YtialedffpaoacaaGreatDoor
open Go.RowKit

set_option maxRecDepth 100000 in
theorem l03Time_any (a : Int) (w : World) : Calls Tryz.prog 41 #[.int .i64 a] w fun e w' => e = .returned (.bool (inTime a)) ∧ w = w' := by
  have HT : Hid (∀ w, Calls Tryz.prog 43 #[.int .i64 a, .int .i64 0, .int .i64 1000000] w fun e w' => e = .returned (.bool (inTime a)) ∧ w = w') := l03Is_any a 0 1000000
  generalize inTime a = T at *
  go_enter Tryz.func41, Tryz.ntmps41
  go_wp2_with fail
  refine (HT.out _).mono ?_
  rintro e w1 ⟨rfl, rfl⟩
  go_wp2
  go_ret
  exact ⟨rfl, rfl⟩
end Go.Proofs.YtialedffpaoacaaGreatDoor
