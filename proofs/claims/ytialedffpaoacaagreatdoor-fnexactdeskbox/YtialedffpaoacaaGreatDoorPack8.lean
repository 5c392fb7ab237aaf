/- Texts that stand on each other, in one file: BitsI. -/
import Derived.Test.YtialedffpaoacaaGreatDoorPack5
import Derived.Lib.IndexLaws
/- math/bits.Len at numbers of at most twelve: it answers. (Written by gen_bits.py.) -/
namespace Go.Proofs.YtialedffpaoacaaGreatDoor
open Go.RowKit

set_option maxRecDepth 100000 in
theorem len64_0 (w : World) : Calls Tryz.prog 255 #[.int .u64 0] w fun e w' => ∃ r, e = .returned (.int .i64 r) ∧ w = w' := by
  go_enter Tryz.func255, Tryz.ntmps255
  go_wp2
  go_ret
  exact ⟨_, rfl, rfl⟩
set_option maxRecDepth 100000 in
theorem len64_1 (w : World) : Calls Tryz.prog 255 #[.int .u64 1] w fun e w' => ∃ r, e = .returned (.int .i64 r) ∧ w = w' := by
  go_enter Tryz.func255, Tryz.ntmps255
  go_wp2
  go_ret
  exact ⟨_, rfl, rfl⟩
set_option maxRecDepth 100000 in
theorem len64_2 (w : World) : Calls Tryz.prog 255 #[.int .u64 2] w fun e w' => ∃ r, e = .returned (.int .i64 r) ∧ w = w' := by
  go_enter Tryz.func255, Tryz.ntmps255
  go_wp2
  go_ret
  exact ⟨_, rfl, rfl⟩
set_option maxRecDepth 100000 in
theorem len64_3 (w : World) : Calls Tryz.prog 255 #[.int .u64 3] w fun e w' => ∃ r, e = .returned (.int .i64 r) ∧ w = w' := by
  go_enter Tryz.func255, Tryz.ntmps255
  go_wp2
  go_ret
  exact ⟨_, rfl, rfl⟩
set_option maxRecDepth 100000 in
theorem len64_4 (w : World) : Calls Tryz.prog 255 #[.int .u64 4] w fun e w' => ∃ r, e = .returned (.int .i64 r) ∧ w = w' := by
  go_enter Tryz.func255, Tryz.ntmps255
  go_wp2
  go_ret
  exact ⟨_, rfl, rfl⟩
set_option maxRecDepth 100000 in
theorem len64_5 (w : World) : Calls Tryz.prog 255 #[.int .u64 5] w fun e w' => ∃ r, e = .returned (.int .i64 r) ∧ w = w' := by
  go_enter Tryz.func255, Tryz.ntmps255
  go_wp2
  go_ret
  exact ⟨_, rfl, rfl⟩
set_option maxRecDepth 100000 in
theorem len64_6 (w : World) : Calls Tryz.prog 255 #[.int .u64 6] w fun e w' => ∃ r, e = .returned (.int .i64 r) ∧ w = w' := by
  go_enter Tryz.func255, Tryz.ntmps255
  go_wp2
  go_ret
  exact ⟨_, rfl, rfl⟩
set_option maxRecDepth 100000 in
theorem len64_7 (w : World) : Calls Tryz.prog 255 #[.int .u64 7] w fun e w' => ∃ r, e = .returned (.int .i64 r) ∧ w = w' := by
  go_enter Tryz.func255, Tryz.ntmps255
  go_wp2
  go_ret
  exact ⟨_, rfl, rfl⟩
set_option maxRecDepth 100000 in
theorem len64_8 (w : World) : Calls Tryz.prog 255 #[.int .u64 8] w fun e w' => ∃ r, e = .returned (.int .i64 r) ∧ w = w' := by
  go_enter Tryz.func255, Tryz.ntmps255
  go_wp2
  go_ret
  exact ⟨_, rfl, rfl⟩
set_option maxRecDepth 100000 in
theorem len64_9 (w : World) : Calls Tryz.prog 255 #[.int .u64 9] w fun e w' => ∃ r, e = .returned (.int .i64 r) ∧ w = w' := by
  go_enter Tryz.func255, Tryz.ntmps255
  go_wp2
  go_ret
  exact ⟨_, rfl, rfl⟩
set_option maxRecDepth 100000 in
theorem len64_10 (w : World) : Calls Tryz.prog 255 #[.int .u64 10] w fun e w' => ∃ r, e = .returned (.int .i64 r) ∧ w = w' := by
  go_enter Tryz.func255, Tryz.ntmps255
  go_wp2
  go_ret
  exact ⟨_, rfl, rfl⟩
set_option maxRecDepth 100000 in
theorem len64_11 (w : World) : Calls Tryz.prog 255 #[.int .u64 11] w fun e w' => ∃ r, e = .returned (.int .i64 r) ∧ w = w' := by
  go_enter Tryz.func255, Tryz.ntmps255
  go_wp2
  go_ret
  exact ⟨_, rfl, rfl⟩
set_option maxRecDepth 100000 in
theorem len64_12 (w : World) : Calls Tryz.prog 255 #[.int .u64 12] w fun e w' => ∃ r, e = .returned (.int .i64 r) ∧ w = w' := by
  go_enter Tryz.func255, Tryz.ntmps255
  go_wp2
  go_ret
  exact ⟨_, rfl, rfl⟩
theorem len64_small (n : Nat) (h : n ≤ 12) (w : World) : Calls Tryz.prog 255 #[.int .u64 (n : Int)] w fun e w' => ∃ r, e = .returned (.int .i64 r) ∧ w = w' := by
  match n, h with
  | 0, _ => exact len64_0 w
  | 1, _ => exact len64_1 w
  | 2, _ => exact len64_2 w
  | 3, _ => exact len64_3 w
  | 4, _ => exact len64_4 w
  | 5, _ => exact len64_5 w
  | 6, _ => exact len64_6 w
  | 7, _ => exact len64_7 w
  | 8, _ => exact len64_8 w
  | 9, _ => exact len64_9 w
  | 10, _ => exact len64_10 w
  | 11, _ => exact len64_11 w
  | 12, _ => exact len64_12 w
  | k + 13, h => exact absurd h (by omega)
set_option maxRecDepth 100000 in
theorem bitsLen_small (n : Nat) (h : n ≤ 12) (w : World) : Calls Tryz.prog 245 #[.int .u64 (n : Int)] w fun e w' => ∃ r, e = .returned (.int .i64 r) ∧ w = w' := by
  have HL : Hid (∀ w, Calls Tryz.prog 255 #[.int .u64 (n : Int)] w fun e w' => ∃ r, e = .returned (.int .i64 r) ∧ w = w') := fun w => len64_small n h w
  go_enter Tryz.func245, Tryz.ntmps245
  go_wp2_with fail
  refine (HL.out _).mono ?_
  rintro e w1 ⟨r, rfl, rfl⟩
  go_wp2
  go_ret
  exact ⟨r, rfl, rfl⟩
end Go.Proofs.YtialedffpaoacaaGreatDoor
