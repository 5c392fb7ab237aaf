/- Small laws on bits: all ones put against a number. -/
import Derived.WalkKit
import Derived.Laws.BitsAllLaws
namespace Go.Proofs.YtialedffpaoacaaGreatDoor
theorem nat_ones_xor (n x : Nat) (h : x < 2 ^ n) : (2 ^ n - 1) ^^^ x = 2 ^ n - 1 - x := by
  have e := congrArg BitVec.toNat (BitVec.allOnes_xor (x := BitVec.ofNat n x))
  simp only [BitVec.toNat_xor, BitVec.toNat_allOnes, BitVec.toNat_ofNat, BitVec.toNat_not, Nat.mod_eq_of_lt h] at e
  exact e
theorem ones_u64 (x : Int) (h0 : 0 ≤ x) (h1 : x < 18446744073709551616) : bits .xor .u64 IntKind.u64.max x = 18446744073709551615 - x := by
  have em : IntKind.u64.max = 18446744073709551615 := by decide
  rw [em, u64_xor _ _ (by omega) (by omega) h0 h1]
  have := nat_ones_xor 64 x.toNat (by omega)
  rw [show (18446744073709551615 : Int).toNat = 2 ^ 64 - 1 by decide, this]
  omega
theorem ones_u32 (x : Int) (h0 : 0 ≤ x) (h1 : x < 4294967296) : bits .xor .u32 IntKind.u32.max x = 4294967295 - x := by
  have em : IntKind.u32.max = 4294967295 := by decide
  rw [em, u32_xor _ _ (by omega) (by omega) h0 h1]
  have := nat_ones_xor 32 x.toNat (by omega)
  rw [show (4294967295 : Int).toNat = 2 ^ 32 - 1 by decide, this]
  omega
theorem fold_neg (n : Int) (h0 : -9223372036854775808 ≤ n) (h : n < 0) : bits .xor .u64 IntKind.u64.max (IntKind.u64.wrap (IntKind.u64.wrap n * 2)) = -2 * n - 1 := by
  rw [IntKind.wrap_u64, IntKind.wrap_u64, ones_u64 _ (by omega) (by omega)]
  omega
end Go.Proofs.YtialedffpaoacaaGreatDoor
