/- Texts that stand on each other, in one file: AddrMath, Bits. -/
import Derived.WalkKit
import Derived.Laws.BitsAllLaws
/- Plain numbers under addresses: masks, cuts, and what shifts and 'and' make of them. -/
namespace Go.Proofs.YtialedffpaoacaaGreatDoor

theorem ofInt_i64 (a : Nat) (ha : a < 9223372036854775808) : (BitVec.ofInt 64 (a : Int)).toNat = a := by
  rw [BitVec.ofInt_natCast, BitVec.toNat_ofNat]; exact Nat.mod_eq_of_lt (by omega)
theorem i64_and_nat (a b : Nat) (ha : a < 9223372036854775808) (hb : b < 9223372036854775808) : bits .and .i64 (a : Int) (b : Int) = ((a &&& b : Nat) : Int) := by
  have hx : a &&& b < 2 ^ 63 := Nat.and_lt_two_pow _ (by omega)
  show IntKind.i64.wrap ((BitVec.ofInt 64 (a : Int) &&& BitVec.ofInt 64 (b : Int)).toNat : Int) = _
  rw [BitVec.toNat_and, ofInt_i64 a ha, ofInt_i64 b hb, IntKind.wrap_i64]
  omega
theorem i64_or_nat (a b : Nat) (ha : a < 9223372036854775808) (hb : b < 9223372036854775808) : bits .or .i64 (a : Int) (b : Int) = ((a ||| b : Nat) : Int) := by
  have hx : a ||| b < 2 ^ 63 := Nat.or_lt_two_pow (by omega) (by omega)
  show IntKind.i64.wrap ((BitVec.ofInt 64 (a : Int) ||| BitVec.ofInt 64 (b : Int)).toNat : Int) = _
  rw [BitVec.toNat_or, ofInt_i64 a ha, ofInt_i64 b hb, IntKind.wrap_i64]
  omega
theorem pow_split (j : Nat) (h : j ≤ 32) : (2 : Nat) ^ 32 - 2 ^ j = (2 ^ (32 - j) - 1) * 2 ^ j := by
  rw [Nat.sub_mul, ← Nat.pow_add, Nat.one_mul]
  congr 2
  omega
theorem nat_and_mask (a j : Nat) (ha : a < 4294967296) (hj : j ≤ 32) : a &&& (4294967296 - 2 ^ j) = a / 2 ^ j * 2 ^ j := by
  rw [show (4294967296 : Nat) = 2 ^ 32 from rfl, pow_split j hj]
  apply Nat.eq_of_testBit_eq
  intro i
  rw [Nat.testBit_and, Nat.testBit_mul_two_pow, Nat.testBit_mul_two_pow, Nat.testBit_two_pow_sub_one, Nat.testBit_div_two_pow]
  by_cases h : j ≤ i
  · by_cases h2 : i < 32
    · have h3 : i - j < 32 - j := by omega
      simp [h, h3]
    · have h3 : a.testBit i = false := Nat.testBit_lt_two_pow (Nat.lt_of_lt_of_le ha (by rw [show (4294967296 : Nat) = 2 ^ 32 from rfl]; exact Nat.pow_le_pow_right (by decide) (by omega)))
      simp [h, h3]
  · simp [h]

/-- What a length leaves out: two to the bits behind it. -/
def gap (l : Int) : Nat := 2 ^ (32 - l.toNat)
theorem gap_fin : ∀ k : Fin 33, 1 ≤ 2 ^ (32 - k.val) ∧ 2 ^ (32 - k.val) ≤ 4294967296 := by decide
theorem gap_pos (l : Int) : 1 ≤ gap l := Nat.two_pow_pos _
theorem gap_le (l : Int) : gap l ≤ 4294967296 := by
  unfold gap; rw [show (4294967296 : Nat) = 2 ^ 32 from rfl]; exact Nat.pow_le_pow_right (by decide) (by omega)
theorem gap_pow (l : Int) (h0 : 0 ≤ l) (h1 : l ≤ 32) : gap l = 2 ^ (32 - l).toNat := by
  unfold gap; congr 1; omega
/-- An address without the bits behind the first ones. -/
def cutV (a l : Int) : Int := a / (gap l : Int) * (gap l : Int)
theorem cutV_le (a l : Int) (h : 0 ≤ a) : 0 ≤ cutV a l ∧ cutV a l ≤ a := by
  have hg := gap_pos l
  have hg' : (0 : Int) < (gap l : Int) := by omega
  unfold cutV
  constructor
  · exact Int.mul_nonneg (Int.ediv_nonneg h (by omega)) (by omega)
  · exact Int.ediv_mul_le a (by omega)
def maskV (l : Int) : Int := if 0 ≤ l ∧ l ≤ 32 then 4294967296 - (gap l : Int) else 0
theorem maskV_in (l : Int) (h0 : 0 ≤ l) (h1 : l ≤ 32) : maskV l = 4294967296 - (gap l : Int) := if_pos ⟨h0, h1⟩
theorem maskV_out (l : Int) (h : ¬ (0 ≤ l ∧ l ≤ 32)) : maskV l = 0 := if_neg h
theorem maskV_range (l : Int) : 0 ≤ maskV l ∧ maskV l ≤ 4294967295 := by
  unfold maskV
  have := gap_le l
  have := gap_pos l
  split <;> omega
theorem and_mask (a l : Int) (h0 : 0 ≤ a) (h1 : a ≤ 4294967295) (hl0 : 0 ≤ l) (hl1 : l ≤ 32) : bits .and .i64 a (maskV l) = cutV a l := by
  obtain ⟨A, rfl⟩ := Int.eq_ofNat_of_zero_le h0
  rw [maskV_in l hl0 hl1]
  have hg := gap_le l
  rw [show (4294967296 : Int) - (gap l : Int) = ((4294967296 - gap l : Nat) : Int) by omega, i64_and_nat A _ (by omega) (by omega)]
  unfold cutV gap
  rw [nat_and_mask A (32 - l.toNat) (by omega) (by omega)]
  push_cast
  rfl
/-- A shift down and up again. -/
theorem down_up_fin : ∀ k : Fin 33, (4294967295 / 2 ^ k.val) * 2 ^ k.val = 4294967296 - 2 ^ k.val := by decide
theorem down_up (l : Int) (h0 : 0 ≤ l) (h1 : l ≤ 32) : (4294967295 : Int) / 2 ^ (32 - l).toNat * 2 ^ (32 - l).toNat = maskV l := by
  rw [maskV_in l h0 h1, gap_pow l h0 h1]
  have h := down_up_fin ⟨(32 - l).toNat, by omega⟩
  have hg := gap_le l
  rw [gap_pow l h0 h1] at hg
  simp only at h
  have e : ((2 : Int) ^ (32 - l).toNat) = ((2 ^ (32 - l).toNat : Nat) : Int) := by simp
  rw [e]
  generalize 2 ^ (32 - l).toNat = G at *
  have h2 : ((4294967295 : Int) / (G : Int) * (G : Int)) = ((4294967295 / G * G : Nat) : Int) := by simp
  rw [h2, h]
  omega
/-- Masks of different lengths differ. -/
theorem gap_step (k : Nat) (h : k + 1 ≤ 32) : gap (k : Int) = 2 * gap ((k + 1 : Nat) : Int) := by
  unfold gap
  rw [Int.toNat_natCast, Int.toNat_natCast, show 32 - k = (32 - (k + 1)) + 1 by omega, Nat.pow_succ]
  omega
theorem cutV_cut (a l : Int) : cutV (cutV a l) l = cutV a l := by
  have hg := gap_pos l
  unfold cutV
  rw [Int.mul_ediv_cancel _ (by omega)]
end Go.Proofs.YtialedffpaoacaaGreatDoor
/- Small laws on bits: all ones put against a number. -/
namespace Go.Proofs.YtialedffpaoacaaGreatDoor
theorem nat_ones_xor (n x : Nat) (h : x < 2 ^ n) : (2 ^ n - 1) ^^^ x = 2 ^ n - 1 - x := by
  have e := congrArg BitVec.toNat (BitVec.allOnes_xor (x := BitVec.ofNat n x))
  simp only [BitVec.toNat_xor, BitVec.toNat_allOnes, BitVec.toNat_ofNat, BitVec.toNat_not, Nat.mod_eq_of_lt h] at e
  exact e
theorem ones_u64 (x : Int) (h0 : 0 ≤ x) (h1 : x < 18446744073709551616) : bits .xor .u64 IntKind.u64.max x = 18446744073709551615 - x := by
  have em : IntKind.u64.max = 18446744073709551615 := by decide
  rw [em, u64_xor _ _ (by omega) (by omega) h0 h1]
  have := nat_ones_xor 64 x.toNat (by omega)
  rw [show (18446744073709551615 : Int).toNat = 2 ^ 64 - 1 by decide, this]
  omega
theorem ones_u32 (x : Int) (h0 : 0 ≤ x) (h1 : x < 4294967296) : bits .xor .u32 IntKind.u32.max x = 4294967295 - x := by
  have em : IntKind.u32.max = 4294967295 := by decide
  rw [em, u32_xor _ _ (by omega) (by omega) h0 h1]
  have := nat_ones_xor 32 x.toNat (by omega)
  rw [show (4294967295 : Int).toNat = 2 ^ 32 - 1 by decide, this]
  omega
theorem fold_neg (n : Int) (h0 : -9223372036854775808 ≤ n) (h : n < 0) : bits .xor .u64 IntKind.u64.max (IntKind.u64.wrap (IntKind.u64.wrap n * 2)) = -2 * n - 1 := by
  rw [IntKind.wrap_u64, IntKind.wrap_u64, ones_u64 _ (by omega) (by omega)]
  omega
end Go.Proofs.YtialedffpaoacaaGreatDoor
