/- The register of a CRC, bit by bit, as plain numbers. -/
import Derived.Test.YtflgiohhkoplaaaBits
namespace Go.Proofs.Ytflgiohhkoplaaa

def crcBit (r : Nat) : Nat := if r % 2 = 1 then (r / 2) ^^^ 3988292384 else r / 2
def crcBits : Nat → Nat → Nat
  | 0, r => r
  | k + 1, r => crcBit (crcBits k r)
def crcByte (r : Nat) (b : UInt8) : Nat := crcBits 8 (r ^^^ b.toNat)
def crcReg (r : Nat) (l : List UInt8) : Nat := l.foldl crcByte r
def crcOf (crc : Nat) (l : List UInt8) : Nat := 4294967295 - crcReg (4294967295 - crc) l

theorem crcBit_lt {r : Nat} (h : r < 4294967296) : crcBit r < 4294967296 := by
  unfold crcBit
  split
  · exact Nat.xor_lt_two_pow (n := 32) (by omega) (by omega)
  · omega
theorem crcBits_lt {r : Nat} (k : Nat) (h : r < 4294967296) : crcBits k r < 4294967296 := by
  induction k with
  | zero => exact h
  | succ k ih => exact crcBit_lt ih
theorem xor_byte_lt {r : Nat} (b : UInt8) (h : r < 4294967296) : r ^^^ b.toNat < 4294967296 := by
  have := b.toNat_lt
  exact Nat.xor_lt_two_pow (n := 32) (by omega) (by omega)
theorem crcByte_lt {r : Nat} (b : UInt8) (h : r < 4294967296) : crcByte r b < 4294967296 := crcBits_lt 8 (xor_byte_lt b h)
theorem crcReg_lt {r : Nat} (l : List UInt8) (h : r < 4294967296) : crcReg r l < 4294967296 := by
  induction l generalizing r with
  | nil => exact h
  | cons b l ih => exact ih (crcByte_lt b h)
theorem crcReg_snoc (r : Nat) (l : List UInt8) (b : UInt8) : crcReg r (l ++ [b]) = crcByte (crcReg r l) b := by simp [crcReg]
theorem crcReg_append (r : Nat) (l m : List UInt8) : crcReg r (l ++ m) = crcReg (crcReg r l) m := by simp [crcReg]
theorem crcOf_lt (crc : Nat) (l : List UInt8) : crcOf crc l < 4294967296 := by unfold crcOf; omega

/-- The forms in which the walk meets them. -/
theorem and_one_u32 (r : Nat) (h : r < 4294967296) : bits .and .u32 (r : Int) 1 = ((r % 2 : Nat) : Int) := by
  have := u32_and_nat r 1 h (by omega)
  rw [nat_mask1] at this
  exact this
theorem odd_u32 {r : Nat} (h : r < 4294967296) (h1 : r % 2 = 1) : (bits .and .u32 (r : Int) 1 == 1) = true := by rw [and_one_u32 r h, h1]; rfl
theorem even_u32 {r : Nat} (h : r < 4294967296) (h1 : ¬ r % 2 = 1) : (bits .and .u32 (r : Int) 1 == 1) = false := by
  rw [and_one_u32 r h, show r % 2 = 0 by omega]; rfl
theorem poly_u32 {r : Nat} (h : r < 4294967296) (h1 : r % 2 = 1) : bits .xor .u32 ((r : Int) / 2) 3988292384 = ((crcBit r : Nat) : Int) := by
  have := u32_xor_nat (r / 2) 3988292384 (by omega) (by omega)
  unfold crcBit
  rw [if_pos h1, ← this]
  rfl
theorem half_u32 {r : Nat} (h1 : ¬ r % 2 = 1) : (r : Int) / 2 = ((crcBit r : Nat) : Int) := by
  unfold crcBit; rw [if_neg h1]; omega
theorem byte_u32 (r : Nat) (b : UInt8) (h : r < 4294967296) : bits .xor .u32 (r : Int) (b.toNat : Int) = ((r ^^^ b.toNat : Nat) : Int) := by
  have := b.toNat_lt
  exact u32_xor_nat r b.toNat h (by omega)
theorem ones_u32_nat (r : Nat) (h : r < 4294967296) : bits .xor .u32 (r : Int) 4294967295 = ((4294967295 - r : Nat) : Int) := by
  have h1 := u32_xor_nat r 4294967295 h (by omega)
  have h2 := nat_ones_xor 32 r (by omega)
  rw [Nat.xor_comm] at h2
  have e : (2 : Nat) ^ 32 - 1 = 4294967295 := by decide
  rw [e] at h2
  rw [h2] at h1
  exact h1
theorem ones_u32_left (r : Nat) (h : r < 4294967296) : bits .xor .u32 IntKind.u32.max (r : Int) = ((4294967295 - r : Nat) : Int) := by
  rw [ones_u32 _ (by omega) (by omega)]; omega
end Go.Proofs.Ytflgiohhkoplaaa
