/- Numbers out of bytes, as plain numbers. -/
import Derived.Test.YtflgiohhkoplaadDoorBase
namespace Go.Proofs.YtflgiohhkoplaadDoor
open Go.RowKit

def unfoldN (u : Nat) : Int := if u % 2 = 1 then -((u / 2 : Nat) : Int) - 1 else ((u / 2 : Nat) : Int)
/-- What is read from place a + i on, u being read already: the number, the place behind it, the code. -/
def getGo (t : ByteArray) (a : Nat) : Nat → Nat → Nat → Int × Int × Int
  | 0, _, _ => (0, 0, 3)
  | f + 1, i, u =>
    if h : a + i < t.size then
      if i = 9 ∧ 1 < t[a + i].toNat then (0, 0, 3)
      else if t[a + i].toNat < 128 then
        if t[a + i].toNat = 0 ∧ 0 < i then (0, 0, 3) else (unfoldN (u + t[a + i].toNat * 2 ^ (7 * i)), ((a + i + 1 : Nat) : Int), 0)
      else getGo t a f (i + 1) (u + (t[a + i].toNat - 128) * 2 ^ (7 * i))
    else (0, 0, 4)
def getNumR (t : ByteArray) (a : Int) : Int × Int × Int :=
  if 8000 < t.size then (0, 0, 2) else if a < 0 then (0, 0, 1) else getGo t a.toNat 10 0 0

/-- Reading has come to byte i with u; what is left gives R. -/
def GetRel (t : ByteArray) (a : Nat) (R : Int × Int × Int) (i u : Nat) : Prop := i ≤ 9 ∧ u < 2 ^ (7 * i) ∧ getGo t a (10 - i) i u = R
theorem GetRel.open {t : ByteArray} {a : Nat} {R : Int × Int × Int} {i u : Nat} (h : GetRel t a R i u) : getGo t a (9 - i + 1) i u = R := by
  have := h.2.2
  rwa [show 10 - i = 9 - i + 1 by have := h.1; omega] at this
theorem GetRel.short {t : ByteArray} {a : Nat} {R : Int × Int × Int} {i u : Nat} (h : GetRel t a R i u) (hs : ¬ a + i < t.size) : R = (0, 0, 4) := by
  rw [← h.open, getGo, dif_neg hs]
theorem GetRel.tenth {t : ByteArray} {a : Nat} {R : Int × Int × Int} {i u : Nat} (h : GetRel t a R i u) (hs : a + i < t.size) (h9 : i = 9) (h1 : 1 < t[a + i].toNat) : R = (0, 0, 3) := by
  rw [← h.open, getGo, dif_pos hs, if_pos ⟨h9, h1⟩]
theorem GetRel.nought {t : ByteArray} {a : Nat} {R : Int × Int × Int} {i u : Nat} (h : GetRel t a R i u) (hs : a + i < t.size) (hi : 0 < i) (h1 : t[a + i].toNat = 0) : R = (0, 0, 3) := by
  rw [← h.open, getGo, dif_pos hs, if_neg (by omega), if_pos (by omega), if_pos ⟨h1, hi⟩]
theorem GetRel.last {t : ByteArray} {a : Nat} {R : Int × Int × Int} {i u : Nat} (h : GetRel t a R i u) (hs : a + i < t.size) (h9 : ¬ (i = 9 ∧ 1 < t[a + i].toNat)) (h1 : t[a + i].toNat < 128) (h0 : ¬ (t[a + i].toNat = 0 ∧ 0 < i)) : R = (unfoldN (u + t[a + i].toNat * 2 ^ (7 * i)), ((a + i + 1 : Nat) : Int), 0) := by
  rw [← h.open, getGo, dif_pos hs, if_neg h9, if_pos h1, if_neg h0]
theorem pow_seven (i : Nat) : 2 ^ (7 * (i + 1)) = 128 * 2 ^ (7 * i) := by
  rw [show 7 * (i + 1) = 7 * i + 7 by omega, Nat.pow_add]; omega
theorem GetRel.more {t : ByteArray} {a : Nat} {R : Int × Int × Int} {i u : Nat} (h : GetRel t a R i u) (hs : a + i < t.size) (h9 : ¬ i = 9) (h1 : 128 ≤ t[a + i].toNat) : GetRel t a R (i + 1) (u + (t[a + i].toNat - 128) * 2 ^ (7 * i)) := by
  have hb := t[a + i].toNat_lt
  refine ⟨by have := h.1; omega, ?_, ?_⟩
  · rw [pow_seven]
    have h2 := h.2.1
    have h3 : (t[a + i].toNat - 128) * 2 ^ (7 * i) ≤ 127 * 2 ^ (7 * i) := Nat.mul_le_mul_right _ (by omega)
    omega
  · rw [← h.open, getGo, dif_pos hs, if_neg (by omega), if_neg (by omega), show 10 - (i + 1) = 9 - i by omega]

theorem pow_le_63 {k : Nat} (hk : k ≤ 9) : 2 ^ (7 * k) ≤ 9223372036854775808 := by
  have : (2 : Nat) ^ (7 * k) ≤ 2 ^ 63 := Nat.pow_le_pow_right (by omega) (by omega)
  omega
theorem pow_le_56 {k : Nat} (hk : k ≤ 8) : 2 ^ (7 * k) ≤ 72057594037927936 := by
  have : (2 : Nat) ^ (7 * k) ≤ 2 ^ 56 := Nat.pow_le_pow_right (by omega) (by omega)
  omega
theorem add_u64 (u c P : Nat) (h : u + c * P < 18446744073709551616) : IntKind.u64.wrap ((u : Int) + IntKind.u64.wrap ((c : Int) * (P : Int))) = ((u + c * P : Nat) : Int) := by
  rw [IntKind.wrap_u64, IntKind.wrap_u64]
  have e : (c : Int) * (P : Int) = ((c * P : Nat) : Int) := by simp
  rw [e]
  generalize c * P = m at *
  omega
theorem seven_add {u c k : Nat} (h : u + c % 128 * 2 ^ (7 * k) < 18446744073709551616) : IntKind.u64.wrap ((u : Int) + IntKind.u64.wrap ((c : Int) % 128 * 2 ^ (7 * k))) = ((u + c % 128 * 2 ^ (7 * k) : Nat) : Int) := by
  have := add_u64 u (c % 128) (2 ^ (7 * k)) h
  rw [← this]; simp
theorem sum_small {u c k : Nat} (hk : k ≤ 8) (hu : u < 2 ^ (7 * k)) (hc : c < 128) : u + c * 2 ^ (7 * k) < 9223372036854775808 := by
  have h1 := pow_le_56 hk
  have h2 : c * 2 ^ (7 * k) ≤ 127 * 2 ^ (7 * k) := Nat.mul_le_mul_right _ (by omega)
  omega
theorem sum_tenth {u c k : Nat} (hk : k ≤ 9) (hu : u < 2 ^ (7 * k)) (hc : c ≤ 1) : u + c * 2 ^ (7 * k) < 18446744073709551616 := by
  have h1 := pow_le_63 hk
  have h2 : c * 2 ^ (7 * k) ≤ 1 * 2 ^ (7 * k) := Nat.mul_le_mul_right _ hc
  omega
theorem unfoldN_odd {u : Nat} (h : u % 2 = 1) : unfoldN u = -((u / 2 : Nat) : Int) - 1 := by unfold unfoldN; rw [if_pos h]
theorem unfoldN_even {u : Nat} (h : ¬ u % 2 = 1) : unfoldN u = ((u / 2 : Nat) : Int) := by unfold unfoldN; rw [if_neg h]
/-- A NumOut as a value. -/
def numV (R : Int × Int × Int) : Value := .agg #[.int .i64 R.1, .int .i64 R.2.1, .int .i64 R.2.2]
theorem numV_eq {R : Int × Int × Int} {n p c : Int} (h : R = (n, p, c)) : numV R = .agg #[.int .i64 n, .int .i64 p, .int .i64 c] := by rw [h]; rfl
end Go.Proofs.YtflgiohhkoplaadDoor
