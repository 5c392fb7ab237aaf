/- Numbers as bytes: seven bits a byte. -/
import Derived.Test.YtflgiohhkoplaaaDoorBase
namespace Go.Proofs.YtflgiohhkoplaaaDoor
open Go.RowKit

/-- The number from 0 to 2^64-1 that stands for n. -/
def foldN (n : Int) : Nat := if n < 0 then (-2 * n - 1).toNat else (2 * n).toNat
/-- Seven bits a byte, the lowest first; the fuel says how many bytes may still come behind this one. -/
def numB : Nat → Nat → List UInt8
  | 0, u => [UInt8.ofNat u]
  | f + 1, u => if 128 ≤ u then UInt8.ofNat (u % 128 + 128) :: numB f (u / 128) else [UInt8.ofNat u]
def putNumB (n : Int) : List UInt8 := numB 9 (foldN n)

theorem foldN_lt (n : Int) (h0 : -9223372036854775808 ≤ n) (h1 : n ≤ 9223372036854775807) : foldN n < 2 * 128 ^ 9 := by
  unfold foldN; split <;> omega
theorem numB_length (f u : Nat) : (numB f u).length ≤ f + 1 ∧ 1 ≤ (numB f u).length := by
  induction f generalizing u with
  | zero => simp [numB]
  | succ f ih => unfold numB; split
                 · have := ih (u / 128); simp; omega
                 · simp
theorem numB_stop (f u : Nat) (h : u < 128) : numB f u = [UInt8.ofNat u] := by
  cases f with
  | zero => rfl
  | succ f => simp [numB]; omega
theorem numB_go (f u : Nat) (h : 128 ≤ u) : numB (f + 1) u = UInt8.ofNat (u % 128 + 128) :: numB f (u / 128) := by
  simp [numB, h]
theorem fuel_pos {f u : Nat} (h : 128 ≤ u) (hu : u < 2 * 128 ^ f) : ∃ f', f = f' + 1 ∧ u / 128 < 2 * 128 ^ f' := by
  cases f with
  | zero => simp at hu; omega
  | succ f => exact ⟨f, rfl, by rw [Nat.pow_succ] at hu; omega⟩
theorem foldN_neg (n : Int) (h : n < 0) : (foldN n : Int) = -2 * n - 1 := by unfold foldN; rw [if_pos h]; omega
theorem foldN_pos (n : Int) (h : ¬ n < 0) : (foldN n : Int) = 2 * n := by unfold foldN; rw [if_neg h]; omega
/-- What has been put, and what is still to put. -/
def PutRel (N : List UInt8) (l : List UInt8) (f u : Nat) : Prop := u < 2 * 128 ^ f ∧ l.length + f = 9 ∧ l ++ numB f u = N
theorem PutRel.len {N l : List UInt8} {f u : Nat} (h : PutRel N l f u) : l.length ≤ 9 := by have := h.2.1; omega
theorem PutRel.top {N l : List UInt8} {f u : Nat} (h : PutRel N l f u) : u < 18446744073709551616 := by
  have h1 := h.1
  have h2 : 128 ^ f ≤ 128 ^ 9 := Nat.pow_le_pow_right (by omega) (by have := h.2.1; omega)
  omega
theorem PutRel.step {N l : List UInt8} {f u : Nat} (h : PutRel N l f u) (hu : 128 ≤ u) : ∃ f', PutRel N (l ++ [UInt8.ofNat (u % 128 + 128)]) f' (u / 128) := by
  obtain ⟨f', rfl, hf⟩ := fuel_pos hu h.1
  refine ⟨f', hf, by have := h.2.1; simp; omega, ?_⟩
  rw [← h.2.2, numB_go f' u hu]; simp
theorem PutRel.stop {N l : List UInt8} {f u : Nat} (h : PutRel N l f u) (hu : u < 128) : l ++ [UInt8.ofNat u] = N := by
  rw [← h.2.2, numB_stop f u hu]
end Go.Proofs.YtflgiohhkoplaaaDoor
