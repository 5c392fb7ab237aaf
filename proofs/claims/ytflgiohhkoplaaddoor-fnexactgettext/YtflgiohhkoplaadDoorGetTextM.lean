/- Texts out of bytes, as plain data. -/
import Derived.Test.YtflgiohhkoplaadDoorCodeOf
namespace Go.Proofs.YtflgiohhkoplaadDoor
open Go.RowKit

def getTextR (t : ByteArray) (a : Int) : ByteArray × Int × Int :=
  if (getNumR t a).2.2 ≠ 0 then (ByteArray.empty, 0, (getNumR t a).2.2)
  else if (getNumR t a).1 < 0 ∨ 8000 < (getNumR t a).1 then (ByteArray.empty, 0, 3)
  else if (t.size : Int) - (getNumR t a).1 < (getNumR t a).2.1 then (ByteArray.empty, 0, 4)
  else (t.extract (getNumR t a).2.1.toNat ((getNumR t a).2.1 + (getNumR t a).1).toNat, (getNumR t a).2.1 + (getNumR t a).1, 0)

theorem unfoldN_range {u : Nat} (h : u < 18446744073709551616) : -9223372036854775808 ≤ unfoldN u ∧ unfoldN u ≤ 9223372036854775807 := by
  unfold unfoldN; split <;> omega
theorem getGo_ok (t : ByteArray) (a : Nat) (f i u : Nat) (hi : i + f = 10) (hu : u < 2 ^ (7 * i)) : (getGo t a f i u).2.2 = 0 →
    ∃ p : Nat, (getGo t a f i u).2.1 = p ∧ p ≤ t.size ∧ -9223372036854775808 ≤ (getGo t a f i u).1 ∧ (getGo t a f i u).1 ≤ 9223372036854775807 := by
  induction f generalizing i u with
  | zero => intro h; simp [getGo] at h
  | succ f ih =>
    unfold getGo
    split
    · rename_i hs
      have hb := t[a + i].toNat_lt
      split
      · intro h; simp at h
      · rename_i h9
        split
        · rename_i hc
          split
          · intro h; simp at h
          · intro _
            have hX : u + t[a + i].toNat * 2 ^ (7 * i) < 18446744073709551616 := by
              by_cases h : i = 9
              · exact sum_tenth (by omega) hu (by omega)
              · have := sum_small (c := t[a + i].toNat) (show i ≤ 8 by omega) hu (by omega); omega
            have hr := unfoldN_range hX
            exact ⟨a + i + 1, rfl, by omega, hr.1, hr.2⟩
        · rename_i hc
          by_cases h : i = 9
          · exact absurd ⟨h, by omega⟩ h9
          · have hN : u + (t[a + i].toNat - 128) * 2 ^ (7 * i) < 2 ^ (7 * (i + 1)) := by
              rw [pow_seven]
              have h3 : (t[a + i].toNat - 128) * 2 ^ (7 * i) ≤ 127 * 2 ^ (7 * i) := Nat.mul_le_mul_right _ (by omega)
              omega
            exact ih (i + 1) _ (by omega) hN
    · intro h; simp at h
theorem getNumR_ok (t : ByteArray) (a : Int) (h : (getNumR t a).2.2 = 0) : t.size ≤ 8000 ∧ ∃ p : Nat, (getNumR t a).2.1 = p ∧ p ≤ t.size ∧ -9223372036854775808 ≤ (getNumR t a).1 ∧ (getNumR t a).1 ≤ 9223372036854775807 := by
  unfold getNumR at h ⊢
  split at h
  · simp at h
  · rename_i h8
    rw [if_neg h8]
    split at h
    · simp at h
    · rename_i h0
      rw [if_neg h0]
      exact ⟨by omega, getGo_ok t a.toNat 10 0 0 rfl (by simp) h⟩
theorem slice_mid (t : ByteArray) (p m : Nat) (h : p + m ≤ t.size) (w : World) : (Instr.slice 9 (.string t) (some (.int .i64 (p : Int))) (some (.int .i64 ((p : Int) + (m : Int)))) none).run Tryd.prog w = .ok (.string (t.extract p (p + m))) w := by
  rw [run_slice_string _ _ _ _ _ _ _ Tryd.underlying9 (by omega) (by omega) (by omega), show ((p : Int) + (m : Int)).toNat = p + m by omega, Int.toNat_natCast]
/-- The ways of getTextR. -/
theorem getTextR_cases (t : ByteArray) (a : Int) :
    ((getNumR t a).2.2 ≠ 0 ∧ getTextR t a = (ByteArray.empty, 0, (getNumR t a).2.2)) ∨
    ∃ (n : Int) (p : Nat), getNumR t a = (n, (p : Int), 0) ∧ t.size ≤ 8000 ∧ p ≤ t.size ∧ -9223372036854775808 ≤ n ∧ n ≤ 9223372036854775807 ∧
      (((n < 0 ∨ 8000 < n) ∧ getTextR t a = (ByteArray.empty, 0, 3)) ∨
       (0 ≤ n ∧ n ≤ 8000 ∧ (t.size : Int) < p + n ∧ getTextR t a = (ByteArray.empty, 0, 4)) ∨
       ∃ m : Nat, n = m ∧ m ≤ 8000 ∧ p + m ≤ t.size ∧ getTextR t a = (t.extract p (p + m), (p : Int) + m, 0)) := by
  by_cases h : (getNumR t a).2.2 = 0
  · right
    obtain ⟨h8, p, hp, hpt, hn0, hn1⟩ := getNumR_ok t a h
    refine ⟨(getNumR t a).1, p, ?_, h8, hpt, hn0, hn1, ?_⟩
    · rw [← hp, ← h]
    · unfold getTextR
      rw [if_neg (by simp [h]), hp]
      generalize (getNumR t a).1 = n at *
      by_cases h1 : n < 0 ∨ 8000 < n
      · left; exact ⟨h1, by rw [if_pos h1]⟩
      · right
        rw [if_neg h1]
        by_cases h2 : (t.size : Int) - n < p
        · left; exact ⟨by omega, by omega, by omega, by rw [if_pos h2]⟩
        · right
          obtain ⟨m, rfl⟩ := Int.eq_ofNat_of_zero_le (show 0 ≤ n by omega)
          exact ⟨m, rfl, by omega, by omega, by rw [if_neg h2, show ((p : Int) + (m : Int)).toNat = p + m by omega, Int.toNat_natCast]⟩
  · left
    refine ⟨h, ?_⟩
    unfold getTextR
    rw [if_pos h]
def textV (R : ByteArray × Int × Int) : Value := .agg #[.string R.1, .int .i64 R.2.1, .int .i64 R.2.2]
theorem textV_eq {R : ByteArray × Int × Int} {x : ByteArray} {p c : Int} (h : R = (x, p, c)) : textV R = .agg #[.string x, .int .i64 p, .int .i64 c] := by rw [h]; rfl

end Go.Proofs.YtflgiohhkoplaadDoor
