/- DgramRead: what it answers. -/
import Derived.Test.YtchgnjpbjnkdmaaDgS
namespace Go.Proofs.Ytchgnjpbjnkdmaa
open Go.RowKit

def dOut (s d sp dp ttl : Int) (t : ByteArray) (c : Int) : Value := .agg #[.int .i64 s, .int .i64 d, .int .i64 sp, .int .i64 dp, .int .i64 ttl, .string t, .int .i64 c]
def cutL (l : List UInt8) (a b : Nat) : List UInt8 := (l.take b).drop a
theorem cutL_length (l : List UInt8) (a b : Nat) (h : b ≤ l.length) : (cutL l a b).length = b - a := by simp [cutL]; omega
def numAt (t : ByteArray) (a b : Nat) : Nat := numL (cutL t.data.toList a b)
def dtD (t : ByteArray) : ByteArray := t.extract 28 t.size
def dgOf (t : ByteArray) : ByteArray := dgO (numAt t 12 16) (numAt t 16 20) (numAt t 20 22) (numAt t 22 24) (numAt t 8 9) (dtD t)
/-- A text's code, where its fields make the text r. -/
def whyN (t r : ByteArray) : Int := if r ≠ ByteArray.empty ∧ bareL t.data.toList = bareL r.data.toList then 5 else 3
def dgRead (t : ByteArray) : Value :=
  if 8000 < t.size then dOut 0 0 0 0 0 ByteArray.empty 2
  else if t.size < 28 then dOut 0 0 0 0 0 ByteArray.empty 4
  else if dgOf t = t then dOut (numAt t 12 16) (numAt t 16 20) (numAt t 20 22) (numAt t 22 24) (numAt t 8 9) (dtD t) 0 else dOut 0 0 0 0 0 ByteArray.empty (whyN t (dgOf t))
theorem dgRead_out (t : ByteArray) (h : 8000 < t.size) : dgRead t = dOut 0 0 0 0 0 ByteArray.empty 2 := if_pos h
theorem dgRead_short (t : ByteArray) (h : t.size < 28) : dgRead t = dOut 0 0 0 0 0 ByteArray.empty 4 := by unfold dgRead; rw [if_neg (by omega), if_pos h]
theorem dgRead_good (t : ByteArray) (h : 28 ≤ t.size) (h8 : t.size ≤ 8000) (he : dgOf t = t) : dgRead t = dOut (numAt t 12 16) (numAt t 16 20) (numAt t 20 22) (numAt t 22 24) (numAt t 8 9) (dtD t) 0 := by
  unfold dgRead; rw [if_neg (by omega), if_neg (by omega), if_pos he]
theorem dgRead_bad (t : ByteArray) (h : 28 ≤ t.size) (h8 : t.size ≤ 8000) (he : ¬ dgOf t = t) : dgRead t = dOut 0 0 0 0 0 ByteArray.empty (whyN t (dgOf t)) := by
  unfold dgRead; rw [if_neg (by omega), if_neg (by omega), if_neg he]
theorem dgRead_form (t : ByteArray) : ∃ s d sp dp ttl x c, dgRead t = dOut s d sp dp ttl x c := by
  unfold dgRead
  split
  · exact ⟨_, _, _, _, _, _, _, rfl⟩
  · split
    · exact ⟨_, _, _, _, _, _, _, rfl⟩
    · split <;> exact ⟨_, _, _, _, _, _, _, rfl⟩
theorem dgOf_size (t : ByteArray) : dgOf t = ByteArray.empty ∨ 28 ≤ (dgOf t).size ∧ (dgOf t).size ≤ 328 := by
  unfold dgOf dgO
  split
  · rename_i h
    right
    rw [dgT_size]
    have := (dgB_spec h).2.2.2.2.2
    omega
  · exact .inl rfl
theorem cutL_extract (t : ByteArray) (a b : Nat) : (t.extract a b).data.toList = cutL t.data.toList a b := by
  simp [cutL, ByteArray.extract, ByteArray.copySlice, List.drop_take]
theorem numAt_one (t : ByteArray) (h : 28 ≤ t.size) : (numAt t 8 9 : Nat) = (t[8]'(by omega)).toNat := by
  have hl : t.data.toList.length = t.size := by simp
  have e : cutL t.data.toList 8 9 = [t[8]'(by omega)] := by
    unfold cutL
    rw [List.take_succ_eq_append_getElem (by omega), List.drop_append_of_le_length (by simp; omega), List.drop_eq_nil_of_le (by rw [List.length_take]; omega)]
    rfl
  unfold numAt
  rw [e]
  simp [numL]
theorem bareT_iff (t r : ByteArray) (ht : 28 ≤ t.size) (hr : 28 ≤ r.size) : bareZ t.data.toList = bareZ r.data.toList ↔ bareL t.data.toList = bareL r.data.toList :=
  bare_iff _ _ (by simpa using ht) (by simpa using hr)
end Go.Proofs.Ytchgnjpbjnkdmaa
