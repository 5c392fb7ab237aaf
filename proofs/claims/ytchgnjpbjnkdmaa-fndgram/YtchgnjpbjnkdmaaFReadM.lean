/- FrameRead: what it answers. -/
import Derived.Test.YtchgnjpbjnkdmaaFrameS
namespace Go.Proofs.Ytchgnjpbjnkdmaa
open Go.RowKit

def frOut (v : Int) (t : ByteArray) (c : Int) : Value := .agg #[.int .i64 v, .string t, .int .i64 c]
def vlN (t : ByteArray) : Nat := numL ((t.data.toList.take 16).drop 14)
def dtF (t : ByteArray) : ByteArray := t.extract 18 t.size
def frRead (t : ByteArray) : Value :=
  if 8000 < t.size then frOut 0 ByteArray.empty 2
  else if t.size < 18 then frOut 0 ByteArray.empty 4
  else if frO (vlN t) (dtF t) = t then frOut (vlN t) (dtF t) 0 else frOut 0 ByteArray.empty 3
theorem frRead_out (t : ByteArray) (h : 8000 < t.size) : frRead t = frOut 0 ByteArray.empty 2 := if_pos h
theorem frRead_short (t : ByteArray) (h : t.size < 18) : frRead t = frOut 0 ByteArray.empty 4 := by unfold frRead; rw [if_neg (by omega), if_pos h]
theorem frRead_good (t : ByteArray) (h : 18 ≤ t.size) (h8 : t.size ≤ 8000) (he : frO (vlN t) (dtF t) = t) : frRead t = frOut (vlN t) (dtF t) 0 := by
  unfold frRead; rw [if_neg (by omega), if_neg (by omega), if_pos he]
theorem frRead_bad (t : ByteArray) (h : 18 ≤ t.size) (h8 : t.size ≤ 8000) (he : ¬ frO (vlN t) (dtF t) = t) : frRead t = frOut 0 ByteArray.empty 3 := by
  unfold frRead; rw [if_neg (by omega), if_neg (by omega), if_neg he]
theorem frRead_form (t : ByteArray) : ∃ v d c, frRead t = frOut v d c := by
  unfold frRead
  split
  · exact ⟨_, _, _, rfl⟩
  · split
    · exact ⟨_, _, _, rfl⟩
    · split <;> exact ⟨_, _, _, rfl⟩
theorem extract_list (t : ByteArray) (a b : Nat) : (t.extract a b).data.toList = (t.data.toList.take b).drop a := by
  simp [ByteArray.extract, ByteArray.copySlice, List.drop_take]
theorem slice_to (t : ByteArray) (a b : Nat) (x y : Int) (hx : x = a) (hy : y = b) (hab : a ≤ b) (hb : b ≤ t.size) (w : World) : (Instr.slice 9 (.string t) (some (.int .i64 x)) (some (.int .i64 y)) none).run Try.prog w = .ok (.string (t.extract a b)) w := by
  rw [run_slice_string _ _ _ _ _ _ _ Try.underlying9 (by omega) (by omega) (by omega), hx, hy]; rfl
theorem slice_on (t : ByteArray) (i : Int) (n : Nat) (hi : i = n) (hn : n ≤ t.size) (w : World) : (Instr.slice 9 (.string t) (some (.int .i64 i)) none none).run Try.prog w = .ok (.string (t.extract n t.size)) w := by
  rw [run_slice_string_from_if _ _ _ _ _ Try.underlying9, if_pos (by omega), hi]; rfl
end Go.Proofs.Ytchgnjpbjnkdmaa
