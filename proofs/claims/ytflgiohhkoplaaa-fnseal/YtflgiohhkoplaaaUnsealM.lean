/- Unseal: what it answers. -/
import Derived.Test.YtflgiohhkoplaaaFour
namespace Go.Proofs.Ytflgiohhkoplaaa
open Go.RowKit

/-- A TextOut as a value. -/
def textOut (t : ByteArray) (a c : Int) : Value := .agg #[.string t, .int .i64 a, .int .i64 c]
def bodyT (t : ByteArray) : ByteArray := t.extract 0 (t.size - 4)
def tailT (t : ByteArray) : ByteArray := t.extract (t.size - 4) t.size
def unsealV (t : ByteArray) : Value :=
  if 8000 < t.size then textOut ByteArray.empty 0 2
  else if t.size < 4 then textOut ByteArray.empty 0 4
  else if sealT (bodyT t) = t then textOut (bodyT t) 0 0 else textOut ByteArray.empty 0 5

theorem body_tail (t : ByteArray) : bodyT t ++ tailT t = t := by
  unfold bodyT tailT
  rw [ByteArray.extract_append_extract]
  simp
theorem bodyT_size (t : ByteArray) : (bodyT t).size = t.size - 4 := by unfold bodyT; simp
theorem seal_iff (t : ByteArray) (h8 : t.size ≤ 8000) : sealT (bodyT t) = t ↔ fourT (crcT (bodyT t)) = tailT t := by
  rw [sealT_in _ (by rw [bodyT_size]; omega)]
  constructor
  · intro e
    have e2 := (body_tail t).trans e.symm
    have e3 := congrArg (fun x : ByteArray => x.data.toList) e2
    simp only [ByteArray.data_append, Array.toList_append] at e3
    have e4 := List.append_cancel_left e3
    exact (ByteArray.ext (Array.toList_inj.1 e4)).symm
  · intro e
    rw [e, body_tail t]

theorem slice_from (t : ByteArray) (i : Int) (n : Nat) (hi : i = n) (hn : n ≤ t.size) (w : World) : (Instr.slice 9 (.string t) (some (.int .i64 i)) none none).run Try.prog w = .ok (.string (t.extract n t.size)) w := by
  rw [run_slice_string_from_if _ _ _ _ _ Try.underlying9, if_pos (by omega), hi]; rfl

theorem unsealV_out (t : ByteArray) (h : 8000 < t.size) : unsealV t = textOut ByteArray.empty 0 2 := by simp [unsealV, h]
theorem unsealV_short (t : ByteArray) (h : t.size < 4) : unsealV t = textOut ByteArray.empty 0 4 := by unfold unsealV; rw [if_neg (by omega), if_pos h]
theorem unsealV_good (t : ByteArray) (h : 4 ≤ t.size) (h8 : t.size ≤ 8000) (he : sealT (bodyT t) = t) : unsealV t = textOut (t.extract 0 (t.size - 4)) 0 0 := by
  unfold unsealV; rw [if_neg (by omega), if_neg (by omega), if_pos he]; rfl
theorem unsealV_bad (t : ByteArray) (h : 4 ≤ t.size) (h8 : t.size ≤ 8000) (he : ¬ sealT (bodyT t) = t) : unsealV t = textOut ByteArray.empty 0 5 := by
  unfold unsealV; rw [if_neg (by omega), if_neg (by omega), if_neg he]

end Go.Proofs.Ytflgiohhkoplaaa
