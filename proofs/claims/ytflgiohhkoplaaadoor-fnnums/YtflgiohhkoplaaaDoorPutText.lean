/- PutText, of the model and of the program. -/
import Derived.Test.YtflgiohhkoplaaaDoorPutNum
import Derived.Test.YtflgiohhkoplaaaDoorJoined
namespace Go.Proofs.YtflgiohhkoplaaaDoor
open Go.RowKit

/-- The bytes of a text, its length ahead. -/
def putTextB (t : ByteArray) : ByteArray := if t.size ≤ 8000 then (⟨(putNumB t.size).toArray⟩ : ByteArray) ++ t else ByteArray.empty
theorem putNumB_size (n : Int) : (⟨(putNumB n).toArray⟩ : ByteArray).size ≤ 10 ∧ 1 ≤ (⟨(putNumB n).toArray⟩ : ByteArray).size := by
  have h := numB_length 9 (foldN n)
  have e : (⟨(putNumB n).toArray⟩ : ByteArray).size = (putNumB n).length := by simp [ByteArray.size]
  rw [e]; exact ⟨h.1, h.2⟩

theorem specPutText_any (t : ByteArray) (w : World) (ht : t.size ≤ 1048576) :
    Calls Tryd.prog 10 #[.string t] w fun e w' => e = .returned (.string (putTextB t)) ∧ Below w.heap.size w w' := by
  by_cases h : t.size ≤ 8000
  · have HP : Hid (putTextB t = (⟨(putNumB t.size).toArray⟩ : ByteArray) ++ t) := by show _ = _; simp [putTextB, h]
    have hz := putNumB_size t.size
    have HC := fun w => specPutNum_any t.size w (by omega) (by omega)
    generalize (⟨(putNumB t.size).toArray⟩ : ByteArray) = p at *
    go_enter Tryd.func10, Tryd.ntmps10
    go_wp2_with fail
    refine (HC _).mono ?_
    rintro e w1 ⟨rfl, hb1⟩
    go_wp2
    go_ret
    exact ⟨by rw [HP.out]; rfl, hb1⟩
  · have HP : Hid (putTextB t = ByteArray.empty) := by show _ = _; simp [putTextB, h]
    go_enter Tryd.func10, Tryd.ntmps10
    go_wp2
    go_ret
    exact ⟨by rw [HP.out]; rfl, Below.refl _ _⟩

theorem implPutText_any (t : ByteArray) (w : World) (ht : t.size ≤ 1048576) :
    Calls Tryd.prog 9 #[.string t] w fun e w' => e = .returned (.string (putTextB t)) ∧ Below w.heap.size w w' := by
  by_cases h : t.size ≤ 8000
  · have HP : Hid (putTextB t = (⟨(putNumB t.size).toArray⟩ : ByteArray) ++ t) := by show _ = _; simp [putTextB, h]
    have hz := putNumB_size t.size
    have HC := fun w => implPutNum_any t.size w (by omega) (by omega)
    generalize (⟨(putNumB t.size).toArray⟩ : ByteArray) = p at *
    go_enter Tryd.func9, Tryd.ntmps9
    go_wp2_with fail
    refine (HC _).mono ?_
    rintro e w1 ⟨rfl, hb1⟩
    go_wp2_with fail
    refine (joined_any p t _ (by omega) (by omega)).mono ?_
    rintro e w2 ⟨rfl, hb2⟩
    go_wp2
    go_ret
    exact ⟨by rw [HP.out]; rfl, hb1.trans (hb2.mono hb1.size)⟩
  · have HP : Hid (putTextB t = ByteArray.empty) := by show _ = _; simp [putTextB, h]
    go_enter Tryd.func9, Tryd.ntmps9
    go_wp2
    go_ret
    exact ⟨by rw [HP.out]; rfl, Below.refl _ _⟩
end Go.Proofs.YtflgiohhkoplaaaDoor
