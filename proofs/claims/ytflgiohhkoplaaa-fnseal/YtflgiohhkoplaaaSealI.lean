/- Seal of the program. -/
import Derived.Test.YtflgiohhkoplaaaFour
namespace Go.Proofs.Ytflgiohhkoplaaa
open Go.RowKit

set_option maxRecDepth 100000 in
theorem implSeal_any (t : ByteArray) (w : World) (hz : t.size ≤ 1048576) :
    Calls Try.prog 5 #[.string t] w fun e w' => e = .returned (.string (sealT t)) ∧ Below w.heap.size w w' := by
  by_cases h : t.size ≤ 7996
  · have HS : Hid (sealT t = t ++ fourT (crcT t)) := sealT_in t h
    have hf := fourT_size (crcT t)
    have HF : Hid (∀ w, Calls Try.prog 18 #[.string t] w fun e w' => e = .returned (.string (fourT (crcT t))) ∧ Below w.heap.size w w') := fun w => implCrcBytes_any t w (by omega)
    generalize fourT (crcT t) = F at *
    go_enter Try.func5, Try.ntmps5
    go_wp2_with fail
    refine (HF.out _).mono ?_
    rintro e w1 ⟨rfl, hb⟩
    go_wp2_with fail
    refine (joined_any t F _ (by omega) (by omega)).mono ?_
    rintro e w2 ⟨rfl, hb2⟩
    go_wp2
    go_ret
    exact ⟨by rw [HS.out]; rfl, hb.trans (hb2.mono hb.size)⟩
  · have HS : Hid (sealT t = ByteArray.empty) := sealT_out t h
    go_enter Try.func5, Try.ntmps5
    go_wp2
    go_ret
    exact ⟨by rw [HS.out]; rfl, Below.refl _ _⟩
end Go.Proofs.Ytflgiohhkoplaaa
