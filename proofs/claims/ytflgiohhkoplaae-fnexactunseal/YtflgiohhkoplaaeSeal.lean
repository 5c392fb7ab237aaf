/- Seal, of the model and of the program. -/
import Derived.Test.YtflgiohhkoplaaeFour
namespace Go.Proofs.Ytflgiohhkoplaae
open Go.RowKit

set_option maxRecDepth 100000 in
theorem specSeal_any (t : ByteArray) (w : World) (hz : t.size ≤ 1048576) :
    Calls Try.prog 8 #[.string t] w fun e w' => e = .returned (.string (sealT t)) ∧ Below w.heap.size w w' := by
  by_cases h : t.size ≤ 7996
  · have HS : Hid (sealT t = t ++ fourT (crcT t)) := sealT_in t h
    have hf := fourT_size (crcT t)
    have HF : Hid (∀ w, Calls Try.prog 15 #[.int .i64 (crcT t)] w fun e w' => e = .returned (.string (fourT (crcT t))) ∧ Below w.heap.size w w') := fun w => specFour_any (crcT t) w (crcT_lt t)
    generalize fourT (crcT t) = F at *
    go_enter Try.func8, Try.ntmps8
    go_wp2_with fail
    refine (specCrc_zero t _ (by omega)).mono ?_
    rintro e w1 ⟨rfl, rfl⟩
    go_wp2_with fail
    refine (HF.out _).mono ?_
    rintro e w1 ⟨rfl, hb⟩
    go_wp2
    go_ret
    exact ⟨by rw [HS.out]; rfl, hb⟩
  · have HS : Hid (sealT t = ByteArray.empty) := sealT_out t h
    go_enter Try.func8, Try.ntmps8
    go_wp2
    go_ret
    exact ⟨by rw [HS.out]; rfl, Below.refl _ _⟩

set_option maxRecDepth 100000 in
theorem implSeal_any (t : ByteArray) (w : World) (hz : t.size ≤ 1048576) :
    Calls Try.prog 9 #[.string t] w fun e w' => e = .returned (.string (sealT t)) ∧ Below w.heap.size w w' := by
  by_cases h : t.size ≤ 7996
  · have HS : Hid (sealT t = t ++ fourT (crcT t)) := sealT_in t h
    have hf := fourT_size (crcT t)
    have HF : Hid (∀ w, Calls Try.prog 17 #[.string t] w fun e w' => e = .returned (.string (fourT (crcT t))) ∧ Below w.heap.size w w') := fun w => implCrcBytes_any t w (by omega)
    generalize fourT (crcT t) = F at *
    go_enter Try.func9, Try.ntmps9
    go_wp2_with fail
    refine (HF.out _).mono ?_
    rintro e w1 ⟨rfl, hb⟩
    go_wp2_with fail
    refine (joined_any t F _ (by omega) (by omega)).mono ?_
    rintro e w2 ⟨rfl, hb2⟩
    go_wp2
    go_ret
    exact ⟨by rw [HS.out]; rfl, hb.trans (hb2.mono hb.size)⟩
  · have HS : Hid (sealT t = ByteArray.empty) := sealT_out t h
    go_enter Try.func9, Try.ntmps9
    go_wp2
    go_ret
    exact ⟨by rw [HS.out]; rfl, Below.refl _ _⟩
end Go.Proofs.Ytflgiohhkoplaae
