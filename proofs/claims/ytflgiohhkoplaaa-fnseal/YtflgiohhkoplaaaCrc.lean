/- Crc, of the model and of the program. -/
import Derived.Test.YtflgiohhkoplaaaCrcS
import Derived.Test.YtflgiohhkoplaaaCrcImpl
namespace Go.Proofs.Ytflgiohhkoplaaa
open Go.RowKit

theorem specCrc_any (t : ByteArray) (w : World) (hz : t.size ≤ 1048576) :
    Calls Try.prog 22 #[.string t] w fun e w' => e = .returned (.int .i64 (crcMoreB 0 t)) ∧ w = w' := by
  by_cases h1 : t.size ≤ 8000
  · have HB : Hid (crcMoreB 0 t = (crcOf 0 t.data.toList : Nat)) := by show _ = _; unfold crcMoreB; rw [if_pos ⟨h1, by omega, by omega⟩]; rfl
    have HC : Hid (∀ w, Calls Try.prog 20 #[.int .i64 0, .string t] w fun e w' => e = .returned (.int .i64 (crcOf 0 t.data.toList : Nat)) ∧ w = w') := fun w => specCrc_in 0 t w h1 (by omega)
    go_enter Try.func22, Try.ntmps22
    go_wp2_with fail
    refine (HC.out _).mono ?_
    rintro e w1 ⟨rfl, rfl⟩
    go_wp2
    go_ret
    exact ⟨ret_i64 HB.out.symm, rfl⟩
  · have HB : Hid (crcMoreB 0 t = 0) := by show _ = _; unfold crcMoreB; rw [if_neg (by omega)]
    go_enter Try.func22, Try.ntmps22
    go_wp2
    go_ret
    exact ⟨ret_i64 HB.out.symm, rfl⟩
end Go.Proofs.Ytflgiohhkoplaaa
