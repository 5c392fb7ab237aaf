/- Crc of the program. -/
import Derived.Test.YtflgiohhkoplaaaCrcI
namespace Go.Proofs.Ytflgiohhkoplaaa
open Go.RowKit

theorem implCrc_any (t : ByteArray) (w : World) (hz : t.size ≤ 1048576) :
    Calls Try.prog 12 #[.string t] w fun e w' => e = .returned (.int .i64 (crcMoreB 0 t)) ∧ w = w' := by
  go_enter Try.func12, Try.ntmps12
  go_wp2_with fail
  refine (implCrcMore_any 0 t _ hz (by omega) (by omega)).mono ?_
  rintro e w1 ⟨rfl, rfl⟩
  go_wp2
  go_ret
  exact ⟨rfl, rfl⟩
end Go.Proofs.Ytflgiohhkoplaaa
