/- What the world's shape gives a walk: the library's variable MaxLen holds some number. -/
import Derived.Test.YtgklpiocklfikabDoorAddrOf
import Derived.Test.YtgklpiocklfikabDoorShape
namespace Go.Proofs.YtgklpiocklfikabDoor
open Go.RowKit

theorem maxI_of {W : World} (h : W.ShapedOpen Tryd.prog) : MaxI W := Tryd.laysM145.s1_3 W h
end Go.Proofs.YtgklpiocklfikabDoor
