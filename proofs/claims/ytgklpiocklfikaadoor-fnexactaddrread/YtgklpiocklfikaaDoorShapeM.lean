/- What the world's shape gives a walk: the library's variable MaxLen holds some number. -/
import Derived.Test.YtgklpiocklfikaaDoorAddrOf
import Derived.Test.YtgklpiocklfikaaDoorShape
namespace Go.Proofs.YtgklpiocklfikaaDoor
open Go.RowKit

theorem maxI_of {W : World} (h : W.ShapedOpen Tryd.prog) : MaxI W := Tryd.laysM145.s1_3 W h
end Go.Proofs.YtgklpiocklfikaaDoor
