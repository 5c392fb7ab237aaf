/- What the world's shape gives a walk: the library's variable MaxLen holds some number. -/
import Derived.Test.YtchgnjpbjnkdmaaDoorAddrOf
import Derived.Test.YtchgnjpbjnkdmaaDoorShape
namespace Go.Proofs.YtchgnjpbjnkdmaaDoor
open Go.RowKit

theorem maxI_of {W : World} (h : W.ShapedOpen Tryd.prog) : MaxI W := Tryd.laysM145.s1_3 W h
end Go.Proofs.YtchgnjpbjnkdmaaDoor
