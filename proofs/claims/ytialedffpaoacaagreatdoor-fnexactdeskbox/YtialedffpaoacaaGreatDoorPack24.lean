/- Texts that stand on each other, in one file: ShapeN. -/
import Derived.Test.YtialedffpaoacaaGreatDoorPack18
import Derived.Test.YtialedffpaoacaaGreatDoorPack12
/- What the world's shape gives a walk: the library's variable MaxLen holds some number (where the road passes strings.SplitN alone). -/
namespace Go.Proofs.YtialedffpaoacaaGreatDoor
open Go.RowKit

theorem maxI_of {W : World} (h : W.ShapedOpen Tryz.prog) : MaxI W := Tryz.laysM147.s1_3 W h
end Go.Proofs.YtialedffpaoacaaGreatDoor
