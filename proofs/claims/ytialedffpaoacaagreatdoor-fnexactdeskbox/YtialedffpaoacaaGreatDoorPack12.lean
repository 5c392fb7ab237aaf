/- Texts that stand on each other, in one file: ShapeB. -/
import Derived.Test.YtialedffpaoacaaGreatDoorPack9
import Derived.Handed
import Derived.HandedShaped
import Derived.LaidLaws
/- For the frames of laws whose rows list tables of the library: the witness's tables. (Split from Shape.) -/
namespace Go.Proofs.YtialedffpaoacaaGreatDoor
open Go.RowKit

def leaf0 : DataW Unit → List Value
  | .lit (.int k n) => [.int k n]
  | _ => []
def leaf1 : DataW Unit → List Value
  | .lit (.int k n) => [.int k n]
  | .agg ys => ys.flatMap leaf0
  | _ => []
def flatW : DataW Unit → List Value
  | .agg xs => xs.flatMap leaf1
  | _ => []
def layW (d : DataW Unit) : Obj → Obj
  | .cells _ t fz => .cells (flatW d).toArray t fz
  | o => o
end Go.Proofs.YtialedffpaoacaaGreatDoor
