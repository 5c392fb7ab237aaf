/- Texts that stand on each other, in one file: LibCallsB. -/
import Derived.Test.YtialedffpaoacaaGreatDoorShelf
import Derived.Test.YtialedffpaoacaaGreatDoorPack5
import Derived.Lib.SmallJoins
/- The calls into the library: what all of them need. (Split from LibCalls.) -/
namespace Go.Proofs.YtialedffpaoacaaGreatDoor
open Go.RowKit Go.Sort

theorem var_same {P : Program} {w : World} {n m : String} {g : Nat} (hn : P.globalNamed n = some g) (hm : P.globalNamed m = some g) : w.var? P n = w.var? P m := by
  unfold World.var?; rw [hn, hm]
theorem grow_below (w : World) (k : Nat) (os : Array Obj) : Below w.heap.size w (grow (w.drewN k) os) :=
  ⟨rfl, rfl, rfl, by simp [grow, World.drewN], fun j hj => by simp [grow, World.drewN, Array.getElem?_append, hj]⟩
end Go.Proofs.YtialedffpaoacaaGreatDoor
