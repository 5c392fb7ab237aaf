/- Texts that stand on each other, in one file: LaidKeys. -/
import Derived.Test.YtialedffpaoacaaGreatDoorWithBlock
import Derived.Lib.LaidTab
/- What the row's list gives a walk: the table of the rounds' keys, cell by cell. -/
namespace Go.Proofs.YtialedffpaoacaaGreatDoor
open Go.RowKit

theorem keys_type : (Tryz.prog.globals[0]?).map (·.type) = some 264 := by kernel_rfl
theorem laid_keys {W : World} {name : String} {rest : List (String × DataW Unit)} (hg : Tryz.prog.globalNamed name = some 0) (h : laidMet Tryz.prog ((name, Lib.tabData .u32 (keysN.map fun (x : Nat) => (x : Int))) :: rest) W) : Laid W := by
  have hT := Lib.tabIs_of_head hg keys_type Tryz.underlying264 Tryz.underlying239 (by kernel_rfl) (by kernel_rfl) h
  intro i hi
  have hc := hT.cell hg i (by simpa [keysN_length] using hi)
  rw [hc]
  have hlt : i < keysN.length := by rw [keysN_length]; exact hi
  simp [hlt]
end Go.Proofs.YtialedffpaoacaaGreatDoor
