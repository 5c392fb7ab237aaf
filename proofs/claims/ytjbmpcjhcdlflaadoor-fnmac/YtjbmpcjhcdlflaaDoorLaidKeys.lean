/- What the row's list gives a walk: the table of the rounds' keys, cell by cell. -/
import Derived.Test.YtjbmpcjhcdlflaaDoorWithBlock
import Derived.Lib.LaidTab
namespace Go.Proofs.YtjbmpcjhcdlflaaDoor
open Go.RowKit

theorem keys_type : (Tryd.prog.globals[0]?).map (·.type) = some 54 := by kernel_rfl
theorem laid_keys {W : World} {name : String} {rest : List (String × DataW Unit)} (hg : Tryd.prog.globalNamed name = some 0) (h : laidMet Tryd.prog ((name, Lib.tabData .u32 (keysN.map fun (x : Nat) => (x : Int))) :: rest) W) : Laid W := by
  have hT := Lib.tabIs_of_head hg keys_type Tryd.underlying54 Tryd.underlying48 (by kernel_rfl) (by kernel_rfl) h
  intro i hi
  have hc := hT.cell hg i (by simpa [keysN_length] using hi)
  rw [hc]
  have hlt : i < keysN.length := by rw [keysN_length]; exact hi
  simp [hlt]
end Go.Proofs.YtjbmpcjhcdlflaaDoor
