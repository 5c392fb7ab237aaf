/- Texts that stand on each other, in one file: RowV. -/
import Derived.Test.YtialedffpaoacaaGreatDoorPack5
import Derived.Deep.RegionHeld3
import Derived.Deep.QuietTactic
import Derived.BigRegion
/- Rows of one-cell values that a call makes itself. -/
namespace Go.Proofs.YtialedffpaoacaaGreatDoor
open Go.RowKit

/-- Block g holds just the cells l, of type t, none of them frozen. -/
def Row (w : World) (g : Nat) (t : TypeId) (l : List Value) : Prop := w.heap[g]? = some (.cells l.toArray t (0, 0))
theorem Row.lt {w : World} {g : Nat} {t : TypeId} {l : List Value} (h : Row w g t l) : g < w.heap.size := (Array.getElem?_eq_some_iff.1 h).1
theorem Row.cell {w : World} {g : Nat} {t : TypeId} {l : List Value} (h : Row w g t l) (k : Nat) : w.cell? ⟨g, k, none⟩ = l[k]? := by
  rw [cell_of_row w g k _ t _ h]; simp
theorem Row.frozen {w : World} {g : Nat} {t : TypeId} {l : List Value} (h : Row w g t l) (k : Nat) : w.frozen? ⟨g, k, none⟩ = false := by
  unfold World.frozen?
  have h' : w.heap[g]? = some (.cells l.toArray t (0, 0)) := h
  simp [h']
theorem Row.set {w : World} {g : Nat} {t : TypeId} {l : List Value} (h : Row w g t l) (k : Nat) (v : Value) : Row (w.setCell ⟨g, k, none⟩ v) g t (l.set k v) := by
  unfold Row World.setCell
  have h' : w.heap[g]? = some (.cells l.toArray t (0, 0)) := h
  simp [h', Array.getElem?_modify]
theorem Row.other {w : World} {g g' : Nat} {t : TypeId} {l : List Value} (h : Row w g t l) (k : Nat) (v : Value) (hne : g ≠ g') : Row (w.setCell ⟨g', k, none⟩ v) g t l := by
  unfold Row
  rw [Below.heap_setCell w _ v g hne]
  exact h
theorem Row.drewN {w : World} {g : Nat} {t : TypeId} {l : List Value} (h : Row w g t l) (n : Nat) : Row (w.drewN n) g t l := h
theorem Row.below {B : Nat} {w w' : World} {g : Nat} {t : TypeId} {l : List Value} (h : Row w g t l) (hb : Below B w w') (hg : g < B) : Row w' g t l := by
  unfold Row
  rw [hb.block g hg]
  exact h
theorem Row.alloc {w : World} {g : Nat} {t : TypeId} {l : List Value} (h : Row w g t l) (o : Obj) : Row (w.alloc o) g t l := by
  unfold Row
  rw [Below.heap_alloc w o g h.lt]
  exact h
theorem Row.new (w : World) (t : TypeId) (l : List Value) : Row (w.alloc (.cells l.toArray t (0, 0))) w.heap.size t l := heap_alloc_new w _

theorem Row.put {w : World} {g : Nat} {t : TypeId} {l : List Value} (h : Row w g t l) (l' : List Value) : Row (w.setRow g l'.toArray) g t l' := setRow_heap w g _ _ t _ h
theorem Row.putOther {w : World} {g g' : Nat} {t : TypeId} {l : List Value} (h : Row w g t l) (cs : Array Value) (hne : g ≠ g') : Row (w.setRow g' cs) g t l := by
  unfold Row World.setRow
  have h' : w.heap[g]? = some (.cells l.toArray t (0, 0)) := h
  simp only [Array.getElem?_modify]
  rw [if_neg (Ne.symm hne)]
  exact h'
end Go.Proofs.YtialedffpaoacaaGreatDoor
