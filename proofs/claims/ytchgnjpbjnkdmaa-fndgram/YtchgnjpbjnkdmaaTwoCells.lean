/- Two cells in a block. -/
import Derived.Test.YtchgnjpbjnkdmaaBaseB
namespace Go.Proofs.Ytchgnjpbjnkdmaa
open Go.RowKit

/-- Two cells in a block. -/
def TwoAt (w : World) (b : Nat) (x y : Value) : Prop := w.cell? ⟨b, 0, none⟩ = some x ∧ w.cell? ⟨b, 1, none⟩ = some y
theorem TwoAt.new (w : World) (x y : Value) (t : TypeId) : TwoAt (w.alloc (.cells #[x, y] t)) w.heap.size x y :=
  ⟨by rw [cell_of_row _ _ _ _ t _ (heap_alloc_new w _)]; simp, by rw [cell_of_row _ _ _ _ t _ (heap_alloc_new w _)]; simp⟩
theorem TwoAt.below {w w' : World} {b : Nat} {x y : Value} (h : TwoAt w b x y) (hb : Below w.heap.size w w') : TwoAt w' b x y :=
  ⟨by rw [hb.cell (p := ⟨b, 0, none⟩) (World.block_lt_of_cell? w _ h.1)]; exact h.1, by rw [hb.cell (p := ⟨b, 1, none⟩) (World.block_lt_of_cell? w _ h.2)]; exact h.2⟩
theorem new_below (w : World) (o : Obj) : Below w.heap.size w (w.alloc o) := (Below.refl _ _).alloc (Nat.le_refl _) _
end Go.Proofs.Ytchgnjpbjnkdmaa
