/- Two nets handed in: their cells, later. -/
import Derived.Test.YtflmbkjnlgibnaaNetOf
namespace Go.Proofs.Ytflmbkjnlgibnaa
open Go.RowKit Go.Sort

theorem row_alloc_old {w : World} {b : Nat} {o : Obj} {o' : Obj} (h : w.heap[b]? = some o') : (w.alloc o).heap[b]? = some o' := by
  rw [Below.heap_alloc w o b (Array.getElem?_eq_some_iff.1 h).1]; exact h
theorem four_new (w : World) (x y u v : Value) (t s : TypeId) : ((w.alloc (.cells #[x, y] t)).alloc (.cells #[u, v] s)).cell? ⟨w.heap.size, 0, none⟩ = some x ∧ ((w.alloc (.cells #[x, y] t)).alloc (.cells #[u, v] s)).cell? ⟨w.heap.size, 1, none⟩ = some y ∧ ((w.alloc (.cells #[x, y] t)).alloc (.cells #[u, v] s)).cell? ⟨w.heap.size + 1, 0, none⟩ = some u ∧ ((w.alloc (.cells #[x, y] t)).alloc (.cells #[u, v] s)).cell? ⟨w.heap.size + 1, 1, none⟩ = some v := by
  have h1 := row_alloc_old (o := .cells #[u, v] s) (heap_alloc_new w (.cells #[x, y] t))
  have h2 := heap_alloc_new (w.alloc (.cells #[x, y] t)) (.cells #[u, v] s)
  rw [show (w.alloc (.cells #[x, y] t)).heap.size = w.heap.size + 1 by simp] at h2
  refine ⟨?_, ?_, ?_, ?_⟩
  · rw [cell_of_row _ _ _ _ t _ h1]; simp
  · rw [cell_of_row _ _ _ _ t _ h1]; simp
  · rw [cell_of_row _ _ _ _ s _ h2]; simp
  · rw [cell_of_row _ _ _ _ s _ h2]; simp
theorem four_later {w w1 : World} {x y u v : Value} {t s : TypeId} (h : Below ((w.alloc (.cells #[x, y] t)).alloc (.cells #[u, v] s)).heap.size ((w.alloc (.cells #[x, y] t)).alloc (.cells #[u, v] s)) w1) :
    w1.cell? ⟨w.heap.size, 0, none⟩ = some x ∧ w1.cell? ⟨w.heap.size, 1, none⟩ = some y ∧ w1.cell? ⟨w.heap.size + 1, 0, none⟩ = some u ∧ w1.cell? ⟨w.heap.size + 1, 1, none⟩ = some v ∧ w.heap.size + 1 < w1.heap.size ∧ Below w.heap.size w w1 := by
  obtain ⟨h1, h2, h3, h4⟩ := four_new w x y u v t s
  have hz : ((w.alloc (.cells #[x, y] t)).alloc (.cells #[u, v] s)).heap.size = w.heap.size + 2 := by simp
  refine ⟨?_, ?_, ?_, ?_, ?_, ?_⟩
  · rw [h.cell (p := ⟨w.heap.size, 0, none⟩) (by rw [hz]; simp)]; exact h1
  · rw [h.cell (p := ⟨w.heap.size, 1, none⟩) (by rw [hz]; simp)]; exact h2
  · rw [h.cell (p := ⟨w.heap.size + 1, 0, none⟩) (by rw [hz]; simp)]; exact h3
  · rw [h.cell (p := ⟨w.heap.size + 1, 1, none⟩) (by rw [hz]; simp)]; exact h4
  · have := h.size; omega
  · exact (((Below.refl _ _).alloc (Nat.le_refl _) _).alloc (by simp) _).trans (h.mono (by omega))
theorem four_more {w1 w2 : World} {b c : Nat} {x y u v : Value} (h0 : w1.cell? ⟨b, 0, none⟩ = some x) (h1 : w1.cell? ⟨b, 1, none⟩ = some y) (h2 : w1.cell? ⟨c, 0, none⟩ = some u) (h3 : w1.cell? ⟨c, 1, none⟩ = some v) (hb : Below w1.heap.size w1 w2) :
    w2.cell? ⟨b, 0, none⟩ = some x ∧ w2.cell? ⟨b, 1, none⟩ = some y ∧ w2.cell? ⟨c, 0, none⟩ = some u ∧ w2.cell? ⟨c, 1, none⟩ = some v :=
  ⟨by rw [hb.cell (p := ⟨b, 0, none⟩) (World.block_lt_of_cell? w1 _ h0)]; exact h0, by rw [hb.cell (p := ⟨b, 1, none⟩) (World.block_lt_of_cell? w1 _ h1)]; exact h1,
   by rw [hb.cell (p := ⟨c, 0, none⟩) (World.block_lt_of_cell? w1 _ h2)]; exact h2, by rw [hb.cell (p := ⟨c, 1, none⟩) (World.block_lt_of_cell? w1 _ h3)]; exact h3⟩
end Go.Proofs.Ytflmbkjnlgibnaa
