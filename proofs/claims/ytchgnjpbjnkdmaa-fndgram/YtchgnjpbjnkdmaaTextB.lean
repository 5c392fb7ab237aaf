/- '[]byte(t)' and 'string(b)', where the bytes are only read. -/
import Derived.Test.YtchgnjpbjnkdmaaPieces
namespace Go.Proofs.Ytchgnjpbjnkdmaa
open Go.RowKit

theorem text_bytes (w : World) (t : ByteArray) :
    ∃ g cap w', (convert 9 22 (.string t)).run Try.prog w = .ok (.slice (some ⟨g, 0, none⟩) t.size cap) w' ∧ t.size ≤ cap ∧ BytesIn w' g 0 t.data.toList ∧ w.heap.size ≤ g ∧ g < w'.heap.size ∧ Below w.heap.size w w' := by
  have hr := run_bytes_of_string (P := Try.prog) w 9 22 5 t Try.underlying9 Try.underlying22 Try.underlying5
  have hge := grownCap_ge w t.size 0 5
  refine ⟨_, _, _, hr, hge, ?_, Nat.le_refl _, ?_, ((Below.refl _ w).drew).alloc (Nat.le_refl _) _⟩
  · intro j hj
    rw [Nat.zero_add]
    rw [cell_of_row _ w.heap.size j _ 5 _ (heap_alloc_new w.drew _)]
    have hj2 : j < t.size := by simpa using hj
    have hj3 : j < t.data.size := hj2
    simp only [bytesRow, Array.getElem?_append, Array.size_map]
    rw [if_pos hj3, Array.getElem?_map, Array.getElem?_eq_getElem hj3]
    rfl
  · show w.heap.size < (w.heap.push _).size
    simp
theorem bytes_text (w : World) (g o cap : Nat) (l : List UInt8) (n : Nat) (hn : n = l.length) (h : BytesIn w g o l) :
    (convert 22 9 (.slice (some ⟨g, o, none⟩) n cap)).run Try.prog w = .ok (.string ⟨l.toArray⟩) w := by
  subst hn
  refine run_convert_bytes_back w 22 9 5 ⟨g, o, none⟩ cap l Try.underlying22 Try.underlying5 Try.underlying9 ?_
  intro j hj
  rw [show (⟨g, o, none⟩ : Addr).add j = ⟨g, o + j, none⟩ by unfold Addr.add; split <;> simp_all]
  exact h j hj
theorem box3' {w w0 w1 : World} {x y z : Value} {t : TypeId} (h0 : w0 = w.alloc (.cells #[x, y, z] t)) (h : Below w0.heap.size w0 w1) : w1.cell? ⟨w.heap.size, 0, none⟩ = some x ∧ w1.cell? ⟨w.heap.size, 1, none⟩ = some y ∧ w1.cell? ⟨w.heap.size, 2, none⟩ = some z := by
  subst h0
  have hr := heap_alloc_new w (.cells #[x, y, z] t)
  refine ⟨?_, ?_, ?_⟩
  · rw [h.cell (p := ⟨w.heap.size, 0, none⟩) (by simp), cell_of_row _ _ _ _ t _ hr]; simp
  · rw [h.cell (p := ⟨w.heap.size, 1, none⟩) (by simp), cell_of_row _ _ _ _ t _ hr]; simp
  · rw [h.cell (p := ⟨w.heap.size, 2, none⟩) (by simp), cell_of_row _ _ _ _ t _ hr]; simp
end Go.Proofs.Ytchgnjpbjnkdmaa
