/- A right state, number by number. -/
import Derived.Test.YtialedffpaoacaaGreatDoorShaMath
namespace Go.Proofs.YtialedffpaoacaaGreatDoor

theorem S8.ok_all (s : S8) (h : s.ok) : ∀ x ∈ s.list, x < 4294967296 := by
  obtain ⟨h0, h1, h2, h3, h4, h5, h6, h7⟩ := h
  intro x hx
  simp only [S8.list, List.mem_cons, List.not_mem_nil, or_false] at hx
  rcases hx with rfl | rfl | rfl | rfl | rfl | rfl | rfl | rfl <;> assumption
theorem blk_get (p : List UInt8) (k j : Nat) (hj : j < 64) : (blk p k).getD j 0 = p.getD (64 * k + j) 0 := by
  simp [blk, hj]
theorem out_next (s : S8) (j : Nat) (h : j < 8) : outN (s.list.take (j + 1)) = outN (s.list.take j) ++ be4 (s.list.getD j 0) := by
  rw [List.take_succ_eq_append_getElem (by rw [S8.list_length]; exact h), outN_snoc, List.getD_eq_getElem?_getD, List.getElem?_eq_getElem (by rw [S8.list_length]; exact h)]
  rfl
end Go.Proofs.YtialedffpaoacaaGreatDoor
