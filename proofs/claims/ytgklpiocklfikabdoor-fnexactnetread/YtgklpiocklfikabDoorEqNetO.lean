/- The laws' own look: a NetOut is as itself. -/
import Derived.Test.YtgklpiocklfikabDoorReadN
import Derived.Test.YtgklpiocklfikabDoorEqNet
namespace Go.Proofs.YtgklpiocklfikabDoor
open Go.RowKit

theorem box3 {w w0 w1 : World} {x y z : Value} {t : TypeId} (h0 : w0 = w.alloc (.cells #[x, y, z] t)) (h : Below w0.heap.size w0 w1) : w1.cell? ⟨w.heap.size, 0, none⟩ = some x ∧ w1.cell? ⟨w.heap.size, 1, none⟩ = some y ∧ w1.cell? ⟨w.heap.size, 2, none⟩ = some z := by
  subst h0
  have hr := heap_alloc_new w (.cells #[x, y, z] t)
  refine ⟨?_, ?_, ?_⟩
  · rw [h.cell (p := ⟨w.heap.size, 0, none⟩) (by simp), cell_of_row _ _ _ _ t _ hr]; simp
  · rw [h.cell (p := ⟨w.heap.size, 1, none⟩) (by simp), cell_of_row _ _ _ _ t _ hr]; simp
  · rw [h.cell (p := ⟨w.heap.size, 2, none⟩) (by simp), cell_of_row _ _ _ _ t _ hr]; simp
set_option maxRecDepth 100000 in
theorem eqNetO_same (a n c : Int) (w : World) : Calls Tryd.prog 10 #[netO a n c, netO a n c] w fun e w' => e = .returned (.bool true) ∧ Below w.heap.size w w' := by
  have h3 : (c != c) = false := by simp
  have HE : Hid (∀ w, Calls Tryd.prog 21 #[.agg #[.int .i64 a, .int .i64 n], .agg #[.int .i64 a, .int .i64 n]] w fun e w' => e = .returned (.bool true) ∧ Below w.heap.size w w') := eqNet_same a n
  unfold netO
  go_enter Tryd.func10, Tryd.ntmps10
  go_wp2_with fail
  refine (HE.out _).mono ?_
  rintro e w1 ⟨rfl, hb1⟩
  obtain ⟨hc1, hf1⟩ := bcell hb1
  have hB : Below w.heap.size w w1 := (((Below.refl _ _).alloc (Nat.le_refl _) _).alloc (by simp) _).trans (hb1.mono (by simp; omega))
  have c0 := hc1 w.heap.size 2 (by simp; omega)
  have c1 := hc1 (w.heap.size + 1) 2 (by simp)
  go_wp2
  go_ret
  exact ⟨rfl, hB⟩
end Go.Proofs.YtgklpiocklfikabDoor
