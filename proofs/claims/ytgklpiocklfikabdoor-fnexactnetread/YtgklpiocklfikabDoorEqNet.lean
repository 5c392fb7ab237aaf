/- The laws' own look: a net is as itself. -/
import Derived.Test.YtgklpiocklfikabDoorNetOf
namespace Go.Proofs.YtgklpiocklfikabDoor
open Go.RowKit Go.Sort

set_option maxRecDepth 100000 in
theorem eqNet_same (a l : Int) (w : World) : Calls Tryd.prog 21 #[netV a l, netV a l] w fun e w' => e = .returned (.bool true) ∧ Below w.heap.size w w' := by
  have h1 : (a != a) = false := by simp
  have h2 : (l != l) = false := by simp
  unfold netV
  go_enter Tryd.func21, Tryd.ntmps21
  go_wp2
  go_ret
  exact ⟨rfl, ((Below.refl _ _).alloc (Nat.le_refl _) _).alloc (by simp) _⟩
end Go.Proofs.YtgklpiocklfikabDoor
