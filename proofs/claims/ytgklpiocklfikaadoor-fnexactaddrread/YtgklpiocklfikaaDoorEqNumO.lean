/- The laws' own look: a NumOut is as itself. -/
import Derived.Test.YtgklpiocklfikaaDoorReadA
namespace Go.Proofs.YtgklpiocklfikaaDoor
open Go.RowKit

set_option maxRecDepth 100000 in
theorem eqNumO_same (n a c : Int) (w : World) : Calls Tryd.prog 26 #[numO n a c, numO n a c] w fun e w' => e = .returned (.bool true) ∧ Below w.heap.size w w' := by
  have h1 : (n != n) = false := by simp
  have h2 : (a != a) = false := by simp
  have h3 : (c != c) = false := by simp
  unfold numO
  go_enter Tryd.func26, Tryd.ntmps26
  go_wp2
  go_ret
  exact ⟨rfl, ((Below.refl _ _).alloc (Nat.le_refl _) _).alloc (by simp) _⟩
end Go.Proofs.YtgklpiocklfikaaDoor
