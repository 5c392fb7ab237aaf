/- The laws' own look: a NumOut is as itself. -/
import Derived.Test.YtflgiohhkoplaadDoorCodeOf
namespace Go.Proofs.YtflgiohhkoplaadDoor
open Go.RowKit

set_option maxRecDepth 100000 in
theorem eqNum_same (x a c : Int) (w : World) :
    Calls Tryd.prog 7 #[.agg #[.int .i64 x, .int .i64 a, .int .i64 c], .agg #[.int .i64 x, .int .i64 a, .int .i64 c]] w fun e w' => e = .returned (.bool true) ∧ Below w.heap.size w w' := by
  have h0 : (x != x) = false := by simp
  have h1 : (a != a) = false := by simp
  have h2 : (c != c) = false := by simp
  go_enter Tryd.func7, Tryd.ntmps7
  go_wp2
  go_ret
  exact ⟨rfl, ((Below.refl _ _).alloc (Nat.le_refl _) _).alloc (by simp) _⟩
end Go.Proofs.YtflgiohhkoplaadDoor
