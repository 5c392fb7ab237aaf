/- The laws' own look: a net is as itself. -/
import Derived.Test.YtpkjkjepmloddaaNetOf
namespace Go.Proofs.Ytpkjkjepmloddaa
open Go.RowKit Go.Sort

set_option maxRecDepth 100000 in
theorem eqNet_same (a l : Int) (w : World) : Calls Try.prog 73 #[netV a l, netV a l] w fun e w' => e = .returned (.bool true) ∧ Below w.heap.size w w' := by
  have h1 : (a != a) = false := by simp
  have h2 : (l != l) = false := by simp
  unfold netV
  go_enter Try.func73, Try.ntmps73
  go_wp2
  go_ret
  exact ⟨rfl, ((Below.refl _ _).alloc (Nat.le_refl _) _).alloc (by simp) _⟩
end Go.Proofs.Ytpkjkjepmloddaa
