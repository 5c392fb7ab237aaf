/- The model's look whether a net covers an address. -/
import Derived.Test.YtflmbkjnlgibnaaCovers
namespace Go.Proofs.Ytflmbkjnlgibnaa
open Go.RowKit Go.Sort

set_option maxRecDepth 100000 in
theorem l03Covers_any (a l x : Int) (w : World) (hx0 : 0 ≤ x) (hx1 : x ≤ 4294967295) (hl0 : 0 ≤ l) (hl1 : l ≤ 32) : Calls Try.prog 90 #[netV a l, .int .i64 x] w fun e w' => e = .returned (.bool (cutV x l == a)) ∧ Below w.heap.size w w' := by
  have HM : Hid (∀ w, Calls Try.prog 93 #[.int .i64 x, .int .i64 l] w fun e w' => e = .returned (.int .i64 (cutV x l)) ∧ w = w') := fun w => l03Cut_any x l w hx0 hx1 hl0 hl1
  generalize cutV x l = C at *
  unfold netV
  go_enter Try.func90, Try.ntmps90
  go_wp2_with fail
  go_quiet ((go_at_call 93; exact quiet_eqA (HM.out _)))
  go_wp2
  go_ret
  exact ⟨rfl, below_drewN ((Below.refl _ _).alloc (Nat.le_refl _) _) _⟩
end Go.Proofs.Ytflmbkjnlgibnaa
