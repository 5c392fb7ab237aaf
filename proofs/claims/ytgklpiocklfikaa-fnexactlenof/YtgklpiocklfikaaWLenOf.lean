/- The walk of the law on LenOf. -/
import Derived.Test.YtgklpiocklfikaaLenOf
namespace Go.Proofs.Ytgklpiocklfikaa
open Go.RowKit

set_option maxRecDepth 100000 in
theorem fnExactLenOf_walk (a0 : Int) (w : World) (_w0 : (Lit.int .i64 a0).wf = true) :
    Calls Try.prog 5 #[.int .i64 a0] w fun e w' => e = .returned (.bool true) ∧ Below w.heap.size w w' := by
  have hne : (lenV a0 != lenV a0) = false := by simp
  have HS : Hid (∀ w, Calls Try.prog 25 #[.int .i64 a0] w fun e w' => e = .returned (.int .i64 (lenV a0)) ∧ w = w') := specLen_any a0
  have HI : Hid (∀ w, Calls Try.prog 26 #[.int .i64 a0] w fun e w' => e = .returned (.int .i64 (lenV a0)) ∧ w = w') := implLen_any a0
  generalize lenV a0 = M at *
  go_enter Try.func5, Try.ntmps5
  go_wp2_with fail
  refine (HS.out _).mono ?_
  rintro e w1 ⟨rfl, rfl⟩
  go_wp2_with fail
  refine (HI.out _).mono ?_
  rintro e w1 ⟨rfl, rfl⟩
  go_wp2
  go_ret
  exact ⟨rfl, Below.refl _ _⟩
end Go.Proofs.Ytgklpiocklfikaa
