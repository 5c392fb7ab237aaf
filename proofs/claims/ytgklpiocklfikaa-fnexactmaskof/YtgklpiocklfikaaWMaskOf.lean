/- The walk of the law on MaskOf. -/
import Derived.Test.YtgklpiocklfikaaMaskOf
namespace Go.Proofs.Ytgklpiocklfikaa
open Go.RowKit

set_option maxRecDepth 100000 in
theorem fnExactMaskOf_walk (a0 : Int) (w : World) (_w0 : (Lit.int .i64 a0).wf = true) :
    Calls Try.prog 4 #[.int .i64 a0] w fun e w' => e = .returned (.bool true) ∧ Below w.heap.size w w' := by
  have hne : (maskV a0 != maskV a0) = false := by simp
  have HS : Hid (∀ w, Calls Try.prog 23 #[.int .i64 a0] w fun e w' => e = .returned (.int .i64 (maskV a0)) ∧ w = w') := specMask_any a0
  have HI : Hid (∀ w, Calls Try.prog 24 #[.int .i64 a0] w fun e w' => e = .returned (.int .i64 (maskV a0)) ∧ w = w') := implMask_any a0
  generalize maskV a0 = M at *
  go_enter Try.func4, Try.ntmps4
  go_wp2_with fail
  refine (HS.out _).mono ?_
  rintro e w1 ⟨rfl, rfl⟩
  go_wp2_with fail
  refine (HI.out _).mono ?_
  rintro e w1 ⟨rfl, rfl⟩
  go_wp2
  go_ret
  exact ⟨rfl, Below.refl _ _⟩
end Go.Proofs.Ytgklpiocklfikaa
