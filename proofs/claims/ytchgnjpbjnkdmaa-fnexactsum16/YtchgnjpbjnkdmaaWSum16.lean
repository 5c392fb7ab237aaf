/- The walk of the law on Sum16. -/
import Derived.Test.YtchgnjpbjnkdmaaSum16
namespace Go.Proofs.Ytchgnjpbjnkdmaa
open Go.RowKit

set_option maxRecDepth 100000 in
theorem fnExactSum16_walk (a0 : ByteArray) (w : World) (w0 : a0.size ≤ maxLen) :
    Calls Try.prog 5 #[.string a0] w fun e w' => e = .returned (.bool true) ∧ Below w.heap.size w w' := by
  unfold maxLen at w0
  by_cases hz : a0.size ≤ 1048576
  · have HS : Hid (∀ w, Calls Try.prog 39 #[.string a0] w fun e w' => e = .returned (.int .i64 (sum16 a0)) ∧ Below w.heap.size w w') := fun w => specSum16_any a0 w hz
    have HI : Hid (∀ w, Calls Try.prog 38 #[.string a0] w fun e w' => e = .returned (.int .i64 (sum16 a0)) ∧ Below w.heap.size w w') := fun w => implSum16_any a0 w hz
    generalize sum16 a0 = R at *
    have hne : (R != R) = false := by simp
    go_enter Try.func5, Try.ntmps5
    go_wp2_with fail
    refine (HS.out _).mono ?_
    rintro e w1 ⟨rfl, hb1⟩
    go_wp2_with fail
    refine (HI.out _).mono ?_
    rintro e w2 ⟨rfl, hb2⟩
    go_wp2
    go_ret
    exact ⟨rfl, hb1.trans (hb2.mono hb1.size)⟩
  · go_enter Try.func5, Try.ntmps5
    go_wp2_with fail
    go_ret
    exact ⟨rfl, Below.refl _ _⟩
end Go.Proofs.Ytchgnjpbjnkdmaa
