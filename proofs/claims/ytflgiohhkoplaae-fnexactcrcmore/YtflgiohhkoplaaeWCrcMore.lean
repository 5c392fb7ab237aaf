/- The walk of the law on CrcMore. -/
import Derived.Test.YtflgiohhkoplaaeCrcMoreS
namespace Go.Proofs.Ytflgiohhkoplaae
open Go.RowKit

set_option maxRecDepth 100000 in
theorem fnExactCrcMore_walk (a0 : Int) (a1 : ByteArray) (w : World) (w0 : (Lit.int .i64 a0).wf = true) (w1 : a1.size ≤ maxLen) :
    Calls Try.prog 3 #[.int .i64 a0, .string a1] w fun e w' => e = .returned (.bool true) ∧ Below w.heap.size w w' := by
  unfold maxLen at w1
  obtain ⟨h0, h1⟩ := bounds_i64 w0
  by_cases hz : a1.size ≤ 1048576
  · go_enter Try.func3, Try.ntmps3
    go_wp2_with fail
    refine (specCrcMore_any a0 a1 _ hz h0 h1).mono ?_
    rintro e w1 ⟨rfl, rfl⟩
    go_wp2_with fail
    refine (implCrcMore_any a0 a1 _ hz h0 h1).mono ?_
    rintro e w2 ⟨rfl, rfl⟩
    have hne : (crcMoreB a0 a1 != crcMoreB a0 a1) = false := by simp
    go_wp2
    go_ret
    exact ⟨rfl, Below.refl _ _⟩
  · go_enter Try.func3, Try.ntmps3
    go_wp2_with fail
    go_ret
    exact ⟨rfl, Below.refl _ _⟩
end Go.Proofs.Ytflgiohhkoplaae
