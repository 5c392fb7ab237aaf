/- The walk of the law on Stretch. -/
import Derived.Test.YtjbmpcjhcdlflaaDoorStretch
import Derived.Test.YtjbmpcjhcdlflaaDoorLaidKeys
namespace Go.Proofs.YtjbmpcjhcdlflaaDoor
open Go.RowKit

set_option maxRecDepth 100000 in
theorem fnExactStretch_walk (a0 : ByteArray) (a1 : Int) (w : World) (w0 : a0.size ≤ maxLen) (w1 : (Lit.int .i64 a1).wf = true) (hL : Laid w) :
    Calls Tryd.prog 6 #[.string a0, .int .i64 a1] w fun e w' => e = .returned (.bool true) ∧ Below w.heap.size w w' := by
  unfold maxLen at w0
  obtain ⟨b0, b1⟩ := bounds_i64 w1
  by_cases hz : a0.size ≤ 1048576
  · go_enter Tryd.func6, Tryd.ntmps6
    go_wp2_with fail
    refine (specStretch_any a0 a1 _ hz b0 b1).mono ?_
    rintro e w1 ⟨rfl, hb1⟩
    go_wp2_with fail
    refine (implStretch_any a0 a1 _ hz b0 b1 (hL.below hb1)).mono ?_
    rintro e w2 ⟨rfl, hb2⟩
    go_wp2
    go_ret
    exact ⟨rfl, hb1.trans (hb2.mono hb1.size)⟩
  · go_enter Tryd.func6, Tryd.ntmps6
    go_wp2_with fail
    go_ret
    exact ⟨rfl, Below.refl _ _⟩
end Go.Proofs.YtjbmpcjhcdlflaaDoor
