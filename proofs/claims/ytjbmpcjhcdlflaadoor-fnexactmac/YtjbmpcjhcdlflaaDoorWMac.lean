/- The walk of the law on Mac. -/
import Derived.Test.YtjbmpcjhcdlflaaDoorMacS
import Derived.Test.YtjbmpcjhcdlflaaDoorLaidKeys
namespace Go.Proofs.YtjbmpcjhcdlflaaDoor
open Go.RowKit

set_option maxRecDepth 100000 in
theorem fnExactMac_walk (a0 a1 : ByteArray) (w : World) (w0 : a0.size ≤ maxLen) (w1 : a1.size ≤ maxLen) (hL : Laid w) :
    Calls Tryd.prog 5 #[.string a0, .string a1] w fun e w' => e = .returned (.bool true) ∧ Below w.heap.size w w' := by
  unfold maxLen at w0 w1
  by_cases hz : a0.size ≤ 1048576
  · by_cases hy : a1.size ≤ 1048576
    · go_enter Tryd.func5, Tryd.ntmps5
      go_wp2_with fail
      refine (specMac_any a0 a1 _ hz hy).mono ?_
      rintro e w1 ⟨rfl, hb1⟩
      go_wp2_with fail
      refine (implMac_any a0 a1 _ hz hy (hL.below hb1)).mono ?_
      rintro e w2 ⟨rfl, hb2⟩
      go_wp2
      go_ret
      exact ⟨rfl, hb1.trans (hb2.mono hb1.size)⟩
    · go_enter Tryd.func5, Tryd.ntmps5
      go_wp2_with fail
      go_ret
      exact ⟨rfl, Below.refl _ _⟩
  · go_enter Tryd.func5, Tryd.ntmps5
    go_wp2_with fail
    go_ret
    exact ⟨rfl, Below.refl _ _⟩
end Go.Proofs.YtjbmpcjhcdlflaaDoor
