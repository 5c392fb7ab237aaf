/- The walk of the law on Digest. -/
import Derived.Test.YtjbmpcjhcdlflaaDoorDigestTop
import Derived.Test.YtjbmpcjhcdlflaaDoorLaidKeys
namespace Go.Proofs.YtjbmpcjhcdlflaaDoor
open Go.RowKit

set_option maxRecDepth 100000 in
theorem fnExactDigest_walk (a0 : ByteArray) (w : World) (w0 : a0.size ≤ maxLen) (hL : Laid w) :
    Calls Tryd.prog 4 #[.string a0] w fun e w' => e = .returned (.bool true) ∧ Below w.heap.size w w' := by
  unfold maxLen at w0
  by_cases hz : a0.size ≤ 1048576
  · go_enter Tryd.func4, Tryd.ntmps4
    go_wp2_with fail
    refine (specDigest_any a0 _ hz).mono ?_
    rintro e w1 ⟨rfl, hb1⟩
    go_wp2_with fail
    refine (implDigest_any a0 _ hz (hL.below hb1)).mono ?_
    rintro e w2 ⟨rfl, hb2⟩
    go_wp2
    go_ret
    exact ⟨rfl, hb1.trans (hb2.mono hb1.size)⟩
  · go_enter Tryd.func4, Tryd.ntmps4
    go_wp2_with fail
    go_ret
    exact ⟨rfl, Below.refl _ _⟩
end Go.Proofs.YtjbmpcjhcdlflaaDoor
