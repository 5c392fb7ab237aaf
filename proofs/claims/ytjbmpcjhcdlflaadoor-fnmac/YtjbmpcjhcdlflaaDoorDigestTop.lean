/- Digest, of the program and of the model: the same text. -/
import Derived.Test.YtjbmpcjhcdlflaaDoorDigestI
import Derived.Test.YtjbmpcjhcdlflaaDoorDigestS
namespace Go.Proofs.YtjbmpcjhcdlflaaDoor
open Go.RowKit

def digestV (t : ByteArray) : ByteArray := if t.size ≤ 8000 then digestT t else ByteArray.empty
theorem digestV_in (t : ByteArray) (h : t.size ≤ 8000) : digestV t = digestT t := if_pos h
theorem digestV_out (t : ByteArray) (h : ¬ t.size ≤ 8000) : digestV t = ByteArray.empty := if_neg h
set_option maxRecDepth 100000 in
theorem implDigest_any (t : ByteArray) (w : World) (hz : t.size ≤ 1048576) (hL : Laid w) :
    Calls Tryd.prog 8 #[.string t] w fun e w' => e = .returned (.string (digestV t)) ∧ Below w.heap.size w w' := by
  by_cases h : t.size ≤ 8000
  · rw [digestV_in t h]
    go_enter Tryd.func8, Tryd.ntmps8
    go_wp2_with fail
    refine (implDigest_in t _ (by omega) hL).mono ?_
    rintro e w1 ⟨rfl, hb1⟩
    go_wp2
    go_ret
    exact ⟨rfl, hb1⟩
  · rw [digestV_out t h]
    go_enter Tryd.func8, Tryd.ntmps8
    go_wp2
    go_ret
    exact ⟨rfl, Below.refl _ _⟩
set_option maxRecDepth 100000 in
theorem specDigest_any (t : ByteArray) (w : World) (hz : t.size ≤ 1048576) :
    Calls Tryd.prog 13 #[.string t] w fun e w' => e = .returned (.string (digestV t)) ∧ Below w.heap.size w w' := by
  by_cases h : t.size ≤ 8000
  · rw [digestV_in t h]
    go_enter Tryd.func13, Tryd.ntmps13
    go_wp2_with fail
    refine (specDigest_in t _ (by omega)).mono ?_
    rintro e w1 ⟨rfl, hb1⟩
    go_wp2
    go_ret
    exact ⟨rfl, hb1⟩
  · rw [digestV_out t h]
    go_enter Tryd.func13, Tryd.ntmps13
    go_wp2
    go_ret
    exact ⟨rfl, Below.refl _ _⟩
end Go.Proofs.YtjbmpcjhcdlflaaDoor
