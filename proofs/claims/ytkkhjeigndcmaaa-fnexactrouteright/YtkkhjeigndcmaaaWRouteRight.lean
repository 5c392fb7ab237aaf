/- The walk of the law on RouteRight. (Written by gen_rts.py.) -/
import Derived.Test.YtkkhjeigndcmaaaToRt
import Derived.Test.YtkkhjeigndcmaaaOpenRt
namespace Go.Proofs.Ytkkhjeigndcmaaa
open Go.RowKit Go.Sort

set_option maxRecDepth 100000 in
theorem fnExactRouteRight_walk (r : Rt) (w : World) (_he : RtW r) :
    Calls Try.prog 3 #[rtV r] w fun e w' => e = .returned (.bool true) ∧ Below w.heap.size w w' := by
  have HT : Hid (∀ w, Calls Try.prog 6 #[rtV r] w fun e w' => e = .returned (rtV r) ∧ Below w.heap.size w w') := toRoute_any r
  have HS : Hid (∀ w, Calls Try.prog 5 #[rtV r] w fun e w' => e = .returned (.bool (routeB r)) ∧ Below w.heap.size w w') := specRoute_any r
  have HI : Hid (∀ w, Calls Try.prog 7 #[rtV r] w fun e w' => e = .returned (.bool (routeB r)) ∧ Below w.heap.size w w') := implRoute_any r
  obtain ⟨a, l, m, n, i, t, u, b, c⟩ := r
  generalize routeB ⟨a, l, m, n, i, t, u, b, c⟩ = B at *
  unfold rtV rtA at *
  simp only at HT HS HI
  go_enter Try.func3, Try.ntmps3
  go_wp2_with fail
  refine (HT.out _).mono ?_
  rintro e w1 ⟨rfl, hb1⟩
  go_wp2_with fail
  refine (HS.out _).mono ?_
  rintro e w2 ⟨rfl, hb2⟩
  have hb12 := hb1.trans (hb2.mono hb1.size)
  obtain ⟨c0, c1, c2, c3, c4, c5, c6, c7, c8, hB2⟩ := box9 hb12
  clear hb1 hb2 hb12
  go_wp2_with fail
  refine (HT.out _).mono ?_
  rintro e w3 ⟨rfl, hb3⟩
  have hB3 := hB2.trans (hb3.mono hB2.size)
  clear hb3 hB2 c0 c1 c2 c3 c4 c5 c6 c7 c8
  go_wp2_with fail
  refine (HI.out _).mono ?_
  rintro e w4 ⟨rfl, hb4⟩
  have hB4 := hB3.trans (hb4.mono hB3.size)
  clear hb4 hB3
  cases B
  · go_wp2
    go_ret
    exact ⟨rfl, hB4⟩
  · go_wp2
    go_ret
    exact ⟨rfl, hB4⟩
end Go.Proofs.Ytkkhjeigndcmaaa
