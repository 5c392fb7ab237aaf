/- The walk of the law on IfaceRight. (Written by gen_if.py.) -/
import Derived.Test.YtaledidomgelcaaToIf
import Derived.Test.YtaledidomgelcaaOpenIf
namespace Go.Proofs.Ytaledidomgelcaa
open Go.RowKit Go.Sort

set_option maxRecDepth 100000 in
theorem fnExactIfaceRight_walk (r : If) (w : World) (_he : IfW r) :
    Calls Try.prog 7 #[ifV r] w fun e w' => e = .returned (.bool true) ∧ Below w.heap.size w w' := by
  have HT : Hid (∀ w, Calls Try.prog 28 #[ifV r] w fun e w' => e = .returned (ifV r) ∧ Below w.heap.size w w') := toIface_any r
  have HS : Hid (∀ w, Calls Try.prog 27 #[ifV r] w fun e w' => e = .returned (.bool (ifB r)) ∧ Below w.heap.size w w') := specIface_any r
  have HI : Hid (∀ w, Calls Try.prog 29 #[ifV r] w fun e w' => e = .returned (.bool (ifB r)) ∧ Below w.heap.size w w') := implIface_any r
  obtain ⟨d, a, l, c, u⟩ := r
  generalize ifB ⟨d, a, l, c, u⟩ = B at *
  unfold ifV ifA at *
  simp only at HT HS HI
  go_enter Try.func7, Try.ntmps7
  go_wp2_with fail
  refine (HT.out _).mono ?_
  rintro e w1 ⟨rfl, hb1⟩
  go_wp2_with fail
  refine (HS.out _).mono ?_
  rintro e w2 ⟨rfl, hb2⟩
  have hb12 := hb1.trans (hb2.mono hb1.size)
  obtain ⟨c0, c1, c2, c3, c4, hB2⟩ := box5i hb12
  clear hb1 hb2 hb12
  go_wp2_with fail
  refine (HT.out _).mono ?_
  rintro e w3 ⟨rfl, hb3⟩
  have hB3 := hB2.trans (hb3.mono hB2.size)
  clear hb3 hB2 c0 c1 c2 c3 c4
  go_wp2_with fail
  refine (HI.out _).mono ?_
  rintro e w4 ⟨rfl, hb4⟩
  have hB4 := hB3.trans (hb4.mono hB3.size)
  clear hb4 hB3
  cases B
  · go_wp2
    go_ret
    exact ⟨rfl, hB4⟩
  · go_wp2
    go_ret
    exact ⟨rfl, hB4⟩
end Go.Proofs.Ytaledidomgelcaa
