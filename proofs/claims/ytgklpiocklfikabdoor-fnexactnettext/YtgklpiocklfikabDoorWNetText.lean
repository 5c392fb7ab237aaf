/- The walk of the law on NetText. -/
import Derived.Test.YtgklpiocklfikabDoorNetText
import Derived.Test.YtgklpiocklfikabDoorToNet
import Derived.Test.YtgklpiocklfikabDoorShape
namespace Go.Proofs.YtgklpiocklfikabDoor
open Go.RowKit Go.Sort

set_option maxRecDepth 100000 in
theorem fnExactNetText_walk (a l : Int) (w : World) (_wa : (Lit.int .i64 a).wf = true) (_wl : (Lit.int .i64 l).wf = true) (hT : Pow10 w) :
    Calls Tryd.prog 3 #[.agg #[.int .i64 a, .int .i64 l]] w fun e w' => e = .returned (.bool true) ∧ Below w.heap.size w w' := by
  have HT : Hid (∀ w, Calls Tryd.prog 6 #[.agg #[.int .i64 a, .int .i64 l]] w fun e w' => e = .returned (.agg #[.int .i64 a, .int .i64 l]) ∧ Below w.heap.size w w') := toNet_any a l
  have HS : Hid (∀ w, Calls Tryd.prog 5 #[.agg #[.int .i64 a, .int .i64 l]] w fun e w' => e = .returned (.string (netT a l)) ∧ Below w.heap.size w w') := specNetText_any a l
  have HI : Hid (∀ w, Pow10 w → Calls Tryd.prog 7 #[.agg #[.int .i64 a, .int .i64 l]] w fun e w' => e = .returned (.string (netT a l)) ∧ Below w.heap.size w w') := implNetText_any a l
  have HP : Hid (Pow10 w) := hT
  clear hT
  generalize netT a l = R at *
  go_enter Tryd.func3, Tryd.ntmps3
  go_wp2_with fail
  refine (HT.out _).mono ?_
  rintro e w1 ⟨rfl, hb1⟩
  obtain ⟨c0, c1, hs1, hB1⟩ := cell2_later rfl hb1
  clear hb1
  go_wp2_with fail
  refine (HS.out _).mono ?_
  rintro e w2 ⟨rfl, hb2⟩
  obtain ⟨d0, d1⟩ := two_later c0 c1 hb2
  have hB2 := below_next hB1 hb2 hB1.size
  clear hb2 c0 c1 hB1
  go_wp2_with fail
  refine (HT.out _).mono ?_
  rintro e w3 ⟨rfl, hb3⟩
  have hB3 := below_next hB2 hb3 hB2.size
  clear d0 d1 hb3 hB2
  go_wp2_with fail
  refine (HI.out _ (HP.out.below hB3)).mono ?_
  rintro e w4 ⟨rfl, hb4⟩
  have hB4 := below_next hB3 hb4 hB3.size
  go_wp2
  go_ret
  exact ⟨rfl, hB4⟩
end Go.Proofs.YtgklpiocklfikabDoor
