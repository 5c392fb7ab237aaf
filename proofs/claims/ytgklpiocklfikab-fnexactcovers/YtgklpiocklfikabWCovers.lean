/- The walk of the law on Covers. -/
import Derived.Test.YtgklpiocklfikabCoversS
import Derived.Test.YtgklpiocklfikabToNet
namespace Go.Proofs.Ytgklpiocklfikab
open Go.RowKit Go.Sort

set_option maxRecDepth 100000 in
theorem fnExactCovers_walk (a l x : Int) (w : World) (_wa : (Lit.int .i64 a).wf = true) (_wl : (Lit.int .i64 l).wf = true) (_wx : (Lit.int .i64 x).wf = true) :
    Calls Try.prog 6 #[.agg #[.int .i64 a, .int .i64 l], .int .i64 x] w fun e w' => e = .returned (.bool true) ∧ Below w.heap.size w w' := by
  have HT : Hid (∀ w, Calls Try.prog 11 #[.agg #[.int .i64 a, .int .i64 l]] w fun e w' => e = .returned (.agg #[.int .i64 a, .int .i64 l]) ∧ Below w.heap.size w w') := toNet_any a l
  have HS : Hid (∀ w, Calls Try.prog 15 #[.agg #[.int .i64 a, .int .i64 l], .int .i64 x] w fun e w' => e = .returned (.bool (coversB a l x)) ∧ Below w.heap.size w w') := specCovers_any a l x
  have HI : Hid (∀ w, Calls Try.prog 16 #[.agg #[.int .i64 a, .int .i64 l], .int .i64 x] w fun e w' => e = .returned (.bool (coversB a l x)) ∧ Below w.heap.size w w') := implCovers_any a l x
  have hne : (coversB a l x != coversB a l x) = false := by simp
  generalize coversB a l x = R at *
  go_enter Try.func6, Try.ntmps6
  go_wp2_with fail
  refine (HT.out _).mono ?_
  rintro e w1 ⟨rfl, hb1⟩
  obtain ⟨c0, c1, hs1, hB1⟩ := cell2_later rfl hb1
  clear hb1
  go_wp2_with fail
  refine (HS.out _).mono ?_
  rintro e w2 ⟨rfl, hb2⟩
  obtain ⟨d0, d1⟩ := two_later c0 c1 hb2
  have hB2 := below_next hB1 hb2 hB1.size
  clear hb2 c0 c1 hB1
  go_wp2_with fail
  refine (HT.out _).mono ?_
  rintro e w3 ⟨rfl, hb3⟩
  have hB3 := below_next hB2 hb3 hB2.size
  clear d0 d1 hb3 hB2
  go_wp2_with fail
  refine (HI.out _).mono ?_
  rintro e w4 ⟨rfl, hb4⟩
  have hB4 := below_next hB3 hb4 hB3.size
  go_wp2
  go_ret
  exact ⟨rfl, hB4⟩
end Go.Proofs.Ytgklpiocklfikab
