/- The walk of the law on NetOf. -/
import Derived.Test.YtgklpiocklfikabEqNet
import Derived.Test.YtgklpiocklfikabNetOfS
import Derived.Test.YtgklpiocklfikabToNet
namespace Go.Proofs.Ytgklpiocklfikab
open Go.RowKit Go.Sort

set_option maxRecDepth 100000 in
theorem fnExactNetOf_walk (a l : Int) (w : World) (_wa : (Lit.int .i64 a).wf = true) (_wl : (Lit.int .i64 l).wf = true) :
    Calls Try.prog 3 #[.int .i64 a, .int .i64 l] w fun e w' => e = .returned (.bool true) ∧ Below w.heap.size w w' := by
  have HS : Hid (∀ w, Calls Try.prog 7 #[.int .i64 a, .int .i64 l] w fun e w' => e = .returned (netV (netA a l) (netN a l)) ∧ Below w.heap.size w w') := specNetOf_any a l
  have HI : Hid (∀ w, Calls Try.prog 8 #[.int .i64 a, .int .i64 l] w fun e w' => e = .returned (netV (netA a l) (netN a l)) ∧ Below w.heap.size w w') := implNetOf_any a l
  have HQ : Hid (∀ w, Calls Try.prog 9 #[netV (netA a l) (netN a l), netV (netA a l) (netN a l)] w fun e w' => e = .returned (.bool true) ∧ Below w.heap.size w w') := eqNet_same _ _
  generalize netA a l = A at *
  generalize netN a l = N at *
  unfold netV at *
  go_enter Try.func3, Try.ntmps3
  go_wp2_with fail
  refine (HS.out _).mono ?_
  rintro e w1 ⟨rfl, hb1⟩
  go_wp2_with fail
  refine (HI.out _).mono ?_
  rintro e w2 ⟨rfl, hb2⟩
  obtain ⟨c0, c1, hs1, hB1⟩ := cell2_later rfl hb2
  have hB2 := below_next hb1 hB1 hb1.size
  clear hb1 hb2 hB1
  go_wp2_with fail
  refine (HQ.out _).mono ?_
  rintro e w3 ⟨rfl, hb3⟩
  go_wp2
  go_ret
  exact ⟨rfl, below_next hB2 (((Below.refl _ _).alloc (Nat.le_refl _) _).trans (hb3.mono (by simp))) hB2.size⟩
end Go.Proofs.Ytgklpiocklfikab
