/- The walk of the law on AddrText. -/
import Derived.Test.YtgklpiocklfikaaDoorAddrTextI
import Derived.Test.YtgklpiocklfikaaDoorShape
namespace Go.Proofs.YtgklpiocklfikaaDoor
open Go.RowKit Go.Sort

set_option maxRecDepth 100000 in
theorem fnExactAddrText_walk (a0 : Int) (w : World) (_w0 : (Lit.int .i64 a0).wf = true) (hT : Pow10 w) :
    Calls Tryd.prog 4 #[.int .i64 a0] w fun e w' => e = .returned (.bool true) ∧ Below w.heap.size w w' := by
  have HS : Hid (∀ w, Calls Tryd.prog 16 #[.int .i64 a0] w fun e w' => e = .returned (.string (addrT a0)) ∧ Below w.heap.size w w') := specAddrText_any a0
  have HI : Hid (∀ w, Pow10 w → Calls Tryd.prog 10 #[.int .i64 a0] w fun e w' => e = .returned (.string (addrT a0)) ∧ Below w.heap.size w w') := implAddrText_any a0
  have HT : Hid (Pow10 w) := hT
  clear hT
  generalize addrT a0 = T at *
  go_enter Tryd.func4, Tryd.ntmps4
  go_wp2_with fail
  refine (HS.out _).mono ?_
  rintro e w1 ⟨rfl, hb1⟩
  go_wp2_with fail
  refine (HI.out _ (HT.out.below hb1)).mono ?_
  rintro e w2 ⟨rfl, hb2⟩
  go_wp2
  go_ret
  exact ⟨rfl, hb1.trans (hb2.mono hb1.size)⟩
end Go.Proofs.YtgklpiocklfikaaDoor
