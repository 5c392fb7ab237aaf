/- The walk of the law on AddrRead. -/
import Derived.Test.YtgklpiocklfikaaDoorAddrReadI
import Derived.Test.YtgklpiocklfikaaDoorAddrReadS
import Derived.Test.YtgklpiocklfikaaDoorEqNumO
import Derived.Test.YtgklpiocklfikaaDoorShapeM
namespace Go.Proofs.YtgklpiocklfikaaDoor
open Go.RowKit Go.Sort

set_option maxRecDepth 100000 in
theorem fnExactAddrRead_walk (a0 : ByteArray) (w : World) (w0 : a0.size ≤ maxLen) (hM : MaxI w) :
    Calls Tryd.prog 5 #[.string a0] w fun e w' => e = .returned (.bool true) ∧ Below w.heap.size w w' := by
  unfold maxLen at w0
  by_cases hz : a0.size ≤ 1048576
  · have HS : Hid (∀ w, Calls Tryd.prog 18 #[.string a0] w fun e w' => e = .returned (numO (readA a0).1 0 (readA a0).2) ∧ Below w.heap.size w w') := fun w => specAddrRead_any a0 w hz
    have HI : Hid (∀ w, MaxI w → Calls Tryd.prog 14 #[.string a0] w fun e w' => e = .returned (numO (readA a0).1 0 (readA a0).2) ∧ Below w.heap.size w w') := fun w h => implAddrRead_any a0 w h hz
    have HQ : Hid (∀ w, Calls Tryd.prog 26 #[numO (readA a0).1 0 (readA a0).2, numO (readA a0).1 0 (readA a0).2] w fun e w' => e = .returned (.bool true) ∧ Below w.heap.size w w') := eqNumO_same _ _ _
    have HG : Hid (MaxI w) := hM
    clear hM
    generalize (readA a0).1 = x at *
    generalize (readA a0).2 = c at *
    unfold numO at HS HI HQ
    go_enter Tryd.func5, Tryd.ntmps5
    go_wp2_with fail
    refine (HS.out _).mono ?_
    rintro e wa ⟨rfl, hb1⟩
    have HL : Hid (MaxI (wa.alloc (.cells #[.int .i64 x, .int .i64 0, .int .i64 c] 31))) := (HG.out.below hb1).below ((Below.refl _ _).alloc (Nat.le_refl _) _)
    go_wp2_with fail
    refine (HI.out _ HL.out).mono ?_
    rintro e w2 ⟨rfl, hb2⟩
    obtain ⟨hc2, hf2⟩ := bcell hb2
    have hs2 : wa.heap.size < w2.heap.size := by have := hb2.size; simp at this; omega
    go_wp2_with fail
    refine (HQ.out _).mono ?_
    rintro e w3 ⟨rfl, hb3⟩
    go_wp2
    go_ret
    refine ⟨rfl, (hb1.trans (((Below.refl wa.heap.size wa).alloc (Nat.le_refl _) _).trans (hb2.mono (by simp)) |>.mono hb1.size)).trans ?_⟩
    exact ((((Below.refl w2.heap.size w2).alloc (Nat.le_refl _) _).trans (hb3.mono (by simp))).mono (by have := hb1.size; omega))
  · go_enter Tryd.func5, Tryd.ntmps5
    go_wp2_with fail
    go_ret
    exact ⟨rfl, Below.refl _ _⟩
end Go.Proofs.YtgklpiocklfikaaDoor
