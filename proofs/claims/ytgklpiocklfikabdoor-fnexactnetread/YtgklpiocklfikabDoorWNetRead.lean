/- The walk of the law on NetRead. -/
import Derived.Test.YtgklpiocklfikabDoorNetReadI
import Derived.Test.YtgklpiocklfikabDoorNetReadS
import Derived.Test.YtgklpiocklfikabDoorEqNetO
import Derived.Test.YtgklpiocklfikabDoorShapeM
namespace Go.Proofs.YtgklpiocklfikabDoor
open Go.RowKit Go.Sort

set_option maxRecDepth 100000 in
theorem fnExactNetRead_walk (a0 : ByteArray) (w : World) (w0 : a0.size ≤ maxLen) (hM : MaxI w) :
    Calls Tryd.prog 4 #[.string a0] w fun e w' => e = .returned (.bool true) ∧ Below w.heap.size w w' := by
  unfold maxLen at w0
  by_cases hz : a0.size ≤ 1048576
  · have HS : Hid (∀ w, Calls Tryd.prog 8 #[.string a0] w fun e w' => e = .returned (netO (readN a0).1.1 (readN a0).1.2 (readN a0).2) ∧ Below w.heap.size w w') := fun w => specNetRead_any a0 w hz
    have HI : Hid (∀ w, MaxI w → Calls Tryd.prog 9 #[.string a0] w fun e w' => e = .returned (netO (readN a0).1.1 (readN a0).1.2 (readN a0).2) ∧ Below w.heap.size w w') := fun w h => implNetRead_any a0 w h hz
    have HQ : Hid (∀ w, Calls Tryd.prog 10 #[netO (readN a0).1.1 (readN a0).1.2 (readN a0).2, netO (readN a0).1.1 (readN a0).1.2 (readN a0).2] w fun e w' => e = .returned (.bool true) ∧ Below w.heap.size w w') := eqNetO_same _ _ _
    have HG : Hid (MaxI w) := hM
    clear hM
    generalize (readN a0).1.1 = x at *
    generalize (readN a0).1.2 = y at *
    generalize (readN a0).2 = c at *
    unfold netO at HS HI HQ
    go_enter Tryd.func4, Tryd.ntmps4
    go_wp2_with fail
    refine (HS.out _).mono ?_
    rintro e wa ⟨rfl, hb1⟩
    have HL : Hid (MaxI (wa.alloc (.cells #[.int .i64 x, .int .i64 y, .int .i64 c] 29))) := (HG.out.below hb1).below ((Below.refl _ _).alloc (Nat.le_refl _) _)
    go_wp2_with fail
    refine (HI.out _ HL.out).mono ?_
    rintro e w2 ⟨rfl, hb2⟩
    obtain ⟨c0, c1, c2⟩ := box3 rfl hb2
    have hs2 : wa.heap.size < w2.heap.size := by have := hb2.size; simp at this; omega
    go_wp2_with fail
    refine (HQ.out _).mono ?_
    rintro e w3 ⟨rfl, hb3⟩
    go_wp2
    go_ret
    refine ⟨rfl, (hb1.trans (((Below.refl wa.heap.size wa).alloc (Nat.le_refl _) _).trans (hb2.mono (by simp)) |>.mono hb1.size)).trans ?_⟩
    exact ((((Below.refl w2.heap.size w2).alloc (Nat.le_refl _) _).trans (hb3.mono (by simp))).mono (by have := hb1.size; omega))
  · go_enter Tryd.func4, Tryd.ntmps4
    go_wp2_with fail
    go_ret
    exact ⟨rfl, Below.refl _ _⟩
end Go.Proofs.YtgklpiocklfikabDoor
