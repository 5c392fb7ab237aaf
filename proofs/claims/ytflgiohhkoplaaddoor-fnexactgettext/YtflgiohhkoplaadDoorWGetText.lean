/- The walk of the law on GetText. -/
import Derived.Test.YtflgiohhkoplaadDoorGetTextI
import Derived.Test.YtflgiohhkoplaadDoorGetTextS
namespace Go.Proofs.YtflgiohhkoplaadDoor
open Go.RowKit

set_option maxRecDepth 100000 in
theorem eqText_same (x : ByteArray) (a c : Int) (w : World) :
    Calls Tryd.prog 10 #[.agg #[.string x, .int .i64 a, .int .i64 c], .agg #[.string x, .int .i64 a, .int .i64 c]] w fun e w' => e = .returned (.bool true) ∧ Below w.heap.size w w' := by
  have h1 : (a != a) = false := by simp
  have h2 : (c != c) = false := by simp
  go_enter Tryd.func10, Tryd.ntmps10
  go_wp2
  go_ret
  exact ⟨rfl, ((Below.refl _ _).alloc (Nat.le_refl _) _).alloc (by simp) _⟩
set_option maxRecDepth 100000 in
set_option maxHeartbeats 1000000 in
theorem fnExactGetText_walk (a0 : ByteArray) (a1 : Int) (w : World) (w0 : a0.size ≤ maxLen) (w1 : (Lit.int .i64 a1).wf = true) (hg : Laid w) :
    Calls Tryd.prog 4 #[.string a0, .int .i64 a1] w fun e w' => e = .returned (.bool true) ∧ Below w.heap.size w w' := by
  unfold maxLen at w0
  obtain ⟨h0, h1⟩ := bounds_i64 w1
  by_cases hz : a0.size ≤ 1048576
  · have HS : Hid (∀ w, Calls Tryd.prog 8 #[.string a0, .int .i64 a1] w fun e w' => e = .returned (textV (getTextR a0 a1)) ∧ Below w.heap.size w w') := fun w => specGetText_any a0 a1 w hz h0 h1
    have HI : Hid (∀ w, Laid w → Calls Tryd.prog 9 #[.string a0, .int .i64 a1] w fun e w' => e = .returned (textV (getTextR a0 a1)) ∧ Below w.heap.size w w') := fun w h => implGetText_any a0 a1 w h hz h0 h1
    generalize getTextR a0 a1 = R at *
    obtain ⟨x, y, c⟩ := R
    unfold textV at HS HI
    have HQ : Hid _ := eqText_same x y c
    have HG : Hid (Laid w) := hg
    clear hg
    go_enter Tryd.func4, Tryd.ntmps4
    go_wp2_with fail
    refine (HS.out _).mono ?_
    rintro e wa ⟨rfl, hb1⟩
    have HL : Laid _ := (HG.out.below hb1).alloc (.cells #[.string x, .int .i64 y, .int .i64 c] 28)
    have HL2 : Hid _ := HL
    clear HL
    go_wp2_with fail
    refine (HI.out _ HL2.out).mono ?_
    rintro e w2 ⟨rfl, hb2⟩
    obtain ⟨hc2, hf2⟩ := bcell hb2
    have hs2 : wa.heap.size < w2.heap.size := by have := hb2.size; simp at this; omega
    go_wp2_with fail
    refine (HQ.out _).mono ?_
    rintro e w3 ⟨rfl, hb3⟩
    go_wp2
    go_ret
    refine ⟨rfl, (hb1.trans (((Below.refl wa.heap.size wa).alloc (Nat.le_refl _) _).trans (hb2.mono (by simp)) |>.mono hb1.size)).trans ?_⟩
    exact ((((Below.refl w2.heap.size w2).alloc (Nat.le_refl _) _).trans (hb3.mono (by simp))).mono (by have := hb1.size; omega))
  · go_enter Tryd.func4, Tryd.ntmps4
    go_wp2_with fail
    go_ret
    exact ⟨rfl, Below.refl _ _⟩
end Go.Proofs.YtflgiohhkoplaadDoor
