/- The walk of the law on Unseal. -/
import Derived.Test.YtflgiohhkoplaaeEqText
namespace Go.Proofs.Ytflgiohhkoplaae
open Go.RowKit

set_option maxRecDepth 100000 in
theorem fnExactUnseal_walk (a0 : ByteArray) (w : World) (w0 : a0.size ≤ maxLen) :
    Calls Try.prog 5 #[.string a0] w fun e w' => e = .returned (.bool true) ∧ Below w.heap.size w w' := by
  unfold maxLen at w0
  by_cases hz : a0.size ≤ 1048576
  · have HS : Hid (∀ w, Calls Try.prog 10 #[.string a0] w fun e w' => e = .returned (unsealV a0) ∧ Below w.heap.size w w') := fun w => specUnseal_any a0 w hz
    have HI : Hid (∀ w, Calls Try.prog 11 #[.string a0] w fun e w' => e = .returned (unsealV a0) ∧ Below w.heap.size w w') := fun w => implUnseal_any a0 w hz
    obtain ⟨x, a, c, hv⟩ := unsealV_form a0
    rw [hv] at HS HI
    clear hv
    unfold textOut at HS HI
    have HQ : Hid (∀ w, Calls Try.prog 12 #[.agg #[.string x, .int .i64 a, .int .i64 c], .agg #[.string x, .int .i64 a, .int .i64 c]] w fun e w' => e = .returned (.bool true) ∧ Below w.heap.size w w') := fun w => eqText_same x a c w
    go_enter Try.func5, Try.ntmps5
    go_wp2_with fail
    refine (HS.out _).mono ?_
    rintro e w1 ⟨rfl, hb1⟩
    go_wp2_with fail
    refine (HI.out _).mono ?_
    rintro e w2 ⟨rfl, hb2⟩
    obtain ⟨hc2, hf2⟩ := bcell hb2
    have hs2 : w1.heap.size < w2.heap.size := by have := hb2.size; simp at this; omega
    go_wp2_with fail
    refine (HQ.out _).mono ?_
    rintro e w3 ⟨rfl, hb3⟩
    go_wp2
    go_ret
    refine ⟨rfl, (hb1.trans (((Below.refl w1.heap.size w1).alloc (Nat.le_refl _) _).trans (hb2.mono (by simp)) |>.mono hb1.size)).trans ?_⟩
    exact ((((Below.refl w2.heap.size w2).alloc (Nat.le_refl _) _).trans (hb3.mono (by simp))).mono (by have := hb1.size; omega))
  · go_enter Try.func5, Try.ntmps5
    go_wp2_with fail
    go_ret
    exact ⟨rfl, Below.refl _ _⟩
end Go.Proofs.Ytflgiohhkoplaae
