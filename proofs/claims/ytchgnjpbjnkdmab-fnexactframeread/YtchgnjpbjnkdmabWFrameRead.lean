/- The walk of the law on FrameRead. -/
import Derived.Test.YtchgnjpbjnkdmabFReadI
import Derived.Test.YtchgnjpbjnkdmabFReadS
namespace Go.Proofs.Ytchgnjpbjnkdmab
open Go.RowKit

set_option maxRecDepth 100000 in
theorem eqFrame_same (v : Int) (t : ByteArray) (w : World) : Calls Try.prog 31 #[.agg #[.int .i64 v, .string t], .agg #[.int .i64 v, .string t]] w fun e w' => e = .returned (.bool true) ∧ Below w.heap.size w w' := by
  have h1 : (v != v) = false := by simp
  go_enter Try.func31, Try.ntmps31
  go_wp2
  go_ret
  exact ⟨rfl, ((Below.refl _ _).alloc (Nat.le_refl _) _).alloc (by simp) _⟩
set_option maxRecDepth 100000 in
theorem eqFrameO_same (v : Int) (t : ByteArray) (c : Int) (w : World) : Calls Try.prog 18 #[.agg #[.int .i64 v, .string t, .int .i64 c], .agg #[.int .i64 v, .string t, .int .i64 c]] w fun e w' => e = .returned (.bool true) ∧ Below w.heap.size w w' := by
  have h3 : (c != c) = false := by simp
  have HE : Hid (∀ w, Calls Try.prog 31 #[.agg #[.int .i64 v, .string t], .agg #[.int .i64 v, .string t]] w fun e w' => e = .returned (.bool true) ∧ Below w.heap.size w w') := eqFrame_same v t
  go_enter Try.func18, Try.ntmps18
  go_wp2_with fail
  refine (HE.out _).mono ?_
  rintro e w1 ⟨rfl, hb1⟩
  obtain ⟨hc1, hf1⟩ := bcell hb1
  have hB : Below w.heap.size w w1 := (((Below.refl _ _).alloc (Nat.le_refl _) _).alloc (by simp) _).trans (hb1.mono (by simp; omega))
  have c0 := hc1 w.heap.size 2 (by simp; omega)
  have c1 := hc1 (w.heap.size + 1) 2 (by simp)
  go_wp2
  go_ret
  exact ⟨rfl, hB⟩
set_option maxRecDepth 100000 in
theorem fnExactFrameRead_walk (a0 : ByteArray) (w : World) (w0 : a0.size ≤ maxLen) :
    Calls Try.prog 6 #[.string a0] w fun e w' => e = .returned (.bool true) ∧ Below w.heap.size w w' := by
  unfold maxLen at w0
  by_cases hz : a0.size ≤ 1048576
  · have HS : Hid (∀ w, Calls Try.prog 16 #[.string a0] w fun e w' => e = .returned (frRead a0) ∧ Below w.heap.size w w') := fun w => specFrameRead_any a0 w hz
    have HI : Hid (∀ w, Calls Try.prog 17 #[.string a0] w fun e w' => e = .returned (frRead a0) ∧ Below w.heap.size w w') := fun w => implFrameRead_any a0 w hz
    obtain ⟨v, d, c, hv⟩ := frRead_form a0
    rw [hv] at HS HI
    clear hv
    unfold frOut at HS HI
    have HQ : Hid (∀ w, Calls Try.prog 18 #[.agg #[.int .i64 v, .string d, .int .i64 c], .agg #[.int .i64 v, .string d, .int .i64 c]] w fun e w' => e = .returned (.bool true) ∧ Below w.heap.size w w') := fun w => eqFrameO_same v d c w
    go_enter Try.func6, Try.ntmps6
    go_wp2_with fail
    refine (HS.out _).mono ?_
    rintro e w1 ⟨rfl, hb1⟩
    go_wp2_with fail
    refine (HI.out _).mono ?_
    rintro e w2 ⟨rfl, hb2⟩
    obtain ⟨hc2, hf2⟩ := bcell hb2
    have hs2 : w1.heap.size < w2.heap.size := by have := hb2.size; simp at this; omega
    go_wp2_with fail
    refine (HQ.out _).mono ?_
    rintro e w3 ⟨rfl, hb3⟩
    go_wp2
    go_ret
    refine ⟨rfl, (hb1.trans (((Below.refl w1.heap.size w1).alloc (Nat.le_refl _) _).trans (hb2.mono (by simp)) |>.mono hb1.size)).trans ?_⟩
    exact ((((Below.refl w2.heap.size w2).alloc (Nat.le_refl _) _).trans (hb3.mono (by simp))).mono (by have := hb1.size; omega))
  · go_enter Try.func6, Try.ntmps6
    go_wp2_with fail
    go_ret
    exact ⟨rfl, Below.refl _ _⟩
end Go.Proofs.Ytchgnjpbjnkdmab
