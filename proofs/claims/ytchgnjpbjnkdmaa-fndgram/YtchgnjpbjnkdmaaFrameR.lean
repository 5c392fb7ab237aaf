/- Is a frame right? Asked by the program and by the model. -/
import Derived.Test.YtchgnjpbjnkdmaaBaseB
namespace Go.Proofs.Ytchgnjpbjnkdmaa
open Go.RowKit

theorem after_next {B : Nat} {w w1 w2 : World} (h : Below B w w1) (h2 : Below w1.heap.size w1 w2) (hB : B ≤ w1.heap.size) : Below B w w2 := h.trans (h2.mono hB)
def frB (v : Int) (n : Nat) : Bool := decide (1 ≤ v ∧ v ≤ 4094 ∧ n ≤ 1000)
set_option maxRecDepth 100000 in
theorem isW_any (n a b : Int) (w : World) :
    Calls Try.prog 55 #[.int .i64 n, .int .i64 a, .int .i64 b] w fun e w' => e = .returned (.bool (decide (a ≤ n ∧ n ≤ b))) ∧ w = w' := by
  by_cases h1 : a ≤ n
  · by_cases h2 : n ≤ b
    · go_enter Try.func55, Try.ntmps55
      go_wp2
      go_ret
      exact ⟨ret_bool (by simp; omega), rfl⟩
    · go_enter Try.func55, Try.ntmps55
      go_wp2
      go_ret
      exact ⟨ret_bool (by simp; omega), rfl⟩
  · go_enter Try.func55, Try.ntmps55
    go_wp2
    go_ret
    exact ⟨ret_bool (by simp; omega), rfl⟩
set_option maxRecDepth 100000 in
theorem implFrameRight_any (v : Int) (t : ByteArray) (w : World) :
    Calls Try.prog 42 #[.agg #[.int .i64 v, .string t]] w fun e w' => e = .returned (.bool (frB v t.size)) ∧ Below w.heap.size w w' := by
  by_cases h1 : 1 ≤ v
  · by_cases h2 : v ≤ 4094
    · by_cases h3 : t.size ≤ 1000
      · go_enter Try.func42, Try.ntmps42
        go_wp2
        go_ret
        exact ⟨ret_bool (by unfold frB; first | (rw [decide_eq_decide]; omega) | (symm; rw [decide_eq_false_iff_not]; omega) | (symm; rw [decide_eq_true_iff]; omega)), (Below.refl _ _).alloc (Nat.le_refl _) _⟩
      · go_enter Try.func42, Try.ntmps42
        go_wp2
        go_ret
        exact ⟨ret_bool (by unfold frB; first | (rw [decide_eq_decide]; omega) | (symm; rw [decide_eq_false_iff_not]; omega) | (symm; rw [decide_eq_true_iff]; omega)), (Below.refl _ _).alloc (Nat.le_refl _) _⟩
    · go_enter Try.func42, Try.ntmps42
      go_wp2
      go_ret
      exact ⟨ret_bool (by unfold frB; first | (rw [decide_eq_decide]; omega) | (symm; rw [decide_eq_false_iff_not]; omega) | (symm; rw [decide_eq_true_iff]; omega)), (Below.refl _ _).alloc (Nat.le_refl _) _⟩
  · go_enter Try.func42, Try.ntmps42
    go_wp2
    go_ret
    exact ⟨ret_bool (by unfold frB; first | (rw [decide_eq_decide]; omega) | (symm; rw [decide_eq_false_iff_not]; omega) | (symm; rw [decide_eq_true_iff]; omega)), (Below.refl _ _).alloc (Nat.le_refl _) _⟩
set_option maxRecDepth 100000 in
theorem specFrameRight_any (v : Int) (t : ByteArray) (w : World) :
    Calls Try.prog 43 #[.agg #[.int .i64 v, .string t]] w fun e w' => e = .returned (.bool (frB v t.size)) ∧ Below w.heap.size w w' := by
  by_cases h1 : 1 ≤ v ∧ v ≤ 4094
  · have HB : Hid (decide (1 ≤ v ∧ v ≤ 4094) = true) := by simpa [Hid] using h1
    go_enter Try.func43, Try.ntmps43
    go_wp2_with fail
    refine (isW_any v 1 4094 _).mono ?_
    rintro e w1 ⟨rfl, rfl⟩
    rw [HB.out]
    by_cases h3 : t.size ≤ 1000
    · go_wp2
      go_ret
      exact ⟨ret_bool (by unfold frB; first | (rw [decide_eq_decide]; omega) | (symm; rw [decide_eq_false_iff_not]; omega) | (symm; rw [decide_eq_true_iff]; omega)), (Below.refl _ _).alloc (Nat.le_refl _) _⟩
    · go_wp2
      go_ret
      exact ⟨ret_bool (by unfold frB; first | (rw [decide_eq_decide]; omega) | (symm; rw [decide_eq_false_iff_not]; omega) | (symm; rw [decide_eq_true_iff]; omega)), (Below.refl _ _).alloc (Nat.le_refl _) _⟩
  · have HB : Hid (decide (1 ≤ v ∧ v ≤ 4094) = false) := by simpa [Hid] using h1
    go_enter Try.func43, Try.ntmps43
    go_wp2_with fail
    refine (isW_any v 1 4094 _).mono ?_
    rintro e w1 ⟨rfl, rfl⟩
    rw [HB.out]
    go_wp2
    go_ret
    exact ⟨ret_bool (by unfold frB; first | (rw [decide_eq_decide]; omega) | (symm; rw [decide_eq_false_iff_not]; omega) | (symm; rw [decide_eq_true_iff]; omega)), (Below.refl _ _).alloc (Nat.le_refl _) _⟩
end Go.Proofs.Ytchgnjpbjnkdmaa
