/- NetLess of the program; less, of the model. -/
import Derived.Test.YtflmbkjnlgibnaaFour2
namespace Go.Proofs.Ytflmbkjnlgibnaa
open Go.RowKit Go.Sort

def lessB (a l b m : Int) : Bool := rightB a l && (rightB b m && (decide (a < b) || (a == b && decide (l < m))))
set_option maxRecDepth 100000 in
theorem l03Less_any (a l b m : Int) (w : World) : Calls Try.prog 73 #[netV a l, netV b m] w fun e w' => e = .returned (.bool (decide (a < b) || (a == b && decide (l < m)))) ∧ Below w.heap.size w w' := by
  unfold netV
  rcases Int.lt_trichotomy a b with h | h | h
  · have d1 : decide (a < b) = true := by simpa using h
    go_enter Try.func73, Try.ntmps73
    go_wp2
    go_ret
    exact ⟨ret_bool (by simp [h]), ((Below.refl _ _).alloc (Nat.le_refl _) _).alloc (by simp) _⟩
  · subst h
    have d1 : decide (a < a) = false := by simp
    have d2 : (a == a) = true := by simp
    go_enter Try.func73, Try.ntmps73
    go_wp2
    all_goals
      go_ret
      exact ⟨ret_bool (by simp [*]), ((Below.refl _ _).alloc (Nat.le_refl _) _).alloc (by simp) _⟩
  · have d1 : decide (a < b) = false := by simp; omega
    have d2 : (a == b) = false := by simp; omega
    go_enter Try.func73, Try.ntmps73
    go_wp2
    go_ret
    exact ⟨ret_bool (by simp [d1, d2]), ((Below.refl _ _).alloc (Nat.le_refl _) _).alloc (by simp) _⟩
set_option maxRecDepth 100000 in
theorem implLess_any (a l b m : Int) (w : World) : Calls Try.prog 78 #[netV a l, netV b m] w fun e w' => e = .returned (.bool (lessB a l b m)) ∧ Below w.heap.size w w' := by
  have HR : Hid (∀ w, Calls Try.prog 66 #[netV a l] w fun e w' => e = .returned (.bool (rightB a l)) ∧ Below w.heap.size w w') := implRight_any a l
  have HS : Hid (∀ w, Calls Try.prog 66 #[netV b m] w fun e w' => e = .returned (.bool (rightB b m)) ∧ Below w.heap.size w w') := implRight_any b m
  have HW : Hid (lessB a l b m = (rightB a l && (rightB b m && (decide (a < b) || (a == b && decide (l < m)))))) := rfl
  generalize lessB a l b m = R at *
  generalize rightB a l = R1 at *
  generalize rightB b m = R2 at *
  unfold netV at *
  cases R1
  · go_enter Try.func78, Try.ntmps78
    go_wp2_with fail
    refine (HR.out _).mono ?_
    rintro e w1 ⟨rfl, hb1⟩
    obtain ⟨c0, c1, c2, c3, hs1, hB1⟩ := four_later hb1
    clear hb1
    go_wp2
    go_ret
    exact ⟨ret_bool (by rw [HW.out]; simp), hB1⟩
  · cases R2
    · go_enter Try.func78, Try.ntmps78
      go_wp2_with fail
      refine (HR.out _).mono ?_
      rintro e w1 ⟨rfl, hb1⟩
      obtain ⟨c0, c1, c2, c3, hs1, hB1⟩ := four_later hb1
      clear hb1
      go_wp2_with fail
      refine (HS.out _).mono ?_
      rintro e w2 ⟨rfl, hb2⟩
      have hB2 := hB1.trans (hb2.mono hB1.size)
      clear c0 c1 c2 c3 hb2
      go_wp2
      go_ret
      exact ⟨ret_bool (by rw [HW.out]; simp), hB2⟩
    · by_cases hab : a = b
      · have d1 : (a != b) = false := by simpa using hab
        have HAB : Hid (a = b) := hab
        clear hab
        go_enter Try.func78, Try.ntmps78
        go_wp2_with fail
        refine (HR.out _).mono ?_
        rintro e w1 ⟨rfl, hb1⟩
        obtain ⟨c0, c1, c2, c3, hs1, hB1⟩ := four_later hb1
        clear hb1
        go_wp2_with fail
        refine (HS.out _).mono ?_
        rintro e w2 ⟨rfl, hb2⟩
        obtain ⟨e0, e1, e2, e3⟩ := four_more c0 c1 c2 c3 hb2
        have hB2 := hB1.trans (hb2.mono hB1.size)
        clear c0 c1 c2 c3 hb2
        go_wp2
        go_ret
        refine ⟨ret_bool ?_, hB2⟩
        rw [HW.out, HAB.out]
        simp
      · have d1 : (a != b) = true := by simpa using hab
        have HAB : Hid (¬ a = b) := hab
        clear hab
        go_enter Try.func78, Try.ntmps78
        go_wp2_with fail
        refine (HR.out _).mono ?_
        rintro e w1 ⟨rfl, hb1⟩
        obtain ⟨c0, c1, c2, c3, hs1, hB1⟩ := four_later hb1
        clear hb1
        go_wp2_with fail
        refine (HS.out _).mono ?_
        rintro e w2 ⟨rfl, hb2⟩
        obtain ⟨e0, e1, e2, e3⟩ := four_more c0 c1 c2 c3 hb2
        have hB2 := hB1.trans (hb2.mono hB1.size)
        clear c0 c1 c2 c3 hb2
        go_wp2
        go_ret
        refine ⟨ret_bool ?_, hB2⟩
        rw [HW.out]
        simp [HAB.out]
end Go.Proofs.Ytflmbkjnlgibnaa
