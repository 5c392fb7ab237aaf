/- Within, of the program and of the model. -/
import Derived.Test.YtchgnjpbjnkdmaaCovers
import Derived.Test.YtchgnjpbjnkdmaaFour2
namespace Go.Proofs.Ytchgnjpbjnkdmaa
open Go.RowKit Go.Sort

def withinB (a l b m : Int) : Bool := rightB a l && (rightB b m && (decide (l ≤ m) && coversB a l b))
set_option maxRecDepth 100000 in
theorem implWithin_any (a l b m : Int) (w : World) : Calls Try.prog 19 #[netV a l, netV b m] w fun e w' => e = .returned (.bool (withinB a l b m)) ∧ Below w.heap.size w w' := by
  have HR : Hid (∀ w, Calls Try.prog 24 #[netV a l] w fun e w' => e = .returned (.bool (rightB a l)) ∧ Below w.heap.size w w') := implRight_any a l
  have HS : Hid (∀ w, Calls Try.prog 24 #[netV b m] w fun e w' => e = .returned (.bool (rightB b m)) ∧ Below w.heap.size w w') := implRight_any b m
  have HC : Hid (∀ w, Calls Try.prog 17 #[netV a l, .int .i64 b] w fun e w' => e = .returned (.bool (coversB a l b)) ∧ Below w.heap.size w w') := implCovers_any a l b
  have HW : Hid (withinB a l b m = (rightB a l && (rightB b m && (decide (l ≤ m) && coversB a l b)))) := rfl
  generalize withinB a l b m = R at *
  generalize coversB a l b = C at *
  generalize rightB a l = R1 at *
  generalize rightB b m = R2 at *
  unfold netV at *
  cases R1
  · go_enter Try.func19, Try.ntmps19
    go_wp2_with fail
    refine (HR.out _).mono ?_
    rintro e w1 ⟨rfl, hb1⟩
    obtain ⟨c0, c1, c2, c3, hs1, hB1⟩ := four_later hb1
    clear hb1
    go_wp2
    go_ret
    exact ⟨ret_bool (by rw [HW.out]; simp), hB1⟩
  · cases R2
    · go_enter Try.func19, Try.ntmps19
      go_wp2_with fail
      refine (HR.out _).mono ?_
      rintro e w1 ⟨rfl, hb1⟩
      obtain ⟨c0, c1, c2, c3, hs1, hB1⟩ := four_later hb1
      clear hb1
      go_wp2_with fail
      refine (HS.out _).mono ?_
      rintro e w2 ⟨rfl, hb2⟩
      have hB2 := hB1.trans (hb2.mono hB1.size)
      clear c0 c1 c2 c3 hb2
      go_wp2
      go_ret
      exact ⟨ret_bool (by rw [HW.out]; simp), hB2⟩
    · by_cases hlm : l ≤ m
      · have d : decide (l ≤ m) = true := by simpa using hlm
        go_enter Try.func19, Try.ntmps19
        go_wp2_with fail
        refine (HR.out _).mono ?_
        rintro e w1 ⟨rfl, hb1⟩
        obtain ⟨c0, c1, c2, c3, hs1, hB1⟩ := four_later hb1
        clear hb1
        go_wp2_with fail
        refine (HS.out _).mono ?_
        rintro e w2 ⟨rfl, hb2⟩
        obtain ⟨d0, d1, d2, d3⟩ := four_more c0 c1 c2 c3 hb2
        have hB2 := hB1.trans (hb2.mono hB1.size)
        clear c0 c1 c2 c3 hb2
        go_wp2_with fail
        refine (HC.out _).mono ?_
        rintro e w3 ⟨rfl, hb3⟩
        have hB3 := hB2.trans (hb3.mono hB2.size)
        clear d0 d1 d2 d3 hb3
        go_wp2
        go_ret
        exact ⟨ret_bool (by rw [HW.out, d]; simp), hB3⟩
      · have d : decide (l ≤ m) = false := by simpa using hlm
        go_enter Try.func19, Try.ntmps19
        go_wp2_with fail
        refine (HR.out _).mono ?_
        rintro e w1 ⟨rfl, hb1⟩
        obtain ⟨c0, c1, c2, c3, hs1, hB1⟩ := four_later hb1
        clear hb1
        go_wp2_with fail
        refine (HS.out _).mono ?_
        rintro e w2 ⟨rfl, hb2⟩
        obtain ⟨d0, d1, d2, d3⟩ := four_more c0 c1 c2 c3 hb2
        have hB2 := hB1.trans (hb2.mono hB1.size)
        clear c0 c1 c2 c3 hb2
        go_wp2
        go_ret
        exact ⟨ret_bool (by rw [HW.out, d]; simp), hB2⟩
end Go.Proofs.Ytchgnjpbjnkdmaa
