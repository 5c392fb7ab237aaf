/- Within of the model. -/
import Derived.Test.YtchgnjpbjnkdmaaWithin
import Derived.Test.YtchgnjpbjnkdmaaCoverL
namespace Go.Proofs.Ytchgnjpbjnkdmaa
open Go.RowKit Go.Sort

set_option maxRecDepth 100000 in
theorem specWithin_any (a l b m : Int) (w : World) : Calls Try.prog 20 #[netV a l, netV b m] w fun e w' => e = .returned (.bool (withinB a l b m)) ∧ Below w.heap.size w w' := by
  have HR : Hid (∀ w, Calls Try.prog 23 #[netV a l] w fun e w' => e = .returned (.bool (rightB a l)) ∧ Below w.heap.size w w') := specRight_any a l
  have HS : Hid (∀ w, Calls Try.prog 23 #[netV b m] w fun e w' => e = .returned (.bool (rightB b m)) ∧ Below w.heap.size w w') := specRight_any b m
  have HC : Hid (rightB a l = true → rightB b m = true → ∀ w, Calls Try.prog 57 #[netV a l, .int .i64 b] w fun e w' => e = .returned (.bool (coversB a l b)) ∧ Below w.heap.size w w') := by
    intro hr hs w
    have h : 0 ≤ a ∧ a ≤ 4294967295 ∧ 0 ≤ l ∧ l ≤ 32 ∧ cutV a l = a := by simpa [rightB] using hr
    have h2 : 0 ≤ b ∧ b ≤ 4294967295 ∧ 0 ≤ m ∧ m ≤ 32 ∧ cutV b m = b := by simpa [rightB] using hs
    have := l03Covers_any a l b w h2.1 h2.2.1 h.2.2.1 h.2.2.2.1
    have hi : inAddr b = true := by simp [inAddr]; omega
    unfold coversB
    rw [hr, hi]
    simpa using this
  have HW : Hid (withinB a l b m = (rightB a l && (rightB b m && (decide (l ≤ m) && coversB a l b)))) := rfl
  generalize withinB a l b m = R at *
  generalize coversB a l b = C at *
  generalize rightB a l = R1 at *
  generalize rightB b m = R2 at *
  unfold netV at *
  cases R1
  · go_enter Try.func20, Try.ntmps20
    go_wp2_with fail
    refine (HR.out _).mono ?_
    rintro e w1 ⟨rfl, hb1⟩
    obtain ⟨c0, c1, c2, c3, hs1, hB1⟩ := four_later hb1
    clear hb1
    go_wp2
    go_ret
    exact ⟨ret_bool (by rw [HW.out]; simp), hB1⟩
  · cases R2
    · go_enter Try.func20, Try.ntmps20
      go_wp2_with fail
      refine (HR.out _).mono ?_
      rintro e w1 ⟨rfl, hb1⟩
      obtain ⟨c0, c1, c2, c3, hs1, hB1⟩ := four_later hb1
      clear hb1
      go_wp2_with fail
      refine (HS.out _).mono ?_
      rintro e w2 ⟨rfl, hb2⟩
      have hB2 := hB1.trans (hb2.mono hB1.size)
      clear c0 c1 c2 c3 hb2
      go_wp2
      go_ret
      exact ⟨ret_bool (by rw [HW.out]; simp), hB2⟩
    · by_cases hlm : l ≤ m
      · have d : decide (l ≤ m) = true := by simpa using hlm
        have HCC : Hid (∀ w, Calls Try.prog 57 #[.agg #[.int .i64 a, .int .i64 l], .int .i64 b] w fun e w' => e = .returned (.bool C) ∧ Below w.heap.size w w') := HC.out rfl rfl
        clear HC
        go_enter Try.func20, Try.ntmps20
        go_wp2_with fail
        refine (HR.out _).mono ?_
        rintro e w1 ⟨rfl, hb1⟩
        obtain ⟨c0, c1, c2, c3, hs1, hB1⟩ := four_later hb1
        clear hb1
        go_wp2_with fail
        refine (HS.out _).mono ?_
        rintro e w2 ⟨rfl, hb2⟩
        obtain ⟨d0, d1, d2, d3⟩ := four_more c0 c1 c2 c3 hb2
        have hB2 := hB1.trans (hb2.mono hB1.size)
        clear c0 c1 c2 c3 hb2
        go_wp2_with fail
        refine (HCC.out _).mono ?_
        rintro e w3 ⟨rfl, hb3⟩
        have hB3 := hB2.trans (hb3.mono hB2.size)
        clear d0 d1 d2 d3 hb3
        go_wp2
        go_ret
        exact ⟨ret_bool (by rw [HW.out, d]; simp), hB3⟩
      · have d : decide (l ≤ m) = false := by simpa using hlm
        go_enter Try.func20, Try.ntmps20
        go_wp2_with fail
        refine (HR.out _).mono ?_
        rintro e w1 ⟨rfl, hb1⟩
        obtain ⟨c0, c1, c2, c3, hs1, hB1⟩ := four_later hb1
        clear hb1
        go_wp2_with fail
        refine (HS.out _).mono ?_
        rintro e w2 ⟨rfl, hb2⟩
        obtain ⟨d0, d1, d2, d3⟩ := four_more c0 c1 c2 c3 hb2
        have hB2 := hB1.trans (hb2.mono hB1.size)
        clear c0 c1 c2 c3 hb2
        go_wp2
        go_ret
        exact ⟨ret_bool (by rw [HW.out, d]; simp), hB2⟩
end Go.Proofs.Ytchgnjpbjnkdmaa
