/- Covers of the model. -/
import Derived.Test.YtflmbkjnlgibnaaCoverL
namespace Go.Proofs.Ytflmbkjnlgibnaa
open Go.RowKit Go.Sort

set_option maxRecDepth 100000 in
theorem specCovers_any (a l x : Int) (w : World) : Calls Try.prog 95 #[netV a l, .int .i64 x] w fun e w' => e = .returned (.bool (coversB a l x)) ∧ Below w.heap.size w w' := by
  have HR : Hid (∀ w, Calls Try.prog 63 #[netV a l] w fun e w' => e = .returned (.bool (rightB a l)) ∧ Below w.heap.size w w') := specRight_any a l
  have HA : Hid (∀ w, Calls Try.prog 89 #[.int .i64 x] w fun e w' => e = .returned (.bool (inAddr x)) ∧ w = w') := l03Addr_any x
  by_cases hr : rightB a l = true
  · by_cases hx : inAddr x = true
    · have h : 0 ≤ a ∧ a ≤ 4294967295 ∧ 0 ≤ l ∧ l ≤ 32 ∧ cutV a l = a := by simpa [rightB] using hr
      have h2 : 0 ≤ x ∧ x ≤ 4294967295 := by simpa [inAddr] using hx
      have HL : Hid (∀ w, Calls Try.prog 90 #[netV a l, .int .i64 x] w fun e w' => e = .returned (.bool (coversB a l x)) ∧ Below w.heap.size w w') := by
        intro w
        have := l03Covers_any a l x w h2.1 h2.2 h.2.2.1 h.2.2.2.1
        unfold coversB
        rw [hr, hx]
        simpa using this
      rw [hr] at HR
      rw [hx] at HA
      clear h h2 hr hx
      generalize coversB a l x = R at *
      unfold netV at *
      go_enter Try.func95, Try.ntmps95
      go_wp2_with fail
      refine (HR.out _).mono ?_
      rintro e w1 ⟨rfl, hb1⟩
      obtain ⟨c0, c1, hs1, hB1⟩ := cell2_later rfl hb1
      clear hb1
      go_wp2_with fail
      refine (HA.out _).mono ?_
      rintro e w2 ⟨rfl, rfl⟩
      go_wp2_with fail
      refine (HL.out _).mono ?_
      rintro e w2 ⟨rfl, hb2⟩
      go_wp2
      go_ret
      exact ⟨rfl, hB1.trans (hb2.mono hB1.size)⟩
    · have hx' : inAddr x = false := by simpa using hx
      have HC : Hid (coversB a l x = false) := by show _ = _; unfold coversB; rw [hx']; simp
      rw [hr] at HR
      rw [hx'] at HA
      clear hr hx hx'
      generalize coversB a l x = R at *
      unfold netV at *
      go_enter Try.func95, Try.ntmps95
      go_wp2_with fail
      refine (HR.out _).mono ?_
      rintro e w1 ⟨rfl, hb1⟩
      obtain ⟨c0, c1, hs1, hB1⟩ := cell2_later rfl hb1
      clear hb1
      go_wp2_with fail
      refine (HA.out _).mono ?_
      rintro e w2 ⟨rfl, rfl⟩
      go_wp2
      go_ret
      exact ⟨ret_bool HC.out.symm, hB1⟩
  · have hr' : rightB a l = false := by simpa using hr
    have HC : Hid (coversB a l x = false) := by show _ = _; unfold coversB; rw [hr']; simp
    rw [hr'] at HR
    clear hr hr' HA
    generalize coversB a l x = R at *
    unfold netV at *
    go_enter Try.func95, Try.ntmps95
    go_wp2_with fail
    refine (HR.out _).mono ?_
    rintro e w1 ⟨rfl, hb1⟩
    obtain ⟨c0, c1, hs1, hB1⟩ := cell2_later rfl hb1
    clear hb1
    go_wp2
    go_ret
    exact ⟨ret_bool HC.out.symm, hB1⟩
end Go.Proofs.Ytflmbkjnlgibnaa
