/- Masks of the model. -/
import Derived.Test.YtehiipddbgoajaaPow
namespace Go.Proofs.Ytehiipddbgoajaa
open Go.RowKit

set_option maxRecDepth 100000 in
theorem specMask_any (l : Int) (w : World) :
    Calls Try.prog 34 #[.int .i64 l] w fun e w' => e = .returned (.int .i64 (maskV l)) ∧ w = w' := by
  by_cases h : 0 ≤ l ∧ l ≤ 32
  · have hm := maskV_in l h.1 h.2
    have HM : Hid _ := hm
    have HC : Hid (∀ w, Calls Try.prog 36 #[.int .i64 (32 - l)] w fun e w' => e = .returned (.int .i64 (gap l : Int)) ∧ w = w') := fun w => l03Pow_at l (32 - l) w h.1 h.2 rfl
    have hd : decide (0 ≤ l ∧ l ≤ 32) = true := by simpa using h
    have hg := gap_le l
    have hg1 := gap_pos l
    obtain ⟨h0, h1⟩ := h
    clear hm
    go_enter Try.func34, Try.ntmps34
    go_wp2_with fail
    refine (l03Is_any l 0 32 _).mono ?_
    rintro e w1 ⟨rfl, rfl⟩
    rw [hd]
    go_wp2_with fail
    refine (HC.out _).mono ?_
    rintro e w1 ⟨rfl, rfl⟩
    go_wp2
    go_ret
    exact ⟨ret_i64 (by rw [HM.out]), rfl⟩
  · rw [maskV_out l h]
    have hd : decide (0 ≤ l ∧ l ≤ 32) = false := by simpa using h
    go_enter Try.func34, Try.ntmps34
    go_wp2_with fail
    refine (l03Is_any l 0 32 _).mono ?_
    rintro e w1 ⟨rfl, rfl⟩
    rw [hd]
    go_wp2
    go_ret
    exact ⟨rfl, rfl⟩
end Go.Proofs.Ytehiipddbgoajaa
