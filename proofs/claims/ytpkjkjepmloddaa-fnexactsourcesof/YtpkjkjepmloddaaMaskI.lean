/- Masks of the program. -/
import Derived.Test.YtpkjkjepmloddaaPow
namespace Go.Proofs.Ytpkjkjepmloddaa
open Go.RowKit

set_option maxRecDepth 100000 in
theorem implMask_any (l : Int) (w : World) :
    Calls Try.prog 119 #[.int .i64 l] w fun e w' => e = .returned (.int .i64 (maskV l)) ∧ w = w' := by
  by_cases h0 : 0 ≤ l
  · by_cases h1 : l ≤ 32
    · have hd : Hid _ := down_up l h0 h1
      have hr := maskV_range l
      go_enter Try.func119, Try.ntmps119
      go_wp2
      go_ret
      exact ⟨ret_i64 (by rw [hd.out, wrap64_in _ (by omega) (by omega)]), rfl⟩
    · rw [maskV_out l (by omega)]
      go_enter Try.func119, Try.ntmps119
      go_wp2
      go_ret
      exact ⟨rfl, rfl⟩
  · rw [maskV_out l (by omega)]
    go_enter Try.func119, Try.ntmps119
    go_wp2
    go_ret
    exact ⟨rfl, rfl⟩
end Go.Proofs.Ytpkjkjepmloddaa
