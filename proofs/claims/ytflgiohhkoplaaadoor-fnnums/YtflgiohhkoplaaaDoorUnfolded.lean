/- unfolded: the number that u stands for. -/
import Derived.Test.YtflgiohhkoplaaaDoorGetMath
import Derived.Laws.DeepNot64
namespace Go.Proofs.YtflgiohhkoplaaaDoor
open Go.RowKit

theorem and_one_u64' (r : Nat) (h : r < 18446744073709551616) : bits .and .u64 (r : Int) 1 = ((r % 2 : Nat) : Int) := by
  have := u64_and_nat r 1 h (by omega)
  rw [nat_mask1] at this
  exact this
theorem unfolded_any (u : Nat) (w : World) (hu : u < 18446744073709551616) :
    Calls Tryd.prog 26 #[.int .u64 u] w fun e w' => e = .returned (.int .i64 (unfoldN u)) ∧ w = w' := by
  have ha := and_one_u64' u hu
  by_cases hodd : u % 2 = 1
  · have HU : Hid (unfoldN u = -((u / 2 : Nat) : Int) - 1) := unfoldN_odd hodd
    have hb : (((u % 2 : Nat) : Int) == 1) = true := by simp; omega
    rw [hodd] at hb ha
    clear hodd
    go_enter Tryd.func26, Tryd.ntmps26
    go_wp2
    go_ret
    exact ⟨ret_i64 (by rw [HU.out]; have e := i64_not (u / 2) (by omega); rw [show ((u / 2 : Nat) : Int) = (u : Int) / 2 by omega] at *; rw [e]; omega), rfl⟩
  · have HU : Hid (unfoldN u = ((u / 2 : Nat) : Int)) := unfoldN_even hodd
    rw [show u % 2 = 0 by omega] at ha
    clear hodd
    go_enter Tryd.func26, Tryd.ntmps26
    go_wp2
    go_ret
    exact ⟨ret_i64 (by rw [HU.out]; omega), rfl⟩
end Go.Proofs.YtflgiohhkoplaaaDoor
