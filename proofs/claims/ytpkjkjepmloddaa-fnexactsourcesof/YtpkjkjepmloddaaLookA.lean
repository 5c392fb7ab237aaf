/- Is it an address? Asked by the program and by the model. -/
import Derived.Test.YtpkjkjepmloddaaPow
namespace Go.Proofs.Ytpkjkjepmloddaa
open Go.RowKit

def inAddr (a : Int) : Bool := decide (0 ≤ a ∧ a ≤ 4294967295)
set_option maxRecDepth 100000 in
theorem isAddr_any (a : Int) (w : World) : Calls Try.prog 78 #[.int .i64 a] w fun e w' => e = .returned (.bool (inAddr a)) ∧ w = w' := by
  by_cases h1 : 0 ≤ a
  · by_cases h2 : a ≤ 4294967295
    · go_enter Try.func78, Try.ntmps78
      go_wp2
      go_ret
      exact ⟨ret_bool (by simp [inAddr]; omega), rfl⟩
    · go_enter Try.func78, Try.ntmps78
      go_wp2
      go_ret
      exact ⟨ret_bool (by simp [inAddr]; omega), rfl⟩
  · go_enter Try.func78, Try.ntmps78
    go_wp2
    go_ret
    exact ⟨ret_bool (by simp [inAddr]; omega), rfl⟩
set_option maxRecDepth 100000 in
theorem l03Addr_any (a : Int) (w : World) : Calls Try.prog 75 #[.int .i64 a] w fun e w' => e = .returned (.bool (inAddr a)) ∧ w = w' := by
  have HB : Hid (decide (0 ≤ a ∧ a ≤ 4294967295) = inAddr a) := rfl
  go_enter Try.func75, Try.ntmps75
  go_wp2_with fail
  refine (l03Is_any a 0 4294967295 _).mono ?_
  rintro e w1 ⟨rfl, rfl⟩
  rw [HB.out]
  go_wp2
  go_ret
  exact ⟨rfl, rfl⟩
end Go.Proofs.Ytpkjkjepmloddaa
