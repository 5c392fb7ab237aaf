/- CrcMore of the model. -/
import Derived.Test.YtflgiohhkoplaaaCrcS
namespace Go.Proofs.Ytflgiohhkoplaaa
open Go.RowKit

theorem specCrcMore_any (c : Int) (t : ByteArray) (w : World) (hz : t.size ≤ 1048576) (hc0 : -9223372036854775808 ≤ c) (hc1 : c ≤ 9223372036854775807) :
    Calls Try.prog 11 #[.int .i64 c, .string t] w fun e w' => e = .returned (.int .i64 (crcMoreB c t)) ∧ w = w' := by
  by_cases h1 : t.size ≤ 8000
  · by_cases h2 : 0 ≤ c
    · by_cases h3 : c ≤ 4294967295
      · obtain ⟨n, rfl⟩ := Int.eq_ofNat_of_zero_le h2
        have HB : Hid (crcMoreB n t = (crcOf n t.data.toList : Nat)) := by show _ = _; unfold crcMoreB; rw [if_pos ⟨h1, h2, h3⟩]; simp
        go_enter Try.func11, Try.ntmps11
        go_wp2_with fail
        refine (specCrc_in n t _ h1 (by omega)).mono ?_
        rintro e w1 ⟨rfl, rfl⟩
        go_wp2
        go_ret
        exact ⟨ret_i64 HB.out.symm, rfl⟩
      · have HB : Hid (crcMoreB c t = 0) := by show _ = _; unfold crcMoreB; rw [if_neg (by omega)]
        go_enter Try.func11, Try.ntmps11
        go_wp2
        all_goals (go_ret; exact ⟨ret_i64 HB.out.symm, rfl⟩)
    · have HB : Hid (crcMoreB c t = 0) := by show _ = _; unfold crcMoreB; rw [if_neg (by omega)]
      go_enter Try.func11, Try.ntmps11
      go_wp2
      all_goals (go_ret; exact ⟨ret_i64 HB.out.symm, rfl⟩)
  · have HB : Hid (crcMoreB c t = 0) := by show _ = _; unfold crcMoreB; rw [if_neg (by omega)]
    go_enter Try.func11, Try.ntmps11
    go_wp2
    all_goals (go_ret; exact ⟨ret_i64 HB.out.symm, rfl⟩)
end Go.Proofs.Ytflgiohhkoplaaa
