/- The CRC of the program. -/
import Derived.Test.YtflgiohhkoplaaaBase
import Derived.Test.YtflgiohhkoplaaaCrcMath
namespace Go.Proofs.Ytflgiohhkoplaaa
open Go.RowKit

set_option maxRecDepth 100000 in
theorem crcShift_any (r : Nat) (b : UInt8) (w : World) (hr : r < 4294967296) :
    Calls Try.prog 23 #[.int .u32 r, .int .u8 b.toNat] w fun e w' => e = .returned (.int .u32 (crcByte r b)) ∧ w = w' := by
  have hb := b.toNat_lt
  go_enter Try.func23, Try.ntmps23
  go_wp2
  rw [byte_u32 r b hr]
  go_loop [0, 10] (fun x i => ∃ k : Nat, k ≤ 8 ∧ i = .int .i64 k ∧ x = .int .u32 (crcBits k (r ^^^ b.toNat))) (fun _ i => 8 - (intOf i).toNat)
  case atStart => exact ⟨0, by omega, rfl, rfl⟩
  case round =>
    obtain ⟨k, hk, rfl, rfl⟩ := hrel
    have hx := crcBits_lt k (xor_byte_lt b hr)
    have HE : Hid (crcBits (k + 1) (r ^^^ b.toNat) = crcBit (crcBits k (r ^^^ b.toNat))) := rfl
    have HB : Hid (crcByte r b = crcBits 8 (r ^^^ b.toNat)) := rfl
    by_cases hlt : k < 8
    · generalize crcBits k (r ^^^ b.toNat) = x at *
      by_cases hodd : x % 2 = 1
      · have h1 := odd_u32 hx hodd
        have HP : Hid _ := poly_u32 hx hodd
        clear hodd
        go_wp2
        go_round
        case rel => exact ⟨k + 1, by omega, by go_num, by rw [HE.out, ← HP.out]⟩
        case measure => simp [intOf]; omega
      · have h1 := even_u32 hx hodd
        have HP : Hid _ := half_u32 hodd
        clear hodd
        go_wp2
        go_round
        case rel => exact ⟨k + 1, by omega, by go_num, by rw [HE.out, ← HP.out]⟩
        case measure => simp [intOf]; omega
    · obtain rfl : k = 8 := by omega
      go_wp2
      go_ret
      exact ⟨ret_u32 (by rw [HB.out]), rfl⟩
def crcMoreB (crc : Int) (t : ByteArray) : Int := if t.size ≤ 8000 ∧ 0 ≤ crc ∧ crc ≤ 4294967295 then (crcOf crc.toNat t.data.toList : Nat) else 0
set_option maxRecDepth 100000 in
theorem implCrcMore_in (c : Nat) (t : ByteArray) (w : World) (hz : t.size ≤ 8000) (hc : c < 4294967296) :
    Calls Try.prog 10 #[.int .i64 c, .string t] w fun e w' => e = .returned (.int .i64 (crcOf c t.data.toList : Nat)) ∧ w = w' := by
  have h0 := ones_u32_left c hc
  have HO : Hid (crcOf c t.data.toList = 4294967295 - crcReg (4294967295 - c) t.data.toList) := rfl
  have hr0 : 4294967295 - c < 4294967296 := by omega
  generalize crcOf c t.data.toList = O at *
  generalize 4294967295 - c = r0 at *
  go_enter Try.func10, Try.ntmps10
  go_wp2
  go_loop [5, 23] (fun x i => ∃ k : Nat, k ≤ t.size ∧ i = .int .i64 k ∧ x = .int .u32 (crcReg r0 (t.data.toList.take k))) (fun _ i => t.size - (intOf i).toNat)
  case atStart => exact ⟨0, by omega, rfl, rfl⟩
  case round =>
    obtain ⟨k, hk, rfl, rfl⟩ := hrel
    have hx := crcReg_lt (t.data.toList.take k) hr0
    by_cases hlt : k < t.size
    · have HE : Hid (crcReg r0 (t.data.toList.take (k + 1)) = crcByte (crcReg r0 (t.data.toList.take k)) t[k]) := by
        show _ = _
        rw [take_next t k hlt, crcReg_snoc]
      generalize crcReg r0 (t.data.toList.take k) = x at *
      go_wp2_with (go_at_call 23; refine (crcShift_any _ _ _ hx).mono ?_; rintro e w' ⟨rfl, rfl⟩)
      go_round
      case rel => exact ⟨k + 1, by omega, by go_num, by rw [HE.out]⟩
      case measure => simp [intOf]; omega
    · have HE : Hid (crcReg r0 (t.data.toList.take k) = crcReg r0 t.data.toList) := by
        show _ = _
        rw [take_all t k hlt]
      generalize crcReg r0 (t.data.toList.take k) = x at *
      have h1 := ones_u32_left x hx
      have hx1 : 4294967295 - x < 4294967296 := by omega
      rw [← HE.out] at HO
      generalize 4294967295 - x = y at *
      go_wp2
      go_ret
      exact ⟨ret_i64 (by rw [HO.out]), rfl⟩
theorem implCrcMore_any (c : Int) (t : ByteArray) (w : World) (hz : t.size ≤ 1048576) (hc0 : -9223372036854775808 ≤ c) (hc1 : c ≤ 9223372036854775807) :
    Calls Try.prog 10 #[.int .i64 c, .string t] w fun e w' => e = .returned (.int .i64 (crcMoreB c t)) ∧ w = w' := by
  by_cases h1 : t.size ≤ 8000
  · by_cases h2 : 0 ≤ c
    · by_cases h3 : c ≤ 4294967295
      · obtain ⟨n, rfl⟩ := Int.eq_ofNat_of_zero_le h2
        have HB : crcMoreB n t = (crcOf n t.data.toList : Nat) := by unfold crcMoreB; rw [if_pos ⟨h1, h2, h3⟩]; simp
        rw [HB]
        exact implCrcMore_in n t w h1 (by omega)
      · have HB : Hid (crcMoreB c t = 0) := by show _ = _; unfold crcMoreB; rw [if_neg (by omega)]
        go_enter Try.func10, Try.ntmps10
        go_wp2
        all_goals (go_ret; exact ⟨ret_i64 HB.out.symm, rfl⟩)
    · have HB : Hid (crcMoreB c t = 0) := by show _ = _; unfold crcMoreB; rw [if_neg (by omega)]
      go_enter Try.func10, Try.ntmps10
      go_wp2
      all_goals (go_ret; exact ⟨ret_i64 HB.out.symm, rfl⟩)
  · have HB : Hid (crcMoreB c t = 0) := by show _ = _; unfold crcMoreB; rw [if_neg (by omega)]
    go_enter Try.func10, Try.ntmps10
    go_wp2
    all_goals (go_ret; exact ⟨ret_i64 HB.out.symm, rfl⟩)
end Go.Proofs.Ytflgiohhkoplaaa
