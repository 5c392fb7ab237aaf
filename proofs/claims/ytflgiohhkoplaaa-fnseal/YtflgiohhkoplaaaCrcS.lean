/- The CRC of the model. -/
import Derived.Test.YtflgiohhkoplaaaCrcI
namespace Go.Proofs.Ytflgiohhkoplaaa
open Go.RowKit

set_option maxRecDepth 100000 in
set_option maxHeartbeats 400000 in
theorem specCrc_in (c : Nat) (t : ByteArray) (w : World) (hz : t.size ≤ 8000) (hc : c < 4294967296) :
    Calls Try.prog 20 #[.int .i64 c, .string t] w fun e w' => e = .returned (.int .i64 (crcOf c t.data.toList : Nat)) ∧ w = w' := by
  have h0 := ones_u32_nat c hc
  have HO : Hid (crcOf c t.data.toList = 4294967295 - crcReg (4294967295 - c) t.data.toList) := rfl
  have hr0 : 4294967295 - c < 4294967296 := by omega
  generalize crcOf c t.data.toList = O at *
  generalize 4294967295 - c = r0 at *
  go_enter Try.func20, Try.ntmps20
  go_wp2
  go_loop [5, 6, 7] (fun x i _ => ∃ k : Nat, k ≤ t.size ∧ i = .int .i64 k ∧ x = .int .u32 (crcReg r0 (t.data.toList.take k))) (fun _ i _ => t.size - (intOf i).toNat)
  case atStart => exact ⟨0, by omega, rfl, rfl⟩
  case round =>
    obtain ⟨k, hk, rfl, rfl⟩ := hrel
    have hx := crcReg_lt (t.data.toList.take k) hr0
    by_cases hlt : k < t.size
    · have HE : Hid (crcReg r0 (t.data.toList.take (k + 1)) = crcBits 8 (crcReg r0 (t.data.toList.take k) ^^^ t[k].toNat)) := by
        show _ = _
        rw [take_next t k hlt, crcReg_snoc]; rfl
      generalize crcReg r0 (t.data.toList.take k) = x at *
      have h1 := byte_u32 x t[k] hx
      have hbk := t[k].toNat_lt
      have hy := xor_byte_lt t[k] hx
      generalize x ^^^ t[k].toNat = y at *
      go_wp2
      go_loop [5, 7] (fun x i => ∃ j : Nat, j ≤ 8 ∧ i = .int .i64 j ∧ x = .int .u32 (crcBits j y)) (fun _ i => 8 - (intOf i).toNat)
      case atStart => exact ⟨0, by omega, rfl, rfl⟩
      case round =>
        obtain ⟨j, hj, rfl, rfl⟩ := hrel
        have hv := crcBits_lt j hy
        have HE2 : Hid (crcBits (j + 1) y = crcBit (crcBits j y)) := rfl
        by_cases hj8 : j < 8
        · generalize crcBits j y = v at *
          by_cases hodd : v % 2 = 1
          · have h2 := odd_u32 hv hodd
            have HP : Hid _ := poly_u32 hv hodd
            clear hodd
            go_wp2
            go_round
            case rel => exact ⟨j + 1, by omega, by go_num, by rw [HE2.out, ← HP.out]⟩
            case measure => simp [intOf]; omega
          · have h2 := even_u32 hv hodd
            have HP : Hid _ := half_u32 hodd
            clear hodd
            go_wp2
            go_round
            case rel => exact ⟨j + 1, by omega, by go_num, by rw [HE2.out, ← HP.out]⟩
            case measure => simp [intOf]; omega
        · obtain rfl : j = 8 := by omega
          go_wp2
          go_round
          case rel => exact ⟨k + 1, by omega, by go_num, by rw [HE.out]⟩
          case measure => simp [intOf]; omega
    · have HE : Hid (crcReg r0 (t.data.toList.take k) = crcReg r0 t.data.toList) := by
        show _ = _
        rw [take_all t k hlt]
      generalize crcReg r0 (t.data.toList.take k) = x at *
      have h1 := ones_u32_nat x hx
      have hx1 : 4294967295 - x < 4294967296 := by omega
      rw [← HE.out] at HO
      generalize 4294967295 - x = y at *
      go_wp2
      go_ret
      exact ⟨ret_i64 (by rw [HO.out]), rfl⟩
end Go.Proofs.Ytflgiohhkoplaaa
