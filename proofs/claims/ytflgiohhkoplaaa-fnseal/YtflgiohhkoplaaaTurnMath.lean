/- With one byte turned a seal is refused: a register goes on one to one. -/
import Derived.Test.YtflgiohhkoplaaaUnsealM
namespace Go.Proofs.Ytflgiohhkoplaaa
open Go.RowKit

theorem half_xor (a b : Nat) : (a ^^^ b) / 2 = a / 2 ^^^ b / 2 := by
  have := Nat.shiftRight_xor_distrib (a := a) (b := b) (i := 1)
  simpa [Nat.shiftRight_eq_div_pow] using this
theorem crcBit_inj {a b : Nat} (ha : a < 4294967296) (hb : b < 4294967296) (h : crcBit a = crcBit b) : a = b := by
  have top : ∀ x, x < 2147483648 → 2147483648 ≤ x ^^^ 3988292384 := by
    intro x hx
    rcases Nat.lt_or_ge (x ^^^ 3988292384) 2147483648 with hl | hl
    · exfalso
      have h2 : x ^^^ (x ^^^ 3988292384) < 2 ^ 31 := Nat.xor_lt_two_pow (n := 31) (by omega) (by omega)
      rw [← Nat.xor_assoc, Nat.xor_self, Nat.zero_xor] at h2
      omega
    · exact hl
  unfold crcBit at h
  by_cases h1 : a % 2 = 1
  · by_cases h2 : b % 2 = 1
    · rw [if_pos h1, if_pos h2] at h
      have h3 := congrArg (fun x => x ^^^ 3988292384) h
      simp only [Nat.xor_assoc, Nat.xor_self, Nat.xor_zero] at h3
      omega
    · rw [if_pos h1, if_neg h2] at h
      have := top (a / 2) (by omega)
      omega
  · by_cases h2 : b % 2 = 1
    · rw [if_neg h1, if_pos h2] at h
      have := top (b / 2) (by omega)
      omega
    · rw [if_neg h1, if_neg h2] at h
      omega
theorem crcBits_inj {a b : Nat} (k : Nat) (ha : a < 4294967296) (hb : b < 4294967296) (h : crcBits k a = crcBits k b) : a = b := by
  induction k with
  | zero => exact h
  | succ k ih => exact ih (crcBit_inj (crcBits_lt k ha) (crcBits_lt k hb) h)
theorem xor_cancel_right {a b c : Nat} (h : a ^^^ c = b ^^^ c) : a = b := by
  have := congrArg (fun x => x ^^^ c) h
  simpa [Nat.xor_assoc] using this
theorem xor_cancel_left {a b c : Nat} (h : c ^^^ a = c ^^^ b) : a = b := xor_cancel_right (c := c) (by rw [Nat.xor_comm a, Nat.xor_comm b]; exact h)
theorem crcByte_inj_reg {r s : Nat} {b : UInt8} (hr : r < 4294967296) (hs : s < 4294967296) (h : crcByte r b = crcByte s b) : r = s :=
  xor_cancel_right (crcBits_inj 8 (xor_byte_lt b hr) (xor_byte_lt b hs) h)
theorem crcByte_inj_byte {r : Nat} {b c : UInt8} (hr : r < 4294967296) (h : crcByte r b = crcByte r c) : b = c :=
  UInt8.toNat_inj.1 (xor_cancel_left (crcBits_inj 8 (xor_byte_lt b hr) (xor_byte_lt c hr) h))
theorem crcReg_inj {r s : Nat} (l : List UInt8) (hr : r < 4294967296) (hs : s < 4294967296) (h : crcReg r l = crcReg s l) : r = s := by
  induction l generalizing r s with
  | nil => exact h
  | cons b l ih => exact crcByte_inj_reg hr hs (ih (crcByte_lt b hr) (crcByte_lt b hs) h)
theorem crcOf_turned (l m : List UInt8) (b c : UInt8) (h : crcOf 0 (l ++ b :: m) = crcOf 0 (l ++ c :: m)) : b = c := by
  unfold crcOf at h
  have h1 := crcReg_lt (r := 4294967295 - 0) (l ++ b :: m) (by omega)
  have h2 := crcReg_lt (r := 4294967295 - 0) (l ++ c :: m) (by omega)
  have h3 : crcReg (4294967295 - 0) (l ++ b :: m) = crcReg (4294967295 - 0) (l ++ c :: m) := by omega
  rw [crcReg_append, crcReg_append] at h3
  have h4 := crcReg_lt (r := 4294967295 - 0) l (by omega)
  exact crcByte_inj_byte h4 (crcReg_inj m (crcByte_lt b h4) (crcByte_lt c h4) h3)
theorem fourB_inj {a b : Nat} (ha : a < 4294967296) (hb : b < 4294967296) (h : fourB a = fourB b) : a = b := by
  simp only [fourB, List.cons.injEq, and_true] at h
  obtain ⟨h1, h2, h3, h4⟩ := h
  have k1 := congrArg UInt8.toNat h1
  have k2 := congrArg UInt8.toNat h2
  have k3 := congrArg UInt8.toNat h3
  have k4 := congrArg UInt8.toNat h4
  simp only [UInt8.toNat_ofNat', Nat.mod_mod] at k1 k2 k3 k4
  omega
/-- A seal, its byte at place i another one: no seal. -/
theorem sealT_turned (t : ByteArray) (i : Nat) (c : UInt8) (hz : t.size ≤ 7996) (hi : i < (sealT t).size) (hne : (sealT t).data.toList[i]? ≠ some c) (s : ByteArray) (hs : s.data.toList = (sealT t).data.toList.set i c) : ¬ sealT (bodyT s) = s := by
  have hst := sealT_in t hz
  have hL : (sealT t).data.toList = t.data.toList ++ fourB (crcT t) := by rw [hst]; simp [fourT]
  have htl : t.data.toList.length = t.size := by simp
  have hfl : (fourB (crcT t)).length = 4 := rfl
  have hsz : s.size = t.size + 4 := by
    have := congrArg List.length hs
    rw [hL] at this
    simpa [htl, hfl] using this
  have hib : i < t.size + 4 := by
    have : (sealT t).size = t.size + 4 := by rw [hst]; simp [fourT_size]
    omega
  intro h
  have hb : (bodyT s).data.toList = s.data.toList.take t.size := by
    unfold bodyT
    rw [show s.size - 4 = t.size by omega]
    simp
  have hbz : (bodyT s).size = t.size := by rw [bodyT_size]; omega
  have h2 := congrArg (fun x : ByteArray => x.data.toList) h
  simp only [sealT_in _ (show (bodyT s).size ≤ 7996 by omega)] at h2
  have h3 : (bodyT s).data.toList ++ fourB (crcT (bodyT s)) = s.data.toList := by simpa [fourT] using h2
  rw [hL] at hne
  rw [hs, hL] at h3 hb
  have hcs : crcT (bodyT s) = crcOf 0 (bodyT s).data.toList := rfl
  have hct : crcT t = crcOf 0 t.data.toList := rfl
  generalize hF : fourB (crcT t) = F at *
  generalize t.data.toList = L at *
  rw [hcs] at h3
  generalize (bodyT s).data.toList = M at *
  by_cases hil : i < L.length
  · rw [List.set_append_left _ _ hil, List.take_append_of_le_length (by simp; omega), List.take_of_length_le (by simp; omega)] at hb
    rw [hb, List.set_append_left _ _ hil] at h3
    have h4 := List.append_cancel_left h3
    rw [← hF, hct] at h4
    have h5 := fourB_inj (crcOf_lt 0 _) (crcOf_lt 0 _) h4
    have e1 : L.set i c = L.take i ++ c :: L.drop (i + 1) := by rw [List.set_eq_take_append_cons_drop, if_pos hil]
    have e2 : L = L.take i ++ L[i] :: L.drop (i + 1) := by simp
    rw [e1] at h5
    have h6 : crcOf 0 (L.take i ++ c :: L.drop (i + 1)) = crcOf 0 (L.take i ++ L[i] :: L.drop (i + 1)) := by rw [h5, ← e2]
    have h7 := crcOf_turned _ _ _ _ h6
    rw [List.getElem?_append_left hil, List.getElem?_eq_getElem hil, h7] at hne
    exact hne rfl
  · rw [List.set_append_right _ _ (by omega), List.take_append_of_le_length (by omega), List.take_of_length_le (by omega)] at hb
    rw [hb, List.set_append_right _ _ (by omega)] at h3
    have h4 := List.append_cancel_left h3
    rw [← hct, hF] at h4
    rw [List.getElem?_append_right (by omega), h4] at hne
    have hj : i - L.length < F.length := by omega
    rw [List.getElem?_set_self hj] at hne
    exact hne rfl
theorem bodyT_seal (t : ByteArray) (hz : t.size ≤ 7996) : bodyT (sealT t) = t := by
  have hst := sealT_in t hz
  have hs : (sealT t).size = t.size + 4 := by rw [hst]; simp [fourT_size]
  apply ByteArray.ext
  apply Array.toList_inj.1
  unfold bodyT
  rw [hs, hst]
  simp
  exact List.take_of_length_le (by simp)
theorem unsealV_seal (t : ByteArray) (hz : t.size ≤ 7996) : unsealV (sealT t) = textOut t 0 0 := by
  have hst := sealT_in t hz
  have hs : (sealT t).size = t.size + 4 := by rw [hst]; simp [fourT_size]
  unfold unsealV
  rw [if_neg (by omega), if_neg (by omega), bodyT_seal t hz, if_pos rfl]
theorem unsealV_turned (t : ByteArray) (i : Nat) (c : UInt8) (hz : t.size ≤ 7996) (hi : i < (sealT t).size) (hne : (sealT t).data.toList[i]? ≠ some c) (s : ByteArray) (hs : s.data.toList = (sealT t).data.toList.set i c) : unsealV s = textOut ByteArray.empty 0 5 := by
  have hst := sealT_in t hz
  have h1 : (sealT t).size = t.size + 4 := by rw [hst]; simp [fourT_size]
  have h2 : s.size = (sealT t).size := by
    have := congrArg List.length hs
    simpa using this
  unfold unsealV
  rw [if_neg (by omega), if_neg (by omega), if_neg (sealT_turned t i c hz hi hne s hs)]
theorem crc_on (t u : ByteArray) (h : t.size + u.size ≤ 8000) : crcMoreB (crcMoreB 0 t) u = crcMoreB 0 (t ++ u) := by
  have hz : (t ++ u).size = t.size + u.size := by simp
  rw [crcMoreB_zero t (by omega), crcMoreB_zero (t ++ u) (by omega)]
  have hl := crcT_lt t
  unfold crcMoreB
  rw [if_pos ⟨by omega, by omega, by omega⟩]
  unfold crcT crcOf
  have h1 := crcReg_lt (r := 4294967295 - 0) t.data.toList (by omega)
  simp only [Int.toNat_natCast, ByteArray.data_append, Array.toList_append, crcReg_append]
  rw [show 4294967295 - (4294967295 - crcReg (4294967295 - 0) t.data.toList) = crcReg (4294967295 - 0) t.data.toList by omega]
end Go.Proofs.Ytflgiohhkoplaaa
