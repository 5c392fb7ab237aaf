/- Numbers in bytes and sums of words, of the model. -/
import Derived.Test.YtchgnjpbjnkdmaaWordS
namespace Go.Proofs.Ytchgnjpbjnkdmaa
open Go.RowKit

set_option maxRecDepth 100000 in
theorem specGet_any (t : ByteArray) (w : World) (hl : t.size ≤ 4) :
    Calls Try.prog 74 #[.string t] w fun e w' => e = .returned (.int .i64 (numL t.data.toList : Int)) ∧ w = w' := by
  have hts : t.data.toList.length = t.size := by simp
  have HP : Hid (∀ k, k ≤ 4 → numL (t.data.toList.take k) < 4294967296) := by
    intro k hk
    have h1 := numL_lt (t.data.toList.take k)
    have h2 : 256 ^ (t.data.toList.take k).length ≤ 256 ^ 4 := Nat.pow_le_pow_right (by decide) (by rw [List.length_take]; omega)
    omega
  have H0 : Hid (numL (t.data.toList.take 0) = 0) := rfl
  have HS : Hid (∀ k, (h : k < t.size) → numL (t.data.toList.take (k + 1)) = 256 * numL (t.data.toList.take k) + t[k].toNat) := fun k h => numL_take t.data.toList k (by simpa using h)
  have HE : Hid (numL (t.data.toList.take t.size) = numL t.data.toList) := by rw [Hid, ← hts, List.take_length]
  generalize numL t.data.toList = R at *
  generalize hf : (fun k => numL (t.data.toList.take k)) = f
  have e : ∀ k, numL (t.data.toList.take k) = f k := fun k => by rw [← hf]
  simp only [e] at HP H0 HS HE
  clear e hf hts
  go_enter Try.func74, Try.ntmps74
  go_wp2_with fail
  go_loop [3, 4] (fun v i => ∃ k : Nat, k ≤ t.size ∧ i = .int .i64 (k : Int) ∧ v = .int .i64 (f k : Int)) (fun _ i => t.size - (intOf i).toNat)
  case atStart => exact ⟨0, by omega, rfl, by rw [H0.out]; rfl⟩
  case round =>
    obtain ⟨k, hk, rfl, rfl⟩ := hrel
    by_cases hlt : k < t.size
    · have hb := t[k].toNat_lt
      have hf1 := HP.out k (by omega)
      have hN : Hid (f (k + 1) = 256 * f k + t[k].toNat) := HS.out k hlt
      have hw1 := wrap_i64_in (256 * (f k : Int)) (by omega) (by omega)
      have hw2 := wrap_i64_in (256 * (f k : Int) + (t[k].toNat : Int)) (by omega) (by omega)
      generalize hfk : f k = n at *
      clear hfk
      go_wp2
      go_round
      case rel => exact ⟨k + 1, by omega, by go_num, by rw [hN.out]; go_num⟩
      case measure => simp [intOf]; omega
    · obtain rfl : k = t.size := by omega
      rw [HE.out]
      go_wp2
      go_ret
      exact ⟨rfl, rfl⟩
set_option maxRecDepth 100000 in
theorem specSum_any (t : ByteArray) (w : World) (hl : t.size ≤ 1000000) :
    Calls Try.prog 76 #[.string t] w fun e w' => e = .returned (.int .i64 (sumN t.data.toList : Int)) ∧ w = w' := by
  have hts : t.data.toList.length = t.size := by simp
  have HR : Hid (ra true t.data.toList ≤ 65280 * t.size) := by have := ra_le true t.data.toList; rwa [hts] at this
  have HS : Hid (sumN t.data.toList = 65535 - foldN (ra true t.data.toList)) := rfl
  have H0 : Hid (ra true (t.data.toList.drop 0) = ra true t.data.toList) := rfl
  have HE : Hid (∀ k, t.size ≤ k → ra true (t.data.toList.drop k) = 0) := fun k hk => by show _ = _; rw [List.drop_eq_nil_of_le (by omega), ra_nil]
  have H2 : Hid (∀ k, (h : k + 1 < t.size) → ra true (t.data.toList.drop k) = 256 * t[k].toNat + t[k + 1].toNat + ra true (t.data.toList.drop (k + 2))) := fun k h => ra_at2 t.data.toList k (by omega)
  have H1 : Hid (∀ k, (h : k < t.size) → ¬ k + 1 < t.size → ra true (t.data.toList.drop k) = 256 * t[k].toNat) := fun k h h2 => ra_at1 t.data.toList k (by omega) (by omega)
  generalize sumN t.data.toList = S at *
  generalize ra true t.data.toList = R at *
  generalize hf : (fun k => ra true (t.data.toList.drop k)) = f
  have e : ∀ k, ra true (t.data.toList.drop k) = f k := fun k => by rw [← hf]
  simp only [e] at H0 HE H2 H1
  clear e hf
  go_enter Try.func76, Try.ntmps76
  go_wp2_with fail
  go_loop [3, 4] (fun v i => ∃ k n : Nat, k ≤ t.size + 1 ∧ i = .int .i64 (k : Int) ∧ v = .int .i64 (n : Int) ∧ Hid (n + f k = R)) (fun _ i => t.size + 1 - (intOf i).toNat)
  case atStart => exact ⟨0, 0, by omega, rfl, rfl, by show _ = _; rw [Nat.zero_add]; exact H0.out⟩
  case round =>
    obtain ⟨k, n, hk, rfl, rfl, hn⟩ := hrel
    have hnR : n ≤ R := by have := hn.out; omega
    have hRl := HR.out
    by_cases hlt : k < t.size
    · have hb := t[k].toNat_lt
      have hw1 := wrap_i64_in ((n : Int) + 256 * (t[k].toNat : Int)) (by omega) (by omega)
      by_cases hlt2 : k + 1 < t.size
      · have hb2 := t[k + 1].toNat_lt
        have hst : Hid (n + 256 * t[k].toNat + t[k + 1].toNat + f (k + 2) = R) := by
          have h1 := hn.out
          have h2 := H2.out k hlt2
          show _ = _
          omega
        have hw2 := wrap_i64_in ((n : Int) + 256 * (t[k].toNat : Int) + (t[k + 1].toNat : Int)) (by omega) (by omega)
        clear hn
        go_wp2
        go_round
        case rel => exact ⟨k + 2, n + 256 * t[k].toNat + t[k + 1].toNat, by omega, by go_num, by go_num, hst⟩
        case measure => simp [intOf]; omega
      · have hst : Hid (n + 256 * t[k].toNat + f (k + 2) = R) := by
          have h1 := hn.out
          have h2 := H1.out k hlt hlt2
          have h3 := HE.out (k + 2) (by omega)
          show _ = _
          omega
        clear hn
        go_wp2
        go_round
        case rel => exact ⟨k + 2, n + 256 * t[k].toNat, by omega, by go_num, by go_num, hst⟩
        case measure => simp [intOf]; omega
    · have hnR : n = R := by have := hn.out; rw [HE.out k (by omega)] at this; omega
      subst hnR
      clear hn H1 H2 H0 HE HR
      generalize hD : foldN n = D at *
      have HD : Hid (foldN n = D) := hD
      clear hD
      go_wp2_with fail
      go_loop [3] (fun v => ∃ m : Nat, m ≤ n ∧ v = .int .i64 (m : Int) ∧ Hid (foldN m = D)) (fun v => (intOf v).toNat)
      case atStart => exact ⟨n, Nat.le_refl _, rfl, HD⟩
      case round =>
        obtain ⟨m, hm, rfl, hD⟩ := hrel
        by_cases hbig : 65535 < m
        · have hst : Hid (foldN (m / 65536 + m % 65536) = D) := by show _ = _; rw [foldN_step m hbig]; exact hD.out
          have e1 : (m : Int).tdiv 65536 = (m : Int) / 65536 := Int.tdiv_eq_ediv_of_nonneg (by omega)
          have e2 : (m : Int).tmod 65536 = (m : Int) % 65536 := Int.tmod_eq_emod_of_nonneg (by omega)
          have hw1 := wrap_i64_in ((m : Int) / 65536 + (m : Int) % 65536) (by omega) (by omega)
          have hw2 := wrap_i64_in ((m : Int) / 65536) (by omega) (by omega)
          clear hD
          go_wp2
          go_round
          case rel => exact ⟨m / 65536 + m % 65536, by omega, by go_num, hst⟩
          case measure => simp [intOf]; omega
        · have hmD : m = D := by have := hD.out; rw [foldN_small m (by omega)] at this; exact this
          subst hmD
          have HF : Hid (((S : Nat) : Int) = 65535 - (m : Int)) := by have := HS.out; show _ = _; omega
          go_wp2
          go_ret
          exact ⟨ret_i64 HF.out.symm, rfl⟩
end Go.Proofs.Ytchgnjpbjnkdmaa
