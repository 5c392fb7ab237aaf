/- The sum of words, of the program. -/
import Derived.Test.YtchgnjpbjnkdmaaPieces
namespace Go.Proofs.Ytchgnjpbjnkdmaa
open Go.RowKit

set_option maxRecDepth 100000 in
theorem sumOf_any (l : List UInt8) (g o cap : Nat) (w : World) (hl : l.length ≤ 1000000) (hB : BytesIn w g o l) :
    Calls Try.prog 62 #[.slice (some ⟨g, o, none⟩) l.length cap] w fun e w' => e = .returned (.int .i64 (sumN l : Int)) ∧ w = w' := by
  have hR := ra_le true l
  have HR : Hid (ra true l ≤ 65280 * l.length) := hR
  have HS : Hid (sumN l = 65535 - foldN (ra true l)) := rfl
  have H0 : Hid (ra true (l.drop 0) = ra true l) := rfl
  have HE : Hid (∀ b, ra b (l.drop l.length) = 0) := fun b => by show _ = _; rw [List.drop_length, ra_nil]
  have HN : Hid (∀ i, (h : i < l.length) → ∀ b : Bool, ra b (l.drop i) = (if b then 256 * l[i].toNat else l[i].toNat) + ra (!b) (l.drop (i + 1))) := ra_at l
  clear hR
  generalize sumN l = S at *
  generalize ra true l = R at *
  generalize hf : (fun b k => ra b (l.drop k)) = f
  have e : ∀ b k, ra b (l.drop k) = f b k := fun b k => by rw [← hf]
  simp only [e] at H0 HE HN
  clear e hf
  go_enter Try.func62, Try.ntmps62
  go_wp2_with fail
  go_loop [3, 8] (fun v i => ∃ k n : Nat, k ≤ l.length ∧ i = .int .i64 (k : Int) ∧ v = .int .i64 (n : Int) ∧ Hid (n + f (k % 2 == 0) k = R)) (fun _ i => l.length - (intOf i).toNat)
  case atStart => exact ⟨0, 0, by omega, rfl, rfl, by show _ = _; rw [Nat.zero_add]; exact H0.out⟩
  case round =>
    obtain ⟨k, n, hk, rfl, rfl, hn⟩ := hrel
    by_cases hlt : k < l.length
    · have hc1 := hB k hlt
      have hb := l[k].toNat_lt
      have hnR : n ≤ R := by have := hn.out; omega
      have hRl := HR.out
      have hw1 := wrap_i64_in ((n : Int) + (l[k].toNat : Int) * 256) (by omega) (by omega)
      have hw2 := wrap_i64_in ((n : Int) + (l[k].toNat : Int)) (by omega) (by omega)
      have hNx : Hid (∀ b : Bool, f b k = (if b then 256 * l[k].toNat else l[k].toNat) + f (!b) (k + 1)) := HN.out k hlt
      generalize l[k].toNat = c at *
      by_cases hev : k % 2 = 0
      · have e1 : ((k : Int).tmod 2 == 0) = true := by rw [Int.tmod_eq_emod_of_nonneg (by omega)]; simp; omega
        have hst : Hid (n + 256 * c + f false (k + 1) = R) := by
          have h1 := hn.out
          have h2 := hNx.out true
          rw [show (k % 2 == 0) = true by simpa using hev, h2] at h1
          simp at h1
          show _ = _
          omega
        clear hNx hn
        go_wp2
        go_round
        case rel => exact ⟨k + 1, n + 256 * c, by omega, by go_num, by go_num, by rw [show ((k + 1) % 2 == 0) = false by simp; omega]; exact hst⟩
        case measure => simp [intOf]; omega
      · have e1 : ((k : Int).tmod 2 == 0) = false := by rw [Int.tmod_eq_emod_of_nonneg (by omega)]; simp; omega
        have hst : Hid (n + c + f true (k + 1) = R) := by
          have h1 := hn.out
          have h2 := hNx.out false
          rw [show (k % 2 == 0) = false by simpa using hev, h2] at h1
          simp at h1
          show _ = _
          omega
        clear hNx hn
        go_wp2
        go_round
        case rel => exact ⟨k + 1, n + c, by omega, by go_num, by go_num, by rw [show ((k + 1) % 2 == 0) = true by simp; omega]; exact hst⟩
        case measure => simp [intOf]; omega
    · obtain rfl : k = l.length := by omega
      have hnR : n = R := by have := hn.out; rw [HE.out] at this; omega
      subst hnR
      have hRl := HR.out
      clear hn HN H0 HE HR hB
      generalize hD : foldN n = D at *
      have HD : Hid (foldN n = D) := hD
      clear hD
      go_wp2_with fail
      go_loop [3] (fun v => ∃ m : Nat, m ≤ n ∧ v = .int .i64 (m : Int) ∧ Hid (foldN m = D)) (fun v => (intOf v).toNat)
      case atStart => exact ⟨n, Nat.le_refl _, rfl, HD⟩
      case round =>
        obtain ⟨m, hm, rfl, hD⟩ := hrel
        by_cases hbig : 65535 < m
        · have hst : Hid (foldN (m / 65536 + m % 65536) = D) := by show _ = _; rw [foldN_step m hbig]; exact hD.out
          have HA : Hid _ := and_word m (by omega)
          have hA := and_word m (by omega)
          have hw1 := wrap_i64_in ((m : Int) / 65536 + ((m % 65536 : Nat) : Int)) (by omega) (by omega)
          clear hD
          go_wp2
          go_round
          case rel => exact ⟨m / 65536 + m % 65536, by omega, by go_num, hst⟩
          case measure => simp [intOf]; omega
        · have hmD : m = D := by have := hD.out; rw [foldN_small m (by omega)] at this; exact this
          subst hmD
          have hS : ((S : Nat) : Int) = 65535 - (m : Int) := by have := HS.out; omega
          have HF : Hid _ := hS
          clear hS
          go_wp2
          go_ret
          exact ⟨ret_i64 HF.out.symm, rfl⟩
end Go.Proofs.Ytchgnjpbjnkdmaa
