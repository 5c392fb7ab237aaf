/- Lengths of masks, of the program and of the model. -/
import Derived.Test.YtchgnjpbjnkdmaaDoorMaskOf
namespace Go.Proofs.YtchgnjpbjnkdmaaDoor
open Go.RowKit

/-- The first length, from k on, whose mask this is. -/
def lenFrom (m : Int) : Nat → Nat → Int
  | 0, _ => -1
  | f + 1, k => if maskV (k : Int) = m then (k : Int) else lenFrom m f (k + 1)
def lenV (m : Int) : Int := lenFrom m 33 0
theorem lenFrom_hit (m : Int) (k : Nat) (hk : k < 33) (h : maskV (k : Int) = m) : lenFrom m (33 - k) k = (k : Int) := by
  rw [show 33 - k = (32 - k) + 1 by omega]; simp only [lenFrom]; rw [if_pos h]
theorem lenFrom_miss (m : Int) (k : Nat) (hk : k < 33) (h : ¬ maskV (k : Int) = m) : lenFrom m (33 - k) k = lenFrom m (33 - (k + 1)) (k + 1) := by
  rw [show 33 - k = (32 - k) + 1 by omega]; simp only [lenFrom]; rw [if_neg h, show 33 - (k + 1) = 32 - k by omega]
set_option maxRecDepth 100000 in
theorem implLen_any (m : Int) (w : World) :
    Calls Tryd.prog 20 #[.int .i64 m] w fun e w' => e = .returned (.int .i64 (lenV m)) ∧ w = w' := by
  have HM : Hid (∀ (l : Int) (w : World), Calls Tryd.prog 18 #[.int .i64 l] w fun e w' => e = .returned (.int .i64 (maskV l)) ∧ w = w') := implMask_any
  have HH : Hid _ := lenFrom_hit m
  have HX : Hid _ := lenFrom_miss m
  have H0 : Hid (lenV m = lenFrom m (33 - 0) 0) := rfl
  have HE : Hid (lenFrom m (33 - 33) 33 = -1) := rfl
  generalize lenV m = R at *
  generalize lenFrom m = F at *
  generalize maskV = M at *
  go_enter Tryd.func20, Tryd.ntmps20
  go_wp2_with fail
  go_loop [4] (fun i => ∃ k : Nat, k ≤ 33 ∧ i = .int .i64 (k : Int) ∧ Hid (R = F (33 - k) k)) (fun i => 33 - (intOf i).toNat)
  case atStart => exact ⟨0, by omega, rfl, H0⟩
  case round =>
    obtain ⟨k, hk, rfl, HR⟩ := hrel
    by_cases hlt : k < 33
    · have hh := HH.out k hlt
      have hx := HX.out k hlt
      have HHH : Hid _ := hh
      have HXX : Hid _ := hx
      clear hh hx
      go_wp2_with fail
      refine (HM.out _ _).mono ?_
      rintro e w1 ⟨rfl, rfl⟩
      by_cases hm : M (k : Int) = m
      · have hb : (M (k : Int) == m) = true := by simpa using hm
        have HMM : Hid _ := hm
        clear hm
        generalize M (k : Int) = mk at *
        go_wp2
        go_ret
        exact ⟨ret_i64 (by rw [HR.out, HHH.out HMM.out]), rfl⟩
      · have hb : (M (k : Int) == m) = false := by simpa using hm
        have HMM : Hid (¬ M (k : Int) = m) := hm
        clear hm
        generalize M (k : Int) = mk at *
        go_wp2
        go_round
        case rel => exact ⟨k + 1, by omega, by go_num, by show _ = _; rw [HR.out, HXX.out HMM.out]⟩
        case measure => simp [intOf]; omega
    · obtain rfl : k = 33 := by omega
      rw [show ((33 : Nat) : Int) = 33 from rfl]
      go_wp2
      go_ret
      exact ⟨ret_i64 (by rw [HR.out, HE.out]), rfl⟩
set_option maxRecDepth 100000 in
theorem specLen_any (m : Int) (w : World) :
    Calls Tryd.prog 21 #[.int .i64 m] w fun e w' => e = .returned (.int .i64 (lenV m)) ∧ w = w' := by
  have HM : Hid (∀ (l : Int) (w : World), Calls Tryd.prog 19 #[.int .i64 l] w fun e w' => e = .returned (.int .i64 (maskV l)) ∧ w = w') := specMask_any
  have HH : Hid _ := lenFrom_hit m
  have HX : Hid _ := lenFrom_miss m
  have H0 : Hid (lenV m = lenFrom m (33 - 0) 0) := rfl
  have HE : Hid (lenFrom m (33 - 33) 33 = -1) := rfl
  generalize lenV m = R at *
  generalize lenFrom m = F at *
  generalize maskV = M at *
  go_enter Tryd.func21, Tryd.ntmps21
  go_wp2_with fail
  go_loop [3] (fun i => ∃ k : Nat, k ≤ 33 ∧ i = .int .i64 (k : Int) ∧ Hid (R = F (33 - k) k)) (fun i => 33 - (intOf i).toNat)
  case atStart => exact ⟨0, by omega, rfl, H0⟩
  case round =>
    obtain ⟨k, hk, rfl, HR⟩ := hrel
    by_cases hlt : k < 33
    · have hh := HH.out k hlt
      have hx := HX.out k hlt
      have HHH : Hid _ := hh
      have HXX : Hid _ := hx
      clear hh hx
      go_wp2_with fail
      refine (HM.out _ _).mono ?_
      rintro e w1 ⟨rfl, rfl⟩
      by_cases hm : M (k : Int) = m
      · have hb : (M (k : Int) == m) = true := by simpa using hm
        have HMM : Hid _ := hm
        clear hm
        generalize M (k : Int) = mk at *
        go_wp2
        go_ret
        exact ⟨ret_i64 (by rw [HR.out, HHH.out HMM.out]), rfl⟩
      · have hb : (M (k : Int) == m) = false := by simpa using hm
        have HMM : Hid (¬ M (k : Int) = m) := hm
        clear hm
        generalize M (k : Int) = mk at *
        go_wp2
        go_round
        case rel => exact ⟨k + 1, by omega, by go_num, by show _ = _; rw [HR.out, HXX.out HMM.out]⟩
        case measure => simp [intOf]; omega
    · obtain rfl : k = 33 := by omega
      rw [show ((33 : Nat) : Int) = 33 from rfl]
      go_wp2
      go_ret
      exact ⟨ret_i64 (by rw [HR.out, HE.out]), rfl⟩
end Go.Proofs.YtchgnjpbjnkdmaaDoor
