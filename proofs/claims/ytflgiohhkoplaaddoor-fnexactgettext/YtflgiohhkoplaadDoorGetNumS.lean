/- GetNum of the model. -/
import Derived.Test.YtflgiohhkoplaadDoorGetMath
namespace Go.Proofs.YtflgiohhkoplaadDoor
open Go.RowKit

set_option maxRecDepth 100000 in
set_option maxHeartbeats 2000000 in
theorem specGetNum_in (t : ByteArray) (a : Nat) (w : World) (hz : t.size ≤ 8000) (ha : (a : Int) ≤ 9223372036854775807) :
    Calls Tryd.prog 5 #[.string t, .int .i64 a] w fun e w' => e = .returned (numV (getGo t a 10 0 0)) ∧ Below w.heap.size w w' := by
  have HR : Hid (GetRel t a (getGo t a 10 0 0) 0 0) := ⟨by omega, by simp, rfl⟩
  generalize getGo t a 10 0 0 = R at *
  go_enter Tryd.func5, Tryd.ntmps5
  go_wp2
  go_loop [5, 6] (fun x i => ∃ k u : Nat, k ≤ 9 ∧ i = .int .i64 k ∧ x = .int .u64 u ∧ Hid (GetRel t a R k u)) (fun _ i => 10 - (intOf i).toNat)
  case atStart => exact ⟨0, 0, by omega, rfl, rfl, HR⟩
  case round =>
    obtain ⟨k, u, hk, rfl, rfl, HK⟩ := hrel
    by_cases hlt : a + k < t.size
    · have hb := t[a + k].toNat_lt
      by_cases h128 : 128 ≤ t[a + k].toNat
      · by_cases h9 : k < 9
        · have HN : Hid (GetRel t a R (k + 1) (u + (t[a + k].toNat - 128) * 2 ^ (7 * k))) := HK.out.more hlt (by omega) h128
          have hx := seven_add (u := u) (c := t[a + k].toNat) (k := k) (by have := sum_small (c := t[a + k].toNat % 128) (show k ≤ 8 by omega) HK.out.2.1 (by omega); omega)
          rw [← show t[a + k].toNat % 128 = t[a + k].toNat - 128 by omega] at HN
          generalize u + t[a + k].toNat % 128 * 2 ^ (7 * k) = X at *
          go_wp2
          go_round
          case rel => exact ⟨k + 1, X, by omega, by go_num, rfl, HN⟩
          case measure => simp [intOf]; omega
        · have HE : Hid (R = (0, 0, 3)) := HK.out.tenth hlt (by omega) (by omega)
          go_wp2
          refine bodyPost_ret (v := numV R) (by rw [numV_eq HE.out]; simp [results, Tryd.results5, go_sem]) rfl ⟨rfl, (Below.refl _ _).alloc (Nat.le_refl _) _⟩
      · by_cases h91 : k = 9 ∧ 1 < t[a + k].toNat
        · obtain ⟨h9, h1⟩ := h91
          have HE : Hid (R = (0, 0, 3)) := HK.out.tenth hlt h9 h1
          have h9' : 9 ≤ k := by omega
          clear h9
          go_wp2
          refine bodyPost_ret (v := numV R) (by rw [numV_eq HE.out]; simp [results, Tryd.results5, go_sem]) rfl ⟨rfl, (Below.refl _ _).alloc (Nat.le_refl _) _⟩
        · have h92 : (((k : Int) == 9) = false ∧ k < 9) ∨ (((k : Int) == 9) = true ∧ 9 ≤ k ∧ t[a + k].toNat ≤ 1) := by
            by_cases h : k = 9
            · right; exact ⟨by simp; omega, by omega, by omega⟩
            · left; exact ⟨by simp; omega, by omega⟩
          by_cases h0 : t[a + k].toNat = 0 ∧ 0 < k
          · obtain ⟨h0, hk0⟩ := h0
            have HE : Hid (R = (0, 0, 3)) := HK.out.nought hlt hk0 h0
            have h0' : t[a + k].toNat ≤ 0 := by omega
            have h0b : (((t[a + k].toNat : Nat) : Int) == 0) = true := by simp; omega
            clear h0 h91
            rcases h92 with ⟨h92, h94⟩ | ⟨h92, h93, h94⟩
            all_goals
              go_wp2
              refine bodyPost_ret (v := numV R) (by rw [numV_eq HE.out]; simp [results, Tryd.results5, go_sem]) rfl ⟨rfl, (Below.refl _ _).alloc (Nat.le_refl _) _⟩
          · have HE : Hid (R = (unfoldN (u + t[a + k].toNat * 2 ^ (7 * k)), ((a + k + 1 : Nat) : Int), 0)) := HK.out.last hlt h91 (by omega) h0
            have hX : u + t[a + k].toNat * 2 ^ (7 * k) < 18446744073709551616 := by
              rcases h92 with ⟨_, h92⟩ | ⟨_, h92, h93⟩
              · have := sum_small (c := t[a + k].toNat) (show k ≤ 8 by omega) HK.out.2.1 (by omega); omega
              · exact sum_tenth hk HK.out.2.1 h93
            have hx := seven_add (u := u) (c := t[a + k].toNat) (k := k) (by rw [show t[a + k].toNat % 128 = t[a + k].toNat by omega]; exact hX)
            rw [show t[a + k].toNat % 128 = t[a + k].toNat by omega] at hx
            generalize u + t[a + k].toNat * 2 ^ (7 * k) = X at *
            have h00 : ((((t[a + k].toNat : Nat) : Int) == 0) = false ∧ 1 ≤ t[a + k].toNat) ∨ ((((t[a + k].toNat : Nat) : Int) == 0) = true ∧ t[a + k].toNat ≤ 0 ∧ k ≤ 0) := by
              by_cases h : t[a + k].toNat = 0
              · right; exact ⟨by simp; omega, by omega, by omega⟩
              · left; exact ⟨by simp; omega, by omega⟩
            clear h91 h0
            by_cases hodd : X % 2 = 1
            · have HV : Hid (numV R = .agg #[.int .i64 (-((X : Int) / 2) - 1), .int .i64 ((a : Int) + k + 1), .int .i64 0]) := by
                show _ = _
                rw [numV_eq HE.out, unfoldN_odd hodd]
                simp
              have hob : (((X : Nat) : Int) % 2 == 1) = true := by simp; omega
              clear hodd HE
              rcases h92 with ⟨h92, h94⟩ | ⟨h92, h93, h94⟩
              all_goals
                rcases h00 with ⟨h00, h02⟩ | ⟨h00, h01, h02⟩
                all_goals first
                  | (exfalso; omega; done)
                  | (go_wp2
                     refine bodyPost_ret (v := numV R) (by rw [HV.out]; simp [results, Tryd.results5, go_sem]) rfl ⟨rfl, (Below.refl _ _).alloc (Nat.le_refl _) _⟩)
            · have HV : Hid (numV R = .agg #[.int .i64 ((X : Int) / 2), .int .i64 ((a : Int) + k + 1), .int .i64 0]) := by
                show _ = _
                rw [numV_eq HE.out, unfoldN_even hodd]
                simp
              have hob : (((X : Nat) : Int) % 2 == 1) = false := by simp; omega
              clear hodd HE
              rcases h92 with ⟨h92, h94⟩ | ⟨h92, h93, h94⟩
              all_goals
                rcases h00 with ⟨h00, h02⟩ | ⟨h00, h01, h02⟩
                all_goals first
                  | (exfalso; omega; done)
                  | (go_wp2
                     refine bodyPost_ret (v := numV R) (by rw [HV.out]; simp [results, Tryd.results5, go_sem]) rfl ⟨rfl, (Below.refl _ _).alloc (Nat.le_refl _) _⟩)
    · have HE : Hid (R = (0, 0, 4)) := HK.out.short hlt
      go_wp2
      refine bodyPost_ret (v := numV R) (by rw [numV_eq HE.out]; simp [results, Tryd.results5, go_sem]) rfl ⟨rfl, (Below.refl _ _).alloc (Nat.le_refl _) _⟩

set_option maxRecDepth 100000 in
theorem specGetNum_any (t : ByteArray) (a : Int) (w : World) (hz : t.size ≤ 1048576) (ha0 : -9223372036854775808 ≤ a) (ha1 : a ≤ 9223372036854775807) :
    Calls Tryd.prog 5 #[.string t, .int .i64 a] w fun e w' => e = .returned (numV (getNumR t a)) ∧ Below w.heap.size w w' := by
  by_cases h8 : 8000 < t.size
  · have HV : Hid (numV (getNumR t a) = .agg #[.int .i64 0, .int .i64 0, .int .i64 2]) := by show _ = _; unfold getNumR; rw [if_pos h8]; rfl
    go_enter Tryd.func5, Tryd.ntmps5
    go_wp2
    refine bodyPost_ret (v := numV (getNumR t a)) (by rw [HV.out]; simp [results, Tryd.results5, go_sem]) rfl ⟨rfl, (Below.refl _ _).alloc (Nat.le_refl _) _⟩
  · by_cases h0 : a < 0
    · have HV : Hid (numV (getNumR t a) = .agg #[.int .i64 0, .int .i64 0, .int .i64 1]) := by show _ = _; unfold getNumR; rw [if_neg h8, if_pos h0]; rfl
      go_enter Tryd.func5, Tryd.ntmps5
      go_wp2
      refine bodyPost_ret (v := numV (getNumR t a)) (by rw [HV.out]; simp [results, Tryd.results5, go_sem]) rfl ⟨rfl, (Below.refl _ _).alloc (Nat.le_refl _) _⟩
    · obtain ⟨n, rfl⟩ := Int.eq_ofNat_of_zero_le (show 0 ≤ a by omega)
      have HV : getNumR t n = getGo t n 10 0 0 := by unfold getNumR; rw [if_neg h8, if_neg h0]; rfl
      rw [HV]
      exact specGetNum_in t n w (by omega) ha1
end Go.Proofs.YtflgiohhkoplaadDoor
