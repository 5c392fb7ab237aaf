/- readNum: the walk. (Written by gen_readnum.py.) -/
import Derived.Test.YtflgiohhkoplaaaDoorReadMath
namespace Go.Proofs.YtflgiohhkoplaaaDoor
open Go.RowKit

theorem or_shift_bare (u b k : Nat) (hu : u < 2 ^ (7 * k)) (h : u + b * 2 ^ (7 * k) < 18446744073709551616) : bits .or .u64 (u : Int) ((b : Int) * 2 ^ (7 * k)) = ((u + b * 2 ^ (7 * k) : Nat) : Int) := by
  have := or_shift u b k hu h
  have e1 : (b : Int) * 2 ^ (7 * k) = ((b * 2 ^ (7 * k) : Nat) : Int) := by simp
  rw [e1, IntKind.wrap_u64, show ((b * 2 ^ (7 * k) : Nat) : Int) % 18446744073709551616 = ((b * 2 ^ (7 * k) : Nat) : Int) by omega] at this
  rw [e1, this]
theorem or_zero_less (c : Nat) (hc : 128 ≤ c) (h : c < 256) : bits .or .u64 0 ((c : Int) - 128) = ((c - 128 : Nat) : Int) := by
  have := u64_or_nat 0 (c - 128) (by omega) (by omega)
  rw [show ((c - 128 : Nat) : Int) = (c : Int) - 128 by omega, Nat.zero_or] at this
  rw [show ((c - 128 : Nat) : Int) = (c : Int) - 128 by omega]
  exact this.trans (by omega)
theorem or_shift_less (u c k : Nat) (hu : u < 2 ^ (7 * k)) (hc : 128 ≤ c) (h : u + (c - 128) * 2 ^ (7 * k) < 18446744073709551616) : bits .or .u64 (u : Int) (IntKind.u64.wrap (((c : Int) - 128) * 2 ^ (7 * k))) = ((u + (c - 128) * 2 ^ (7 * k) : Nat) : Int) := by
  have := or_shift u (c - 128) k hu h
  rw [← this, show ((c - 128 : Nat) : Int) = (c : Int) - 128 by omega]

set_option maxRecDepth 100000 in
set_option maxHeartbeats 4000000 in
theorem readNum_any (t : ByteArray) (a : Nat) (w : World) (hz : t.size ≤ 8000) (ha : (a : Int) ≤ 9223372036854775807) :
    Calls Tryd.prog 24 #[.string t, .int .i64 a] w fun e w' => e = .returned (readV (getGo t a 10 0 0)) ∧ w = w' := by
  have HR : Hid (GetRel t a (getGo t a 10 0 0) 0 0) := ⟨by omega, by simp, rfl⟩
  generalize getGo t a 10 0 0 = R at *
  go_enter Tryd.func24, Tryd.ntmps24
  go_wp2
  refine wp_scope_labels (AtLabel t a R w) labelsLeft ?_ ?_
  · by_cases hlt : a < t.size
    · have hbt := t[a].toNat_lt
      by_cases h128 : t[a].toNat < 128
      · have HB : Hid (ByteAt t (a + 0) t[a].toNat) := ⟨hlt, rfl⟩
        go_wp2
        go_step3
        go_wp2
        any_goals (exfalso; omega; done)
        go_step3
        exact ⟨rfl, _, _, _, _, _, _, _, _, _, _, _, _, _, _, _, _, _, _, _, _, _, _, _, _, _, _, _, _, _, _, _, _, _, _, _, _, _, _, _, _, _, _, _, _, _, _, _, _, .inr (.inl ⟨rfl, 0, 0, t[a].toNat, _, _, by omega, by omega, by omega, HR, HB, by omega, by omega, .inl h128, rfl⟩)⟩
      · have HN : Hid (GetRel t a R (0 + 1) (0 + (t[a + 0].toNat - 128) * 2 ^ (7 * 0))) := HR.out.more hlt (by omega) (by show 128 ≤ t[a].toNat; omega)
        have HN2 : Hid (GetRel t a R 1 (t[a].toNat - 128)) := by
          have h := HN.out
          simp only [Nat.add_zero, Nat.zero_add, Nat.mul_zero, Nat.pow_zero, Nat.mul_one] at h
          exact h
        clear HN
        have hx := or_zero_less t[a].toNat (by omega) (by omega)
        generalize t[a].toNat - 128 = X at *
        go_wp2
        go_step3
        go_wp2
        try any_goals (exfalso; omega; done)
        go_step3
        exact ⟨rfl, _, _, _, _, _, _, _, _, _, _, _, _, _, _, _, _, _, _, _, _, _, _, _, _, _, _, _, _, _, _, _, _, _, _, _, _, _, _, _, _, _, _, _, _, _, _, _, _, .inl ⟨rfl, 1, X, t[a].toNat, _, _, by omega, by omega, by omega, HN2, rfl⟩⟩
    · have HE : Hid (R = (0, 0, 4) ∧ (4 : Int) ≠ 0) := ⟨HR.out.short hlt, by omega⟩
      go_wp2
      go_step3
      go_wp2
      go_step3
      exact ⟨rfl, _, _, _, _, _, _, _, _, _, _, _, _, _, _, _, _, _, _, _, _, _, _, _, _, _, _, _, _, _, _, _, _, _, _, _, _, _, _, _, _, _, _, _, _, _, _, _, _, .inr (.inr ⟨rfl, _, 0, 0, 0, _, HE, rfl⟩)⟩
  · rintro l a' w' ⟨rfl, x11, x12, x13, x14, x15, x16, x17, x18, x19, x20, x21, x22, x23, x24, x25, x26, x27, x28, x29, x30, x31, x32, x33, x34, x35, x36, x37, x38, x39, x40, x41, x42, x43, x44, x45, x46, x47, x48, x49, x50, x51, x52, x53, x54, x55, x56, x57, x58, hJ⟩
    rcases hJ with ⟨rfl, k, u, b, p, s, hk, rfl, rfl, HK, rfl⟩ | ⟨rfl, k, u, b, p, s, hk, rfl, rfl, HK, HB, hb, hak, hl, rfl⟩ | ⟨rfl, p, u, b, s, c, HC, rfl⟩
    · refine ⟨_, rfl, ?_⟩
      by_cases hlt : a + k < t.size
      · have hbt := t[a + k].toNat_lt
        have HB : Hid (ByteAt t (a + k) t[a + k].toNat) := ⟨hlt, rfl⟩
        by_cases h128 : t[a + k].toNat < 128
        · go_wp2
          go_step3
          refine ⟨⟨rfl, _, _, _, _, _, _, _, _, _, _, _, _, _, _, _, _, _, _, _, _, _, _, _, _, _, _, _, _, _, _, _, _, _, _, _, _, _, _, _, _, _, _, _, _, _, _, _, _, .inr (.inl ⟨rfl, k, _, t[a + k].toNat, _, _, hk, by omega, by omega, HK, HB, by omega, by omega, .inl h128, rfl⟩)⟩, by simp [labelsLeft, intOf]; omega⟩
        · have h63 : ((7 * (k : Int) == 63) = true ∧ 9 ≤ k) ∨ ((7 * (k : Int) == 63) = false ∧ k < 9) := by
            by_cases h : k = 9
            · left; exact ⟨by simp; omega, by omega⟩
            · right; exact ⟨by simp; omega, by omega⟩
          rcases h63 with ⟨h63, h9⟩ | ⟨h63, h9⟩
          · go_wp2
            go_step3
            refine ⟨⟨rfl, _, _, _, _, _, _, _, _, _, _, _, _, _, _, _, _, _, _, _, _, _, _, _, _, _, _, _, _, _, _, _, _, _, _, _, _, _, _, _, _, _, _, _, _, _, _, _, _, .inr (.inl ⟨rfl, k, _, t[a + k].toNat, _, _, hk, by omega, by omega, HK, HB, by omega, by omega, .inr h9, rfl⟩)⟩, by simp [labelsLeft, intOf]; omega⟩
          · have HN : Hid (GetRel t a R (k + 1) (u + (t[a + k].toNat - 128) * 2 ^ (7 * k))) := HK.out.more hlt (by omega) (by omega)
            have hx := or_shift_less u t[a + k].toNat k HK.out.2.1 (by omega) (by have := sum_small (c := t[a + k].toNat - 128) (show k ≤ 8 by omega) HK.out.2.1 (by omega); omega)
            generalize u + (t[a + k].toNat - 128) * 2 ^ (7 * k) = X at *
            go_wp2
            go_step3
            exact ⟨⟨rfl, _, _, _, _, _, _, _, _, _, _, _, _, _, _, _, _, _, _, _, _, _, _, _, _, _, _, _, _, _, _, _, _, _, _, _, _, _, _, _, _, _, _, _, _, _, _, _, _, .inl ⟨rfl, k + 1, X, t[a + k].toNat, _, _, by omega, by omega, by omega, HN, rfl⟩⟩, by simp [labelsLeft, intOf]; omega⟩
      · have HE : Hid (R = (0, 0, 4) ∧ (4 : Int) ≠ 0) := ⟨HK.out.short hlt, by omega⟩
        go_wp2
        go_step3
        exact ⟨⟨rfl, _, _, _, _, _, _, _, _, _, _, _, _, _, _, _, _, _, _, _, _, _, _, _, _, _, _, _, _, _, _, _, _, _, _, _, _, _, _, _, _, _, _, _, _, _, _, _, _, .inr (.inr ⟨rfl, _, _, _, _, _, HE, rfl⟩)⟩, by simp [labelsLeft, intOf]; omega⟩
    · refine ⟨_, rfl, ?_⟩
      have h63 : ((7 * (k : Int) == 63) = true ∧ 9 ≤ k) ∨ ((7 * (k : Int) == 63) = false ∧ k < 9) := by
        by_cases h : k = 9
        · left; exact ⟨by simp; omega, by omega⟩
        · right; exact ⟨by simp; omega, by omega⟩
      have h00 : (((b : Int) == 0) = true ∧ b ≤ 0) ∨ (((b : Int) == 0) = false ∧ 1 ≤ b) := by
        by_cases h : b = 0
        · left; exact ⟨by simp; omega, by omega⟩
        · right; exact ⟨by simp; omega, by omega⟩
      by_cases hbad : (0 < k ∧ b = 0) ∨ (9 ≤ k ∧ 1 < b)
      · have HE : Hid (R = (0, 0, 3) ∧ (3 : Int) ≠ 0) := by
          refine ⟨?_, by omega⟩
          rcases hbad with ⟨h1, h2⟩ | ⟨h1, h2⟩
          · exact HK.out.noughtB HB.out h1 h2
          · exact HK.out.tenthB HB.out h1 h2
        rcases h63 with ⟨h63, h9⟩ | ⟨h63, h9⟩
        all_goals
          rcases h00 with ⟨h00, h01⟩ | ⟨h00, h01⟩
          all_goals first
            | (exfalso; omega; done)
            | (have hk0 : 0 < k := by omega
               have hb1 : b ≤ 0 ∨ 1 < b := by omega
               rcases hb1 with hb1 | hb1
               all_goals first
                 | (exfalso; omega; done)
                 | (clear hbad
                    go_wp2
                    go_step3
                    exact ⟨⟨rfl, _, _, _, _, _, _, _, _, _, _, _, _, _, _, _, _, _, _, _, _, _, _, _, _, _, _, _, _, _, _, _, _, _, _, _, _, _, _, _, _, _, _, _, _, _, _, _, _, .inr (.inr ⟨rfl, _, _, _, _, _, HE, rfl⟩)⟩, by simp [labelsLeft]⟩))
      · have HE := HK.out.lastB HB.out (by omega) (by omega) (by omega)
        have hX : u + b * 2 ^ (7 * k) < 18446744073709551616 := by
          rcases h63 with ⟨_, h9⟩ | ⟨_, h9⟩
          · exact sum_tenth hk HK.out.2.1 (by omega)
          · have := sum_small (c := b) (show k ≤ 8 by omega) HK.out.2.1 (by omega); omega
        have hx := or_shift u b k HK.out.2.1 hX
        have hx2 := or_shift_bare u b k HK.out.2.1 hX
        generalize u + b * 2 ^ (7 * k) = X at *
        have HV : Hid _ := readV_ok HE
        have HU : Hid (((a + k + 1 : Nat) : Int) = (a : Int) + k + 1) := by show _ = _; omega
        rw [HU.out] at HV
        have hb1 : b ≤ 1 ∨ k < 9 := by omega
        have hb0 : 1 ≤ b ∨ k ≤ 0 := by omega
        clear HE hbad HU
        rcases h63 with ⟨h63, h9⟩ | ⟨h63, h9⟩
        all_goals
          rcases h00 with ⟨h00, h01⟩ | ⟨h00, h01⟩
          all_goals first
            | (exfalso; omega; done)
            | (rcases Nat.lt_or_ge k 1 with hk0 | hk0
               all_goals first
                 | (exfalso; omega; done)
                 | (go_wp2_with fail
                    any_goals (exfalso; omega; done)
                    refine (unfolded_any _ _ hX).mono ?_
                    rintro e w1 ⟨rfl, rfl⟩
                    go_wp2
                    simp only [Exit.jumps]
                    go_ret3
                    exact ⟨by rw [HV.out]; rfl, rfl⟩)
                 | (go_wp2_with fail
                    refine (unfolded_any _ _ hX).mono ?_
                    rintro e w1 ⟨rfl, rfl⟩
                    go_wp2
                    simp only [Exit.jumps]
                    go_ret3
                    exact ⟨by rw [HV.out]; rfl, rfl⟩))
    · refine ⟨_, rfl, ?_⟩
      have HV : Hid _ := readV_no HC.out
      go_wp2
      simp only [Exit.jumps]
      go_ret3
      exact ⟨by rw [HV.out]; rfl, rfl⟩
end Go.Proofs.YtflgiohhkoplaaaDoor
