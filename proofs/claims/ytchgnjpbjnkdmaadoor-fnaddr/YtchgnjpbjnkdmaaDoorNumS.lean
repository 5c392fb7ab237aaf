/- Digits and pieces of the model: l03Num, l01Split. -/
import Derived.Test.YtchgnjpbjnkdmaaDoorAddrTxt
import Derived.Test.YtchgnjpbjnkdmaaDoorBaseB
import Derived.Test.YtchgnjpbjnkdmaaDoorOwnV
namespace Go.Proofs.YtchgnjpbjnkdmaaDoor
open Go.RowKit

theorem l3N_out {l : List UInt8} (h : l.length < 1 ∨ 9 < l.length ∨ (1 < l.length ∧ l.head? = some 48)) : l3N l = -1 := if_pos h
theorem l3N_bad {l : List UInt8} (k : Nat) (b : UInt8) (hb : l[k]? = some b) (h : b.toNat < 48 ∨ 57 < b.toNat) : l3N l = -1 := by
  unfold l3N
  split
  · rfl
  · rw [if_neg]
    rw [List.all_eq_true]
    intro h2
    have := h2 b (List.mem_of_getElem? hb)
    simp at this
    omega
theorem l3N_all {l : List UInt8} (h : ¬ (l.length < 1 ∨ 9 < l.length ∨ (1 < l.length ∧ l.head? = some 48))) (hd : ∀ b ∈ l, 48 ≤ b.toNat ∧ b.toNat ≤ 57) : l3N l = (valL 0 l : Int) := by
  unfold l3N
  rw [if_neg h, if_pos]
  rw [List.all_eq_true]
  intro b hb
  simpa using hd b hb
theorem valL_snoc (l : List UInt8) (b : UInt8) : valL 0 (l ++ [b]) = valL 0 l * 10 + (b.toNat - 48) := by
  rw [valL_append]; rfl
theorem head_at (s : ByteArray) (h : 0 < s.size) : s.data.toList.head? = some s[0] := by
  rw [List.head?_eq_getElem?]
  exact Lib.data_getElem? s 0 h
set_option maxRecDepth 100000 in
theorem l03Num_in (s : ByteArray) (w : World) (h1 : 1 ≤ s.size) (h9 : s.size ≤ 9) (hn : ¬ (1 < s.size ∧ s.data.toList.head? = some 48)) :
    Calls Tryd.prog 39 #[.string s] w fun e w' => e = .returned (.int .i64 (l3N s.data.toList)) ∧ w = w' := by
  have hz : s.data.toList.length = s.size := by simp
  have HB : Hid (∀ (k : Nat) (hk : k < s.size), (s[k].toNat < 48 ∨ 57 < s[k].toNat) → l3N s.data.toList = -1) := fun k hk h => l3N_bad k s[k] (Lib.data_getElem? s k hk) h
  have HA : Hid ((∀ b ∈ s.data.toList, 48 ≤ b.toNat ∧ b.toNat ≤ 57) → l3N s.data.toList = (valL 0 s.data.toList : Int)) := fun h => l3N_all (by rw [hz]; rintro (g | g | g); omega; omega; exact hn g) h
  have hh := head_at s (by omega)
  rw [hh] at hn
  generalize l3N s.data.toList = R at *
  have hw : s.size ≤ 1 ∨ (1 < s.size ∧ ((s[0].toNat : Int) == 48) = false) := by
    by_cases h : 1 < s.size
    · right
      refine ⟨h, ?_⟩
      have h2 : ¬ s[0] = 48 := fun e => hn ⟨h, by rw [e]⟩
      have h3 : s[0].toNat ≠ 48 := fun e => h2 (UInt8.toNat_inj.1 e)
      simp; omega
    · left; omega
  have HN : Hid (∀ k, k < s.size → s.data.toList.take (k + 1) = s.data.toList.take k ++ [s[k]!]) := fun k hk => by
    rw [take_next s k hk]; simp [getElem!_pos, hk]
  clear hh hn
  rcases hw with hw | ⟨hw, hb0⟩
  all_goals
    go_enter Tryd.func39, Tryd.ntmps39
    go_wp2_with fail
    try any_goals (exfalso; omega; done)
    go_loop [3, 4] (fun v i => ∃ k : Nat, k ≤ s.size ∧ i = .int .i64 (k : Int) ∧ v = .int .i64 (valL 0 (s.data.toList.take k) : Int) ∧ Hid (∀ b ∈ s.data.toList.take k, 48 ≤ b.toNat ∧ b.toNat ≤ 57)) (fun _ i => s.size - (intOf i).toNat)
    case atStart => exact ⟨0, by omega, rfl, rfl, fun b hb => by simp at hb⟩
    case round =>
      obtain ⟨k, hk, rfl, rfl, HD⟩ := hrel
      by_cases hlt : k < s.size
      · have hv := valL_lt (s.data.toList.take k) 0 HD.out
        have hv2 : valL 0 (s.data.toList.take k) < 1000000000 := by
          refine Nat.lt_of_lt_of_le hv ?_
          rw [Nat.zero_add, Nat.one_mul, show (1000000000 : Nat) = 10 ^ 9 from rfl]
          exact Nat.pow_le_pow_right (by decide) (by simp; omega)
        have HS : Hid (valL 0 (s.data.toList.take (k + 1)) = valL 0 (s.data.toList.take k) * 10 + (s[k].toNat - 48)) := by show _ = _; rw [take_next s k hlt, valL_snoc]
        have HD2 : Hid (48 ≤ s[k].toNat → s[k].toNat ≤ 57 → ∀ b ∈ s.data.toList.take (k + 1), 48 ≤ b.toNat ∧ b.toNat ≤ 57) := by
          intro g1 g2 b hb
          rw [take_next s k hlt, List.mem_append, List.mem_singleton] at hb
          rcases hb with hb | rfl
          · exact HD.out b hb
          · exact ⟨g1, g2⟩
        clear hv
        generalize valL 0 (s.data.toList.take k) = N at *
        by_cases hc : 48 ≤ s[k].toNat ∧ s[k].toNat ≤ 57
        · obtain ⟨hc1, hc2⟩ := hc
          have d1 : decide (((s[k].toNat : Nat) : Int) < 48) = false := by simp; omega
          have d2 : decide ((57 : Int) < ((s[k].toNat : Nat) : Int)) = false := by simp; omega
          go_wp2
          refine ⟨⟨k + 1, by omega, by go_num, ?_, HD2.out hc1 hc2⟩, ?_⟩
          · rw [HS.out]; go_num
          · simp [intOf]; omega
        · have HR : Hid (R = -1) := HB.out k hlt (by omega)
          have hor : s[k].toNat < 48 ∨ (48 ≤ s[k].toNat ∧ 57 < s[k].toNat) := by omega
          clear hc
          rcases hor with hc | ⟨hc, hc2⟩
          · have d1 : decide (((s[k].toNat : Nat) : Int) < 48) = true := by simp; omega
            go_wp2
            go_ret
            exact ⟨by rw [HR.out]; rfl, rfl⟩
          · have d1 : decide (((s[k].toNat : Nat) : Int) < 48) = false := by simp; omega
            have d2 : decide ((57 : Int) < ((s[k].toNat : Nat) : Int)) = true := by simp; omega
            go_wp2
            go_ret
            exact ⟨by rw [HR.out]; rfl, rfl⟩
      · obtain rfl : k = s.size := by omega
        have HR : Hid (R = (valL 0 (s.data.toList.take s.size) : Int)) := by
          show _ = _
          have e := take_all s s.size (by omega)
          rw [e]
          exact HA.out (by rw [← e]; exact HD.out)
        generalize valL 0 (s.data.toList.take s.size) = N at *
        go_wp2
        go_ret
        exact ⟨by rw [HR.out]; rfl, rfl⟩
set_option maxRecDepth 100000 in
theorem l03Num_any (s : ByteArray) (w : World) (hs : s.size ≤ 1048576) :
    Calls Tryd.prog 39 #[.string s] w fun e w' => e = .returned (.int .i64 (l3N s.data.toList)) ∧ w = w' := by
  have hz : s.data.toList.length = s.size := by simp
  by_cases h1 : 1 ≤ s.size
  · by_cases h9 : s.size ≤ 9
    · by_cases hn : 1 < s.size ∧ s.data.toList.head? = some 48
      · rw [l3N_out (by rw [hz]; exact .inr (.inr hn))]
        obtain ⟨hn1, hn2⟩ := hn
        rw [head_at s (by omega)] at hn2
        have hb0 : ((s[0].toNat : Int) == 48) = true := by
          have : s[0] = 48 := by simpa using hn2
          rw [this]; rfl
        have d1 : decide ((s.size : Int) < 1) = false := by simp; omega
        have d2 : decide ((9 : Int) < (s.size : Int)) = false := by simp; omega
        have d3 : decide ((1 : Int) < (s.size : Int)) = true := by simp; omega
        clear hn2 hz
        go_enter Tryd.func39, Tryd.ntmps39
        go_wp2
        go_ret
        exact ⟨rfl, rfl⟩
      · exact l03Num_in s w h1 h9 hn
    · rw [l3N_out (by rw [hz]; exact .inr (.inl (by omega)))]
      have d1 : decide ((s.size : Int) < 1) = false := by simp; omega
      have d2 : decide ((9 : Int) < (s.size : Int)) = true := by simp; omega
      go_enter Tryd.func39, Tryd.ntmps39
      go_wp2
      go_ret
      exact ⟨rfl, rfl⟩
  · rw [l3N_out (by rw [hz]; exact .inl (by omega))]
    have d1 : decide ((s.size : Int) < 1) = true := by simp; omega
    go_enter Tryd.func39, Tryd.ntmps39
    go_wp2
    go_ret
    exact ⟨rfl, rfl⟩
end Go.Proofs.YtchgnjpbjnkdmaaDoor
