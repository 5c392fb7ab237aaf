/- LeaksRight, of the program and of the model. (Written by gen_lksr.py.) -/
import Derived.Test.YtpkjkjepmloddaaLks
namespace Go.Proofs.Ytpkjkjepmloddaa
open Go.RowKit Go.Sort

def lksB (rs : List Lk) : Bool := decide (rs.length ≤ 4) && rs.all lkB
theorem lksB_bad {rs : List Lk} {k : Nat} (hk : k < rs.length) (h : lkB rs[k] = false) : lksB rs = false := by
  unfold lksB
  have : rs.all lkB = false := by rw [List.all_eq_false]; exact ⟨rs[k], List.getElem_mem hk, by simp [h]⟩
  rw [this, Bool.and_false]
theorem lksB_good {rs : List Lk} (h4 : rs.length ≤ 4) (h : ∀ j (hj : j < rs.length), lkB rs[j] = true) : lksB rs = true := by
  unfold lksB
  have : rs.all lkB = true := by
    rw [List.all_eq_true]
    intro x hx
    obtain ⟨j, hj, rfl⟩ := List.mem_iff_getElem.1 hx
    exact h j hj
  rw [this, decide_eq_true h4]
  rfl
theorem lksB_long {rs : List Lk} (h4 : ¬ rs.length ≤ 4) : lksB rs = false := by
  unfold lksB
  rw [decide_eq_false h4]
  rfl
set_option maxRecDepth 100000 in
set_option maxHeartbeats 2000000 in
theorem implLeaks_any (p : Option Addr) (cap : Nat) (rs : List Lk) (w : World) (h : LksIn w p rs) (hn : rs.length ≤ 100000000) :
    Calls Try.prog 38 #[.slice p rs.length cap] w fun e w' => e = .returned (.bool (lksB rs)) ∧ Below w.heap.size w w' := by
  have HX : Hid (LksIn w p rs) := h
  have HE : Hid (∀ f w, Calls Try.prog 70 #[lkV f] w fun e w' => e = .returned (.bool (lkB f)) ∧ Below w.heap.size w w') := implLeak_any
  have HB1 : Hid (∀ k (hk : k < rs.length), lkB rs[k] = false → lksB rs = false) := fun k hk h => lksB_bad hk h
  have HG : Hid (rs.length ≤ 4 → (∀ j (hj : j < rs.length), lkB rs[j] = true) → lksB rs = true) := fun a b => lksB_good a b
  clear h
  by_cases h4 : rs.length ≤ 4
  case neg =>
    have hR := lksB_long h4
    have d0 : decide (4 < (rs.length : Int)) = true := by simp; omega
    clear HB1 HG HX HE
    go_enter Try.func38, Try.ntmps38
    go_wp2
    go_ret
    exact ⟨by rw [hR]; rfl, Below.refl _ _⟩
  have d0 : decide (4 < (rs.length : Int)) = false := by simp; omega
  go_enter Try.func38, Try.ntmps38
  go_wp2_with fail
  go_loopw [10] (fun i wr => ∃ k : Nat, k ≤ rs.length ∧ i = .int .i64 k ∧ (∀ j (hj : j < rs.length), j < k → lkB rs[j] = true) ∧ Below w.heap.size w wr) (fun i _ => rs.length - (intOf i).toNat)
  case atStart => exact ⟨0, Nat.zero_le _, rfl, fun j _ hj => absurd hj (by omega), Below.refl _ _⟩
  case round =>
    obtain ⟨k, hk, rfl, ha, hB⟩ := hrel
    by_cases hlt : k < rs.length
    · have d1 : decide ((k : Int) < (rs.length : Int)) = true := by simpa using hlt
      obtain ⟨g, fr, tt, a, l, ad, tg, rfl, hg, hek, c0, c1, c2, c3, c4, c5⟩ := (HX.out.below hB).at k hlt
      have HEk : Hid (∀ w, Calls Try.prog 70 #[.agg #[.int .i64 fr, .int .i64 tt, .int .i64 a, .int .i64 l, .int .i64 ad, .int .i64 tg]] w fun e w' => e = .returned (.bool (lkB ⟨fr, tt, a, l, ad, tg⟩)) ∧ Below w.heap.size w w') := HE.out ⟨fr, tt, a, l, ad, tg⟩
      have HBad : Hid (lkB rs[k] = false → lksB rs = false) := HB1.out k hlt
      have HNx : Hid (lkB rs[k] = true → ∀ j (hj : j < rs.length), j < k + 1 → lkB rs[j] = true) := fun h j hj hjk => by
        rcases Nat.lt_or_ge j k with h' | h'
        · exact ha j hj h'
        · obtain rfl : j = k := by omega
          exact h
      rw [hek] at HBad HNx
      have hB := hB.alloc hB.size (.cells #[.int .i64 fr, .int .i64 tt, .int .i64 a, .int .i64 l, .int .i64 ad, .int .i64 tg] 76)
      clear HB1 HG ha HE hek
      go_wp2_with fail
      clear c0 c1 c2 c3 c4 c5
      refine (HEk.out _).mono ?_
      rintro e w2 ⟨rfl, hb2⟩
      have hB := hB.trans (hb2.mono hB.size)
      clear hb2 HEk
      cases hL : lkB ⟨fr, tt, a, l, ad, tg⟩
      · have hR := HBad.out hL
        go_wp2
        go_ret
        exact ⟨by rw [hR]; rfl, hB⟩
      · go_wp2_with fail
        go_roundw
        case rel => exact ⟨k + 1, hlt, by go_num, HNx.out hL, hB⟩
        case measure => simp [intOf]; omega
    · obtain rfl : k = rs.length := by omega
      have d1 : decide ((rs.length : Int) < (rs.length : Int)) = false := by simp
      have hR := HG.out h4 (fun j hj => ha j hj hj)
      clear hlt hk HB1 HG HX ha
      go_wp2
      go_ret
      exact ⟨by rw [hR]; rfl, hB⟩
set_option maxRecDepth 100000 in
set_option maxHeartbeats 2000000 in
theorem specLeaks_any (p : Option Addr) (cap : Nat) (rs : List Lk) (w : World) (h : LksIn w p rs) (hn : rs.length ≤ 100000000) :
    Calls Try.prog 36 #[.slice p rs.length cap] w fun e w' => e = .returned (.bool (lksB rs)) ∧ Below w.heap.size w w' := by
  have HX : Hid (LksIn w p rs) := h
  have HE : Hid (∀ f w, Calls Try.prog 68 #[lkV f] w fun e w' => e = .returned (.bool (lkB f)) ∧ Below w.heap.size w w') := specLeak_any
  have HB1 : Hid (∀ k (hk : k < rs.length), lkB rs[k] = false → lksB rs = false) := fun k hk h => lksB_bad hk h
  have HG : Hid (rs.length ≤ 4 → (∀ j (hj : j < rs.length), lkB rs[j] = true) → lksB rs = true) := fun a b => lksB_good a b
  clear h
  go_enter Try.func36, Try.ntmps36
  go_wp2_with fail
  go_loopw [3] (fun i wr => ∃ k : Nat, k ≤ rs.length ∧ i = .int .i64 k ∧ (∀ j (hj : j < rs.length), j < k → lkB rs[j] = true) ∧ k ≤ 5 ∧ Below w.heap.size w wr) (fun i _ => rs.length - (intOf i).toNat)
  case atStart => exact ⟨0, Nat.zero_le _, rfl, fun j _ hj => absurd hj (by omega), by omega, Below.refl _ _⟩
  case round =>
    obtain ⟨k, hk, rfl, ha, h5, hB⟩ := hrel
    by_cases hlt : k < rs.length ∧ k ≤ 4
    · have d1 : decide ((k : Int) < (rs.length : Int)) = true := by simpa using hlt.1
      have d2 : decide ((k : Int) ≤ 4) = true := by simp; omega
      have hlt := hlt.1
      obtain ⟨g, fr, tt, a, l, ad, tg, rfl, hg, hek, c0, c1, c2, c3, c4, c5⟩ := (HX.out.below hB).at k hlt
      have HEk : Hid (∀ w, Calls Try.prog 68 #[.agg #[.int .i64 fr, .int .i64 tt, .int .i64 a, .int .i64 l, .int .i64 ad, .int .i64 tg]] w fun e w' => e = .returned (.bool (lkB ⟨fr, tt, a, l, ad, tg⟩)) ∧ Below w.heap.size w w') := HE.out ⟨fr, tt, a, l, ad, tg⟩
      have HBad : Hid (lkB rs[k] = false → lksB rs = false) := HB1.out k hlt
      have HNx : Hid (lkB rs[k] = true → ∀ j (hj : j < rs.length), j < k + 1 → lkB rs[j] = true) := fun h j hj hjk => by
        rcases Nat.lt_or_ge j k with h' | h'
        · exact ha j hj h'
        · obtain rfl : j = k := by omega
          exact h
      rw [hek] at HBad HNx
      clear HB1 HG ha HE hek
      go_wp2_with fail
      refine (HEk.out _).mono ?_
      rintro e w2 ⟨rfl, hb2⟩
      have hB := hB.trans (hb2.mono hB.size)
      clear hb2 HEk
      cases hL : lkB ⟨fr, tt, a, l, ad, tg⟩
      · have hR := HBad.out hL
        go_wp2
        go_ret
        exact ⟨by rw [hR]; rfl, hB⟩
      · go_wp2_with fail
        go_roundw
        case rel => exact ⟨k + 1, hlt, by go_num, HNx.out hL, by omega, hB⟩
        case measure => simp [intOf]; omega
    · have hR : lksB rs = decide (rs.length ≤ 4) := by
        by_cases h4 : rs.length ≤ 4
        · rw [decide_eq_true h4]
          exact HG.out h4 (fun j hj => ha j hj (by omega))
        · rw [decide_eq_false h4]
          exact lksB_long h4
      clear HB1 HG HX ha
      by_cases hk2 : k < rs.length
      · have d1 : decide ((k : Int) < (rs.length : Int)) = true := by simpa using hk2
        have d2 : decide ((k : Int) ≤ 4) = false := by simp; omega
        clear hlt hk
        go_wp2
        go_ret
        exact ⟨ret_bool (by rw [hR]; exact decide_eq_decide.2 (by omega)), hB⟩
      · have d1 : decide ((k : Int) < (rs.length : Int)) = false := by simp; omega
        clear hlt hk
        go_wp2
        go_ret
        exact ⟨ret_bool (by rw [hR]; exact decide_eq_decide.2 (by omega)), hB⟩
end Go.Proofs.Ytpkjkjepmloddaa
