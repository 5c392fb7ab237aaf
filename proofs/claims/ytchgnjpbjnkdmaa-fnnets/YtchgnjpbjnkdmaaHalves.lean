/- Halves, of the program and of the model. -/
import Derived.Test.YtchgnjpbjnkdmaaNetOf
import Derived.Test.YtchgnjpbjnkdmaaRowV
import Derived.Test.YtchgnjpbjnkdmaaTail
namespace Go.Proofs.Ytchgnjpbjnkdmaa
open Go.RowKit Go.Sort

def nets2 (a l b m : Int) : List Value := [.int .i64 a, .int .i64 l, .int .i64 b, .int .i64 m]
def halfB (a l : Int) : Bool := rightB a l && decide (l < 32)
/-- What Halves hands back: nothing, or two nets in memory of their own. -/
def HalvesAt (w w' : World) (a l : Int) (v : Value) : Prop :=
  if halfB a l = true then ∃ g, v = .slice (some ⟨g, 0, none⟩) 2 2 ∧ w.heap.size ≤ g ∧ Row w' g 26 (nets2 a (l + 1) (a + (gap (l + 1) : Int)) (l + 1)) else ∃ x c, v = .slice x 0 c
theorem halfGap (l : Int) (h0 : 0 ≤ l) (h1 : l < 32) : (2 : Int) ^ (32 - (l + 1)).toNat = (gap (l + 1) : Int) := by
  rw [gap_pow (l + 1) (by omega) (by omega)]; simp
theorem halfSum (a l : Int) (h0 : 0 ≤ a) (h1 : a ≤ 4294967295) : a + (gap (l + 1) : Int) ≤ 8589934591 ∧ 0 ≤ a + (gap (l + 1) : Int) := by
  have := gap_le (l + 1); have := gap_pos (l + 1); omega
set_option maxRecDepth 100000 in
theorem implHalves_any (a l : Int) (w : World) : Calls Try.prog 13 #[netV a l] w fun e w' => ∃ v, e = .returned v ∧ HalvesAt w w' a l v ∧ Below w.heap.size w w' := by
  have HR : Hid (∀ w, Calls Try.prog 24 #[netV a l] w fun e w' => e = .returned (.bool (rightB a l)) ∧ Below w.heap.size w w') := implRight_any a l
  by_cases hr : rightB a l = true
  · have h : 0 ≤ a ∧ a ≤ 4294967295 ∧ 0 ≤ l ∧ l ≤ 32 ∧ cutV a l = a := by simpa [rightB] using hr
    obtain ⟨h1, h2, h3, h4, _⟩ := h
    by_cases hl : l < 32
    · have HV : Hid (∀ w w' v, HalvesAt w w' a l v = ∃ g, v = .slice (some ⟨g, 0, none⟩) 2 2 ∧ w.heap.size ≤ g ∧ Row w' g 26 (nets2 a (l + 1) (a + (gap (l + 1) : Int)) (l + 1))) := by
        intro w w' v
        unfold HalvesAt
        rw [if_pos (by simp [halfB, hr, hl])]
      have HG : Hid _ := halfGap l h3 hl
      have hsum := halfSum a l h1 h2
      have hgp := gap_pos (l + 1)
      have hgl := gap_le (l + 1)
      rw [hr] at HR
      have d1 : (l == 32) = false := by simp; omega
      unfold netV at *
      generalize gap (l + 1) = G at *
      clear hr
      go_enter Try.func13, Try.ntmps13
      go_wp2_with fail
      refine (HR.out _).mono ?_
      rintro e w1 ⟨rfl, hb1⟩
      obtain ⟨c0, c1, hs1, hB1⟩ := cell2_later rfl hb1
      clear hb1
      have hw0 : IntKind.i64.wrap (32 - (l + 1)) = 32 - (l + 1) := wrap_i64_in _ (by omega) (by omega)
      have hnn : ¬ (32 - (l + 1) < 0) := by omega
      go_wp2_with fail
      go_quiet (fail)
      go_wp2
      go_ret
      have hx : wrap64 (a + wrap64 (2 ^ (32 - (l + 1)).toNat)) = a + (G : Int) := by
        rw [HG.out, wrap64_in (G : Int) (by omega) (by omega), wrap64_in _ (by omega) (by omega)]
      refine ⟨_, rfl, ?_, (below_drewN hB1 nq).alloc hB1.size _⟩
      rw [HV.out]
      refine ⟨w1.heap.size, rfl, by omega, ?_⟩
      rw [hx]
      exact Row.new (w1.drewN nq) 26 (nets2 a (l + 1) (a + (G : Int)) (l + 1))
    · obtain rfl : l = 32 := by omega
      have HV : Hid (∀ w w' v, HalvesAt w w' a 32 v = ∃ x c, v = .slice x 0 c) := by
        intro w w' v
        unfold HalvesAt
        rw [if_neg (by simp [halfB])]
      rw [hr] at HR
      unfold netV at *
      clear hr
      go_enter Try.func13, Try.ntmps13
      go_wp2_with fail
      refine (HR.out _).mono ?_
      rintro e w1 ⟨rfl, hb1⟩
      obtain ⟨c0, c1, hs1, hB1⟩ := cell2_later rfl hb1
      clear hb1
      go_wp2
      go_ret
      exact ⟨_, rfl, by rw [HV.out]; exact ⟨_, _, rfl⟩, hB1⟩
  · have hr' : rightB a l = false := by simpa using hr
    have HV : Hid (∀ w w' v, HalvesAt w w' a l v = ∃ x c, v = .slice x 0 c) := by
      intro w w' v
      unfold HalvesAt
      rw [if_neg (by simp [halfB, hr'])]
    rw [hr'] at HR
    unfold netV at *
    clear hr hr'
    go_enter Try.func13, Try.ntmps13
    go_wp2_with fail
    refine (HR.out _).mono ?_
    rintro e w1 ⟨rfl, hb1⟩
    obtain ⟨c0, c1, hs1, hB1⟩ := cell2_later rfl hb1
    clear hb1
    go_wp2
    go_ret
    exact ⟨_, rfl, by rw [HV.out]; exact ⟨_, _, rfl⟩, hB1⟩
theorem l03Pow_half (l x : Int) (w : World) (h0 : 0 ≤ l) (h1 : l < 32) (hx : x = 31 - l) :
    Calls Try.prog 53 #[.int .i64 x] w fun e w' => e = .returned (.int .i64 (gap (l + 1) : Int)) ∧ w = w' :=
  l03Pow_at (l + 1) x w (by omega) (by omega) (by omega)
set_option maxRecDepth 100000 in
theorem specHalves_any (a l : Int) (w : World) : Calls Try.prog 14 #[netV a l] w fun e w' => ∃ v, e = .returned v ∧ HalvesAt w w' a l v ∧ Below w.heap.size w w' := by
  have HR : Hid (∀ w, Calls Try.prog 23 #[netV a l] w fun e w' => e = .returned (.bool (rightB a l)) ∧ Below w.heap.size w w') := specRight_any a l
  by_cases hr : rightB a l = true
  · have h : 0 ≤ a ∧ a ≤ 4294967295 ∧ 0 ≤ l ∧ l ≤ 32 ∧ cutV a l = a := by simpa [rightB] using hr
    obtain ⟨h1, h2, h3, h4, _⟩ := h
    by_cases hl : l < 32
    · have HV : Hid (∀ w w' v, HalvesAt w w' a l v = ∃ g, v = .slice (some ⟨g, 0, none⟩) 2 2 ∧ w.heap.size ≤ g ∧ Row w' g 26 (nets2 a (l + 1) (a + (gap (l + 1) : Int)) (l + 1))) := by
        intro w w' v
        unfold HalvesAt
        rw [if_pos (by simp [halfB, hr, hl])]
      have HP : Hid (∀ w, Calls Try.prog 53 #[.int .i64 (31 - l)] w fun e w' => e = .returned (.int .i64 (gap (l + 1) : Int)) ∧ w = w') := fun w => l03Pow_half l (31 - l) w h3 hl rfl
      have hsum := halfSum a l h1 h2
      rw [hr] at HR
      have d1 : decide (32 ≤ l) = false := by simp; omega
      unfold netV at *
      generalize gap (l + 1) = G at *
      clear hr
      go_enter Try.func14, Try.ntmps14
      go_wp2_with fail
      refine (HR.out _).mono ?_
      rintro e w1 ⟨rfl, hb1⟩
      obtain ⟨c0, c1, hs1, hB1⟩ := cell2_later rfl hb1
      clear hb1
      have hw0 : IntKind.i64.wrap (31 - l) = 31 - l := wrap_i64_in _ (by omega) (by omega)
      have hw1 : IntKind.i64.wrap (l + 1) = l + 1 := wrap_i64_in _ (by omega) (by omega)
      have hw2 : IntKind.i64.wrap (a + (G : Int)) = a + (G : Int) := wrap_i64_in _ (by omega) (by omega)
      go_wp2_with fail
      refine wp_region_tail 17 (by kernel_rfl) (by kernel_rfl) ?_
      simp only [List.take_succ_cons, List.take_zero, List.drop_succ_cons, List.drop_zero]
      repeat (quiet_step ((go_at_call 53; exact quiet_eq (HP.out _))))
      refine wpQuiet_nil ?_
      intro _ hw'
      obtain ⟨nq, hw''⟩ := hw'
      subst hw''
      go_wp2
      go_ret
      refine ⟨_, rfl, ?_, (below_drewN hB1 nq).alloc hB1.size _⟩
      rw [HV.out]
      exact ⟨w1.heap.size, rfl, by omega, Row.new (w1.drewN nq) 26 (nets2 a (l + 1) (a + (G : Int)) (l + 1))⟩
    · obtain rfl : l = 32 := by omega
      have HV : Hid (∀ w w' v, HalvesAt w w' a 32 v = ∃ x c, v = .slice x 0 c) := by
        intro w w' v
        unfold HalvesAt
        rw [if_neg (by simp [halfB])]
      rw [hr] at HR
      unfold netV at *
      clear hr
      go_enter Try.func14, Try.ntmps14
      go_wp2_with fail
      refine (HR.out _).mono ?_
      rintro e w1 ⟨rfl, hb1⟩
      obtain ⟨c0, c1, hs1, hB1⟩ := cell2_later rfl hb1
      clear hb1
      go_wp2
      go_ret
      exact ⟨_, rfl, by rw [HV.out]; exact ⟨_, _, rfl⟩, hB1.alloc hB1.size _⟩
  · have hr' : rightB a l = false := by simpa using hr
    have HV : Hid (∀ w w' v, HalvesAt w w' a l v = ∃ x c, v = .slice x 0 c) := by
      intro w w' v
      unfold HalvesAt
      rw [if_neg (by simp [halfB, hr'])]
    rw [hr'] at HR
    unfold netV at *
    clear hr hr'
    go_enter Try.func14, Try.ntmps14
    go_wp2_with fail
    refine (HR.out _).mono ?_
    rintro e w1 ⟨rfl, hb1⟩
    obtain ⟨c0, c1, hs1, hB1⟩ := cell2_later rfl hb1
    clear hb1
    go_wp2
    go_ret
    exact ⟨_, rfl, by rw [HV.out]; exact ⟨_, _, rfl⟩, hB1.alloc hB1.size _⟩
end Go.Proofs.Ytchgnjpbjnkdmaa
