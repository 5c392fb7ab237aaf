/- Nets: made, right, of the program and of the model. -/
import Derived.Test.YtpkjkjepmloddaaMaskI
import Derived.Test.YtpkjkjepmloddaaLookA
import Derived.Laws.StructEq
import Derived.BigQuiet
import Derived.Lib.QuietBelow
import Derived.WalkSmall
import Derived.Deep.RegionWith
namespace Go.Proofs.Ytpkjkjepmloddaa
open Go.RowKit Go.Sort

theorem quiet_eqA {P : Program} {f : FuncId} {args : Array Value} {w : World} {n : Nat} {v : Value}
    (h : Calls P f args (w.drewN n) fun e w' => e = .returned v ∧ w.drewN n = w') : Calls P f args (w.drewN n) fun e w'' => e = .returned v ∧ ∃ m, w'' = w.drewN m :=
  h.mono fun _ _ ⟨he, hm⟩ => ⟨he, n, hm.symm⟩
theorem cell2_0 (w : World) (x y : Value) (t : TypeId) : (w.alloc (.cells #[x, y] t)).cell? ⟨w.heap.size, 0, none⟩ = some x := by
  rw [cell_of_row _ _ _ _ t _ (heap_alloc_new w _)]; simp
theorem cell2_1 (w : World) (x y : Value) (t : TypeId) : (w.alloc (.cells #[x, y] t)).cell? ⟨w.heap.size, 1, none⟩ = some y := by
  rw [cell_of_row _ _ _ _ t _ (heap_alloc_new w _)]; simp
theorem cell2_later {w w0 w1 : World} {x y : Value} {t : TypeId} (h0 : w0 = w.alloc (.cells #[x, y] t)) (h : Below w0.heap.size w0 w1) : w1.cell? ⟨w.heap.size, 0, none⟩ = some x ∧ w1.cell? ⟨w.heap.size, 1, none⟩ = some y ∧ w.heap.size < w1.heap.size ∧ Below w.heap.size w w1 := by
  subst h0
  refine ⟨?_, ?_, ?_, ?_⟩
  · rw [h.cell (p := ⟨w.heap.size, 0, none⟩) (by simp)]; exact cell2_0 w x y t
  · rw [h.cell (p := ⟨w.heap.size, 1, none⟩) (by simp)]; exact cell2_1 w x y t
  · have := h.size; simp at this; omega
  · exact ((Below.refl _ _).alloc (Nat.le_refl _) _).trans (h.mono (by simp))
theorem cell2_laterH {w w0 w1 : World} {x y : Value} {t : TypeId} (h0 : w0.heap = (w.alloc (.cells #[x, y] t)).heap) (hb : Below w.heap.size w w0) (h : Below w0.heap.size w0 w1) : w1.cell? ⟨w.heap.size, 0, none⟩ = some x ∧ w1.cell? ⟨w.heap.size, 1, none⟩ = some y ∧ w.heap.size < w1.heap.size ∧ Below w.heap.size w w1 := by
  have hz : w0.heap.size = w.heap.size + 1 := by rw [h0]; simp
  have hr : w0.heap[w.heap.size]? = some (.cells #[x, y] t) := by rw [h0]; exact heap_alloc_new w _
  refine ⟨?_, ?_, ?_, ?_⟩
  · rw [h.cell (p := ⟨w.heap.size, 0, none⟩) (by simp [hz]), cell_of_row _ _ _ _ t _ hr]; simp
  · rw [h.cell (p := ⟨w.heap.size, 1, none⟩) (by simp [hz]), cell_of_row _ _ _ _ t _ hr]; simp
  · have := h.size; omega
  · exact hb.trans (h.mono (by omega))
def netV (a l : Int) : Value := .agg #[.int .i64 a, .int .i64 l]
def inLen (l : Int) : Bool := decide (0 ≤ l ∧ l ≤ 32)
def netA (a l : Int) : Int := if 0 ≤ a ∧ a ≤ 4294967295 ∧ 0 ≤ l ∧ l ≤ 32 then cutV a l else 0
def netN (a l : Int) : Int := if 0 ≤ a ∧ a ≤ 4294967295 ∧ 0 ≤ l ∧ l ≤ 32 then l else 0
def rightB (a l : Int) : Bool := decide (0 ≤ a ∧ a ≤ 4294967295 ∧ 0 ≤ l ∧ l ≤ 32 ∧ cutV a l = a)
theorem netA_in {a l : Int} (h : 0 ≤ a ∧ a ≤ 4294967295 ∧ 0 ≤ l ∧ l ≤ 32) : netA a l = cutV a l := if_pos h
theorem netN_in {a l : Int} (h : 0 ≤ a ∧ a ≤ 4294967295 ∧ 0 ≤ l ∧ l ≤ 32) : netN a l = l := if_pos h
theorem netA_out {a l : Int} (h : ¬ (0 ≤ a ∧ a ≤ 4294967295 ∧ 0 ≤ l ∧ l ≤ 32)) : netA a l = 0 := if_neg h
theorem netN_out {a l : Int} (h : ¬ (0 ≤ a ∧ a ≤ 4294967295 ∧ 0 ≤ l ∧ l ≤ 32)) : netN a l = 0 := if_neg h
/-- A net is what is made of its address and its length just where it is right. -/
theorem right_iff (a l : Int) : rightB a l = (netA a l == a && netN a l == l) := by
  unfold rightB
  by_cases h : 0 ≤ a ∧ a ≤ 4294967295 ∧ 0 ≤ l ∧ l ≤ 32
  · rw [netA_in h, netN_in h]
    by_cases hc : cutV a l = a
    · simp [h, hc]
    · simp [hc]
  · rw [netA_out h, netN_out h]
    have h2 : ¬ (0 ≤ a ∧ a ≤ 4294967295 ∧ 0 ≤ l ∧ l ≤ 32 ∧ cutV a l = a) := fun e => h ⟨e.1, e.2.1, e.2.2.1, e.2.2.2.1⟩
    rw [decide_eq_false h2]
    symm
    by_cases ha : a = 0
    · subst ha
      have : ¬ (0 : Int) = l := by omega
      simp [this]
    · have : ¬ (0 : Int) = a := fun e => ha e.symm
      simp [this]
set_option maxRecDepth 100000 in
theorem l03Cut_any (a l : Int) (w : World) (h0 : 0 ≤ a) (h1 : a ≤ 4294967295) (hl0 : 0 ≤ l) (hl1 : l ≤ 32) :
    Calls Try.prog 106 #[.int .i64 a, .int .i64 l] w fun e w' => e = .returned (.int .i64 (cutV a l)) ∧ w = w' := by
  have HC : Hid (∀ w, Calls Try.prog 117 #[.int .i64 (32 - l)] w fun e w' => e = .returned (.int .i64 (gap l : Int)) ∧ w = w') := fun w => l03Pow_at l (32 - l) w hl0 hl1 rfl
  have hg1 := gap_pos l
  have hg2 := gap_le l
  have hcl := cutV_le a l h0
  have HV : Hid (cutV a l = a / (gap l : Int) * (gap l : Int)) := rfl
  have hgz : (((gap l : Nat) : Int) == 0) = false := by simp; omega
  have ht : a.tdiv (gap l : Int) = a / (gap l : Int) := Int.tdiv_eq_ediv_of_nonneg h0
  have hq0 : 0 ≤ a / (gap l : Int) := Int.ediv_nonneg h0 (by omega)
  have hq1 : a / (gap l : Int) ≤ a := Int.ediv_le_self _ h0
  have HT : Hid _ := ht
  generalize gap l = G at *
  generalize cutV a l = C at *
  go_enter Try.func106, Try.ntmps106
  go_wp2_with fail
  refine (HC.out _).mono ?_
  rintro e w1 ⟨rfl, rfl⟩
  go_wp2
  go_ret
  exact ⟨ret_i64 (by rw [← HV.out, wrap64_in _ (by omega) (by omega)]), rfl⟩
theorem isLen_dec (l : Int) : inLen l = decide (0 ≤ l ∧ l ≤ 32) := rfl
set_option maxRecDepth 100000 in
theorem isLen_any (a : Int) (w : World) : Calls Try.prog 118 #[.int .i64 a] w fun e w' => e = .returned (.bool (inLen a)) ∧ w = w' := by
  by_cases h1 : 0 ≤ a
  · by_cases h2 : a ≤ 32
    · go_enter Try.func118, Try.ntmps118
      go_wp2
      go_ret
      exact ⟨ret_bool (by simp [inLen]; omega), rfl⟩
    · go_enter Try.func118, Try.ntmps118
      go_wp2
      go_ret
      exact ⟨ret_bool (by simp [inLen]; omega), rfl⟩
  · go_enter Try.func118, Try.ntmps118
    go_wp2
    go_ret
    exact ⟨ret_bool (by simp [inLen]; omega), rfl⟩
set_option maxRecDepth 100000 in
theorem implNetOf_at (a l : Int) (w : World) : Calls Try.prog 108 #[.int .i64 a, .int .i64 l] w fun e w' => e = .returned (netV (netA a l) (netN a l)) ∧ w.alloc (.cells #[.int .i64 (netA a l), .int .i64 (netN a l)] 74) = w' := by
  have HI : Hid (∀ w, Calls Try.prog 78 #[.int .i64 a] w fun e w' => e = .returned (.bool (inAddr a)) ∧ w = w') := isAddr_any a
  have HJ : Hid (∀ w, Calls Try.prog 118 #[.int .i64 l] w fun e w' => e = .returned (.bool (inLen l)) ∧ w = w') := isLen_any l
  have HM : Hid (∀ w, Calls Try.prog 119 #[.int .i64 l] w fun e w' => e = .returned (.int .i64 (maskV l)) ∧ w = w') := implMask_any l
  by_cases h : 0 ≤ a ∧ a ≤ 4294967295 ∧ 0 ≤ l ∧ l ≤ 32
  · have HA : Hid _ := and_mask a l h.1 h.2.1 h.2.2.1 h.2.2.2
    rw [netA_in h, netN_in h]
    have ha : inAddr a = true := by simp [inAddr]; omega
    have hl : inLen l = true := by simp [inLen]; omega
    rw [ha] at HI
    rw [hl] at HJ
    clear ha hl h
    generalize maskV l = M at *
    generalize cutV a l = C at *
    unfold netV
    go_enter Try.func108, Try.ntmps108
    go_wp2_with fail
    refine (HI.out _).mono ?_
    rintro e w1 ⟨rfl, rfl⟩
    go_wp2_with fail
    refine (HJ.out _).mono ?_
    rintro e w1 ⟨rfl, rfl⟩
    go_wp2_with fail
    refine (HM.out _).mono ?_
    rintro e w1 ⟨rfl, rfl⟩
    go_wp2
    refine bodyPost_ret (v := .agg #[.int .i64 C, .int .i64 l]) (by rw [← HA.out]; simp [results, Try.results108, go_sem]) rfl ⟨rfl, by rw [← HA.out]⟩
  · rw [netA_out h, netN_out h]
    unfold netV
    by_cases ha : 0 ≤ a ∧ a ≤ 4294967295
    · have hl : inLen l = false := by simp [inLen]; omega
      have ha' : inAddr a = true := by simp [inAddr]; omega
      rw [ha'] at HI
      rw [hl] at HJ
      clear ha hl h HM ha'
      go_enter Try.func108, Try.ntmps108
      go_wp2_with fail
      refine (HI.out _).mono ?_
      rintro e w1 ⟨rfl, rfl⟩
      go_wp2_with fail
      refine (HJ.out _).mono ?_
      rintro e w1 ⟨rfl, rfl⟩
      go_wp2
      refine bodyPost_ret (v := .agg #[.int .i64 0, .int .i64 0]) (by simp [results, Try.results108, go_sem]) rfl ⟨rfl, rfl⟩
    · have ha' : inAddr a = false := by simp [inAddr]; omega
      rw [ha'] at HI
      clear ha h HM ha' HJ
      go_enter Try.func108, Try.ntmps108
      go_wp2_with fail
      refine (HI.out _).mono ?_
      rintro e w1 ⟨rfl, rfl⟩
      go_wp2
      refine bodyPost_ret (v := .agg #[.int .i64 0, .int .i64 0]) (by simp [results, Try.results108, go_sem]) rfl ⟨rfl, rfl⟩
theorem implNetOf_any (a l : Int) (w : World) : Calls Try.prog 108 #[.int .i64 a, .int .i64 l] w fun e w' => e = .returned (netV (netA a l) (netN a l)) ∧ Below w.heap.size w w' :=
  (implNetOf_at a l w).mono fun _ _ ⟨he, hw⟩ => ⟨he, hw ▸ (Below.refl _ _).alloc (Nat.le_refl _) _⟩
set_option maxRecDepth 100000 in
theorem implRight_any (a l : Int) (w : World) : Calls Try.prog 90 #[netV a l] w fun e w' => e = .returned (.bool (rightB a l)) ∧ Below w.heap.size w w' := by
  have HR : Hid _ := right_iff a l
  have HN : Hid (∀ w, Calls Try.prog 108 #[.int .i64 a, .int .i64 l] w fun e w' => e = .returned (netV (netA a l) (netN a l)) ∧ Below w.heap.size w w') := implNetOf_any a l
  generalize rightB a l = R at *
  generalize netA a l = A at *
  generalize netN a l = N at *
  unfold netV at *
  obtain ⟨b1, e1⟩ : ∃ b, (A == a) = b := ⟨_, rfl⟩
  obtain ⟨b2, e2⟩ : ∃ b, (N == l) = b := ⟨_, rfl⟩
  rw [e1, e2] at HR
  have cN : ∀ d os, Calls Try.prog 108 #[.int .i64 a, .int .i64 l] (grow (redrawn (w.alloc (.cells #[.int .i64 a, .int .i64 l] 74)) d) os) fun e w'' => e = .returned (.agg #[.int .i64 A, .int .i64 N]) ∧ ∃ p : Regrown, w'' = grow (redrawn (w.alloc (.cells #[.int .i64 a, .int .i64 l] 74)) p.d) p.os := fun d os => Calls.regrown_of (HN.out _)
  have HC : Hid _ := cN
  clear cN
  have k0 := cell_regrown (cell2_0 w (.int .i64 a) (.int .i64 l) 74)
  have k1 := cell_regrown (cell2_1 w (.int .i64 a) (.int .i64 l) 74)
  cases b1 <;> cases b2
  all_goals
    go_enter Try.func90, Try.ntmps90
    go_wp2_with fail
    refine wp_region_quiet_below (by kernel_rfl) (by kernel_rfl) ?_
    repeat (go_big_quiet_step (exact HC.out _ _))
    refine wpQuiet_nil ?_
    intro _ hw'
    obtain ⟨⟨dq, osq⟩, hw''⟩ := hw'
    subst hw''
    go_wp2
    go_ret
    exact ⟨ret_bool (by rw [HR.out]; rfl), ((Below.refl _ _).alloc (Nat.le_refl _) _).trans ((below_regrown _ dq osq).mono (by simp))⟩
set_option maxRecDepth 100000 in
theorem specRight_any (a l : Int) (w : World) : Calls Try.prog 83 #[netV a l] w fun e w' => e = .returned (.bool (rightB a l)) ∧ Below w.heap.size w w' := by
  have HI : Hid (∀ w, Calls Try.prog 75 #[.int .i64 a] w fun e w' => e = .returned (.bool (inAddr a)) ∧ w = w') := l03Addr_any a
  have HJ : Hid (∀ w, Calls Try.prog 29 #[.int .i64 l, .int .i64 0, .int .i64 32] w fun e w' => e = .returned (.bool (inLen l)) ∧ w = w') := l03Is_any l 0 32
  unfold netV
  by_cases ha : 0 ≤ a ∧ a ≤ 4294967295
  · have ha' : inAddr a = true := by simp [inAddr]; omega
    rw [ha'] at HI
    by_cases hl : 0 ≤ l ∧ l ≤ 32
    · have hl' : inLen l = true := by simp [inLen]; omega
      rw [hl'] at HJ
      have HM : Hid (∀ w, Calls Try.prog 106 #[.int .i64 a, .int .i64 l] w fun e w' => e = .returned (.int .i64 (cutV a l)) ∧ w = w') := fun w => l03Cut_any a l w ha.1 ha.2 hl.1 hl.2
      have HR : Hid ((cutV a l == a) = rightB a l) := by
        show _ = _
        unfold rightB
        by_cases hc : cutV a l = a
        · simp [hc]; omega
        · simp [hc]
      clear ha hl ha' hl'
      generalize rightB a l = R at *
      generalize cutV a l = C at *
      go_enter Try.func83, Try.ntmps83
      go_wp2_with fail
      go_quiet ((first | (go_at_call 75; exact quiet_eqA (HI.out _)) | (go_at_call 29; exact quiet_eqA (HJ.out _)) | (go_at_call 106; exact quiet_eqA (HM.out _))))
      go_wp2
      go_ret
      exact ⟨ret_bool HR.out, below_drewN ((Below.refl _ _).alloc (Nat.le_refl _) _) _⟩
    · have hl' : inLen l = false := by simp [inLen]; omega
      rw [hl'] at HJ
      have HR : Hid (rightB a l = false) := by show _ = _; simp [rightB]; omega
      clear ha hl ha' hl'
      generalize rightB a l = R at *
      go_enter Try.func83, Try.ntmps83
      go_wp2_with fail
      go_quiet ((first | (go_at_call 75; exact quiet_eqA (HI.out _)) | (go_at_call 29; exact quiet_eqA (HJ.out _))))
      go_wp2
      go_ret
      exact ⟨ret_bool HR.out.symm, below_drewN ((Below.refl _ _).alloc (Nat.le_refl _) _) _⟩
  · have ha' : inAddr a = false := by simp [inAddr]; omega
    rw [ha'] at HI
    have HR : Hid (rightB a l = false) := by show _ = _; simp [rightB]; omega
    clear ha ha' HJ
    generalize rightB a l = R at *
    go_enter Try.func83, Try.ntmps83
    go_wp2_with fail
    go_quiet ((go_at_call 75; exact quiet_eqA (HI.out _)))
    go_wp2
    go_ret
    exact ⟨ret_bool HR.out.symm, below_drewN ((Below.refl _ _).alloc (Nat.le_refl _) _) _⟩
end Go.Proofs.Ytpkjkjepmloddaa
