/- Texts that stand on each other, in one file: NetOf, Covers, CoverL, CoversS, EntD, ToNet, Rt, EqNet, Four2, LessI. -/
import Derived.Test.YtialedffpaoacaaGreatDoorPack7
import Derived.Laws.StructEq
import Derived.BigQuiet
import Derived.Lib.QuietBelow
import Derived.WalkSmall
import Derived.Deep.RegionWith
/- Nets: made, right, of the program and of the model. -/
namespace Go.Proofs.YtialedffpaoacaaGreatDoor
open Go.RowKit Go.Sort

theorem quiet_eqA {P : Program} {f : FuncId} {args : Array Value} {w : World} {n : Nat} {v : Value}
    (h : Calls P f args (w.drewN n) fun e w' => e = .returned v ∧ w.drewN n = w') : Calls P f args (w.drewN n) fun e w'' => e = .returned v ∧ ∃ m, w'' = w.drewN m :=
  h.mono fun _ _ ⟨he, hm⟩ => ⟨he, n, hm.symm⟩
theorem cell2_0 (w : World) (x y : Value) (t : TypeId) : (w.alloc (.cells #[x, y] t)).cell? ⟨w.heap.size, 0, none⟩ = some x := by
  rw [cell_of_row _ _ _ _ t _ (heap_alloc_new w _)]; simp
theorem cell2_1 (w : World) (x y : Value) (t : TypeId) : (w.alloc (.cells #[x, y] t)).cell? ⟨w.heap.size, 1, none⟩ = some y := by
  rw [cell_of_row _ _ _ _ t _ (heap_alloc_new w _)]; simp
theorem cell2_later {w w0 w1 : World} {x y : Value} {t : TypeId} (h0 : w0 = w.alloc (.cells #[x, y] t)) (h : Below w0.heap.size w0 w1) : w1.cell? ⟨w.heap.size, 0, none⟩ = some x ∧ w1.cell? ⟨w.heap.size, 1, none⟩ = some y ∧ w.heap.size < w1.heap.size ∧ Below w.heap.size w w1 := by
  subst h0
  refine ⟨?_, ?_, ?_, ?_⟩
  · rw [h.cell (p := ⟨w.heap.size, 0, none⟩) (by simp)]; exact cell2_0 w x y t
  · rw [h.cell (p := ⟨w.heap.size, 1, none⟩) (by simp)]; exact cell2_1 w x y t
  · have := h.size; simp at this; omega
  · exact ((Below.refl _ _).alloc (Nat.le_refl _) _).trans (h.mono (by simp))
theorem cell2_laterH {w w0 w1 : World} {x y : Value} {t : TypeId} (h0 : w0.heap = (w.alloc (.cells #[x, y] t)).heap) (hb : Below w.heap.size w w0) (h : Below w0.heap.size w0 w1) : w1.cell? ⟨w.heap.size, 0, none⟩ = some x ∧ w1.cell? ⟨w.heap.size, 1, none⟩ = some y ∧ w.heap.size < w1.heap.size ∧ Below w.heap.size w w1 := by
  have hz : w0.heap.size = w.heap.size + 1 := by rw [h0]; simp
  have hr : w0.heap[w.heap.size]? = some (.cells #[x, y] t) := by rw [h0]; exact heap_alloc_new w _
  refine ⟨?_, ?_, ?_, ?_⟩
  · rw [h.cell (p := ⟨w.heap.size, 0, none⟩) (by simp [hz]), cell_of_row _ _ _ _ t _ hr]; simp
  · rw [h.cell (p := ⟨w.heap.size, 1, none⟩) (by simp [hz]), cell_of_row _ _ _ _ t _ hr]; simp
  · have := h.size; omega
  · exact hb.trans (h.mono (by omega))
def netV (a l : Int) : Value := .agg #[.int .i64 a, .int .i64 l]
def inLen (l : Int) : Bool := decide (0 ≤ l ∧ l ≤ 32)
def netA (a l : Int) : Int := if 0 ≤ a ∧ a ≤ 4294967295 ∧ 0 ≤ l ∧ l ≤ 32 then cutV a l else 0
def netN (a l : Int) : Int := if 0 ≤ a ∧ a ≤ 4294967295 ∧ 0 ≤ l ∧ l ≤ 32 then l else 0
def rightB (a l : Int) : Bool := decide (0 ≤ a ∧ a ≤ 4294967295 ∧ 0 ≤ l ∧ l ≤ 32 ∧ cutV a l = a)
theorem netA_in {a l : Int} (h : 0 ≤ a ∧ a ≤ 4294967295 ∧ 0 ≤ l ∧ l ≤ 32) : netA a l = cutV a l := if_pos h
theorem netN_in {a l : Int} (h : 0 ≤ a ∧ a ≤ 4294967295 ∧ 0 ≤ l ∧ l ≤ 32) : netN a l = l := if_pos h
theorem netA_out {a l : Int} (h : ¬ (0 ≤ a ∧ a ≤ 4294967295 ∧ 0 ≤ l ∧ l ≤ 32)) : netA a l = 0 := if_neg h
theorem netN_out {a l : Int} (h : ¬ (0 ≤ a ∧ a ≤ 4294967295 ∧ 0 ≤ l ∧ l ≤ 32)) : netN a l = 0 := if_neg h
/-- A net is what is made of its address and its length just where it is right. -/
theorem right_iff (a l : Int) : rightB a l = (netA a l == a && netN a l == l) := by
  unfold rightB
  by_cases h : 0 ≤ a ∧ a ≤ 4294967295 ∧ 0 ≤ l ∧ l ≤ 32
  · rw [netA_in h, netN_in h]
    by_cases hc : cutV a l = a
    · simp [h, hc]
    · simp [hc]
  · rw [netA_out h, netN_out h]
    have h2 : ¬ (0 ≤ a ∧ a ≤ 4294967295 ∧ 0 ≤ l ∧ l ≤ 32 ∧ cutV a l = a) := fun e => h ⟨e.1, e.2.1, e.2.2.1, e.2.2.2.1⟩
    rw [decide_eq_false h2]
    symm
    by_cases ha : a = 0
    · subst ha
      have : ¬ (0 : Int) = l := by omega
      simp [this]
    · have : ¬ (0 : Int) = a := fun e => ha e.symm
      simp [this]
set_option maxRecDepth 100000 in
theorem l03Cut_any (a l : Int) (w : World) (h0 : 0 ≤ a) (h1 : a ≤ 4294967295) (hl0 : 0 ≤ l) (hl1 : l ≤ 32) :
    Calls Tryz.prog 169 #[.int .i64 a, .int .i64 l] w fun e w' => e = .returned (.int .i64 (cutV a l)) ∧ w = w' := by
  have HC : Hid (∀ w, Calls Tryz.prog 171 #[.int .i64 (32 - l)] w fun e w' => e = .returned (.int .i64 (gap l : Int)) ∧ w = w') := fun w => l03Pow_at l (32 - l) w hl0 hl1 rfl
  have hg1 := gap_pos l
  have hg2 := gap_le l
  have hcl := cutV_le a l h0
  have HV : Hid (cutV a l = a / (gap l : Int) * (gap l : Int)) := rfl
  have hgz : (((gap l : Nat) : Int) == 0) = false := by simp; omega
  have ht : a.tdiv (gap l : Int) = a / (gap l : Int) := Int.tdiv_eq_ediv_of_nonneg h0
  have hq0 : 0 ≤ a / (gap l : Int) := Int.ediv_nonneg h0 (by omega)
  have hq1 : a / (gap l : Int) ≤ a := Int.ediv_le_self _ h0
  have HT : Hid _ := ht
  generalize gap l = G at *
  generalize cutV a l = C at *
  go_enter Tryz.func169, Tryz.ntmps169
  go_wp2_with fail
  refine (HC.out _).mono ?_
  rintro e w1 ⟨rfl, rfl⟩
  go_wp2
  go_ret
  exact ⟨ret_i64 (by rw [← HV.out, wrap64_in _ (by omega) (by omega)]), rfl⟩
theorem isLen_dec (l : Int) : inLen l = decide (0 ≤ l ∧ l ≤ 32) := rfl
set_option maxRecDepth 100000 in
theorem isLen_any (a : Int) (w : World) : Calls Tryz.prog 163 #[.int .i64 a] w fun e w' => e = .returned (.bool (inLen a)) ∧ w = w' := by
  by_cases h1 : 0 ≤ a
  · by_cases h2 : a ≤ 32
    · go_enter Tryz.func163, Tryz.ntmps163
      go_wp2
      go_ret
      exact ⟨ret_bool (by simp [inLen]; omega), rfl⟩
    · go_enter Tryz.func163, Tryz.ntmps163
      go_wp2
      go_ret
      exact ⟨ret_bool (by simp [inLen]; omega), rfl⟩
  · go_enter Tryz.func163, Tryz.ntmps163
    go_wp2
    go_ret
    exact ⟨ret_bool (by simp [inLen]; omega), rfl⟩
set_option maxRecDepth 100000 in
theorem implNetOf_at (a l : Int) (w : World) : Calls Tryz.prog 116 #[.int .i64 a, .int .i64 l] w fun e w' => e = .returned (netV (netA a l) (netN a l)) ∧ w.alloc (.cells #[.int .i64 (netA a l), .int .i64 (netN a l)] 70) = w' := by
  have HI : Hid (∀ w, Calls Tryz.prog 162 #[.int .i64 a] w fun e w' => e = .returned (.bool (inAddr a)) ∧ w = w') := isAddr_any a
  have HJ : Hid (∀ w, Calls Tryz.prog 163 #[.int .i64 l] w fun e w' => e = .returned (.bool (inLen l)) ∧ w = w') := isLen_any l
  have HM : Hid (∀ w, Calls Tryz.prog 164 #[.int .i64 l] w fun e w' => e = .returned (.int .i64 (maskV l)) ∧ w = w') := implMask_any l
  by_cases h : 0 ≤ a ∧ a ≤ 4294967295 ∧ 0 ≤ l ∧ l ≤ 32
  · have HA : Hid _ := and_mask a l h.1 h.2.1 h.2.2.1 h.2.2.2
    rw [netA_in h, netN_in h]
    have ha : inAddr a = true := by simp [inAddr]; omega
    have hl : inLen l = true := by simp [inLen]; omega
    rw [ha] at HI
    rw [hl] at HJ
    clear ha hl h
    generalize maskV l = M at *
    generalize cutV a l = C at *
    unfold netV
    go_enter Tryz.func116, Tryz.ntmps116
    go_wp2_with fail
    refine (HI.out _).mono ?_
    rintro e w1 ⟨rfl, rfl⟩
    go_wp2_with fail
    refine (HJ.out _).mono ?_
    rintro e w1 ⟨rfl, rfl⟩
    go_wp2_with fail
    refine (HM.out _).mono ?_
    rintro e w1 ⟨rfl, rfl⟩
    go_wp2
    refine bodyPost_ret (v := .agg #[.int .i64 C, .int .i64 l]) (by rw [← HA.out]; simp [results, Tryz.results116, go_sem]) rfl ⟨rfl, by rw [← HA.out]⟩
  · rw [netA_out h, netN_out h]
    unfold netV
    by_cases ha : 0 ≤ a ∧ a ≤ 4294967295
    · have hl : inLen l = false := by simp [inLen]; omega
      have ha' : inAddr a = true := by simp [inAddr]; omega
      rw [ha'] at HI
      rw [hl] at HJ
      clear ha hl h HM ha'
      go_enter Tryz.func116, Tryz.ntmps116
      go_wp2_with fail
      refine (HI.out _).mono ?_
      rintro e w1 ⟨rfl, rfl⟩
      go_wp2_with fail
      refine (HJ.out _).mono ?_
      rintro e w1 ⟨rfl, rfl⟩
      go_wp2
      refine bodyPost_ret (v := .agg #[.int .i64 0, .int .i64 0]) (by simp [results, Tryz.results116, go_sem]) rfl ⟨rfl, rfl⟩
    · have ha' : inAddr a = false := by simp [inAddr]; omega
      rw [ha'] at HI
      clear ha h HM ha' HJ
      go_enter Tryz.func116, Tryz.ntmps116
      go_wp2_with fail
      refine (HI.out _).mono ?_
      rintro e w1 ⟨rfl, rfl⟩
      go_wp2
      refine bodyPost_ret (v := .agg #[.int .i64 0, .int .i64 0]) (by simp [results, Tryz.results116, go_sem]) rfl ⟨rfl, rfl⟩
theorem implNetOf_any (a l : Int) (w : World) : Calls Tryz.prog 116 #[.int .i64 a, .int .i64 l] w fun e w' => e = .returned (netV (netA a l) (netN a l)) ∧ Below w.heap.size w w' :=
  (implNetOf_at a l w).mono fun _ _ ⟨he, hw⟩ => ⟨he, hw ▸ (Below.refl _ _).alloc (Nat.le_refl _) _⟩
set_option maxRecDepth 100000 in
theorem implRight_any (a l : Int) (w : World) : Calls Tryz.prog 139 #[netV a l] w fun e w' => e = .returned (.bool (rightB a l)) ∧ Below w.heap.size w w' := by
  have HR : Hid _ := right_iff a l
  have HN : Hid (∀ w, Calls Tryz.prog 116 #[.int .i64 a, .int .i64 l] w fun e w' => e = .returned (netV (netA a l) (netN a l)) ∧ Below w.heap.size w w') := implNetOf_any a l
  generalize rightB a l = R at *
  generalize netA a l = A at *
  generalize netN a l = N at *
  unfold netV at *
  obtain ⟨b1, e1⟩ : ∃ b, (A == a) = b := ⟨_, rfl⟩
  obtain ⟨b2, e2⟩ : ∃ b, (N == l) = b := ⟨_, rfl⟩
  rw [e1, e2] at HR
  have cN : ∀ d os, Calls Tryz.prog 116 #[.int .i64 a, .int .i64 l] (grow (redrawn (w.alloc (.cells #[.int .i64 a, .int .i64 l] 70)) d) os) fun e w'' => e = .returned (.agg #[.int .i64 A, .int .i64 N]) ∧ ∃ p : Regrown, w'' = grow (redrawn (w.alloc (.cells #[.int .i64 a, .int .i64 l] 70)) p.d) p.os := fun d os => Calls.regrown_of (HN.out _)
  have HC : Hid _ := cN
  clear cN
  have k0 := cell_regrown (cell2_0 w (.int .i64 a) (.int .i64 l) 70)
  have k1 := cell_regrown (cell2_1 w (.int .i64 a) (.int .i64 l) 70)
  cases b1 <;> cases b2
  all_goals
    go_enter Tryz.func139, Tryz.ntmps139
    go_wp2_with fail
    refine wp_region_quiet_below (by kernel_rfl) (by kernel_rfl) ?_
    repeat (go_big_quiet_step (exact HC.out _ _))
    refine wpQuiet_nil ?_
    intro _ hw'
    obtain ⟨⟨dq, osq⟩, hw''⟩ := hw'
    subst hw''
    go_wp2
    go_ret
    exact ⟨ret_bool (by rw [HR.out]; rfl), ((Below.refl _ _).alloc (Nat.le_refl _) _).trans ((below_regrown _ dq osq).mono (by simp))⟩
set_option maxRecDepth 100000 in
theorem specRight_any (a l : Int) (w : World) : Calls Tryz.prog 123 #[netV a l] w fun e w' => e = .returned (.bool (rightB a l)) ∧ Below w.heap.size w w' := by
  have HI : Hid (∀ w, Calls Tryz.prog 125 #[.int .i64 a] w fun e w' => e = .returned (.bool (inAddr a)) ∧ w = w') := l03Addr_any a
  have HJ : Hid (∀ w, Calls Tryz.prog 43 #[.int .i64 l, .int .i64 0, .int .i64 32] w fun e w' => e = .returned (.bool (inLen l)) ∧ w = w') := l03Is_any l 0 32
  unfold netV
  by_cases ha : 0 ≤ a ∧ a ≤ 4294967295
  · have ha' : inAddr a = true := by simp [inAddr]; omega
    rw [ha'] at HI
    by_cases hl : 0 ≤ l ∧ l ≤ 32
    · have hl' : inLen l = true := by simp [inLen]; omega
      rw [hl'] at HJ
      have HM : Hid (∀ w, Calls Tryz.prog 169 #[.int .i64 a, .int .i64 l] w fun e w' => e = .returned (.int .i64 (cutV a l)) ∧ w = w') := fun w => l03Cut_any a l w ha.1 ha.2 hl.1 hl.2
      have HR : Hid ((cutV a l == a) = rightB a l) := by
        show _ = _
        unfold rightB
        by_cases hc : cutV a l = a
        · simp [hc]; omega
        · simp [hc]
      clear ha hl ha' hl'
      generalize rightB a l = R at *
      generalize cutV a l = C at *
      go_enter Tryz.func123, Tryz.ntmps123
      go_wp2_with fail
      go_quiet ((first | (go_at_call 125; exact quiet_eqA (HI.out _)) | (go_at_call 43; exact quiet_eqA (HJ.out _)) | (go_at_call 169; exact quiet_eqA (HM.out _))))
      go_wp2
      go_ret
      exact ⟨ret_bool HR.out, below_drewN ((Below.refl _ _).alloc (Nat.le_refl _) _) _⟩
    · have hl' : inLen l = false := by simp [inLen]; omega
      rw [hl'] at HJ
      have HR : Hid (rightB a l = false) := by show _ = _; simp [rightB]; omega
      clear ha hl ha' hl'
      generalize rightB a l = R at *
      go_enter Tryz.func123, Tryz.ntmps123
      go_wp2_with fail
      go_quiet ((first | (go_at_call 125; exact quiet_eqA (HI.out _)) | (go_at_call 43; exact quiet_eqA (HJ.out _))))
      go_wp2
      go_ret
      exact ⟨ret_bool HR.out.symm, below_drewN ((Below.refl _ _).alloc (Nat.le_refl _) _) _⟩
  · have ha' : inAddr a = false := by simp [inAddr]; omega
    rw [ha'] at HI
    have HR : Hid (rightB a l = false) := by show _ = _; simp [rightB]; omega
    clear ha ha' HJ
    generalize rightB a l = R at *
    go_enter Tryz.func123, Tryz.ntmps123
    go_wp2_with fail
    go_quiet ((go_at_call 125; exact quiet_eqA (HI.out _)))
    go_wp2
    go_ret
    exact ⟨ret_bool HR.out.symm, below_drewN ((Below.refl _ _).alloc (Nat.le_refl _) _) _⟩
end Go.Proofs.YtialedffpaoacaaGreatDoor
/- Covers, of the program and of the model. -/
namespace Go.Proofs.YtialedffpaoacaaGreatDoor
open Go.RowKit Go.Sort

def coversB (a l x : Int) : Bool := rightB a l && (inAddr x && cutV x l == a)
theorem covers_iff (a l x : Int) (hr : rightB a l = true) (hx : inAddr x = true) : (netA x l == a && netN x l == l) = coversB a l x := by
  have h : 0 ≤ a ∧ a ≤ 4294967295 ∧ 0 ≤ l ∧ l ≤ 32 ∧ cutV a l = a := by simpa [rightB] using hr
  have h2 : 0 ≤ x ∧ x ≤ 4294967295 := by simpa [inAddr] using hx
  have h3 : 0 ≤ x ∧ x ≤ 4294967295 ∧ 0 ≤ l ∧ l ≤ 32 := ⟨h2.1, h2.2, h.2.2.1, h.2.2.2.1⟩
  unfold coversB
  rw [netA_in h3, netN_in h3, hr, hx]
  simp
theorem same_below {P : Program} {f : FuncId} {args : Array Value} {w : World} {v : Value} (h : Calls P f args w fun e w' => e = .returned v ∧ w = w') : Calls P f args w fun e w' => e = .returned v ∧ Below w.heap.size w w' :=
  h.mono fun _ _ ⟨he, hw⟩ => ⟨he, hw ▸ Below.refl _ _⟩
theorem k2 (w : World) (x y : Value) (t : TypeId) : (∀ d os, (grow (redrawn (w.alloc (.cells #[x, y] t)) d) os).cell? ⟨w.heap.size, 0, none⟩ = some x) ∧ (∀ d os, (grow (redrawn (w.alloc (.cells #[x, y] t)) d) os).cell? ⟨w.heap.size, 1, none⟩ = some y) :=
  ⟨cell_regrown (cell2_0 w x y t), cell_regrown (cell2_1 w x y t)⟩
set_option maxRecDepth 100000 in
theorem implCovers_any (a l x : Int) (w : World) : Calls Tryz.prog 189 #[netV a l, .int .i64 x] w fun e w' => e = .returned (.bool (coversB a l x)) ∧ Below w.heap.size w w' := by
  have HN : Hid (∀ w, Calls Tryz.prog 116 #[.int .i64 x, .int .i64 l] w fun e w' => e = .returned (netV (netA x l) (netN x l)) ∧ Below w.heap.size w w') := implNetOf_any x l
  have HR : Hid (∀ w, Calls Tryz.prog 139 #[netV a l] w fun e w' => e = .returned (.bool (rightB a l)) ∧ Below w.heap.size w w') := implRight_any a l
  have HA : Hid (∀ w, Calls Tryz.prog 162 #[.int .i64 x] w fun e w' => e = .returned (.bool (inAddr x)) ∧ w = w') := isAddr_any x
  obtain ⟨k0, k1⟩ := k2 w (.int .i64 a) (.int .i64 l) 70
  by_cases hr : rightB a l = true
  · by_cases hx : inAddr x = true
    · have HC : Hid _ := covers_iff a l x hr hx
      rw [hr] at HR
      rw [hx] at HA
      generalize coversB a l x = R at *
      generalize netA x l = A at *
      generalize netN x l = N at *
      unfold netV at *
      clear hr hx
      obtain ⟨b1, e1⟩ : ∃ b, (A == a) = b := ⟨_, rfl⟩
      obtain ⟨b2, e2⟩ : ∃ b, (N == l) = b := ⟨_, rfl⟩
      rw [e1, e2] at HC
      cases b1 <;> cases b2
      all_goals
        go_enter Tryz.func189, Tryz.ntmps189
        go_wp2_with fail
        refine wp_region_quiet_below (by kernel_rfl) (by kernel_rfl) ?_
        repeat (go_big_quiet_step (first | (go_at_call 139; exact Calls.regrown_of (HR.out _)) | (go_at_call 162; exact Calls.regrown_of (same_below (HA.out _))) | (go_at_call 116; exact Calls.regrown_of (HN.out _))))
        refine wpQuiet_nil ?_
        intro _ hw'
        obtain ⟨⟨dq, osq⟩, hw''⟩ := hw'
        subst hw''
        go_wp2
        go_ret
        exact ⟨ret_bool (by rw [← HC.out]; rfl), ((Below.refl _ _).alloc (Nat.le_refl _) _).trans ((below_regrown _ dq osq).mono (by simp))⟩
    · have hx' : inAddr x = false := by simpa using hx
      have HC : Hid (coversB a l x = false) := by show _ = _; unfold coversB; rw [hx']; simp
      rw [hr] at HR
      rw [hx'] at HA
      generalize coversB a l x = R at *
      unfold netV at *
      clear hr hx hx' HN
      go_enter Tryz.func189, Tryz.ntmps189
      go_wp2_with fail
      refine wp_region_quiet_below (by kernel_rfl) (by kernel_rfl) ?_
      repeat (go_big_quiet_step (first | (go_at_call 139; exact Calls.regrown_of (HR.out _)) | (go_at_call 162; exact Calls.regrown_of (same_below (HA.out _)))))
      refine wpQuiet_nil ?_
      intro _ hw'
      obtain ⟨⟨dq, osq⟩, hw''⟩ := hw'
      subst hw''
      go_wp2
      go_ret
      exact ⟨ret_bool HC.out.symm, ((Below.refl _ _).alloc (Nat.le_refl _) _).trans ((below_regrown _ dq osq).mono (by simp))⟩
  · have hr' : rightB a l = false := by simpa using hr
    have HC : Hid (coversB a l x = false) := by show _ = _; unfold coversB; rw [hr']; simp
    rw [hr'] at HR
    generalize coversB a l x = R at *
    unfold netV at *
    clear hr hr' HN HA
    go_enter Tryz.func189, Tryz.ntmps189
    go_wp2_with fail
    refine wp_region_quiet_below (by kernel_rfl) (by kernel_rfl) ?_
    repeat (go_big_quiet_step ((go_at_call 139; exact Calls.regrown_of (HR.out _))))
    refine wpQuiet_nil ?_
    intro _ hw'
    obtain ⟨⟨dq, osq⟩, hw''⟩ := hw'
    subst hw''
    go_wp2
    go_ret
    exact ⟨ret_bool HC.out.symm, ((Below.refl _ _).alloc (Nat.le_refl _) _).trans ((below_regrown _ dq osq).mono (by simp))⟩
end Go.Proofs.YtialedffpaoacaaGreatDoor
/- The model's look whether a net covers an address. -/
namespace Go.Proofs.YtialedffpaoacaaGreatDoor
open Go.RowKit Go.Sort

set_option maxRecDepth 100000 in
theorem l03Covers_any (a l x : Int) (w : World) (hx0 : 0 ≤ x) (hx1 : x ≤ 4294967295) (hl0 : 0 ≤ l) (hl1 : l ≤ 32) : Calls Tryz.prog 186 #[netV a l, .int .i64 x] w fun e w' => e = .returned (.bool (cutV x l == a)) ∧ Below w.heap.size w w' := by
  have HM : Hid (∀ w, Calls Tryz.prog 169 #[.int .i64 x, .int .i64 l] w fun e w' => e = .returned (.int .i64 (cutV x l)) ∧ w = w') := fun w => l03Cut_any x l w hx0 hx1 hl0 hl1
  generalize cutV x l = C at *
  unfold netV
  go_enter Tryz.func186, Tryz.ntmps186
  go_wp2_with fail
  go_quiet ((go_at_call 169; exact quiet_eqA (HM.out _)))
  go_wp2
  go_ret
  exact ⟨rfl, below_drewN ((Below.refl _ _).alloc (Nat.le_refl _) _) _⟩
end Go.Proofs.YtialedffpaoacaaGreatDoor
/- Covers of the model. -/
namespace Go.Proofs.YtialedffpaoacaaGreatDoor
open Go.RowKit Go.Sort

set_option maxRecDepth 100000 in
theorem specCovers_any (a l x : Int) (w : World) : Calls Tryz.prog 159 #[netV a l, .int .i64 x] w fun e w' => e = .returned (.bool (coversB a l x)) ∧ Below w.heap.size w w' := by
  have HR : Hid (∀ w, Calls Tryz.prog 123 #[netV a l] w fun e w' => e = .returned (.bool (rightB a l)) ∧ Below w.heap.size w w') := specRight_any a l
  have HA : Hid (∀ w, Calls Tryz.prog 125 #[.int .i64 x] w fun e w' => e = .returned (.bool (inAddr x)) ∧ w = w') := l03Addr_any x
  by_cases hr : rightB a l = true
  · by_cases hx : inAddr x = true
    · have h : 0 ≤ a ∧ a ≤ 4294967295 ∧ 0 ≤ l ∧ l ≤ 32 ∧ cutV a l = a := by simpa [rightB] using hr
      have h2 : 0 ≤ x ∧ x ≤ 4294967295 := by simpa [inAddr] using hx
      have HL : Hid (∀ w, Calls Tryz.prog 186 #[netV a l, .int .i64 x] w fun e w' => e = .returned (.bool (coversB a l x)) ∧ Below w.heap.size w w') := by
        intro w
        have := l03Covers_any a l x w h2.1 h2.2 h.2.2.1 h.2.2.2.1
        unfold coversB
        rw [hr, hx]
        simpa using this
      rw [hr] at HR
      rw [hx] at HA
      clear h h2 hr hx
      generalize coversB a l x = R at *
      unfold netV at *
      go_enter Tryz.func159, Tryz.ntmps159
      go_wp2_with fail
      refine (HR.out _).mono ?_
      rintro e w1 ⟨rfl, hb1⟩
      obtain ⟨c0, c1, hs1, hB1⟩ := cell2_later rfl hb1
      clear hb1
      go_wp2_with fail
      refine (HA.out _).mono ?_
      rintro e w2 ⟨rfl, rfl⟩
      go_wp2_with fail
      refine (HL.out _).mono ?_
      rintro e w2 ⟨rfl, hb2⟩
      go_wp2
      go_ret
      exact ⟨rfl, hB1.trans (hb2.mono hB1.size)⟩
    · have hx' : inAddr x = false := by simpa using hx
      have HC : Hid (coversB a l x = false) := by show _ = _; unfold coversB; rw [hx']; simp
      rw [hr] at HR
      rw [hx'] at HA
      clear hr hx hx'
      generalize coversB a l x = R at *
      unfold netV at *
      go_enter Tryz.func159, Tryz.ntmps159
      go_wp2_with fail
      refine (HR.out _).mono ?_
      rintro e w1 ⟨rfl, hb1⟩
      obtain ⟨c0, c1, hs1, hB1⟩ := cell2_later rfl hb1
      clear hb1
      go_wp2_with fail
      refine (HA.out _).mono ?_
      rintro e w2 ⟨rfl, rfl⟩
      go_wp2
      go_ret
      exact ⟨ret_bool HC.out.symm, hB1⟩
  · have hr' : rightB a l = false := by simpa using hr
    have HC : Hid (coversB a l x = false) := by show _ = _; unfold coversB; rw [hr']; simp
    rw [hr'] at HR
    clear hr hr' HA
    generalize coversB a l x = R at *
    unfold netV at *
    go_enter Tryz.func159, Tryz.ntmps159
    go_wp2_with fail
    refine (HR.out _).mono ?_
    rintro e w1 ⟨rfl, hb1⟩
    obtain ⟨c0, c1, hs1, hB1⟩ := cell2_later rfl hb1
    clear hb1
    go_wp2
    go_ret
    exact ⟨ret_bool HC.out.symm, hB1⟩
end Go.Proofs.YtialedffpaoacaaGreatDoor
/- Is an entry right? Asked by the program. -/
namespace Go.Proofs.YtialedffpaoacaaGreatDoor
open Go.RowKit Go.Sort

/-- An entry: its net (a, l), the next one n, its metric m, its tag t. -/
structure Ent where
  a : Int
  l : Int
  n : Int
  m : Int
  t : Int
instance : Inhabited Ent := ⟨⟨0, 0, 0, 0, 0⟩⟩
def entL (e : Ent) : List Value := [.int .i64 e.a, .int .i64 e.l, .int .i64 e.n, .int .i64 e.m, .int .i64 e.t]
def entV (e : Ent) : Value := .agg #[.int .i64 e.a, .int .i64 e.l, .int .i64 e.n, .int .i64 e.m, .int .i64 e.t]
def inMet (m : Int) : Bool := decide (1 ≤ m ∧ m ≤ 16)
def inTag (m : Int) : Bool := decide (0 ≤ m ∧ m ≤ 65535)
def entB (e : Ent) : Bool := rightB e.a e.l && inAddr e.n && inMet e.m && inTag e.t
theorem ent_new0 (w : World) (o : Obj) : Below w.heap.size w (w.alloc o) := (Below.refl _ _).alloc (Nat.le_refl _) _
set_option maxRecDepth 100000 in
theorem isWordE_any (a : Int) (w : World) : Calls Tryz.prog 140 #[.int .i64 a] w fun e w' => e = .returned (.bool (inTag a)) ∧ w = w' := by
  by_cases h1 : 0 ≤ a
  · by_cases h2 : a ≤ 65535
    · go_enter Tryz.func140, Tryz.ntmps140
      go_wp2
      go_ret
      exact ⟨ret_bool (by simp [inTag]; omega), rfl⟩
    · go_enter Tryz.func140, Tryz.ntmps140
      go_wp2
      go_ret
      exact ⟨ret_bool (by simp [inTag]; omega), rfl⟩
  · go_enter Tryz.func140, Tryz.ntmps140
    go_wp2
    go_ret
    exact ⟨ret_bool (by simp [inTag]; omega), rfl⟩
/-- Five cells that a call has laid: what they hold behind a later one. -/
theorem box5 {w w1 : World} {x0 x1 x2 x3 x4 : Value} {t : TypeId} (h : Below (w.alloc (.cells #[x0, x1, x2, x3, x4] t)).heap.size (w.alloc (.cells #[x0, x1, x2, x3, x4] t)) w1) :
    w1.cell? ⟨w.heap.size, 0, none⟩ = some x0 ∧ w1.cell? ⟨w.heap.size, 1, none⟩ = some x1 ∧ w1.cell? ⟨w.heap.size, 2, none⟩ = some x2 ∧ w1.cell? ⟨w.heap.size, 3, none⟩ = some x3 ∧ w1.cell? ⟨w.heap.size, 4, none⟩ = some x4 ∧ Below w.heap.size w w1 := by
  have hlt : w.heap.size < (w.alloc (.cells #[x0, x1, x2, x3, x4] t)).heap.size := by simp
  have hz : ∀ k, (w.alloc (.cells #[x0, x1, x2, x3, x4] t)).cell? ⟨w.heap.size, k, none⟩ = #[x0, x1, x2, x3, x4][k]? := fun k => cell_of_row _ _ k _ t _ (heap_alloc_new w _)
  refine ⟨?_, ?_, ?_, ?_, ?_, (ent_new0 w _).trans (h.mono (by simp))⟩ <;> (rw [h.cell (p := ⟨w.heap.size, _, none⟩) hlt, hz]; rfl)
set_option maxRecDepth 100000 in
theorem implEntryRight_any (e : Ent) (w : World) : Calls Tryz.prog 208 #[entV e] w fun r w' => r = .returned (.bool (entB e)) ∧ Below w.heap.size w w' := by
  obtain ⟨a, l, n, m, t⟩ := e
  unfold entV entB
  have HR : Hid (∀ w, Calls Tryz.prog 139 #[.agg #[.int .i64 a, .int .i64 l]] w fun e w' => e = .returned (.bool (rightB a l)) ∧ Below w.heap.size w w') := implRight_any a l
  have HA : Hid (∀ w, Calls Tryz.prog 162 #[.int .i64 n] w fun e w' => e = .returned (.bool (inAddr n)) ∧ w = w') := isAddr_any n
  have HW : Hid (∀ w, Calls Tryz.prog 140 #[.int .i64 t] w fun e w' => e = .returned (.bool (inTag t)) ∧ w = w') := isWordE_any t
  have HM : Hid (inMet m = (decide (1 ≤ m) && decide (m ≤ 16))) := by show _ = _; simp [inMet, Bool.decide_and]
  generalize rightB a l = R at *
  generalize inAddr n = N at *
  generalize inTag t = T at *
  rw [HM.out]
  clear HM
  go_enter Tryz.func208, Tryz.ntmps208
  go_wp2_with fail
  refine (HR.out _).mono ?_
  rintro e w1 ⟨rfl, hb1⟩
  obtain ⟨c0, c1, c2, c3, c4, hB⟩ := box5 hb1
  clear hb1 HR
  cases R
  · go_wp2
    go_ret
    exact ⟨rfl, hB⟩
  · go_wp2_with fail
    refine (HA.out _).mono ?_
    rintro e w2 ⟨rfl, rfl⟩
    cases N
    · go_wp2
      go_ret
      exact ⟨rfl, hB⟩
    · by_cases h1 : 1 ≤ m
      · by_cases h2 : m ≤ 16
        · go_wp2_with fail
          refine (HW.out _).mono ?_
          rintro e w2 ⟨rfl, rfl⟩
          go_wp2
          go_ret
          exact ⟨ret_bool (by simp [h1, h2]), hB⟩
        · go_wp2
          go_ret
          exact ⟨ret_bool (by simp; omega), hB⟩
      · go_wp2
        go_ret
        exact ⟨ret_bool (by simp; omega), hB⟩
end Go.Proofs.YtialedffpaoacaaGreatDoor
/- The laws' own nets, handed over. -/
namespace Go.Proofs.YtialedffpaoacaaGreatDoor
open Go.RowKit Go.Sort

set_option maxRecDepth 100000 in
theorem toNet_any (a l : Int) (w : World) : Calls Tryz.prog 93 #[netV a l] w fun e w' => e = .returned (netV a l) ∧ Below w.heap.size w w' := by
  unfold netV
  go_enter Tryz.func93, Tryz.ntmps93
  go_wp2
  refine bodyPost_ret (v := .agg #[.int .i64 a, .int .i64 l]) (by simp [results, Tryz.results93, go_sem]) rfl ⟨rfl, ?_⟩
  exact (((Below.refl _ _).alloc (Nat.le_refl _) _).alloc (by simp) _).alloc (by simp; omega) _
theorem below_next {B : Nat} {w w1 w2 : World} (h : Below B w w1) (h2 : Below w1.heap.size w1 w2) (hB : B ≤ w1.heap.size) : Below B w w2 := h.trans (h2.mono hB)
theorem two_later {w1 w2 : World} {b : Nat} {x y : Value} (h0 : w1.cell? ⟨b, 0, none⟩ = some x) (h1 : w1.cell? ⟨b, 1, none⟩ = some y) (hb : Below w1.heap.size w1 w2) : w2.cell? ⟨b, 0, none⟩ = some x ∧ w2.cell? ⟨b, 1, none⟩ = some y :=
  ⟨by rw [hb.cell (p := ⟨b, 0, none⟩) (World.block_lt_of_cell? w1 _ h0)]; exact h0, by rw [hb.cell (p := ⟨b, 1, none⟩) (World.block_lt_of_cell? w1 _ h1)]; exact h1⟩
end Go.Proofs.YtialedffpaoacaaGreatDoor
/- Is a route right? Asked by the program and by the model. -/
namespace Go.Proofs.YtialedffpaoacaaGreatDoor
open Go.RowKit Go.Sort

/-- A route: its net (a, l), its metric m, the next one n, its iface i, its tag t, its times u (Until) and b (Bin), its mark c. -/
structure Rt where
  a : Int
  l : Int
  m : Int
  n : Int
  i : Int
  t : Int
  u : Int
  b : Int
  c : Bool
instance : Inhabited Rt := ⟨⟨0, 0, 0, 0, 0, 0, 0, 0, false⟩⟩
def rtA (r : Rt) : Array Value := #[.int .i64 r.a, .int .i64 r.l, .int .i64 r.m, .int .i64 r.n, .int .i64 r.i, .int .i64 r.t, .int .i64 r.u, .int .i64 r.b, .bool r.c]
def rtV (r : Rt) : Value := .agg (rtA r)
def inIf (i : Int) : Bool := decide (0 ≤ i ∧ i ≤ 3)
def rtE (r : Rt) : Ent := ⟨r.a, r.l, r.n, r.m, r.t⟩
def saidB (r : Rt) : Bool := entB (rtE r) && inIf r.i
def timesB (r : Rt) : Bool := if r.n = 0 then decide (r.u = 0) && decide (r.b = 0) else if r.m < 16 then decide (0 < r.u) && decide (r.b = 0) else decide (r.u = 0) && decide (0 < r.b)
def routeB (r : Rt) : Bool := saidB r && !(decide (r.n = 0) && decide (r.m = 16)) && (inTime r.u && inTime r.b && timesB r)
theorem entV_rt (r : Rt) : entV (rtE r) = .agg #[.int .i64 r.a, .int .i64 r.l, .int .i64 r.n, .int .i64 r.m, .int .i64 r.t] := rfl
/-- Nine cells that a call has laid: what they hold behind a later one. -/
theorem box9 {w w1 : World} {x0 x1 x2 x3 x4 x5 x6 x7 x8 : Value} {t : TypeId} (h : Below (w.alloc (.cells #[x0, x1, x2, x3, x4, x5, x6, x7, x8] t)).heap.size (w.alloc (.cells #[x0, x1, x2, x3, x4, x5, x6, x7, x8] t)) w1) :
    w1.cell? ⟨w.heap.size, 0, none⟩ = some x0 ∧ w1.cell? ⟨w.heap.size, 1, none⟩ = some x1 ∧ w1.cell? ⟨w.heap.size, 2, none⟩ = some x2 ∧ w1.cell? ⟨w.heap.size, 3, none⟩ = some x3 ∧ w1.cell? ⟨w.heap.size, 4, none⟩ = some x4 ∧ w1.cell? ⟨w.heap.size, 5, none⟩ = some x5 ∧ w1.cell? ⟨w.heap.size, 6, none⟩ = some x6 ∧ w1.cell? ⟨w.heap.size, 7, none⟩ = some x7 ∧ w1.cell? ⟨w.heap.size, 8, none⟩ = some x8 ∧ Below w.heap.size w w1 := by
  have hlt : w.heap.size < (w.alloc (.cells #[x0, x1, x2, x3, x4, x5, x6, x7, x8] t)).heap.size := by simp
  have hz : ∀ k, (w.alloc (.cells #[x0, x1, x2, x3, x4, x5, x6, x7, x8] t)).cell? ⟨w.heap.size, k, none⟩ = #[x0, x1, x2, x3, x4, x5, x6, x7, x8][k]? := fun k => cell_of_row _ _ k _ t _ (heap_alloc_new w _)
  refine ⟨?_, ?_, ?_, ?_, ?_, ?_, ?_, ?_, ?_, (ent_new0 w _).trans (h.mono (by simp))⟩ <;> (rw [h.cell (p := ⟨w.heap.size, _, none⟩) hlt, hz]; rfl)
theorem inIf_dec (i : Int) : inIf i = (decide (0 ≤ i) && decide (i ≤ 3)) := by simp [inIf, Bool.decide_and]
set_option maxRecDepth 100000 in
theorem isIface_any (a : Int) (w : World) : Calls Tryz.prog 205 #[.int .i64 a] w fun e w' => e = .returned (.bool (inIf a)) ∧ w = w' := by
  by_cases h1 : 0 ≤ a
  · by_cases h2 : a ≤ 3
    · go_enter Tryz.func205, Tryz.ntmps205
      go_wp2
      go_ret
      exact ⟨ret_bool (by simp [inIf]; omega), rfl⟩
    · go_enter Tryz.func205, Tryz.ntmps205
      go_wp2
      go_ret
      exact ⟨ret_bool (by simp [inIf]; omega), rfl⟩
  · go_enter Tryz.func205, Tryz.ntmps205
    go_wp2
    go_ret
    exact ⟨ret_bool (by simp [inIf]; omega), rfl⟩
theorem rt_new (w : World) (r : Rt) (t : TypeId) : Below w.heap.size w (w.alloc (.cells (rtA r) t)) := ent_new0 w _
set_option maxRecDepth 100000 in
theorem isOwn_any (r : Rt) (w : World) : Calls Tryz.prog 196 #[rtV r] w fun e w' => e = .returned (.bool (decide (r.n = 0))) ∧ Below w.heap.size w w' := by
  obtain ⟨a, l, m, n, i, t, u, b, c⟩ := r
  unfold rtV rtA
  have hb := ent_new0 w (.cells #[.int .i64 a, .int .i64 l, .int .i64 m, .int .i64 n, .int .i64 i, .int .i64 t, .int .i64 u, .int .i64 b, .bool c] 144)
  obtain ⟨c0, c1, c2, c3, c4, c5, c6, c7, c8, hB⟩ := box9 (Below.refl _ (w.alloc (.cells #[.int .i64 a, .int .i64 l, .int .i64 m, .int .i64 n, .int .i64 i, .int .i64 t, .int .i64 u, .int .i64 b, .bool c] 144)))
  go_enter Tryz.func196, Tryz.ntmps196
  go_wp2
  go_ret
  exact ⟨ret_bool (by rw [Bool.eq_iff_iff]; simp), hb⟩
set_option maxRecDepth 100000 in
theorem saidRight_any (r : Rt) (w : World) : Calls Tryz.prog 195 #[rtV r] w fun e w' => e = .returned (.bool (saidB r)) ∧ Below w.heap.size w w' := by
  obtain ⟨a, l, m, n, i, t, u, b, c⟩ := r
  have HE : Hid (∀ w, Calls Tryz.prog 208 #[.agg #[.int .i64 a, .int .i64 l, .int .i64 n, .int .i64 m, .int .i64 t]] w fun e w' => e = .returned (.bool (entB ⟨a, l, n, m, t⟩)) ∧ Below w.heap.size w w') := implEntryRight_any ⟨a, l, n, m, t⟩
  have HI : Hid (∀ w, Calls Tryz.prog 205 #[.int .i64 i] w fun e w' => e = .returned (.bool (inIf i)) ∧ w = w') := isIface_any i
  have HS : Hid (saidB ⟨a, l, m, n, i, t, u, b, c⟩ = (entB ⟨a, l, n, m, t⟩ && inIf i)) := rfl
  rw [HS.out]
  clear HS
  unfold rtV rtA
  generalize entB ⟨a, l, n, m, t⟩ = E at *
  generalize inIf i = I at *
  obtain ⟨d0, d1, d2, d3, d4, d5, d6, d7, d8, -⟩ := box9 (Below.refl _ (w.alloc (.cells #[.int .i64 a, .int .i64 l, .int .i64 m, .int .i64 n, .int .i64 i, .int .i64 t, .int .i64 u, .int .i64 b, .bool c] 144)))
  go_enter Tryz.func195, Tryz.ntmps195
  go_wp2_with fail
  refine (HE.out _).mono ?_
  rintro e w1 ⟨rfl, hb1⟩
  obtain ⟨c0, c1, c2, c3, c4, c5, c6, c7, c8, hB⟩ := box9 hb1
  clear hb1 HE d0 d1 d2 d3 d4 d5 d6 d7 d8
  cases E
  · go_wp2
    go_ret
    exact ⟨rfl, hB⟩
  · go_wp2_with fail
    refine (HI.out _).mono ?_
    rintro e w2 ⟨rfl, rfl⟩
    go_wp2
    go_ret
    exact ⟨rfl, hB⟩
set_option maxRecDepth 100000 in
theorem timesRight_any (r : Rt) (w : World) : Calls Tryz.prog 197 #[rtV r] w fun e w' => e = .returned (.bool (timesB r)) ∧ Below w.heap.size w w' := by
  obtain ⟨a, l, m, n, i, t, u, b, c⟩ := r
  have HO : Hid (∀ w, Calls Tryz.prog 196 #[.agg #[.int .i64 a, .int .i64 l, .int .i64 m, .int .i64 n, .int .i64 i, .int .i64 t, .int .i64 u, .int .i64 b, .bool c]] w fun e w' => e = .returned (.bool (decide (n = 0))) ∧ Below w.heap.size w w') := isOwn_any ⟨a, l, m, n, i, t, u, b, c⟩
  have HT : Hid (timesB ⟨a, l, m, n, i, t, u, b, c⟩ = if n = 0 then decide (u = 0) && decide (b = 0) else if m < 16 then decide (0 < u) && decide (b = 0) else decide (u = 0) && decide (0 < b)) := rfl
  rw [HT.out]
  clear HT
  unfold rtV rtA
  obtain ⟨d0, d1, d2, d3, d4, d5, d6, d7, d8, -⟩ := box9 (Below.refl _ (w.alloc (.cells #[.int .i64 a, .int .i64 l, .int .i64 m, .int .i64 n, .int .i64 i, .int .i64 t, .int .i64 u, .int .i64 b, .bool c] 144)))
  go_enter Tryz.func197, Tryz.ntmps197
  go_wp2_with fail
  refine (HO.out _).mono ?_
  rintro e w1 ⟨rfl, hb1⟩
  obtain ⟨c0, c1, c2, c3, c4, c5, c6, c7, c8, hB⟩ := box9 hb1
  clear hb1 HO d0 d1 d2 d3 d4 d5 d6 d7 d8
  by_cases hn : n = 0
  · have dn : decide (n = 0) = true := decide_eq_true hn
    rw [dn]
    by_cases hu : u = 0
    · have eu : (u == 0) = true := by simpa using hu
      go_wp2
      go_ret
      exact ⟨ret_bool (by first | rfl | (rw [Bool.eq_iff_iff]; simp; done) | (simp; omega)), hB⟩
    · have eu : (u == 0) = false := by simpa using hu
      go_wp2
      go_ret
      exact ⟨ret_bool (by first | rfl | (rw [Bool.eq_iff_iff]; simp; done) | (simp; omega)), hB⟩
  · have dn : decide (n = 0) = false := decide_eq_false hn
    rw [dn]
    by_cases hm : m < 16
    · by_cases hu : 0 < u
      · go_wp2
        go_ret
        exact ⟨ret_bool (by first | rfl | (rw [Bool.eq_iff_iff]; simp; done) | (simp; omega)), hB⟩
      · go_wp2
        go_ret
        exact ⟨ret_bool (by first | rfl | (rw [Bool.eq_iff_iff]; simp; done) | (simp; omega)), hB⟩
    · by_cases hu : u = 0
      · have eu : (u == 0) = true := by simpa using hu
        go_wp2
        go_ret
        exact ⟨ret_bool (by first | rfl | (rw [Bool.eq_iff_iff]; simp; done) | (simp; omega)), hB⟩
      · have eu : (u == 0) = false := by simpa using hu
        go_wp2
        go_ret
        exact ⟨ret_bool (by first | rfl | (rw [Bool.eq_iff_iff]; simp; done) | (simp; omega)), hB⟩
set_option maxRecDepth 100000 in
theorem implRoute_any (r : Rt) (w : World) : Calls Tryz.prog 179 #[rtV r] w fun e w' => e = .returned (.bool (routeB r)) ∧ Below w.heap.size w w' := by
  obtain ⟨a, l, m, n, i, t, u, b, c⟩ := r
  have HS : Hid (∀ w, Calls Tryz.prog 195 #[.agg #[.int .i64 a, .int .i64 l, .int .i64 m, .int .i64 n, .int .i64 i, .int .i64 t, .int .i64 u, .int .i64 b, .bool c]] w fun e w' => e = .returned (.bool (saidB ⟨a, l, m, n, i, t, u, b, c⟩)) ∧ Below w.heap.size w w') := saidRight_any ⟨a, l, m, n, i, t, u, b, c⟩
  have HO : Hid (∀ w, Calls Tryz.prog 196 #[.agg #[.int .i64 a, .int .i64 l, .int .i64 m, .int .i64 n, .int .i64 i, .int .i64 t, .int .i64 u, .int .i64 b, .bool c]] w fun e w' => e = .returned (.bool (decide (n = 0))) ∧ Below w.heap.size w w') := isOwn_any ⟨a, l, m, n, i, t, u, b, c⟩
  have HT : Hid (∀ w, Calls Tryz.prog 197 #[.agg #[.int .i64 a, .int .i64 l, .int .i64 m, .int .i64 n, .int .i64 i, .int .i64 t, .int .i64 u, .int .i64 b, .bool c]] w fun e w' => e = .returned (.bool (timesB ⟨a, l, m, n, i, t, u, b, c⟩)) ∧ Below w.heap.size w w') := timesRight_any ⟨a, l, m, n, i, t, u, b, c⟩
  have HU : Hid (∀ w, Calls Tryz.prog 55 #[.int .i64 u] w fun e w' => e = .returned (.bool (inTime u)) ∧ w = w') := isTime_any u
  have HB : Hid (∀ w, Calls Tryz.prog 55 #[.int .i64 b] w fun e w' => e = .returned (.bool (inTime b)) ∧ w = w') := isTime_any b
  have HE : Hid (routeB ⟨a, l, m, n, i, t, u, b, c⟩ = (saidB ⟨a, l, m, n, i, t, u, b, c⟩ && !(decide (n = 0) && decide (m = 16)) && (inTime u && inTime b && timesB ⟨a, l, m, n, i, t, u, b, c⟩))) := rfl
  rw [HE.out]
  clear HE
  unfold rtV rtA
  generalize saidB ⟨a, l, m, n, i, t, u, b, c⟩ = S at *
  generalize timesB ⟨a, l, m, n, i, t, u, b, c⟩ = T at *
  generalize inTime u = U at *
  generalize inTime b = B at *
  generalize decide (n = 0) = N at *
  obtain ⟨d0, d1, d2, d3, d4, d5, d6, d7, d8, -⟩ := box9 (Below.refl _ (w.alloc (.cells #[.int .i64 a, .int .i64 l, .int .i64 m, .int .i64 n, .int .i64 i, .int .i64 t, .int .i64 u, .int .i64 b, .bool c] 144)))
  go_enter Tryz.func179, Tryz.ntmps179
  go_wp2_with fail
  refine (HS.out _).mono ?_
  rintro e w1 ⟨rfl, hb1⟩
  obtain ⟨c0, c1, c2, c3, c4, c5, c6, c7, c8, hB⟩ := box9 hb1
  clear HS d0 d1 d2 d3 d4 d5 d6 d7 d8
  cases S
  · go_wp2
    go_ret
    exact ⟨rfl, hB⟩
  go_wp2_with fail
  refine (HO.out _).mono ?_
  rintro e w2 ⟨rfl, hb2⟩
  clear c0 c1 c2 c3 c4 c5 c6 c7 c8 hB
  obtain ⟨c0, c1, c2, c3, c4, c5, c6, c7, c8, hB⟩ := box9 (hb1.trans (hb2.mono hb1.size))
  clear hb1 hb2
  by_cases hd : (N && decide (m = 16)) = true
  · have hN : N = true := by cases N <;> simp_all
    have hm : (m == 16) = true := by cases N <;> simp_all
    subst hN
    go_wp2
    go_ret
    exact ⟨ret_bool (by rw [hd]; rfl), hB⟩
  have HD : Hid ((N && decide (m = 16)) = false) := (by simpa using hd : (N && decide (m = 16)) = false)
  have hm : N = true → (m == 16) = false := by intro h; subst h; simpa using hd
  clear hd
  cases N
  · go_wp2_with fail
    refine (HU.out _).mono ?_
    rintro e w3 ⟨rfl, rfl⟩
    cases U
    · go_wp2
      go_ret
      exact ⟨ret_bool (by rw [HD.out]; rfl), hB⟩
    go_wp2_with fail
    refine (HB.out _).mono ?_
    rintro e w3 ⟨rfl, rfl⟩
    cases B
    · go_wp2
      go_ret
      exact ⟨ret_bool (by rw [HD.out]; rfl), hB⟩
    go_wp2_with fail
    refine (HT.out _).mono ?_
    rintro e w3 ⟨rfl, hb3⟩
    go_wp2
    go_ret
    exact ⟨ret_bool (by rw [HD.out]; rfl), hB.trans (hb3.mono hB.size)⟩
  · have hm' := hm rfl
    go_wp2_with fail
    refine (HU.out _).mono ?_
    rintro e w3 ⟨rfl, rfl⟩
    cases U
    · go_wp2
      go_ret
      exact ⟨ret_bool (by rw [HD.out]; rfl), hB⟩
    go_wp2_with fail
    refine (HB.out _).mono ?_
    rintro e w3 ⟨rfl, rfl⟩
    cases B
    · go_wp2
      go_ret
      exact ⟨ret_bool (by rw [HD.out]; rfl), hB⟩
    go_wp2_with fail
    refine (HT.out _).mono ?_
    rintro e w3 ⟨rfl, hb3⟩
    go_wp2
    go_ret
    exact ⟨ret_bool (by rw [HD.out]; rfl), hB.trans (hb3.mono hB.size)⟩
theorem routeB_spec (r : Rt) : routeB r = (rightB r.a r.l && (inMet r.m && (inAddr r.n && (inIf r.i && (inTag r.t && (inTime r.u && inTime r.b)))))
    && (if r.n = 0 then decide (r.u = 0) && decide (r.b = 0) && decide (r.m < 16) else if r.m < 16 then decide (0 < r.u) && decide (r.b = 0) else decide (r.u = 0) && decide (0 < r.b))) := by
  obtain ⟨a, l, m, n, i, t, u, b, c⟩ := r
  simp only [routeB, saidB, entB, rtE, timesB]
  by_cases hn : n = 0
  · simp only [hn, if_true, decide_true, Bool.true_and]
    by_cases hm : inMet m = true
    · have : decide (m < 16) = !decide (m = 16) := by
        have h := hm; simp [inMet] at h
        by_cases h6 : m = 16
        · simp [h6]
        · simp [h6]; omega
      rw [this, hm]
      cases rightB a l <;> cases inAddr 0 <;> cases inIf i <;> cases inTag t <;> cases inTime u <;> cases inTime b <;> cases decide (u = 0) <;> cases decide (b = 0) <;> cases decide (m = 16) <;> rfl
    · simp [hm]
  · simp only [hn, if_false, decide_false, Bool.false_and, Bool.not_false, Bool.and_true]
    by_cases hm : m < 16
    · simp only [hm, if_true]
      cases rightB a l <;> cases inMet m <;> cases inAddr n <;> cases inIf i <;> cases inTag t <;> cases inTime u <;> cases inTime b <;> rfl
    · simp only [hm, if_false]
      cases rightB a l <;> cases inMet m <;> cases inAddr n <;> cases inIf i <;> cases inTag t <;> cases inTime u <;> cases inTime b <;> rfl
set_option maxRecDepth 100000 in
set_option maxHeartbeats 1000000 in
theorem specRoute_any (r : Rt) (w : World) : Calls Tryz.prog 170 #[rtV r] w fun e w' => e = .returned (.bool (routeB r)) ∧ Below w.heap.size w w' := by
  rw [routeB_spec]
  obtain ⟨a, l, m, n, i, t, u, b, c⟩ := r
  have HR : Hid (∀ w, Calls Tryz.prog 123 #[.agg #[.int .i64 a, .int .i64 l]] w fun e w' => e = .returned (.bool (rightB a l)) ∧ Below w.heap.size w w') := specRight_any a l
  have HM : Hid (∀ w, Calls Tryz.prog 43 #[.int .i64 m, .int .i64 1, .int .i64 16] w fun e w' => e = .returned (.bool (inMet m)) ∧ w = w') := l03Is_any m 1 16
  have HA : Hid (∀ w, Calls Tryz.prog 125 #[.int .i64 n] w fun e w' => e = .returned (.bool (inAddr n)) ∧ w = w') := l03Addr_any n
  have HI : Hid (∀ w, Calls Tryz.prog 43 #[.int .i64 i, .int .i64 0, .int .i64 3] w fun e w' => e = .returned (.bool (inIf i)) ∧ w = w') := l03Is_any i 0 3
  have HG : Hid (∀ w, Calls Tryz.prog 43 #[.int .i64 t, .int .i64 0, .int .i64 65535] w fun e w' => e = .returned (.bool (inTag t)) ∧ w = w') := l03Is_any t 0 65535
  have HU : Hid (∀ w, Calls Tryz.prog 41 #[.int .i64 u] w fun e w' => e = .returned (.bool (inTime u)) ∧ w = w') := l03Time_any u
  have HB : Hid (∀ w, Calls Tryz.prog 41 #[.int .i64 b] w fun e w' => e = .returned (.bool (inTime b)) ∧ w = w') := l03Time_any b
  unfold rtV rtA
  show Calls _ _ _ _ fun e w' => e = .returned (.bool (rightB a l && (inMet m && (inAddr n && (inIf i && (inTag t && (inTime u && inTime b))))) && (if n = 0 then decide (u = 0) && decide (b = 0) && decide (m < 16) else if m < 16 then decide (0 < u) && decide (b = 0) else decide (u = 0) && decide (0 < b)))) ∧ _
  generalize hX : (if n = 0 then decide (u = 0) && decide (b = 0) && decide (m < 16) else if m < 16 then decide (0 < u) && decide (b = 0) else decide (u = 0) && decide (0 < b)) = X
  have HX : Hid _ := hX
  clear hX
  generalize rightB a l = R at *
  generalize inMet m = M at *
  generalize inAddr n = N at *
  generalize inIf i = I at *
  generalize inTag t = G at *
  generalize inTime u = U at *
  generalize inTime b = B at *
  obtain ⟨d0, d1, d2, d3, d4, d5, d6, d7, d8, -⟩ := box9 (Below.refl _ (w.alloc (.cells #[.int .i64 a, .int .i64 l, .int .i64 m, .int .i64 n, .int .i64 i, .int .i64 t, .int .i64 u, .int .i64 b, .bool c] 144)))
  go_enter Tryz.func170, Tryz.ntmps170
  go_wp2_with fail
  refine (HR.out _).mono ?_
  rintro e w1 ⟨rfl, hb1⟩
  obtain ⟨c0, c1, c2, c3, c4, c5, c6, c7, c8, hB⟩ := box9 hb1
  clear hb1 HR d0 d1 d2 d3 d4 d5 d6 d7 d8
  cases R
  · go_wp2
    go_ret
    exact ⟨rfl, hB⟩
  go_wp2_with fail
  refine (HM.out _).mono ?_
  rintro e w2 ⟨rfl, rfl⟩
  cases M
  · go_wp2
    go_ret
    exact ⟨rfl, hB⟩
  go_wp2_with fail
  refine (HA.out _).mono ?_
  rintro e w2 ⟨rfl, rfl⟩
  cases N
  · go_wp2
    go_ret
    exact ⟨rfl, hB⟩
  go_wp2_with fail
  refine (HI.out _).mono ?_
  rintro e w2 ⟨rfl, rfl⟩
  cases I
  · go_wp2
    go_ret
    exact ⟨rfl, hB⟩
  go_wp2_with fail
  refine (HG.out _).mono ?_
  rintro e w2 ⟨rfl, rfl⟩
  cases G
  · go_wp2
    go_ret
    exact ⟨rfl, hB⟩
  go_wp2_with fail
  refine (HU.out _).mono ?_
  rintro e w2 ⟨rfl, rfl⟩
  cases U
  · go_wp2
    go_ret
    exact ⟨rfl, hB⟩
  go_wp2_with fail
  refine (HB.out _).mono ?_
  rintro e w2 ⟨rfl, rfl⟩
  cases B
  · go_wp2
    go_ret
    exact ⟨rfl, hB⟩
  by_cases hn : n = 0
  · have en : (n == 0) = true := by simpa using hn
    by_cases hu : u = 0
    · by_cases hb : b = 0
      · have HX2 : Hid (X = decide (m < 16)) := by show _ = _; rw [← HX.out]; simp [hn, hu, hb]
        have eu : (u == 0) = true := by simpa using hu
        have eb : (b == 0) = true := by simpa using hb
        clear HX
        go_wp2
        go_ret
        exact ⟨ret_bool (by rw [HX2.out]; first | rfl | (rw [Bool.eq_iff_iff]; simp)), hB⟩
      · have HX2 : Hid (X = false) := by show _ = _; rw [← HX.out]; simp [hn, hu, hb]
        have eu : (u == 0) = true := by simpa using hu
        have eb : (b == 0) = false := by simpa using hb
        clear HX
        go_wp2
        go_ret
        exact ⟨ret_bool (by rw [HX2.out]; rfl), hB⟩
    · have HX2 : Hid (X = false) := by show _ = _; rw [← HX.out]; simp [hn, hu]
      have eu : (u == 0) = false := by simpa using hu
      clear HX
      go_wp2
      go_ret
      exact ⟨ret_bool (by rw [HX2.out]; rfl), hB⟩
  · have en : (n == 0) = false := by simpa using hn
    by_cases hm : m < 16
    · have dm : decide (m < 16) = true := decide_eq_true hm
      by_cases hu : 0 < u
      · have HX2 : Hid (X = decide (b = 0)) := by show _ = _; rw [← HX.out]; simp [hn, hm, hu]
        have du : decide (0 < u) = true := decide_eq_true hu
        clear HX
        go_wp2
        go_ret
        exact ⟨ret_bool (by rw [HX2.out]; first | rfl | (rw [Bool.eq_iff_iff]; simp)), hB⟩
      · have HX2 : Hid (X = false) := by show _ = _; rw [← HX.out]; simp [hn, hm, hu]
        have du : decide (0 < u) = false := decide_eq_false hu
        clear HX
        go_wp2
        go_ret
        exact ⟨ret_bool (by rw [HX2.out]; rfl), hB⟩
    · have dm : decide (m < 16) = false := decide_eq_false hm
      by_cases hu : u = 0
      · have HX2 : Hid (X = decide (0 < b)) := by show _ = _; rw [← HX.out]; simp [hn, hm, hu]
        have eu : (u == 0) = true := by simpa using hu
        clear HX
        go_wp2
        go_ret
        exact ⟨ret_bool (by rw [HX2.out]; first | rfl | (rw [Bool.eq_iff_iff]; simp)), hB⟩
      · have HX2 : Hid (X = false) := by show _ = _; rw [← HX.out]; simp [hn, hm, hu]
        have eu : (u == 0) = false := by simpa using hu
        clear HX
        go_wp2
        go_ret
        exact ⟨ret_bool (by rw [HX2.out]; rfl), hB⟩
end Go.Proofs.YtialedffpaoacaaGreatDoor
/- The laws' own look: a net is as itself. -/
namespace Go.Proofs.YtialedffpaoacaaGreatDoor
open Go.RowKit Go.Sort

set_option maxRecDepth 100000 in
theorem eqNet_same (a l : Int) (w : World) : Calls Tryz.prog 110 #[netV a l, netV a l] w fun e w' => e = .returned (.bool true) ∧ Below w.heap.size w w' := by
  have h1 : (a != a) = false := by simp
  have h2 : (l != l) = false := by simp
  unfold netV
  go_enter Tryz.func110, Tryz.ntmps110
  go_wp2
  go_ret
  exact ⟨rfl, ((Below.refl _ _).alloc (Nat.le_refl _) _).alloc (by simp) _⟩
end Go.Proofs.YtialedffpaoacaaGreatDoor
/- Two nets handed in: their cells, later. -/
namespace Go.Proofs.YtialedffpaoacaaGreatDoor
open Go.RowKit Go.Sort

theorem row_alloc_old {w : World} {b : Nat} {o : Obj} {o' : Obj} (h : w.heap[b]? = some o') : (w.alloc o).heap[b]? = some o' := by
  rw [Below.heap_alloc w o b (Array.getElem?_eq_some_iff.1 h).1]; exact h
theorem four_new (w : World) (x y u v : Value) (t s : TypeId) : ((w.alloc (.cells #[x, y] t)).alloc (.cells #[u, v] s)).cell? ⟨w.heap.size, 0, none⟩ = some x ∧ ((w.alloc (.cells #[x, y] t)).alloc (.cells #[u, v] s)).cell? ⟨w.heap.size, 1, none⟩ = some y ∧ ((w.alloc (.cells #[x, y] t)).alloc (.cells #[u, v] s)).cell? ⟨w.heap.size + 1, 0, none⟩ = some u ∧ ((w.alloc (.cells #[x, y] t)).alloc (.cells #[u, v] s)).cell? ⟨w.heap.size + 1, 1, none⟩ = some v := by
  have h1 := row_alloc_old (o := .cells #[u, v] s) (heap_alloc_new w (.cells #[x, y] t))
  have h2 := heap_alloc_new (w.alloc (.cells #[x, y] t)) (.cells #[u, v] s)
  rw [show (w.alloc (.cells #[x, y] t)).heap.size = w.heap.size + 1 by simp] at h2
  refine ⟨?_, ?_, ?_, ?_⟩
  · rw [cell_of_row _ _ _ _ t _ h1]; simp
  · rw [cell_of_row _ _ _ _ t _ h1]; simp
  · rw [cell_of_row _ _ _ _ s _ h2]; simp
  · rw [cell_of_row _ _ _ _ s _ h2]; simp
theorem four_later {w w1 : World} {x y u v : Value} {t s : TypeId} (h : Below ((w.alloc (.cells #[x, y] t)).alloc (.cells #[u, v] s)).heap.size ((w.alloc (.cells #[x, y] t)).alloc (.cells #[u, v] s)) w1) :
    w1.cell? ⟨w.heap.size, 0, none⟩ = some x ∧ w1.cell? ⟨w.heap.size, 1, none⟩ = some y ∧ w1.cell? ⟨w.heap.size + 1, 0, none⟩ = some u ∧ w1.cell? ⟨w.heap.size + 1, 1, none⟩ = some v ∧ w.heap.size + 1 < w1.heap.size ∧ Below w.heap.size w w1 := by
  obtain ⟨h1, h2, h3, h4⟩ := four_new w x y u v t s
  have hz : ((w.alloc (.cells #[x, y] t)).alloc (.cells #[u, v] s)).heap.size = w.heap.size + 2 := by simp
  refine ⟨?_, ?_, ?_, ?_, ?_, ?_⟩
  · rw [h.cell (p := ⟨w.heap.size, 0, none⟩) (by rw [hz]; simp)]; exact h1
  · rw [h.cell (p := ⟨w.heap.size, 1, none⟩) (by rw [hz]; simp)]; exact h2
  · rw [h.cell (p := ⟨w.heap.size + 1, 0, none⟩) (by rw [hz]; simp)]; exact h3
  · rw [h.cell (p := ⟨w.heap.size + 1, 1, none⟩) (by rw [hz]; simp)]; exact h4
  · have := h.size; omega
  · exact (((Below.refl _ _).alloc (Nat.le_refl _) _).alloc (by simp) _).trans (h.mono (by omega))
theorem four_more {w1 w2 : World} {b c : Nat} {x y u v : Value} (h0 : w1.cell? ⟨b, 0, none⟩ = some x) (h1 : w1.cell? ⟨b, 1, none⟩ = some y) (h2 : w1.cell? ⟨c, 0, none⟩ = some u) (h3 : w1.cell? ⟨c, 1, none⟩ = some v) (hb : Below w1.heap.size w1 w2) :
    w2.cell? ⟨b, 0, none⟩ = some x ∧ w2.cell? ⟨b, 1, none⟩ = some y ∧ w2.cell? ⟨c, 0, none⟩ = some u ∧ w2.cell? ⟨c, 1, none⟩ = some v :=
  ⟨by rw [hb.cell (p := ⟨b, 0, none⟩) (World.block_lt_of_cell? w1 _ h0)]; exact h0, by rw [hb.cell (p := ⟨b, 1, none⟩) (World.block_lt_of_cell? w1 _ h1)]; exact h1,
   by rw [hb.cell (p := ⟨c, 0, none⟩) (World.block_lt_of_cell? w1 _ h2)]; exact h2, by rw [hb.cell (p := ⟨c, 1, none⟩) (World.block_lt_of_cell? w1 _ h3)]; exact h3⟩
end Go.Proofs.YtialedffpaoacaaGreatDoor
/- NetLess of the program; less, of the model. -/
namespace Go.Proofs.YtialedffpaoacaaGreatDoor
open Go.RowKit Go.Sort

def lessB (a l b m : Int) : Bool := rightB a l && (rightB b m && (decide (a < b) || (a == b && decide (l < m))))
set_option maxRecDepth 100000 in
theorem l03Less_any (a l b m : Int) (w : World) : Calls Tryz.prog 160 #[netV a l, netV b m] w fun e w' => e = .returned (.bool (decide (a < b) || (a == b && decide (l < m)))) ∧ Below w.heap.size w w' := by
  unfold netV
  rcases Int.lt_trichotomy a b with h | h | h
  · have d1 : decide (a < b) = true := by simpa using h
    go_enter Tryz.func160, Tryz.ntmps160
    go_wp2
    go_ret
    exact ⟨ret_bool (by simp [h]), ((Below.refl _ _).alloc (Nat.le_refl _) _).alloc (by simp) _⟩
  · subst h
    have d1 : decide (a < a) = false := by simp
    have d2 : (a == a) = true := by simp
    go_enter Tryz.func160, Tryz.ntmps160
    go_wp2
    all_goals
      go_ret
      exact ⟨ret_bool (by simp [*]), ((Below.refl _ _).alloc (Nat.le_refl _) _).alloc (by simp) _⟩
  · have d1 : decide (a < b) = false := by simp; omega
    have d2 : (a == b) = false := by simp; omega
    go_enter Tryz.func160, Tryz.ntmps160
    go_wp2
    go_ret
    exact ⟨ret_bool (by simp [d1, d2]), ((Below.refl _ _).alloc (Nat.le_refl _) _).alloc (by simp) _⟩
set_option maxRecDepth 100000 in
theorem implLess_any (a l b m : Int) (w : World) : Calls Tryz.prog 180 #[netV a l, netV b m] w fun e w' => e = .returned (.bool (lessB a l b m)) ∧ Below w.heap.size w w' := by
  have HR : Hid (∀ w, Calls Tryz.prog 139 #[netV a l] w fun e w' => e = .returned (.bool (rightB a l)) ∧ Below w.heap.size w w') := implRight_any a l
  have HS : Hid (∀ w, Calls Tryz.prog 139 #[netV b m] w fun e w' => e = .returned (.bool (rightB b m)) ∧ Below w.heap.size w w') := implRight_any b m
  have HW : Hid (lessB a l b m = (rightB a l && (rightB b m && (decide (a < b) || (a == b && decide (l < m)))))) := rfl
  generalize lessB a l b m = R at *
  generalize rightB a l = R1 at *
  generalize rightB b m = R2 at *
  unfold netV at *
  cases R1
  · go_enter Tryz.func180, Tryz.ntmps180
    go_wp2_with fail
    refine (HR.out _).mono ?_
    rintro e w1 ⟨rfl, hb1⟩
    obtain ⟨c0, c1, c2, c3, hs1, hB1⟩ := four_later hb1
    clear hb1
    go_wp2
    go_ret
    exact ⟨ret_bool (by rw [HW.out]; simp), hB1⟩
  · cases R2
    · go_enter Tryz.func180, Tryz.ntmps180
      go_wp2_with fail
      refine (HR.out _).mono ?_
      rintro e w1 ⟨rfl, hb1⟩
      obtain ⟨c0, c1, c2, c3, hs1, hB1⟩ := four_later hb1
      clear hb1
      go_wp2_with fail
      refine (HS.out _).mono ?_
      rintro e w2 ⟨rfl, hb2⟩
      have hB2 := hB1.trans (hb2.mono hB1.size)
      clear c0 c1 c2 c3 hb2
      go_wp2
      go_ret
      exact ⟨ret_bool (by rw [HW.out]; simp), hB2⟩
    · by_cases hab : a = b
      · have d1 : (a != b) = false := by simpa using hab
        have HAB : Hid (a = b) := hab
        clear hab
        go_enter Tryz.func180, Tryz.ntmps180
        go_wp2_with fail
        refine (HR.out _).mono ?_
        rintro e w1 ⟨rfl, hb1⟩
        obtain ⟨c0, c1, c2, c3, hs1, hB1⟩ := four_later hb1
        clear hb1
        go_wp2_with fail
        refine (HS.out _).mono ?_
        rintro e w2 ⟨rfl, hb2⟩
        obtain ⟨e0, e1, e2, e3⟩ := four_more c0 c1 c2 c3 hb2
        have hB2 := hB1.trans (hb2.mono hB1.size)
        clear c0 c1 c2 c3 hb2
        go_wp2
        go_ret
        refine ⟨ret_bool ?_, hB2⟩
        rw [HW.out, HAB.out]
        simp
      · have d1 : (a != b) = true := by simpa using hab
        have HAB : Hid (¬ a = b) := hab
        clear hab
        go_enter Tryz.func180, Tryz.ntmps180
        go_wp2_with fail
        refine (HR.out _).mono ?_
        rintro e w1 ⟨rfl, hb1⟩
        obtain ⟨c0, c1, c2, c3, hs1, hB1⟩ := four_later hb1
        clear hb1
        go_wp2_with fail
        refine (HS.out _).mono ?_
        rintro e w2 ⟨rfl, hb2⟩
        obtain ⟨e0, e1, e2, e3⟩ := four_more c0 c1 c2 c3 hb2
        have hB2 := hB1.trans (hb2.mono hB1.size)
        clear c0 c1 c2 c3 hb2
        go_wp2
        go_ret
        refine ⟨ret_bool ?_, hB2⟩
        rw [HW.out]
        simp [HAB.out]
end Go.Proofs.YtialedffpaoacaaGreatDoor
