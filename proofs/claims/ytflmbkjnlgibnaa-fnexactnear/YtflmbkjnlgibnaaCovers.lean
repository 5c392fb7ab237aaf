/- Covers, of the program and of the model. -/
import Derived.Test.YtflmbkjnlgibnaaNetOf
namespace Go.Proofs.Ytflmbkjnlgibnaa
open Go.RowKit Go.Sort

def coversB (a l x : Int) : Bool := rightB a l && (inAddr x && cutV x l == a)
theorem covers_iff (a l x : Int) (hr : rightB a l = true) (hx : inAddr x = true) : (netA x l == a && netN x l == l) = coversB a l x := by
  have h : 0 ≤ a ∧ a ≤ 4294967295 ∧ 0 ≤ l ∧ l ≤ 32 ∧ cutV a l = a := by simpa [rightB] using hr
  have h2 : 0 ≤ x ∧ x ≤ 4294967295 := by simpa [inAddr] using hx
  have h3 : 0 ≤ x ∧ x ≤ 4294967295 ∧ 0 ≤ l ∧ l ≤ 32 := ⟨h2.1, h2.2, h.2.2.1, h.2.2.2.1⟩
  unfold coversB
  rw [netA_in h3, netN_in h3, hr, hx]
  simp
theorem same_below {P : Program} {f : FuncId} {args : Array Value} {w : World} {v : Value} (h : Calls P f args w fun e w' => e = .returned v ∧ w = w') : Calls P f args w fun e w' => e = .returned v ∧ Below w.heap.size w w' :=
  h.mono fun _ _ ⟨he, hw⟩ => ⟨he, hw ▸ Below.refl _ _⟩
theorem k2 (w : World) (x y : Value) (t : TypeId) : (∀ d os, (grow (redrawn (w.alloc (.cells #[x, y] t)) d) os).cell? ⟨w.heap.size, 0, none⟩ = some x) ∧ (∀ d os, (grow (redrawn (w.alloc (.cells #[x, y] t)) d) os).cell? ⟨w.heap.size, 1, none⟩ = some y) :=
  ⟨cell_regrown (cell2_0 w x y t), cell_regrown (cell2_1 w x y t)⟩
set_option maxRecDepth 100000 in
theorem implCovers_any (a l x : Int) (w : World) : Calls Try.prog 91 #[netV a l, .int .i64 x] w fun e w' => e = .returned (.bool (coversB a l x)) ∧ Below w.heap.size w w' := by
  have HN : Hid (∀ w, Calls Try.prog 94 #[.int .i64 x, .int .i64 l] w fun e w' => e = .returned (netV (netA x l) (netN x l)) ∧ Below w.heap.size w w') := implNetOf_any x l
  have HR : Hid (∀ w, Calls Try.prog 66 #[netV a l] w fun e w' => e = .returned (.bool (rightB a l)) ∧ Below w.heap.size w w') := implRight_any a l
  have HA : Hid (∀ w, Calls Try.prog 106 #[.int .i64 x] w fun e w' => e = .returned (.bool (inAddr x)) ∧ w = w') := isAddr_any x
  obtain ⟨k0, k1⟩ := k2 w (.int .i64 a) (.int .i64 l) 62
  by_cases hr : rightB a l = true
  · by_cases hx : inAddr x = true
    · have HC : Hid _ := covers_iff a l x hr hx
      rw [hr] at HR
      rw [hx] at HA
      generalize coversB a l x = R at *
      generalize netA x l = A at *
      generalize netN x l = N at *
      unfold netV at *
      clear hr hx
      obtain ⟨b1, e1⟩ : ∃ b, (A == a) = b := ⟨_, rfl⟩
      obtain ⟨b2, e2⟩ : ∃ b, (N == l) = b := ⟨_, rfl⟩
      rw [e1, e2] at HC
      cases b1 <;> cases b2
      all_goals
        go_enter Try.func91, Try.ntmps91
        go_wp2_with fail
        refine wp_region_quiet_below (by kernel_rfl) (by kernel_rfl) ?_
        repeat (go_big_quiet_step (first | (go_at_call 66; exact Calls.regrown_of (HR.out _)) | (go_at_call 106; exact Calls.regrown_of (same_below (HA.out _))) | (go_at_call 94; exact Calls.regrown_of (HN.out _))))
        refine wpQuiet_nil ?_
        intro _ hw'
        obtain ⟨⟨dq, osq⟩, hw''⟩ := hw'
        subst hw''
        go_wp2
        go_ret
        exact ⟨ret_bool (by rw [← HC.out]; rfl), ((Below.refl _ _).alloc (Nat.le_refl _) _).trans ((below_regrown _ dq osq).mono (by simp))⟩
    · have hx' : inAddr x = false := by simpa using hx
      have HC : Hid (coversB a l x = false) := by show _ = _; unfold coversB; rw [hx']; simp
      rw [hr] at HR
      rw [hx'] at HA
      generalize coversB a l x = R at *
      unfold netV at *
      clear hr hx hx' HN
      go_enter Try.func91, Try.ntmps91
      go_wp2_with fail
      refine wp_region_quiet_below (by kernel_rfl) (by kernel_rfl) ?_
      repeat (go_big_quiet_step (first | (go_at_call 66; exact Calls.regrown_of (HR.out _)) | (go_at_call 106; exact Calls.regrown_of (same_below (HA.out _)))))
      refine wpQuiet_nil ?_
      intro _ hw'
      obtain ⟨⟨dq, osq⟩, hw''⟩ := hw'
      subst hw''
      go_wp2
      go_ret
      exact ⟨ret_bool HC.out.symm, ((Below.refl _ _).alloc (Nat.le_refl _) _).trans ((below_regrown _ dq osq).mono (by simp))⟩
  · have hr' : rightB a l = false := by simpa using hr
    have HC : Hid (coversB a l x = false) := by show _ = _; unfold coversB; rw [hr']; simp
    rw [hr'] at HR
    generalize coversB a l x = R at *
    unfold netV at *
    clear hr hr' HN HA
    go_enter Try.func91, Try.ntmps91
    go_wp2_with fail
    refine wp_region_quiet_below (by kernel_rfl) (by kernel_rfl) ?_
    repeat (go_big_quiet_step ((go_at_call 66; exact Calls.regrown_of (HR.out _))))
    refine wpQuiet_nil ?_
    intro _ hw'
    obtain ⟨⟨dq, osq⟩, hw''⟩ := hw'
    subst hw''
    go_wp2
    go_ret
    exact ⟨ret_bool HC.out.symm, ((Below.refl _ _).alloc (Nat.le_refl _) _).trans ((below_regrown _ dq osq).mono (by simp))⟩
end Go.Proofs.Ytflmbkjnlgibnaa
