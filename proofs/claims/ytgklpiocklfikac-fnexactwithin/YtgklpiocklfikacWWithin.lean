/- The walk of the law on Within. -/
import Derived.Test.YtgklpiocklfikacWithinS
import Derived.Test.YtgklpiocklfikacToNet
namespace Go.Proofs.Ytgklpiocklfikac
open Go.RowKit Go.Sort

set_option maxRecDepth 100000 in
theorem fnExactWithin_walk (a l b m : Int) (w : World) (_wa : (Lit.int .i64 a).wf = true) (_wl : (Lit.int .i64 l).wf = true) (_wb : (Lit.int .i64 b).wf = true) (_wm : (Lit.int .i64 m).wf = true) :
    Calls Try.prog 3 #[.agg #[.int .i64 a, .int .i64 l], .agg #[.int .i64 b, .int .i64 m]] w fun e w' => e = .returned (.bool true) ∧ Below w.heap.size w w' := by
  have HT : Hid (∀ w, Calls Try.prog 6 #[.agg #[.int .i64 a, .int .i64 l]] w fun e w' => e = .returned (.agg #[.int .i64 a, .int .i64 l]) ∧ Below w.heap.size w w') := toNet_any a l
  have HU : Hid (∀ w, Calls Try.prog 6 #[.agg #[.int .i64 b, .int .i64 m]] w fun e w' => e = .returned (.agg #[.int .i64 b, .int .i64 m]) ∧ Below w.heap.size w w') := toNet_any b m
  have HS : Hid (∀ w, Calls Try.prog 5 #[.agg #[.int .i64 a, .int .i64 l], .agg #[.int .i64 b, .int .i64 m]] w fun e w' => e = .returned (.bool (withinB a l b m)) ∧ Below w.heap.size w w') := specWithin_any a l b m
  have HI : Hid (∀ w, Calls Try.prog 7 #[.agg #[.int .i64 a, .int .i64 l], .agg #[.int .i64 b, .int .i64 m]] w fun e w' => e = .returned (.bool (withinB a l b m)) ∧ Below w.heap.size w w') := implWithin_any a l b m
  have hne : (withinB a l b m != withinB a l b m) = false := by simp
  generalize withinB a l b m = R at *
  obtain ⟨n0, n1, n2, n3⟩ := four_new w (.int .i64 a) (.int .i64 l) (.int .i64 b) (.int .i64 m) 23 23
  have k0 := cell_regrown n0
  have k1 := cell_regrown n1
  have k2 := cell_regrown n2
  have k3 := cell_regrown n3
  clear n0 n1 n2 n3
  go_enter Try.func3, Try.ntmps3
  go_wp2_with fail
  refine wp_region_quiet_below (by kernel_rfl) (by kernel_rfl) ?_
  repeat (go_big_quiet_step (first | (go_at_call 5; exact Calls.regrown_of (HS.out _)) | (go_at_call_of 6 (Value.agg #[Value.int IntKind.i64 a, Value.int IntKind.i64 l]); exact Calls.regrown_of (HT.out _)) | (go_at_call_of 6 (Value.agg #[Value.int IntKind.i64 b, Value.int IntKind.i64 m]); exact Calls.regrown_of (HU.out _))))
  refine wpQuiet_nil ?_
  intro _ hw'
  obtain ⟨⟨dq, osq⟩, hw''⟩ := hw'
  have hbq := below_regrown ((w.alloc (.cells #[.int .i64 a, .int .i64 l] 23)).alloc (.cells #[.int .i64 b, .int .i64 m] 23)) dq osq
  rw [← hw''] at hbq
  clear hw'' osq dq k0 k1 k2 k3
  rename_i w1
  obtain ⟨c0, c1, c2, c3, hs1, hB1⟩ := four_later hbq
  clear hbq
  have k0 := cell_regrown c0
  have k1 := cell_regrown c1
  have k2 := cell_regrown c2
  have k3 := cell_regrown c3
  go_wp2_with fail
  refine wp_region_quiet_below (by kernel_rfl) (by kernel_rfl) ?_
  repeat (go_big_quiet_step (first | (go_at_call 7; exact Calls.regrown_of (HI.out _)) | (go_at_call_of 6 (Value.agg #[Value.int IntKind.i64 a, Value.int IntKind.i64 l]); exact Calls.regrown_of (HT.out _)) | (go_at_call_of 6 (Value.agg #[Value.int IntKind.i64 b, Value.int IntKind.i64 m]); exact Calls.regrown_of (HU.out _))))
  refine wpQuiet_nil ?_
  intro _ hw'
  obtain ⟨⟨dq, osq⟩, hw''⟩ := hw'
  have hbq := below_regrown w1 dq osq
  rw [← hw''] at hbq
  clear hw'' osq dq k0 k1 k2 k3
  rename_i w2
  have hB2 := below_next hB1 hbq hB1.size
  go_wp2
  go_ret
  exact ⟨rfl, hB2⟩
end Go.Proofs.Ytgklpiocklfikac
