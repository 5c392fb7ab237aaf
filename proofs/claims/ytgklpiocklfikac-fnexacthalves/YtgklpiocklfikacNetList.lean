/- The laws' own looks at a list of two nets, or of none: alike, marked, held. -/
import Derived.Test.YtgklpiocklfikacEqNet
import Derived.Test.YtgklpiocklfikacHalves
namespace Go.Proofs.Ytgklpiocklfikac
open Go.RowKit Go.Sort

set_option maxRecDepth 100000 in
theorem eqNetS_0 (x y : Option Addr) (c d : Nat) (w : World) : Calls Try.prog 10 #[.slice x 0 c, .slice y 0 d] w fun e w' => e = .returned (.bool true) ∧ w = w' := by
  go_enter Try.func10, Try.ntmps10
  go_wp2_with fail
  go_loop [5] (fun i => i = .int .i64 0) (fun _ => 0)
  case atStart => rfl
  case round =>
    subst hrel
    go_wp2
    go_ret
    exact ⟨rfl, rfl⟩
set_option maxRecDepth 100000 in
theorem markNetS_0 (x : Option Addr) (c : Nat) (w : World) : Calls Try.prog 11 #[.slice x 0 c, .int .i64 1] w fun e w' => e = .returned (.int .i64 1) ∧ w = w' := by
  go_enter Try.func11, Try.ntmps11
  go_wp2_with fail
  go_loop [5, 1] (fun i k => i = .int .i64 0 ∧ k = .int .i64 1) (fun _ _ => 0)
  case atStart => exact ⟨rfl, rfl⟩
  case round =>
    obtain ⟨rfl, rfl⟩ := hrel
    go_wp2
    go_ret
    exact ⟨rfl, rfl⟩
set_option maxRecDepth 100000 in
theorem heldNetS_0 (x : Option Addr) (c : Nat) (w : World) : Calls Try.prog 12 #[.slice x 0 c, .int .i64 1] w fun e w' => e = .returned (.int .i64 1) ∧ w = w' := by
  go_enter Try.func12, Try.ntmps12
  go_wp2_with fail
  go_loop [5, 1] (fun i k => i = .int .i64 0 ∧ k = .int .i64 1) (fun _ _ => 0)
  case atStart => exact ⟨rfl, rfl⟩
  case round =>
    obtain ⟨rfl, rfl⟩ := hrel
    go_wp2
    go_ret
    exact ⟨rfl, rfl⟩
theorem Row.cells4 {w : World} {g : Nat} {t : TypeId} {a l b m : Int} (h : Row w g t (nets2 a l b m)) : w.cell? ⟨g, 0, none⟩ = some (.int .i64 a) ∧ w.cell? ⟨g, 1, none⟩ = some (.int .i64 l) ∧ w.cell? ⟨g, 2, none⟩ = some (.int .i64 b) ∧ w.cell? ⟨g, 3, none⟩ = some (.int .i64 m) :=
  ⟨h.cell 0, h.cell 1, h.cell 2, h.cell 3⟩
set_option maxRecDepth 100000 in
theorem heldNetS_2 (g : Nat) (w : World) (h : Row w g 25 (nets2 1 2 3 4)) : Calls Try.prog 12 #[.slice (some ⟨g, 0, none⟩) 2 2, .int .i64 1] w fun e w' => e = .returned (.int .i64 5) ∧ w = w' := by
  obtain ⟨c0, c1, c2, c3⟩ := h.cells4
  go_enter Try.func12, Try.ntmps12
  go_wp2_with fail
  go_loop [5, 1] (fun i k => ∃ j : Nat, j ≤ 2 ∧ i = .int .i64 j ∧ k = .int .i64 (1 + 2 * (j : Int))) (fun i _ => 2 - (intOf i).toNat)
  case atStart => exact ⟨0, by omega, rfl, rfl⟩
  case round =>
    obtain ⟨j, hj, rfl, rfl⟩ := hrel
    obtain rfl | rfl | rfl : j = 0 ∨ j = 1 ∨ j = 2 := by omega
    · rw [show ((0 : Nat) : Int) = 0 from rfl]
      go_wp2
      go_round
      case rel => exact ⟨1, by omega, by go_num, by go_num⟩
      case measure => simp [intOf]
    · rw [show ((1 : Nat) : Int) = 1 from rfl]
      go_wp2
      go_round
      case rel => exact ⟨2, by omega, by go_num, by go_num⟩
      case measure => simp [intOf]
    · rw [show ((2 : Nat) : Int) = 2 from rfl]
      go_wp2
      go_ret
      exact ⟨rfl, rfl⟩
def markAt (a l b m : Int) : Nat → List Value
  | 0 => nets2 a l b m
  | 1 => nets2 1 2 b m
  | _ => nets2 1 2 3 4
set_option maxRecDepth 100000 in
theorem markNetS_2 (g : Nat) (a l b m : Int) (w : World) (h : Row w g 25 (nets2 a l b m)) : Calls Try.prog 11 #[.slice (some ⟨g, 0, none⟩) 2 2, .int .i64 1] w fun e w' => e = .returned (.int .i64 5) ∧ Row w' g 25 (nets2 1 2 3 4) ∧ Below g w w' := by
  have hgl := h.lt
  go_enter Try.func11, Try.ntmps11
  go_wp2_with fail
  go_loopw [5, 1] (fun i k wr => ∃ j : Nat, j ≤ 2 ∧ i = .int .i64 j ∧ k = .int .i64 (1 + 2 * (j : Int)) ∧ Row wr g 25 (markAt a l b m j) ∧ Below g w wr) (fun i _ _ => 2 - (intOf i).toNat)
  case atStart => exact ⟨0, by omega, rfl, rfl, h, Below.refl _ _⟩
  case round =>
    obtain ⟨j, hj, rfl, rfl, hr, hb⟩ := hrel
    obtain rfl | rfl | rfl : j = 0 ∨ j = 1 ∨ j = 2 := by omega
    · rw [show ((0 : Nat) : Int) = 0 from rfl]
      have hr0 : Row wr g 25 (nets2 a l b m) := hr
      obtain ⟨c0, c1, c2, c3⟩ := hr0.cells4
      have f0 := hr0.frozen 0
      have f1 := hr0.frozen 1
      clear hr
      go_wp2
      go_roundw
      case rel => exact ⟨1, by omega, by go_num, by go_num, (hr0.set 0 (.int .i64 1)).set 1 (.int .i64 2), (hb.setCell (Nat.le_refl _) _).setCell (Nat.le_refl _) _⟩
      case measure => simp [intOf]
    · rw [show ((1 : Nat) : Int) = 1 from rfl]
      have hr0 : Row wr g 25 (nets2 1 2 b m) := hr
      obtain ⟨c0, c1, c2, c3⟩ := hr0.cells4
      have f0 := hr0.frozen 2
      have f1 := hr0.frozen 3
      clear hr
      go_wp2
      go_roundw
      case rel => exact ⟨2, by omega, by go_num, by go_num, (hr0.set 2 (.int .i64 3)).set 3 (.int .i64 4), (hb.setCell (Nat.le_refl _) _).setCell (Nat.le_refl _) _⟩
      case measure => simp [intOf]
    · rw [show ((2 : Nat) : Int) = 2 from rfl]
      have hr0 : Row wr g 25 (nets2 1 2 3 4) := hr
      go_wp2
      go_ret
      exact ⟨rfl, hr0, hb⟩
set_option maxRecDepth 100000 in
theorem eqNetS_2 (g h : Nat) (a l b m : Int) (w : World) (hg : Row w g 25 (nets2 a l b m)) (hh : Row w h 25 (nets2 a l b m)) : Calls Try.prog 10 #[.slice (some ⟨g, 0, none⟩) 2 2, .slice (some ⟨h, 0, none⟩) 2 2] w fun e w' => e = .returned (.bool true) ∧ Below w.heap.size w w' := by
  have HE1 : Hid (∀ w, Calls Try.prog 18 #[.agg #[.int .i64 a, .int .i64 l], .agg #[.int .i64 a, .int .i64 l]] w fun e w' => e = .returned (.bool true) ∧ Below w.heap.size w w') := eqNet_same a l
  have HE2 : Hid (∀ w, Calls Try.prog 18 #[.agg #[.int .i64 b, .int .i64 m], .agg #[.int .i64 b, .int .i64 m]] w fun e w' => e = .returned (.bool true) ∧ Below w.heap.size w w') := eqNet_same b m
  have hgl := hg.lt
  have hhl := hh.lt
  have HX : Hid (Row w g 25 (nets2 a l b m) ∧ Row w h 25 (nets2 a l b m)) := ⟨hg, hh⟩
  clear hg hh
  go_enter Try.func10, Try.ntmps10
  go_wp2_with fail
  go_loopw [5] (fun i wr => ∃ j : Nat, j ≤ 2 ∧ i = .int .i64 j ∧ Below w.heap.size w wr) (fun i _ => 2 - (intOf i).toNat)
  case atStart => exact ⟨0, by omega, rfl, Below.refl _ _⟩
  case round =>
    obtain ⟨j, hj, rfl, hb⟩ := hrel
    obtain ⟨c0, c1, c2, c3⟩ := (HX.out.1.below hb hgl).cells4
    obtain ⟨d0, d1, d2, d3⟩ := (HX.out.2.below hb hhl).cells4
    obtain rfl | rfl | rfl : j = 0 ∨ j = 1 ∨ j = 2 := by omega
    · rw [show ((0 : Nat) : Int) = 0 from rfl]
      have k0 := cell_regrown c0
      have k1 := cell_regrown c1
      have m0 := cell_regrown d0
      have m1 := cell_regrown d1
      clear c0 c1 c2 c3 d0 d1 d2 d3
      go_wp2_with fail
      refine wp_region_quiet_below (by kernel_rfl) (by kernel_rfl) ?_
      repeat (go_big_quiet_step ((go_at_call 18; exact Calls.regrown_of (HE1.out _))))
      refine wpQuiet_nil ?_
      intro w1 hw'
      obtain ⟨⟨dq, osq⟩, hw''⟩ := hw'
      have hbq := below_regrown wr dq osq
      rw [← hw''] at hbq
      clear hw'' osq dq k0 k1 m0 m1
      have hb2 := hb.trans (hbq.mono hb.size)
      clear hbq
      go_wp2
      go_roundw
      case rel => exact ⟨1, by omega, by go_num, hb2⟩
      case measure => simp [intOf]
    · rw [show ((1 : Nat) : Int) = 1 from rfl]
      have k0 := cell_regrown c2
      have k1 := cell_regrown c3
      have m0 := cell_regrown d2
      have m1 := cell_regrown d3
      clear c0 c1 c2 c3 d0 d1 d2 d3
      go_wp2_with fail
      refine wp_region_quiet_below (by kernel_rfl) (by kernel_rfl) ?_
      repeat (go_big_quiet_step ((go_at_call 18; exact Calls.regrown_of (HE2.out _))))
      refine wpQuiet_nil ?_
      intro w1 hw'
      obtain ⟨⟨dq, osq⟩, hw''⟩ := hw'
      have hbq := below_regrown wr dq osq
      rw [← hw''] at hbq
      clear hw'' osq dq k0 k1 m0 m1
      have hb2 := hb.trans (hbq.mono hb.size)
      clear hbq
      go_wp2
      go_roundw
      case rel => exact ⟨2, by omega, by go_num, hb2⟩
      case measure => simp [intOf]
    · rw [show ((2 : Nat) : Int) = 2 from rfl]
      clear c0 c1 c2 c3 d0 d1 d2 d3
      go_wp2
      go_ret
      exact ⟨rfl, hb⟩
end Go.Proofs.Ytgklpiocklfikac
