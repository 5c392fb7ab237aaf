/- slices.Sort at a few whole numbers. (Written by gen_srt.py.) -/
import Derived.Test.YtpkjkjepmloddaaSrtM
import Derived.Test.YtpkjkjepmloddaaBitsI
import Derived.BigQuiet
namespace Go.Proofs.Ytpkjkjepmloddaa
open Go.RowKit Go.Sort

theorem isNaN_any (a : Int) (w : World) : Calls Try.prog 116 #[.int .i64 a] w fun e w' => e = .returned (.bool false) ∧ w = w' := by
  have d : (a != a) = false := by simp
  go_enter Try.func116, Try.ntmps116
  go_wp2
  go_ret
  exact ⟨rfl, rfl⟩
set_option maxRecDepth 100000 in
theorem cmpLess_any (a b : Int) (w : World) : Calls Try.prog 100 #[.int .i64 a, .int .i64 b] w fun e w' => e = .returned (.bool (decide (a < b))) ∧ w = w' := by
  have HN : Hid (∀ a w, Calls Try.prog 116 #[.int .i64 a] w fun e w' => e = .returned (.bool false) ∧ w = w') := isNaN_any
  generalize hd : decide (a < b) = D
  go_enter Try.func100, Try.ntmps100
  go_wp2_with fail
  refine (HN.out _ _).mono ?_
  rintro e w1 ⟨rfl, rfl⟩
  go_wp2
  go_ret
  exact ⟨rfl, rfl⟩
/-- The state of the sort: a list in the place of ds, in order up to k. -/
def InsSJ (g c : Nat) (ds : List Int) (w : World) (k : Nat) (wr : World) : Prop := ∃ cur : List Int, IntsAt wr g c cur ∧ cur.Perm ds ∧ RisenJ cur k ∧ ButG g w wr
set_option maxRecDepth 100000 in
set_option maxHeartbeats 2000000 in
theorem insertJ_any (g c cap : Nat) (ds : List Int) (w : World) (h12 : ds.length ≤ 12) (h : IntsAt w g c ds) :
    Calls Try.prog 94 #[.slice (some ⟨g, 0, none⟩) ds.length cap, .int .i64 0, .int .i64 (ds.length : Int)] w fun e w' => e = .returned (.tuple #[]) ∧ InsSJ g c ds w ds.length w' := by
  have HO : Hid (∀ a b w, Calls Try.prog 100 #[.int .i64 a, .int .i64 b] w fun e w' => e = .returned (.bool (decide (a < b))) ∧ w = w') := cmpLess_any
  have HX : Hid (IntsAt w g c ds) := h
  clear h
  go_enter Try.func94, Try.ntmps94
  go_wp2_with fail
  go_loopw [6] (fun i wr => ∃ k : Nat, 1 ≤ k ∧ i = .int .i64 k ∧ (k ≤ ds.length ∨ k = 1) ∧ InsSJ g c ds w k wr) (fun i _ => ds.length + 1 - (intOf i).toNat)
  case atStart => exact ⟨1, Nat.le_refl _, rfl, .inr rfl, ds, HX.out, List.Perm.refl _, fun p hp => absurd hp (by omega), ButG.refl _ _⟩
  case round =>
    obtain ⟨k, hk1, rfl, hkl, cur, hN, hP, hR, hBt⟩ := hrel
    have hlen : cur.length = ds.length := hP.length_eq
    by_cases hlt : k < ds.length
    · have d1 : decide ((k : Int) < (ds.length : Int)) = true := by simpa using hlt
      have HC : Hid (IntsAt wr g c cur ∧ cur.Perm ds ∧ GoingJ cur k k ∧ ButG g w wr) := ⟨hN, hP, goingJ_first hR, hBt⟩
      clear hN hP hR hBt
      go_wp2_with fail
      go_loopw [7] (fun i wr => ∃ j : Nat, j ≤ k ∧ i = .int .i64 j ∧ ∃ cur : List Int, IntsAt wr g c cur ∧ cur.Perm ds ∧ GoingJ cur k j ∧ ButG g w wr) (fun i _ => (intOf i).toNat)
      case atStart => exact ⟨k, Nat.le_refl _, rfl, cur, HC.out⟩
      case round =>
        clear HC
        obtain ⟨j, hj, rfl, cur, hN, hP, hG, hBt⟩ := hrel
        have hlen : cur.length = ds.length := hP.length_eq
        by_cases hz : j = 0
        · have HE : Hid (RisenJ cur (k + 1)) := goingJ_end hG (.inl hz)
          have z0 : decide (0 < j) = false := by simp; omega
          have z1 : decide (0 < (j : Int)) = false := by simp; omega
          have HN : Hid (IntsAt wr g c cur ∧ cur.Perm ds ∧ ButG g w wr) := ⟨hN, hP, hBt⟩
          clear hN hP hG hBt hz HO
          go_wp2_with fail
          go_quiet (fail)
          obtain ⟨hN, hP, hBt⟩ := HN.out
          have HS : Hid (∀ n, InsSJ g c ds w (k + 1) (wr.drewN n)) := fun n => ⟨cur, hN.drewN n, hP, HE.out, hBt.drewN n⟩
          clear hN hP hBt HN HE
          go_wp2
          go_roundw
          case rel => exact ⟨k + 1, by omega, by go_num, .inl hlt, HS.out _⟩
          case measure => simp [intOf]; omega
        · have c0 := hN.cell j (by omega)
          have e0 := hN.cell (j - 1) (by omega)
          have f0 := hN.frozen j
          have g0 := hN.frozen (j - 1)
          have HB : Hid (cur[j]! = cur[j]'(by omega) ∧ cur[j - 1]! = cur[j - 1]'(by omega)) := ⟨getElem!_pos _ _ _, getElem!_pos _ _ _⟩
          generalize hX : cur[j]'(by omega) = X at *
          generalize hY : cur[j - 1]'(by omega) = Y at *
          have HOk : Hid (∀ w, Calls Try.prog 100 #[.int .i64 X, .int .i64 Y] w fun e w' => e = .returned (.bool (decide (X < Y))) ∧ Below w.heap.size w w') := fun w => (HO.out X Y w).mono (by rintro e w' ⟨rfl, rfl⟩; exact ⟨rfl, Below.refl _ _⟩)
          have z0 : decide (0 < j) = true := by simp; omega
          have z1 : decide (0 < (j : Int)) = true := by simp; omega
          have z2 : IntKind.i64.wrap ((j : Int) - 1) = ((j - 1 : Nat) : Int) := by rw [wrap_i64_in _ (by omega) (by omega)]; omega
          have z3 : (j : Int) - 1 = ((j - 1 : Nat) : Int) := by omega
          have z4 : decide (((j - 1 : Nat) : Int) < (ds.length : Int)) = true := by simp; omega
          have z5 : j - 1 < ds.length := by omega
          have z6 : j < ds.length := by omega
          have z7 : decide ((j : Int) < (ds.length : Int)) = true := by simp; omega
          have hj0 : 0 < j := by omega
          have HN : Hid (IntsAt wr g c cur ∧ cur.Perm ds ∧ GoingJ cur k j ∧ ButG g w wr) := ⟨hN, hP, hG, hBt⟩
          clear hN hP hG hBt hX hY HO
          have HD : Hid (decide (X < Y) = decide (cur[j]! < cur[j - 1]!)) := by show _ = _; rw [HB.out.1, HB.out.2]
          generalize decide (X < Y) = D at *
          replace c0 := cell_regrown c0
          replace e0 := cell_regrown e0
          go_wp2_with fail
          refine wp_region_quiet_below (by kernel_rfl) (by kernel_rfl) ?_
          repeat (go_big_quiet_step ((go_at_call 100; exact Calls.regrown_of (HOk.out _))))
          refine wpQuiet_nil ?_
          intro w1 hw'
          obtain ⟨⟨dq, osq⟩, hw''⟩ := hw'
          have hbq := below_regrown wr dq osq
          rw [← hw''] at hbq
          clear hw'' osq dq c0 e0 f0 g0 HOk
          obtain ⟨hN, hP, hG, hBt⟩ := HN.out
          have hN1 := hN.below hbq hN.lt
          have hB1 := hBt.trans (ButG.of_below hN.lt hbq)
          clear hN hBt hbq HN
          cases D
          · have HS : Hid (InsSJ g c ds w (k + 1) w1) := ⟨cur, hN1, hP, goingJ_end hG (.inr (by have := of_decide_eq_false HD.out.symm; omega)), hB1⟩
            clear HB HD hN1 hP hG hB1
            go_wp2
            go_roundw
            case rel => exact ⟨k + 1, by omega, by go_num, .inl hlt, HS.out⟩
            case measure => simp [intOf]; omega
          · have ho1 : ¬ j = j - 1 := by omega
            have ho2 : ¬ j - 1 = j := by omega
            have hsw : swapJ cur j = (cur.set j Y).set (j - 1) X := by unfold swapJ; rw [HB.out.1, HB.out.2]
            have c0 := hN1.cell j (by omega)
            have e0 := hN1.cell (j - 1) (by omega)
            have f0 := hN1.frozen j
            have g0 := hN1.frozen (j - 1)
            have hbp := HB.out
            rw [getElem!_pos cur j (by omega), getElem!_pos cur (j - 1) (by omega)] at hbp
            rw [hbp.1] at c0
            rw [hbp.2] at e0
            clear hbp
            have hA : cur[j]! < cur[j - 1]! := of_decide_eq_true HD.out.symm
            have HF : Hid (IntsAt (((w1.setCell ⟨g, j, none⟩ (.int .i64 Y)).setCell ⟨g, j - 1, none⟩ (.int .i64 X)).drew) g c (swapJ cur j) ∧ (swapJ cur j).Perm ds ∧ GoingJ (swapJ cur j) k (j - 1) ∧ ButG g w (((w1.setCell ⟨g, j, none⟩ (.int .i64 Y)).setCell ⟨g, j - 1, none⟩ (.int .i64 X)).drew)) := ⟨by rw [hsw]; exact (hN1.set j Y).set (j - 1) X, (swapJ_perm cur j hj0 (by omega)).trans hP, goingJ_next (by omega) hj0 hG hA, fun B w0 hb hBg => ((((hB1.set _ _).set _ _) B w0 hb hBg)).drew⟩
            clear hsw hN1 hP hG hB1 hA HB HD
            go_wp2_with fail
            go_region
            go_wp2
            go_roundw
            case rel => exact ⟨j - 1, by omega, by first | rfl | go_num, _, HF.out⟩
            case measure => simp [intOf]; omega
    · have d1 : decide ((k : Int) < (ds.length : Int)) = false := by simpa using hlt
      have HS : Hid (InsSJ g c ds w ds.length wr) := ⟨cur, hN, hP, fun p hp => hR p (by omega), hBt⟩
      clear hN hP hR hBt HO HX
      go_wp2
      refine bodyPost_end (v := .tuple #[]) (by simp [results, Try.results94, go_sem]) rfl ⟨rfl, HS.out⟩
set_option maxRecDepth 100000 in
set_option maxHeartbeats 1000000 in
theorem pdqJ_any (g c cap : Nat) (ds : List Int) (r : Int) (w : World) (h12 : ds.length ≤ 12) (h : IntsAt w g c ds) :
    Calls Try.prog 71 #[.slice (some ⟨g, 0, none⟩) ds.length cap, .int .i64 0, .int .i64 (ds.length : Int), .int .i64 r] w fun e w' => e = .returned (.tuple #[]) ∧ InsSJ g c ds w ds.length w' := by
  have HI : Hid (Calls Try.prog 94 #[.slice (some ⟨g, 0, none⟩) ds.length cap, .int .i64 0, .int .i64 (ds.length : Int)] w fun e w' => e = .returned (.tuple #[]) ∧ InsSJ g c ds w ds.length w') := insertJ_any g c cap ds w h12 h
  have d1 : decide ((ds.length : Int) ≤ 12) = true := by simp; omega
  clear h
  go_enter Try.func71, Try.ntmps71
  go_wp2_with fail
  refine wp_loop_once ?_
  go_wp2_with fail
  refine (HI.out).mono ?_
  rintro e w1 ⟨rfl, h1⟩
  have HS : Hid _ := h1
  clear h1 HI
  go_wp2
  refine bodyPost_ret (v := .tuple #[]) (by simp [results, Try.results71, go_sem]) rfl ⟨rfl, HS.out⟩
set_option maxRecDepth 100000 in
set_option maxHeartbeats 1000000 in
/-- slices.Sort of a few whole numbers. -/
theorem sortJ_any (g c cap : Nat) (ds : List Int) (w : World) (h12 : ds.length ≤ 12) (h : IntsAt w g c ds) :
    Calls Try.prog 40 #[.slice (some ⟨g, 0, none⟩) ds.length cap] w fun e w' => e = .returned (.tuple #[]) ∧ InsSJ g c ds w ds.length w' := by
  have HP : Hid (∀ r, Calls Try.prog 71 #[.slice (some ⟨g, 0, none⟩) ds.length cap, .int .i64 0, .int .i64 (ds.length : Int), .int .i64 r] w fun e w' => e = .returned (.tuple #[]) ∧ InsSJ g c ds w ds.length w') := fun r => pdqJ_any g c cap ds r w h12 h
  have HL : Hid (Calls Try.prog 72 #[.int .u64 (ds.length : Int)] w fun e w' => ∃ r, e = .returned (.int .i64 r) ∧ w = w') := bitsLen_small ds.length h12 w
  clear h
  go_enter Try.func40, Try.ntmps40
  go_wp2_with fail
  refine (HL.out).mono ?_
  rintro e w1 ⟨r, rfl, rfl⟩
  go_wp2_with fail
  refine (HP.out r).mono ?_
  rintro e w1 ⟨rfl, h1⟩
  have HS : Hid _ := h1
  clear h1 HP HL
  go_wp2
  refine bodyPost_end (v := .tuple #[]) (by simp [results, Try.results40, go_sem]) rfl ⟨rfl, HS.out⟩
end Go.Proofs.Ytpkjkjepmloddaa
