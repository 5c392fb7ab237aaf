/- Texts that stand on each other, in one file: BitsI, InsI, SortedI, Steady, AllI, AppR, EqNet, EqRts, MarkR, RibMarks, QuietS. -/
import Derived.Test.YtaledidomgelcaaPack1
import Derived.Lib.IndexLaws
import Derived.Test.YtaledidomgelcaaPack3
import Derived.Test.YtaledidomgelcaaPack2
import Derived.Test.YtaledidomgelcaaTail
import Derived.Maps.AppendAt
import Derived.Lib.QuietBelow
import Derived.BigQuiet
/- math/bits.Len at numbers of at most twelve: it answers. (Written by gen_bits.py.) -/
namespace Go.Proofs.Ytaledidomgelcaa
open Go.RowKit

set_option maxRecDepth 100000 in
theorem len64_0 (w : World) : Calls Try.prog 122 #[.int .u64 0] w fun e w' => ∃ r, e = .returned (.int .i64 r) ∧ w = w' := by
  go_enter Try.func122, Try.ntmps122
  go_wp2
  go_ret
  exact ⟨_, rfl, rfl⟩
set_option maxRecDepth 100000 in
theorem len64_1 (w : World) : Calls Try.prog 122 #[.int .u64 1] w fun e w' => ∃ r, e = .returned (.int .i64 r) ∧ w = w' := by
  go_enter Try.func122, Try.ntmps122
  go_wp2
  go_ret
  exact ⟨_, rfl, rfl⟩
set_option maxRecDepth 100000 in
theorem len64_2 (w : World) : Calls Try.prog 122 #[.int .u64 2] w fun e w' => ∃ r, e = .returned (.int .i64 r) ∧ w = w' := by
  go_enter Try.func122, Try.ntmps122
  go_wp2
  go_ret
  exact ⟨_, rfl, rfl⟩
set_option maxRecDepth 100000 in
theorem len64_3 (w : World) : Calls Try.prog 122 #[.int .u64 3] w fun e w' => ∃ r, e = .returned (.int .i64 r) ∧ w = w' := by
  go_enter Try.func122, Try.ntmps122
  go_wp2
  go_ret
  exact ⟨_, rfl, rfl⟩
set_option maxRecDepth 100000 in
theorem len64_4 (w : World) : Calls Try.prog 122 #[.int .u64 4] w fun e w' => ∃ r, e = .returned (.int .i64 r) ∧ w = w' := by
  go_enter Try.func122, Try.ntmps122
  go_wp2
  go_ret
  exact ⟨_, rfl, rfl⟩
set_option maxRecDepth 100000 in
theorem len64_5 (w : World) : Calls Try.prog 122 #[.int .u64 5] w fun e w' => ∃ r, e = .returned (.int .i64 r) ∧ w = w' := by
  go_enter Try.func122, Try.ntmps122
  go_wp2
  go_ret
  exact ⟨_, rfl, rfl⟩
set_option maxRecDepth 100000 in
theorem len64_6 (w : World) : Calls Try.prog 122 #[.int .u64 6] w fun e w' => ∃ r, e = .returned (.int .i64 r) ∧ w = w' := by
  go_enter Try.func122, Try.ntmps122
  go_wp2
  go_ret
  exact ⟨_, rfl, rfl⟩
set_option maxRecDepth 100000 in
theorem len64_7 (w : World) : Calls Try.prog 122 #[.int .u64 7] w fun e w' => ∃ r, e = .returned (.int .i64 r) ∧ w = w' := by
  go_enter Try.func122, Try.ntmps122
  go_wp2
  go_ret
  exact ⟨_, rfl, rfl⟩
set_option maxRecDepth 100000 in
theorem len64_8 (w : World) : Calls Try.prog 122 #[.int .u64 8] w fun e w' => ∃ r, e = .returned (.int .i64 r) ∧ w = w' := by
  go_enter Try.func122, Try.ntmps122
  go_wp2
  go_ret
  exact ⟨_, rfl, rfl⟩
set_option maxRecDepth 100000 in
theorem len64_9 (w : World) : Calls Try.prog 122 #[.int .u64 9] w fun e w' => ∃ r, e = .returned (.int .i64 r) ∧ w = w' := by
  go_enter Try.func122, Try.ntmps122
  go_wp2
  go_ret
  exact ⟨_, rfl, rfl⟩
set_option maxRecDepth 100000 in
theorem len64_10 (w : World) : Calls Try.prog 122 #[.int .u64 10] w fun e w' => ∃ r, e = .returned (.int .i64 r) ∧ w = w' := by
  go_enter Try.func122, Try.ntmps122
  go_wp2
  go_ret
  exact ⟨_, rfl, rfl⟩
set_option maxRecDepth 100000 in
theorem len64_11 (w : World) : Calls Try.prog 122 #[.int .u64 11] w fun e w' => ∃ r, e = .returned (.int .i64 r) ∧ w = w' := by
  go_enter Try.func122, Try.ntmps122
  go_wp2
  go_ret
  exact ⟨_, rfl, rfl⟩
set_option maxRecDepth 100000 in
theorem len64_12 (w : World) : Calls Try.prog 122 #[.int .u64 12] w fun e w' => ∃ r, e = .returned (.int .i64 r) ∧ w = w' := by
  go_enter Try.func122, Try.ntmps122
  go_wp2
  go_ret
  exact ⟨_, rfl, rfl⟩
theorem len64_small (n : Nat) (h : n ≤ 12) (w : World) : Calls Try.prog 122 #[.int .u64 (n : Int)] w fun e w' => ∃ r, e = .returned (.int .i64 r) ∧ w = w' := by
  match n, h with
  | 0, _ => exact len64_0 w
  | 1, _ => exact len64_1 w
  | 2, _ => exact len64_2 w
  | 3, _ => exact len64_3 w
  | 4, _ => exact len64_4 w
  | 5, _ => exact len64_5 w
  | 6, _ => exact len64_6 w
  | 7, _ => exact len64_7 w
  | 8, _ => exact len64_8 w
  | 9, _ => exact len64_9 w
  | 10, _ => exact len64_10 w
  | 11, _ => exact len64_11 w
  | 12, _ => exact len64_12 w
  | k + 13, h => exact absurd h (by omega)
set_option maxRecDepth 100000 in
theorem bitsLen_small (n : Nat) (h : n ≤ 12) (w : World) : Calls Try.prog 112 #[.int .u64 (n : Int)] w fun e w' => ∃ r, e = .returned (.int .i64 r) ∧ w = w' := by
  have HL : Hid (∀ w, Calls Try.prog 122 #[.int .u64 (n : Int)] w fun e w' => ∃ r, e = .returned (.int .i64 r) ∧ w = w') := fun w => len64_small n h w
  go_enter Try.func112, Try.ntmps112
  go_wp2_with fail
  refine (HL.out _).mono ?_
  rintro e w1 ⟨r, rfl, rfl⟩
  go_wp2
  go_ret
  exact ⟨r, rfl, rfl⟩
end Go.Proofs.Ytaledidomgelcaa
/- slices.SortFunc at a few nets. (Written by gen_ins.py.) -/
namespace Go.Proofs.Ytaledidomgelcaa
open Go.RowKit Go.Sort

/-- All blocks of w but g lie in w' as they lay. -/
def But (g : Nat) (w w' : World) : Prop := ∀ B w0, Below B w0 w → B ≤ g → Below B w0 w'
theorem But.refl (g : Nat) (w : World) : But g w w := fun _ _ h _ => h
theorem But.trans {g : Nat} {w w1 w2 : World} (h : But g w w1) (k : But g w1 w2) : But g w w2 := fun B w0 hb hB => k B w0 (h B w0 hb hB) hB
theorem But.of_below {g : Nat} {w w' : World} (hg : g < w.heap.size) (h : Below w.heap.size w w') : But g w w' := fun B w0 hb hB => hb.trans (h.mono (by omega))
theorem But.set {g : Nat} {w w1 : World} (h : But g w w1) (k : Nat) (v : Value) : But g w (w1.setCell ⟨g, k, none⟩ v) := fun B w0 hb hB => (h B w0 hb hB).setCell (p := ⟨g, k, none⟩) hB v
/-- The state of the sort: a list in the place of ds, in order up to k. -/
def InsSt (g : Nat) (ds : List NP) (w : World) (k : Nat) (wr : World) : Prop := ∃ cur : List NP, NetsAt wr g cur ∧ cur.Perm ds ∧ Risen cur k ∧ But g w wr
set_option maxRecDepth 100000 in
set_option maxHeartbeats 2000000 in
theorem insertion_any (g cap : Nat) (ds : List NP) (w : World) (h12 : ds.length ≤ 12) (h : NetsAt w g ds) :
    Calls Try.prog 113 #[.slice (some ⟨g, 0, none⟩) ds.length cap, .int .i64 0, .int .i64 (ds.length : Int), .func (.func 82) #[] #[]] w fun e w' => e = .returned (.tuple #[]) ∧ InsSt g ds w ds.length w' := by
  have HO : Hid (∀ a l b m w, Calls Try.prog 82 #[.agg #[.int .i64 a, .int .i64 l], .agg #[.int .i64 b, .int .i64 m]] w fun e w' => e = .returned (.int .i64 (cmpN (a, l) (b, m))) ∧ Below w.heap.size w w') := netOrder_any
  have HX : Hid (NetsAt w g ds) := h
  clear h
  go_enter Try.func113, Try.ntmps113
  go_wp2_with fail
  go_loopw [8] (fun i wr => ∃ k : Nat, 1 ≤ k ∧ i = .int .i64 k ∧ (k ≤ ds.length ∨ k = 1) ∧ InsSt g ds w k wr) (fun i _ => ds.length + 1 - (intOf i).toNat)
  case atStart => exact ⟨1, Nat.le_refl _, rfl, .inr rfl, ds, HX.out, List.Perm.refl _, fun p hp => absurd hp (by omega), But.refl _ _⟩
  case round =>
    obtain ⟨k, hk1, rfl, hkl, cur, hN, hP, hR, hBt⟩ := hrel
    have hlen : cur.length = ds.length := hP.length_eq
    by_cases hlt : k < ds.length
    · have d1 : decide ((k : Int) < (ds.length : Int)) = true := by simpa using hlt
      have HC : Hid (NetsAt wr g cur ∧ cur.Perm ds ∧ Going cur k k ∧ But g w wr) := ⟨hN, hP, going_first hR, hBt⟩
      clear hN hP hR hBt
      go_wp2_with fail
      go_loopw [9] (fun i wr => ∃ j : Nat, j ≤ k ∧ i = .int .i64 j ∧ ∃ cur : List NP, NetsAt wr g cur ∧ cur.Perm ds ∧ Going cur k j ∧ But g w wr) (fun i _ => (intOf i).toNat)
      case atStart => exact ⟨k, Nat.le_refl _, rfl, cur, HC.out⟩
      case round =>
        clear HC
        obtain ⟨j, hj, rfl, cur, hN, hP, hG, hBt⟩ := hrel
        have hlen : cur.length = ds.length := hP.length_eq
        by_cases hz : j = 0
        · have HE : Hid (Risen cur (k + 1)) := going_end hG (.inl hz)
          have z0 : decide (0 < j) = false := by simp; omega
          have z1 : decide (0 < (j : Int)) = false := by simp; omega
          have HN : Hid (NetsAt wr g cur ∧ cur.Perm ds ∧ But g w wr) := ⟨hN, hP, hBt⟩
          clear hN hP hG hBt hz HO
          go_wp2_with fail
          refine wp_region_quiet_below (by kernel_rfl) (by kernel_rfl) ?_
          repeat (go_big_quiet_step (fail))
          refine wpQuiet_nil ?_
          intro w1 hw'
          obtain ⟨⟨dq, osq⟩, hw''⟩ := hw'
          have hbq := below_regrown wr dq osq
          rw [← hw''] at hbq
          clear hw'' osq dq
          obtain ⟨hN, hP, hBt⟩ := HN.out
          have HS : Hid (InsSt g ds w (k + 1) w1) := ⟨cur, hN.below hbq hN.lt, hP, HE.out, hBt.trans (But.of_below hN.lt hbq)⟩
          clear hN hP hBt HN hbq HE
          go_wp2
          go_roundw
          case rel => exact ⟨k + 1, by omega, by go_num, .inl hlt, HS.out⟩
          case measure => simp [intOf]; omega
        · obtain ⟨c0, c1, f0, f1⟩ := hN.cell j (by omega)
          obtain ⟨e0, e1, g0, g1⟩ := hN.cell (j - 1) (by omega)
          have HB : Hid (cur[j]! = cur[j]'(by omega) ∧ cur[j - 1]! = cur[j - 1]'(by omega)) := ⟨getElem!_pos _ _ _, getElem!_pos _ _ _⟩
          generalize hX : cur[j]'(by omega) = X at *
          generalize hY : cur[j - 1]'(by omega) = Y at *
          obtain ⟨a, l⟩ := X
          obtain ⟨b, m⟩ := Y
          simp only at c0 c1 e0 e1
          have HOk : Hid (∀ w, Calls Try.prog 82 #[.agg #[.int .i64 a, .int .i64 l], .agg #[.int .i64 b, .int .i64 m]] w fun e w' => e = .returned (.int .i64 (cmpN (a, l) (b, m))) ∧ Below w.heap.size w w') := HO.out a l b m
          have HA : Hid (ahead cur[j]! cur[j - 1]! = decide (cmpN (a, l) (b, m) < 0)) := by show _ = _; rw [HB.out.1, HB.out.2]; rfl
          have z0 : decide (0 < j) = true := by simp; omega
          have z1 : decide (0 < (j : Int)) = true := by simp; omega
          have z2 : IntKind.i64.wrap ((j : Int) - 1) = ((j - 1 : Nat) : Int) := by rw [wrap_i64_in _ (by omega) (by omega)]; omega
          have z3 : (j : Int) - 1 = ((j - 1 : Nat) : Int) := by omega
          have z4 : decide (((j - 1 : Nat) : Int) < (ds.length : Int)) = true := by simp; omega
          have z5 : j - 1 < ds.length := by omega
          have z6 : j < ds.length := by omega
          have z7 : decide ((j : Int) < (ds.length : Int)) = true := by simp; omega
          have hj0 : 0 < j := by omega
          have HN : Hid (NetsAt wr g cur ∧ cur.Perm ds ∧ Going cur k j ∧ But g w wr) := ⟨hN, hP, hG, hBt⟩
          clear hN hP hG hBt hX hY HO
          generalize cmpN (a, l) (b, m) = C at *
          replace c0 := cell_regrown c0
          replace c1 := cell_regrown c1
          replace e0 := cell_regrown e0
          replace e1 := cell_regrown e1
          go_wp2_with fail
          refine wp_region_quiet_below (by kernel_rfl) (by kernel_rfl) ?_
          repeat (go_big_quiet_step ((go_at_call 82; exact Calls.regrown_of (HOk.out _))))
          refine wpQuiet_nil ?_
          intro w1 hw'
          obtain ⟨⟨dq, osq⟩, hw''⟩ := hw'
          have hbq := below_regrown wr dq osq
          rw [← hw''] at hbq
          clear hw'' osq dq c0 c1 e0 e1 f0 f1 g0 g1 HOk
          obtain ⟨hN, hP, hG, hBt⟩ := HN.out
          have hN1 := hN.below hbq hN.lt
          have hB1 := hBt.trans (But.of_below hN.lt hbq)
          clear hN hBt hbq HN
          by_cases hC : C < 0
          · have dC : decide (C < 0) = true := decide_eq_true hC
            obtain ⟨c0, c1, f0, f1⟩ := hN1.cell j (by omega)
            obtain ⟨e0, e1, g0, g1⟩ := hN1.cell (j - 1) (by omega)
            have hbp := HB.out
            rw [getElem!_pos cur j (by omega), getElem!_pos cur (j - 1) (by omega)] at hbp
            rw [hbp.1] at c0 c1
            rw [hbp.2] at e0 e1
            have ho1 : ¬ j * 2 = (j - 1) * 2 := by omega
            have ho2 : ¬ j * 2 + 1 = (j - 1) * 2 := by omega
            have ho3 : ¬ j * 2 = (j - 1) * 2 + 1 := by omega
            have ho4 : ¬ j * 2 + 1 = (j - 1) * 2 + 1 := by omega
            have ho5 : ¬ (j - 1) * 2 = j * 2 := by omega
            have ho6 : ¬ (j - 1) * 2 = j * 2 + 1 := by omega
            have ho7 : ¬ (j - 1) * 2 + 1 = j * 2 := by omega
            have ho8 : ¬ (j - 1) * 2 + 1 = j * 2 + 1 := by omega
            have HS : Hid (NetsAt w1 g cur ∧ cur.Perm ds ∧ Going cur k j ∧ But g w w1 ∧ ahead cur[j]! cur[j - 1]! = true) := ⟨hN1, hP, hG, hB1, by rw [HA.out]; exact dC⟩
            clear hN1 hP hB1 hG HA hbp
            go_wp2_with fail
            go_region
            have hsw : swapN cur j = (cur.set j (b, m)).set (j - 1) (a, l) := by unfold swapN; rw [HB.out.1, HB.out.2]
            obtain ⟨hN, hP, hG, hB, hA⟩ := HS.out
            have hZ : NetsAt ((((w1.setCell ⟨g, j * 2, none⟩ (.int .i64 b)).setCell ⟨g, j * 2 + 1, none⟩ (.int .i64 m)).setCell ⟨g, (j - 1) * 2, none⟩ (.int .i64 a)).setCell ⟨g, (j - 1) * 2 + 1, none⟩ (.int .i64 l)).drew g (swapN cur j) := by
              rw [hsw]
              exact (hN.set j (by omega) (b, m)).set (j - 1) (by rw [List.length_set]; omega) (a, l)
            have hBZ : But g w ((((w1.setCell ⟨g, j * 2, none⟩ (.int .i64 b)).setCell ⟨g, j * 2 + 1, none⟩ (.int .i64 m)).setCell ⟨g, (j - 1) * 2, none⟩ (.int .i64 a)).setCell ⟨g, (j - 1) * 2 + 1, none⟩ (.int .i64 l)).drew := fun B w0 hb hBg => (((((hB.set _ _).set _ _).set _ _).set _ _) B w0 hb hBg).drew
            have HF : Hid (NetsAt _ g (swapN cur j) ∧ (swapN cur j).Perm ds ∧ Going (swapN cur j) k (j - 1) ∧ But g w _) := ⟨hZ, (swapN_perm cur j hj0 (by omega)).trans hP, going_next (by omega) hj0 hG hA, hBZ⟩
            clear hZ hBZ hsw hN hP hG hB hA HS HB c0 c1 e0 e1 f0 f1 g0 g1 ho1 ho2 ho3 ho4 ho5 ho6 ho7 ho8
            generalize ((((w1.setCell ⟨g, j * 2, none⟩ (.int .i64 b)).setCell ⟨g, j * 2 + 1, none⟩ (.int .i64 m)).setCell ⟨g, (j - 1) * 2, none⟩ (.int .i64 a)).setCell ⟨g, (j - 1) * 2 + 1, none⟩ (.int .i64 l)).drew = Z at *
            go_wp2
            go_roundw
            case rel => exact ⟨j - 1, by omega, by first | rfl | go_num, _, HF.out⟩
            case measure => simp [intOf]; omega
          · have dC : decide (C < 0) = false := decide_eq_false hC
            have HS : Hid (InsSt g ds w (k + 1) w1) := ⟨cur, hN1, hP, going_end hG (.inr (by rw [HA.out]; exact dC)), hB1⟩
            clear hN1 hP hB1 hG HA HB
            go_wp2
            go_roundw
            case rel => exact ⟨k + 1, by omega, by go_num, .inl hlt, HS.out⟩
            case measure => simp [intOf]; omega
    · have d1 : decide ((k : Int) < (ds.length : Int)) = false := by simpa using hlt
      have HS : Hid (InsSt g ds w ds.length wr) := ⟨cur, hN, hP, fun p hp => hR p (by omega), hBt⟩
      clear hN hP hR hBt HO HX
      go_wp2
      refine bodyPost_end (v := .tuple #[]) (by simp [results, Try.results113, go_sem]) rfl ⟨rfl, HS.out⟩
set_option maxRecDepth 100000 in
set_option maxHeartbeats 1000000 in
theorem pdq_any (g cap : Nat) (ds : List NP) (r : Int) (w : World) (h12 : ds.length ≤ 12) (h : NetsAt w g ds) :
    Calls Try.prog 111 #[.slice (some ⟨g, 0, none⟩) ds.length cap, .int .i64 0, .int .i64 (ds.length : Int), .int .i64 r, .func (.func 82) #[] #[]] w fun e w' => e = .returned (.tuple #[]) ∧ InsSt g ds w ds.length w' := by
  have HI : Hid (Calls Try.prog 113 #[.slice (some ⟨g, 0, none⟩) ds.length cap, .int .i64 0, .int .i64 (ds.length : Int), .func (.func 82) #[] #[]] w fun e w' => e = .returned (.tuple #[]) ∧ InsSt g ds w ds.length w') := insertion_any g cap ds w h12 h
  have d1 : decide ((ds.length : Int) ≤ 12) = true := by simp; omega
  clear h
  go_enter Try.func111, Try.ntmps111
  go_wp2_with fail
  refine wp_loop_once ?_
  go_wp2_with fail
  refine (HI.out).mono ?_
  rintro e w1 ⟨rfl, h1⟩
  have HS : Hid _ := h1
  clear h1 HI
  go_wp2
  refine bodyPost_ret (v := .tuple #[]) (by simp [results, Try.results111, go_sem]) rfl ⟨rfl, HS.out⟩
set_option maxRecDepth 100000 in
set_option maxHeartbeats 1000000 in
/-- slices.SortFunc of a few nets by netOrder. -/
theorem sortFunc_any (g cap : Nat) (ds : List NP) (w : World) (h12 : ds.length ≤ 12) (h : NetsAt w g ds) :
    Calls Try.prog 108 #[.slice (some ⟨g, 0, none⟩) ds.length cap, .func (.func 82) #[] #[]] w fun e w' => e = .returned (.tuple #[]) ∧ InsSt g ds w ds.length w' := by
  have HP : Hid (∀ r, Calls Try.prog 111 #[.slice (some ⟨g, 0, none⟩) ds.length cap, .int .i64 0, .int .i64 (ds.length : Int), .int .i64 r, .func (.func 82) #[] #[]] w fun e w' => e = .returned (.tuple #[]) ∧ InsSt g ds w ds.length w') := fun r => pdq_any g cap ds r w h12 h
  have HL : Hid (Calls Try.prog 112 #[.int .u64 (ds.length : Int)] w fun e w' => ∃ r, e = .returned (.int .i64 r) ∧ w = w') := bitsLen_small ds.length h12 w
  clear h
  go_enter Try.func108, Try.ntmps108
  go_wp2_with fail
  refine (HL.out).mono ?_
  rintro e w1 ⟨r, rfl, rfl⟩
  go_wp2_with fail
  refine (HP.out r).mono ?_
  rintro e w1 ⟨rfl, h1⟩
  have HS : Hid _ := h1
  clear h1 HP HL
  go_wp2
  refine bodyPost_end (v := .tuple #[]) (by simp [results, Try.results108, go_sem]) rfl ⟨rfl, HS.out⟩
end Go.Proofs.Ytaledidomgelcaa
/- slices.SortedFunc of the nets of a map. (Written by gen_sorted.py.) -/
namespace Go.Proofs.Ytaledidomgelcaa
open Go.RowKit Go.Sort

set_option maxRecDepth 100000 in
theorem insertion_nil (w : World) : Calls Try.prog 113 #[.slice none 0 0, .int .i64 0, .int .i64 0, .func (.func 82) #[] #[]] w fun e w' => e = .returned (.tuple #[]) ∧ w = w' := by
  go_enter Try.func113, Try.ntmps113
  go_wp2_with fail
  refine wp_loop_once ?_
  go_wp2
  refine bodyPost_end (v := .tuple #[]) (by simp [results, Try.results113, go_sem]) rfl ⟨rfl, rfl⟩
set_option maxRecDepth 100000 in
theorem pdq_nil (r : Int) (w : World) : Calls Try.prog 111 #[.slice none 0 0, .int .i64 0, .int .i64 0, .int .i64 r, .func (.func 82) #[] #[]] w fun e w' => e = .returned (.tuple #[]) ∧ w = w' := by
  have HI : Hid (Calls Try.prog 113 #[.slice none 0 0, .int .i64 0, .int .i64 0, .func (.func 82) #[] #[]] w fun e w' => e = .returned (.tuple #[]) ∧ w = w') := insertion_nil w
  go_enter Try.func111, Try.ntmps111
  go_wp2_with fail
  refine wp_loop_once ?_
  go_wp2_with fail
  refine (HI.out).mono ?_
  rintro e w1 ⟨rfl, rfl⟩
  clear HI
  go_wp2
  refine bodyPost_ret (v := .tuple #[]) (by simp [results, Try.results111, go_sem]) rfl ⟨rfl, rfl⟩
set_option maxRecDepth 100000 in
theorem sortFunc_nil (w : World) : Calls Try.prog 108 #[.slice none 0 0, .func (.func 82) #[] #[]] w fun e w' => e = .returned (.tuple #[]) ∧ w = w' := by
  have HP : Hid (∀ r, Calls Try.prog 111 #[.slice none 0 0, .int .i64 0, .int .i64 0, .int .i64 r, .func (.func 82) #[] #[]] w fun e w' => e = .returned (.tuple #[]) ∧ w = w') := fun r => pdq_nil r w
  have HL : Hid (Calls Try.prog 112 #[.int .u64 0] w fun e w' => ∃ r, e = .returned (.int .i64 r) ∧ w = w') := bitsLen_small 0 (by omega) w
  go_enter Try.func108, Try.ntmps108
  go_wp2_with fail
  refine (HL.out).mono ?_
  rintro e w1 ⟨r, rfl, rfl⟩
  go_wp2_with fail
  refine (HP.out r).mono ?_
  rintro e w1 ⟨rfl, rfl⟩
  clear HP HL
  go_wp2
  refine bodyPost_end (v := .tuple #[]) (by simp [results, Try.results108, go_sem]) rfl ⟨rfl, rfl⟩
/-- The slice v holds the nets xs, in memory laid since block B. -/
def HoldsN (w : World) (B : Nat) (v : Value) (xs : List NP) : Prop := (xs = [] ∧ v = .slice none 0 0) ∨ ∃ g cap, v = .slice (some ⟨g, 0, none⟩) xs.length cap ∧ NetsAt w g xs ∧ B ≤ g
theorem holdsN_row {w : World} {B : Nat} {v : Value} {xs : List NP} (h : w.ownsRow B 35 2 v xs.length (flatN xs)) : HoldsN w B v xs := by
  rcases h.2 with ⟨rfl, h0⟩ | ⟨g, cap, cur, rfl, hb, hg, hnc, hcm, hcs, htake⟩
  · exact .inl ⟨List.length_eq_zero_iff.1 h0, rfl⟩
  · refine .inr ⟨g, cap, rfl, ⟨cur.toList, ?_, ?_⟩, hb⟩
    · show w.heap[g]? = _
      rw [hg]
    · rw [Nat.mul_comm]; exact htake
set_option maxRecDepth 100000 in
set_option maxHeartbeats 1000000 in
theorem sortedN (Bm b : Nat) (rs : List Rt) (w : World) (h8 : rs.length ≤ 12) (hm : w.cell? ⟨Bm, 0, none⟩ = some (.map (some b))) (hM : MapIs w b rs) :
    Calls Try.prog 92 #[.func (.func 109) #[] #[.pointer (some ⟨Bm, 0, none⟩)], .func (.func 82) #[] #[]] w fun e w' => ∃ v xs, e = .returned v ∧ xs.Perm (rs.map netOfR) ∧ Risen xs xs.length ∧ HoldsN w' w.heap.size v xs ∧ Below w.heap.size w w' := by
  have HA : Hid (Calls Try.prog 107 #[.func (.func 109) #[] #[.pointer (some ⟨Bm, 0, none⟩)]] w fun e w' => ∃ v xs, e = .returned v ∧ xs.Perm (rs.map netOfR) ∧ w'.ownsRow w.heap.size 35 2 v xs.length (flatN xs) ∧ Below w.heap.size w w') := collectN Bm b rs w (by omega) hm hM
  clear hm hM
  go_enter Try.func92, Try.ntmps92
  go_wp2_with fail
  refine (HA.out).mono ?_
  rintro e w1 ⟨v, xs, rfl, h1, h2, h3⟩
  have hl : xs.length ≤ 12 := by rw [h1.length_eq, List.length_map]; exact h8
  rcases holdsN_row h2 with ⟨rfl, rfl⟩ | ⟨g, cap, rfl, hN, hg⟩
  · have HS : Hid (Calls Try.prog 108 #[.slice none 0 0, .func (.func 82) #[] #[]] w1 fun e w' => e = .returned (.tuple #[]) ∧ w1 = w') := sortFunc_nil w1
    clear h2 HA
    go_wp2_with fail
    refine (HS.out).mono ?_
    rintro e w2 ⟨rfl, rfl⟩
    clear HS
    go_wp2
    go_ret
    exact ⟨_, [], rfl, h1, fun p hp => absurd hp (by simp), .inl ⟨rfl, rfl⟩, h3⟩
  · have HS : Hid (Calls Try.prog 108 #[.slice (some ⟨g, 0, none⟩) xs.length cap, .func (.func 82) #[] #[]] w1 fun e w' => e = .returned (.tuple #[]) ∧ InsSt g xs w1 xs.length w') := sortFunc_any g cap xs w1 hl hN
    clear h2 HA hN
    have HX : Hid _ := And.intro h1 (And.intro h3 hg)
    clear h1 h3 hg
    go_wp2_with fail
    refine (HS.out).mono ?_
    rintro e w2 ⟨rfl, cur, hN, hP, hR, hBt⟩
    have HLn : Hid (cur.length = xs.length) := hP.length_eq
    have HY : Hid _ := And.intro hN (And.intro hP (And.intro hR hBt))
    clear hN hP hR hBt HS
    go_wp2
    go_ret
    obtain ⟨hN, hP, hR, hBt⟩ := HY.out
    obtain ⟨h1, h3, hg⟩ := HX.out
    exact ⟨_, cur, rfl, hP.trans h1, by rw [HLn.out]; exact hR, .inr ⟨g, cap, by rw [HLn.out]; rfl, hN, hg⟩, hBt _ _ h3 hg⟩
def ltN (x y : NP) : Prop := x.1 < y.1 ∨ (x.1 = y.1 ∧ x.2 < y.2)
/-- The nets of a right table, in whatever order they came, sorted: they stand as in the table. -/
theorem risen_nets {rs : List Rt} (hr : ribB rs = true) {xs : List NP} (hp : xs.Perm (rs.map netOfR)) (hx : Risen xs xs.length) : xs = rs.map netOfR := by
  have hpw : (rs.map netOfR).Pairwise ltN := by
    rw [List.pairwise_map]
    exact (rib_rising hr).imp fun h => h
  have hright : ∀ x ∈ xs, rightB x.1 x.2 = true := by
    intro x hm
    obtain ⟨r, hrm, rfl⟩ := List.mem_map.1 (hp.mem_iff.1 hm)
    obtain ⟨j, hj, rfl⟩ := List.mem_iff_getElem.1 hrm
    have := okAt_route ((ribB_spec hr).2 j hj)
    rw [get_bang hj] at this
    exact routeB_right this
  have hnd : xs.Nodup := (hp.nodup_iff).2 (hpw.imp fun h e => by subst e; unfold ltN at h; omega)
  have step : ∀ p (h : p + 1 < xs.length), ltN (xs[p]'(by omega)) xs[p + 1] := by
    intro p h
    have h1 := hx p h
    rw [getElem!_pos xs (p + 1) h, getElem!_pos xs p (by omega), ahead_iff] at h1
    unfold lessB at h1
    rw [hright _ (List.getElem_mem _), hright _ (List.getElem_mem _)] at h1
    have hne : xs[p]'(by omega) ≠ xs[p + 1] := (List.pairwise_iff_getElem.1 hnd) p (p + 1) (by omega) h (by omega)
    have hne' : ¬ ((xs[p]'(by omega)).1 = xs[p + 1].1 ∧ (xs[p]'(by omega)).2 = xs[p + 1].2) := fun h => hne (Prod.ext h.1 h.2)
    simp only [Bool.true_and, Bool.or_eq_false_iff, Bool.and_eq_false_iff, decide_eq_false_iff_not, beq_eq_false_iff_ne, ne_eq] at h1
    unfold ltN
    omega
  have hxs : xs.Pairwise ltN := by
    rw [List.pairwise_iff_getElem]
    intro i j hi hj hij
    induction j with
    | zero => omega
    | succ j ih =>
      rcases Nat.lt_or_ge i j with h' | h'
      · have h1 := ih (by omega) h'
        have h2 := step j hj
        unfold ltN at *
        omega
      · obtain rfl : i = j := by omega
        exact step i hj
  exact hp.eq_of_pairwise (fun a b _ _ h1 h2 => by unfold ltN at h1 h2; omega) hxs hpw
end Go.Proofs.Ytaledidomgelcaa
/- A law of our own on regions that draw their order: where each operation, whatever has come up before it, leaves in its slot a value that meets the slot's condition, and a world with some blocks laid behind, and the conditions bear that, any order ends in a frame that meets them all. -/
namespace Go.Proofs.Ytaledidomgelcaa
open Go Go.RowKit

section
variable {P : Program}

/-- The slots of the operations that o waits for. -/
def depSlots (l : List Oper) (o : Oper) : List Nat := (o.after.toList.filter (Region.binds .any)).filterMap fun e => (l[e.on]?).bind (·.dst)
def steadyChk (l : List Oper) (n : Nat) : Bool :=
  ((List.range l.length).all fun j => match l[j]? with | none => true | some o => (o.after.all fun e => decide (e.on < j)) && o.guard.isNone && (match o.dst with | none => true | some d => decide (d < n))) &&
  (List.range l.length).all fun i => (List.range l.length).all fun j => decide (i = j) || ((l[i]?).bind (·.dst)).isNone || decide ((l[i]?).bind (·.dst) ≠ (l[j]?).bind (·.dst))
/-- The frame a' is as a, but for what the operations write. -/
def Agrees (l : List Oper) (a a' : Act) : Prop := a'.tmps.size = a.tmps.size ∧ a'.defers = a.defers ∧ ∀ d, (∀ o ∈ l, o.dst ≠ some d) → a'.tmps.getD d undef = a.tmps.getD d undef

theorem steadyChk_at {l : List Oper} {n j : Nat} {o : Oper} (h : steadyChk l n = true) (ho : l[j]? = some o) : (∀ e ∈ o.after, e.on < j) ∧ o.guard = none ∧ ∀ d, o.dst = some d → d < n := by
  have hlt : j < l.length := (List.getElem?_eq_some_iff.1 ho).1
  simp only [steadyChk, Bool.and_eq_true] at h
  have h1 := (List.all_eq_true.1 h.1) j (List.mem_range.2 hlt)
  simp only [ho, Bool.and_eq_true] at h1
  refine ⟨fun e he => of_decide_eq_true ((Array.all_eq_true_iff_forall_mem.1 h1.1.1) e he), by simpa using h1.1.2, fun d hd => ?_⟩
  have := h1.2
  simpa [hd] using this
theorem steadyChk_ne {l : List Oper} {n i j d : Nat} {oi oj : Oper} (h : steadyChk l n = true) (hi : l[i]? = some oi) (hj : l[j]? = some oj) (hne : i ≠ j) (hd : oi.dst = some d) : oj.dst ≠ some d := by
  have hlt : i < l.length := (List.getElem?_eq_some_iff.1 hi).1
  have hlt2 : j < l.length := (List.getElem?_eq_some_iff.1 hj).1
  simp only [steadyChk, Bool.and_eq_true] at h
  have h1 := (List.all_eq_true.1 ((List.all_eq_true.1 h.2) i (List.mem_range.2 hlt))) j (List.mem_range.2 hlt2)
  simp only [hi, hj, Option.bind_some, Bool.or_eq_true, decide_eq_true_eq] at h1
  rcases h1 with (h1 | h1) | h1
  · exact absurd h1 hne
  · rw [hd] at h1; simp at h1
  · rw [hd] at h1; exact fun e => h1 e.symm
theorem put_getD (a : Act) (d : Nat) (v : Value) (h : d < a.tmps.size) : (a.put (some d) v).tmps.getD d undef = v := by
  simp [Act.put, Array.getD_eq_getD_getElem?, h]
theorem put_getD_ne (a : Act) (dst : Option Tmp) (d : Nat) (v : Value) (h : dst ≠ some d) : (a.put dst v).tmps.getD d undef = a.tmps.getD d undef := by
  cases dst with
  | none => rfl
  | some x =>
    have hx : x ≠ d := fun e => h (by rw [e])
    simp [Act.put, Array.getD_eq_getD_getElem?, hx]
theorem put_size (a : Act) (dst : Option Tmp) (v : Value) : (a.put dst v).tmps.size = a.tmps.size := by cases dst <;> simp [Act.put]
theorem put_defers (a : Act) (dst : Option Tmp) (v : Value) : (a.put dst v).defers = a.defers := by cases dst <;> rfl

theorem act_eq (a : Act) (n : Nat) (h : a.tmps.size = n) : a = ⟨((List.range n).map fun k => a.tmps.getD k undef).toArray, a.defers⟩ := by
  subst h
  cases a with
  | mk T D =>
    simp only [Act.mk.injEq, and_true]
    apply Array.ext
    · simp
    · intro i h1 h2
      simp [Array.getD_eq_getD_getElem?, h1]
theorem wpAny_steady {l : List Oper} {Q : Exit → Act → World → Prop} {a : Act} {w : World} (m : Nat) (hml : m ≤ l.length) (G : Nat → Value → World → Prop) (hB : tailB .any l.toArray 0 m = true) (hchk : steadyChk (l.take m) a.tmps.size = true)
    (hstab : ∀ d v w1 w2, G d v w1 → Below w1.heap.size w1 w2 → G d v w2)
    (hstep : ∀ o ∈ l.take m, ∀ a' w', Below w.heap.size w w' → Agrees (l.take m) a a' → (∀ d ∈ depSlots (l.take m) o, G d (a'.tmps.getD d undef) w') → o.wp P a' w' (fun a'' w'' => ∃ v, a'' = a'.put o.dst v ∧ Below w'.heap.size w' w'' ∧ ∀ d, o.dst = some d → G d v w'') Q)
    (hfin : ∀ a' w', Below w.heap.size w w' → Agrees (l.take m) a a' → (∀ o ∈ l.take m, ∀ d, o.dst = some d → G d (a'.tmps.getD d undef) w') → wpList P l.toArray Q (l.drop m) a' w') :
    ∀ (fuel : Nat) (U : List Nat) (listed : Array Bool) (a' : Act) (w' : World), U.length = fuel → U.Nodup → listed.size = l.length → (∀ j, j < m → (listed.getD j true = false ↔ j ∈ U)) → (∀ j ∈ U, j < m) → (∀ j, m ≤ j → j < l.length → listed.getD j true = false) → ClosedL .any l.toArray listed →
      Below w.heap.size w w' → Agrees (l.take m) a a' → (∀ j o d, (l.take m)[j]? = some o → listed.getD j true = true → o.dst = some d → G d (a'.tmps.getD d undef) w') → wpAny P .any l.toArray Q (fuel + (l.length - m)) listed a' w' := by
  intro fuel
  induction fuel with
  | zero =>
    intro U listed a' w' hU _ hs hm _ ho hc hb hag hG
    have hU0 : U = [] := List.length_eq_zero_iff.1 hU
    subst hU0
    have hT : ∀ j, j < m → listed.getD j true = true := fun j hj => by
      cases h : listed.getD j true with
      | true => rfl
      | false => exact absurd ((hm j hj).1 h) (by simp)
    rw [Nat.zero_add]
    refine wpAny_tail (c := 0) (m := m) (Nat.zero_le _) hB (l.length - m) m listed a' w' (by omega) (Nat.le_refl _) hs hT ho hc ?_
    refine hfin a' w' hb hag fun o ho d hd => ?_
    obtain ⟨j, hj, rfl⟩ := List.getElem_of_mem ho
    exact hG j _ d (List.getElem?_eq_getElem hj) (hT j (by simp at hj; omega)) hd
  | succ fuel ih =>
    intro U listed a' w' hU hnd hs hm hUm ho hc hb hag hG
    rw [show fuel + 1 + (l.length - m) = (fuel + (l.length - m)) + 1 by omega]
    obtain ⟨k, hk⟩ : ∃ k, k ∈ U := by
      cases U with
      | nil => simp at hU
      | cons x _ => exact ⟨x, by simp⟩
    have hkm := hUm k hk
    have hkl := (hm k hkm).2 hk
    refine ⟨fun h0 => ?_, fun i hi => ?_⟩
    · have := ready_nil_all (md := .any) (ops := l.toArray) (by simpa using hs) (fun j o ho e he => tailB_lex hB ho e he) h0 (k + 1) k (by omega) (by simp; omega)
      rw [hkl] at this
      cases this
    · obtain ⟨hu, o, hoi, hdep⟩ := mem_ready.1 hi
      have hil : i < l.length := by simpa using (Array.getElem?_eq_some_iff.1 hoi).1
      have him : i < m := by
        rcases Nat.lt_or_ge i m with h | h
        · exact h
        · have := ready_all hB hc h hi (i - k) k (Nat.zero_le _) (by omega) (Nat.le_refl _)
          rw [hkl] at this
          cases this
      have hoL : (l.take m)[i]? = some o := by rw [List.getElem?_take, if_pos him]; simpa using hoi
      have hmem : o ∈ l.take m := List.mem_of_getElem? hoL
      obtain ⟨_, hgd, hdn⟩ := steadyChk_at hchk hoL
      have hiU : i ∈ U := (hm i him).1 hu
      unfold wpOp
      simp only [hoi]
      rw [if_pos (by simp [Region.wanted, hgd])]
      left
      have hs1 := hstep o hmem a' w' hb hag ?_
      · refine Oper.wp_mono ?_ hs1
        rintro a'' w'' ⟨v, rfl, hb2, hGv⟩
        have hset : ∀ j, (listed.setIfInBounds i true).getD j true = if j = i then true else listed.getD j true := by
          intro j
          by_cases hji : j = i
          · subst hji
            by_cases hjs : j < listed.size
            · simp [Array.getD_eq_getD_getElem?, hjs]
            · simp [Array.getD_eq_getD_getElem?, hjs]
          · rw [if_neg hji]
            simp [Array.getD_eq_getD_getElem?, Ne.symm hji]
        refine ih (U.erase i) _ _ _ (by rw [List.length_erase_of_mem hiU]; omega) (hnd.erase i) (by simpa using hs) ?_ (fun j hj => hUm j (List.mem_of_mem_erase hj)) ?_ (hc.set hi) (hb.trans (hb2.mono hb.size)) ?_ ?_
        · intro j hj
          rw [hset j, hnd.mem_erase_iff]
          by_cases hji : j = i
          · simp [hji]
          · rw [if_neg hji, hm j hj]; simp [hji]
        · intro j hj hjl
          rw [hset j, if_neg (by omega)]
          exact ho j hj hjl
        · refine ⟨by rw [put_size]; exact hag.1, by rw [put_defers]; exact hag.2.1, fun d hd => ?_⟩
          rw [put_getD_ne _ _ _ _ (hd o hmem)]
          exact hag.2.2 d hd
        · intro j oj d hj hlj hdj
          rw [hset j] at hlj
          by_cases hji : j = i
          · subst hji
            rw [hoL] at hj
            cases hj
            rw [hdj, put_getD _ _ _ (by rw [hag.1]; exact hdn d hdj)]
            exact hGv d hdj
          · rw [if_neg hji] at hlj
            rw [put_getD_ne _ _ _ _ (steadyChk_ne hchk hj hoL hji hdj)]
            exact hstab d _ _ _ (hG j oj d hj hlj hdj) hb2
      · intro d hd
        simp only [depSlots, List.mem_filterMap, List.mem_filter] at hd
        obtain ⟨e, ⟨he, hbn⟩, hed⟩ := hd
        have hlst := hdep e (by simpa using he) hbn
        cases hoe : (l.take m)[e.on]? with
        | none => simp [hoe] at hed
        | some oe =>
          simp only [hoe, Option.bind_some] at hed
          exact hG e.on oe d hoe (getD_true_of_false hlst) hed
theorem wp_region_steady {id : Nat} {Q : Exit → Act → World → Prop} {a : Act} {w : World} {l : List Oper} (m : Nat) (G : Nat → Value → World → Prop) (hm : P.follows .mixedOrders = true) (hchk : (decide (m ≤ l.length) && tailB .any l.toArray 0 m && steadyChk (l.take m) a.tmps.size) = true)
    (hstab : ∀ d v w1 w2, G d v w1 → Below w1.heap.size w1 w2 → G d v w2)
    (hstep : ∀ o ∈ l.take m, ∀ a' w', Below w.heap.size w w' → Agrees (l.take m) a a' → (∀ d ∈ depSlots (l.take m) o, G d (a'.tmps.getD d undef) w') → o.wp P a' w' (fun a'' w'' => ∃ v, a'' = a'.put o.dst v ∧ Below w'.heap.size w' w'' ∧ ∀ d, o.dst = some d → G d v w'') Q)
    (hfin : ∀ a' w', Below w.heap.size w w' → Agrees (l.take m) a a' → (∀ o ∈ l.take m, ∀ d, o.dst = some d → G d (a'.tmps.getD d undef) w') → wpList P l.toArray Q (l.drop m) a' w') :
    (Code.region id l.toArray true).wp P Q a w := by
  refine wp_region_any hm ?_
  simp only [Bool.and_eq_true, decide_eq_true_eq] at hchk
  obtain ⟨⟨hml, hB⟩, hck⟩ := hchk
  have h := wpAny_steady (P := P) (w := w) m hml G hB hck hstab hstep hfin m (List.range m) (Array.replicate l.length false) a { w with drawn := w.drawn + 1 } (by simp) List.nodup_range (by simp) ?_ (by simp) ?_ ?_ ((Below.refl w.heap.size w).drew) ⟨rfl, rfl, fun _ _ => rfl⟩ ?_
  · rw [show m + (l.length - m) = l.length by omega] at h
    simpa using h
  · intro j hj
    have hjl : j < l.length := by omega
    simp [Array.getD_eq_getD_getElem?, hjl, hj]
  · intro j _ hjl
    simp [Array.getD_eq_getD_getElem?, hjl]
  · intro k o ho hk
    have hlt : k < l.length := by simpa using (Array.getElem?_eq_some_iff.1 ho).1
    simp [Array.getD_eq_getD_getElem?, hlt] at hk
  · intro j o d hj hl _
    have hlt : j < l.length := by have := (List.getElem?_eq_some_iff.1 hj).1; simp at this; omega
    simp [Array.getD_eq_getD_getElem?, hlt] at hl
end
/-- Conditions, a slot each. -/
def SlotG (gs : List (Nat × (Value → World → Prop))) (d : Nat) (x : Value) (w : World) : Prop := ∀ p, (d, p) ∈ gs → p x w
def Stabs : List (Nat × (Value → World → Prop)) → Prop
  | [] => True
  | p :: l => (∀ x w1 w2, p.2 x w1 → Below w1.heap.size w1 w2 → p.2 x w2) ∧ Stabs l
def Is (v : Value) : Value → World → Prop := fun x _ => x = v
theorem stab_is (v : Value) : ∀ x w1 w2, Is v x w1 → Below w1.heap.size w1 w2 → Is v x w2 := fun _ _ _ h _ => h
theorem SlotG.get {gs : List (Nat × (Value → World → Prop))} {d : Nat} {x : Value} {w : World} (h : SlotG gs d x w) (k : Nat) {p : Value → World → Prop} (hk : gs[k]? = some (d, p)) : p x w := h p (List.mem_of_getElem? hk)
theorem SlotG.is {gs : List (Nat × (Value → World → Prop))} {d : Nat} {x : Value} {w : World} (h : SlotG gs d x w) (k : Nat) {v : Value} (hk : gs[k]? = some (d, Is v)) : x = v := h (Is v) (List.mem_of_getElem? hk)
theorem key_one {α : Type} : ∀ {gs : List (Nat × α)}, (gs.map (·.1)).Nodup → ∀ {d : Nat} {p q : α}, (d, p) ∈ gs → (d, q) ∈ gs → p = q
  | [], _, _, _, _, h, _ => by cases h
  | (k, r) :: gs, hn, d, p, q, h1, h2 => by
    simp only [List.map_cons, List.nodup_cons] at hn
    have hin : ∀ x, (d, x) ∈ gs → d ∈ gs.map (·.1) := fun x hx => List.mem_map.2 ⟨(d, x), hx, rfl⟩
    rcases List.mem_cons.1 h1 with e1 | h1
    · rcases List.mem_cons.1 h2 with e2 | h2
      · rw [← e2] at e1; exact (Prod.mk.inj e1).2
      · have := hin q h2
        rw [(Prod.mk.inj e1).1] at this
        exact absurd this hn.1
    · rcases List.mem_cons.1 h2 with e2 | h2
      · have := hin p h1
        rw [(Prod.mk.inj e2).1] at this
        exact absurd this hn.1
      · exact key_one hn.2 h1 h2
theorem SlotG.mk {gs : List (Nat × (Value → World → Prop))} {d : Nat} {x : Value} {w : World} (k : Nat) {p : Value → World → Prop} (hk : gs[k]? = some (d, p)) (hn : (gs.map (·.1)).Nodup) (h : p x w) : SlotG gs d x w := by
  intro q hq
  rw [key_one hn hq (List.mem_of_getElem? hk)]
  exact h
theorem Stabs.all : ∀ {gs : List (Nat × (Value → World → Prop))}, Stabs gs → ∀ d v w1 w2, SlotG gs d v w1 → Below w1.heap.size w1 w2 → SlotG gs d v w2
  | [], _, _, _, _, _, _, _ => fun p hp => by cases hp
  | (k, q) :: gs, ⟨h1, h2⟩, d, v, w1, w2, h, hb => fun p hp => by
    rcases List.mem_cons.1 hp with e | hp
    · have hq : p = q := by simpa using (Prod.mk.inj e).2
      have hp1 := h p (by rw [e]; simp)
      rw [hq] at hp1 ⊢
      exact h1 v w1 w2 hp1 hb
    · exact Stabs.all h2 d v w1 w2 (fun p hp => h p (List.mem_cons_of_mem _ hp)) hb p hp
theorem Agrees.at {l : List Oper} {a a' : Act} (h : Agrees l a a') (d : Nat) (hd : (l.all fun o => decide (o.dst ≠ some d)) = true) : a'.tmps.getD d undef = a.tmps.getD d undef :=
  h.2.2 d fun o ho => of_decide_eq_true ((List.all_eq_true.1 hd) o ho)
end Go.Proofs.Ytaledidomgelcaa
/- The table's iterator: routes in the order of their nets. (Written by gen_all.py.) -/
namespace Go.Proofs.Ytaledidomgelcaa
open Go.RowKit Go.Sort Go.Shelf
attribute [local go_sem] Oper.semAt_some

set_option maxRecDepth 100000 in
theorem keys_make (b : Nat) (w : World) : Calls Try.prog 93 #[.map (some b)] w fun e w' => e = .returned (.func (.func 109) #[] #[.pointer (some ⟨w.heap.size, 0, none⟩)]) ∧ w.alloc (.cells #[.map (some b)] 79) = w' := by
  go_enter Try.func93, Try.ntmps93
  go_wp2
  go_ret
  exact ⟨rfl, rfl⟩
set_option maxRecDepth 100000 in
theorem all_make (B : Nat) (w : World) : Calls Try.prog 59 #[tabV B] w fun e w' => e = .returned (.func (.func 91) #[] #[.pointer (some ⟨w.heap.size, 0, none⟩)]) ∧ w.alloc (.cells #[.map (some B), .func (.func 82) #[] #[]] 82) = w' := by
  unfold tabV
  go_enter Try.func59, Try.ntmps59
  go_wp2
  go_ret
  exact ⟨rfl, rfl⟩
theorem HoldsN.form {w : World} {B : Nat} {v : Value} {xs : List NP} (h : HoldsN w B v xs) : ∃ p cap, v = .slice p xs.length cap := by
  rcases h with ⟨rfl, rfl⟩ | ⟨g, cap, rfl, _, _⟩
  · exact ⟨none, 0, rfl⟩
  · exact ⟨_, cap, rfl⟩
theorem HoldsN.below {w w' : World} {B : Nat} {v : Value} {xs : List NP} (h : HoldsN w B v xs) (hb : Below w.heap.size w w') : HoldsN w' B v xs := by
  rcases h with ⟨rfl, rfl⟩ | ⟨g, cap, rfl, hN, hg⟩
  · exact .inl ⟨rfl, rfl⟩
  · exact .inr ⟨g, cap, rfl, hN.below hb hN.lt, hg⟩
theorem stab_seq (b : Nat) : ∀ (x : Value) (w1 w2 : World), (∃ Bm, x = .func (.func 109) #[] #[.pointer (some ⟨Bm, 0, none⟩)] ∧ Row w1 Bm 79 [.map (some b)]) → Below w1.heap.size w1 w2 → ∃ Bm, x = .func (.func 109) #[] #[.pointer (some ⟨Bm, 0, none⟩)] ∧ Row w2 Bm 79 [.map (some b)] := by
  rintro x w1 w2 ⟨B, e, h⟩ hb
  exact ⟨B, e, h.below hb h.lt⟩
theorem stab_nets (n : Nat) (xs : List NP) : ∀ (x : Value) (w1 w2 : World), (∃ B0, n ≤ B0 ∧ HoldsN w1 B0 x xs) → Below w1.heap.size w1 w2 → ∃ B0, n ≤ B0 ∧ HoldsN w2 B0 x xs := by
  rintro x w1 w2 ⟨B, e, h⟩ hb
  exact ⟨B, e, h.below hb⟩
theorem HoldsN.at {w : World} {B : Nat} {p : Option Addr} {n cap : Nat} {xs : List NP} (h : HoldsN w B (.slice p n cap) xs) (hx : 0 < xs.length) : ∃ g, p = some ⟨g, 0, none⟩ ∧ NetsAt w g xs ∧ B ≤ g := by
  rcases h with ⟨rfl, _⟩ | ⟨g, cap', e, hN, hBg⟩
  · simp at hx
  · simp only [Value.slice.injEq] at e
    exact ⟨g, e.1, hN, hBg⟩
theorem lookN_at {rs : List Rt} (h : rs.Pairwise ltP) (k : Nat) (hk : k < rs.length) : lookN rs rs[k].a rs[k].l = some rs[k] := by
  unfold lookN
  rw [List.find?_eq_some_iff_getElem]
  refine ⟨by simp [isN], k, hk, rfl, fun j hj => ?_⟩
  have := ltP_ne ((List.pairwise_iff_getElem.1 h) j k (by omega) hk hj)
  simp [this]
theorem lookN_perm {ms rs : List Rt} (hp : ms.Perm rs) (h : rs.Pairwise ltP) (k : Nat) (hk : k < rs.length) : lookN ms rs[k].a rs[k].l = some rs[k] := by
  have hmem : rs[k] ∈ ms := hp.mem_iff.2 (List.getElem_mem hk)
  have hsome : (lookN ms rs[k].a rs[k].l).isSome = true := by
    unfold lookN
    rw [List.find?_isSome]
    exact ⟨rs[k], hmem, by simp [isN]⟩
  obtain ⟨r, hr⟩ := Option.isSome_iff_exists.1 hsome
  rw [hr]
  unfold lookN at hr
  have h1 := List.find?_some hr
  have h2 : r ∈ rs := hp.mem_iff.1 (List.mem_of_find?_eq_some hr)
  obtain ⟨j, hj, rfl⟩ := List.mem_iff_getElem.1 h2
  have hjk : j = k := by
    rcases Nat.lt_trichotomy j k with h' | h' | h'
    · have := ltP_ne ((List.pairwise_iff_getElem.1 h) j k hj hk h')
      rw [this] at h1; cases h1
    · exact h'
    · have h3 := (List.pairwise_iff_getElem.1 h) k j hk hj h'
      obtain ⟨e1, e2⟩ := isN_eq h1
      unfold ltP at h3
      omega
  subst hjk
  rfl
theorem map_look1 {w : World} {b : Nat} {rs : List Rt} (h : MapIs w b rs) (a l : Int) :
    (Instr.lookup 79 (.map (some b)) (netV a l) false).run Try.prog w = .ok (rtV ((lookN rs a l).getD zeroR)) w := by
  obtain ⟨es, clock, hb, hh, _, _⟩ := h
  unfold Instr.lookup
  simp only [Sem.run_bind, run_underlying mapUnd, Result.andThen_ok, MapKept.run_getObj_map hb, pure_bind, checkNet, findKey_run a l w es.toList rs hh]
  cases hi : idxN rs a l with
  | none =>
    rw [idx_none hi]
    simp
    rfl
  | some k =>
    obtain ⟨hk, hl, _⟩ := idx_get hi
    rw [hl]
    simp
/-- What a round of a loop over the table keeps: its nets, its tables, its maps. -/
structure KpN (W W' : World) : Prop where
  size : W.heap.size ≤ W'.heap.size
  rows : ∀ (k : Nat) (cur : Array Value) (t : TypeId), W.heap[k]? = some (Obj.cells cur t (0, 0)) → t = 35 ∨ t = 82 → W'.heap[k]? = W.heap[k]?
  walks : KeepsWalks W W'
set_option maxRecDepth 100000 in
set_option maxHeartbeats 2000000 in
theorem all1_in (n : Nat) (hn : 1 ≤ n) (l Bt b : Nat) (ms rs : List Rt) (hp : ms.Perm rs) (hr : ribB rs = true) (J Jx : List Rt → World → Prop)
    (hY : ∀ pre x W, J pre W → pre.length < rs.length → YieldAt Fence.wide (n - 1) Try.prog l #[rtV x] W fun e W' =>
      (e = .returned (.bool true) ∧ J (pre ++ [x]) W' ∧ KpN W W') ∨ (e = .returned (.bool false) ∧ Jx (pre ++ [x]) W'))
    (W0 : World) (hJ : AbidesFrom W0.heap.size J) (hT : Row W0 Bt 82 [.map (some b), .func (.func 82) #[] #[]]) (hM : MapIs W0 b ms) (h0 : J [] W0) :
    CallsIn Fence.wide n Try.prog 91 #[.func (.yield l) #[] #[], .pointer (some ⟨Bt, 0, none⟩)] W0 fun e W' => (∃ v, e = .returned v) ∧
      ((∃ xs : List Rt, xs = rs ∧ J xs W') ∨ (∃ pre : List Rt, pre <+: rs ∧ Jx pre W')) := by
  have h8 := (ribB_spec hr).1
  have HS : Hid (∀ Bm w, w.cell? ⟨Bm, 0, none⟩ = some (.map (some b)) → MapIs w b ms → Calls Try.prog 92 #[.func (.func 109) #[] #[.pointer (some ⟨Bm, 0, none⟩)], .func (.func 82) #[] #[]] w fun e w' => ∃ v, e = .returned v ∧ HoldsN w' w.heap.size v (rs.map netOfR) ∧ Below w.heap.size w w') := fun Bm w h1 h2 =>
    (sortedN Bm b ms w (by rw [hp.length_eq]; omega) h1 h2).mono fun e w' h => by
      obtain ⟨v, xs, e, hq, hR, hH, hb⟩ := h
      rw [risen_nets hr (hq.trans (hp.map _)) hR] at hH
      exact ⟨v, e, hH, hb⟩
  refine callsIn_of_wp Try.func91 rfl trivial ?_ rfl
  simp only [Try.ntmps91, List.size_toArray, List.length_cons, List.length_nil, Nat.reduceAdd, Nat.reduceSub, Array.replicate_succ, Array.replicate_zero, List.push_toArray, List.append_toArray, List.nil_append, List.cons_append]
  refine wpIn_seq ?_
  refine wpIn_wide.2 ?_
  have hGN : (([(5, Is (.pointer (some ⟨Bt, 0, none⟩))), (6, Is (.map (some b))), (7, fun v W => ∃ Bm, v = .func (.func 109) #[] #[.pointer (some ⟨Bm, 0, none⟩)] ∧ Row W Bm 79 [.map (some b)]), (8, Is (.pointer (some ⟨Bt, 1, none⟩))), (9, Is (.func (.func 82) #[] #[])), (10, fun v W => ∃ B0, W0.heap.size ≤ B0 ∧ HoldsN W B0 v (rs.map netOfR)), (11, Is (.int .i64 (rs.length : Int))), (12, Is (.int .i64 0))] : List (Nat × (Value → World → Prop))).map (·.1)).Nodup := by simp
  refine wp_region_steady 8 (SlotG [(5, Is (.pointer (some ⟨Bt, 0, none⟩))), (6, Is (.map (some b))), (7, fun v W => ∃ Bm, v = .func (.func 109) #[] #[.pointer (some ⟨Bm, 0, none⟩)] ∧ Row W Bm 79 [.map (some b)]), (8, Is (.pointer (some ⟨Bt, 1, none⟩))), (9, Is (.func (.func 82) #[] #[])), (10, fun v W => ∃ B0, W0.heap.size ≤ B0 ∧ HoldsN W B0 v (rs.map netOfR)), (11, Is (.int .i64 (rs.length : Int))), (12, Is (.int .i64 0))]) (by kernel_rfl) (by kernel_rfl) (Stabs.all ⟨stab_is _, stab_is _, stab_seq b, stab_is _, stab_is _, stab_nets _ _, stab_is _, stab_is _, trivial⟩) ?_ ?_
  · intro o ho
    simp only [List.take_succ_cons, List.take_zero, List.mem_cons, List.not_mem_nil, or_false] at ho
    rcases ho with rfl | rfl | rfl | rfl | rfl | rfl | rfl | rfl
    · intro a' w' hb ha hdep
      have d1 : a'.tmps.getD 1 undef = .pointer (some ⟨Bt, 0, none⟩) := ha.at 1 (by kernel_rfl)
      have hmk := fun (x : Value) (W : World) => SlotG.mk (x := x) (w := W) 0 rfl hGN
      clear hGN ha hdep
      go_simp
      exact ⟨_, rfl, Below.refl _ _, hmk _ _ rfl⟩
    · intro a' w' hb ha hdep
      have d5 : a'.tmps.getD 5 undef = .pointer (some ⟨Bt, 0, none⟩) := (hdep 5 (of_decide_eq_true (by kernel_rfl))).is 0 rfl
      have hmk := fun (x : Value) (W : World) => SlotG.mk (x := x) (w := W) 1 rfl hGN
      clear hGN ha hdep
      have y0 : w'.cell? ⟨Bt, 0, none⟩ = some (.map (some b)) := (hT.below hb hT.lt).cell 0
      go_simp
      exact ⟨_, rfl, Below.refl _ _, hmk _ _ rfl⟩
    · intro a' w' hb ha hdep
      have d6 : a'.tmps.getD 6 undef = .map (some b) := (hdep 6 (of_decide_eq_true (by kernel_rfl))).is 1 rfl
      have hmk := fun (x : Value) (W : World) => SlotG.mk (x := x) (w := W) 2 rfl hGN
      clear hGN ha hdep
      go_simp
      refine (keys_make b _).mono ?_
      rintro e w2 ⟨rfl, rfl⟩
      exact ⟨_, rfl, ent_new0 _ _, hmk _ _ ⟨_, rfl, Row.new w' _ [.map (some b)]⟩⟩
    · intro a' w' hb ha hdep
      have d1 : a'.tmps.getD 1 undef = .pointer (some ⟨Bt, 0, none⟩) := ha.at 1 (by kernel_rfl)
      have hmk := fun (x : Value) (W : World) => SlotG.mk (x := x) (w := W) 3 rfl hGN
      clear hGN ha hdep
      go_simp
      exact ⟨_, rfl, Below.refl _ _, hmk _ _ rfl⟩
    · intro a' w' hb ha hdep
      have d8 : a'.tmps.getD 8 undef = .pointer (some ⟨Bt, 1, none⟩) := (hdep 8 (of_decide_eq_true (by kernel_rfl))).is 3 rfl
      have hmk := fun (x : Value) (W : World) => SlotG.mk (x := x) (w := W) 4 rfl hGN
      clear hGN ha hdep
      have y1 : w'.cell? ⟨Bt, 1, none⟩ = some (.func (.func 82) #[] #[]) := (hT.below hb hT.lt).cell 1
      go_simp
      exact ⟨_, rfl, Below.refl _ _, hmk _ _ rfl⟩
    · intro a' w' hb ha hdep
      have D7 := (hdep 7 (of_decide_eq_true (by kernel_rfl))).get 2 rfl
      have d9 : a'.tmps.getD 9 undef = .func (.func 82) #[] #[] := (hdep 9 (of_decide_eq_true (by kernel_rfl))).is 4 rfl
      have hmk := fun (x : Value) (W : World) => SlotG.mk (x := x) (w := W) 5 rfl hGN
      clear hGN ha hdep
      obtain ⟨Bm, d7, hRm⟩ := D7
      have hsz := hb.size
      go_simp
      refine (HS.out Bm _ (hRm.cell 0) (hM.below hb hM.lt)).mono ?_
      rintro e w2 ⟨v, rfl, hv, hb2⟩
      exact ⟨_, rfl, hb2, hmk _ _ ⟨_, hsz, hv⟩⟩
    · intro a' w' hb ha hdep
      have D10 := (hdep 10 (of_decide_eq_true (by kernel_rfl))).get 5 rfl
      have hmk := fun (x : Value) (W : World) => SlotG.mk (x := x) (w := W) 6 rfl hGN
      clear hGN ha hdep
      obtain ⟨B0, hB0, hv⟩ := D10
      obtain ⟨p, cap, d10⟩ := hv.form
      rw [List.length_map] at d10
      go_simp
      exact ⟨_, rfl, Below.refl _ _, hmk _ _ rfl⟩
    · intro a' w' hb ha hdep
      have hmk := fun (x : Value) (W : World) => SlotG.mk (x := x) (w := W) 7 rfl hGN
      clear hGN ha hdep
      go_simp
      exact ⟨_, rfl, Below.refl _ _, hmk _ _ rfl⟩
  · intro a' w' hb ha hG
    clear hGN
    have D10 := (hG _ (List.mem_of_getElem? (i := 5) rfl) 10 rfl).get 5 rfl
    have d11 : a'.tmps.getD 11 undef = .int .i64 (rs.length : Int) := (hG _ (List.mem_of_getElem? (i := 6) rfl) 11 rfl).is 6 rfl
    have d12 : a'.tmps.getD 12 undef = .int .i64 0 := (hG _ (List.mem_of_getElem? (i := 7) rfl) 12 rfl).is 7 rfl
    have d0 : a'.tmps.getD 0 undef = .func (.yield l) #[] #[] := ha.at 0 (by kernel_rfl)
    have d1 : a'.tmps.getD 1 undef = .pointer (some ⟨Bt, 0, none⟩) := ha.at 1 (by kernel_rfl)
    have e2 : a' = ⟨#[a'.tmps.getD 0 undef, a'.tmps.getD 1 undef, a'.tmps.getD 2 undef, a'.tmps.getD 3 undef, a'.tmps.getD 4 undef, a'.tmps.getD 5 undef, a'.tmps.getD 6 undef, a'.tmps.getD 7 undef, a'.tmps.getD 8 undef, a'.tmps.getD 9 undef, a'.tmps.getD 10 undef, a'.tmps.getD 11 undef, a'.tmps.getD 12 undef, a'.tmps.getD 13 undef, a'.tmps.getD 14 undef, a'.tmps.getD 15 undef, a'.tmps.getD 16 undef, a'.tmps.getD 17 undef, a'.tmps.getD 18 undef, a'.tmps.getD 19 undef, a'.tmps.getD 20 undef, a'.tmps.getD 21 undef, a'.tmps.getD 22 undef, a'.tmps.getD 23 undef], []⟩ := by rw [← (show a'.defers = [] from ha.2.1)]; exact act_eq a' 24 ha.1
    rw [d11, d12, d0, d1] at e2
    clear hG ha d11 d12 d0 d1
    generalize a'.tmps.getD 2 undef = x2 at *
    generalize a'.tmps.getD 3 undef = x3 at *
    generalize a'.tmps.getD 4 undef = x4 at *
    generalize a'.tmps.getD 5 undef = x5 at *
    generalize a'.tmps.getD 6 undef = x6 at *
    generalize a'.tmps.getD 7 undef = x7 at *
    generalize a'.tmps.getD 8 undef = x8 at *
    generalize a'.tmps.getD 9 undef = x9 at *
    generalize a'.tmps.getD 10 undef = x10 at *
    generalize a'.tmps.getD 13 undef = x13 at *
    generalize a'.tmps.getD 14 undef = x14 at *
    generalize a'.tmps.getD 15 undef = x15 at *
    generalize a'.tmps.getD 16 undef = x16 at *
    generalize a'.tmps.getD 17 undef = x17 at *
    generalize a'.tmps.getD 18 undef = x18 at *
    generalize a'.tmps.getD 19 undef = x19 at *
    generalize a'.tmps.getD 20 undef = x20 at *
    generalize a'.tmps.getD 21 undef = x21 at *
    generalize a'.tmps.getD 22 undef = x22 at *
    generalize a'.tmps.getD 23 undef = x23 at *
    subst e2
    simp only [List.drop_succ_cons, List.drop_zero]
    refine wpList_nil ?_
    obtain ⟨B0, hB0, hH⟩ := D10
    have hJ1 : J [] w' := hJ [] W0 w' none h0 ⟨hb.os, hb.tape, hb.output, hb.size, fun k hk _ => hb.block k hk⟩ (fun r e => by cases e)
    have hT1 := hT.below hb hT.lt
    have hM1 := hM.below hb hM.lt
    have hsz := hb.size
    clear hb HS h0 hT hM
    generalize x10 = v at *
    obtain ⟨p, cap, rfl⟩ := hH.form
    rw [List.length_map] at hH ⊢
    gi_wp2
    gi_loopw [12] (fun i wr => ∃ k : Nat, k ≤ rs.length ∧ i = .int .i64 k ∧ J (rs.take k) wr ∧ W0.heap.size ≤ wr.heap.size ∧ Row wr Bt 82 [.map (some b), .func (.func 82) #[] #[]] ∧ MapIs wr b ms ∧ HoldsN wr B0 (.slice p rs.length cap) (rs.map netOfR)) (fun i _ => rs.length - (intOf i).toNat)
    case atStart => exact ⟨0, Nat.zero_le _, rfl, hJ1, hsz, hT1, hM1, hH⟩
    case round =>
      clear hJ1 hT1 hM1 hH hsz
      obtain ⟨k, hk, rfl, hJk, hsz, hTk, hMk, hHk⟩ := hrel
      by_cases hlt : k < rs.length
      · have d1 : decide ((k : Int) < (rs.length : Int)) = true := by simpa using hlt
        obtain ⟨g, rfl, hNk, hBg⟩ := hHk.at (by rw [List.length_map]; omega)
        obtain ⟨c0, c1, -, -⟩ := hNk.cell k (by rw [List.length_map]; exact hlt)
        rw [List.getElem_map] at c0 c1
        have hlk := lookN_perm hp (rib_rising hr) k hlt
        have hJa : J (rs.take k) (wr.alloc (.cells #[.int .i64 rs[k].a, .int .i64 rs[k].l] 35)) := hJ _ wr _ none hJk (World.grownBy_alloc wr _ none) (fun r e => by cases e)
        have hTa := hTk.alloc (.cells #[.int .i64 rs[k].a, .int .i64 rs[k].l] 35)
        have hMa := hMk.below (ent_new0 wr (.cells #[.int .i64 rs[k].a, .int .i64 rs[k].l] 35)) hMk.lt
        have hNa := hNk.below (ent_new0 wr (.cells #[.int .i64 rs[k].a, .int .i64 rs[k].l] 35)) hNk.lt
        have hrun := map_look1 hMa rs[k].a rs[k].l
        rw [hlk, Option.getD_some] at hrun
        obtain ⟨fn, tmps, assign, body, hy, hR⟩ := hY (rs.take k) rs[k] _ hJa (by rw [List.length_take]; omega)
        have t0 : (wr.alloc (.cells #[.int .i64 rs[k].a, .int .i64 rs[k].l] 35)).cell? ⟨Bt, 0, none⟩ = some (.map (some b)) := hTa.cell 0
        have HX : Hid (rs.take k ++ [rs[k]] = rs.take (k + 1)) := (List.take_succ_eq_append_getElem hlt).symm
        have HA : Hid _ := And.intro hTa (And.intro hMa hNa)
        have hbt : Bt < wr.heap.size := hTk.lt
        clear hJk hTk hMk hNk hHk hJa hTa hMa hNa hlk
        rw [HX.out] at hR
        generalize rs[k] = q at *
        obtain ⟨A, L, M, O, I, T, U, E, C⟩ := q
        unfold netV rtV rtA at hrun
        unfold rtV rtA at hy
        simp only [netOfR] at hrun hy c0 c1 t0
        gi_wp2
        refine hR.mono ?_
        rintro e W3 (⟨rfl, hJ3, hk3⟩ | ⟨rfl, hJx3⟩)
        · obtain ⟨hTa, hMa, hNa⟩ := HA.out
          have hT3 : Row W3 Bt 82 [.map (some b), .func (.func 82) #[] #[]] := (hk3.rows Bt _ _ hTa (.inr rfl)).trans hTa
          have hN3 : NetsAt W3 g (rs.map netOfR) := by
            obtain ⟨cur, hc, e⟩ := hNa
            exact ⟨cur, (hk3.rows g _ _ hc (.inl rfl)).trans hc, e⟩
          have hM3 : MapIs W3 b ms := by
            obtain ⟨es, cl, hb', h'⟩ := hMa
            exact ⟨es, cl, hk3.walks.same b _ hb' rfl, h'⟩
          have hs3 : W0.heap.size ≤ W3.heap.size := by have := hk3.size; simp at this; omega
          have HZ : Hid _ := And.intro hJ3 (And.intro hs3 (And.intro hT3 (And.intro hM3 hN3)))
          clear hJ3 hk3 hT3 hN3 hM3 hs3 HA hrun hy hTa hMa hNa c0 c1 t0 hsz hR
          gi_wp2
          go_roundw
          case rel => exact ⟨k + 1, hlt, by go_num, HZ.out.1, HZ.out.2.1, HZ.out.2.2.1, HZ.out.2.2.2.1, .inr ⟨g, cap, by rw [List.length_map], HZ.out.2.2.2.2, hBg⟩⟩
          case measure => simp [intOf]; omega
        · clear HA hrun hy c0 c1 t0 hR
          gi_wp2
          refine bodyPost_ret (results_none rfl _ _ _) rfl ?_
          exact ⟨⟨_, rfl⟩, .inr ⟨rs.take (k + 1), List.take_prefix _ _, hJx3⟩⟩
      · obtain rfl : k = rs.length := by omega
        have d1 : decide ((rs.length : Int) < (rs.length : Int)) = false := by simp
        rw [List.take_length] at hJk
        clear hlt hk
        gi_wp2
        go_end0
        exact ⟨⟨_, rfl⟩, .inl ⟨rs, rfl, hJk⟩⟩
theorem all_stops (n : Nat) (hn : 1 ≤ n) (Bt b : Nat) (ms rs : List Rt) (hp : ms.Perm rs) (hr : ribB rs = true) (w : World) (hT : Row w Bt 82 [.map (some b), .func (.func 82) #[] #[]]) (hM : MapIs w b ms) :
    SeqStopsK Fence.wide n Try.prog 91 #[.pointer (some ⟨Bt, 0, none⟩)] (fun x : Rt => #[rtV x]) KpN (fun xs => xs = rs) (fun pre => pre <+: rs) rs.length w := fun l J Jx W hW hJ _ hY h0 =>
  all1_in n hn l Bt b ms rs hp hr J Jx hY W hJ (hT.below hW hT.lt) (hM.below hW hM.lt) h0
theorem KpN.t {A B C : World} (h : KpN A B) (k : KpN B C) : KpN A C :=
  ⟨Nat.le_trans h.size k.size, fun i cur t hi ht => (k.rows i cur t ((h.rows i cur t hi ht).trans hi) ht).trans (h.rows i cur t hi ht), h.walks.trans k.walks⟩
theorem KpN.b {w : World} (W : World) (l : Nat) (o o' : Obj) (_ : w.heap.size ≤ l) (h : W.heap[l]? = some o) (hc : o.isCells = false) (hw : o.isWalk = false) : KpN W (W.putObj l o') :=
  KpN.mk (by simp) (fun i cur t hi _ => World.putObj_heap_other (fun e => by
    subst e
    rw [h] at hi
    cases hi
    cases hc)) (KeepsWalks.putObj _ h hw)
end Go.Proofs.Ytaledidomgelcaa
/- slices.AppendSeq and Collect at routes, over the table's iterator. (Written by gen_appr.py.) -/
namespace Go.Proofs.Ytaledidomgelcaa
open Go.RowKit Go.Sort Go.Shelf
attribute [local go_sem] Oper.semAt_some

theorem cell_nine_new (W : World) (xs : List Value) (t : TypeId) : ∀ j u, xs[j]? = some u → (W.alloc (.cells xs.toArray t)).cell? ((⟨W.heap.size, 0, none⟩ : Addr).add j) = some u := by
  intro j u hj
  have := (Row.new W t xs).cell j
  rw [hj] at this
  have e : (⟨W.heap.size, 0, none⟩ : Addr).add j = ⟨W.heap.size, j, none⟩ := by
    unfold Addr.add
    by_cases h : j = 0
    · subst h; rfl
    · rw [if_neg h]; simp
  rw [e]
  exact this
theorem Try.infoRoute : (Try.prog.info? 46).map (fun i => (i.zero, i.size, i.bytes)) = some (some (.agg #[.int .i64 0, .int .i64 0, .int .i64 0, .int .i64 0, .int .i64 0, .int .i64 0, .int .i64 0, .int .i64 0, .bool false]), 9, 72) := by kernel_rfl
theorem KpN.alloc (W : World) (o : Obj) : KpN W (W.alloc o) := KpN.mk (by simp) (fun i _ _ hi _ => Below.heap_alloc W o i (Array.getElem?_eq_some_iff.1 hi).1) (KeepsWalks.alloc W o)
theorem kpn_appended {W w1 : World} {n₀ B : Nat} {v v' : Value} {k : Nat} {xs : List Value} {tmp : Obj} (hv : Boxed W B 28 v) (hrow : W.ownsRow n₀ 46 9 v k xs) (hgrow : (W.alloc tmp).grownBy w1 v.ownBlock) (hk : KeepsOthers W (w1.setCell ⟨B, 0, none⟩ v')) : KpN W (w1.setCell ⟨B, 0, none⟩ v') := by
  refine KpN.mk hk.size (fun i cur t hi ht => ?_) hk.walks
  have hlt : i < W.heap.size := (Array.getElem?_eq_some_iff.1 hi).1
  have hne : i ≠ B := by
    intro e
    subst e
    have h' : W.heap[i]? = some (.cells #[v] 28 (0, 0)) := hv
    rw [h'] at hi
    simp only [Option.some.injEq, Obj.cells.injEq] at hi
    obtain ⟨_, ht', _⟩ := hi
    rcases ht with rfl | rfl <;> cases ht'
  have hnr : some i ≠ v.ownBlock := by
    intro e
    rcases hrow.2 with ⟨rfl, _⟩ | ⟨g, cap, cur', rfl, _, hg, _⟩
    · simp [Value.ownBlock] at e
    · obtain rfl : i = g := by simpa [Value.ownBlock] using e
      rw [hg] at hi
      simp only [Option.some.injEq, Obj.cells.injEq] at hi
      obtain ⟨_, ht', _⟩ := hi
      rcases ht with rfl | rfl <;> cases ht'
  rw [Below.heap_setCell w1 ⟨B, 0, none⟩ v' i (fun e => hne e), hgrow.block i (by simp; omega) hnr, Below.heap_alloc W tmp i hlt]
set_option maxRecDepth 100000 in
set_option maxHeartbeats 2000000 in
theorem appendSeqR (Bm b : Nat) (ms rs : List Rt) (hp : ms.Perm rs) (w : World) (hr : ribB rs = true) (hm : Row w Bm 82 [.map (some b), .func (.func 82) #[] #[]]) (hM : MapIs w b ms) :
    Calls Try.prog 106 #[.slice none 0 0, .func (.func 91) #[] #[.pointer (some ⟨Bm, 0, none⟩)]] w fun e w' => ∃ v, e = .returned v ∧ w'.ownsRow w.heap.size 46 9 v rs.length (rowR rs) ∧ Below w.heap.size w w' := by
  refine (callsIn_wide (n := 9)).1 ?_
  refine callsIn_of_wp_marks Try.func106 rfl trivial ?_ rfl
  simp only [Try.ntmps106, List.size_toArray, List.length_cons, List.length_nil, Nat.reduceAdd, Nat.reduceSub, Array.replicate_succ, Array.replicate_zero, List.push_toArray, List.append_toArray, List.nil_append, List.cons_append]
  gi_wp2
  have bS := Boxed.new w 28 (.slice none 0 0)
  have hB0 : Below w.heap.size w (w.alloc (.cells #[.slice none 0 0] 28)) := ent_new0 w _
  have hm0 := hm.alloc (.cells #[.slice none 0 0] 28)
  have h8 := (ribB_spec hr).1
  have hM0 := hM.below hB0 hM.lt
  have hs0 : (w.alloc (.cells #[.slice none 0 0] 28)).heap.size = w.heap.size + 1 := by simp
  obtain ⟨Z, hZ⟩ : ∃ Z, (w.alloc (.cells #[.slice none 0 0] 28)) = Z := ⟨_, rfl⟩
  rw [hZ] at bS hB0 hm0 hM0 hs0 ⊢
  clear hZ hm hM
  refine wpIn_rangeFunc_ownH rfl (by omega) (gf := 91) (lb := #[.pointer (some ⟨Bm, 0, none⟩)]) rfl trivial (enters_of Try.func91 (by kernel_rfl) rfl)
    (all_stops (9 - 1) (by omega) Bm b ms rs hp hr Z hm0 hM0) KpN.t KpN.b (Below.refl _ _) (fun _ => rfl)
    (fun pre W => (∃ v, Boxed W w.heap.size 28 v ∧ W.ownsRow w.heap.size 46 9 v pre.length (rowR pre) ∧ True) ∧ Below w.heap.size w W)
    (fun _ _ _ => False)
    (OwnFrom.and (Own.from (holdsRow_own w.heap.size w.heap.size 28 46 9 (fun pre : List Rt => pre.length) rowR (fun _ _ => True)) _) (ownFrom_below (Nat.le_refl _) (by omega)))
    (fun _ _ _ _ _ hs _ _ => hs)
    ⟨⟨_, bS, World.ownsRow_nil Z _ _ 9, trivial⟩, hB0⟩
    (fun x a' W => ∃ Bx, w.heap.size < Bx ∧ Row W Bx 46 (rtL x) ∧ a' = { tmps := #[.slice none 0 0, .func (.func 91) #[] #[.pointer (some ⟨Bm, 0, none⟩)], .pointer (some ⟨w.heap.size, 0, none⟩), undef, .slice none 0 0, .pointer (some ⟨Bx, 0, none⟩), .func (.func 91) #[] #[.pointer (some ⟨Bm, 0, none⟩)], rtV x, undef, undef, undef, undef, undef], defers := [] })
    (fun x a' _ X Y row hs hg hr => by
      obtain ⟨Bx, h1, h2, h3⟩ := hs
      refine ⟨Bx, h1, (hg.block Bx h2.lt (fun e => ?_)).trans h2, h3⟩
      obtain ⟨_, o, ho, hc⟩ := hr Bx e.symm
      rw [show X.heap[Bx]? = _ from h2] at ho
      cases ho
      cases hc)
    ?assign ?body ?done ?stop
  case assign =>
    rintro l pre x W K ⟨⟨v, bv, hv, -⟩, hB1⟩ hK
    obtain ⟨A, L, M, O, I, T, U, E, C⟩ := x
    unfold rtV rtA at hK ⊢
    simp only at hK ⊢
    gi_wp2
    exact hK _ _ ((KeepsOthers.alloc _ _).from _) (KpN.alloc _ _) ⟨⟨v, bv.alloc _, hv.alloc _, trivial⟩, hB1.alloc hB1.size _⟩ ⟨W.heap.size, bv.lt, Row.new W 46 [.int .i64 A, .int .i64 L, .int .i64 M, .int .i64 O, .int .i64 I, .int .i64 T, .int .i64 U, .int .i64 E, .bool C], rfl⟩
  case body =>
    rintro l pre x a' W hl ⟨r, hr⟩ ⟨⟨v, bv, hv, -⟩, hB1⟩ ⟨Bx, hBx, hRx, rfl⟩ hlt
    obtain ⟨A, L, M, O, I, T, U, E, C⟩ := x
    unfold rtV rtA
    simp only [rtL] at hRx ⊢
    have c0 := bv.cell
    have x0 : W.cell? ⟨Bx, 0, none⟩ = some (.int .i64 A) := hRx.cell 0
    have x1 : W.cell? ⟨Bx, 1, none⟩ = some (.int .i64 L) := hRx.cell 1
    have x2 : W.cell? ⟨Bx, 2, none⟩ = some (.int .i64 M) := hRx.cell 2
    have x3 : W.cell? ⟨Bx, 3, none⟩ = some (.int .i64 O) := hRx.cell 3
    have x4 : W.cell? ⟨Bx, 4, none⟩ = some (.int .i64 I) := hRx.cell 4
    have x5 : W.cell? ⟨Bx, 5, none⟩ = some (.int .i64 T) := hRx.cell 5
    have x6 : W.cell? ⟨Bx, 6, none⟩ = some (.int .i64 U) := hRx.cell 6
    have x7 : W.cell? ⟨Bx, 7, none⟩ = some (.int .i64 E) := hRx.cell 7
    have x8 : W.cell? ⟨Bx, 8, none⟩ = some (.bool C) := hRx.cell 8
    obtain ⟨i0, hi0, hz0, hz1, hz2⟩ := info_parts Try.infoRoute
    gi_wp2_with (gi_at_builtin; refine wpListIn_append_own _ rfl _ _ 28 rfl w.heap.size 46 i0 (.agg #[.int .i64 0, .int .i64 0, .int .i64 0, .int .i64 0, .int .i64 0, .int .i64 0, .int .i64 0, .int .i64 0, .bool false]) 9 72 Try.underlying28 hi0 hz0 hz1 hz2 rfl (by decide) _ _ _ rfl (hv.alloc _) ⟨W.heap.size, 0, none⟩ 1 1 [.int .i64 A, .int .i64 L, .int .i64 M, .int .i64 O, .int .i64 I, .int .i64 T, .int .i64 U, .int .i64 E, .bool C] rfl rfl (cell_nine_new W _ _) (by simp [Value.oneCell']) (by unfold maxLen; omega) (by omega) (by have := hB1.size; simp; omega) ?_; intro v' w1 hown' hgrow _; obtain ⟨g', cap', rfl⟩ := ownsRow_succ hown'; obtain ⟨hv1, hv2, hr2, hk2, hb2⟩ := bv.appended (by decide) hv hB1.size (Nat.le_refl _) hown' hgrow; have hc1 := hv1.cell; have hf1 := hv1.frozen)
    refine ⟨hk2.from _, kpn_appended bv hv hgrow hk2, ⟨_, hv2, ?_, trivial⟩, hB1.trans hb2⟩
    rw [List.length_append, rowR_append]
    exact hr2
  case done =>
    rintro D xs W hD rfl ⟨⟨v, bv, hv, -⟩, hB1⟩ hK
    have c0 := bv.cell
    gi_wp2
    refine ⟨by simp, .inl ⟨_, _, rfl, run_takeDeferred hK, ?_⟩⟩
    refine ⟨_, results_tmp rfl _ _ _, v, rfl, ownsRow_putObj hv _ hK rfl, ?_⟩
    exact hB1.trans (belowK_b (w := w) (Nat.le_refl _) W D _ _ (by omega) hK rfl rfl)
  case stop =>
    rintro D c pre W _ _ h _
    exact h.elim
set_option maxRecDepth 100000 in
theorem collectR (Bm b : Nat) (ms rs : List Rt) (hp : ms.Perm rs) (w : World) (hr : ribB rs = true) (hm : Row w Bm 82 [.map (some b), .func (.func 82) #[] #[]]) (hM : MapIs w b ms) :
    Calls Try.prog 89 #[.func (.func 91) #[] #[.pointer (some ⟨Bm, 0, none⟩)]] w fun e w' => ∃ v, e = .returned v ∧ w'.ownsRow w.heap.size 46 9 v rs.length (rowR rs) ∧ Below w.heap.size w w' := by
  have HA : Hid (Calls Try.prog 106 #[.slice none 0 0, .func (.func 91) #[] #[.pointer (some ⟨Bm, 0, none⟩)]] w fun e w' => ∃ v, e = .returned v ∧ w'.ownsRow w.heap.size 46 9 v rs.length (rowR rs) ∧ Below w.heap.size w w') := appendSeqR Bm b ms rs hp w hr hm hM
  clear hm hM
  go_enter Try.func89, Try.ntmps89
  go_wp2_with fail
  refine (HA.out).mono ?_
  rintro e w1 ⟨v, rfl, h2, h3⟩
  go_wp2
  go_ret
  exact ⟨v, rfl, h2, h3⟩
theorem ownR_set {w : World} {base base' : Nat} {v : Value} {n : Nat} {xs : List Value} (h : w.ownsRow base 46 9 v n xs) (p : Addr) (hp : p.block < base) (u : Value) (hb : base' ≤ base) : (w.setCell p u).ownsRow base' 46 9 v n xs := by
  obtain ⟨h1, h2⟩ := h
  refine ⟨h1, ?_⟩
  rcases h2 with h2 | ⟨g, cap, cur, e, hbg, hg, rest⟩
  · exact .inl h2
  · refine .inr ⟨g, cap, cur, e, by omega, ?_, rest⟩
    rw [Below.heap_setCell w p u g (by omega)]
    exact hg
theorem rows2 (w : World) (x y : List Value) (t1 t2 : TypeId) : ∃ W, W = (w.alloc (.cells x.toArray t1)).alloc (.cells y.toArray t2) ∧ Row W w.heap.size t1 x ∧ Row W (w.heap.size + 1) t2 y ∧ Below w.heap.size w W ∧ W.heap.size = w.heap.size + 1 + 1 := by
  have q0 := (Row.new w t1 x).alloc (.cells y.toArray t2)
  have q1 := Row.new (w.alloc (.cells x.toArray t1)) t2 y
  rw [show (w.alloc (.cells x.toArray t1)).heap.size = w.heap.size + 1 by simp] at q1
  exact ⟨_, rfl, q0, q1, (ent_new0 w _).alloc (by simp) _, by simp⟩
set_option maxRecDepth 100000 in
set_option maxHeartbeats 1000000 in
/-- ribOf: the routes of a table in the order of their nets, in memory of its own. -/
theorem ribOf_any (B : Nat) (ms rs : List Rt) (hp : ms.Perm rs) (hr : ribB rs = true) (w : World) (hM : MapIs w B ms) :
    Calls Try.prog 56 #[tabV B] w fun e w' => ∃ p cap, e = .returned (ribV p rs.length cap) ∧ w'.ownsRow w.heap.size 46 9 (.slice p rs.length cap) rs.length (rowR rs) ∧ Below w.heap.size w w' := by
  have HA : Hid (∀ w, Calls Try.prog 59 #[.agg #[.map (some B), .func (.func 82) #[] #[]]] w fun e w' => e = .returned (.func (.func 91) #[] #[.pointer (some ⟨w.heap.size, 0, none⟩)]) ∧ w.alloc (.cells #[.map (some B), .func (.func 82) #[] #[]] 82) = w') := fun w => all_make B w
  obtain ⟨W, hW, q0, q1, hB, hS⟩ := rows2 w [.map (some B), .func (.func 82) #[] #[]] [.slice none 0 0] 82 30
  have HC : Hid (Calls Try.prog 89 #[.func (.func 91) #[] #[.pointer (some ⟨w.heap.size + 1 + 1, 0, none⟩)]] (W.alloc (.cells #[.map (some B), .func (.func 82) #[] #[]] 82)) fun e w' => ∃ v, e = .returned v ∧ w'.ownsRow (W.alloc (.cells #[.map (some B), .func (.func 82) #[] #[]] 82)).heap.size 46 9 v rs.length (rowR rs) ∧ Below (W.alloc (.cells #[.map (some B), .func (.func 82) #[] #[]] 82)).heap.size (W.alloc (.cells #[.map (some B), .func (.func 82) #[] #[]] 82)) w') := by
    rw [← hS]
    exact collectR W.heap.size B ms rs hp _ hr (Row.new W 82 [.map (some B), .func (.func 82) #[] #[]]) ((hM.below hB hM.lt).below (ent_new0 W _) (hM.below hB hM.lt).lt)
  have c0 : W.cell? ⟨w.heap.size, 0, none⟩ = some (.map (some B)) := q0.cell 0
  have c1 : W.cell? ⟨w.heap.size, 1, none⟩ = some (.func (.func 82) #[] #[]) := q0.cell 1
  have HW : Hid _ := hW
  have HQ : Hid _ := And.intro q1 (And.intro hB hS)
  clear hW q0 q1 hB hM
  unfold tabV
  go_enter Try.func56, Try.ntmps56
  go_wp2_with fail
  rw [← HW.out]
  refine (HA.out _).mono ?_
  rintro e w1 ⟨rfl, rfl⟩
  clear HA HW
  go_wp2_with fail
  refine (HC.out).mono ?_
  rintro e w2 ⟨v, rfl, hv, hb2⟩
  obtain ⟨q1, hB, hS'⟩ := HQ.out
  have hs1 : (W.alloc (.cells #[.map (some B), .func (.func 82) #[] #[]] 82)).heap.size = w.heap.size + 1 + 1 + 1 := by simp; omega
  rw [hs1] at hv hb2
  have q2 := (q1.alloc (.cells #[.map (some B), .func (.func 82) #[] #[]] 82)).below hb2 (by omega)
  have hB2 : Below w.heap.size w w2 := (hB.alloc hB.size _).trans (hb2.mono (by omega))
  obtain ⟨p, cap, rfl⟩ : ∃ p cap, v = .slice p rs.length cap := by
    rcases hv.2 with ⟨rfl, h0⟩ | ⟨g, cap, cur, rfl, _⟩
    · exact ⟨none, 0, by rw [h0]⟩
    · exact ⟨_, cap, rfl⟩
  have d0 : w2.cell? ⟨w.heap.size + 1, 0, none⟩ = some (.slice none 0 0) := q2.cell 0
  have f0 : w2.frozen? ⟨w.heap.size + 1, 0, none⟩ = false := q2.frozen 0
  have hrow := q2.set 0 (.slice p rs.length cap)
  have hbel := hB2.setCell (p := ⟨w.heap.size + 1, 0, none⟩) (by show w.heap.size ≤ w.heap.size + 1; omega) (.slice p rs.length cap)
  have hown : (w2.setCell ⟨w.heap.size + 1, 0, none⟩ (.slice p rs.length cap)).ownsRow w.heap.size 46 9 (.slice p rs.length cap) rs.length (rowR rs) := ownR_set hv _ (by show w.heap.size + 1 < w.heap.size + 1 + 1 + 1; omega) _ (by omega)
  have HZ : Hid _ := And.intro hrow (And.intro hbel hown)
  clear hrow hbel hown q1 q2 hB hB2 hv hb2 HC HQ hs1
  generalize hN : rs.length = N at *
  have HN : Hid (rs.length = N) := hN
  clear hN
  go_wp2_with fail
  have HZ2 := HZ.out
  clear HZ d0 f0 c0 c1
  generalize w2.setCell ⟨w.heap.size + 1, 0, none⟩ (.slice p N cap) = Z at *
  obtain ⟨h1, h2, h3⟩ := HZ2
  have d0 : Z.cell? ⟨w.heap.size + 1, 0, none⟩ = some (.slice p N cap) := h1.cell 0
  refine bodyPost_ret (v := .agg #[.slice p N cap]) (by simp [results, Try.results56, go_sem, d0]) rfl ⟨p, cap, by rw [HN.out]; rfl, by rw [HN.out]; exact h3, h2⟩
end Go.Proofs.Ytaledidomgelcaa
/- The laws' own look: a net is as itself. -/
namespace Go.Proofs.Ytaledidomgelcaa
open Go.RowKit Go.Sort

set_option maxRecDepth 100000 in
theorem eqNet_same (a l : Int) (w : World) : Calls Try.prog 104 #[netV a l, netV a l] w fun e w' => e = .returned (.bool true) ∧ Below w.heap.size w w' := by
  have h1 : (a != a) = false := by simp
  have h2 : (l != l) = false := by simp
  unfold netV
  go_enter Try.func104, Try.ntmps104
  go_wp2
  go_ret
  exact ⟨rfl, ((Below.refl _ _).alloc (Nat.le_refl _) _).alloc (by simp) _⟩
end Go.Proofs.Ytaledidomgelcaa
/- The laws' own look: routes, lists of them and tables are as themselves. (Written by gen_rts.py.) -/
namespace Go.Proofs.Ytaledidomgelcaa
open Go.RowKit Go.Sort

/-- Two boxes of nine cells, one behind the other: what they hold behind a later call. -/
theorem boxes9 {w w1 : World} {xs ys : List Value} {t u : TypeId} (h : Below ((w.alloc (.cells xs.toArray t)).alloc (.cells ys.toArray u)).heap.size ((w.alloc (.cells xs.toArray t)).alloc (.cells ys.toArray u)) w1) :
    (∀ k v, xs[k]? = some v → w1.cell? ⟨w.heap.size, k, none⟩ = some v) ∧ (∀ k v, ys[k]? = some v → w1.cell? ⟨w.heap.size + 1, k, none⟩ = some v) ∧ Below w.heap.size w w1 := by
  have q0 := (Row.new w t xs).alloc (.cells ys.toArray u)
  have q1 := Row.new (w.alloc (.cells xs.toArray t)) u ys
  have p0 := q0.below h q0.lt
  have p1 := q1.below h q1.lt
  have e1 : (w.alloc (.cells xs.toArray t)).heap.size = w.heap.size + 1 := by simp
  rw [e1] at p1
  exact ⟨fun k v hv => (p0.cell k).trans hv, fun k v hv => (p1.cell k).trans hv, ((ent_new0 w _).alloc (by simp) _).trans (h.mono (by simp; omega))⟩
set_option maxRecDepth 100000 in
theorem eqRoute_same (e : Rt) (w : World) : Calls Try.prog 83 #[rtV e, rtV e] w fun r w' => r = .returned (.bool true) ∧ Below w.heap.size w w' := by
  obtain ⟨a, l, m, n, i, t, u, b, c⟩ := e
  unfold rtV rtA
  have HN : Hid (∀ w, Calls Try.prog 104 #[.agg #[.int .i64 a, .int .i64 l], .agg #[.int .i64 a, .int .i64 l]] w fun e w' => e = .returned (.bool true) ∧ Below w.heap.size w w') := eqNet_same a l
  have em : (m != m) = false := by simp
  have en : (n != n) = false := by simp
  have ei : (i != i) = false := by simp
  have et : (t != t) = false := by simp
  have eu : (u != u) = false := by simp
  have eb : (b != b) = false := by simp
  have ec : (c != c) = false := by simp
  go_enter Try.func83, Try.ntmps83
  go_wp2_with fail
  refine (HN.out _).mono ?_
  rintro e w1 ⟨rfl, hb1⟩
  obtain ⟨k0, k1, hB⟩ := boxes9 (xs := [.int .i64 a, .int .i64 l, .int .i64 m, .int .i64 n, .int .i64 i, .int .i64 t, .int .i64 u, .int .i64 b, .bool c]) (ys := [.int .i64 a, .int .i64 l, .int .i64 m, .int .i64 n, .int .i64 i, .int .i64 t, .int .i64 u, .int .i64 b, .bool c]) hb1
  have c2 := k0 2 _ rfl
  have d2 := k1 2 _ rfl
  have c3 := k0 3 _ rfl
  have d3 := k1 3 _ rfl
  have c4 := k0 4 _ rfl
  have d4 := k1 4 _ rfl
  have c5 := k0 5 _ rfl
  have d5 := k1 5 _ rfl
  have c6 := k0 6 _ rfl
  have d6 := k1 6 _ rfl
  have c7 := k0 7 _ rfl
  have d7 := k1 7 _ rfl
  have c8 := k0 8 _ rfl
  have d8 := k1 8 _ rfl
  clear k0 k1 hb1 HN
  go_wp2
  go_ret
  exact ⟨rfl, hB⟩
set_option maxRecDepth 100000 in
theorem eqRouteS_any (p q : Option Addr) (c d : Nat) (es : List Rt) (w : World) (hp : RtsIn w p es) (hq : RtsIn w q es) (hn : es.length ≤ 100000000) : Calls Try.prog 47 #[.slice p es.length c, .slice q es.length d] w fun r w' => r = .returned (.bool true) ∧ Below w.heap.size w w' := by
  have HE : Hid (∀ e w, Calls Try.prog 83 #[rtV e, rtV e] w fun r w' => r = .returned (.bool true) ∧ Below w.heap.size w w') := eqRoute_same
  have HX : Hid (RtsIn w p es ∧ RtsIn w q es) := ⟨hp, hq⟩
  have h0 : ((es.length : Int) != (es.length : Int)) = false := by simp
  clear hp hq
  go_enter Try.func47, Try.ntmps47
  go_wp2_with fail
  go_loopw [5] (fun i wr => ∃ k : Nat, k ≤ es.length ∧ i = .int .i64 k ∧ Below w.heap.size w wr) (fun i _ => es.length - (intOf i).toNat)
  case atStart => exact ⟨0, Nat.zero_le _, rfl, Below.refl _ _⟩
  case round =>
    obtain ⟨k, hk, rfl, hb⟩ := hrel
    by_cases hlt : k < es.length
    · obtain ⟨g, a, l, m, n, ii, t, u, b, cc, rfl, hg, hek, c0, c1, c2, c3, c4, c5, c6, c7, c8⟩ := (HX.out.1.below hb).at k hlt
      obtain ⟨g', a', l', m', n', ii', t', u', b', cc', rfl, hg', hek', d0, d1, d2, d3, d4, d5, d6, d7, d8⟩ := (HX.out.2.below hb).at k hlt
      rw [hek] at hek'
      simp only [Rt.mk.injEq] at hek'
      obtain ⟨rfl, rfl, rfl, rfl, rfl, rfl, rfl, rfl, rfl⟩ := hek'
      have HEk : Hid (∀ w, Calls Try.prog 83 #[.agg #[.int .i64 a, .int .i64 l, .int .i64 m, .int .i64 n, .int .i64 ii, .int .i64 t, .int .i64 u, .int .i64 b, .bool cc], .agg #[.int .i64 a, .int .i64 l, .int .i64 m, .int .i64 n, .int .i64 ii, .int .i64 t, .int .i64 u, .int .i64 b, .bool cc]] w fun r w' => r = .returned (.bool true) ∧ Below w.heap.size w w') := HE.out ⟨a, l, m, n, ii, t, u, b, cc⟩
      clear HE hek HX
      replace c0 := cell_regrown c0
      replace d0 := cell_regrown d0
      replace c1 := cell_regrown c1
      replace d1 := cell_regrown d1
      replace c2 := cell_regrown c2
      replace d2 := cell_regrown d2
      replace c3 := cell_regrown c3
      replace d3 := cell_regrown d3
      replace c4 := cell_regrown c4
      replace d4 := cell_regrown d4
      replace c5 := cell_regrown c5
      replace d5 := cell_regrown d5
      replace c6 := cell_regrown c6
      replace d6 := cell_regrown d6
      replace c7 := cell_regrown c7
      replace d7 := cell_regrown d7
      replace c8 := cell_regrown c8
      replace d8 := cell_regrown d8
      go_wp2_with fail
      refine wp_region_quiet_below (by kernel_rfl) (by kernel_rfl) ?_
      repeat (go_big_quiet_step ((go_at_call 83; exact Calls.regrown_of (HEk.out _))))
      refine wpQuiet_nil ?_
      intro w1 hw'
      obtain ⟨⟨dq, osq⟩, hw''⟩ := hw'
      have hbq := below_regrown wr dq osq
      rw [← hw''] at hbq
      clear hw'' osq dq c0 c1 c2 c3 c4 c5 c6 c7 c8 d0 d1 d2 d3 d4 d5 d6 d7 d8 HEk
      have hb2 := hb.trans (hbq.mono hb.size)
      clear hbq
      go_wp2
      go_roundw
      case rel => exact ⟨k + 1, hlt, by go_num, hb2⟩
      case measure => simp [intOf]; omega
    · obtain rfl : k = es.length := by omega
      clear hlt hk
      go_wp2
      go_ret
      exact ⟨rfl, hb⟩
set_option maxRecDepth 100000 in
theorem eqRib_any (p q : Option Addr) (c d : Nat) (es : List Rt) (w : World) (hp : RtsIn w p es) (hq : RtsIn w q es) (hn : es.length ≤ 100000000) : Calls Try.prog 15 #[ribV p es.length c, ribV q es.length d] w fun r w' => r = .returned (.bool true) ∧ Below w.heap.size w w' := by
  have HE : Hid (∀ w, RtsIn w p es → RtsIn w q es → Calls Try.prog 47 #[.slice p es.length c, .slice q es.length d] w fun r w' => r = .returned (.bool true) ∧ Below w.heap.size w w') := fun w h1 h2 => eqRouteS_any p q c d es w h1 h2 hn
  have HX : Hid (RtsIn w p es ∧ RtsIn w q es) := ⟨hp, hq⟩
  unfold ribV
  clear hp hq
  go_enter Try.func15, Try.ntmps15
  go_wp2_with fail
  refine (HE.out _ ((HX.out.1.alloc _).alloc _) ((HX.out.2.alloc _).alloc _)).mono ?_
  rintro e w1 ⟨rfl, hb1⟩
  have hB : Below w.heap.size w w1 := ((ent_new0 w _).alloc (by simp) _).trans (hb1.mono (by simp; omega))
  clear hb1 HE HX
  go_wp2
  go_ret
  exact ⟨rfl, hB⟩
end Go.Proofs.Ytaledidomgelcaa
/- The laws' own marks in a list of routes: written, and looked for. (Written by gen_markr.py.) -/
namespace Go.Proofs.Ytaledidomgelcaa
open Go.RowKit Go.Sort

def m3 (x : Int) : Bool := x.tmod 3 == 0
def markR (K i : Nat) : Rt := ⟨(K : Int) + 9 * (i : Int) + 0, (K : Int) + 9 * (i : Int) + 1, (K : Int) + 9 * (i : Int) + 2, (K : Int) + 9 * (i : Int) + 3, (K : Int) + 9 * (i : Int) + 4, (K : Int) + 9 * (i : Int) + 5, (K : Int) + 9 * (i : Int) + 6, (K : Int) + 9 * (i : Int) + 7, m3 ((K : Int) + 9 * (i : Int) + 8)⟩
def marksR (K n : Nat) : List Rt := (List.range n).map (markR K)
theorem marksR_length (K n : Nat) : (marksR K n).length = n := by simp [marksR]
theorem ownsR_opened {w : World} {base : Nat} {p : Option Addr} {cv : Nat} {es : List Rt} (h : w.ownsRow base 46 9 (.slice p es.length cv) es.length (rowR es)) : es = [] ∨ ∃ g rest, p = some ⟨g, 0, none⟩ ∧ base ≤ g ∧ es.length ≤ cv ∧ cv ≤ maxLen ∧ Row w g 46 (rowR es ++ rest) ∧ (rowR es ++ rest).length = cv * 9 := by
  rcases h.2 with ⟨h1, h2⟩ | ⟨g, cap, cur, h1, h2, h3, h4, h5, h6, h7⟩
  · exact .inl (List.length_eq_zero_iff.1 h2)
  · simp only [Value.slice.injEq] at h1
    obtain ⟨rfl, _, rfl⟩ := h1
    refine .inr ⟨g, cur.toList.drop (es.length * 9), rfl, h2, h4, h5, ?_, ?_⟩
    · unfold Row
      rw [← h7, List.take_append_drop]
      exact h3
    · rw [← h7, List.take_append_drop]; simpa using h6
theorem ownsR_shut {w : World} {base g n cv : Nat} {es : List Rt} {rest : List Value} (hn : n = es.length) (hb : base ≤ g) (h4 : n ≤ cv) (h5 : cv ≤ maxLen) (hr : Row w g 46 (rowR es ++ rest)) (hl : (rowR es ++ rest).length = cv * 9) : w.ownsRow base 46 9 (.slice (some ⟨g, 0, none⟩) n cv) n (rowR es) := by
  subst hn
  exact ⟨by rw [rowR_length]; omega, .inr ⟨g, cv, _, rfl, hb, hr, h4, h5, by simpa using hl, by
    have : (rowR es).length = es.length * 9 := by rw [rowR_length]; omega
    simp only
    rw [← this]; simp⟩⟩
theorem marksR_set (K : Nat) (es : List Rt) (rest : List Value) (k : Nat) (hk : k < es.length) :
    (((((((((rowR (marksR K k ++ es.drop k) ++ rest).set (k * 9) (.int .i64 ((K : Int) + 9 * (k : Int) + 0))).set (k * 9 + 1) (.int .i64 ((K : Int) + 9 * (k : Int) + 1))).set (k * 9 + 2) (.int .i64 ((K : Int) + 9 * (k : Int) + 2))).set (k * 9 + 3) (.int .i64 ((K : Int) + 9 * (k : Int) + 3))).set (k * 9 + 4) (.int .i64 ((K : Int) + 9 * (k : Int) + 4))).set (k * 9 + 5) (.int .i64 ((K : Int) + 9 * (k : Int) + 5))).set (k * 9 + 6) (.int .i64 ((K : Int) + 9 * (k : Int) + 6))).set (k * 9 + 7) (.int .i64 ((K : Int) + 9 * (k : Int) + 7))).set (k * 9 + 8) (.bool (m3 ((K : Int) + 9 * (k : Int) + 8))) = rowR (marksR K (k + 1) ++ es.drop (k + 1)) ++ rest := by
  have e1 : marksR K (k + 1) = marksR K k ++ [markR K k] := by simp [marksR, List.range_succ]
  rw [List.drop_eq_getElem_cons hk, e1, rowR_append, rowR_cons, List.append_assoc (marksR K k), rowR_append, List.singleton_append, rowR_cons, List.append_assoc, List.append_assoc, List.append_assoc, List.append_assoc]
  exact set9 _ _ k (by rw [rowR_length, marksR_length]; omega) _ _ _ _ _ _ _ _ _ _ _ _ _ _ _ _ _ _
theorem rtsIn_rest {w : World} {g : Nat} {t : TypeId} {es : List Rt} {rest : List Value} (h : Row w g t (rowR es ++ rest)) : RtsIn w (some ⟨g, 0, none⟩) es := .inr ⟨g, rfl, h.lt, fun j u hj => by rw [h.cell, List.getElem?_append_left (List.getElem?_eq_some_iff.1 hj).1]; exact hj⟩
set_option maxRecDepth 100000 in
set_option maxHeartbeats 2000000 in
theorem markRouteS_in (K g n cv : Nat) (es : List Rt) (rest : List Value) (w : World) (hn : n = es.length) (hK : K ≤ 100000000) (h8 : n ≤ 100000000) (hr : Row w g 46 (rowR es ++ rest)) :
    Calls Try.prog 48 #[.slice (some ⟨g, 0, none⟩) n cv, .int .i64 K] w fun e w' => e = .returned (.int .i64 ((K : Int) + 9 * (n : Int))) ∧ Row w' g 46 (rowR (marksR K n) ++ rest) ∧ Below g w w' ∧ ∀ b t l, b ≠ g → Row w b t l → Row w' b t l := by
  have HN : Hid (n = es.length) := hn
  have hr0 : Row w g 46 (rowR (marksR K 0 ++ es.drop 0) ++ rest) := hr
  clear hn hr
  go_enter Try.func48, Try.ntmps48
  go_wp2_with fail
  go_loopw [5, 1] (fun i m wr => ∃ k : Nat, k ≤ n ∧ i = .int .i64 k ∧ m = .int .i64 ((K : Int) + 9 * (k : Int)) ∧ Row wr g 46 (rowR (marksR K k ++ es.drop k) ++ rest) ∧ Below g w wr ∧ ∀ b t l, b ≠ g → Row w b t l → Row wr b t l) (fun i _ _ => n - (intOf i).toNat)
  case atStart => exact ⟨0, Nat.zero_le _, rfl, by go_num, hr0, Below.refl _ _, fun _ _ _ _ h => h⟩
  case round =>
    obtain ⟨k, hk, rfl, rfl, hr, hb, hoth⟩ := hrel
    have HOT : Hid (∀ b t l, b ≠ g → Row w b t l → Row wr b t l) := hoth
    clear hr0 hoth
    by_cases hlt : k < n
    · have hlen : (marksR K k ++ es.drop k).length = n := by rw [List.length_append, marksR_length, List.length_drop, ← HN.out]; omega
      have hlr : k * 9 + 8 < (rowR (marksR K k ++ es.drop k) ++ rest).length := by rw [List.length_append, rowR_length, hlen]; omega
      obtain ⟨z0, c0⟩ := Row.someR hr (k * 9) (by omega)
      obtain ⟨z1, c1⟩ := Row.someR hr (k * 9 + 1) (by omega)
      obtain ⟨z2, c2⟩ := Row.someR hr (k * 9 + 2) (by omega)
      obtain ⟨z3, c3⟩ := Row.someR hr (k * 9 + 3) (by omega)
      obtain ⟨z4, c4⟩ := Row.someR hr (k * 9 + 4) (by omega)
      obtain ⟨z5, c5⟩ := Row.someR hr (k * 9 + 5) (by omega)
      obtain ⟨z6, c6⟩ := Row.someR hr (k * 9 + 6) (by omega)
      obtain ⟨z7, c7⟩ := Row.someR hr (k * 9 + 7) (by omega)
      obtain ⟨z8, c8⟩ := Row.someR hr (k * 9 + 8) (by omega)
      have f0 := hr.frozen (k * 9)
      have f1 := hr.frozen (k * 9 + 1)
      have f2 := hr.frozen (k * 9 + 2)
      have f3 := hr.frozen (k * 9 + 3)
      have f4 := hr.frozen (k * 9 + 4)
      have f5 := hr.frozen (k * 9 + 5)
      have f6 := hr.frozen (k * 9 + 6)
      have f7 := hr.frozen (k * 9 + 7)
      have f8 := hr.frozen (k * 9 + 8)
      have hr2 := nine_row hr (k * 9) (.int .i64 ((K : Int) + 9 * (k : Int) + 0)) (.int .i64 ((K : Int) + 9 * (k : Int) + 1)) (.int .i64 ((K : Int) + 9 * (k : Int) + 2)) (.int .i64 ((K : Int) + 9 * (k : Int) + 3)) (.int .i64 ((K : Int) + 9 * (k : Int) + 4)) (.int .i64 ((K : Int) + 9 * (k : Int) + 5)) (.int .i64 ((K : Int) + 9 * (k : Int) + 6)) (.int .i64 ((K : Int) + 9 * (k : Int) + 7)) (.bool (m3 ((K : Int) + 9 * (k : Int) + 8)))
      rw [marksR_set K es rest k (by rw [← HN.out]; exact hlt)] at hr2
      have hB2 := nine_below hb g (k * 9) (Nat.le_refl _) (.int .i64 ((K : Int) + 9 * (k : Int) + 0)) (.int .i64 ((K : Int) + 9 * (k : Int) + 1)) (.int .i64 ((K : Int) + 9 * (k : Int) + 2)) (.int .i64 ((K : Int) + 9 * (k : Int) + 3)) (.int .i64 ((K : Int) + 9 * (k : Int) + 4)) (.int .i64 ((K : Int) + 9 * (k : Int) + 5)) (.int .i64 ((K : Int) + 9 * (k : Int) + 6)) (.int .i64 ((K : Int) + 9 * (k : Int) + 7)) (.bool (m3 ((K : Int) + 9 * (k : Int) + 8)))
      have hO2 := fun b t l (hne : b ≠ g) (h : Row w b t l) => nine_other (HOT.out b t l hne h) hne (k * 9) (.int .i64 ((K : Int) + 9 * (k : Int) + 0)) (.int .i64 ((K : Int) + 9 * (k : Int) + 1)) (.int .i64 ((K : Int) + 9 * (k : Int) + 2)) (.int .i64 ((K : Int) + 9 * (k : Int) + 3)) (.int .i64 ((K : Int) + 9 * (k : Int) + 4)) (.int .i64 ((K : Int) + 9 * (k : Int) + 5)) (.int .i64 ((K : Int) + 9 * (k : Int) + 6)) (.int .i64 ((K : Int) + 9 * (k : Int) + 7)) (.bool (m3 ((K : Int) + 9 * (k : Int) + 8)))
      unfold nine at hr2 hB2 hO2
      have HH : Hid _ := And.intro hr2 (And.intro hB2 hO2)
      clear hr hb hr2 hB2 hlen hlr hO2 HOT
      go_wp2_with fail
      have E : ∀ x : Int, x = (K : Int) + 9 * (k : Int) → x + 1 = x + 1 := fun _ _ => rfl
      clear E
      rw [show (K : Int) + 9 * (k : Int) + 1 + 1 + 1 + 1 + 1 + 1 + 1 + 1 + 1 = (K : Int) + 9 * ((k + 1 : Nat) : Int) by omega, show (K : Int) + 9 * (k : Int) + 1 + 1 + 1 + 1 + 1 + 1 + 1 + 1 = (K : Int) + 9 * (k : Int) + 8 by omega, show (K : Int) + 9 * (k : Int) + 1 + 1 + 1 + 1 + 1 + 1 + 1 = (K : Int) + 9 * (k : Int) + 7 by omega, show (K : Int) + 9 * (k : Int) + 1 + 1 + 1 + 1 + 1 + 1 = (K : Int) + 9 * (k : Int) + 6 by omega, show (K : Int) + 9 * (k : Int) + 1 + 1 + 1 + 1 + 1 = (K : Int) + 9 * (k : Int) + 5 by omega, show (K : Int) + 9 * (k : Int) + 1 + 1 + 1 + 1 = (K : Int) + 9 * (k : Int) + 4 by omega, show (K : Int) + 9 * (k : Int) + 1 + 1 + 1 = (K : Int) + 9 * (k : Int) + 3 by omega, show (K : Int) + 9 * (k : Int) + 1 + 1 = (K : Int) + 9 * (k : Int) + 2 by omega]
      refine ⟨⟨k + 1, hlt, by go_num, rfl, HH.out.1, HH.out.2.1, HH.out.2.2⟩, ?_⟩
      simp [intOf]
      omega
    · obtain rfl : k = n := by omega
      have hre : marksR K k ++ es.drop k = marksR K k := by rw [HN.out, List.drop_length, List.append_nil]
      rw [hre] at hr
      clear hlt hk hre
      go_wp2
      go_ret
      exact ⟨rfl, hr, hb, HOT.out⟩
set_option maxRecDepth 100000 in
set_option maxHeartbeats 2000000 in
theorem heldRouteS_in (K : Nat) (p : Option Addr) (n cv : Nat) (w : World) (hK : K ≤ 100000000) (h8 : n ≤ 100000000) (hE : RtsIn w p (marksR K n)) :
    Calls Try.prog 65 #[.slice p n cv, .int .i64 K] w fun e w' => e = .returned (.int .i64 ((K : Int) + 9 * (n : Int))) ∧ w = w' := by
  have HX : Hid (RtsIn w p (marksR K n)) := hE
  clear hE
  go_enter Try.func65, Try.ntmps65
  go_wp2_with fail
  go_loop [5, 1] (fun i m => ∃ k : Nat, k ≤ n ∧ i = .int .i64 k ∧ m = .int .i64 ((K : Int) + 9 * (k : Int))) (fun i _ => n - (intOf i).toNat)
  case atStart => exact ⟨0, Nat.zero_le _, rfl, by go_num⟩
  case round =>
    obtain ⟨k, hk, rfl, rfl⟩ := hrel
    by_cases hlt : k < n
    · obtain ⟨g, y0, y1, y2, y3, y4, y5, y6, y7, y8, rfl, hg, hek, c0, c1, c2, c3, c4, c5, c6, c7, c8⟩ := HX.out.at k (by rw [marksR_length]; exact hlt)
      have hmk : (marksR K n)[k]'(by rw [marksR_length]; exact hlt) = markR K k := by simp [marksR]
      rw [hmk] at hek
      simp only [markR, Rt.mk.injEq] at hek
      obtain ⟨rfl, rfl, rfl, rfl, rfl, rfl, rfl, rfl, rfl⟩ := hek
      rw [Int.add_zero] at c0
      rw [show (K : Int) + 9 * (k : Int) + 1 = (K : Int) + 9 * (k : Int) + 1 by omega] at c1
      rw [show (K : Int) + 9 * (k : Int) + 2 = (K : Int) + 9 * (k : Int) + 1 + 1 by omega] at c2
      rw [show (K : Int) + 9 * (k : Int) + 3 = (K : Int) + 9 * (k : Int) + 1 + 1 + 1 by omega] at c3
      rw [show (K : Int) + 9 * (k : Int) + 4 = (K : Int) + 9 * (k : Int) + 1 + 1 + 1 + 1 by omega] at c4
      rw [show (K : Int) + 9 * (k : Int) + 5 = (K : Int) + 9 * (k : Int) + 1 + 1 + 1 + 1 + 1 by omega] at c5
      rw [show (K : Int) + 9 * (k : Int) + 6 = (K : Int) + 9 * (k : Int) + 1 + 1 + 1 + 1 + 1 + 1 by omega] at c6
      rw [show (K : Int) + 9 * (k : Int) + 7 = (K : Int) + 9 * (k : Int) + 1 + 1 + 1 + 1 + 1 + 1 + 1 by omega] at c7
      rw [show (K : Int) + 9 * (k : Int) + 8 = (K : Int) + 9 * (k : Int) + 1 + 1 + 1 + 1 + 1 + 1 + 1 + 1 by omega] at c8
      clear hmk
      unfold m3 at c8
      have hx : ((((K : Int) + 9 * (k : Int) + 1 + 1 + 1 + 1 + 1 + 1 + 1 + 1).tmod 3 == 0) != (((K : Int) + 9 * (k : Int) + 1 + 1 + 1 + 1 + 1 + 1 + 1 + 1).tmod 3 == 0)) = false := by simp
      go_wp2_with fail
      refine ⟨⟨k + 1, hlt, by go_num, by go_num⟩, ?_⟩
      simp [intOf]
      omega
    · obtain rfl : k = n := by omega
      clear hlt hk
      go_wp2
      go_ret
      exact ⟨rfl, rfl⟩
end Go.Proofs.Ytaledidomgelcaa
/- The laws' own looks at tables that are handed back: alike, marked, held. (Written by gen_markr.py.) -/
namespace Go.Proofs.Ytaledidomgelcaa
open Go.RowKit Go.Sort

theorem ownsR_in {w : World} {base : Nat} {p : Option Addr} {n cv : Nat} {es : List Rt} (hn : n = es.length) (h : w.ownsRow base 46 9 (.slice p n cv) n (rowR es)) : RtsIn w p es := by
  subst hn
  rcases ownsR_opened h with h0 | ⟨g, rest, rfl, -, -, -, hr, -⟩
  · exact .inl h0
  · exact rtsIn_rest hr
theorem ownsR_row {w : World} {g n : Nat} {es : List Rt} (hn : n = es.length) (h8 : n ≤ 100000000) (h : Row w g 46 (rowR es)) : w.ownsRow g 46 9 (.slice (some ⟨g, 0, none⟩) n n) n (rowR es) := ownsR_shut (rest := []) hn (Nat.le_refl _) (Nat.le_refl _) (by unfold maxLen; omega) (by rw [List.append_nil]; exact h) (by rw [List.append_nil, rowR_length, hn]; omega)
theorem ownsR_kept {w w' : World} {base : Nat} {p : Option Addr} {n cv : Nat} {es : List Rt} (hn : n = es.length) (h : w.ownsRow base 46 9 (.slice p n cv) n (rowR es)) (hk : ∀ b t l, p = some ⟨b, 0, none⟩ → Row w b t l → Row w' b t l) : w'.ownsRow base 46 9 (.slice p n cv) n (rowR es) := by
  subst hn
  rcases ownsR_opened h with h0 | ⟨g, rest, rfl, h1, h2, h3, hr, hl⟩
  · subst h0
    rcases h.2 with ⟨e1, e2⟩ | ⟨g, cap, cur, e1, e2, e3, e4, e5, e6, e7⟩
    · exact ⟨rfl, .inl ⟨e1, e2⟩⟩
    · simp only [Value.slice.injEq] at e1
      obtain ⟨rfl, -, rfl⟩ := e1
      have := hk g 46 cur.toList rfl (by unfold Row; simpa using e3)
      exact ⟨rfl, .inr ⟨g, _, cur, rfl, e2, by unfold Row at this; simpa using this, e4, e5, e6, e7⟩⟩
  · exact ownsR_shut rfl h1 h2 h3 (hk _ _ _ rfl hr) hl
theorem ownsR_below {w w' : World} {base n : Nat} {v : Value} {xs : List Value} (h : w.ownsRow base 46 9 v n xs) (hb : Below w.heap.size w w') : w'.ownsRow base 46 9 v n xs :=
  World.ownsRow.kept h (row := none) ⟨hb.os, hb.tape, hb.output, hb.size, fun k hk _ => hb.block k hk⟩ (by cases v.ownBlock <;> simp)
theorem ownsR_mono {w : World} {base base' n : Nat} {v : Value} {xs : List Value} (h : w.ownsRow base 46 9 v n xs) (hb : base' ≤ base) : w.ownsRow base' 46 9 v n xs := by
  rcases h.2 with ⟨h1, h2⟩ | ⟨g, cap, cur, h1, h2, h3, h4, h5, h6, h7⟩
  · exact ⟨h.1, .inl ⟨h1, h2⟩⟩
  · exact ⟨h.1, .inr ⟨g, cap, cur, h1, by omega, h3, h4, h5, h6, h7⟩⟩
theorem ownsR_ne {w : World} {base n cv g : Nat} {p : Option Addr} {xs l : List Value} {t : TypeId} (h : w.ownsRow base 46 9 (.slice p n cv) n xs) (hr : Row w g t l) (ht : t ≠ 46) : p ≠ some ⟨g, 0, none⟩ := by
  rintro rfl
  rcases h.2 with ⟨h1, _⟩ | ⟨g', cap, cur, h1, _, h3, _⟩
  · simp at h1
  · simp only [Value.slice.injEq, Option.some.injEq, Addr.mk.injEq, and_true] at h1
    obtain ⟨rfl, _⟩ := h1
    unfold Row at hr
    rw [h3] at hr
    simp only [Option.some.injEq, Obj.cells.injEq] at hr
    exact ht hr.2.1.symm
theorem ownsR_base {w : World} {base n cv g : Nat} {p : Option Addr} {xs : List Value} (h : w.ownsRow base 46 9 (.slice p n cv) n xs) (hg : g < base) : p ≠ some ⟨g, 0, none⟩ := by
  rintro rfl
  have := (World.ownsRow.lt h g rfl).1
  omega
theorem ownsR_size {w : World} {base n cv g : Nat} {p : Option Addr} {xs : List Value} (h : w.ownsRow base 46 9 (.slice p n cv) n xs) (hg : w.heap.size ≤ g) : p ≠ some ⟨g, 0, none⟩ := by
  rintro rfl
  have := (World.ownsRow.lt h g rfl).2
  omega
theorem row_ne {w : World} {g k : Nat} {l m : List Value} {t u : TypeId} (h : Row w g t l) (hk : Row w k u m) (ht : t ≠ u) : g ≠ k := by
  rintro rfl
  unfold Row at h hk
  rw [h] at hk
  simp only [Option.some.injEq, Obj.cells.injEq] at hk
  exact ht hk.2.1
set_option maxRecDepth 100000 in
theorem markRouteS_0 (K : Nat) (p : Option Addr) (cv : Nat) (w : World) : Calls Try.prog 48 #[.slice p 0 cv, .int .i64 K] w fun e w' => e = .returned (.int .i64 K) ∧ w = w' := by
  go_enter Try.func48, Try.ntmps48
  go_wp2_with fail
  go_loop [5, 1] (fun i k => i = .int .i64 0 ∧ k = .int .i64 K) (fun _ _ => 0)
  case atStart => exact ⟨rfl, rfl⟩
  case round =>
    obtain ⟨rfl, rfl⟩ := hrel
    go_wp2
    go_ret
    exact ⟨rfl, rfl⟩
set_option maxHeartbeats 1000000 in
theorem markRouteS_any (K : Nat) (p : Option Addr) (n cv base : Nat) (es : List Rt) (w : World) (hn : n = es.length) (hK : K ≤ 100000000) (h8 : n ≤ 100000000) (h : w.ownsRow base 46 9 (.slice p n cv) n (rowR es)) :
    Calls Try.prog 48 #[.slice p n cv, .int .i64 K] w fun e w' => e = .returned (.int .i64 ((K : Int) + 9 * (n : Int))) ∧ w'.ownsRow base 46 9 (.slice p n cv) n (rowR (marksR K n)) ∧ Below base w w' ∧ ∀ b t l, p ≠ some ⟨b, 0, none⟩ → Row w b t l → Row w' b t l := by
  subst hn
  rcases ownsR_opened h with h0 | ⟨g, rest, rfl, hb, h1, h2, hr, hl⟩
  · subst h0
    exact (markRouteS_0 K p cv w).mono fun e w' ⟨he, hw⟩ => ⟨by rw [he]; simp, hw ▸ h, hw ▸ Below.refl _ _, fun _ _ _ _ h => hw ▸ h⟩
  · refine (markRouteS_in K g _ cv es rest w rfl hK h8 hr).mono fun e w' ⟨he, hr', hb', ho'⟩ => ⟨he, ownsR_shut (marksR_length K _).symm hb h1 h2 hr' ?_, hb'.mono hb, fun b t l hp h => ho' b t l (fun e => hp (by rw [e])) h⟩
    rw [List.length_append, rowR_length, marksR_length]
    rw [List.length_append, rowR_length] at hl
    exact hl
set_option maxRecDepth 100000 in
set_option maxHeartbeats 1000000 in
theorem markRib_any (K : Nat) (p : Option Addr) (n cv base : Nat) (es : List Rt) (w : World) (hn : n = es.length) (hK : K ≤ 100000000) (h8 : n ≤ 100000000) (h : w.ownsRow base 46 9 (.slice p n cv) n (rowR es)) (hbs : base ≤ w.heap.size) :
    Calls Try.prog 16 #[.agg #[.slice p n cv], .int .i64 K] w fun e w' => e = .returned (.int .i64 ((K : Int) + 9 * (n : Int))) ∧ w'.ownsRow base 46 9 (.slice p n cv) n (rowR (marksR K n)) ∧ Below base w w' ∧ ∀ b t l, p ≠ some ⟨b, 0, none⟩ → Row w b t l → Row w' b t l := by
  have HM : Hid (Calls Try.prog 48 #[.slice p n cv, .int .i64 K] (w.alloc (.cells #[.slice p n cv] 30)) fun e w' => e = .returned (.int .i64 ((K : Int) + 9 * (n : Int))) ∧ w'.ownsRow base 46 9 (.slice p n cv) n (rowR (marksR K n)) ∧ Below base (w.alloc (.cells #[.slice p n cv] 30)) w' ∧ ∀ b t l, p ≠ some ⟨b, 0, none⟩ → Row (w.alloc (.cells #[.slice p n cv] 30)) b t l → Row w' b t l) := markRouteS_any K p n cv base es _ hn hK h8 (World.ownsRow.alloc h _)
  clear h hn hK h8
  go_enter Try.func16, Try.ntmps16
  go_wp2_with fail
  refine (HM.out).mono ?_
  rintro e w1 ⟨rfl, ho, hb, hot⟩
  have hB : Below base w w1 := ((Below.refl base w).alloc hbs _).trans hb
  have HOT : Hid (∀ b t l, p ≠ some ⟨b, 0, none⟩ → Row w b t l → Row w1 b t l) := fun b t l hp h => hot b t l hp (h.alloc _)
  clear hb hot
  go_wp2
  go_ret
  exact ⟨rfl, ho, hB, HOT.out⟩
set_option maxRecDepth 100000 in
set_option maxHeartbeats 1000000 in
theorem heldRib_any (K : Nat) (p : Option Addr) (n cv : Nat) (w : World) (hK : K ≤ 100000000) (h8 : n ≤ 100000000) (h : RtsIn w p (marksR K n)) :
    Calls Try.prog 26 #[.agg #[.slice p n cv], .int .i64 K] w fun e w' => e = .returned (.int .i64 ((K : Int) + 9 * (n : Int))) ∧ Below w.heap.size w w' := by
  have HM : Hid (Calls Try.prog 65 #[.slice p n cv, .int .i64 K] (w.alloc (.cells #[.slice p n cv] 30)) fun e w' => e = .returned (.int .i64 ((K : Int) + 9 * (n : Int))) ∧ (w.alloc (.cells #[.slice p n cv] 30)) = w') := heldRouteS_in K p n cv _ hK h8 (h.alloc _)
  have d : decide ((K : Int) + 9 * (n : Int) < 0) = false := by simp; omega
  clear h hK h8
  go_enter Try.func26, Try.ntmps26
  go_wp2_with fail
  refine (HM.out).mono ?_
  rintro e w1 ⟨rfl, hb⟩
  have hB : Below w.heap.size w w1 := by rw [← hb]; exact ent_new0 w _
  clear hb
  go_wp2
  go_ret
  exact ⟨rfl, hB⟩
end Go.Proofs.Ytaledidomgelcaa
/- A table copied, and made quiet, by the model. (Written by gen_quiett.py.) -/
namespace Go.Proofs.Ytaledidomgelcaa
open Go.RowKit Go.Sort

theorem ownsR_shapeQ {w : World} {base n : Nat} {v : Value} {xs : List Value} (h : w.ownsRow base 46 9 v n xs) : ∃ q c, v = .slice q n c := by
  rcases h.2 with ⟨h1, h2⟩ | ⟨g, cap, cur, h1, _⟩
  · exact ⟨none, 0, by rw [h1, h2]⟩
  · exact ⟨_, _, h1⟩
set_option maxRecDepth 100000 in
set_option maxHeartbeats 1000000 in
theorem l06Copy_any (p : Option Addr) (cap : Nat) (rs : List Rt) (w : World) (h : RtsIn w p rs) (hc : p = none → cap = 0) (hcl : rs.length ≤ cap) (hn : rs.length ≤ 100000000) :
    Calls Try.prog 84 #[ribV p rs.length cap] w fun e w' => ∃ q c, e = .returned (ribV q rs.length c) ∧ w'.ownsRow w.heap.size 46 9 (.slice q rs.length c) rs.length (rowR rs) ∧ Below w.heap.size w w' := by
  obtain ⟨W, hW, q0, q1, hB, hS⟩ := rows2 w [.slice p rs.length cap] [.slice none 0 0] 30 30
  have HW : Hid _ := hW
  have hX := (h.below hB).alloc (.cells #[] 46)
  have ho := World.ownsRow_lit (base := W.heap.size) (e := 46) (size := 9) W #[] 0 (Nat.le_refl _) (Nat.zero_le _) (by simp)
  obtain ⟨v4, w4, happ, hown4, hb4⟩ := run_append_rts (W.alloc (.cells #[] 46)) W.heap.size (.slice (some ⟨W.heap.size, 0, none⟩) 0 0) [] rs p cap 28 (by simpa [rowR] using ho) (fun e => ⟨rtsIn_none h e, hc e⟩) (fun ad e j u hj => by
    rcases hX with rfl | ⟨g, rfl, _, hcell⟩
    · simp [rowR] at hj
    · cases e
      rw [addR, Nat.zero_add]
      exact hcell j u hj) (by simp; omega) (by simp)
  rw [List.nil_append] at hown4
  obtain ⟨q4, c4, rfl⟩ := ownsR_shapeQ hown4
  have q0 := q0.alloc (.cells #[] 46)
  have q1 := (q1.alloc (.cells #[] 46)).below hb4 (by omega)
  have hB := (hB.alloc (by omega) (.cells #[] 46)).trans (hb4.mono (by omega))
  have x0 : (W.alloc (.cells #[] 46)).cell? ⟨w.heap.size, 0, none⟩ = some (.slice p rs.length cap) := q0.cell 0
  have f0 : w4.frozen? ⟨w.heap.size + 1, 0, none⟩ = false := q1.frozen 0
  have z0 : w4.cell? ⟨w.heap.size + 1, 0, none⟩ = some (.slice none 0 0) := q1.cell 0
  have HE : Hid _ := And.intro (q1.set 0 (.slice q4 rs.length c4)) (And.intro (hB.setCell (p := ⟨w.heap.size + 1, 0, none⟩) (by show w.heap.size ≤ w.heap.size + 1; omega) (.slice q4 rs.length c4)) (ownR_set (base' := w.heap.size) hown4 ⟨w.heap.size + 1, 0, none⟩ (by show w.heap.size + 1 < W.heap.size; omega) (.slice q4 rs.length c4) (by omega)))
  rw [hS] at happ
  rw [hW] at x0 happ
  clear q0 q1 hB hown4 hb4 ho hX hW h hc hcl hS hn
  unfold ribV
  go_enter Try.func84, Try.ntmps84
  go_wp2_with (at_builtin; refine wpList_append_runs rfl _ _ 28 rfl _ _ rfl rfl happ ?_)
  obtain ⟨h1, h2, h3⟩ := HE.out
  clear HE f0 z0 x0 happ
  generalize w4.setCell ⟨w.heap.size + 1, 0, none⟩ (.slice q4 rs.length c4) = Z at *
  have e0 : Z.cell? ⟨w.heap.size + 1, 0, none⟩ = some (.slice q4 rs.length c4) := h1.cell 0
  exact bodyPost_ret (v := .agg #[.slice q4 rs.length c4]) (by simp [results, Try.results84, go_sem, e0]) rfl ⟨q4, c4, rfl, h3, h2⟩
/-- How far the model has come behind k rounds. -/
def hushK (rs : List Rt) (k : Nat) : List Rt := halfR hushF rs k
theorem hushK_len (rs : List Rt) (k : Nat) : (hushK rs k).length = rs.length := by
  unfold hushK halfR
  rw [List.length_append, List.length_drop]
  have : ((rs.take k).filterMap hushF).length = (rs.take k).length := by
    generalize rs.take k = l
    induction l with
    | nil => rfl
    | cons x l ih => simp [hushF] at ih ⊢
  rw [this, List.length_take]
  omega
theorem hushK_set (rs : List Rt) (rest : List Value) (k : Nat) (hk : k < rs.length) : (rowR (hushK rs k) ++ rest).set (k * 9 + 8) (.bool false) = rowR (hushK rs (k + 1)) ++ rest := by
  have hl : (rowR ((rs.take k).filterMap hushF)).length = k * 9 := by
    rw [rowR_length]
    have := hushK_len rs k
    unfold hushK halfR at this
    rw [List.length_append, List.length_drop] at this
    omega
  unfold hushK
  rw [halfR_at hushF hk]
  unfold halfR
  rw [take_turn hushF hk, show hushF rs[k] = some ⟨rs[k].a, rs[k].l, rs[k].m, rs[k].n, rs[k].i, rs[k].t, rs[k].u, rs[k].b, false⟩ from rfl]
  simp only [Option.toList_some, rowR_append, rowR_cons, List.append_assoc]
  rw [List.set_append, if_neg (by omega), hl, Nat.add_sub_cancel_left]
  rfl
set_option maxRecDepth 100000 in
set_option maxHeartbeats 2000000 in
theorem l06Quiet_any (p : Option Addr) (cap : Nat) (rs : List Rt) (w : World) (h : RtsIn w p rs) (hc : p = none → cap = 0) (hcl : rs.length ≤ cap) (hn : rs.length ≤ 100000000) :
    Calls Try.prog 64 #[ribV p rs.length cap] w fun e w' => ∃ q c, e = .returned (ribV q (rs.filterMap hushF).length c) ∧ w'.ownsRow w.heap.size 46 9 (.slice q (rs.filterMap hushF).length c) (rs.filterMap hushF).length (rowR (rs.filterMap hushF)) ∧ Below w.heap.size w w' := by
  have HC : Hid (∀ w, RtsIn w p rs → Calls Try.prog 84 #[.agg #[.slice p rs.length cap]] w fun e w' => ∃ q c, e = .returned (.agg #[.slice q rs.length c]) ∧ w'.ownsRow w.heap.size 46 9 (.slice q rs.length c) rs.length (rowR rs) ∧ Below w.heap.size w w') := fun w h => l06Copy_any p cap rs w h hc hcl hn
  have HX : Hid (RtsIn w p rs) := h
  have HF : Hid (hushK rs rs.length = rs.filterMap hushF) := halfR_end hushF rs
  have HF0 : Hid (hushK rs 0 = rs) := halfR_0 hushF rs
  clear h hc hcl
  obtain ⟨W, hW, q0, q1, hB, hS⟩ := rows2 w [.slice p rs.length cap] [.slice none 0 0] 30 30
  have HW : Hid _ := hW
  have x0 : W.cell? ⟨w.heap.size, 0, none⟩ = some (.slice p rs.length cap) := q0.cell 0
  have HQ : Hid _ := And.intro q1 hB
  rw [hW] at x0
  clear hW q0 q1 hB
  unfold ribV
  go_enter Try.func64, Try.ntmps64
  go_wp2_with fail
  rw [← HW.out]
  obtain ⟨q1, hB⟩ := HQ.out
  refine (HC.out _ ((HX.out).below hB)).mono ?_
  rintro e w1 ⟨q, cv, rfl, hown, hb1⟩
  have q1 := (q1.below hb1 q1.lt).alloc (.cells #[.slice q rs.length cv] 30)
  have q2 := Row.new w1 30 [.slice q rs.length cv]
  have hown := World.ownsRow.alloc hown (.cells #[.slice q rs.length cv] 30)
  have hB := (hB.trans (hb1.mono hB.size)).alloc (by have := hb1.size; omega) (.cells #[.slice q rs.length cv] 30)
  have HQ2 : Hid _ := And.intro q1 (And.intro q2 (And.intro hown hB))
  have hs1 := hb1.size
  clear q1 q2 hown hB hb1 HC HX HW HQ x0
  go_wp2_with fail
  generalize hbx : w1.heap.size = b3 at *
  generalize w1.alloc (.cells #[.slice q rs.length cv] 30) = W1 at *
  clear hbx
  obtain ⟨q1, q2, hown, hB⟩ := HQ2.out
  clear HQ2
  rcases ownsR_opened hown with h0 | ⟨g, rest, rfl, hbg, hcv, hmx, hr, hl⟩
  · subst h0
    have x3 : W1.cell? ⟨b3, 0, none⟩ = some (.slice q 0 cv) := q2.cell 0
    simp only [List.length_nil] at *
    go_loop [4] (fun i => i = .int .i64 0) (fun _ => 0)
    case atStart => exact rfl
    case round =>
      subst hrel
      have y0 : W1.cell? ⟨b3, 0, none⟩ = some (.slice q 0 cv) := q2.cell 0
      have f0 : W1.frozen? ⟨w.heap.size + 1, 0, none⟩ = false := q1.frozen 0
      have z0 : W1.cell? ⟨w.heap.size + 1, 0, none⟩ = some (.slice none 0 0) := q1.cell 0
      have HE : Hid _ := And.intro (q1.set 0 (.slice q 0 cv)) (And.intro (hB.setCell (p := ⟨w.heap.size + 1, 0, none⟩) (by show w.heap.size ≤ w.heap.size + 1; omega) (.slice q 0 cv)) (ownR_set (base' := w.heap.size) hown ⟨w.heap.size + 1, 0, none⟩ (by show w.heap.size + 1 < W.heap.size; omega) (.slice q 0 cv) (by omega)))
      clear q1 q2 hB hown
      go_wp2_with fail
      obtain ⟨h1, h2, h3⟩ := HE.out
      clear HE f0 z0 y0
      generalize W1.setCell ⟨w.heap.size + 1, 0, none⟩ (.slice q 0 cv) = Z at *
      have e0 : Z.cell? ⟨w.heap.size + 1, 0, none⟩ = some (.slice q 0 cv) := h1.cell 0
      exact bodyPost_ret (v := .agg #[.slice q 0 cv]) (by simp [results, Try.results64, go_sem, e0]) rfl ⟨q, cv, rfl, h3, h2⟩
  · have hg1 := row_ne q1 hr (by decide)
    have hg3 := row_ne q2 hr (by decide)
    have hr0 : Row W1 g 46 (rowR (hushK rs 0) ++ rest) := by rw [HF0.out]; exact hr
    have hgw : w.heap.size ≤ g := by omega
    have HI : Hid _ := And.intro q1 (And.intro q2 (And.intro hr0 hB))
    clear hr hown q1 q2 hr0 hB
    go_loopw [4] (fun i wr => ∃ k : Nat, k ≤ rs.length ∧ i = .int .i64 k ∧ Row wr (w.heap.size + 1) 30 [.slice none 0 0] ∧ Row wr b3 30 [.slice (some ⟨g, 0, none⟩) rs.length cv] ∧ Row wr g 46 (rowR (hushK rs k) ++ rest) ∧ Below w.heap.size w wr) (fun i _ => rs.length - (intOf i).toNat)
    case atStart => exact ⟨0, Nat.zero_le _, rfl, HI.out⟩
    case round =>
      obtain ⟨k, hk, rfl, q1, q2, hr, hB⟩ := hrel
      clear HI
      by_cases hlt : k < rs.length
      · have d1 : decide ((k : Int) < (rs.length : Int)) = true := by simpa using hlt
        have x3 : wr.cell? ⟨b3, 0, none⟩ = some (.slice (some ⟨g, 0, none⟩) rs.length cv) := q2.cell 0
        obtain ⟨z8, c8⟩ := Row.someR hr (k * 9 + 8) (by rw [List.length_append, rowR_length, hushK_len]; omega)
        have f8 := hr.frozen (k * 9 + 8)
        have hr2 := hr.set (k * 9 + 8) (.bool false)
        rw [hushK_set rs rest k hlt] at hr2
        have HZ : Hid _ := And.intro (q1.other (k * 9 + 8) (.bool false) hg1) (And.intro (q2.other (k * 9 + 8) (.bool false) hg3) (And.intro hr2 (hB.setCell (p := ⟨g, k * 9 + 8, none⟩) hgw (.bool false))))
        clear q1 q2 hr hr2 hB
        go_wp2_with fail
        refine ⟨⟨k + 1, hlt, by go_num, HZ.out⟩, ?_⟩
        simp [intOf]
        omega
      · obtain rfl : k = rs.length := by omega
        have d1 : decide ((rs.length : Int) < (rs.length : Int)) = false := by simp
        have hlen : rs.length = (rs.filterMap hushF).length := by rw [← HF.out, hushK_len]
        have hown : wr.ownsRow W.heap.size 46 9 (.slice (some ⟨g, 0, none⟩) rs.length cv) rs.length (rowR (rs.filterMap hushF)) := by
          rw [← HF.out]
          exact ownsR_shut (hushK_len rs _).symm hbg hcv hmx hr (by rw [List.length_append, rowR_length, hushK_len] at *; exact hl)
        have HL : Hid _ := hlen
        clear hlt hk hr hlen hl
        have y0 : wr.cell? ⟨b3, 0, none⟩ = some (.slice (some ⟨g, 0, none⟩) rs.length cv) := q2.cell 0
        have f0 : wr.frozen? ⟨w.heap.size + 1, 0, none⟩ = false := q1.frozen 0
        have z0 : wr.cell? ⟨w.heap.size + 1, 0, none⟩ = some (.slice none 0 0) := q1.cell 0
        have HE : Hid _ := And.intro (q1.set 0 (.slice (some ⟨g, 0, none⟩) rs.length cv)) (And.intro (hB.setCell (p := ⟨w.heap.size + 1, 0, none⟩) (by show w.heap.size ≤ w.heap.size + 1; omega) (.slice (some ⟨g, 0, none⟩) rs.length cv)) (ownR_set (base' := w.heap.size) hown ⟨w.heap.size + 1, 0, none⟩ (by show w.heap.size + 1 < W.heap.size; omega) (.slice (some ⟨g, 0, none⟩) rs.length cv) (by omega)))
        clear q1 q2 hB hown
        go_wp2_with fail
        obtain ⟨h1, h2, h3⟩ := HE.out
        clear HE f0 z0 y0
        generalize wr.setCell ⟨w.heap.size + 1, 0, none⟩ (.slice (some ⟨g, 0, none⟩) rs.length cv) = Z at *
        have e0 : Z.cell? ⟨w.heap.size + 1, 0, none⟩ = some (.slice (some ⟨g, 0, none⟩) rs.length cv) := h1.cell 0
        refine bodyPost_ret (v := .agg #[.slice (some ⟨g, 0, none⟩) rs.length cv]) (by simp [results, Try.results64, go_sem, e0]) rfl ?_
        have hlen := HL.out
        rw [← hlen]
        exact ⟨_, cv, rfl, h3, h2⟩
end Go.Proofs.Ytaledidomgelcaa
