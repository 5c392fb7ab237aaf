/- Texts that stand on each other, in one file: InsI. -/
import Derived.Test.YtialedffpaoacaaGreatDoorPack17
import Derived.Test.YtialedffpaoacaaGreatDoorPack8
/- slices.SortFunc at a few nets. (Written by gen_ins.py.) -/
namespace Go.Proofs.YtialedffpaoacaaGreatDoor
open Go.RowKit Go.Sort

/-- All blocks of w but g lie in w' as they lay. -/
def But (g : Nat) (w w' : World) : Prop := ∀ B w0, Below B w0 w → B ≤ g → Below B w0 w'
theorem But.refl (g : Nat) (w : World) : But g w w := fun _ _ h _ => h
theorem But.trans {g : Nat} {w w1 w2 : World} (h : But g w w1) (k : But g w1 w2) : But g w w2 := fun B w0 hb hB => k B w0 (h B w0 hb hB) hB
theorem But.of_below {g : Nat} {w w' : World} (hg : g < w.heap.size) (h : Below w.heap.size w w') : But g w w' := fun B w0 hb hB => hb.trans (h.mono (by omega))
theorem But.set {g : Nat} {w w1 : World} (h : But g w w1) (k : Nat) (v : Value) : But g w (w1.setCell ⟨g, k, none⟩ v) := fun B w0 hb hB => (h B w0 hb hB).setCell (p := ⟨g, k, none⟩) hB v
/-- The state of the sort: a list in the place of ds, in order up to k. -/
def InsSt (g : Nat) (ds : List NP) (w : World) (k : Nat) (wr : World) : Prop := ∃ cur : List NP, NetsAt wr g cur ∧ cur.Perm ds ∧ Risen cur k ∧ But g w wr
set_option maxRecDepth 100000 in
set_option maxHeartbeats 2000000 in
theorem insertion_any (g cap : Nat) (ds : List NP) (w : World) (h12 : ds.length ≤ 12) (h : NetsAt w g ds) :
    Calls Tryz.prog 246 #[.slice (some ⟨g, 0, none⟩) ds.length cap, .int .i64 0, .int .i64 (ds.length : Int), .func (.func 217) #[] #[]] w fun e w' => e = .returned (.tuple #[]) ∧ InsSt g ds w ds.length w' := by
  have HO : Hid (∀ a l b m w, Calls Tryz.prog 217 #[.agg #[.int .i64 a, .int .i64 l], .agg #[.int .i64 b, .int .i64 m]] w fun e w' => e = .returned (.int .i64 (cmpN (a, l) (b, m))) ∧ Below w.heap.size w w') := netOrder_any
  have HX : Hid (NetsAt w g ds) := h
  clear h
  go_enter Tryz.func246, Tryz.ntmps246
  go_wp2_with fail
  go_loopw [8] (fun i wr => ∃ k : Nat, 1 ≤ k ∧ i = .int .i64 k ∧ (k ≤ ds.length ∨ k = 1) ∧ InsSt g ds w k wr) (fun i _ => ds.length + 1 - (intOf i).toNat)
  case atStart => exact ⟨1, Nat.le_refl _, rfl, .inr rfl, ds, HX.out, List.Perm.refl _, fun p hp => absurd hp (by omega), But.refl _ _⟩
  case round =>
    obtain ⟨k, hk1, rfl, hkl, cur, hN, hP, hR, hBt⟩ := hrel
    have hlen : cur.length = ds.length := hP.length_eq
    by_cases hlt : k < ds.length
    · have d1 : decide ((k : Int) < (ds.length : Int)) = true := by simpa using hlt
      have HC : Hid (NetsAt wr g cur ∧ cur.Perm ds ∧ Going cur k k ∧ But g w wr) := ⟨hN, hP, going_first hR, hBt⟩
      clear hN hP hR hBt
      go_wp2_with fail
      go_loopw [9] (fun i wr => ∃ j : Nat, j ≤ k ∧ i = .int .i64 j ∧ ∃ cur : List NP, NetsAt wr g cur ∧ cur.Perm ds ∧ Going cur k j ∧ But g w wr) (fun i _ => (intOf i).toNat)
      case atStart => exact ⟨k, Nat.le_refl _, rfl, cur, HC.out⟩
      case round =>
        clear HC
        obtain ⟨j, hj, rfl, cur, hN, hP, hG, hBt⟩ := hrel
        have hlen : cur.length = ds.length := hP.length_eq
        by_cases hz : j = 0
        · have HE : Hid (Risen cur (k + 1)) := going_end hG (.inl hz)
          have z0 : decide (0 < j) = false := by simp; omega
          have z1 : decide (0 < (j : Int)) = false := by simp; omega
          have HN : Hid (NetsAt wr g cur ∧ cur.Perm ds ∧ But g w wr) := ⟨hN, hP, hBt⟩
          clear hN hP hG hBt hz HO
          go_wp2_with fail
          refine wp_region_quiet_below (by kernel_rfl) (by kernel_rfl) ?_
          repeat (go_big_quiet_step (fail))
          refine wpQuiet_nil ?_
          intro w1 hw'
          obtain ⟨⟨dq, osq⟩, hw''⟩ := hw'
          have hbq := below_regrown wr dq osq
          rw [← hw''] at hbq
          clear hw'' osq dq
          obtain ⟨hN, hP, hBt⟩ := HN.out
          have HS : Hid (InsSt g ds w (k + 1) w1) := ⟨cur, hN.below hbq hN.lt, hP, HE.out, hBt.trans (But.of_below hN.lt hbq)⟩
          clear hN hP hBt HN hbq HE
          go_wp2
          go_roundw
          case rel => exact ⟨k + 1, by omega, by go_num, .inl hlt, HS.out⟩
          case measure => simp [intOf]; omega
        · obtain ⟨c0, c1, f0, f1⟩ := hN.cell j (by omega)
          obtain ⟨e0, e1, g0, g1⟩ := hN.cell (j - 1) (by omega)
          have HB : Hid (cur[j]! = cur[j]'(by omega) ∧ cur[j - 1]! = cur[j - 1]'(by omega)) := ⟨getElem!_pos _ _ _, getElem!_pos _ _ _⟩
          generalize hX : cur[j]'(by omega) = X at *
          generalize hY : cur[j - 1]'(by omega) = Y at *
          obtain ⟨a, l⟩ := X
          obtain ⟨b, m⟩ := Y
          simp only at c0 c1 e0 e1
          have HOk : Hid (∀ w, Calls Tryz.prog 217 #[.agg #[.int .i64 a, .int .i64 l], .agg #[.int .i64 b, .int .i64 m]] w fun e w' => e = .returned (.int .i64 (cmpN (a, l) (b, m))) ∧ Below w.heap.size w w') := HO.out a l b m
          have HA : Hid (ahead cur[j]! cur[j - 1]! = decide (cmpN (a, l) (b, m) < 0)) := by show _ = _; rw [HB.out.1, HB.out.2]; rfl
          have z0 : decide (0 < j) = true := by simp; omega
          have z1 : decide (0 < (j : Int)) = true := by simp; omega
          have z2 : IntKind.i64.wrap ((j : Int) - 1) = ((j - 1 : Nat) : Int) := by rw [wrap_i64_in _ (by omega) (by omega)]; omega
          have z3 : (j : Int) - 1 = ((j - 1 : Nat) : Int) := by omega
          have z4 : decide (((j - 1 : Nat) : Int) < (ds.length : Int)) = true := by simp; omega
          have z5 : j - 1 < ds.length := by omega
          have z6 : j < ds.length := by omega
          have z7 : decide ((j : Int) < (ds.length : Int)) = true := by simp; omega
          have hj0 : 0 < j := by omega
          have HN : Hid (NetsAt wr g cur ∧ cur.Perm ds ∧ Going cur k j ∧ But g w wr) := ⟨hN, hP, hG, hBt⟩
          clear hN hP hG hBt hX hY HO
          generalize cmpN (a, l) (b, m) = C at *
          replace c0 := cell_regrown c0
          replace c1 := cell_regrown c1
          replace e0 := cell_regrown e0
          replace e1 := cell_regrown e1
          go_wp2_with fail
          refine wp_region_quiet_below (by kernel_rfl) (by kernel_rfl) ?_
          repeat (go_big_quiet_step ((go_at_call 217; exact Calls.regrown_of (HOk.out _))))
          refine wpQuiet_nil ?_
          intro w1 hw'
          obtain ⟨⟨dq, osq⟩, hw''⟩ := hw'
          have hbq := below_regrown wr dq osq
          rw [← hw''] at hbq
          clear hw'' osq dq c0 c1 e0 e1 f0 f1 g0 g1 HOk
          obtain ⟨hN, hP, hG, hBt⟩ := HN.out
          have hN1 := hN.below hbq hN.lt
          have hB1 := hBt.trans (But.of_below hN.lt hbq)
          clear hN hBt hbq HN
          by_cases hC : C < 0
          · have dC : decide (C < 0) = true := decide_eq_true hC
            obtain ⟨c0, c1, f0, f1⟩ := hN1.cell j (by omega)
            obtain ⟨e0, e1, g0, g1⟩ := hN1.cell (j - 1) (by omega)
            have hbp := HB.out
            rw [getElem!_pos cur j (by omega), getElem!_pos cur (j - 1) (by omega)] at hbp
            rw [hbp.1] at c0 c1
            rw [hbp.2] at e0 e1
            have ho1 : ¬ j * 2 = (j - 1) * 2 := by omega
            have ho2 : ¬ j * 2 + 1 = (j - 1) * 2 := by omega
            have ho3 : ¬ j * 2 = (j - 1) * 2 + 1 := by omega
            have ho4 : ¬ j * 2 + 1 = (j - 1) * 2 + 1 := by omega
            have ho5 : ¬ (j - 1) * 2 = j * 2 := by omega
            have ho6 : ¬ (j - 1) * 2 = j * 2 + 1 := by omega
            have ho7 : ¬ (j - 1) * 2 + 1 = j * 2 := by omega
            have ho8 : ¬ (j - 1) * 2 + 1 = j * 2 + 1 := by omega
            have HS : Hid (NetsAt w1 g cur ∧ cur.Perm ds ∧ Going cur k j ∧ But g w w1 ∧ ahead cur[j]! cur[j - 1]! = true) := ⟨hN1, hP, hG, hB1, by rw [HA.out]; exact dC⟩
            clear hN1 hP hB1 hG HA hbp
            go_wp2_with fail
            go_region
            have hsw : swapN cur j = (cur.set j (b, m)).set (j - 1) (a, l) := by unfold swapN; rw [HB.out.1, HB.out.2]
            obtain ⟨hN, hP, hG, hB, hA⟩ := HS.out
            have hZ : NetsAt ((((w1.setCell ⟨g, j * 2, none⟩ (.int .i64 b)).setCell ⟨g, j * 2 + 1, none⟩ (.int .i64 m)).setCell ⟨g, (j - 1) * 2, none⟩ (.int .i64 a)).setCell ⟨g, (j - 1) * 2 + 1, none⟩ (.int .i64 l)).drew g (swapN cur j) := by
              rw [hsw]
              exact (hN.set j (by omega) (b, m)).set (j - 1) (by rw [List.length_set]; omega) (a, l)
            have hBZ : But g w ((((w1.setCell ⟨g, j * 2, none⟩ (.int .i64 b)).setCell ⟨g, j * 2 + 1, none⟩ (.int .i64 m)).setCell ⟨g, (j - 1) * 2, none⟩ (.int .i64 a)).setCell ⟨g, (j - 1) * 2 + 1, none⟩ (.int .i64 l)).drew := fun B w0 hb hBg => (((((hB.set _ _).set _ _).set _ _).set _ _) B w0 hb hBg).drew
            have HF : Hid (NetsAt _ g (swapN cur j) ∧ (swapN cur j).Perm ds ∧ Going (swapN cur j) k (j - 1) ∧ But g w _) := ⟨hZ, (swapN_perm cur j hj0 (by omega)).trans hP, going_next (by omega) hj0 hG hA, hBZ⟩
            clear hZ hBZ hsw hN hP hG hB hA HS HB c0 c1 e0 e1 f0 f1 g0 g1 ho1 ho2 ho3 ho4 ho5 ho6 ho7 ho8
            generalize ((((w1.setCell ⟨g, j * 2, none⟩ (.int .i64 b)).setCell ⟨g, j * 2 + 1, none⟩ (.int .i64 m)).setCell ⟨g, (j - 1) * 2, none⟩ (.int .i64 a)).setCell ⟨g, (j - 1) * 2 + 1, none⟩ (.int .i64 l)).drew = Z at *
            go_wp2
            go_roundw
            case rel => exact ⟨j - 1, by omega, by first | rfl | go_num, _, HF.out⟩
            case measure => simp [intOf]; omega
          · have dC : decide (C < 0) = false := decide_eq_false hC
            have HS : Hid (InsSt g ds w (k + 1) w1) := ⟨cur, hN1, hP, going_end hG (.inr (by rw [HA.out]; exact dC)), hB1⟩
            clear hN1 hP hB1 hG HA HB
            go_wp2
            go_roundw
            case rel => exact ⟨k + 1, by omega, by go_num, .inl hlt, HS.out⟩
            case measure => simp [intOf]; omega
    · have d1 : decide ((k : Int) < (ds.length : Int)) = false := by simpa using hlt
      have HS : Hid (InsSt g ds w ds.length wr) := ⟨cur, hN, hP, fun p hp => hR p (by omega), hBt⟩
      clear hN hP hR hBt HO HX
      go_wp2
      refine bodyPost_end (v := .tuple #[]) (by simp [results, Tryz.results246, go_sem]) rfl ⟨rfl, HS.out⟩
set_option maxRecDepth 100000 in
set_option maxHeartbeats 1000000 in
theorem pdq_any (g cap : Nat) (ds : List NP) (r : Int) (w : World) (h12 : ds.length ≤ 12) (h : NetsAt w g ds) :
    Calls Tryz.prog 244 #[.slice (some ⟨g, 0, none⟩) ds.length cap, .int .i64 0, .int .i64 (ds.length : Int), .int .i64 r, .func (.func 217) #[] #[]] w fun e w' => e = .returned (.tuple #[]) ∧ InsSt g ds w ds.length w' := by
  have HI : Hid (Calls Tryz.prog 246 #[.slice (some ⟨g, 0, none⟩) ds.length cap, .int .i64 0, .int .i64 (ds.length : Int), .func (.func 217) #[] #[]] w fun e w' => e = .returned (.tuple #[]) ∧ InsSt g ds w ds.length w') := insertion_any g cap ds w h12 h
  have d1 : decide ((ds.length : Int) ≤ 12) = true := by simp; omega
  clear h
  go_enter Tryz.func244, Tryz.ntmps244
  go_wp2_with fail
  refine wp_loop_once ?_
  go_wp2_with fail
  refine (HI.out).mono ?_
  rintro e w1 ⟨rfl, h1⟩
  have HS : Hid _ := h1
  clear h1 HI
  go_wp2
  refine bodyPost_ret (v := .tuple #[]) (by simp [results, Tryz.results244, go_sem]) rfl ⟨rfl, HS.out⟩
set_option maxRecDepth 100000 in
set_option maxHeartbeats 1000000 in
/-- slices.SortFunc of a few nets by netOrder. -/
theorem sortFunc_any (g cap : Nat) (ds : List NP) (w : World) (h12 : ds.length ≤ 12) (h : NetsAt w g ds) :
    Calls Tryz.prog 241 #[.slice (some ⟨g, 0, none⟩) ds.length cap, .func (.func 217) #[] #[]] w fun e w' => e = .returned (.tuple #[]) ∧ InsSt g ds w ds.length w' := by
  have HP : Hid (∀ r, Calls Tryz.prog 244 #[.slice (some ⟨g, 0, none⟩) ds.length cap, .int .i64 0, .int .i64 (ds.length : Int), .int .i64 r, .func (.func 217) #[] #[]] w fun e w' => e = .returned (.tuple #[]) ∧ InsSt g ds w ds.length w') := fun r => pdq_any g cap ds r w h12 h
  have HL : Hid (Calls Tryz.prog 245 #[.int .u64 (ds.length : Int)] w fun e w' => ∃ r, e = .returned (.int .i64 r) ∧ w = w') := bitsLen_small ds.length h12 w
  clear h
  go_enter Tryz.func241, Tryz.ntmps241
  go_wp2_with fail
  refine (HL.out).mono ?_
  rintro e w1 ⟨r, rfl, rfl⟩
  go_wp2_with fail
  refine (HP.out r).mono ?_
  rintro e w1 ⟨rfl, h1⟩
  have HS : Hid _ := h1
  clear h1 HP HL
  go_wp2
  refine bodyPost_end (v := .tuple #[]) (by simp [results, Tryz.results241, go_sem]) rfl ⟨rfl, HS.out⟩
end Go.Proofs.YtialedffpaoacaaGreatDoor
