/- The walk of the law on macs. -/
import Derived.Test.YtjbmpcjhcdlflaaDoorDrawMac
import Derived.Test.YtjbmpcjhcdlflaaDoorStretch
import Derived.Test.YtjbmpcjhcdlflaaDoorLaidKeys
namespace Go.Proofs.YtjbmpcjhcdlflaaDoor
open Go.RowKit

set_option maxRecDepth 100000 in
set_option maxHeartbeats 1000000 in
theorem lwPad_any (key : ByteArray) (m : UInt8) (M : Int) (hM : M = (m.toNat : Int)) (w : World) (hz : key.size ≤ 64) :
    Calls Tryd.prog 9 #[.string key, .int .u8 M] w fun e w' => e = .returned (.string ⟨(padK key.data.toList m).toArray⟩) ∧ Below w.heap.size w w' := by
  subst hM
  have hz1 : key.data.toList.length = key.size := by simp
  have HO : Hid (overB (List.replicate 64 0) 0 key.data.toList = key.data.toList ++ List.replicate (64 - key.data.toList.length) 0) := over_key _
  have hll : (key.data.toList ++ List.replicate (64 - key.data.toList.length) (0 : UInt8)).length = 64 := by simp; omega
  have HA : Hid (maskTo (key.data.toList ++ List.replicate (64 - key.data.toList.length) 0) m 64 = padK key.data.toList m) := by
    have := maskTo_all (key.data.toList ++ List.replicate (64 - key.data.toList.length) 0) m
    rw [hll] at this
    exact this
  generalize key.data.toList ++ List.replicate (64 - key.data.toList.length) (0 : UInt8) = l at *
  generalize padK key.data.toList m = R at *
  go_enter Tryd.func9, Tryd.ntmps9
  go_wp2_with (at_make; refine wpList_make_bytes rfl _ _ 22 rfl 5 Tryd.underlying22 Tryd.infoB _ 64 rfl rfl rfl (by omega) w.heap.size w (Below.refl _ _) (Nat.le_refl _) ?_)
  intro w1 hr1 hb1 hs1
  obtain ⟨w2, hr2, hb2, hs2, hrun2⟩ := copy_text_run (P := Tryd.prog) 22 9 3 5 Tryd.underlying22 Tryd.infoS (some ⟨w.heap.size, 0, none⟩) 64 64 key 0 hr1 (by omega) (fun _ => rfl) (by simp; omega) hb1 (Nat.le_refl _)
  have r2 : Row w2 w.heap.size 5 (cellsB (maskTo l m 0)) := by
    have h : RowB w2 w.heap.size 5 (overB (List.replicate 64 0) 0 key.data.toList) := hr2
    rw [HO.out] at h
    exact h
  clear hr1 hb1 hs1 hr2 hs2
  go_wp2_with fail
  go_loopw [6] (fun i wr => ∃ k : Nat, k ≤ 64 ∧ i = .int .i64 k ∧ Row wr w.heap.size 5 (cellsB (maskTo l m k)) ∧ Below w.heap.size w wr) (fun i _ => 64 - (intOf i).toNat)
  case atStart => exact ⟨0, by omega, rfl, r2, hb2⟩
  case round =>
    clear r2 hb2 hrun2
    obtain ⟨k, hk, rfl, q1, hbel⟩ := hrel
    have hlk := maskTo_length l m k (by omega)
    by_cases hlt : k < 64
    · have c1 := q1.cell k
      have f1 := q1.frozen k
      rw [cellsB_get _ _ (by omega), maskTo_get _ _ _ (by omega)] at c1
      have HS := maskTo_set l m k (by omega)
      have HX : Hid _ := xor_u8 (l.getD k 0) m
      generalize l.getD k 0 = x at *
      go_wp2_with fail
      go_roundw
      case rel =>
        refine ⟨k + 1, by omega, by go_num, ?_, hbel.setCell (Nat.le_refl _) _⟩
        have h := q1.set k (.int .u8 ((x ^^^ m).toNat : Int))
        rw [cellsB_set, HS, ← HX.out] at h
        exact h
      case measure => simp [intOf]; omega
    · obtain rfl : k = 64 := by omega
      rw [HA.out] at q1
      have hRl : R.length = 64 := by rw [← HA.out, maskTo_length l m 64 (by omega)]; exact hll
      have hRB : RowB wr w.heap.size 5 R := q1
      have hc := hRB.conv (n := 64) ⟨R.toArray⟩ rfl (by show 64 = R.toArray.size; simp [hRl]) (by omega)
      go_wp2
      go_ret
      exact ⟨rfl, hbel⟩
theorem below_next {w w1 w2 : World} (h : Below w.heap.size w w1) (k : Below w1.heap.size w1 w2) : Below w.heap.size w w2 := h.trans (k.mono h.size)
theorem stretch_next (p : ByteArray) (n : Int) (hp : p.size ≤ 8000) (h1 : 1 ≤ n) (h2 : n ≤ 99) : stretchV p (n + 1) = macV p (stretchV p n) := by
  rw [stretchV_in p n hp h1 (by omega), stretchV_in p (n + 1) hp (by omega) (by omega), macV_in _ _ hp (by have := stretchT_size p n.toNat; omega)]
  rw [show (n + 1).toNat = n.toNat + 1 by omega]
  rfl
set_option maxRecDepth 100000 in
set_option maxHeartbeats 4000000 in
theorem fnMac_walk (b0 : Option Addr) (len0 cap0 : Nat) (z0 : List Int) (b1 : Option Addr) (len1 cap1 : Nat) (z1 : List Int) (w : World) (w0 : IsRow .u8 w b0 len0 cap0 z0) (w1 : IsRow .u8 w b1 len1 cap1 z1) (hg : Laid w) :
    Calls Tryd.prog 3 #[.slice b0 len0 cap0, .slice b1 len1 cap1] w fun e w' => e = .returned (.bool true) ∧ Below w.heap.size w w' := by
  have hcc := Code.of_row w0
  have hcm := Code.of_row w1
  have hlen0 := w0.len
  have hlen1 := w1.len
  have HG : Hid (Laid w) := hg
  clear w0 w1 hg
  by_cases hl : len0 ≤ 1048576 ∧ len1 ≤ 1048576
  · obtain ⟨hl0, hl1⟩ := hl
    have d0 : decide ((1048576 : Int) < (len0 : Int)) = false := by simp; omega
    have d1 : decide ((1048576 : Int) < (len1 : Int)) = false := by simp; omega
    go_enter Tryd.func3, Tryd.ntmps3
    go_wp2_with fail
    refine (drawMac_any b0 len0 cap0 _ hcc hl0).mono ?_
    rintro e wa ⟨k, t, rfl, hk, ht, hba⟩
    clear hcc d0 d1
    by_cases hk64 : k.size ≤ 64
    · have d2 : decide ((k.size : Int) ≤ 64) = true := by simp; omega
      have d3 : decide ((t.size : Int) ≤ 7936) = true := by simp; omega
      have HM : Hid (digestT (⟨(padK k.data.toList 92).toArray⟩ ++ digestT (⟨(padK k.data.toList 54).toArray⟩ ++ t)) = macT k t) := by
        have h := smac_eq k t
        rw [show keyT k = k from if_pos hk64] at h
        exact h
      have HV : Hid (macV k t = macT k t) := macV_in k t (by omega) (by omega)
      go_wp2_with fail
      refine (lwPad_any k 54 _ rfl _ hk64).mono ?_
      rintro e wb ⟨rfl, hbb⟩
      have hbb2 := below_next hba hbb
      have p54 := padT_size k 54 hk64
      generalize (⟨(padK k.data.toList 54).toArray⟩ : ByteArray) = P54 at *
      have sj : (P54 ++ t).size = P54.size + t.size := by simp
      go_wp2_with fail
      refine (implDigest_any (P54 ++ t) _ (by omega) (HG.out.below hbb2)).mono ?_
      rintro e wc ⟨rfl, hbc⟩
      have hbc2 := below_next hbb2 hbc
      rw [digestV_in (P54 ++ t) (by omega)]
      have sd := digestT_size (P54 ++ t)
      generalize digestT (P54 ++ t) = DJ at *
      go_wp2_with fail
      refine (implMac_any k t _ (by omega) (by omega) (HG.out.below hbc2)).mono ?_
      rintro e wd ⟨rfl, hbd⟩
      rw [HV.out]
      have hbd2 := below_next hbc2 hbd
      go_wp2_with fail
      refine (lwPad_any k 92 _ rfl _ hk64).mono ?_
      rintro e we ⟨rfl, hbe⟩
      have hbe2 := below_next hbd2 hbe
      have p92 := padT_size k 92 hk64
      generalize (⟨(padK k.data.toList 92).toArray⟩ : ByteArray) = P92 at *
      have sk : (P92 ++ DJ).size = P92.size + DJ.size := by simp
      go_wp2_with fail
      refine (implDigest_any (P92 ++ DJ) _ (by omega) (HG.out.below hbe2)).mono ?_
      rintro e wf ⟨rfl, hbf⟩
      have hbf2 := below_next hbe2 hbf
      rw [digestV_in (P92 ++ DJ) (by omega), HM.out]
      have d4 : ((DJ.size : Int) != 32) = false := by simp; omega
      clear hba hbb hbb2 hbc hbc2 hbd hbd2 hbe hbe2 hbf
      go_wp2_with fail
      refine (drawDigest_any b1 len1 cap1 _ ((hcm.below hbf2).mono hbf2.size) hl1).mono ?_
      rintro e wg ⟨u, rfl, hu, hbg⟩
      have hbg2 := below_next hbf2 hbg
      go_wp2_with fail
      refine (drawStretch_any b1 len1 cap1 _ ((hcm.below hbg2).mono hbg2.size) hl1).mono ?_
      rintro e wh ⟨p, n, rfl, hp, hn0, hn1, hbh⟩
      have hbh2 := below_next hbg2 hbh
      clear hbf2 hbg hbg2 hbh hcm
      go_wp2_with fail
      refine (implDigest_any u _ (by omega) (HG.out.below hbh2)).mono ?_
      rintro e wi ⟨rfl, hbi⟩
      have hbi2 := below_next hbh2 hbi
      go_wp2_with fail
      refine (specDigest_any u _ (by omega)).mono ?_
      rintro e wj ⟨rfl, hbj⟩
      have hbj2 := below_next hbi2 hbj
      clear hbh2 hbi hbi2 hbj
      generalize digestV u = DU at *
      go_wp2_with fail
      refine (implStretch_any p n _ (by omega) hn0 hn1 (HG.out.below hbj2)).mono ?_
      rintro e wk ⟨rfl, hbk⟩
      have hbk2 := below_next hbj2 hbk
      go_wp2_with fail
      refine (specStretch_any p n _ (by omega) hn0 hn1).mono ?_
      rintro e wl' ⟨rfl, hbl⟩
      have hbl2 := below_next hbk2 hbl
      clear hbj2 hbk hbk2 hbl
      by_cases hn : 1 ≤ n ∧ n ≤ 99
      · obtain ⟨hna, hnb⟩ := hn
        have HNX : Hid _ := stretch_next p n (by omega) hna hnb
        have d5 : decide (n < 1) = false := by simp; omega
        have d6 : decide (99 < n) = false := by simp; omega
        have hss : (stretchV p n).size ≤ 1048576 := by
          rw [stretchV_in p n (by omega) hna (by omega)]
          have := stretchT_size p n.toNat
          omega
        have HST : Hid (∀ w, Laid w → Calls Tryd.prog 14 #[.string p, .int .i64 n] w fun e w' => e = .returned (.string (stretchV p n)) ∧ Below w.heap.size w w') := fun w hw => implStretch_any p n w (by omega) hn0 hn1 hw
        have HSN : Hid (∀ w, Laid w → Calls Tryd.prog 14 #[.string p, .int .i64 (n + 1)] w fun e w' => e = .returned (.string (stretchV p (n + 1))) ∧ Below w.heap.size w w') := fun w hw => implStretch_any p (n + 1) w (by omega) (by omega) (by omega) hw
        generalize stretchV p (n + 1) = SN at *
        generalize stretchV p n = S0 at *
        go_wp2_with fail
        refine (HSN.out _ (HG.out.below hbl2)).mono ?_
        rintro e wm ⟨rfl, hbm⟩
        have hbm2 := below_next hbl2 hbm
        go_wp2_with fail
        refine (HST.out _ (HG.out.below hbm2)).mono ?_
        rintro e wn ⟨rfl, hbn⟩
        have hbn2 := below_next hbm2 hbn
        go_wp2_with fail
        refine (implMac_any p S0 _ (by omega) hss (HG.out.below hbn2)).mono ?_
        rintro e wo ⟨rfl, hbo⟩
        have hbo2 := below_next hbn2 hbo
        rw [← HNX.out]
        go_wp2
        go_ret
        exact ⟨rfl, hbo2⟩
      · generalize stretchV p n = S0 at *
        have hor : n < 1 ∨ (1 ≤ n ∧ 99 < n) := by omega
        clear hn
        rcases hor with hor | ⟨hor, hor2⟩
        · have d5 : decide (n < 1) = true := by simpa using hor
          go_wp2
          go_ret
          exact ⟨rfl, hbl2⟩
        · have d5 : decide (n < 1) = false := by simp; omega
          have d6 : decide (99 < n) = true := by simpa using hor2
          go_wp2
          go_ret
          exact ⟨rfl, hbl2⟩
    · have d2 : decide ((k.size : Int) ≤ 64) = false := by simp; omega
      go_wp2_with fail
      refine (drawDigest_any b1 len1 cap1 _ ((hcm.below hba).mono hba.size) hl1).mono ?_
      rintro e wg ⟨u, rfl, hu, hbg⟩
      have hbg2 := below_next hba hbg
      go_wp2_with fail
      refine (drawStretch_any b1 len1 cap1 _ ((hcm.below hbg2).mono hbg2.size) hl1).mono ?_
      rintro e wh ⟨p, n, rfl, hp, hn0, hn1, hbh⟩
      have hbh2 := below_next hbg2 hbh
      clear hba hbg hbg2 hbh hcm
      go_wp2_with fail
      refine (implDigest_any u _ (by omega) (HG.out.below hbh2)).mono ?_
      rintro e wi ⟨rfl, hbi⟩
      have hbi2 := below_next hbh2 hbi
      go_wp2_with fail
      refine (specDigest_any u _ (by omega)).mono ?_
      rintro e wj ⟨rfl, hbj⟩
      have hbj2 := below_next hbi2 hbj
      clear hbh2 hbi hbi2 hbj
      generalize digestV u = DU at *
      go_wp2_with fail
      refine (implStretch_any p n _ (by omega) hn0 hn1 (HG.out.below hbj2)).mono ?_
      rintro e wk ⟨rfl, hbk⟩
      have hbk2 := below_next hbj2 hbk
      go_wp2_with fail
      refine (specStretch_any p n _ (by omega) hn0 hn1).mono ?_
      rintro e wl' ⟨rfl, hbl⟩
      have hbl2 := below_next hbk2 hbl
      clear hbj2 hbk hbk2 hbl
      by_cases hn : 1 ≤ n ∧ n ≤ 99
      · obtain ⟨hna, hnb⟩ := hn
        have HNX : Hid _ := stretch_next p n (by omega) hna hnb
        have d5 : decide (n < 1) = false := by simp; omega
        have d6 : decide (99 < n) = false := by simp; omega
        have hss : (stretchV p n).size ≤ 1048576 := by
          rw [stretchV_in p n (by omega) hna (by omega)]
          have := stretchT_size p n.toNat
          omega
        have HST : Hid (∀ w, Laid w → Calls Tryd.prog 14 #[.string p, .int .i64 n] w fun e w' => e = .returned (.string (stretchV p n)) ∧ Below w.heap.size w w') := fun w hw => implStretch_any p n w (by omega) hn0 hn1 hw
        have HSN : Hid (∀ w, Laid w → Calls Tryd.prog 14 #[.string p, .int .i64 (n + 1)] w fun e w' => e = .returned (.string (stretchV p (n + 1))) ∧ Below w.heap.size w w') := fun w hw => implStretch_any p (n + 1) w (by omega) (by omega) (by omega) hw
        generalize stretchV p (n + 1) = SN at *
        generalize stretchV p n = S0 at *
        go_wp2_with fail
        refine (HSN.out _ (HG.out.below hbl2)).mono ?_
        rintro e wm ⟨rfl, hbm⟩
        have hbm2 := below_next hbl2 hbm
        go_wp2_with fail
        refine (HST.out _ (HG.out.below hbm2)).mono ?_
        rintro e wn ⟨rfl, hbn⟩
        have hbn2 := below_next hbm2 hbn
        go_wp2_with fail
        refine (implMac_any p S0 _ (by omega) hss (HG.out.below hbn2)).mono ?_
        rintro e wo ⟨rfl, hbo⟩
        have hbo2 := below_next hbn2 hbo
        rw [← HNX.out]
        go_wp2
        go_ret
        exact ⟨rfl, hbo2⟩
      · generalize stretchV p n = S0 at *
        have hor : n < 1 ∨ (1 ≤ n ∧ 99 < n) := by omega
        clear hn
        rcases hor with hor | ⟨hor, hor2⟩
        · have d5 : decide (n < 1) = true := by simpa using hor
          go_wp2
          go_ret
          exact ⟨rfl, hbl2⟩
        · have d5 : decide (n < 1) = false := by simp; omega
          have d6 : decide (99 < n) = true := by simpa using hor2
          go_wp2
          go_ret
          exact ⟨rfl, hbl2⟩
  · have hor : (1048576 < len0) ∨ (len0 ≤ 1048576 ∧ 1048576 < len1) := by omega
    clear hl
    rcases hor with hor | ⟨hor, hor2⟩
    all_goals
      go_enter Tryd.func3, Tryd.ntmps3
      go_wp2_with fail
      all_goals first
        | (exfalso; omega; done)
        | (go_ret
           exact ⟨rfl, Below.refl _ _⟩)
end Go.Proofs.YtjbmpcjhcdlflaaDoor
