/- The walk of the law on nets. -/
import Derived.Test.YtchgnjpbjnkdmaaDrawNets2
import Derived.Test.YtchgnjpbjnkdmaaNetsMath
import Derived.Test.YtchgnjpbjnkdmaaWithinS
import Derived.Test.YtchgnjpbjnkdmaaCoversS
import Derived.Test.YtchgnjpbjnkdmaaNetOfS
import Derived.Deep.CutRange
import Derived.Deep.RegionHeld3
namespace Go.Proofs.Ytchgnjpbjnkdmaa
open Go.RowKit Go.Sort

theorem below_next {B : Nat} {w w1 w2 : World} (h : Below B w w1) (h2 : Below w1.heap.size w1 w2) (hB : B ≤ w1.heap.size) : Below B w w2 := h.trans (h2.mono hB)
/-- A net in a block of its own. -/
def NetAt (w : World) (b : Nat) (x y : Int) : Prop := w.cell? ⟨b, 0, none⟩ = some (.int .i64 x) ∧ w.cell? ⟨b, 1, none⟩ = some (.int .i64 y)
theorem NetAt.new (w : World) (x y : Int) : NetAt (w.alloc (.cells #[.int .i64 x, .int .i64 y] 26)) w.heap.size x y := ⟨cell2_0 _ _ _ _, cell2_1 _ _ _ _⟩
theorem NetAt.below {w w' : World} {b : Nat} {x y : Int} (h : NetAt w b x y) (hb : Below w.heap.size w w') : NetAt w' b x y :=
  ⟨by rw [hb.cell (p := ⟨b, 0, none⟩) (World.block_lt_of_cell? w _ h.1)]; exact h.1, by rw [hb.cell (p := ⟨b, 1, none⟩) (World.block_lt_of_cell? w _ h.2)]; exact h.2⟩
theorem NetAt.alloc {w : World} {b : Nat} {x y : Int} (h : NetAt w b x y) (o : Obj) : NetAt (w.alloc o) b x y := h.below ((Below.refl _ _).alloc (Nat.le_refl _) _)
theorem NetAt.belowD {w w' : World} {b : Nat} {x y : Int} (h : NetAt w b x y) (hb : Below w.drew.heap.size w.drew w') : NetAt w' b x y := NetAt.below (w := w.drew) h hb
theorem NetAt.regrown {w : World} {b : Nat} {x y : Int} (h : NetAt w b x y) : (∀ d os, (grow (redrawn w d) os).cell? ⟨b, 0, none⟩ = some (.int .i64 x)) ∧ (∀ d os, (grow (redrawn w d) os).cell? ⟨b, 1, none⟩ = some (.int .i64 y)) := ⟨cell_regrown h.1, cell_regrown h.2⟩
theorem halvesYes {w w' : World} {a l : Int} {v : Value} (h : HalvesAt w w' a l v) (hb : halfB a l = true) : ∃ g, v = .slice (some ⟨g, 0, none⟩) 2 2 ∧ w.heap.size ≤ g ∧ Row w' g 26 (nets2 a (l + 1) (a + (gap (l + 1) : Int)) (l + 1)) := by
  unfold HalvesAt at h; rwa [if_pos hb] at h
theorem halvesNo {w w' : World} {a l : Int} {v : Value} (h : HalvesAt w w' a l v) (hb : ¬ halfB a l = true) : ∃ x c, v = .slice x 0 c := by
  unfold HalvesAt at h; rwa [if_neg hb] at h
theorem cells4N {w : World} {g : Nat} {t : TypeId} {a l b m : Int} (h : Row w g t (nets2 a l b m)) : w.cell? ⟨g, 0, none⟩ = some (.int .i64 a) ∧ w.cell? ⟨g, 1, none⟩ = some (.int .i64 l) ∧ w.cell? ⟨g, 2, none⟩ = some (.int .i64 b) ∧ w.cell? ⟨g, 3, none⟩ = some (.int .i64 m) :=
  ⟨h.cell 0, h.cell 1, h.cell 2, h.cell 3⟩
set_option maxRecDepth 100000 in
set_option maxHeartbeats 40000000 in
theorem fnNets_walk (b0 : Option Addr) (len0 cap0 : Nat) (z0 : List Int) (b1 : Option Addr) (len1 cap1 : Nat) (z1 : List Int) (w : World) (w0 : IsRow .u8 w b0 len0 cap0 z0) (w1 : IsRow .u8 w b1 len1 cap1 z1) :
    Calls Try.prog 3 #[.slice b0 len0 cap0, .slice b1 len1 cap1] w fun e w' => e = .returned (.bool true) ∧ Below w.heap.size w w' := by
  have hcc := Code.of_row w0
  have hcm := Code.of_row w1
  have hlen0 := w0.len
  have hlen1 := w1.len
  clear w0 w1
  by_cases hl : len0 ≤ 1048576 ∧ len1 ≤ 1048576
  · obtain ⟨hl0, hl1⟩ := hl
    have d0 : decide ((1048576 : Int) < (len0 : Int)) = false := by simp; omega
    have d1 : decide ((1048576 : Int) < (len1 : Int)) = false := by simp; omega
    go_enter Try.func3, Try.ntmps3
    go_wp2_with fail
    refine (drawNetOf_any b0 len0 cap0 _ hcc hl0).mono ?_
    rintro e wa ⟨A, L, rfl, hA0, hA1, hL0, hL1, hba⟩
    clear d0 d1
    go_wp2_with fail
    refine (implNetOf_any A L _).mono ?_
    rintro e wb ⟨rfl, hbb⟩
    have hBb := below_next hba hbb hba.size
    have HN : Hid (netA A L = netA A L ∧ netN A L = netN A L) := ⟨rfl, rfl⟩
    clear hba hbb
    have n7 := NetAt.new wb (netA A L) (netN A L)
    have hB7 := hBb.alloc hBb.size (.cells #[.int .i64 (netA A L), .int .i64 (netN A L)] 26)
    have hc7 := (hcm.below hB7).mono hB7.size
    unfold netV
    go_wp2_with fail
    refine (drawCovers_any b1 len1 cap1 _ hc7 hl1).mono ?_
    rintro e wc ⟨cx, cy, bq, rfl, hx0, hx1, hy0, hy1, hq0, hq1, hbc⟩
    have hBc := below_next hB7 hbc hB7.size
    have m7 := n7.below hbc
    clear hBb n7 hB7 hc7 hbc
    have n8 := NetAt.new wc cx cy
    have m7a := m7.alloc (.cells #[.int .i64 cx, .int .i64 cy] 26)
    have hB8 := hBc.alloc hBc.size (.cells #[.int .i64 cx, .int .i64 cy] 26)
    have hc8 := (hcc.below hB8).mono hB8.size
    clear m7 hBc
    go_wp2_with fail
    refine (drawWithin_any b0 len0 cap0 _ hc8 hl0).mono ?_
    rintro e wd ⟨wx, wy, vx, vy, rfl, _, _, _, _, _, _, _, _, hbd⟩
    have hBd := below_next hB8 hbd hB8.size
    have p7 := ((m7a.below hbd).alloc (.cells #[.int .i64 wx, .int .i64 wy] 26)).alloc (.cells #[.int .i64 vx, .int .i64 vy] 26)
    have p8 := ((n8.below hbd).alloc (.cells #[.int .i64 wx, .int .i64 wy] 26)).alloc (.cells #[.int .i64 vx, .int .i64 vy] 26)
    have p10 := (NetAt.new wd wx wy).alloc (.cells #[.int .i64 vx, .int .i64 vy] 26)
    have p11 := NetAt.new (wd.alloc (.cells #[.int .i64 wx, .int .i64 wy] 26)) vx vy
    rw [show (wd.alloc (.cells #[.int .i64 wx, .int .i64 wy] 26)).heap.size = wd.heap.size + 1 by simp] at p11
    have hB11 := (hBd.alloc hBd.size (.cells #[.int .i64 wx, .int .i64 wy] 26)).alloc (by have := hBd.size; simp; omega) (.cells #[.int .i64 vx, .int .i64 vy] 26)
    have hc11 := (hcm.below hB11).mono hB11.size
    clear hB8 hc8 n8 m7a hbd hBd
    go_wp2_with fail
    refine (drawHalves_any b1 len1 cap1 _ hc11 hl1).mono ?_
    rintro e we ⟨sx, sy, rfl, _, _, _, _, hbe⟩
    have hBe := below_next hB11 hbe hB11.size
    have q7 := (p7.below hbe).alloc (.cells #[.int .i64 sx, .int .i64 sy] 26)
    have q8 := (p8.below hbe).alloc (.cells #[.int .i64 sx, .int .i64 sy] 26)
    have q10 := (p10.below hbe).alloc (.cells #[.int .i64 sx, .int .i64 sy] 26)
    have q11 := (p11.below hbe).alloc (.cells #[.int .i64 sx, .int .i64 sy] 26)
    have q12 := NetAt.new we sx sy
    have hB12 := hBe.alloc hBe.size (.cells #[.int .i64 sx, .int .i64 sy] 26)
    clear hB11 hc11 p7 p8 p10 p11 hbe hBe
    have HQ : Hid ((NetAt (we.alloc (.cells #[.int .i64 sx, .int .i64 sy] 26)) wb.heap.size (netA A L) (netN A L) ∧ NetAt (we.alloc (.cells #[.int .i64 sx, .int .i64 sy] 26)) wc.heap.size cx cy) ∧ (NetAt (we.alloc (.cells #[.int .i64 sx, .int .i64 sy] 26)) wd.heap.size wx wy ∧ NetAt (we.alloc (.cells #[.int .i64 sx, .int .i64 sy] 26)) (wd.heap.size + 1) vx vy) ∧ NetAt (we.alloc (.cells #[.int .i64 sx, .int .i64 sy] 26)) we.heap.size sx sy) := ⟨⟨q7, q8⟩, ⟨q10, q11⟩, q12⟩
    have HB : Hid (Below w.heap.size w (we.alloc (.cells #[.int .i64 sx, .int .i64 sy] 26))) := hB12
    clear q7 q8 q10 q11 q12 hB12
    by_cases hh : halfB sx sy = true
    · have HS : Hid (∀ w, Calls Try.prog 14 #[.agg #[.int .i64 sx, .int .i64 sy]] w fun e w' => ∃ g, e = .returned (.slice (some ⟨g, 0, none⟩) 2 2) ∧ w.heap.size ≤ g ∧ Row w' g 26 (nets2 sx (sy + 1) (sx + (gap (sy + 1) : Int)) (sy + 1)) ∧ Below w.heap.size w w') :=
        fun w => (specHalves_any sx sy w).mono fun e w' ⟨v, he, hv, hb⟩ => by obtain ⟨g, rfl, h1, h2⟩ := halvesYes hv hh; exact ⟨g, he, h1, h2, hb⟩
      have HI : Hid (∀ w, Calls Try.prog 13 #[.agg #[.int .i64 sx, .int .i64 sy]] w fun e w' => ∃ g, e = .returned (.slice (some ⟨g, 0, none⟩) 2 2) ∧ w.heap.size ≤ g ∧ Row w' g 26 (nets2 sx (sy + 1) (sx + (gap (sy + 1) : Int)) (sy + 1)) ∧ Below w.heap.size w w') :=
        fun w => (implHalves_any sx sy w).mono fun e w' ⟨v, he, hv, hb⟩ => by obtain ⟨g, rfl, h1, h2⟩ := halvesYes hv hh; exact ⟨g, he, h1, h2, hb⟩
      go_wp2_with fail
      go_region_held3 (fun w' => w'.cell? ⟨we.heap.size, 0, none⟩ = some (.int .i64 sx) ∧ w'.cell? ⟨we.heap.size, 1, none⟩ = some (.int .i64 sy))
        (first
          | exact HQ.out.2.2
          | exact HQ.out.2.2.belowD hbi
          | exact (HQ.out.2.2.belowD hbi).below hbj)
        (first
          | (go_at_call 13; refine (HI.out _).mono ?_; rintro e wi ⟨gi, rfl, hgi, ri, hbi⟩)
          | (go_at_call 14; refine (HS.out _).mono ?_; rintro e wj ⟨gj, rfl, hgj, rj, hbj⟩))
      have hBj : Below w.heap.size w wj := below_next (below_next HB.out.drew hbi HB.out.drew.size) hbj (below_next HB.out.drew hbi HB.out.drew.size).size
      have hN : ∀ b x y, NetAt (we.alloc (.cells #[.int .i64 sx, .int .i64 sy] 26)) b x y → NetAt wj b x y := fun b x y h => (h.belowD hbi).below hbj
      have ri2 := ri.below hbj ri.lt
      have hcj := (hcm.below hBj).mono hBj.size
      have hsz : wi.heap.size ≤ wj.heap.size := hbj.size
      go_wp2_with fail
      refine (drawLess_any b1 len1 cap1 _ hcj hl1).mono ?_
      rintro e wk ⟨px, py, qx, qy, rfl, hp0, hp1, hp2, hp3, hr0, hr1, hr2, hr3, hbk⟩
      have hBk := below_next hBj hbk hBj.size
      have HP : Hid ((NetAt ((wk.alloc (.cells #[.int .i64 px, .int .i64 py] 26)).alloc (.cells #[.int .i64 qx, .int .i64 qy] 26)) wb.heap.size (netA A L) (netN A L) ∧ NetAt ((wk.alloc (.cells #[.int .i64 px, .int .i64 py] 26)).alloc (.cells #[.int .i64 qx, .int .i64 qy] 26)) wc.heap.size cx cy) ∧ (NetAt ((wk.alloc (.cells #[.int .i64 px, .int .i64 py] 26)).alloc (.cells #[.int .i64 qx, .int .i64 qy] 26)) wd.heap.size wx wy ∧ NetAt ((wk.alloc (.cells #[.int .i64 px, .int .i64 py] 26)).alloc (.cells #[.int .i64 qx, .int .i64 qy] 26)) (wd.heap.size + 1) vx vy) ∧ NetAt ((wk.alloc (.cells #[.int .i64 px, .int .i64 py] 26)).alloc (.cells #[.int .i64 qx, .int .i64 qy] 26)) we.heap.size sx sy ∧ NetAt ((wk.alloc (.cells #[.int .i64 px, .int .i64 py] 26)).alloc (.cells #[.int .i64 qx, .int .i64 qy] 26)) wk.heap.size px py ∧ NetAt ((wk.alloc (.cells #[.int .i64 px, .int .i64 py] 26)).alloc (.cells #[.int .i64 qx, .int .i64 qy] 26)) (wk.heap.size + 1) qx qy) := by
        obtain ⟨⟨q7, q8⟩, ⟨q10, q11⟩, q12⟩ := HQ.out
        refine ⟨⟨?_, ?_⟩, ⟨?_, ?_⟩, ?_, ?_, ?_⟩
        · exact (((hN _ _ _ q7).below hbk).alloc _).alloc _
        · exact (((hN _ _ _ q8).below hbk).alloc _).alloc _
        · exact (((hN _ _ _ q10).below hbk).alloc _).alloc _
        · exact (((hN _ _ _ q11).below hbk).alloc _).alloc _
        · exact (((hN _ _ _ q12).below hbk).alloc _).alloc _
        · exact (NetAt.new wk px py).alloc _
        · have h := NetAt.new (wk.alloc (.cells #[.int .i64 px, .int .i64 py] 26)) qx qy
          rwa [show (wk.alloc (.cells #[.int .i64 px, .int .i64 py] 26)).heap.size = wk.heap.size + 1 by simp] at h
      have hbW : Below wk.heap.size wk ((wk.alloc (.cells #[.int .i64 px, .int .i64 py] 26)).alloc (.cells #[.int .i64 qx, .int .i64 qy] 26)) := ((Below.refl _ _).alloc (Nat.le_refl _) _).alloc (by simp) _
      have HR : Hid (Row ((wk.alloc (.cells #[.int .i64 px, .int .i64 py] 26)).alloc (.cells #[.int .i64 qx, .int .i64 qy] 26)) gi 26 (nets2 sx (sy + 1) (sx + (gap (sy + 1) : Int)) (sy + 1)) ∧ Row ((wk.alloc (.cells #[.int .i64 px, .int .i64 py] 26)).alloc (.cells #[.int .i64 qx, .int .i64 qy] 26)) gj 26 (nets2 sx (sy + 1) (sx + (gap (sy + 1) : Int)) (sy + 1))) :=
        ⟨(ri2.below hbk ri2.lt).below hbW (ri2.below hbk ri2.lt).lt, (rj.below hbk rj.lt).below hbW (rj.below hbk rj.lt).lt⟩
      have HBW : Hid (Below w.heap.size w ((wk.alloc (.cells #[.int .i64 px, .int .i64 py] 26)).alloc (.cells #[.int .i64 qx, .int .i64 qy] 26))) := below_next hBk hbW hBk.size
      clear hBk hbW hBj hN ri2 ri rj hcj hsz hbk hbi hbj HQ HB HS HI hgi hgj hx0 hx1 hy0 hy1 hp0 hp1 hp2 hp3 hr0 hr1 hr2 hr3 hcc hcm hlen0 hlen1
      have HNS : Hid (∀ w, Calls Try.prog 16 #[.int .i64 A, .int .i64 L] w fun e w' => e = .returned (.agg #[.int .i64 (netA A L), .int .i64 (netN A L)]) ∧ Below w.heap.size w w') := specNetOf_any A L
      have HCI : Hid (∀ w, Calls Try.prog 17 #[.agg #[.int .i64 cx, .int .i64 cy], .int .i64 bq] w fun e w' => e = .returned (.bool (coversB cx cy bq)) ∧ Below w.heap.size w w') := implCovers_any cx cy bq
      have HCS : Hid (∀ w, Calls Try.prog 18 #[.agg #[.int .i64 cx, .int .i64 cy], .int .i64 bq] w fun e w' => e = .returned (.bool (coversB cx cy bq)) ∧ Below w.heap.size w w') := specCovers_any cx cy bq
      have HWI : Hid (∀ w, Calls Try.prog 19 #[.agg #[.int .i64 wx, .int .i64 wy], .agg #[.int .i64 vx, .int .i64 vy]] w fun e w' => e = .returned (.bool (withinB wx wy vx vy)) ∧ Below w.heap.size w w') := implWithin_any wx wy vx vy
      have HWS : Hid (∀ w, Calls Try.prog 20 #[.agg #[.int .i64 wx, .int .i64 wy], .agg #[.int .i64 vx, .int .i64 vy]] w fun e w' => e = .returned (.bool (withinB wx wy vx vy)) ∧ Below w.heap.size w w') := specWithin_any wx wy vx vy
      have HLI : Hid (∀ w, Calls Try.prog 21 #[.agg #[.int .i64 px, .int .i64 py], .agg #[.int .i64 qx, .int .i64 qy]] w fun e w' => e = .returned (.bool (lessB px py qx qy)) ∧ Below w.heap.size w w') := implLess_any px py qx qy
      have HLS : Hid (∀ w, Calls Try.prog 22 #[.agg #[.int .i64 px, .int .i64 py], .agg #[.int .i64 qx, .int .i64 qy]] w fun e w' => e = .returned (.bool (lessB px py qx qy)) ∧ Below w.heap.size w w') := specLess_any px py qx qy
      have hneC : (coversB cx cy bq != coversB cx cy bq) = false := by simp
      have hneW : (withinB wx wy vx vy != withinB wx wy vx vy) = false := by simp
      have hneL : (lessB px py qx qy != lessB px py qx qy) = false := by simp
      obtain ⟨k0, k1⟩ := HP.out.1.1.regrown
      obtain ⟨k2, k3⟩ := HP.out.1.2.regrown
      obtain ⟨k4, k5⟩ := HP.out.2.1.1.regrown
      obtain ⟨k6, k7⟩ := HP.out.2.1.2.regrown
      obtain ⟨k8, k9⟩ := HP.out.2.2.2.1.regrown
      obtain ⟨k10, k11⟩ := HP.out.2.2.2.2.regrown
      go_wp2_with fail
      refine wp_region_quiet_below (by kernel_rfl) (by kernel_rfl) ?_
      repeat (go_big_quiet_step (first | (go_at_call 16; exact Calls.regrown_of (HNS.out _)) | (go_at_call 17; exact Calls.regrown_of (HCI.out _)) | (go_at_call 18; exact Calls.regrown_of (HCS.out _)) | (go_at_call 19; exact Calls.regrown_of (HWI.out _)) | (go_at_call 20; exact Calls.regrown_of (HWS.out _)) | (go_at_call 21; exact Calls.regrown_of (HLI.out _)) | (go_at_call 22; exact Calls.regrown_of (HLS.out _))))
      refine wpQuiet_nil ?_
      intro _ hw'
      obtain ⟨⟨dq, osq⟩, hw''⟩ := hw'
      have hbq := below_regrown ((wk.alloc (.cells #[.int .i64 px, .int .i64 py] 26)).alloc (.cells #[.int .i64 qx, .int .i64 qy] 26)) dq osq
      rw [← hw''] at hbq
      clear hw'' osq dq k0 k1 k2 k3 k4 k5 k6 k7 k8 k9 k10 k11 HNS HCS HWS HLS HCI hneC hneW hneL HLI HWI HN hl0 hl1
      rename_i w1
      have HP2 : Hid ((NetAt w1 wb.heap.size (netA A L) (netN A L) ∧ NetAt w1 wc.heap.size cx cy) ∧ (NetAt w1 wd.heap.size wx wy ∧ NetAt w1 (wd.heap.size + 1) vx vy) ∧ NetAt w1 we.heap.size sx sy ∧ NetAt w1 wk.heap.size px py ∧ NetAt w1 (wk.heap.size + 1) qx qy) := by
        obtain ⟨⟨q7, q8⟩, ⟨q10, q11⟩, q12, q13, q14⟩ := HP.out
        exact ⟨⟨q7.below hbq, q8.below hbq⟩, ⟨q10.below hbq, q11.below hbq⟩, q12.below hbq, q13.below hbq, q14.below hbq⟩
      have HR2 : Hid (Row w1 gi 26 (nets2 sx (sy + 1) (sx + (gap (sy + 1) : Int)) (sy + 1)) ∧ Row w1 gj 26 (nets2 sx (sy + 1) (sx + (gap (sy + 1) : Int)) (sy + 1))) := ⟨HR.out.1.below hbq HR.out.1.lt, HR.out.2.below hbq HR.out.2.lt⟩
      have HB1 : Hid (Below w.heap.size w w1) := below_next HBW.out hbq HBW.out.size
      clear hbq HP HR HBW
      have HW1 : Hid (∀ w, Calls Try.prog 19 #[.agg #[.int .i64 sx, .int .i64 sy], .agg #[.int .i64 sx, .int .i64 (sy + 1)]] w fun e w' => e = .returned (.bool true) ∧ Below w.heap.size w w') := fun w => by
        have h := implWithin_any sx sy sx (sy + 1) w
        rw [(half_within sx sy hh).1] at h; exact h
      have HW2 : Hid (∀ w, Calls Try.prog 19 #[.agg #[.int .i64 sx, .int .i64 sy], .agg #[.int .i64 (sx + (gap (sy + 1) : Int)), .int .i64 (sy + 1)]] w fun e w' => e = .returned (.bool true) ∧ Below w.heap.size w w') := fun w => by
        have h := implWithin_any sx sy (sx + (gap (sy + 1) : Int)) (sy + 1) w
        rw [(half_within sx sy hh).2] at h; exact h
      have HC : Hid (0 ≤ bq → bq ≤ 4294967295 → (coversB sx sy bq != (coversB sx (sy + 1) bq != coversB (sx + (gap (sy + 1) : Int)) (sy + 1) bq)) = false) := half_cover sx sy bq hh
      clear hh
      generalize sx + (gap (sy + 1) : Int) = tx at *
      generalize sy + 1 = ty at *
      go_wp2_with fail
      go_loopw [17] (fun i wr => ∃ j : Nat, j ≤ 2 ∧ i = .int .i64 j ∧ Below w1.heap.size w1 wr) (fun i _ => 2 - (intOf i).toNat)
      case atStart => exact ⟨0, by omega, rfl, Below.refl _ _⟩
      case round =>
        obtain ⟨j, hj, rfl, hb⟩ := hrel
        obtain ⟨c0, c1, c2, c3⟩ := cells4N (HR2.out.1.below hb HR2.out.1.lt)
        obtain ⟨d0, d1, d2, d3⟩ := cells4N (HR2.out.2.below hb HR2.out.2.lt)
        obtain rfl | rfl | rfl : j = 0 ∨ j = 1 ∨ j = 2 := by omega
        · rw [show ((0 : Nat) : Int) = 0 from rfl]
          have k0 := cell_regrown c0
          have k1 := cell_regrown c1
          have m0 := cell_regrown d0
          have m1 := cell_regrown d1
          obtain ⟨k8, k9⟩ := (HP2.out.2.2.1.below hb).regrown
          clear c0 c1 c2 c3 d0 d1 d2 d3
          go_wp2_with fail
          refine wp_region_quiet_below (by kernel_rfl) (by kernel_rfl) ?_
          repeat (go_big_quiet_step ((go_at_call 19; exact Calls.regrown_of (HW1.out _))))
          refine wpQuiet_nil ?_
          intro w2 hw'
          obtain ⟨⟨dq, osq⟩, hw''⟩ := hw'
          have hbq := below_regrown wr dq osq
          rw [← hw''] at hbq
          clear hw'' osq dq k0 k1 m0 m1 k8 k9
          have hb2 := hb.trans (hbq.mono hb.size)
          clear hbq
          go_wp2_with fail
          go_roundw
          case rel => exact ⟨1, by omega, by go_num, hb2⟩
          case measure => simp [intOf]
        · rw [show ((1 : Nat) : Int) = 1 from rfl]
          have k0 := cell_regrown c2
          have k1 := cell_regrown c3
          have m0 := cell_regrown d2
          have m1 := cell_regrown d3
          obtain ⟨k8, k9⟩ := (HP2.out.2.2.1.below hb).regrown
          clear c0 c1 c2 c3 d0 d1 d2 d3
          go_wp2_with fail
          refine wp_region_quiet_below (by kernel_rfl) (by kernel_rfl) ?_
          repeat (go_big_quiet_step ((go_at_call 19; exact Calls.regrown_of (HW2.out _))))
          refine wpQuiet_nil ?_
          intro w2 hw'
          obtain ⟨⟨dq, osq⟩, hw''⟩ := hw'
          have hbq := below_regrown wr dq osq
          rw [← hw''] at hbq
          clear hw'' osq dq k0 k1 m0 m1 k8 k9
          have hb2 := hb.trans (hbq.mono hb.size)
          clear hbq
          go_wp2_with fail
          go_roundw
          case rel => exact ⟨2, by omega, by go_num, hb2⟩
          case measure => simp [intOf]
        · rw [show ((2 : Nat) : Int) = 2 from rfl]
          clear c0 c1 c2 c3 d0 d1 d2 d3 HW1 HW2
          go_upto_region 17 with fail
          go_cut [137] from 118 to 198 (fun v wx => v = .bool false ∧ Below w1.heap.size w1 wx)
          case first =>
            obtain ⟨k0, k1⟩ := (HP2.out.2.2.2.1.below hb).regrown
            obtain ⟨k2, k3⟩ := (HP2.out.2.2.2.2.below hb).regrown
            have HRP : Hid (∀ w, Calls Try.prog 23 #[.agg #[.int .i64 px, .int .i64 py]] w fun e w' => e = .returned (.bool (rightB px py)) ∧ Below w.heap.size w w') := specRight_any px py
            have HRQ : Hid (∀ w, Calls Try.prog 23 #[.agg #[.int .i64 qx, .int .i64 qy]] w fun e w' => e = .returned (.bool (rightB qx qy)) ∧ Below w.heap.size w w') := specRight_any qx qy
            have HL1 : Hid (∀ w, Calls Try.prog 21 #[.agg #[.int .i64 px, .int .i64 py], .agg #[.int .i64 qx, .int .i64 qy]] w fun e w' => e = .returned (.bool (lessB px py qx qy)) ∧ Below w.heap.size w w') := implLess_any px py qx qy
            have HL2 : Hid (∀ w, Calls Try.prog 21 #[.agg #[.int .i64 qx, .int .i64 qy], .agg #[.int .i64 px, .int .i64 py]] w fun e w' => e = .returned (.bool (lessB qx qy px py)) ∧ Below w.heap.size w w') := implLess_any qx qy px py
            have hA := less_anti px py qx qy
            generalize rightB px py = R1 at *
            generalize rightB qx qy = R2 at *
            generalize lessB px py qx qy = L1 at *
            generalize lessB qx qy px py = L2 at *
            cases R1
            · clear hA
              refine wp_region_quiet_below (by kernel_rfl) (by kernel_rfl) ?_
              repeat (go_big_quiet_step (first | (go_at_call_of 23 (Value.agg #[Value.int IntKind.i64 px, Value.int IntKind.i64 py]); exact Calls.regrown_of (HRP.out _)) | (go_at_call_of 23 (Value.agg #[Value.int IntKind.i64 qx, Value.int IntKind.i64 qy]); exact Calls.regrown_of (HRQ.out _)) | (go_at_call_of 21 (#[Value.agg #[Value.int IntKind.i64 px, Value.int IntKind.i64 py], Value.agg #[Value.int IntKind.i64 qx, Value.int IntKind.i64 qy]]); exact Calls.regrown_of (HL1.out _)) | (go_at_call_of 21 (#[Value.agg #[Value.int IntKind.i64 qx, Value.int IntKind.i64 qy], Value.agg #[Value.int IntKind.i64 px, Value.int IntKind.i64 py]]); exact Calls.regrown_of (HL2.out _))))
              refine wpQuiet_nil ?_
              intro w2 hw'
              obtain ⟨⟨dq, osq⟩, hw''⟩ := hw'
              have hbq := below_regrown wr dq osq
              rw [← hw''] at hbq
              clear hw'' osq dq
              have hb2 := hb.trans (hbq.mono hb.size)
              clear hbq
              go_wp2_with fail
              go_meet
              exact ⟨rfl, hb2⟩
            · cases R2
              · clear hA
                refine wp_region_quiet_below (by kernel_rfl) (by kernel_rfl) ?_
                repeat (go_big_quiet_step (first | (go_at_call_of 23 (Value.agg #[Value.int IntKind.i64 px, Value.int IntKind.i64 py]); exact Calls.regrown_of (HRP.out _)) | (go_at_call_of 23 (Value.agg #[Value.int IntKind.i64 qx, Value.int IntKind.i64 qy]); exact Calls.regrown_of (HRQ.out _)) | (go_at_call_of 21 (#[Value.agg #[Value.int IntKind.i64 px, Value.int IntKind.i64 py], Value.agg #[Value.int IntKind.i64 qx, Value.int IntKind.i64 qy]]); exact Calls.regrown_of (HL1.out _)) | (go_at_call_of 21 (#[Value.agg #[Value.int IntKind.i64 qx, Value.int IntKind.i64 qy], Value.agg #[Value.int IntKind.i64 px, Value.int IntKind.i64 py]]); exact Calls.regrown_of (HL2.out _))))
                refine wpQuiet_nil ?_
                intro w2 hw'
                obtain ⟨⟨dq, osq⟩, hw''⟩ := hw'
                have hbq := below_regrown wr dq osq
                rw [← hw''] at hbq
                clear hw'' osq dq
                have hb2 := hb.trans (hbq.mono hb.size)
                clear hbq
                go_wp2_with fail
                go_meet
                exact ⟨rfl, hb2⟩
              · by_cases hpq : px = qx ∧ py = qy
                · obtain ⟨rfl, rfl⟩ := hpq
                  clear hA
                  refine wp_region_quiet_below (by kernel_rfl) (by kernel_rfl) ?_
                  repeat (go_big_quiet_step ((go_at_call 23; exact Calls.regrown_of (HRP.out _))))
                  refine wpQuiet_nil ?_
                  intro w2 hw'
                  obtain ⟨⟨dq, osq⟩, hw''⟩ := hw'
                  have hbq := below_regrown wr dq osq
                  rw [← hw''] at hbq
                  clear hw'' osq dq
                  have hb2 := hb.trans (hbq.mono hb.size)
                  clear hbq
                  go_wp2_with fail
                  go_meet
                  exact ⟨rfl, hb2⟩
                · have HLL : Hid ((L1 == L2) = false) := hA rfl rfl hpq
                  clear hA
                  have hpb : (px == qx && py == qy) = false := by simpa using hpq
                  by_cases hp : px = qx
                  · subst hp
                    have hp2 : ¬ py = qy := fun h => hpq ⟨rfl, h⟩
                    have hp3 : (py == qy) = false := by simpa using hp2
                    clear hpq hpb
                    cases L1
                    · cases L2
                      · exact absurd HLL.out (by decide)
                      · clear HLL
                        refine wp_region_quiet_below (by kernel_rfl) (by kernel_rfl) ?_
                        repeat (go_big_quiet_step (first | (go_at_call_of 23 (Value.agg #[Value.int IntKind.i64 px, Value.int IntKind.i64 py]); exact Calls.regrown_of (HRP.out _)) | (go_at_call_of 23 (Value.agg #[Value.int IntKind.i64 px, Value.int IntKind.i64 qy]); exact Calls.regrown_of (HRQ.out _)) | (go_at_call_of 21 (#[Value.agg #[Value.int IntKind.i64 px, Value.int IntKind.i64 py], Value.agg #[Value.int IntKind.i64 px, Value.int IntKind.i64 qy]]); exact Calls.regrown_of (HL1.out _)) | (go_at_call_of 21 (#[Value.agg #[Value.int IntKind.i64 px, Value.int IntKind.i64 qy], Value.agg #[Value.int IntKind.i64 px, Value.int IntKind.i64 py]]); exact Calls.regrown_of (HL2.out _))))
                        refine wpQuiet_nil ?_
                        intro w2 hw'
                        obtain ⟨⟨dq, osq⟩, hw''⟩ := hw'
                        have hbq := below_regrown wr dq osq
                        rw [← hw''] at hbq
                        clear hw'' osq dq
                        have hb2 := hb.trans (hbq.mono hb.size)
                        clear hbq
                        go_wp2_with fail
                        go_meet
                        exact ⟨rfl, hb2⟩
                    · cases L2
                      · clear HLL
                        refine wp_region_quiet_below (by kernel_rfl) (by kernel_rfl) ?_
                        repeat (go_big_quiet_step (first | (go_at_call_of 23 (Value.agg #[Value.int IntKind.i64 px, Value.int IntKind.i64 py]); exact Calls.regrown_of (HRP.out _)) | (go_at_call_of 23 (Value.agg #[Value.int IntKind.i64 px, Value.int IntKind.i64 qy]); exact Calls.regrown_of (HRQ.out _)) | (go_at_call_of 21 (#[Value.agg #[Value.int IntKind.i64 px, Value.int IntKind.i64 py], Value.agg #[Value.int IntKind.i64 px, Value.int IntKind.i64 qy]]); exact Calls.regrown_of (HL1.out _)) | (go_at_call_of 21 (#[Value.agg #[Value.int IntKind.i64 px, Value.int IntKind.i64 qy], Value.agg #[Value.int IntKind.i64 px, Value.int IntKind.i64 py]]); exact Calls.regrown_of (HL2.out _))))
                        refine wpQuiet_nil ?_
                        intro w2 hw'
                        obtain ⟨⟨dq, osq⟩, hw''⟩ := hw'
                        have hbq := below_regrown wr dq osq
                        rw [← hw''] at hbq
                        clear hw'' osq dq
                        have hb2 := hb.trans (hbq.mono hb.size)
                        clear hbq
                        go_wp2_with fail
                        go_meet
                        exact ⟨rfl, hb2⟩
                      · exact absurd HLL.out (by decide)
                  · have hp3 : (px == qx) = false := by simpa using hp
                    clear hpq hpb
                    cases L1
                    · cases L2
                      · exact absurd HLL.out (by decide)
                      · clear HLL
                        refine wp_region_quiet_below (by kernel_rfl) (by kernel_rfl) ?_
                        repeat (go_big_quiet_step (first | (go_at_call_of 23 (Value.agg #[Value.int IntKind.i64 px, Value.int IntKind.i64 py]); exact Calls.regrown_of (HRP.out _)) | (go_at_call_of 23 (Value.agg #[Value.int IntKind.i64 qx, Value.int IntKind.i64 qy]); exact Calls.regrown_of (HRQ.out _)) | (go_at_call_of 21 (#[Value.agg #[Value.int IntKind.i64 px, Value.int IntKind.i64 py], Value.agg #[Value.int IntKind.i64 qx, Value.int IntKind.i64 qy]]); exact Calls.regrown_of (HL1.out _)) | (go_at_call_of 21 (#[Value.agg #[Value.int IntKind.i64 qx, Value.int IntKind.i64 qy], Value.agg #[Value.int IntKind.i64 px, Value.int IntKind.i64 py]]); exact Calls.regrown_of (HL2.out _))))
                        refine wpQuiet_nil ?_
                        intro w2 hw'
                        obtain ⟨⟨dq, osq⟩, hw''⟩ := hw'
                        have hbq := below_regrown wr dq osq
                        rw [← hw''] at hbq
                        clear hw'' osq dq
                        have hb2 := hb.trans (hbq.mono hb.size)
                        clear hbq
                        go_wp2_with fail
                        go_meet
                        exact ⟨rfl, hb2⟩
                    · cases L2
                      · clear HLL
                        refine wp_region_quiet_below (by kernel_rfl) (by kernel_rfl) ?_
                        repeat (go_big_quiet_step (first | (go_at_call_of 23 (Value.agg #[Value.int IntKind.i64 px, Value.int IntKind.i64 py]); exact Calls.regrown_of (HRP.out _)) | (go_at_call_of 23 (Value.agg #[Value.int IntKind.i64 qx, Value.int IntKind.i64 qy]); exact Calls.regrown_of (HRQ.out _)) | (go_at_call_of 21 (#[Value.agg #[Value.int IntKind.i64 px, Value.int IntKind.i64 py], Value.agg #[Value.int IntKind.i64 qx, Value.int IntKind.i64 qy]]); exact Calls.regrown_of (HL1.out _)) | (go_at_call_of 21 (#[Value.agg #[Value.int IntKind.i64 qx, Value.int IntKind.i64 qy], Value.agg #[Value.int IntKind.i64 px, Value.int IntKind.i64 py]]); exact Calls.regrown_of (HL2.out _))))
                        refine wpQuiet_nil ?_
                        intro w2 hw'
                        obtain ⟨⟨dq, osq⟩, hw''⟩ := hw'
                        have hbq := below_regrown wr dq osq
                        rw [← hw''] at hbq
                        clear hw'' osq dq
                        have hb2 := hb.trans (hbq.mono hb.size)
                        clear hbq
                        go_wp2_with fail
                        go_meet
                        exact ⟨rfl, hb2⟩
                      · exact absurd HLL.out (by decide)
          case rest =>
            obtain ⟨rfl, hb9⟩ := hcut
            clear hb
            have hb := hb9
            clear hb9
            go_upto_region 19 with fail
            go_cut [165] from 118 to 198 (fun v wx => v = .bool false ∧ Below w1.heap.size w1 wx)
            case first =>
              obtain ⟨k0, k1⟩ := (HP2.out.2.2.1.below hb).regrown
              obtain ⟨c0, c1, c2, c3⟩ := cells4N (HR2.out.1.below hb HR2.out.1.lt)
              have k2 := cell_regrown c0
              have k3 := cell_regrown c1
              have k4 := cell_regrown c2
              have k5 := cell_regrown c3
              clear c0 c1 c2 c3
              have HK1 : Hid (∀ w, Calls Try.prog 17 #[.agg #[.int .i64 sx, .int .i64 sy], .int .i64 bq] w fun e w' => e = .returned (.bool (coversB sx sy bq)) ∧ Below w.heap.size w w') := implCovers_any sx sy bq
              have HK2 : Hid (∀ w, Calls Try.prog 17 #[.agg #[.int .i64 sx, .int .i64 ty], .int .i64 bq] w fun e w' => e = .returned (.bool (coversB sx ty bq)) ∧ Below w.heap.size w w') := implCovers_any sx ty bq
              have HK3 : Hid (∀ w, Calls Try.prog 17 #[.agg #[.int .i64 tx, .int .i64 ty], .int .i64 bq] w fun e w' => e = .returned (.bool (coversB tx ty bq)) ∧ Below w.heap.size w w') := implCovers_any tx ty bq
              have hC := HC.out
              clear HC
              generalize coversB sx sy bq = C1 at *
              generalize coversB sx ty bq = C2 at *
              generalize coversB tx ty bq = C3 at *
              by_cases hb0 : 0 ≤ bq
              · have e0 : decide (0 ≤ bq) = true := by simpa using hb0
                by_cases hb1 : bq ≤ 4294967295
                · have e1 : decide (bq ≤ 4294967295) = true := by simpa using hb1
                  have HCC : Hid ((C1 != (C2 != C3)) = false) := hC hb0 hb1
                  clear hC
                  refine wp_region_quiet_below (by kernel_rfl) (by kernel_rfl) ?_
                  repeat (go_big_quiet_step (first | (go_at_call_of 17 (Value.agg #[Value.int IntKind.i64 sx, Value.int IntKind.i64 sy]); exact Calls.regrown_of (HK1.out _)) | (go_at_call_of 17 (Value.agg #[Value.int IntKind.i64 sx, Value.int IntKind.i64 ty]); exact Calls.regrown_of (HK2.out _)) | (go_at_call_of 17 (Value.agg #[Value.int IntKind.i64 tx, Value.int IntKind.i64 ty]); exact Calls.regrown_of (HK3.out _))))
                  refine wpQuiet_nil ?_
                  intro w2 hw'
                  obtain ⟨⟨dq, osq⟩, hw''⟩ := hw'
                  have hbq := below_regrown wc dq osq
                  rw [← hw''] at hbq
                  clear hw'' osq dq
                  have hb2 := hb.trans (hbq.mono hb.size)
                  clear hbq
                  go_wp2_with fail
                  go_meet
                  refine ⟨?_, hb2⟩; have h := HCC.out; revert h; cases C1 <;> cases C2 <;> cases C3 <;> intro h <;> first | rfl | exact absurd h (by decide)
                · have e1 : decide (bq ≤ 4294967295) = false := by simpa using hb1
                  clear hC
                  refine wp_region_quiet_below (by kernel_rfl) (by kernel_rfl) ?_
                  repeat (go_big_quiet_step (first | (go_at_call_of 17 (Value.agg #[Value.int IntKind.i64 sx, Value.int IntKind.i64 sy]); exact Calls.regrown_of (HK1.out _)) | (go_at_call_of 17 (Value.agg #[Value.int IntKind.i64 sx, Value.int IntKind.i64 ty]); exact Calls.regrown_of (HK2.out _)) | (go_at_call_of 17 (Value.agg #[Value.int IntKind.i64 tx, Value.int IntKind.i64 ty]); exact Calls.regrown_of (HK3.out _))))
                  refine wpQuiet_nil ?_
                  intro w2 hw'
                  obtain ⟨⟨dq, osq⟩, hw''⟩ := hw'
                  have hbq := below_regrown wc dq osq
                  rw [← hw''] at hbq
                  clear hw'' osq dq
                  have hb2 := hb.trans (hbq.mono hb.size)
                  clear hbq
                  go_wp2_with fail
                  go_meet
                  exact ⟨rfl, hb2⟩
              · have e0 : decide (0 ≤ bq) = false := by simpa using hb0
                clear hC
                refine wp_region_quiet_below (by kernel_rfl) (by kernel_rfl) ?_
                repeat (go_big_quiet_step (first | (go_at_call_of 17 (Value.agg #[Value.int IntKind.i64 sx, Value.int IntKind.i64 sy]); exact Calls.regrown_of (HK1.out _)) | (go_at_call_of 17 (Value.agg #[Value.int IntKind.i64 sx, Value.int IntKind.i64 ty]); exact Calls.regrown_of (HK2.out _)) | (go_at_call_of 17 (Value.agg #[Value.int IntKind.i64 tx, Value.int IntKind.i64 ty]); exact Calls.regrown_of (HK3.out _))))
                refine wpQuiet_nil ?_
                intro w2 hw'
                obtain ⟨⟨dq, osq⟩, hw''⟩ := hw'
                have hbq := below_regrown wc dq osq
                rw [← hw''] at hbq
                clear hw'' osq dq
                have hb2 := hb.trans (hbq.mono hb.size)
                clear hbq
                go_wp2_with fail
                go_meet
                exact ⟨rfl, hb2⟩
            case rest =>
              obtain ⟨rfl, hb9⟩ := hcut
              clear hb
              have hb := hb9
              clear hb9
              go_upto_region 21 with fail
              go_cut [175] from 118 to 198 (fun v wx => v = .bool false ∧ Below w1.heap.size w1 wx)
              case first =>
                obtain ⟨k0, k1⟩ := HP2.out.2.1.1.below hb
                obtain ⟨k2, k3⟩ := HP2.out.2.1.2.below hb
                by_cases hw : withinB wx wy vx vy = true
                · have HV1 : Hid (∀ w, Calls Try.prog 19 #[.agg #[.int .i64 wx, .int .i64 wy], .agg #[.int .i64 vx, .int .i64 vy]] w fun e w' => e = .returned (.bool true) ∧ Below w.heap.size w w') := fun w => by
                    have h := implWithin_any wx wy vx vy w
                    rw [hw] at h
                    exact h
                  have HV2 : Hid (∀ w, Calls Try.prog 17 #[.agg #[.int .i64 wx, .int .i64 wy], .int .i64 vx] w fun e w' => e = .returned (.bool true) ∧ Below w.heap.size w w') := fun w => by
                    have h := implCovers_any wx wy vx w
                    rw [within_covers _ _ _ _ hw] at h
                    exact h
                  clear hw
                  go_wp2_with fail
                  refine (HV1.out _).mono ?_
                  rintro e w2 ⟨rfl, hbq⟩
                  have hb2 := hb.trans (hbq.mono hb.size)
                  clear k0 k1 k2 k3 hbq
                  obtain ⟨k0, k1⟩ := HP2.out.2.1.1.below hb2
                  obtain ⟨k2, k3⟩ := HP2.out.2.1.2.below hb2
                  go_wp2_with fail
                  refine (HV2.out _).mono ?_
                  rintro e w3 ⟨rfl, hbr⟩
                  have hb3 := hb2.trans (hbr.mono hb2.size)
                  go_wp2_with fail
                  go_meet
                  exact ⟨rfl, hb3⟩
                · have HV1 : Hid (∀ w, Calls Try.prog 19 #[.agg #[.int .i64 wx, .int .i64 wy], .agg #[.int .i64 vx, .int .i64 vy]] w fun e w' => e = .returned (.bool false) ∧ Below w.heap.size w w') := fun w => by
                    have h := implWithin_any wx wy vx vy w
                    rw [show withinB wx wy vx vy = false by simpa using hw] at h
                    exact h
                  clear hw
                  go_wp2_with fail
                  refine (HV1.out _).mono ?_
                  rintro e w2 ⟨rfl, hbq⟩
                  have hb2 := hb.trans (hbq.mono hb.size)
                  clear k0 k1 k2 k3 hbq
                  go_wp2_with fail
                  go_meet
                  exact ⟨rfl, hb2⟩
              case rest =>
                obtain ⟨rfl, hb9⟩ := hcut
                clear hb
                have hb := hb9
                clear hb9
                obtain ⟨k0, k1⟩ := HP2.out.1.1.below hb
                have hfin := below_next HB1.out hb HB1.out.size
                by_cases hA : 0 ≤ A ∧ A ≤ 4294967295 ∧ 0 ≤ L ∧ L ≤ 32
                · obtain ⟨hcov, hrt⟩ := covers_own A L hA
                  obtain ⟨a0, a1, l0, l1⟩ := hA
                  have e0 : decide (A < 0) = false := by simp; omega
                  have e1 : decide (4294967295 < A) = false := by simp; omega
                  have e2 : decide (L < 0) = false := by simp; omega
                  have e3 : decide (32 < L) = false := by simp; omega
                  go_wp2_with fail
                  refine (implCovers_any (netA A L) (netN A L) A _).mono ?_
                  rintro e w2 ⟨rfl, hbq⟩
                  rw [hcov]
                  have hb2 := hb.trans (hbq.mono hb.size)
                  clear k0 k1 hfin
                  obtain ⟨k0, k1⟩ := HP2.out.1.1.below hb2
                  go_wp2_with fail
                  refine (implRight_any (netA A L) (netN A L) _).mono ?_
                  rintro e w3 ⟨rfl, hbr⟩
                  rw [hrt]
                  have hb3 := hb2.trans (hbr.mono hb2.size)
                  have hfin := below_next HB1.out hb3 HB1.out.size
                  go_wp2
                  go_ret
                  exact ⟨rfl, hfin⟩
                · have hor : A < 0 ∨ (¬ A < 0 ∧ 4294967295 < A) ∨ (¬ A < 0 ∧ ¬ 4294967295 < A ∧ L < 0) ∨ (¬ A < 0 ∧ ¬ 4294967295 < A ∧ ¬ L < 0 ∧ 32 < L) := by omega
                  clear hA k0 k1
                  rcases hor with h1 | ⟨h1, h2⟩ | ⟨h1, h2, h3⟩ | ⟨h1, h2, h3, h4⟩
                  · have e0 : decide (A < 0) = true := by simpa using h1
                    go_wp2
                    go_ret
                    exact ⟨rfl, hfin⟩
                  · have e0 : decide (A < 0) = false := by simpa using h1
                    have e1 : decide (4294967295 < A) = true := by simpa using h2
                    go_wp2
                    go_ret
                    exact ⟨rfl, hfin⟩
                  · have e0 : decide (A < 0) = false := by simpa using h1
                    have e1 : decide (4294967295 < A) = false := by simpa using h2
                    have e2 : decide (L < 0) = true := by simpa using h3
                    go_wp2
                    go_ret
                    exact ⟨rfl, hfin⟩
                  · have e0 : decide (A < 0) = false := by simpa using h1
                    have e1 : decide (4294967295 < A) = false := by simpa using h2
                    have e2 : decide (L < 0) = false := by simpa using h3
                    have e3 : decide (32 < L) = true := by simpa using h4
                    go_wp2
                    go_ret
                    exact ⟨rfl, hfin⟩
    · have HS : Hid (∀ w, Calls Try.prog 14 #[.agg #[.int .i64 sx, .int .i64 sy]] w fun e w' => ∃ g c, e = .returned (.slice g 0 c) ∧ Below w.heap.size w w') :=
        fun w => (specHalves_any sx sy w).mono fun e w' ⟨v, he, hv, hb⟩ => by obtain ⟨g, c, rfl⟩ := halvesNo hv hh; exact ⟨g, c, he, hb⟩
      have HI : Hid (∀ w, Calls Try.prog 13 #[.agg #[.int .i64 sx, .int .i64 sy]] w fun e w' => ∃ g c, e = .returned (.slice g 0 c) ∧ Below w.heap.size w w') :=
        fun w => (implHalves_any sx sy w).mono fun e w' ⟨v, he, hv, hb⟩ => by obtain ⟨g, c, rfl⟩ := halvesNo hv hh; exact ⟨g, c, he, hb⟩
      go_wp2_with fail
      go_region_held3 (fun w' => w'.cell? ⟨we.heap.size, 0, none⟩ = some (.int .i64 sx) ∧ w'.cell? ⟨we.heap.size, 1, none⟩ = some (.int .i64 sy))
        (first
          | exact HQ.out.2.2
          | exact HQ.out.2.2.belowD hbi
          | exact (HQ.out.2.2.belowD hbi).below hbj)
        (first
          | (go_at_call 13; refine (HI.out _).mono ?_; rintro e wi ⟨gi, ci, rfl, hbi⟩)
          | (go_at_call 14; refine (HS.out _).mono ?_; rintro e wj ⟨gj, cj, rfl, hbj⟩))
      have hBj : Below w.heap.size w wj := below_next (below_next HB.out.drew hbi HB.out.drew.size) hbj (below_next HB.out.drew hbi HB.out.drew.size).size
      have hN : ∀ b x y, NetAt (we.alloc (.cells #[.int .i64 sx, .int .i64 sy] 26)) b x y → NetAt wj b x y := fun b x y h => (h.belowD hbi).below hbj
      have hcj := (hcm.below hBj).mono hBj.size
      have hsz : wi.heap.size ≤ wj.heap.size := hbj.size
      go_wp2_with fail
      refine (drawLess_any b1 len1 cap1 _ hcj hl1).mono ?_
      rintro e wk ⟨px, py, qx, qy, rfl, hp0, hp1, hp2, hp3, hr0, hr1, hr2, hr3, hbk⟩
      have hBk := below_next hBj hbk hBj.size
      have HP : Hid ((NetAt ((wk.alloc (.cells #[.int .i64 px, .int .i64 py] 26)).alloc (.cells #[.int .i64 qx, .int .i64 qy] 26)) wb.heap.size (netA A L) (netN A L) ∧ NetAt ((wk.alloc (.cells #[.int .i64 px, .int .i64 py] 26)).alloc (.cells #[.int .i64 qx, .int .i64 qy] 26)) wc.heap.size cx cy) ∧ (NetAt ((wk.alloc (.cells #[.int .i64 px, .int .i64 py] 26)).alloc (.cells #[.int .i64 qx, .int .i64 qy] 26)) wd.heap.size wx wy ∧ NetAt ((wk.alloc (.cells #[.int .i64 px, .int .i64 py] 26)).alloc (.cells #[.int .i64 qx, .int .i64 qy] 26)) (wd.heap.size + 1) vx vy) ∧ NetAt ((wk.alloc (.cells #[.int .i64 px, .int .i64 py] 26)).alloc (.cells #[.int .i64 qx, .int .i64 qy] 26)) we.heap.size sx sy ∧ NetAt ((wk.alloc (.cells #[.int .i64 px, .int .i64 py] 26)).alloc (.cells #[.int .i64 qx, .int .i64 qy] 26)) wk.heap.size px py ∧ NetAt ((wk.alloc (.cells #[.int .i64 px, .int .i64 py] 26)).alloc (.cells #[.int .i64 qx, .int .i64 qy] 26)) (wk.heap.size + 1) qx qy) := by
        obtain ⟨⟨q7, q8⟩, ⟨q10, q11⟩, q12⟩ := HQ.out
        refine ⟨⟨?_, ?_⟩, ⟨?_, ?_⟩, ?_, ?_, ?_⟩
        · exact (((hN _ _ _ q7).below hbk).alloc _).alloc _
        · exact (((hN _ _ _ q8).below hbk).alloc _).alloc _
        · exact (((hN _ _ _ q10).below hbk).alloc _).alloc _
        · exact (((hN _ _ _ q11).below hbk).alloc _).alloc _
        · exact (((hN _ _ _ q12).below hbk).alloc _).alloc _
        · exact (NetAt.new wk px py).alloc _
        · have h := NetAt.new (wk.alloc (.cells #[.int .i64 px, .int .i64 py] 26)) qx qy
          rwa [show (wk.alloc (.cells #[.int .i64 px, .int .i64 py] 26)).heap.size = wk.heap.size + 1 by simp] at h
      have hbW : Below wk.heap.size wk ((wk.alloc (.cells #[.int .i64 px, .int .i64 py] 26)).alloc (.cells #[.int .i64 qx, .int .i64 qy] 26)) := ((Below.refl _ _).alloc (Nat.le_refl _) _).alloc (by simp) _
      have HBW : Hid (Below w.heap.size w ((wk.alloc (.cells #[.int .i64 px, .int .i64 py] 26)).alloc (.cells #[.int .i64 qx, .int .i64 qy] 26))) := below_next hBk hbW hBk.size
      clear hBk hbW hBj hN hcj hsz hbk hbi hbj HQ HB HS HI hx0 hx1 hy0 hy1 hp0 hp1 hp2 hp3 hr0 hr1 hr2 hr3 hcc hcm hlen0 hlen1
      have HNS : Hid (∀ w, Calls Try.prog 16 #[.int .i64 A, .int .i64 L] w fun e w' => e = .returned (.agg #[.int .i64 (netA A L), .int .i64 (netN A L)]) ∧ Below w.heap.size w w') := specNetOf_any A L
      have HCI : Hid (∀ w, Calls Try.prog 17 #[.agg #[.int .i64 cx, .int .i64 cy], .int .i64 bq] w fun e w' => e = .returned (.bool (coversB cx cy bq)) ∧ Below w.heap.size w w') := implCovers_any cx cy bq
      have HCS : Hid (∀ w, Calls Try.prog 18 #[.agg #[.int .i64 cx, .int .i64 cy], .int .i64 bq] w fun e w' => e = .returned (.bool (coversB cx cy bq)) ∧ Below w.heap.size w w') := specCovers_any cx cy bq
      have HWI : Hid (∀ w, Calls Try.prog 19 #[.agg #[.int .i64 wx, .int .i64 wy], .agg #[.int .i64 vx, .int .i64 vy]] w fun e w' => e = .returned (.bool (withinB wx wy vx vy)) ∧ Below w.heap.size w w') := implWithin_any wx wy vx vy
      have HWS : Hid (∀ w, Calls Try.prog 20 #[.agg #[.int .i64 wx, .int .i64 wy], .agg #[.int .i64 vx, .int .i64 vy]] w fun e w' => e = .returned (.bool (withinB wx wy vx vy)) ∧ Below w.heap.size w w') := specWithin_any wx wy vx vy
      have HLI : Hid (∀ w, Calls Try.prog 21 #[.agg #[.int .i64 px, .int .i64 py], .agg #[.int .i64 qx, .int .i64 qy]] w fun e w' => e = .returned (.bool (lessB px py qx qy)) ∧ Below w.heap.size w w') := implLess_any px py qx qy
      have HLS : Hid (∀ w, Calls Try.prog 22 #[.agg #[.int .i64 px, .int .i64 py], .agg #[.int .i64 qx, .int .i64 qy]] w fun e w' => e = .returned (.bool (lessB px py qx qy)) ∧ Below w.heap.size w w') := specLess_any px py qx qy
      have hneC : (coversB cx cy bq != coversB cx cy bq) = false := by simp
      have hneW : (withinB wx wy vx vy != withinB wx wy vx vy) = false := by simp
      have hneL : (lessB px py qx qy != lessB px py qx qy) = false := by simp
      obtain ⟨k0, k1⟩ := HP.out.1.1.regrown
      obtain ⟨k2, k3⟩ := HP.out.1.2.regrown
      obtain ⟨k4, k5⟩ := HP.out.2.1.1.regrown
      obtain ⟨k6, k7⟩ := HP.out.2.1.2.regrown
      obtain ⟨k8, k9⟩ := HP.out.2.2.2.1.regrown
      obtain ⟨k10, k11⟩ := HP.out.2.2.2.2.regrown
      go_wp2_with fail
      refine wp_region_quiet_below (by kernel_rfl) (by kernel_rfl) ?_
      repeat (go_big_quiet_step (first | (go_at_call 16; exact Calls.regrown_of (HNS.out _)) | (go_at_call 17; exact Calls.regrown_of (HCI.out _)) | (go_at_call 18; exact Calls.regrown_of (HCS.out _)) | (go_at_call 19; exact Calls.regrown_of (HWI.out _)) | (go_at_call 20; exact Calls.regrown_of (HWS.out _)) | (go_at_call 21; exact Calls.regrown_of (HLI.out _)) | (go_at_call 22; exact Calls.regrown_of (HLS.out _))))
      refine wpQuiet_nil ?_
      intro _ hw'
      obtain ⟨⟨dq, osq⟩, hw''⟩ := hw'
      have hbq := below_regrown ((wk.alloc (.cells #[.int .i64 px, .int .i64 py] 26)).alloc (.cells #[.int .i64 qx, .int .i64 qy] 26)) dq osq
      rw [← hw''] at hbq
      clear hw'' osq dq k0 k1 k2 k3 k4 k5 k6 k7 k8 k9 k10 k11 HNS HCS HWS HLS HCI hneC hneW hneL HLI HWI HN hl0 hl1
      rename_i w1
      have HP2 : Hid ((NetAt w1 wb.heap.size (netA A L) (netN A L) ∧ NetAt w1 wc.heap.size cx cy) ∧ (NetAt w1 wd.heap.size wx wy ∧ NetAt w1 (wd.heap.size + 1) vx vy) ∧ NetAt w1 we.heap.size sx sy ∧ NetAt w1 wk.heap.size px py ∧ NetAt w1 (wk.heap.size + 1) qx qy) := by
        obtain ⟨⟨q7, q8⟩, ⟨q10, q11⟩, q12, q13, q14⟩ := HP.out
        exact ⟨⟨q7.below hbq, q8.below hbq⟩, ⟨q10.below hbq, q11.below hbq⟩, q12.below hbq, q13.below hbq, q14.below hbq⟩
      have HB1 : Hid (Below w.heap.size w w1) := below_next HBW.out hbq HBW.out.size
      clear hbq HP HBW
      clear hh
      go_wp2_with fail
      go_loopw [17] (fun i wr => i = .int .i64 0 ∧ wr = w1) (fun _ _ => 0)
      case atStart => exact ⟨rfl, rfl⟩
      case round =>
        obtain ⟨rfl, rfl⟩ := hrel
        have hb : Below wr.heap.size wr wr := Below.refl _ _
        go_upto_region 17 with fail
        go_cut [137] from 118 to 198 (fun v wx => v = .bool false ∧ Below wr.heap.size wr wx)
        case first =>
          obtain ⟨k0, k1⟩ := (HP2.out.2.2.2.1.below hb).regrown
          obtain ⟨k2, k3⟩ := (HP2.out.2.2.2.2.below hb).regrown
          have HRP : Hid (∀ w, Calls Try.prog 23 #[.agg #[.int .i64 px, .int .i64 py]] w fun e w' => e = .returned (.bool (rightB px py)) ∧ Below w.heap.size w w') := specRight_any px py
          have HRQ : Hid (∀ w, Calls Try.prog 23 #[.agg #[.int .i64 qx, .int .i64 qy]] w fun e w' => e = .returned (.bool (rightB qx qy)) ∧ Below w.heap.size w w') := specRight_any qx qy
          have HL1 : Hid (∀ w, Calls Try.prog 21 #[.agg #[.int .i64 px, .int .i64 py], .agg #[.int .i64 qx, .int .i64 qy]] w fun e w' => e = .returned (.bool (lessB px py qx qy)) ∧ Below w.heap.size w w') := implLess_any px py qx qy
          have HL2 : Hid (∀ w, Calls Try.prog 21 #[.agg #[.int .i64 qx, .int .i64 qy], .agg #[.int .i64 px, .int .i64 py]] w fun e w' => e = .returned (.bool (lessB qx qy px py)) ∧ Below w.heap.size w w') := implLess_any qx qy px py
          have hA := less_anti px py qx qy
          generalize rightB px py = R1 at *
          generalize rightB qx qy = R2 at *
          generalize lessB px py qx qy = L1 at *
          generalize lessB qx qy px py = L2 at *
          cases R1
          · clear hA
            refine wp_region_quiet_below (by kernel_rfl) (by kernel_rfl) ?_
            repeat (go_big_quiet_step (first | (go_at_call_of 23 (Value.agg #[Value.int IntKind.i64 px, Value.int IntKind.i64 py]); exact Calls.regrown_of (HRP.out _)) | (go_at_call_of 23 (Value.agg #[Value.int IntKind.i64 qx, Value.int IntKind.i64 qy]); exact Calls.regrown_of (HRQ.out _)) | (go_at_call_of 21 (#[Value.agg #[Value.int IntKind.i64 px, Value.int IntKind.i64 py], Value.agg #[Value.int IntKind.i64 qx, Value.int IntKind.i64 qy]]); exact Calls.regrown_of (HL1.out _)) | (go_at_call_of 21 (#[Value.agg #[Value.int IntKind.i64 qx, Value.int IntKind.i64 qy], Value.agg #[Value.int IntKind.i64 px, Value.int IntKind.i64 py]]); exact Calls.regrown_of (HL2.out _))))
            refine wpQuiet_nil ?_
            intro w2 hw'
            obtain ⟨⟨dq, osq⟩, hw''⟩ := hw'
            have hbq := below_regrown wr dq osq
            rw [← hw''] at hbq
            clear hw'' osq dq
            have hb2 := hb.trans (hbq.mono hb.size)
            clear hbq
            go_wp2_with fail
            go_meet
            exact ⟨rfl, hb2⟩
          · cases R2
            · clear hA
              refine wp_region_quiet_below (by kernel_rfl) (by kernel_rfl) ?_
              repeat (go_big_quiet_step (first | (go_at_call_of 23 (Value.agg #[Value.int IntKind.i64 px, Value.int IntKind.i64 py]); exact Calls.regrown_of (HRP.out _)) | (go_at_call_of 23 (Value.agg #[Value.int IntKind.i64 qx, Value.int IntKind.i64 qy]); exact Calls.regrown_of (HRQ.out _)) | (go_at_call_of 21 (#[Value.agg #[Value.int IntKind.i64 px, Value.int IntKind.i64 py], Value.agg #[Value.int IntKind.i64 qx, Value.int IntKind.i64 qy]]); exact Calls.regrown_of (HL1.out _)) | (go_at_call_of 21 (#[Value.agg #[Value.int IntKind.i64 qx, Value.int IntKind.i64 qy], Value.agg #[Value.int IntKind.i64 px, Value.int IntKind.i64 py]]); exact Calls.regrown_of (HL2.out _))))
              refine wpQuiet_nil ?_
              intro w2 hw'
              obtain ⟨⟨dq, osq⟩, hw''⟩ := hw'
              have hbq := below_regrown wr dq osq
              rw [← hw''] at hbq
              clear hw'' osq dq
              have hb2 := hb.trans (hbq.mono hb.size)
              clear hbq
              go_wp2_with fail
              go_meet
              exact ⟨rfl, hb2⟩
            · by_cases hpq : px = qx ∧ py = qy
              · obtain ⟨rfl, rfl⟩ := hpq
                clear hA
                refine wp_region_quiet_below (by kernel_rfl) (by kernel_rfl) ?_
                repeat (go_big_quiet_step ((go_at_call 23; exact Calls.regrown_of (HRP.out _))))
                refine wpQuiet_nil ?_
                intro w2 hw'
                obtain ⟨⟨dq, osq⟩, hw''⟩ := hw'
                have hbq := below_regrown wr dq osq
                rw [← hw''] at hbq
                clear hw'' osq dq
                have hb2 := hb.trans (hbq.mono hb.size)
                clear hbq
                go_wp2_with fail
                go_meet
                exact ⟨rfl, hb2⟩
              · have HLL : Hid ((L1 == L2) = false) := hA rfl rfl hpq
                clear hA
                have hpb : (px == qx && py == qy) = false := by simpa using hpq
                by_cases hp : px = qx
                · subst hp
                  have hp2 : ¬ py = qy := fun h => hpq ⟨rfl, h⟩
                  have hp3 : (py == qy) = false := by simpa using hp2
                  clear hpq hpb
                  cases L1
                  · cases L2
                    · exact absurd HLL.out (by decide)
                    · clear HLL
                      refine wp_region_quiet_below (by kernel_rfl) (by kernel_rfl) ?_
                      repeat (go_big_quiet_step (first | (go_at_call_of 23 (Value.agg #[Value.int IntKind.i64 px, Value.int IntKind.i64 py]); exact Calls.regrown_of (HRP.out _)) | (go_at_call_of 23 (Value.agg #[Value.int IntKind.i64 px, Value.int IntKind.i64 qy]); exact Calls.regrown_of (HRQ.out _)) | (go_at_call_of 21 (#[Value.agg #[Value.int IntKind.i64 px, Value.int IntKind.i64 py], Value.agg #[Value.int IntKind.i64 px, Value.int IntKind.i64 qy]]); exact Calls.regrown_of (HL1.out _)) | (go_at_call_of 21 (#[Value.agg #[Value.int IntKind.i64 px, Value.int IntKind.i64 qy], Value.agg #[Value.int IntKind.i64 px, Value.int IntKind.i64 py]]); exact Calls.regrown_of (HL2.out _))))
                      refine wpQuiet_nil ?_
                      intro w2 hw'
                      obtain ⟨⟨dq, osq⟩, hw''⟩ := hw'
                      have hbq := below_regrown wr dq osq
                      rw [← hw''] at hbq
                      clear hw'' osq dq
                      have hb2 := hb.trans (hbq.mono hb.size)
                      clear hbq
                      go_wp2_with fail
                      go_meet
                      exact ⟨rfl, hb2⟩
                  · cases L2
                    · clear HLL
                      refine wp_region_quiet_below (by kernel_rfl) (by kernel_rfl) ?_
                      repeat (go_big_quiet_step (first | (go_at_call_of 23 (Value.agg #[Value.int IntKind.i64 px, Value.int IntKind.i64 py]); exact Calls.regrown_of (HRP.out _)) | (go_at_call_of 23 (Value.agg #[Value.int IntKind.i64 px, Value.int IntKind.i64 qy]); exact Calls.regrown_of (HRQ.out _)) | (go_at_call_of 21 (#[Value.agg #[Value.int IntKind.i64 px, Value.int IntKind.i64 py], Value.agg #[Value.int IntKind.i64 px, Value.int IntKind.i64 qy]]); exact Calls.regrown_of (HL1.out _)) | (go_at_call_of 21 (#[Value.agg #[Value.int IntKind.i64 px, Value.int IntKind.i64 qy], Value.agg #[Value.int IntKind.i64 px, Value.int IntKind.i64 py]]); exact Calls.regrown_of (HL2.out _))))
                      refine wpQuiet_nil ?_
                      intro w2 hw'
                      obtain ⟨⟨dq, osq⟩, hw''⟩ := hw'
                      have hbq := below_regrown wr dq osq
                      rw [← hw''] at hbq
                      clear hw'' osq dq
                      have hb2 := hb.trans (hbq.mono hb.size)
                      clear hbq
                      go_wp2_with fail
                      go_meet
                      exact ⟨rfl, hb2⟩
                    · exact absurd HLL.out (by decide)
                · have hp3 : (px == qx) = false := by simpa using hp
                  clear hpq hpb
                  cases L1
                  · cases L2
                    · exact absurd HLL.out (by decide)
                    · clear HLL
                      refine wp_region_quiet_below (by kernel_rfl) (by kernel_rfl) ?_
                      repeat (go_big_quiet_step (first | (go_at_call_of 23 (Value.agg #[Value.int IntKind.i64 px, Value.int IntKind.i64 py]); exact Calls.regrown_of (HRP.out _)) | (go_at_call_of 23 (Value.agg #[Value.int IntKind.i64 qx, Value.int IntKind.i64 qy]); exact Calls.regrown_of (HRQ.out _)) | (go_at_call_of 21 (#[Value.agg #[Value.int IntKind.i64 px, Value.int IntKind.i64 py], Value.agg #[Value.int IntKind.i64 qx, Value.int IntKind.i64 qy]]); exact Calls.regrown_of (HL1.out _)) | (go_at_call_of 21 (#[Value.agg #[Value.int IntKind.i64 qx, Value.int IntKind.i64 qy], Value.agg #[Value.int IntKind.i64 px, Value.int IntKind.i64 py]]); exact Calls.regrown_of (HL2.out _))))
                      refine wpQuiet_nil ?_
                      intro w2 hw'
                      obtain ⟨⟨dq, osq⟩, hw''⟩ := hw'
                      have hbq := below_regrown wr dq osq
                      rw [← hw''] at hbq
                      clear hw'' osq dq
                      have hb2 := hb.trans (hbq.mono hb.size)
                      clear hbq
                      go_wp2_with fail
                      go_meet
                      exact ⟨rfl, hb2⟩
                  · cases L2
                    · clear HLL
                      refine wp_region_quiet_below (by kernel_rfl) (by kernel_rfl) ?_
                      repeat (go_big_quiet_step (first | (go_at_call_of 23 (Value.agg #[Value.int IntKind.i64 px, Value.int IntKind.i64 py]); exact Calls.regrown_of (HRP.out _)) | (go_at_call_of 23 (Value.agg #[Value.int IntKind.i64 qx, Value.int IntKind.i64 qy]); exact Calls.regrown_of (HRQ.out _)) | (go_at_call_of 21 (#[Value.agg #[Value.int IntKind.i64 px, Value.int IntKind.i64 py], Value.agg #[Value.int IntKind.i64 qx, Value.int IntKind.i64 qy]]); exact Calls.regrown_of (HL1.out _)) | (go_at_call_of 21 (#[Value.agg #[Value.int IntKind.i64 qx, Value.int IntKind.i64 qy], Value.agg #[Value.int IntKind.i64 px, Value.int IntKind.i64 py]]); exact Calls.regrown_of (HL2.out _))))
                      refine wpQuiet_nil ?_
                      intro w2 hw'
                      obtain ⟨⟨dq, osq⟩, hw''⟩ := hw'
                      have hbq := below_regrown wr dq osq
                      rw [← hw''] at hbq
                      clear hw'' osq dq
                      have hb2 := hb.trans (hbq.mono hb.size)
                      clear hbq
                      go_wp2_with fail
                      go_meet
                      exact ⟨rfl, hb2⟩
                    · exact absurd HLL.out (by decide)
        case rest =>
          obtain ⟨rfl, hb9⟩ := hcut
          clear hb
          have hb := hb9
          clear hb9
          go_upto_region 19 with fail
          go_cut [165] from 118 to 198 (fun v wx => v = .bool false ∧ Below wr.heap.size wr wx)
          case first =>
            refine wp_region_quiet_below (by kernel_rfl) (by kernel_rfl) ?_
            repeat (go_big_quiet_step (fail))
            refine wpQuiet_nil ?_
            intro w2 hw'
            obtain ⟨⟨dq, osq⟩, hw''⟩ := hw'
            have hbq := below_regrown wc dq osq
            rw [← hw''] at hbq
            clear hw'' osq dq
            have hb2 := hb.trans (hbq.mono hb.size)
            clear hbq
            go_wp2_with fail
            go_meet
            exact ⟨rfl, hb2⟩
          case rest =>
            obtain ⟨rfl, hb9⟩ := hcut
            clear hb
            have hb := hb9
            clear hb9
            go_upto_region 21 with fail
            go_cut [175] from 118 to 198 (fun v wx => v = .bool false ∧ Below wr.heap.size wr wx)
            case first =>
              obtain ⟨k0, k1⟩ := HP2.out.2.1.1.below hb
              obtain ⟨k2, k3⟩ := HP2.out.2.1.2.below hb
              by_cases hw : withinB wx wy vx vy = true
              · have HV1 : Hid (∀ w, Calls Try.prog 19 #[.agg #[.int .i64 wx, .int .i64 wy], .agg #[.int .i64 vx, .int .i64 vy]] w fun e w' => e = .returned (.bool true) ∧ Below w.heap.size w w') := fun w => by
                  have h := implWithin_any wx wy vx vy w
                  rw [hw] at h
                  exact h
                have HV2 : Hid (∀ w, Calls Try.prog 17 #[.agg #[.int .i64 wx, .int .i64 wy], .int .i64 vx] w fun e w' => e = .returned (.bool true) ∧ Below w.heap.size w w') := fun w => by
                  have h := implCovers_any wx wy vx w
                  rw [within_covers _ _ _ _ hw] at h
                  exact h
                clear hw
                go_wp2_with fail
                refine (HV1.out _).mono ?_
                rintro e w2 ⟨rfl, hbq⟩
                have hb2 := hb.trans (hbq.mono hb.size)
                clear k0 k1 k2 k3 hbq
                obtain ⟨k0, k1⟩ := HP2.out.2.1.1.below hb2
                obtain ⟨k2, k3⟩ := HP2.out.2.1.2.below hb2
                go_wp2_with fail
                refine (HV2.out _).mono ?_
                rintro e w3 ⟨rfl, hbr⟩
                have hb3 := hb2.trans (hbr.mono hb2.size)
                go_wp2_with fail
                go_meet
                exact ⟨rfl, hb3⟩
              · have HV1 : Hid (∀ w, Calls Try.prog 19 #[.agg #[.int .i64 wx, .int .i64 wy], .agg #[.int .i64 vx, .int .i64 vy]] w fun e w' => e = .returned (.bool false) ∧ Below w.heap.size w w') := fun w => by
                  have h := implWithin_any wx wy vx vy w
                  rw [show withinB wx wy vx vy = false by simpa using hw] at h
                  exact h
                clear hw
                go_wp2_with fail
                refine (HV1.out _).mono ?_
                rintro e w2 ⟨rfl, hbq⟩
                have hb2 := hb.trans (hbq.mono hb.size)
                clear k0 k1 k2 k3 hbq
                go_wp2_with fail
                go_meet
                exact ⟨rfl, hb2⟩
            case rest =>
              obtain ⟨rfl, hb9⟩ := hcut
              clear hb
              have hb := hb9
              clear hb9
              obtain ⟨k0, k1⟩ := HP2.out.1.1.below hb
              have hfin := below_next HB1.out hb HB1.out.size
              by_cases hA : 0 ≤ A ∧ A ≤ 4294967295 ∧ 0 ≤ L ∧ L ≤ 32
              · obtain ⟨hcov, hrt⟩ := covers_own A L hA
                obtain ⟨a0, a1, l0, l1⟩ := hA
                have e0 : decide (A < 0) = false := by simp; omega
                have e1 : decide (4294967295 < A) = false := by simp; omega
                have e2 : decide (L < 0) = false := by simp; omega
                have e3 : decide (32 < L) = false := by simp; omega
                go_wp2_with fail
                refine (implCovers_any (netA A L) (netN A L) A _).mono ?_
                rintro e w2 ⟨rfl, hbq⟩
                rw [hcov]
                have hb2 := hb.trans (hbq.mono hb.size)
                clear k0 k1 hfin
                obtain ⟨k0, k1⟩ := HP2.out.1.1.below hb2
                go_wp2_with fail
                refine (implRight_any (netA A L) (netN A L) _).mono ?_
                rintro e w3 ⟨rfl, hbr⟩
                rw [hrt]
                have hb3 := hb2.trans (hbr.mono hb2.size)
                have hfin := below_next HB1.out hb3 HB1.out.size
                go_wp2
                go_ret
                exact ⟨rfl, hfin⟩
              · have hor : A < 0 ∨ (¬ A < 0 ∧ 4294967295 < A) ∨ (¬ A < 0 ∧ ¬ 4294967295 < A ∧ L < 0) ∨ (¬ A < 0 ∧ ¬ 4294967295 < A ∧ ¬ L < 0 ∧ 32 < L) := by omega
                clear hA k0 k1
                rcases hor with h1 | ⟨h1, h2⟩ | ⟨h1, h2, h3⟩ | ⟨h1, h2, h3, h4⟩
                · have e0 : decide (A < 0) = true := by simpa using h1
                  go_wp2
                  go_ret
                  exact ⟨rfl, hfin⟩
                · have e0 : decide (A < 0) = false := by simpa using h1
                  have e1 : decide (4294967295 < A) = true := by simpa using h2
                  go_wp2
                  go_ret
                  exact ⟨rfl, hfin⟩
                · have e0 : decide (A < 0) = false := by simpa using h1
                  have e1 : decide (4294967295 < A) = false := by simpa using h2
                  have e2 : decide (L < 0) = true := by simpa using h3
                  go_wp2
                  go_ret
                  exact ⟨rfl, hfin⟩
                · have e0 : decide (A < 0) = false := by simpa using h1
                  have e1 : decide (4294967295 < A) = false := by simpa using h2
                  have e2 : decide (L < 0) = false := by simpa using h3
                  have e3 : decide (32 < L) = true := by simpa using h4
                  go_wp2
                  go_ret
                  exact ⟨rfl, hfin⟩
  · have hor : (1048576 < len0) ∨ (len0 ≤ 1048576 ∧ 1048576 < len1) := by omega
    clear hl
    rcases hor with hor | ⟨hor, hor2⟩
    all_goals
      go_enter Try.func3, Try.ntmps3
      go_wp2_with fail
      all_goals first
        | (exfalso; omega; done)
        | (go_ret
           exact ⟨rfl, Below.refl _ _⟩)
end Go.Proofs.Ytchgnjpbjnkdmaa
