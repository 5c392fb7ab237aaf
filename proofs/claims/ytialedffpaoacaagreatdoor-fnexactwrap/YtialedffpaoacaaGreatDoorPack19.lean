/- Texts that stand on each other, in one file: BoxS, OpTen, OpTens, MkTens, EqTens, OpBd, MkBd, ToLks, MakeLks, EqLks, BoxA, OpBox, BoxW. -/
import Derived.Test.YtialedffpaoacaaGreatDoorPack18
import Derived.Test.YtialedffpaoacaaGreatDoorPack5
import Derived.Lib.QuietBelow
import Derived.BigQuiet
import Derived.Test.YtialedffpaoacaaGreatDoorPack17
import Derived.Test.YtialedffpaoacaaGreatDoorPack12
import Derived.Lib.SmallJoins
import Derived.Deep.Slices
import Derived.OwnWalk
import Derived.Test.YtialedffpaoacaaGreatDoorPack10
import Derived.Test.YtialedffpaoacaaGreatDoorPack3
/- BoxRight of the model. (Written by gen_boxs.py.) -/
namespace Go.Proofs.YtialedffpaoacaaGreatDoor
open Go.RowKit Go.Sort

theorem bdB_0 {ts : List Tn} {b0 b1 b2 b3 : Int} (h : ¬ (0 ≤ b0 ∧ b0 ≤ 3)) : bdB ts ⟨b0, b1, b2, b3⟩ = false := by
  unfold bdB
  by_cases h0 : 0 ≤ b0
  · rw [decide_eq_false (show ¬ b0 ≤ 3 by omega)]; simp
  · rw [decide_eq_false h0]; rfl
theorem bdB_1 {ts : List Tn} {b0 b1 b2 b3 : Int} (h : ¬ (1 ≤ b1 ∧ b1 ≤ 4094)) : bdB ts ⟨b0, b1, b2, b3⟩ = false := by
  unfold bdB
  by_cases h0 : 1 ≤ b1
  · rw [decide_eq_false (show ¬ b1 ≤ 4094 by omega)]; simp
  · rw [decide_eq_false h0]; simp
theorem bdB_2 {ps : List TnP} {b0 b1 b2 b3 : Int} (h : ¬ (0 ≤ b2 ∧ b2 ≤ (ps.length : Int) - 1)) : bdB (ps.map (·.2)) ⟨b0, b1, b2, b3⟩ = false := by
  unfold bdB inFc inTn
  rw [List.length_map]
  by_cases h0 : 0 ≤ b2
  · rw [decide_eq_false (show ¬ b2 < (ps.length : Int) by omega)]; simp
  · rw [decide_eq_false h0]; simp
theorem bdB_3 {ps : List TnP} {b0 b1 b3 : Int} {n : Nat} {a : Tp} {t : Tn} (h0 : 0 ≤ b0 ∧ b0 ≤ 3) (h1 : 1 ≤ b1 ∧ b1 ≤ 4094) (hn : n < ps.length) (he : ps[n] = (a, t)) : bdB (ps.map (·.2)) ⟨b0, b1, (n : Int), b3⟩ = decide (0 ≤ b3 ∧ b3 ≤ (t.is.length : Int) - 1) := by
  unfold bdB inFc inTn
  simp only
  rw [List.length_map, decide_eq_true h0.1, decide_eq_true h0.2, decide_eq_true h1.1, decide_eq_true h1.2, decide_eq_true (show 0 ≤ (n : Int) by omega), decide_eq_true (show (n : Int) < (ps.length : Int) by omega), Int.toNat_natCast, tn_at hn he, ← Bool.decide_and]
  simp only [Bool.true_and]
  exact decide_eq_decide.2 (by omega)
set_option maxRecDepth 100000 in
set_option maxHeartbeats 16000000 in
theorem specBox_any (p : Option Addr) (cap : Nat) (ps : List TnP) (pb : Option Addr) (cb : Nat) (l : List Bd) (pl : Option Addr) (cl : Nat) (ls : List Lk) (lost : Int) (w : World) (h : TensIn w p ps) (hb0 : BdsIn w pb l) (hk0 : LksIn w pl ls) (hn : ps.length ≤ 100000000) (hm : ∀ e ∈ ps, TnM e.2 ∧ TpC e.1 e.2) (hl : l.length ≤ 100000000) (hk : ls.length ≤ 100000000) :
    Calls Tryz.prog 17 #[.agg #[.slice p ps.length cap, .slice pb l.length cb, .slice pl ls.length cl, .int .i64 lost]] w fun e w' => e = .returned (.bool (boxB (ps.map (·.2)) l ls lost)) ∧ Below w.heap.size w w' := by
  have HX : Hid (TensIn w p ps ∧ BdsIn w pb l ∧ LksIn w pl ls) := ⟨h, hb0, hk0⟩
  have HM : Hid (∀ e ∈ ps, TnM e.2 ∧ TpC e.1 e.2) := hm
  have HM2 : Hid (∀ e ∈ ps, e.2.is.length ≤ 100000000) := fun e he => (hm e he).1.1.1
  have HK : Hid (∀ w, LksIn w pl ls → Calls Tryz.prog 40 #[.slice pl ls.length cl] w fun e w' => e = .returned (.bool (lksB ls)) ∧ Below w.heap.size w w') := fun w a => specLeaks_any pl cl ls w a hk
  have HT : Hid (∀ w, Calls Tryz.prog 41 #[.int .i64 lost] w fun e w' => e = .returned (.bool (inTime lost)) ∧ w = w') := fun w => l03Time_any lost w
  have HD : Hid (∀ n w, Calls Tryz.prog 18 #[.agg #[.slice p ps.length cap, .slice pb l.length cb, .slice pl ls.length cl, .int .i64 lost], .int .i64 n] w fun e w' => e = .returned (.bool (decide (0 ≤ n ∧ n ≤ (ps.length : Int) - 1))) ∧ Below w.heap.size w w') := fun n w => l09There_any p ps.length cap pb l.length cb pl ls.length cl lost n w hn
  have HJ : Hid (∀ n a b w, Calls Tryz.prog 43 #[.int .i64 n, .int .i64 a, .int .i64 b] w fun e w' => e = .returned (.bool (decide (a ≤ n ∧ n ≤ b))) ∧ Below w.heap.size w w') := fun n a b w => (l03Is_any n a b w).mono (by rintro e w' ⟨rfl, rfl⟩; exact ⟨rfl, Below.refl _ _⟩)
  have HC : Hid True := trivial
  have HRE : Hid (boxB (ps.map (·.2)) l ls lost = (tensB (ps.map (·.2)) && (bindsB (ps.map (·.2)) l && (lksB ls && inTime lost)))) := rfl
  have HL1 : Hid (¬ 1 ≤ ps.length → boxB (ps.map (·.2)) l ls lost = false) := fun h => by unfold boxB; rw [tensB_few (by simpa using h), Bool.false_and]
  have HL3 : Hid (¬ ps.length ≤ 3 → boxB (ps.map (·.2)) l ls lost = false) := fun h => by unfold boxB; rw [tensB_many (by simpa using h), Bool.false_and]
  have HL9 : Hid (¬ l.length ≤ 9 → boxB (ps.map (·.2)) l ls lost = false) := fun h => by unfold boxB; rw [bindsB_long h, Bool.false_and, Bool.and_false]
  have HB1 : Hid (∀ k (hk : k < (ps.map (·.2)).length), tnOk (ps.map (·.2)) (ps.map (·.2))[k] = false → tensB (ps.map (·.2)) = false) := fun k hk h => tensB_bad hk h
  have HG : Hid (1 ≤ ps.length → ps.length ≤ 3 → (∀ j (hj : j < (ps.map (·.2)).length), tnOk (ps.map (·.2)) (ps.map (·.2))[j] = true) → tensB (ps.map (·.2)) = true) := fun a b c => tensB_good (by simpa using a) (by simpa using b) c
  have HB2 : Hid (∀ k, k < l.length → (bdB (ps.map (·.2)) l[k]! && bdUp l k) = false → bindsB (ps.map (·.2)) l = false) := fun k hk h => bindsB_bad hk h
  have HG2 : Hid (l.length ≤ 9 → (∀ j, j < l.length → (bdB (ps.map (·.2)) l[j]! && bdUp l j) = true) → bindsB (ps.map (·.2)) l = true) := fun a b => bindsB_good a b
  clear h hb0 hk0 hm
  generalize boxB (ps.map (·.2)) l ls lost = RES at *
  generalize tensB (ps.map (·.2)) = TB at *
  generalize bindsB (ps.map (·.2)) l = BB at *
  generalize lksB ls = V3 at *
  generalize inTime lost = V4 at *
  have HQ : Hid _ := And.intro (Row.new w 33 [.slice p ps.length cap, .slice pb l.length cb, .slice pl ls.length cl, .int .i64 lost]) (ent_new0 w (.cells #[.slice p ps.length cap, .slice pb l.length cb, .slice pl ls.length cl, .int .i64 lost] 33))
  have hRe := HRE.out
  by_cases h1 : 1 ≤ ps.length
  case neg =>
    have d1 : decide ((ps.length : Int) < 1) = true := by simp; omega
    have hR := HL1.out h1
    have hB := HQ.out.2
    clear HX HM HL1 HL3 HL9 HB1 HB2 HG HG2 HQ HRE hRe HK HT HC HD HJ
    go_enter Tryz.func17, Tryz.ntmps17
    go_wp2
    go_ret
    exact ⟨by first | rfl | (rw [hR]; rfl), hB⟩
  have d1 : decide ((ps.length : Int) < 1) = false := by simp; omega
  by_cases h3 : ps.length ≤ 3
  case neg =>
    have d3 : decide (3 < (ps.length : Int)) = true := by simp; omega
    have hR := HL3.out h3
    have hB := HQ.out.2
    clear HX HM HL1 HL3 HL9 HB1 HB2 HG HG2 HQ HRE hRe HK HT HC HD HJ
    go_enter Tryz.func17, Tryz.ntmps17
    go_wp2
    go_ret
    exact ⟨by first | rfl | (rw [hR]; rfl), hB⟩
  have d3 : decide (3 < (ps.length : Int)) = false := by simp; omega
  by_cases h9 : l.length ≤ 9
  case neg =>
    have d9 : decide (9 < (l.length : Int)) = true := by simp; omega
    have hR := HL9.out h9
    have hB := HQ.out.2
    clear HX HM HL1 HL3 HL9 HB1 HB2 HG HG2 HQ HRE hRe HK HT HC HD HJ
    go_enter Tryz.func17, Tryz.ntmps17
    go_wp2
    go_ret
    exact ⟨by first | rfl | (rw [hR]; rfl), hB⟩
  have d9 : decide (9 < (l.length : Int)) = false := by simp; omega
  go_enter Tryz.func17, Tryz.ntmps17
  go_wp2_with fail
  obtain ⟨r0, hB⟩ := HQ.out
  clear HQ
  refine (HK.out _ (HX.out.2.2.below hB)).mono ?_
  rintro e w1 ⟨rfl, hb1⟩
  have r0 := r0.below hb1 r0.lt
  have hB := hB.trans (hb1.mono hB.size)
  clear hb1
  clear HK
  cases V3
  · have hR : RES = false := by rw [hRe]; simp
    clear hRe HX HM HL1 HL3 HL9 HB1 HB2 HG HG2 HRE HT HC HD HJ
    go_wp2
    go_ret
    exact ⟨by first | rfl | (rw [hR]; rfl), hB⟩
  have s0 : w1.cell? ⟨w.heap.size, 0, none⟩ = some (.slice p ps.length cap) := r0.cell 0
  have s1 : w1.cell? ⟨w.heap.size, 1, none⟩ = some (.slice pb l.length cb) := r0.cell 1
  have s2 : w1.cell? ⟨w.heap.size, 2, none⟩ = some (.slice pl ls.length cl) := r0.cell 2
  have s3 : w1.cell? ⟨w.heap.size, 3, none⟩ = some (.int .i64 lost) := r0.cell 3
  go_wp2_with fail
  clear s0 s1 s2 s3
  refine (HT.out _).mono ?_
  rintro e w2 ⟨rfl, rfl⟩
  clear HT
  cases V4
  · have hR : RES = false := by rw [hRe]; simp
    clear hRe HX HM HL1 HL3 HL9 HB1 HB2 HG HG2 HRE HC HD HJ
    go_wp2
    go_ret
    exact ⟨by first | rfl | (rw [hR]; rfl), hB⟩
  rw [Bool.and_true, Bool.and_true] at hRe
  have HRR : Hid (RES = (TB && BB)) := hRe
  have HQ2 : Hid _ := And.intro r0 hB
  clear hRe HRE r0 hB d1 d3 d9
  go_wp2_with fail
  go_loopw [3] (fun i wr => ∃ k : Nat, k ≤ ps.length ∧ i = .int .i64 k ∧ (∀ j (hj : j < (ps.map (·.2)).length), j < k → tnOk (ps.map (·.2)) (ps.map (·.2))[j] = true) ∧ Row wr w.heap.size 33 [.slice p ps.length cap, .slice pb l.length cb, .slice pl ls.length cl, .int .i64 lost] ∧ Below w.heap.size w wr) (fun i _ => ps.length - (intOf i).toNat)
  case atStart => exact ⟨0, Nat.zero_le _, rfl, fun j _ hj => absurd hj (by omega), HQ2.out.1, HQ2.out.2⟩
  case round =>
    clear HQ2
    obtain ⟨k, hk, rfl, ha, rk, hBk⟩ := hrel
    have s0 : wr.cell? ⟨w.heap.size, 0, none⟩ = some (.slice p ps.length cap) := rk.cell 0
    have s1 : wr.cell? ⟨w.heap.size, 1, none⟩ = some (.slice pb l.length cb) := rk.cell 1
    have s2 : wr.cell? ⟨w.heap.size, 2, none⟩ = some (.slice pl ls.length cl) := rk.cell 2
    have s3 : wr.cell? ⟨w.heap.size, 3, none⟩ = some (.int .i64 lost) := rk.cell 3
    by_cases hlt : k < ps.length
    · have dk : decide ((k : Int) < (ps.length : Int)) = true := by simpa using hlt
      have d00 : decide ((0 : Int) < (ps.length : Int)) = true := by simp; omega
      have d01 : 0 < ps.length := by omega
      obtain ⟨g, a, t, rfl, hg, hek, hI, c0, c1, c2, c3, c4, c5, c6, c7⟩ := (HX.out.1.below hBk).at k hlt
      obtain ⟨g', a0, t0, e', hg', hek0, hI0, -, -, d2, -, -, -, -, -⟩ := (HX.out.1.below hBk).at 0 (by omega)
      cases e'
      have d2 : wr.cell? ⟨g, 2, none⟩ = some (.int .i64 t0.now) := by simpa using d2
      have hM := HM.out _ (List.getElem_mem hlt)
      rw [hek] at hM
      have hlm : k < (ps.map (·.2)).length := by simpa using hlt
      have HBad : Hid (tnOk (ps.map (·.2)) t = false → TB = false) := fun h => HB1.out k hlm (by rw [tn_at' hlt hek]; exact h)
      have HNx : Hid (tnOk (ps.map (·.2)) t = true → ∀ j (hj : j < (ps.map (·.2)).length), j < k + 1 → tnOk (ps.map (·.2)) (ps.map (·.2))[j] = true) := fun h j hj hjk => by
        rcases Nat.lt_or_ge j k with h' | h'
        · exact ha j hj h'
        · obtain rfl : j = k := by omega
          rw [tn_at' hlt hek]; exact h
      have HOk : Hid (tnOk (ps.map (·.2)) t = (tenT t && decide (t.now = t0.now))) := by show _ = _; unfold tnOk; rw [tn_at (by omega) hek0]
      have HCr : Hid (∀ d os, Calls Tryz.prog 42 #[.agg #[.slice a.x t.is.length a.c1, .slice a.y t.rs.length a.c2, .int .i64 t.now, .string t.key, .int .i64 t.qu, .slice a.p t.ss.length a.c3, .slice a.q t.es.length a.c4, .int .i64 t.dr]] (grow (redrawn wr d) os) fun e w'' => e = .returned (.bool (tenT t)) ∧ ∃ p : Regrown, w'' = grow (redrawn wr p.d) p.os) := fun d os => Calls.regrown_of (specTenant_any a.x a.c1 a.y a.c2 a.p a.c3 a.q a.c4 t.is t.rs t.now t.key t.qu t.ss t.es t.dr _ (hI.below (below_regrown _ d os)) hM.2 hM.1.2.1 hM.1.2.2 hM.1.1)
      have HBB : Hid _ := And.intro rk hBk
      clear HB1 HB2 HG HG2 HL1 HL3 HL9 ha hek hek0 hI hI0 hM HX HM hlm HC HD HJ rk hBk s0 s1 s2 s3
      generalize tnOk (ps.map (·.2)) t = OK at *
      generalize tenT t = TV at *
      generalize t0.now = n0 at *
      generalize a.x = ax at *
      generalize a.y = ay at *
      generalize a.p = ap at *
      generalize a.q = aq at *
      generalize a.c1 = ac1 at *
      generalize a.c2 = ac2 at *
      generalize a.c3 = ac3 at *
      generalize a.c4 = ac4 at *
      generalize t.is.length = tn1 at *
      generalize t.rs.length = tn2 at *
      generalize t.ss.length = tn3 at *
      generalize t.es.length = tn4 at *
      generalize t.now = tw at *
      generalize t.key = tk at *
      generalize t.qu = tq at *
      generalize t.dr = td at *
      have s0 : wr.cell? ⟨w.heap.size, 0, none⟩ = some (.slice (some ⟨g, 0, none⟩) ps.length cap) := HBB.out.1.cell 0
      go_wp2_with fail
      replace c0 := cell_regrown c0
      replace c1 := cell_regrown c1
      replace c2 := cell_regrown c2
      replace c3 := cell_regrown c3
      replace c4 := cell_regrown c4
      replace c5 := cell_regrown c5
      replace c6 := cell_regrown c6
      replace c7 := cell_regrown c7
      replace d2 := cell_regrown d2
      replace s0 := cell_regrown s0
      cases TV
      · have hV := HBad.out (by rw [HOk.out]; rfl)
        clear HBad HNx HOk
        have hR := HRR.out.trans (show (TB && BB) = false by rw [hV, Bool.false_and])
        clear hV
        refine wp_region_quiet_below (by kernel_rfl) (by kernel_rfl) ?_
        repeat (go_big_quiet_step ((go_at_call 42; exact HCr.out _ _)))
        refine wpQuiet_nil ?_
        intro w1 hw'
        obtain ⟨⟨dq, osq⟩, hw''⟩ := hw'
        have hbq := below_regrown wr dq osq
        rw [← hw''] at hbq
        clear hw'' osq dq
        clear d2 s0 c0 c1 c2 c3 c4 c5 c6 c7 HCr
        have hB := HBB.out.2.trans (hbq.mono HBB.out.2.size)
        clear hbq HBB
        go_wp2
        go_ret
        exact ⟨by first | rfl | (rw [hR]; rfl), hB⟩
      by_cases hz : tw = n0
      · have dz : (tw != n0) = false := by simp [hz]
        have HN : Hid _ := HNx.out (by rw [HOk.out, decide_eq_true hz]; rfl)
        clear HBad HNx HOk hz
        refine wp_region_quiet_below (by kernel_rfl) (by kernel_rfl) ?_
        repeat (go_big_quiet_step ((go_at_call 42; exact HCr.out _ _)))
        refine wpQuiet_nil ?_
        intro w1 hw'
        obtain ⟨⟨dq, osq⟩, hw''⟩ := hw'
        have hbq := below_regrown wr dq osq
        rw [← hw''] at hbq
        clear hw'' osq dq
        clear d2 s0 c0 c1 c2 c3 c4 c5 c6 c7 HCr
        have HB : Hid _ := And.intro (HBB.out.1.below hbq HBB.out.1.lt) (HBB.out.2.trans (hbq.mono HBB.out.2.size))
        clear hbq HBB
        go_wp2
        go_roundw
        case rel => exact ⟨k + 1, hlt, by go_num, HN.out, HB.out.1, HB.out.2⟩
        case measure => simp [intOf]; omega
      · have dz : (tw != n0) = true := bne_iff_ne.2 hz
        have hV := HBad.out (by rw [HOk.out, decide_eq_false hz]; rfl)
        clear HBad HNx HOk hz
        have hR := HRR.out.trans (show (TB && BB) = false by rw [hV, Bool.false_and])
        clear hV
        refine wp_region_quiet_below (by kernel_rfl) (by kernel_rfl) ?_
        repeat (go_big_quiet_step ((go_at_call 42; exact HCr.out _ _)))
        refine wpQuiet_nil ?_
        intro w1 hw'
        obtain ⟨⟨dq, osq⟩, hw''⟩ := hw'
        have hbq := below_regrown wr dq osq
        rw [← hw''] at hbq
        clear hw'' osq dq
        clear d2 s0 c0 c1 c2 c3 c4 c5 c6 c7 HCr
        have hB := HBB.out.2.trans (hbq.mono HBB.out.2.size)
        clear hbq HBB
        go_wp2
        go_ret
        exact ⟨by first | rfl | (rw [hR]; rfl), hB⟩
    · have dk : decide ((k : Int) < (ps.length : Int)) = false := by simpa using hlt
      have HTB : Hid (TB = true) := HG.out h1 h3 (fun j hj => ha j hj (by simp at hj; omega))
      have HQ3 : Hid _ := And.intro rk hBk
      clear ha HB1 HG HL1 HL3 HM HC
      go_wp2_with fail
      clear s0 s1 s2 s3 rk hBk
      go_loopw [4] (fun i wr => ∃ k : Nat, k ≤ l.length ∧ i = .int .i64 k ∧ (∀ j, j < k → (bdB (ps.map (·.2)) l[j]! && bdUp l j) = true) ∧ Row wr w.heap.size 33 [.slice p ps.length cap, .slice pb l.length cb, .slice pl ls.length cl, .int .i64 lost] ∧ Below w.heap.size w wr) (fun i _ => l.length - (intOf i).toNat)
      case atStart => exact ⟨0, Nat.zero_le _, rfl, fun j hj => absurd hj (by omega), HQ3.out.1, HQ3.out.2⟩
      case round =>
        clear HQ3
        obtain ⟨m, hm, rfl, ha, rm, hBm⟩ := hrel
        have s0 : wr.cell? ⟨w.heap.size, 0, none⟩ = some (.slice p ps.length cap) := rm.cell 0
        have s1 : wr.cell? ⟨w.heap.size, 1, none⟩ = some (.slice pb l.length cb) := rm.cell 1
        have s2 : wr.cell? ⟨w.heap.size, 2, none⟩ = some (.slice pl ls.length cl) := rm.cell 2
        have s3 : wr.cell? ⟨w.heap.size, 3, none⟩ = some (.int .i64 lost) := rm.cell 3
        by_cases hlt2 : m < l.length
        · have dm : decide ((m : Int) < (l.length : Int)) = true := by simpa using hlt2
          obtain ⟨g, b0, b1, b2, b3, rfl, hg, hek, c0, c1, c2, c3⟩ := (HX.out.2.1.below hBm).at m hlt2
          have HEK : Hid (bdB (ps.map (·.2)) l[m]! = bdB (ps.map (·.2)) ⟨b0, b1, b2, b3⟩ ∧ l[m] = ⟨b0, b1, b2, b3⟩) := ⟨by rw [get_bangB l m hlt2, hek], hek⟩
          have HBad : Hid ((bdB (ps.map (·.2)) l[m]! && bdUp l m) = false → BB = false) := fun h => HB2.out m hlt2 h
          have HNx : Hid ((bdB (ps.map (·.2)) l[m]! && bdUp l m) = true → ∀ j, j < m + 1 → (bdB (ps.map (·.2)) l[j]! && bdUp l j) = true) := fun h j hjk => by
            rcases Nat.lt_or_ge j m with h' | h'
            · exact ha j h'
            · obtain rfl : j = m := by omega
              exact h
          have HDk : Hid (∀ w, Calls Tryz.prog 18 #[.agg #[.slice p ps.length cap, .slice (some ⟨g, 0, none⟩) l.length cb, .slice pl ls.length cl, .int .i64 lost], .int .i64 b2] w fun e w' => e = .returned (.bool (decide (0 ≤ b2 ∧ b2 ≤ (ps.length : Int) - 1))) ∧ Below w.heap.size w w') := HD.out b2
          have rm1 := rm.alloc (.cells #[.int .i64 b0, .int .i64 b1, .int .i64 b2, .int .i64 b3] 77)
          have hBm1 := hBm.alloc hBm.size (.cells #[.int .i64 b0, .int .i64 b1, .int .i64 b2, .int .i64 b3] 77)
          have rx := Row.new wr 77 [.int .i64 b0, .int .i64 b1, .int .i64 b2, .int .i64 b3]
          have HBB : Hid _ := And.intro rm1 (And.intro hBm1 rx)
          clear ha hek HB2 HG2 HL9 HD rm hBm rm1 hBm1 rx
          go_wp2_with fail
          clear s0 s1 s2 s3 c0 c1 c2 c3
          generalize hbx : wr.heap.size = bx at *
          generalize wr.alloc (.cells #[.int .i64 b0, .int .i64 b1, .int .i64 b2, .int .i64 b3] 77) = W at *
          clear hbx
          obtain ⟨rm, hB, rx⟩ := HBB.out
          clear HBB
          have s0 : W.cell? ⟨w.heap.size, 0, none⟩ = some (.slice p ps.length cap) := rm.cell 0
          have s1 : W.cell? ⟨w.heap.size, 1, none⟩ = some (.slice (some ⟨g, 0, none⟩) l.length cb) := rm.cell 1
          have s2 : W.cell? ⟨w.heap.size, 2, none⟩ = some (.slice pl ls.length cl) := rm.cell 2
          have s3 : W.cell? ⟨w.heap.size, 3, none⟩ = some (.int .i64 lost) := rm.cell 3
          have x0 : W.cell? ⟨bx, 0, none⟩ = some (.int .i64 b0) := rx.cell 0
          have x1 : W.cell? ⟨bx, 1, none⟩ = some (.int .i64 b1) := rx.cell 1
          have x2 : W.cell? ⟨bx, 2, none⟩ = some (.int .i64 b2) := rx.cell 2
          have x3 : W.cell? ⟨bx, 3, none⟩ = some (.int .i64 b3) := rx.cell 3
          have HBB : Hid _ := And.intro rm (And.intro hB rx)
          clear rm hB rx
          replace s0 := cell_regrown s0
          replace s1 := cell_regrown s1
          replace s2 := cell_regrown s2
          replace s3 := cell_regrown s3
          replace x0 := cell_regrown x0
          replace x1 := cell_regrown x1
          replace x2 := cell_regrown x2
          replace x3 := cell_regrown x3
          by_cases k0 : 0 ≤ b0 ∧ b0 ≤ 3
          case neg =>
            have e0 : decide (0 ≤ b0 ∧ b0 ≤ 3) = false := decide_eq_false k0
            have hv : bdB (ps.map (·.2)) ⟨b0, b1, b2, b3⟩ = false := bdB_0 k0
            have hR := HRR.out.trans (show (TB && BB) = false by rw [HTB.out, Bool.true_and]; exact HBad.out (by rw [HEK.out.1, hv, Bool.false_and]))
            clear hv HBad HNx HEK
            refine wp_region_quiet_below (by kernel_rfl) (by kernel_rfl) ?_
            repeat (go_big_quiet_step ((go_at_call 43; exact Calls.regrown_of (HJ.out _ _ _ _))))
            refine wpQuiet_nil ?_
            intro w1 hw'
            obtain ⟨⟨dq, osq⟩, hw''⟩ := hw'
            have hbq := below_regrown W dq osq
            rw [← hw''] at hbq
            clear hw'' osq dq
            clear s0 x0 s1 x1 s2 x2 s3 x3 HDk
            have hB := HBB.out.2.1.trans (hbq.mono HBB.out.2.1.size)
            clear hbq HBB
            go_wp2
            go_ret
            exact ⟨by first | rfl | (rw [hR]; rfl), hB⟩
          have e0 : decide (0 ≤ b0 ∧ b0 ≤ 3) = true := decide_eq_true k0
          by_cases k1 : 1 ≤ b1 ∧ b1 ≤ 4094
          case neg =>
            have e1 : decide (1 ≤ b1 ∧ b1 ≤ 4094) = false := decide_eq_false k1
            have hv : bdB (ps.map (·.2)) ⟨b0, b1, b2, b3⟩ = false := bdB_1 k1
            have hR := HRR.out.trans (show (TB && BB) = false by rw [HTB.out, Bool.true_and]; exact HBad.out (by rw [HEK.out.1, hv, Bool.false_and]))
            clear hv HBad HNx HEK
            refine wp_region_quiet_below (by kernel_rfl) (by kernel_rfl) ?_
            repeat (go_big_quiet_step ((go_at_call 43; exact Calls.regrown_of (HJ.out _ _ _ _))))
            refine wpQuiet_nil ?_
            intro w1 hw'
            obtain ⟨⟨dq, osq⟩, hw''⟩ := hw'
            have hbq := below_regrown W dq osq
            rw [← hw''] at hbq
            clear hw'' osq dq
            clear s0 x0 s1 x1 s2 x2 s3 x3 HDk
            have hB := HBB.out.2.1.trans (hbq.mono HBB.out.2.1.size)
            clear hbq HBB
            go_wp2
            go_ret
            exact ⟨by first | rfl | (rw [hR]; rfl), hB⟩
          have e1 : decide (1 ≤ b1 ∧ b1 ≤ 4094) = true := decide_eq_true k1
          by_cases k2 : 0 ≤ b2 ∧ b2 ≤ (ps.length : Int) - 1
          case neg =>
            have e2 : decide (0 ≤ b2 ∧ b2 ≤ (ps.length : Int) - 1) = false := decide_eq_false k2
            have hv : bdB (ps.map (·.2)) ⟨b0, b1, b2, b3⟩ = false := bdB_2 k2
            have hR := HRR.out.trans (show (TB && BB) = false by rw [HTB.out, Bool.true_and]; exact HBad.out (by rw [HEK.out.1, hv, Bool.false_and]))
            clear hv HBad HNx HEK
            refine wp_region_quiet_below (by kernel_rfl) (by kernel_rfl) ?_
            repeat (go_big_quiet_step (first | (go_at_call 43; exact Calls.regrown_of (HJ.out _ _ _ _)) | (go_at_call 18; exact Calls.regrown_of (HDk.out _))))
            refine wpQuiet_nil ?_
            intro w1 hw'
            obtain ⟨⟨dq, osq⟩, hw''⟩ := hw'
            have hbq := below_regrown W dq osq
            rw [← hw''] at hbq
            clear hw'' osq dq
            clear s0 x0 s1 x1 s2 x2 s3 x3 HDk
            have hB := HBB.out.2.1.trans (hbq.mono HBB.out.2.1.size)
            clear hbq HBB
            go_wp2
            go_ret
            exact ⟨by first | rfl | (rw [hR]; rfl), hB⟩
          have e2 : decide (0 ≤ b2 ∧ b2 ≤ (ps.length : Int) - 1) = true := decide_eq_true k2
          obtain ⟨n, rfl⟩ : ∃ n : Nat, b2 = (n : Int) := ⟨b2.toNat, by omega⟩
          have hn2 : n < ps.length := by omega
          obtain ⟨g', a, t, hp, hg', hek', hI, y0, y1, y2, -, -, -, -, -⟩ := (HX.out.1.below HBB.out.2.1).at n hn2
          have HTh : Hid (∀ w, Calls Tryz.prog 19 #[.agg #[.slice a.x t.is.length a.c1, .slice a.y t.rs.length a.c2, .int .i64 t.now], .int .i64 b3] w fun e w' => e = .returned (.bool (decide (0 ≤ b3 ∧ b3 ≤ (t.is.length : Int) - 1))) ∧ Below w.heap.size w w') := fun w => l07There_any _ _ _ _ _ _ _ _ w (by have := HM2.out _ (List.getElem_mem hn2); rw [hek'] at this; exact this)
          have HI : Hid (bdB (ps.map (·.2)) ⟨b0, b1, (n : Int), b3⟩ = decide (0 ≤ b3 ∧ b3 ≤ (t.is.length : Int) - 1)) := bdB_3 k0 k1 hn2 hek'
          clear hI hek'
          subst hp
          have dn : decide ((n : Int) < (ps.length : Int)) = true := by simpa using hn2
          generalize a.x = ax at *
          generalize a.y = ay at *
          generalize a.c1 = ac1 at *
          generalize a.c2 = ac2 at *
          generalize t.rs.length = tn2 at *
          generalize t.now = tw at *
          generalize t.is.length = tn1 at *
          replace y0 := cell_regrown y0
          replace y1 := cell_regrown y1
          replace y2 := cell_regrown y2
          by_cases k3 : 0 ≤ b3 ∧ b3 ≤ (tn1 : Int) - 1
          case neg =>
            have e3 : decide (0 ≤ b3 ∧ b3 ≤ (tn1 : Int) - 1) = false := decide_eq_false k3
            have hv := HI.out.trans e3
            have hR := HRR.out.trans (show (TB && BB) = false by rw [HTB.out, Bool.true_and]; exact HBad.out (by rw [HEK.out.1, hv, Bool.false_and]))
            clear hv HBad HNx HEK
            refine wp_region_quiet_below (by kernel_rfl) (by kernel_rfl) ?_
            repeat (go_big_quiet_step (first | (go_at_call 43; exact Calls.regrown_of (HJ.out _ _ _ _)) | (go_at_call 18; exact Calls.regrown_of (HDk.out _)) | (go_at_call 19; exact Calls.regrown_of (HTh.out _))))
            refine wpQuiet_nil ?_
            intro w1 hw'
            obtain ⟨⟨dq, osq⟩, hw''⟩ := hw'
            have hbq := below_regrown W dq osq
            rw [← hw''] at hbq
            clear hw'' osq dq
            clear s0 x0 s1 x1 s2 x2 s3 x3 HDk HTh y0 y1 y2
            have hB := HBB.out.2.1.trans (hbq.mono HBB.out.2.1.size)
            clear hbq HBB
            go_wp2
            go_ret
            exact ⟨by first | rfl | (rw [hR]; rfl), hB⟩
          have e3 : decide (0 ≤ b3 ∧ b3 ≤ (tn1 : Int) - 1) = true := decide_eq_true k3
          have hv := HI.out.trans e3
          refine wp_region_quiet_below (by kernel_rfl) (by kernel_rfl) ?_
          repeat (go_big_quiet_step (first | (go_at_call 43; exact Calls.regrown_of (HJ.out _ _ _ _)) | (go_at_call 18; exact Calls.regrown_of (HDk.out _)) | (go_at_call 19; exact Calls.regrown_of (HTh.out _))))
          refine wpQuiet_nil ?_
          intro w1 hw'
          obtain ⟨⟨dq, osq⟩, hw''⟩ := hw'
          have hbq := below_regrown W dq osq
          rw [← hw''] at hbq
          clear hw'' osq dq
          clear s0 x0 s1 x1 s2 x2 s3 x3 HDk HTh y0 y1 y2
          have rm := HBB.out.1.below hbq HBB.out.1.lt
          have rx := HBB.out.2.2.below hbq HBB.out.2.2.lt
          have hB := HBB.out.2.1.trans (hbq.mono HBB.out.2.1.size)
          clear hbq HBB
          have HV : Hid _ := hv
          clear hv HI
          rw [HEK.out.1] at HBad HNx
          rw [HV.out, Bool.true_and] at HBad HNx
          have s1 : w1.cell? ⟨w.heap.size, 1, none⟩ = some (.slice (some ⟨g, 0, none⟩) l.length cb) := rm.cell 1
          have x0 : w1.cell? ⟨bx, 0, none⟩ = some (.int .i64 b0) := rx.cell 0
          have x1 : w1.cell? ⟨bx, 1, none⟩ = some (.int .i64 b1) := rx.cell 1
          replace s1 := cell_regrown s1
          replace x0 := cell_regrown x0
          replace x1 := cell_regrown x1
          have HZ : Hid _ := And.intro rm hB
          by_cases k4 : m = 0
          · have dz : decide (0 < (m : Int)) = false := by simp; omega
            have dz2 : decide (0 < m) = false := by simp; omega
            have HN : Hid _ := HNx.out (by unfold bdUp; rw [decide_eq_true k4]; rfl)
            clear rm rx hB HBad HNx k4 HEK
            go_wp2_with fail
            refine wp_region_quiet_below (by kernel_rfl) (by kernel_rfl) ?_
            repeat (go_big_quiet_step (fail))
            refine wpQuiet_nil ?_
            intro w9 hw'
            obtain ⟨⟨dq, osq⟩, hw''⟩ := hw'
            have hbq := below_regrown w1 dq osq
            rw [← hw''] at hbq
            clear hw'' osq dq
            have HF : Hid _ := And.intro (HZ.out.1.below hbq HZ.out.1.lt) (HZ.out.2.trans (hbq.mono HZ.out.2.size))
            clear hbq s1 x0 x1 HZ
            go_wp2
            go_roundw
            case rel => exact ⟨m + 1, hlt2, by go_num, HN.out, HF.out.1, HF.out.2⟩
            case measure => simp [intOf]; omega
          · have dz : decide (0 < (m : Int)) = true := by simp; omega
            have dz2 : decide (0 < m) = true := by simp; omega
            obtain ⟨g2, a0, a1, a2, a3, e', hg2, hek2, q0, q1, q2, q3⟩ := (HX.out.2.1.below hB).at (m - 1) (by omega)
            cases e'
            have hup : bdUp l m = bdLt ⟨a0, a1, a2, a3⟩ ⟨b0, b1, (n : Int), b3⟩ := by
              unfold bdUp
              rw [get_bangB l m hlt2, get_bangB l (m - 1) (by omega), HEK.out.2, hek2, decide_eq_false k4, Bool.false_or]
            have z2 : IntKind.i64.wrap ((m : Int) - 1) = ((m - 1 : Nat) : Int) := by rw [wrap_i64_in _ (by omega) (by omega)]; omega
            have z3 : (m : Int) - 1 = ((m - 1 : Nat) : Int) := by omega
            have z4 : decide (((m - 1 : Nat) : Int) < (l.length : Int)) = true := by simp; omega
            have z5 : m - 1 < l.length := by omega
            clear rm rx hB HEK hek2 q2 q3
            replace q0 := cell_regrown q0
            replace q1 := cell_regrown q1
            rw [hup] at HBad HNx
            by_cases k5 : b0 < a0
            · have d5 : decide (b0 < a0) = true := by simpa using k5
              have hbb := HBad.out (by unfold bdLt; apply decide_eq_false; simp only; omega)
              clear HBad HNx hup k5 k4
              go_wp2_with fail
              have hR := HRR.out.trans (show (TB && BB) = false by rw [HTB.out, Bool.true_and]; exact hbb)
              clear hbb
              refine wp_region_quiet_below (by kernel_rfl) (by kernel_rfl) ?_
              repeat (go_big_quiet_step (fail))
              refine wpQuiet_nil ?_
              intro w9 hw'
              obtain ⟨⟨dq, osq⟩, hw''⟩ := hw'
              have hbq := below_regrown w1 dq osq
              rw [← hw''] at hbq
              clear hw'' osq dq
              have hB := HZ.out.2.trans (hbq.mono HZ.out.2.size)
              clear hbq s1 x0 x1 q0 q1 HZ
              go_wp2
              go_ret
              exact ⟨by first | rfl | (rw [hR]; rfl), hB⟩
            have d5 : decide (b0 < a0) = false := by simpa using k5
            by_cases k6 : a0 = b0
            · have d6 : (a0 == b0) = true := by simpa using k6
              by_cases k7 : b1 ≤ a1
              · have d7 : decide (b1 ≤ a1) = true := by simpa using k7
                have hbb := HBad.out (by unfold bdLt; apply decide_eq_false; simp only; omega)
                clear HBad HNx hup k5 k4 k6 k7
                go_wp2_with fail
                have hR := HRR.out.trans (show (TB && BB) = false by rw [HTB.out, Bool.true_and]; exact hbb)
                clear hbb
                refine wp_region_quiet_below (by kernel_rfl) (by kernel_rfl) ?_
                repeat (go_big_quiet_step (fail))
                refine wpQuiet_nil ?_
                intro w9 hw'
                obtain ⟨⟨dq, osq⟩, hw''⟩ := hw'
                have hbq := below_regrown w1 dq osq
                rw [← hw''] at hbq
                clear hw'' osq dq
                have hB := HZ.out.2.trans (hbq.mono HZ.out.2.size)
                clear hbq s1 x0 x1 q0 q1 HZ
                go_wp2
                go_ret
                exact ⟨by first | rfl | (rw [hR]; rfl), hB⟩
              · have d7 : decide (b1 ≤ a1) = false := by simpa using k7
                have HN : Hid _ := HNx.out (by unfold bdLt; apply decide_eq_true; simp only; omega)
                clear HBad HNx hup k5 k4 k6 k7
                go_wp2_with fail
                refine wp_region_quiet_below (by kernel_rfl) (by kernel_rfl) ?_
                repeat (go_big_quiet_step (fail))
                refine wpQuiet_nil ?_
                intro w9 hw'
                obtain ⟨⟨dq, osq⟩, hw''⟩ := hw'
                have hbq := below_regrown w1 dq osq
                rw [← hw''] at hbq
                clear hw'' osq dq
                have HF : Hid _ := And.intro (HZ.out.1.below hbq HZ.out.1.lt) (HZ.out.2.trans (hbq.mono HZ.out.2.size))
                clear hbq s1 x0 x1 q0 q1 HZ
                go_wp2
                go_roundw
                case rel => exact ⟨m + 1, hlt2, by go_num, HN.out, HF.out.1, HF.out.2⟩
                case measure => simp [intOf]; omega
            · have d6 : (a0 == b0) = false := by simpa using k6
              have HN : Hid _ := HNx.out (by unfold bdLt; apply decide_eq_true; simp only; omega)
              clear HBad HNx hup k5 k4 k6
              go_wp2_with fail
              refine wp_region_quiet_below (by kernel_rfl) (by kernel_rfl) ?_
              repeat (go_big_quiet_step (fail))
              refine wpQuiet_nil ?_
              intro w9 hw'
              obtain ⟨⟨dq, osq⟩, hw''⟩ := hw'
              have hbq := below_regrown w1 dq osq
              rw [← hw''] at hbq
              clear hw'' osq dq
              have HF : Hid _ := And.intro (HZ.out.1.below hbq HZ.out.1.lt) (HZ.out.2.trans (hbq.mono HZ.out.2.size))
              clear hbq s1 x0 x1 q0 q1 HZ
              go_wp2
              go_roundw
              case rel => exact ⟨m + 1, hlt2, by go_num, HN.out, HF.out.1, HF.out.2⟩
              case measure => simp [intOf]; omega
        · have dm : decide ((m : Int) < (l.length : Int)) = false := by simpa using hlt2
          have hR := HRR.out.trans (show (TB && BB) = true by rw [HTB.out, Bool.true_and]; exact HG2.out h9 (fun j hj => ha j (by omega)))
          have hB := hBm
          clear hBm ha HB2 HG2 HL9 HD HX
          go_wp2
          go_ret
          exact ⟨by first | rfl | (rw [hR]; rfl), hB⟩
end Go.Proofs.YtialedffpaoacaaGreatDoor
/- The laws' own Tenants handed in: opened. (Written by gen_opten.py.) -/
namespace Go.Proofs.YtialedffpaoacaaGreatDoor
open Go.ChangeShapes Go.WideShapes Go.RowKit Go.Sort Go.Deep Go.Joins Go.WideElems Go.Maps

theorem Tryz.cellsTn : Tryz.prog.cellsOf 92 = 8 := by kernel_rfl
theorem Tryz.cellsTnI : Tryz.prog.cellsOf 88 = 3 := by kernel_rfl
theorem Tryz.cellsTnS : Tryz.prog.cellsOf 9 = 1 := by kernel_rfl
theorem Tryz.cellsTnN : Tryz.prog.cellsOf 2 = 1 := by kernel_rfl
theorem Tryz.cellsTnR : Tryz.prog.cellsOf 89 = 1 := by kernel_rfl
theorem Tryz.cellsTnH : Tryz.prog.cellsOf 90 = 1 := by kernel_rfl
def TnW (t : Tn) : Prop := t.key.size ≤ maxLen ∧ (Lit.int .i64 t.now).wf = true ∧ (Lit.int .i64 t.qu).wf = true ∧ (Lit.int .i64 t.dr).wf = true
section
variable {H : Type} {enc : TypeId × Value → H} {w : World} {base : Nat} {spare : Nat → Bool} {held : Bool}
set_option maxRecDepth 100000 in
set_option maxHeartbeats 4000000 in
theorem open_inst3 {fuel : Nat} {e0 e1 e2 : Value} {x : DataW H × List MemPlace} (h : DataW.trod enc Tryz.prog w base spare held fuel 88 [e0, e1, e2] = some x) :
    ∃ x n1 c1 is y n2 c2 rs now, e0 = .slice x n1 c1 ∧ e1 = .slice y n2 c2 ∧ e2 = .int .i64 now ∧ ArgI w x n1 is ∧ ArgR w y n2 rs ∧ (Lit.int .i64 now).wf = true := by
  obtain ⟨xs, n, _, _, hl, hx, hg⟩ := DataW.trod_struct Tryz.underlying88 h
  match xs, hx with
  | [y0, y1, y2], _ =>
    have h0 : DataW.trod enc Tryz.prog w base spare held n 83 ((([e0, e1, e2] : List Value).drop 0).take (Tryz.prog.cellsOf 83)) = [y0, y1, y2][0]? := hg 0 _ rfl
    rw [Tryz.cellsIfsI] at h0
    replace h0 : DataW.trod enc Tryz.prog w base spare held n 83 [e0] = some y0 := h0
    have h1 : DataW.trod enc Tryz.prog w base spare held n 86 ((([e0, e1, e2] : List Value).drop 1).take (Tryz.prog.cellsOf 86)) = [y0, y1, y2][1]? := hg 1 _ rfl
    rw [Tryz.cellsRibI] at h1
    replace h1 : DataW.trod enc Tryz.prog w base spare held n 86 [e1] = some y1 := h1
    have h2 : DataW.trod enc Tryz.prog w base spare held n 2 ((([e0, e1, e2] : List Value).drop 2).take (Tryz.prog.cellsOf 2)) = [y0, y1, y2][2]? := hg 2 _ rfl
    rw [Tryz.cellsIntN] at h2
    replace h2 : DataW.trod enc Tryz.prog w base spare held n 2 [e2] = some y2 := h2
    obtain ⟨xs', n', _, _, hl', hx', hg'⟩ := DataW.trod_struct Tryz.underlying86 h1
    match xs', hx' with
    | [z0], _ =>
      have k0 : DataW.trod enc Tryz.prog w base spare held n' 84 ((([e1] : List Value).drop 0).take (Tryz.prog.cellsOf 84)) = [z0][0]? := hg' 0 _ rfl
      rw [Tryz.cellsRibS] at k0
      replace k0 : DataW.trod enc Tryz.prog w base spare held n' 84 [e1] = some z0 := k0
      obtain ⟨x, n1, c1, is, rfl, hA⟩ := open_ifs h0
      obtain ⟨y, n2, c2, rs, rfl, hR⟩ := open_rts k0
      obtain ⟨now, en, _, wn⟩ := DataW.trod_int Tryz.underlying2 h2
      simp only [List.cons.injEq, and_true] at en
      subst en
      exact ⟨x, n1, c1, is, y, n2, c2, rs, now, rfl, rfl, rfl, hA, hR, wn⟩
set_option maxRecDepth 100000 in
set_option maxHeartbeats 4000000 in
theorem open_tn {fuel : Nat} {cs : List Value} {x : DataW H × List MemPlace} (h : DataW.trod enc Tryz.prog w base spare held fuel 92 cs = some x) : ∃ (a : Tp) (t : Tn), cs = tnL a t ∧ ArgT w a t ∧ TnW t := by
  obtain ⟨xs, n, _, _, hl, hx, hg⟩ := DataW.trod_struct Tryz.underlying92 h
  rw [Tryz.cellsTn] at hl
  match cs, hl, xs, hx with
  | [c0, c1, c2, c3, c4, c5, c6, c7], _, [y0, y1, y2, y3, y4, y5], _ =>
    have h0 : DataW.trod enc Tryz.prog w base spare held n 88 ((([c0, c1, c2, c3, c4, c5, c6, c7] : List Value).drop 0).take (Tryz.prog.cellsOf 88)) = [y0, y1, y2, y3, y4, y5][0]? := hg 0 _ rfl
    rw [Tryz.cellsTnI] at h0
    replace h0 : DataW.trod enc Tryz.prog w base spare held n 88 [c0, c1, c2] = some y0 := h0
    have h1 : DataW.trod enc Tryz.prog w base spare held n 9 ((([c0, c1, c2, c3, c4, c5, c6, c7] : List Value).drop 3).take (Tryz.prog.cellsOf 9)) = [y0, y1, y2, y3, y4, y5][1]? := hg 1 _ rfl
    rw [Tryz.cellsTnS] at h1
    replace h1 : DataW.trod enc Tryz.prog w base spare held n 9 [c3] = some y1 := h1
    have h2 : DataW.trod enc Tryz.prog w base spare held n 2 ((([c0, c1, c2, c3, c4, c5, c6, c7] : List Value).drop 4).take (Tryz.prog.cellsOf 2)) = [y0, y1, y2, y3, y4, y5][2]? := hg 2 _ rfl
    rw [Tryz.cellsTnN] at h2
    replace h2 : DataW.trod enc Tryz.prog w base spare held n 2 [c4] = some y2 := h2
    have h3 : DataW.trod enc Tryz.prog w base spare held n 89 ((([c0, c1, c2, c3, c4, c5, c6, c7] : List Value).drop 5).take (Tryz.prog.cellsOf 89)) = [y0, y1, y2, y3, y4, y5][3]? := hg 3 _ rfl
    rw [Tryz.cellsTnR] at h3
    replace h3 : DataW.trod enc Tryz.prog w base spare held n 89 [c5] = some y3 := h3
    have h4 : DataW.trod enc Tryz.prog w base spare held n 90 ((([c0, c1, c2, c3, c4, c5, c6, c7] : List Value).drop 6).take (Tryz.prog.cellsOf 90)) = [y0, y1, y2, y3, y4, y5][4]? := hg 4 _ rfl
    rw [Tryz.cellsTnH] at h4
    replace h4 : DataW.trod enc Tryz.prog w base spare held n 90 [c6] = some y4 := h4
    have h5 : DataW.trod enc Tryz.prog w base spare held n 2 ((([c0, c1, c2, c3, c4, c5, c6, c7] : List Value).drop 7).take (Tryz.prog.cellsOf 2)) = [y0, y1, y2, y3, y4, y5][5]? := hg 5 _ rfl
    rw [Tryz.cellsTnN] at h5
    replace h5 : DataW.trod enc Tryz.prog w base spare held n 2 [c7] = some y5 := h5
    obtain ⟨x, n1, k1, is, y, n2, k2, rs, now, rfl, rfl, rfl, hI, hR, wn⟩ := open_inst3 h0
    obtain ⟨key, ek, _, wk⟩ := DataW.trod_string Tryz.underlying9 h1
    obtain ⟨qu, eq, _, wq⟩ := DataW.trod_int Tryz.underlying2 h2
    obtain ⟨p, n3, k3, ss, rfl, hS⟩ := open_sns h3
    obtain ⟨q, n4, k4, es, rfl, hE⟩ := open_ses h4
    obtain ⟨dr, ed, _, wd⟩ := DataW.trod_int Tryz.underlying2 h5
    simp only [List.cons.injEq, and_true] at ek eq ed
    subst ek eq ed
    obtain rfl : is.length = n1 := hI.1
    obtain rfl : rs.length = n2 := hR.1
    obtain rfl : ss.length = n3 := hS.1
    obtain rfl : es.length = n4 := hE.1
    exact ⟨⟨x, k1, y, k2, p, k3, q, k4⟩, ⟨is, rs, now, key, qu, ss, es, dr⟩, rfl, ⟨hI, hR, hS, hE⟩, wk, wn, wq, wd⟩
set_option maxRecDepth 100000 in
set_option maxHeartbeats 4000000 in
theorem open_tnV {r : Reach} {b0 : Nat} {v : Value} {d : DataW H} {p : List MemPlace} (hv : Value.okWide Tryz.prog w r b0 92 v) (h : DataW.Trod enc Tryz.prog w base spare held 92 v d p) :
    ∃ (a : Tp) (t : Tn), v = tnV a t ∧ ArgT w a t ∧ TnW t := by
  obtain ⟨cs, rfl, hsz⟩ := okWide_struct Tryz.underlying92 hv
  obtain ⟨fuel, hf⟩ := h
  obtain ⟨a, t, he, hA, hW⟩ := open_tn hf
  refine ⟨a, t, ?_, hA, hW⟩
  obtain ⟨l⟩ := cs
  simp only [Value.cells] at he
  subst he
  rfl
end
end Go.Proofs.YtialedffpaoacaaGreatDoor
/- The laws' own lists of Tenants handed in: opened. (Written by gen_tens.py.) -/
namespace Go.Proofs.YtialedffpaoacaaGreatDoor
open Go.ChangeShapes Go.WideShapes Go.RowKit Go.Sort Go.Deep Go.Joins Go.WideElems Go.Maps

/-- The slice (x, len) that was handed in holds them. -/
def ArgTs (w : World) (x : Option Addr) (len : Nat) (ps : List TnP) : Prop := ps.length = len ∧ len ≤ maxLen ∧ (∀ e ∈ ps, ArgT w e.1 e.2 ∧ TnW e.2) ∧ ∀ i, (h : i < ps.length) → ∃ p, x = some p ∧ w.cell? (p.add (i * 8)) = some (.slice ps[i].1.x ps[i].2.is.length ps[i].1.c1) ∧ w.cell? (p.add (i * 8 + 1)) = some (.slice ps[i].1.y ps[i].2.rs.length ps[i].1.c2) ∧ w.cell? (p.add (i * 8 + 2)) = some (.int .i64 ps[i].2.now) ∧ w.cell? (p.add (i * 8 + 3)) = some (.string ps[i].2.key) ∧ w.cell? (p.add (i * 8 + 4)) = some (.int .i64 ps[i].2.qu) ∧ w.cell? (p.add (i * 8 + 5)) = some (.slice ps[i].1.p ps[i].2.ss.length ps[i].1.c3) ∧ w.cell? (p.add (i * 8 + 6)) = some (.slice ps[i].1.q ps[i].2.es.length ps[i].1.c4) ∧ w.cell? (p.add (i * 8 + 7)) = some (.int .i64 ps[i].2.dr)
theorem ArgTs.below {w w' : World} {x : Option Addr} {len : Nat} {ps : List TnP} (h : ArgTs w x len ps) (hb : Below w.heap.size w w') : ArgTs w' x len ps := by
  obtain ⟨h1, h2, h3, h4⟩ := h
  refine ⟨h1, h2, fun e he => ⟨(h3 e he).1.below hb, (h3 e he).2⟩, fun i hi => ?_⟩
  obtain ⟨p, hp, c0, c1, c2, c3, c4, c5, c6, c7⟩ := h4 i hi
  have hk : ∀ k v, w.cell? (p.add k) = some v → w'.cell? (p.add k) = some v := fun k v hv => by rw [hb.cell (World.block_lt_of_cell? w _ hv)]; exact hv
  exact ⟨p, hp, hk _ _ c0, hk _ _ c1, hk _ _ c2, hk _ _ c3, hk _ _ c4, hk _ _ c5, hk _ _ c6, hk _ _ c7⟩
theorem addr_moreT (p : Addr) (m j : Nat) (hj : j ≠ 0) : p.add (m + j) = ⟨(p.add m).block, (p.add m).off + j, none⟩ := by
  rw [← Addr.add_add]
  generalize p.add m = q
  unfold Addr.add
  rw [if_neg hj]
theorem ArgTs.at {w : World} {x : Option Addr} {len : Nat} {ps : List TnP} (h : ArgTs w x len ps) (i : Nat) (hi : i < ps.length) : ∃ p a t, x = some p ∧ ps[i] = (a, t) ∧ ArgT w a t ∧ TnW t ∧ w.cell? (p.add (i * 8)) = some (.slice a.x t.is.length a.c1) ∧ w.cell? ⟨(p.add (i * 8)).block, (p.add (i * 8)).off + 1, none⟩ = some (.slice a.y t.rs.length a.c2) ∧ w.cell? ⟨(p.add (i * 8)).block, (p.add (i * 8)).off + 2, none⟩ = some (.int .i64 t.now) ∧ w.cell? ⟨(p.add (i * 8)).block, (p.add (i * 8)).off + 3, none⟩ = some (.string t.key) ∧ w.cell? ⟨(p.add (i * 8)).block, (p.add (i * 8)).off + 4, none⟩ = some (.int .i64 t.qu) ∧ w.cell? ⟨(p.add (i * 8)).block, (p.add (i * 8)).off + 5, none⟩ = some (.slice a.p t.ss.length a.c3) ∧ w.cell? ⟨(p.add (i * 8)).block, (p.add (i * 8)).off + 6, none⟩ = some (.slice a.q t.es.length a.c4) ∧ w.cell? ⟨(p.add (i * 8)).block, (p.add (i * 8)).off + 7, none⟩ = some (.int .i64 t.dr) := by
  obtain ⟨p, hp, c0, c1, c2, c3, c4, c5, c6, c7⟩ := h.2.2.2 i hi
  have hh := h.2.2.1 _ (List.getElem_mem hi)
  rw [addr_moreT _ _ _ (by omega)] at c1 c2 c3 c4 c5 c6 c7
  exact ⟨p, _, _, hp, rfl, hh.1, hh.2, c0, c1, c2, c3, c4, c5, c6, c7⟩
section
variable {H : Type} {enc : TypeId × Value → H} {w : World} {base : Nat} {spare : Nat → Bool} {held : Bool}
set_option maxRecDepth 100000 in
set_option maxHeartbeats 4000000 in
theorem open_tns {fuel : Nat} {v : Value} {x : DataW H × List MemPlace} (h : DataW.trod enc Tryz.prog w base spare held fuel 22 [v] = some x) : ∃ y len cap ps, v = .slice y len cap ∧ ArgTs w y len ps := by
  rcases open_slice Tryz.underlying22 h with ⟨h0, _⟩ | ⟨a, len, cap, m, n, D, Pl, h0, hb, hl, hm, hmm, _, hx⟩
  · simp only [List.cons.injEq, and_true] at h0
    exact ⟨none, 0, 0, [], h0, rfl, Nat.zero_le _, by simp, fun i hi => absurd hi (by simp)⟩
  · simp only [List.cons.injEq, and_true] at h0
    have hlm : len ≤ m := by rw [hmm]; split <;> omega
    have each : ∀ i, i < m → ∃ e : TnP, (ArgT w e.1 e.2 ∧ TnW e.2) ∧ w.cell? (a.add (i * 8)) = some (.slice e.1.x e.2.is.length e.1.c1) ∧ w.cell? (a.add (i * 8 + 1)) = some (.slice e.1.y e.2.rs.length e.1.c2) ∧ w.cell? (a.add (i * 8 + 2)) = some (.int .i64 e.2.now) ∧ w.cell? (a.add (i * 8 + 3)) = some (.string e.2.key) ∧ w.cell? (a.add (i * 8 + 4)) = some (.int .i64 e.2.qu) ∧ w.cell? (a.add (i * 8 + 5)) = some (.slice e.1.p e.2.ss.length e.1.c3) ∧ w.cell? (a.add (i * 8 + 6)) = some (.slice e.1.q e.2.es.length e.1.c4) ∧ w.cell? (a.add (i * 8 + 7)) = some (.int .i64 e.2.dr) := by
      intro i hi
      obtain ⟨cs', h1, h2⟩ := hx i hi
      rw [Tryz.cellsTn] at h1
      obtain ⟨aa, tt, rfl, hA, hw⟩ := open_tn h2
      obtain ⟨_, _, hcell⟩ := World.cells?_some h1
      have hadd : ∀ j k, (a.add j).add k = a.add (j + k) := fun j k => by
        unfold Addr.add
        by_cases hj : j = 0
        · subst hj; by_cases hk : k = 0 <;> simp [hk]
        · by_cases hk : k = 0
          · simp [hj, hk]
          · simp [hj, hk, Nat.add_assoc]
      refine ⟨(aa, tt), ⟨hA, hw⟩, ?_⟩
      have k0 := hcell 0 (by omega)
      have k1 := hcell 1 (by omega)
      have k2 := hcell 2 (by omega)
      have k3 := hcell 3 (by omega)
      have k4 := hcell 4 (by omega)
      have k5 := hcell 5 (by omega)
      have k6 := hcell 6 (by omega)
      have k7 := hcell 7 (by omega)
      simp only [hadd, Nat.add_zero, tnL] at k0 k1 k2 k3 k4 k5 k6 k7
      exact ⟨by simpa using k0, by simpa using k1, by simpa using k2, by simpa using k3, by simpa using k4, by simpa using k5, by simpa using k6, by simpa using k7⟩
    obtain ⟨E, hE⟩ := choose_lt (α := TnP) (p := fun i e => (ArgT w e.1 e.2 ∧ TnW e.2) ∧ w.cell? (a.add (i * 8)) = some (.slice e.1.x e.2.is.length e.1.c1) ∧ w.cell? (a.add (i * 8 + 1)) = some (.slice e.1.y e.2.rs.length e.1.c2) ∧ w.cell? (a.add (i * 8 + 2)) = some (.int .i64 e.2.now) ∧ w.cell? (a.add (i * 8 + 3)) = some (.string e.2.key) ∧ w.cell? (a.add (i * 8 + 4)) = some (.int .i64 e.2.qu) ∧ w.cell? (a.add (i * 8 + 5)) = some (.slice e.1.p e.2.ss.length e.1.c3) ∧ w.cell? (a.add (i * 8 + 6)) = some (.slice e.1.q e.2.es.length e.1.c4) ∧ w.cell? (a.add (i * 8 + 7)) = some (.int .i64 e.2.dr)) each
    refine ⟨some a, len, cap, (List.range len).map E, h0, by simp, by omega, ?_, ?_⟩
    · intro e he
      simp only [List.mem_map, List.mem_range] at he
      obtain ⟨i, hi, rfl⟩ := he
      exact (hE i (by omega)).1
    · intro i hi
      simp only [List.length_map, List.length_range] at hi
      refine ⟨a, rfl, ?_⟩
      simp only [List.getElem_map, List.getElem_range]
      exact (hE i (by omega)).2
end
end Go.Proofs.YtialedffpaoacaaGreatDoor
/- The laws' own lists of Tenants measured and handed over. (Written by gen_tens.py.) -/
namespace Go.Proofs.YtialedffpaoacaaGreatDoor
open Go.RowKit Go.Sort

/-- A Tenant whose lists lie in blocks of their own from base on. -/
def PlT (w : World) (base : Nat) (a : Tp) (t : Tn) : Prop := ∃ g h u z, a = ⟨some ⟨g, 0, none⟩, t.is.length, some ⟨h, 0, none⟩, t.rs.length, some ⟨u, 0, none⟩, t.ss.length, some ⟨z, 0, none⟩, t.es.length⟩ ∧ base ≤ g ∧ base ≤ h ∧ base ≤ u ∧ base ≤ z ∧ Row w g 72 (rowI t.is) ∧ Row w h 144 (rowR t.rs) ∧ Row w u 142 (rowSn t.ss) ∧ Row w z 182 (rowSe t.es)
theorem PlT.inT {w : World} {base : Nat} {a : Tp} {t : Tn} (k : PlT w base a t) : InT w a t := by
  obtain ⟨g, h, u, z, rfl, -, -, -, -, a1, a2, a3, a4⟩ := k
  exact ⟨ifsIn_row a1, rtsIn_row a2, snsIn_row a3, sesIn_row a4⟩
theorem PlT.below {w w' : World} {base : Nat} {a : Tp} {t : Tn} (k : PlT w base a t) (hb : Below w.heap.size w w') : PlT w' base a t := by
  obtain ⟨g, h, u, z, e, b1, b2, b3, b4, a1, a2, a3, a4⟩ := k
  exact ⟨g, h, u, z, e, b1, b2, b3, b4, a1.below hb a1.lt, a2.below hb a2.lt, a3.below hb a3.lt, a4.below hb a4.lt⟩
theorem PlT.kept {w w' : World} {base b : Nat} {a : Tp} {t : Tn} (k : PlT w base a t) (hb : b < base) (hk : ∀ g t l, g ≠ b → Row w g t l → Row w' g t l) : PlT w' base a t := by
  obtain ⟨g, h, u, z, e, b1, b2, b3, b4, a1, a2, a3, a4⟩ := k
  exact ⟨g, h, u, z, e, b1, b2, b3, b4, hk _ _ _ (by omega) a1, hk _ _ _ (by omega) a2, hk _ _ _ (by omega) a3, hk _ _ _ (by omega) a4⟩
def eightT (w : World) (g o : Nat) (x0 x1 x2 x3 x4 x5 x6 x7 : Value) : World := ((((((((w.setCell ⟨g, o, none⟩ x0).setCell ⟨g, o + 1, none⟩ x1).setCell ⟨g, o + 2, none⟩ x2).setCell ⟨g, o + 3, none⟩ x3).setCell ⟨g, o + 4, none⟩ x4).setCell ⟨g, o + 5, none⟩ x5).setCell ⟨g, o + 6, none⟩ x6).setCell ⟨g, o + 7, none⟩ x7)
theorem eightT_below {B : Nat} {w0 w : World} (h : Below B w0 w) (g o : Nat) (hg : B ≤ g) (x0 x1 x2 x3 x4 x5 x6 x7 : Value) : Below B w0 (eightT w g o x0 x1 x2 x3 x4 x5 x6 x7) := ((((((((h.setCell (p := ⟨g, o, none⟩) hg x0).setCell (p := ⟨g, o + 1, none⟩) hg x1).setCell (p := ⟨g, o + 2, none⟩) hg x2).setCell (p := ⟨g, o + 3, none⟩) hg x3).setCell (p := ⟨g, o + 4, none⟩) hg x4).setCell (p := ⟨g, o + 5, none⟩) hg x5).setCell (p := ⟨g, o + 6, none⟩) hg x6).setCell (p := ⟨g, o + 7, none⟩) hg x7)
theorem eightT_row {w : World} {g : Nat} {t : TypeId} {l : List Value} (h : Row w g t l) (o : Nat) (x0 x1 x2 x3 x4 x5 x6 x7 : Value) : Row (eightT w g o x0 x1 x2 x3 x4 x5 x6 x7) g t ((((((((l.set (o) x0).set (o + 1) x1).set (o + 2) x2).set (o + 3) x3).set (o + 4) x4).set (o + 5) x5).set (o + 6) x6).set (o + 7) x7) := ((((((((h.set (o) x0).set (o + 1) x1).set (o + 2) x2).set (o + 3) x3).set (o + 4) x4).set (o + 5) x5).set (o + 6) x6).set (o + 7) x7)
theorem eightT_other {w : World} {b g : Nat} {t : TypeId} {l : List Value} (h : Row w b t l) (hne : b ≠ g) (o : Nat) (x0 x1 x2 x3 x4 x5 x6 x7 : Value) : Row (eightT w g o x0 x1 x2 x3 x4 x5 x6 x7) b t l := ((((((((h.other (o) x0 hne).other (o + 1) x1 hne).other (o + 2) x2 hne).other (o + 3) x3 hne).other (o + 4) x4 hne).other (o + 5) x5 hne).other (o + 6) x6 hne).other (o + 7) x7 hne)
theorem set8T (A R : List Value) (k : Nat) (hA : A.length = k * 8) (z0 z1 z2 z3 z4 z5 z6 z7 x0 x1 x2 x3 x4 x5 x6 x7 : Value) : (((((((((A ++ ([z0, z1, z2, z3, z4, z5, z6, z7] ++ R)).set (k * 8) x0).set (k * 8 + 1) x1).set (k * 8 + 2) x2).set (k * 8 + 3) x3).set (k * 8 + 4) x4).set (k * 8 + 5) x5).set (k * 8 + 6) x6).set (k * 8 + 7) x7) = A ++ ([x0, x1, x2, x3, x4, x5, x6, x7] ++ R) := by
  have e : ∀ (L : List Value) (j : Nat) (x : Value), (A ++ L).set (k * 8 + j) x = A ++ L.set j x := fun L j x => by
    rw [List.set_append, if_neg (by omega), hA, Nat.add_sub_cancel_left]
  have e0 : ∀ (L : List Value) (x : Value), (A ++ L).set (k * 8) x = A ++ L.set 0 x := fun L x => e L 0 x
  rw [e0, e, e, e, e, e, e, e]
  rfl
theorem Row.someT {w : World} {g : Nat} {t : TypeId} {l : List Value} (h : Row w g t l) (k : Nat) (hk : k < l.length) : ∃ v, w.cell? ⟨g, k, none⟩ = some v := ⟨l[k], by rw [h.cell, List.getElem?_eq_getElem hk]⟩
theorem Tryz.infoTn : (Tryz.prog.info? 55).map (fun i => (i.zero, i.size, i.bytes)) = some (some (.agg #[.slice none 0 0, .slice none 0 0, .int .i64 0, .string ⟨#[]⟩, .int .i64 0, .slice none 0 0, .slice none 0 0, .int .i64 0]), 8, 136) := by kernel_rfl
def zeroTn : TnP := (⟨none, 0, none, 0, none, 0, none, 0⟩, ⟨[], [], 0, ⟨#[]⟩, 0, [], [], 0⟩)
theorem rowT_zero_get (n i : Nat) (h : i < n * 8) : (rowT (List.replicate n zeroTn))[i]? = (tnL zeroTn.1 zeroTn.2)[i % 8]? := by
  have hi : i / 8 < (List.replicate n zeroTn).length := by simp; omega
  have := rowT_get (List.replicate n zeroTn) (i / 8) (i % 8) hi (by omega)
  rw [show i / 8 * 8 + i % 8 = i by omega] at this
  rw [this, List.getElem_replicate]
theorem made_zeroTn (n : Nat) : (madeCells (Value.agg #[.slice none 0 0, .slice none 0 0, .int .i64 0, .string ⟨#[]⟩, .int .i64 0, .slice none 0 0, .slice none 0 0, .int .i64 0]).cells (n * 8)).toList = rowT (List.replicate n zeroTn) := by
  apply List.ext_getElem?
  intro i
  by_cases h : i < n * 8
  · rw [rowT_zero_get n i h]
    simp only [madeCells, Value.cells, Array.toList_map, List.getElem?_map]
    have h9 : i % 8 = 0 ∨ i % 8 = 1 ∨ i % 8 = 2 ∨ i % 8 = 3 ∨ i % 8 = 4 ∨ i % 8 = 5 ∨ i % 8 = 6 ∨ i % 8 = 7 := by omega
    rcases h9 with h9 | h9 | h9 | h9 | h9 | h9 | h9 | h9 <;> simp [h9, h, tnL, zeroTn]
  · rw [List.getElem?_eq_none (by simp [madeCells]; omega), List.getElem?_eq_none (by rw [rowT_length]; simp; omega)]
set_option maxRecDepth 100000 in
theorem wpList_make_tns {w : World} {ops : Array Oper} {rest : List Oper} {o : Oper} {a : Act} {Q : Exit → Act → World → Prop}
    (hgd : o.guard = none) (l c : Operand) (hop : o.op = Op.makeSlice 29 l c)
    (L : Int) (n : Nat) (hl : a.eval l = .int .i64 L) (hc : a.eval c = .int .i64 L) (hL : L = (n : Int)) (hn : n ≤ 100000000)
    (B : Nat) (w0 : World) (hb : Below B w0 w) (hB : B ≤ w.heap.size)
    (h : ∀ w', Row w' w.heap.size 55 (rowT (List.replicate n zeroTn)) → Below B w0 w' → wpList Tryz.prog ops Q rest (a.put o.dst (.slice (some ⟨w.heap.size, 0, none⟩) n n)) w') : wpList Tryz.prog ops Q (o :: rest) a w := by
  obtain ⟨i0, hi0, hz0, hz1, hz2⟩ := info_parts Tryz.infoTn
  refine wpList_make_full w hgd l c 29 hop B 55 i0 _ 8 Tryz.underlying29 hi0 hz0 hz1 .i64 .i64 L L n hl hc hL hL (by rw [hz2]; omega) (by unfold maxLen; omega) hB ?_
  intro w' hown hgrow
  rcases hown.2 with ⟨h', _⟩ | ⟨g, cap, cur, h', hbg, hg, hnc, hcm, hcs, htake⟩
  · simp at h'
  · simp only [Value.slice.injEq, Option.some.injEq, Addr.mk.injEq, and_true, true_and] at h'
    obtain ⟨rfl, rfl⟩ := h'
    refine h w' ?_ (hb.trans ((Below.refl B w).grown hgrow hB (by intro k hk; cases hk)))
    unfold Row
    rw [hg, ← made_zeroTn, ← htake, List.take_of_length_le (by simp [hcs])]
theorem rowT_set (qs : List TnP) (n k : Nat) (hq : qs.length = k) (hk : k < n) (a : Tp) (t : Tn) :
    (((((((((rowT (qs ++ List.replicate (n - k) zeroTn)).set (k * 8) (.slice a.x t.is.length a.c1)).set (k * 8 + 1) (.slice a.y t.rs.length a.c2)).set (k * 8 + 2) (.int .i64 t.now)).set (k * 8 + 3) (.string t.key)).set (k * 8 + 4) (.int .i64 t.qu)).set (k * 8 + 5) (.slice a.p t.ss.length a.c3)).set (k * 8 + 6) (.slice a.q t.es.length a.c4)).set (k * 8 + 7) (.int .i64 t.dr)) = rowT ((qs ++ [(a, t)]) ++ List.replicate (n - (k + 1)) zeroTn) := by
  have e1 : n - k = (n - (k + 1)) + 1 := by omega
  rw [e1, List.replicate_succ, rowT_append, rowT_cons, List.append_assoc, rowT_append, List.singleton_append, rowT_cons]
  exact set8T _ _ k (by rw [rowT_length, hq]; omega) _ _ _ _ _ _ _ _ _ _ _ _ _ _ _ _
/-- What a look at the size tells of a Tenant. -/
def TnS (t : Tn) : Prop := t.is.length ≤ 1048576 ∧ t.rs.length ≤ 1048576 ∧ t.ss.length ≤ 1048576 ∧ t.es.length ≤ 1048576 ∧ t.key.size ≤ 1048576 ∧ ∀ s ∈ t.ss, s.tx.size ≤ 1048576
set_option maxRecDepth 100000 in
set_option maxHeartbeats 4000000 in
theorem szTenantS_any (x : Option Addr) (cap : Nat) (ps : List TnP) (L : Int) (w : World) (h : ArgTs w x ps.length ps) (h0 : 0 ≤ L) (h1 : L ≤ 1048576) : Calls Tryz.prog 14 #[.slice x ps.length cap, .int .i64 L] w fun e w' => (∃ v : Int, e = .returned (.int .i64 v) ∧ v ≤ L ∧ (v < 0 ∨ 0 ≤ v ∧ ps.length ≤ 1048576 ∧ ∀ e ∈ ps, TnS e.2)) ∧ Below w.heap.size w w' := by
  have hl := h.2.1
  unfold maxLen at hl
  have HE : Hid (∀ (a : Tp) (t : Tn) (L : Int) (w : World), ArgT w a t → TnW t → 0 ≤ L → L ≤ 1048576 → Calls Tryz.prog 39 #[.agg #[.slice a.x t.is.length a.c1, .slice a.y t.rs.length a.c2, .int .i64 t.now, .string t.key, .int .i64 t.qu, .slice a.p t.ss.length a.c3, .slice a.q t.es.length a.c4, .int .i64 t.dr], .int .i64 L] w fun e w' => (∃ v : Int, e = .returned (.int .i64 v) ∧ v ≤ L ∧ (v < 0 ∨ 0 ≤ v ∧ TnS t)) ∧ Below w.heap.size w w') := fun a t L w hA hW k0 k1 => szTenant_any a.x a.c1 a.y a.c2 a.p a.c3 a.q a.c4 t.is t.rs t.now t.key t.qu t.ss t.es t.dr L w hA hW.1 k0 k1
  have HX : Hid (ArgTs w x ps.length ps) := h
  have z : IntKind.i64.wrap (L - (ps.length : Int)) = L - (ps.length : Int) := wrap_i64_in _ (by omega) (by omega)
  clear h
  by_cases hL : (ps.length : Int) ≤ L
  case neg =>
    have d : decide (L - (ps.length : Int) < 0) = true := by simp; omega
    clear HE HX
    go_enter Tryz.func14, Tryz.ntmps14
    go_wp2
    go_ret
    exact ⟨⟨_, rfl, by omega, .inl (by omega)⟩, Below.refl _ _⟩
  have d : decide (L - (ps.length : Int) < 0) = false := by simp; omega
  go_enter Tryz.func14, Tryz.ntmps14
  go_wp2_with fail
  go_loopw [5, 1] (fun i m wr => ∃ (k : Nat) (v : Int), k ≤ ps.length ∧ i = .int .i64 k ∧ m = .int .i64 v ∧ 0 ≤ v ∧ v ≤ L ∧ (∀ j (hj : j < ps.length), j < k → TnS ps[j].2) ∧ Below w.heap.size w wr) (fun i _ _ => ps.length - (intOf i).toNat)
  case atStart => exact ⟨0, _, Nat.zero_le _, rfl, rfl, by omega, by omega, fun j _ hj => absurd hj (by omega), Below.refl _ _⟩
  case round =>
    obtain ⟨k, v, hk, rfl, rfl, hv0, hvL, ha, hB⟩ := hrel
    by_cases hlt : k < ps.length
    · have d1 : decide ((k : Int) < (ps.length : Int)) = true := by simpa using hlt
      obtain ⟨p, a, t, rfl, hek, hA, hW, c0, c1, c2, c3, c4, c5, c6, c7⟩ := (HX.out.below hB).at k hlt
      have HEk : Hid (Calls Tryz.prog 39 #[.agg #[.slice a.x t.is.length a.c1, .slice a.y t.rs.length a.c2, .int .i64 t.now, .string t.key, .int .i64 t.qu, .slice a.p t.ss.length a.c3, .slice a.q t.es.length a.c4, .int .i64 t.dr], .int .i64 v] wr fun e w' => (∃ v' : Int, e = .returned (.int .i64 v') ∧ v' ≤ v ∧ (v' < 0 ∨ 0 ≤ v' ∧ TnS t)) ∧ Below wr.heap.size wr w') := HE.out a t v wr hA hW hv0 (by omega)
      generalize a.x = ax at *
      generalize a.y = ay at *
      generalize a.p = ap at *
      generalize a.q = aq at *
      generalize a.c1 = ac1 at *
      generalize a.c2 = ac2 at *
      generalize a.c3 = ac3 at *
      generalize a.c4 = ac4 at *
      generalize t.is.length = tn1 at *
      generalize t.rs.length = tn2 at *
      generalize t.ss.length = tn3 at *
      generalize t.es.length = tn4 at *
      generalize t.now = tw at *
      generalize t.key = tk at *
      generalize t.qu = tq at *
      generalize t.dr = td at *
      have HA : Hid (∀ j (hj : j < ps.length), j < k → TnS ps[j].2) := ha
      have HK : Hid (ps[k] = (a, t)) := hek
      clear HE hek ha hA hW
      go_wp2_with fail
      refine (HEk.out).mono ?_
      rintro e w1 ⟨⟨v', rfl, hv', hc⟩, hb1⟩
      have hB := hB.trans (hb1.mono hB.size)
      clear c0 c1 c2 c3 c4 c5 c6 c7 hb1 HEk
      rcases hc with hc | ⟨hc, hS⟩
      · have d2 : decide (v' < 0) = true := by simpa using hc
        clear hc
        go_wp2
        go_ret
        exact ⟨⟨_, rfl, by omega, .inl (by omega)⟩, hB⟩
      · have d2 : decide (v' < 0) = false := by simp; omega
        have HB : Hid _ := And.intro hS hB
        clear hB hS
        go_wp2
        go_roundw
        case rel => exact ⟨k + 1, _, hlt, by go_num, rfl, by omega, by omega, (fun j hj hjk => by
          rcases Nat.lt_or_ge j k with h' | h'
          · exact HA.out j hj h'
          · obtain rfl : j = k := (by omega)
            rw [HK.out]
            exact HB.out.1), HB.out.2⟩
        case measure => simp [intOf]; omega
    · have d1 : decide ((k : Int) < (ps.length : Int)) = false := by simpa using hlt
      clear HE HX
      go_wp2
      go_ret
      exact ⟨⟨_, rfl, hvL, .inr ⟨hv0, by omega, fun s hs => by
        obtain ⟨j, hj, rfl⟩ := List.mem_iff_getElem.1 hs
        exact ha j hj (by omega)⟩⟩, hB⟩
set_option maxRecDepth 100000 in
set_option maxHeartbeats 4000000 in
theorem toTenantS_any (x : Option Addr) (cap : Nat) (ps : List TnP) (w : World) (h : ArgTs w x ps.length ps) (hn : ps.length ≤ 1048576) (hs : ∀ e ∈ ps, TnS e.2) :
    Calls Tryz.prog 21 #[.slice x ps.length cap] w fun e w' => ∃ g, ∃ qs : List TnP, e = .returned (.slice (some ⟨g, 0, none⟩) ps.length ps.length) ∧ w.heap.size ≤ g ∧ qs.map (·.2) = ps.map (·.2) ∧ Row w' g 55 (rowT qs) ∧ (∀ e ∈ qs, PlT w' (g + 1) e.1 e.2) ∧ Below w.heap.size w w' := by
  have HE : Hid (∀ (a : Tp) (t : Tn) (w : World), ArgT w a t → TnS t → Calls Tryz.prog 49 #[.agg #[.slice a.x t.is.length a.c1, .slice a.y t.rs.length a.c2, .int .i64 t.now, .string t.key, .int .i64 t.qu, .slice a.p t.ss.length a.c3, .slice a.q t.es.length a.c4, .int .i64 t.dr]] w fun e w' => ∃ g h u z, e = .returned (.agg #[.slice (some ⟨g, 0, none⟩) t.is.length t.is.length, .slice (some ⟨h, 0, none⟩) t.rs.length t.rs.length, .int .i64 t.now, .string t.key, .int .i64 t.qu, .slice (some ⟨u, 0, none⟩) t.ss.length t.ss.length, .slice (some ⟨z, 0, none⟩) t.es.length t.es.length, .int .i64 t.dr]) ∧ w.heap.size ≤ g ∧ w.heap.size ≤ h ∧ w.heap.size ≤ u ∧ w.heap.size ≤ z ∧ Row w' g 72 (rowI t.is) ∧ Row w' h 144 (rowR t.rs) ∧ Row w' u 142 (rowSn t.ss) ∧ Row w' z 182 (rowSe t.es) ∧ Below w.heap.size w w') := fun a t w hA hS => toTenant_any a.x a.c1 a.y a.c2 a.p a.c3 a.q a.c4 t.is t.rs t.now t.key t.qu t.ss t.es t.dr w hA ⟨hS.1, hS.2.1, hS.2.2.1, hS.2.2.2.1⟩
  have HX : Hid (ArgTs w x ps.length ps) := h
  have HS : Hid (∀ e ∈ ps, TnS e.2) := hs
  clear h hs
  go_enter Tryz.func21, Tryz.ntmps21
  go_wp2_with (at_make; refine wpList_make_tns rfl _ _ rfl _ ps.length rfl rfl rfl (by omega) w.heap.size w (Below.refl _ _) (Nat.le_refl _) ?_)
  intro w0 hr0 hb0
  have hz : ([] : List TnP) ++ List.replicate (ps.length - 0) zeroTn = List.replicate ps.length zeroTn := by simp
  rw [← hz] at hr0
  clear hz
  go_wp2_with fail
  go_loopw [4] (fun i wr => ∃ (k : Nat) (qs : List TnP), k ≤ ps.length ∧ i = .int .i64 k ∧ qs.length = k ∧ qs.map (·.2) = (ps.take k).map (·.2) ∧ Row wr w.heap.size 55 (rowT (qs ++ List.replicate (ps.length - k) zeroTn)) ∧ (∀ e ∈ qs, PlT wr (w.heap.size + 1) e.1 e.2) ∧ Below w.heap.size w wr) (fun i _ => ps.length - (intOf i).toNat)
  case atStart => exact ⟨0, [], Nat.zero_le _, rfl, rfl, rfl, hr0, fun e he => by simp at he, hb0⟩
  case round =>
    obtain ⟨k, qs, hk, rfl, hql, hqm, hr, hpl, hb⟩ := hrel
    by_cases hlt : k < ps.length
    · obtain ⟨p, a, t, rfl, hek, hA, hW, c0, c1, c2, c3, c4, c5, c6, c7⟩ := (HX.out.below hb).at k hlt
      have hS := HS.out ps[k] (List.getElem_mem hlt)
      rw [hek] at hS
      have HEk : Hid (Calls Tryz.prog 49 #[.agg #[.slice a.x t.is.length a.c1, .slice a.y t.rs.length a.c2, .int .i64 t.now, .string t.key, .int .i64 t.qu, .slice a.p t.ss.length a.c3, .slice a.q t.es.length a.c4, .int .i64 t.dr]] wr fun e w' => ∃ g h u z, e = .returned (.agg #[.slice (some ⟨g, 0, none⟩) t.is.length t.is.length, .slice (some ⟨h, 0, none⟩) t.rs.length t.rs.length, .int .i64 t.now, .string t.key, .int .i64 t.qu, .slice (some ⟨u, 0, none⟩) t.ss.length t.ss.length, .slice (some ⟨z, 0, none⟩) t.es.length t.es.length, .int .i64 t.dr]) ∧ wr.heap.size ≤ g ∧ wr.heap.size ≤ h ∧ wr.heap.size ≤ u ∧ wr.heap.size ≤ z ∧ Row w' g 72 (rowI t.is) ∧ Row w' h 144 (rowR t.rs) ∧ Row w' u 142 (rowSn t.ss) ∧ Row w' z 182 (rowSe t.es) ∧ Below wr.heap.size wr w') := HE.out a t wr hA hS
      have HK : Hid (ps[k] = (a, t)) := hek
      have hlt0 := hr.lt
      clear HE hek hr0 hb0 hA hW hS
      generalize a.x = ax at *
      generalize a.y = ay at *
      generalize a.p = ap at *
      generalize a.q = aq at *
      generalize a.c1 = ac1 at *
      generalize a.c2 = ac2 at *
      generalize a.c3 = ac3 at *
      generalize a.c4 = ac4 at *
      obtain ⟨is, rs, now, key, qu, ss, es, dr⟩ := t
      simp only at HEk c0 c1 c2 c3 c4 c5 c6 c7
      generalize hN1 : is.length = n1 at *
      generalize hN2 : rs.length = n2 at *
      generalize hN3 : ss.length = n3 at *
      generalize hN4 : es.length = n4 at *
      have HN : Hid (n1 = is.length ∧ n2 = rs.length ∧ n3 = ss.length ∧ n4 = es.length) := ⟨hN1.symm, hN2.symm, hN3.symm, hN4.symm⟩
      clear hN1 hN2 hN3 hN4
      go_wp2_with fail
      refine (HEk.out).mono ?_
      rintro e w1 ⟨g, h, u, z, rfl, hg, hh, hu, hz, k1, k2, k3, k4, hb1⟩
      have hr1 := hr.below hb1 hr.lt
      have hB1 := hb.trans (hb1.mono hb.size)
      have hpl1 : ∀ e ∈ qs ++ [((⟨some ⟨g, 0, none⟩, n1, some ⟨h, 0, none⟩, n2, some ⟨u, 0, none⟩, n3, some ⟨z, 0, none⟩, n4⟩, ⟨is, rs, now, key, qu, ss, es, dr⟩) : TnP)], PlT w1 (w.heap.size + 1) e.1 e.2 := fun e he => by
        rcases List.mem_append.1 he with he | he
        · exact (hpl e he).below hb1
        · rw [List.mem_singleton] at he
          subst he
          exact ⟨g, h, u, z, by simp only [← HN.out.1, ← HN.out.2.1, ← HN.out.2.2.1, ← HN.out.2.2.2], by omega, by omega, by omega, by omega, k1, k2, k3, k4⟩
      clear c0 c1 c2 c3 c4 c5 c6 c7 hb1 HEk hr hb hpl k1 k2 k3 k4
      have hlr : (rowT (qs ++ List.replicate (ps.length - k) zeroTn)).length = ps.length * 8 := by rw [rowT_length, List.length_append, List.length_replicate, hql]; omega
      obtain ⟨z0, hz0⟩ := Row.someT hr1 (k * 8) (by omega)
      obtain ⟨z1, hz1⟩ := Row.someT hr1 (k * 8 + 1) (by omega)
      obtain ⟨z2, hz2⟩ := Row.someT hr1 (k * 8 + 2) (by omega)
      obtain ⟨z3, hz3⟩ := Row.someT hr1 (k * 8 + 3) (by omega)
      obtain ⟨z4, hz4⟩ := Row.someT hr1 (k * 8 + 4) (by omega)
      obtain ⟨z5, hz5⟩ := Row.someT hr1 (k * 8 + 5) (by omega)
      obtain ⟨z6, hz6⟩ := Row.someT hr1 (k * 8 + 6) (by omega)
      obtain ⟨z7, hz7⟩ := Row.someT hr1 (k * 8 + 7) (by omega)
      have f0 := hr1.frozen (k * 8)
      have f1 := hr1.frozen (k * 8 + 1)
      have f2 := hr1.frozen (k * 8 + 2)
      have f3 := hr1.frozen (k * 8 + 3)
      have f4 := hr1.frozen (k * 8 + 4)
      have f5 := hr1.frozen (k * 8 + 5)
      have f6 := hr1.frozen (k * 8 + 6)
      have f7 := hr1.frozen (k * 8 + 7)
      have hr2 := eightT_row hr1 (k * 8) (.slice (some ⟨g, 0, none⟩) n1 n1) (.slice (some ⟨h, 0, none⟩) n2 n2) (.int .i64 now) (.string key) (.int .i64 qu) (.slice (some ⟨u, 0, none⟩) n3 n3) (.slice (some ⟨z, 0, none⟩) n4 n4) (.int .i64 dr)
      have hset := rowT_set qs ps.length k hql hlt ⟨some ⟨g, 0, none⟩, n1, some ⟨h, 0, none⟩, n2, some ⟨u, 0, none⟩, n3, some ⟨z, 0, none⟩, n4⟩ ⟨is, rs, now, key, qu, ss, es, dr⟩
      simp only [← HN.out.1, ← HN.out.2.1, ← HN.out.2.2.1, ← HN.out.2.2.2] at hset
      rw [hset] at hr2
      have hB2 := eightT_below hB1 w.heap.size (k * 8) (Nat.le_refl _) (.slice (some ⟨g, 0, none⟩) n1 n1) (.slice (some ⟨h, 0, none⟩) n2 n2) (.int .i64 now) (.string key) (.int .i64 qu) (.slice (some ⟨u, 0, none⟩) n3 n3) (.slice (some ⟨z, 0, none⟩) n4 n4) (.int .i64 dr)
      have hP2 := fun e he => (hpl1 e he).kept (w' := eightT w1 w.heap.size (k * 8) (.slice (some ⟨g, 0, none⟩) n1 n1) (.slice (some ⟨h, 0, none⟩) n2 n2) (.int .i64 now) (.string key) (.int .i64 qu) (.slice (some ⟨u, 0, none⟩) n3 n3) (.slice (some ⟨z, 0, none⟩) n4 n4) (.int .i64 dr)) (Nat.lt_succ_self _) (fun b tt l hne hr => eightT_other hr hne (k * 8) (.slice (some ⟨g, 0, none⟩) n1 n1) (.slice (some ⟨h, 0, none⟩) n2 n2) (.int .i64 now) (.string key) (.int .i64 qu) (.slice (some ⟨u, 0, none⟩) n3 n3) (.slice (some ⟨z, 0, none⟩) n4 n4) (.int .i64 dr))
      unfold eightT at hr2 hB2 hP2
      have hm2 : (qs ++ [((⟨some ⟨g, 0, none⟩, n1, some ⟨h, 0, none⟩, n2, some ⟨u, 0, none⟩, n3, some ⟨z, 0, none⟩, n4⟩, ⟨is, rs, now, key, qu, ss, es, dr⟩) : TnP)]).map (·.2) = (ps.take (k + 1)).map (·.2) := by
        rw [List.map_append, hqm, List.take_succ_eq_append_getElem hlt, List.map_append, HK.out]
        rfl
      have HH : Hid _ := And.intro hr2 (And.intro hB2 (And.intro hP2 hm2))
      clear hr1 hB1 hlr hr2 hB2 hP2 hm2 hpl1 hset
      go_wp2_with fail
      go_roundw
      case rel => exact ⟨k + 1, _, hlt, by go_num, by rw [List.length_append, hql]; rfl, HH.out.2.2.2, HH.out.1, HH.out.2.2.1, HH.out.2.1⟩
      case measure => simp [intOf]; omega
    · obtain rfl : k = ps.length := by omega
      rw [Nat.sub_self, List.replicate_zero, List.append_nil] at hr
      rw [List.take_length] at hqm
      clear hlt hk
      go_wp2
      go_ret
      exact ⟨w.heap.size, rfl, Nat.le_refl _, qs, hqm, hr, fun a b h => hpl (a, b) h, hb⟩
end Go.Proofs.YtialedffpaoacaaGreatDoor
/- The laws' own look: lists of Tenants are as themselves. (Written by gen_tens.py.) -/
namespace Go.Proofs.YtialedffpaoacaaGreatDoor
open Go.RowKit Go.Sort

set_option maxRecDepth 100000 in
set_option maxHeartbeats 4000000 in
theorem eqTenantS_any (p q : Option Addr) (c0 d0 : Nat) (ps qs : List TnP) (w : World) (hp : TensIn w p ps) (hq : TensIn w q qs) (hpq : ps.map (·.2) = qs.map (·.2)) (hn : ps.length ≤ 100000000) (hs : ∀ e ∈ ps, e.2.is.length ≤ 100000000 ∧ e.2.rs.length ≤ 100000000 ∧ e.2.ss.length ≤ 100000000 ∧ e.2.es.length ≤ 100000000) : Calls Tryz.prog 28 #[.slice p ps.length c0, .slice q ps.length d0] w fun r w' => r = .returned (.bool true) ∧ Below w.heap.size w w' := by
  have HE : Hid (∀ a a' t w, InT w a t → InT w a' t → (t.is.length ≤ 100000000 ∧ t.rs.length ≤ 100000000 ∧ t.ss.length ≤ 100000000 ∧ t.es.length ≤ 100000000) → Calls Tryz.prog 59 #[.agg #[.slice a.x t.is.length a.c1, .slice a.y t.rs.length a.c2, .int .i64 t.now, .string t.key, .int .i64 t.qu, .slice a.p t.ss.length a.c3, .slice a.q t.es.length a.c4, .int .i64 t.dr], .agg #[.slice a'.x t.is.length a'.c1, .slice a'.y t.rs.length a'.c2, .int .i64 t.now, .string t.key, .int .i64 t.qu, .slice a'.p t.ss.length a'.c3, .slice a'.q t.es.length a'.c4, .int .i64 t.dr]] w fun r w' => r = .returned (.bool true) ∧ Below w.heap.size w w') := fun a a' t w h1 h2 h3 => eqTenant_any a.x a.c1 a.y a.c2 a.p a.c3 a.q a.c4 a'.x a'.c1 a'.y a'.c2 a'.p a'.c3 a'.q a'.c4 t.is t.rs t.now t.key t.qu t.ss t.es t.dr w ⟨h1, h2⟩ h3
  have HX : Hid (TensIn w p ps ∧ TensIn w q qs) := ⟨hp, hq⟩
  have HL : Hid (ps.length = qs.length ∧ ∀ k (h1 : k < ps.length) (h2 : k < qs.length), ps[k].2 = qs[k].2) := by
    refine ⟨by simpa using congrArg List.length hpq, fun k h1 h2 => ?_⟩
    have := congrArg (fun l => l[k]?) hpq
    simpa [h1, h2] using this
  have HS : Hid (∀ e ∈ ps, e.2.is.length ≤ 100000000 ∧ e.2.rs.length ≤ 100000000 ∧ e.2.ss.length ≤ 100000000 ∧ e.2.es.length ≤ 100000000) := hs
  have h0 : ((ps.length : Int) != (ps.length : Int)) = false := by simp
  clear hp hq hpq hs
  go_enter Tryz.func28, Tryz.ntmps28
  go_wp2_with fail
  go_loopw [5] (fun i wr => ∃ k : Nat, k ≤ ps.length ∧ i = .int .i64 k ∧ Below w.heap.size w wr) (fun i _ => ps.length - (intOf i).toNat)
  case atStart => exact ⟨0, Nat.zero_le _, rfl, Below.refl _ _⟩
  case round =>
    obtain ⟨k, hk, rfl, hb⟩ := hrel
    by_cases hlt : k < ps.length
    · have hlq : k < qs.length := by have := HL.out.1; omega
      obtain ⟨g, a, t, rfl, hg, hek, hI, x0, x1, x2, x3, x4, x5, x6, x7⟩ := (HX.out.1.below hb).at k hlt
      obtain ⟨g', a', t', rfl, hg', hek', hI', y0, y1, y2, y3, y4, y5, y6, y7⟩ := (HX.out.2.below hb).at k hlq
      have ht := HL.out.2 k hlt hlq
      have hS := HS.out _ (List.getElem_mem hlt)
      rw [hek] at hS
      rw [hek, hek'] at ht
      simp only at ht hS
      subst ht
      have HEr : Hid (∀ d os, Calls Tryz.prog 59 #[.agg #[.slice a.x t.is.length a.c1, .slice a.y t.rs.length a.c2, .int .i64 t.now, .string t.key, .int .i64 t.qu, .slice a.p t.ss.length a.c3, .slice a.q t.es.length a.c4, .int .i64 t.dr], .agg #[.slice a'.x t.is.length a'.c1, .slice a'.y t.rs.length a'.c2, .int .i64 t.now, .string t.key, .int .i64 t.qu, .slice a'.p t.ss.length a'.c3, .slice a'.q t.es.length a'.c4, .int .i64 t.dr]] (grow (redrawn wr d) os) fun e w'' => e = .returned (.bool true) ∧ ∃ p : Regrown, w'' = grow (redrawn wr p.d) p.os) := fun d os => Calls.regrown_of (HE.out a a' t _ (hI.below (below_regrown wr d os)) (hI'.below (below_regrown wr d os)) hS)
      clear HE hek hek' hI hI' hS HX HL HS
      generalize a.x = ax at *
      generalize a.y = ay at *
      generalize a.p = ap at *
      generalize a.q = aq at *
      generalize a.c1 = ac1 at *
      generalize a.c2 = ac2 at *
      generalize a.c3 = ac3 at *
      generalize a.c4 = ac4 at *
      generalize t.is.length = tn1 at *
      generalize t.rs.length = tn2 at *
      generalize t.ss.length = tn3 at *
      generalize t.es.length = tn4 at *
      generalize t.now = tw at *
      generalize t.key = tk at *
      generalize t.qu = tq at *
      generalize t.dr = td at *
      generalize a'.x = vx at *
      generalize a'.y = vy at *
      generalize a'.p = vp at *
      generalize a'.q = vq at *
      generalize a'.c1 = vc1 at *
      generalize a'.c2 = vc2 at *
      generalize a'.c3 = vc3 at *
      generalize a'.c4 = vc4 at *
      replace x0 := cell_regrown x0
      replace y0 := cell_regrown y0
      replace x1 := cell_regrown x1
      replace y1 := cell_regrown y1
      replace x2 := cell_regrown x2
      replace y2 := cell_regrown y2
      replace x3 := cell_regrown x3
      replace y3 := cell_regrown y3
      replace x4 := cell_regrown x4
      replace y4 := cell_regrown y4
      replace x5 := cell_regrown x5
      replace y5 := cell_regrown y5
      replace x6 := cell_regrown x6
      replace y6 := cell_regrown y6
      replace x7 := cell_regrown x7
      replace y7 := cell_regrown y7
      go_wp2_with fail
      refine wp_region_quiet_below (by kernel_rfl) (by kernel_rfl) ?_
      repeat (go_big_quiet_step ((go_at_call 59; exact HEr.out _ _)))
      refine wpQuiet_nil ?_
      intro w1 hw'
      obtain ⟨⟨dq, osq⟩, hw''⟩ := hw'
      have hbq := below_regrown wr dq osq
      rw [← hw''] at hbq
      clear hw'' osq dq x0 x1 x2 x3 x4 x5 x6 x7 y0 y1 y2 y3 y4 y5 y6 y7 HEr
      have hb2 := hb.trans (hbq.mono hb.size)
      clear hbq
      go_wp2
      go_roundw
      case rel => exact ⟨k + 1, hlt, by go_num, hb2⟩
      case measure => simp [intOf]; omega
    · obtain rfl : k = ps.length := by omega
      clear hlt hk
      go_wp2
      go_ret
      exact ⟨rfl, hb⟩
end Go.Proofs.YtialedffpaoacaaGreatDoor
/- The laws' own Binds handed in: opened. (Written by gen_flat.py.) -/
namespace Go.Proofs.YtialedffpaoacaaGreatDoor
open Go.ChangeShapes Go.WideShapes Go.RowKit Go.Deep Go.WideElems Go.Maps Go.Joins Go.Sort

def BdW (f : Bd) : Prop := (Lit.int .i64 f.po).wf = true ∧ (Lit.int .i64 f.vl).wf = true ∧ (Lit.int .i64 f.tn).wf = true ∧ (Lit.int .i64 f.ic).wf = true
theorem Tryz.cellsBd : Tryz.prog.cellsOf 111 = 4 := by kernel_rfl
theorem Tryz.cellsIntBd : Tryz.prog.cellsOf 2 = 1 := by kernel_rfl
/-- The slice (x, len) that was handed in holds them. -/
def ArgBd (w : World) (x : Option Addr) (len : Nat) (rs : List Bd) : Prop := rs.length = len ∧ len ≤ maxLen ∧ (∀ e ∈ rs, BdW e) ∧ ∀ i, (h : i < rs.length) → ∃ p, x = some p ∧ w.cell? (p.add (i * 4)) = some (.int .i64 rs[i].po) ∧ w.cell? (p.add (i * 4 + 1)) = some (.int .i64 rs[i].vl) ∧ w.cell? (p.add (i * 4 + 2)) = some (.int .i64 rs[i].tn) ∧ w.cell? (p.add (i * 4 + 3)) = some (.int .i64 rs[i].ic)
theorem ArgBd.below {w w' : World} {x : Option Addr} {len : Nat} {rs : List Bd} (h : ArgBd w x len rs) (hb : Below w.heap.size w w') : ArgBd w' x len rs := by
  obtain ⟨h1, h2, h3, h4⟩ := h
  refine ⟨h1, h2, h3, fun i hi => ?_⟩
  obtain ⟨p, hp, c0, c1, c2, c3⟩ := h4 i hi
  have hk : ∀ k v, w.cell? (p.add k) = some v → w'.cell? (p.add k) = some v := fun k v hv => by rw [hb.cell (World.block_lt_of_cell? w _ hv)]; exact hv
  exact ⟨p, hp, hk _ _ c0, hk _ _ c1, hk _ _ c2, hk _ _ c3⟩
theorem addr_moreBd (p : Addr) (m j : Nat) (hj : j ≠ 0) : p.add (m + j) = ⟨(p.add m).block, (p.add m).off + j, none⟩ := by
  rw [← Addr.add_add]
  generalize p.add m = q
  unfold Addr.add
  rw [if_neg hj]
theorem ArgBd.at {w : World} {x : Option Addr} {len : Nat} {rs : List Bd} (h : ArgBd w x len rs) (i : Nat) (hi : i < rs.length) : ∃ p po vl tn ic, x = some p ∧ rs[i] = ⟨po, vl, tn, ic⟩ ∧ w.cell? (p.add (i * 4)) = some (.int .i64 po) ∧ w.cell? ⟨(p.add (i * 4)).block, (p.add (i * 4)).off + 1, none⟩ = some (.int .i64 vl) ∧ w.cell? ⟨(p.add (i * 4)).block, (p.add (i * 4)).off + 2, none⟩ = some (.int .i64 tn) ∧ w.cell? ⟨(p.add (i * 4)).block, (p.add (i * 4)).off + 3, none⟩ = some (.int .i64 ic) := by
  obtain ⟨p, hp, c0, c1, c2, c3⟩ := h.2.2.2 i hi
  rw [addr_moreBd _ _ _ (by omega)] at c1 c2 c3
  exact ⟨p, _, _, _, _, hp, rfl, c0, c1, c2, c3⟩
section
variable {H : Type} {enc : TypeId × Value → H} {w : World} {base : Nat} {spare : Nat → Bool} {held : Bool}
set_option maxRecDepth 100000 in
theorem open_bd {fuel : Nat} {cs : List Value} {x : DataW H × List MemPlace} (h : DataW.trod enc Tryz.prog w base spare held fuel 111 cs = some x) : ∃ f : Bd, cs = bdL f ∧ BdW f := by
  obtain ⟨xs, n, _, _, hl, hx, hg⟩ := DataW.trod_struct Tryz.underlying111 h
  rw [Tryz.cellsBd] at hl
  match cs, hl, xs, hx with
  | [c0, c1, c2, c3], _, [y0, y1, y2, y3], _ =>
    have h0 : DataW.trod enc Tryz.prog w base spare held n 2 ((([c0, c1, c2, c3] : List Value).drop 0).take (Tryz.prog.cellsOf 2)) = [y0, y1, y2, y3][0]? := hg 0 _ rfl
    rw [Tryz.cellsIntBd] at h0
    replace h0 : DataW.trod enc Tryz.prog w base spare held n 2 [c0] = some y0 := h0
    obtain ⟨po, epo, _, wpo⟩ := DataW.trod_int Tryz.underlying2 h0
    have h1 : DataW.trod enc Tryz.prog w base spare held n 2 ((([c0, c1, c2, c3] : List Value).drop 1).take (Tryz.prog.cellsOf 2)) = [y0, y1, y2, y3][1]? := hg 1 _ rfl
    rw [Tryz.cellsIntBd] at h1
    replace h1 : DataW.trod enc Tryz.prog w base spare held n 2 [c1] = some y1 := h1
    obtain ⟨vl, evl, _, wvl⟩ := DataW.trod_int Tryz.underlying2 h1
    have h2 : DataW.trod enc Tryz.prog w base spare held n 2 ((([c0, c1, c2, c3] : List Value).drop 2).take (Tryz.prog.cellsOf 2)) = [y0, y1, y2, y3][2]? := hg 2 _ rfl
    rw [Tryz.cellsIntBd] at h2
    replace h2 : DataW.trod enc Tryz.prog w base spare held n 2 [c2] = some y2 := h2
    obtain ⟨tn, etn, _, wtn⟩ := DataW.trod_int Tryz.underlying2 h2
    have h3 : DataW.trod enc Tryz.prog w base spare held n 2 ((([c0, c1, c2, c3] : List Value).drop 3).take (Tryz.prog.cellsOf 2)) = [y0, y1, y2, y3][3]? := hg 3 _ rfl
    rw [Tryz.cellsIntBd] at h3
    replace h3 : DataW.trod enc Tryz.prog w base spare held n 2 [c3] = some y3 := h3
    obtain ⟨ic, eic, _, wic⟩ := DataW.trod_int Tryz.underlying2 h3
    simp only [List.cons.injEq, and_true] at epo evl etn eic
    subst epo evl etn eic
    exact ⟨⟨po, vl, tn, ic⟩, rfl, wpo, wvl, wtn, wic⟩
set_option maxRecDepth 100000 in
theorem open_bds {fuel : Nat} {v : Value} {x : DataW H × List MemPlace} (h : DataW.trod enc Tryz.prog w base spare held fuel 23 [v] = some x) : ∃ y len cap rs, v = .slice y len cap ∧ ArgBd w y len rs := by
  rcases open_slice Tryz.underlying23 h with ⟨h0, _⟩ | ⟨a, len, cap, m, n, D, Pl, h0, hb, hl, hm, hmm, _, hx⟩
  · simp only [List.cons.injEq, and_true] at h0
    exact ⟨none, 0, 0, [], h0, rfl, Nat.zero_le _, by simp, fun i hi => absurd hi (by simp)⟩
  · simp only [List.cons.injEq, and_true] at h0
    have hlm : len ≤ m := by rw [hmm]; split <;> omega
    have each : ∀ i, i < m → ∃ e : Bd, BdW e ∧ w.cell? (a.add (i * 4)) = some (.int .i64 e.po) ∧ w.cell? (a.add (i * 4 + 1)) = some (.int .i64 e.vl) ∧ w.cell? (a.add (i * 4 + 2)) = some (.int .i64 e.tn) ∧ w.cell? (a.add (i * 4 + 3)) = some (.int .i64 e.ic) := by
      intro i hi
      obtain ⟨cs', h1, h2⟩ := hx i hi
      rw [Tryz.cellsBd] at h1
      obtain ⟨e, rfl, hw⟩ := open_bd h2
      obtain ⟨_, _, hcell⟩ := World.cells?_some h1
      have hadd : ∀ j k, (a.add j).add k = a.add (j + k) := fun j k => by
        unfold Addr.add
        by_cases hj : j = 0
        · subst hj; by_cases hk : k = 0 <;> simp [hk]
        · by_cases hk : k = 0
          · simp [hj, hk]
          · simp [hj, hk, Nat.add_assoc]
      refine ⟨e, hw, ?_⟩
      have k0 := hcell 0 (by omega)
      have k1 := hcell 1 (by omega)
      have k2 := hcell 2 (by omega)
      have k3 := hcell 3 (by omega)
      simp only [hadd, Nat.add_zero, bdL] at k0 k1 k2 k3
      exact ⟨by simpa using k0, by simpa using k1, by simpa using k2, by simpa using k3⟩
    obtain ⟨E, hE⟩ := choose_lt (α := Bd) (p := fun i e => BdW e ∧ w.cell? (a.add (i * 4)) = some (.int .i64 e.po) ∧ w.cell? (a.add (i * 4 + 1)) = some (.int .i64 e.vl) ∧ w.cell? (a.add (i * 4 + 2)) = some (.int .i64 e.tn) ∧ w.cell? (a.add (i * 4 + 3)) = some (.int .i64 e.ic)) each
    refine ⟨some a, len, cap, (List.range len).map E, h0, by simp, by omega, ?_, ?_⟩
    · intro e he
      simp only [List.mem_map, List.mem_range] at he
      obtain ⟨i, hi, rfl⟩ := he
      exact (hE i (by omega)).1
    · intro i hi
      simp only [List.length_map, List.length_range] at hi
      refine ⟨a, rfl, ?_⟩
      simp only [List.getElem_map, List.getElem_range]
      exact (hE i (by omega)).2
end
end Go.Proofs.YtialedffpaoacaaGreatDoor
/- The laws' own Binds handed over. (Written by gen_flat.py.) -/
namespace Go.Proofs.YtialedffpaoacaaGreatDoor
open Go.RowKit Go.Sort

set_option maxRecDepth 100000 in
theorem toBind_any (f : Bd) (w : World) : Calls Tryz.prog 50 #[bdV f] w fun e w' => e = .returned (bdV f) ∧ Below w.heap.size w w' := by
  obtain ⟨po, vl, tn, ic⟩ := f
  unfold bdV
  go_enter Tryz.func50, Tryz.ntmps50
  go_wp2
  refine bodyPost_ret (v := .agg #[.int .i64 po, .int .i64 vl, .int .i64 tn, .int .i64 ic]) (by simp [results, Tryz.results50, go_sem]) rfl ⟨rfl, ?_⟩
  exact (((Below.refl _ _).alloc (Nat.le_refl _) _).alloc (by simp) _).alloc (by simp; omega) _
def fourBd (w : World) (g o : Nat) (x0 x1 x2 x3 : Value) : World := ((((w.setCell ⟨g, o, none⟩ x0).setCell ⟨g, o + 1, none⟩ x1).setCell ⟨g, o + 2, none⟩ x2).setCell ⟨g, o + 3, none⟩ x3)
theorem fourBd_below {B : Nat} {w0 w : World} (h : Below B w0 w) (g o : Nat) (hg : B ≤ g) (x0 x1 x2 x3 : Value) : Below B w0 (fourBd w g o x0 x1 x2 x3) := ((((h.setCell (p := ⟨g, o, none⟩) hg x0).setCell (p := ⟨g, o + 1, none⟩) hg x1).setCell (p := ⟨g, o + 2, none⟩) hg x2).setCell (p := ⟨g, o + 3, none⟩) hg x3)
theorem fourBd_row {w : World} {g : Nat} {t : TypeId} {l : List Value} (h : Row w g t l) (o : Nat) (x0 x1 x2 x3 : Value) : Row (fourBd w g o x0 x1 x2 x3) g t ((((l.set (o) x0).set (o + 1) x1).set (o + 2) x2).set (o + 3) x3) := ((((h.set (o) x0).set (o + 1) x1).set (o + 2) x2).set (o + 3) x3)
theorem fourBd_other {w : World} {b g : Nat} {t : TypeId} {l : List Value} (h : Row w b t l) (hne : b ≠ g) (o : Nat) (x0 x1 x2 x3 : Value) : Row (fourBd w g o x0 x1 x2 x3) b t l := ((((h.other (o) x0 hne).other (o + 1) x1 hne).other (o + 2) x2 hne).other (o + 3) x3 hne)
theorem setBd (A R : List Value) (k : Nat) (hA : A.length = k * 4) (z0 z1 z2 z3 x0 x1 x2 x3 : Value) : (((((A ++ ([z0, z1, z2, z3] ++ R)).set (k * 4) x0).set (k * 4 + 1) x1).set (k * 4 + 2) x2).set (k * 4 + 3) x3) = A ++ ([x0, x1, x2, x3] ++ R) := by
  have e : ∀ (L : List Value) (j : Nat) (x : Value), (A ++ L).set (k * 4 + j) x = A ++ L.set j x := fun L j x => by
    rw [List.set_append, if_neg (by omega), hA, Nat.add_sub_cancel_left]
  have e0 : ∀ (L : List Value) (x : Value), (A ++ L).set (k * 4) x = A ++ L.set 0 x := fun L x => e L 0 x
  rw [e0, e, e, e]
  rfl
theorem Row.someBd {w : World} {g : Nat} {t : TypeId} {l : List Value} (h : Row w g t l) (k : Nat) (hk : k < l.length) : ∃ v, w.cell? ⟨g, k, none⟩ = some v := ⟨l[k], by rw [h.cell, List.getElem?_eq_getElem hk]⟩
theorem Tryz.infoBd : (Tryz.prog.info? 77).map (fun i => (i.zero, i.size, i.bytes)) = some (some (.agg #[.int .i64 0, .int .i64 0, .int .i64 0, .int .i64 0]), 4, 32) := by kernel_rfl
def zeroBd : Bd := ⟨0, 0, 0, 0⟩
theorem rowBd_zero_get (n i : Nat) (h : i < n * 4) : (rowBd (List.replicate n zeroBd))[i]? = (bdL zeroBd)[i % 4]? := by
  have hi : i / 4 < (List.replicate n zeroBd).length := by simp; omega
  have := rowBd_get (List.replicate n zeroBd) (i / 4) (i % 4) hi (by omega)
  rw [show i / 4 * 4 + i % 4 = i by omega] at this
  rw [this, List.getElem_replicate]
theorem made_zeroBd (n : Nat) : (madeCells (Value.agg #[.int .i64 0, .int .i64 0, .int .i64 0, .int .i64 0]).cells (n * 4)).toList = rowBd (List.replicate n zeroBd) := by
  apply List.ext_getElem?
  intro i
  by_cases h : i < n * 4
  · rw [rowBd_zero_get n i h]
    simp only [madeCells, Value.cells, Array.toList_map, List.getElem?_map]
    have h9 : i % 4 = 0 ∨ i % 4 = 1 ∨ i % 4 = 2 ∨ i % 4 = 3 := by omega
    rcases h9 with h9 | h9 | h9 | h9 <;> simp [h9, h, bdL, zeroBd]
  · rw [List.getElem?_eq_none (by simp [madeCells]; omega), List.getElem?_eq_none (by rw [rowBd_length]; simp; omega)]
set_option maxRecDepth 100000 in
theorem wpList_make_bds {w : World} {ops : Array Oper} {rest : List Oper} {o : Oper} {a : Act} {Q : Exit → Act → World → Prop}
    (hgd : o.guard = none) (l c : Operand) (hop : o.op = Op.makeSlice 30 l c)
    (L : Int) (n : Nat) (hl : a.eval l = .int .i64 L) (hc : a.eval c = .int .i64 L) (hL : L = (n : Int)) (hn : n ≤ 100000000)
    (B : Nat) (w0 : World) (hb : Below B w0 w) (hB : B ≤ w.heap.size)
    (h : ∀ w', Row w' w.heap.size 77 (rowBd (List.replicate n zeroBd)) → Below B w0 w' → wpList Tryz.prog ops Q rest (a.put o.dst (.slice (some ⟨w.heap.size, 0, none⟩) n n)) w') : wpList Tryz.prog ops Q (o :: rest) a w := by
  obtain ⟨i0, hi0, hz0, hz1, hz2⟩ := info_parts Tryz.infoBd
  refine wpList_make_full w hgd l c 30 hop B 77 i0 _ 4 Tryz.underlying30 hi0 hz0 hz1 .i64 .i64 L L n hl hc hL hL (by rw [hz2]; omega) (by unfold maxLen; omega) hB ?_
  intro w' hown hgrow
  rcases hown.2 with ⟨h', _⟩ | ⟨g, cap, cur, h', hbg, hg, hnc, hcm, hcs, htake⟩
  · simp at h'
  · simp only [Value.slice.injEq, Option.some.injEq, Addr.mk.injEq, and_true, true_and] at h'
    obtain ⟨rfl, rfl⟩ := h'
    refine h w' ?_ (hb.trans ((Below.refl B w).grown hgrow hB (by intro k hk; cases hk)))
    unfold Row
    rw [hg, ← made_zeroBd, ← htake, List.take_of_length_le (by simp [hcs])]
theorem rowBd_set (es : List Bd) (k : Nat) (hk : k < es.length) (po : Int) (vl : Int) (tn : Int) (ic : Int) (he : es[k] = ⟨po, vl, tn, ic⟩) :
    (((((rowBd (es.take k ++ List.replicate (es.length - k) zeroBd)).set (k * 4) (.int .i64 po)).set (k * 4 + 1) (.int .i64 vl)).set (k * 4 + 2) (.int .i64 tn)).set (k * 4 + 3) (.int .i64 ic)) = rowBd (es.take (k + 1) ++ List.replicate (es.length - (k + 1)) zeroBd) := by
  have e1 : es.length - k = (es.length - (k + 1)) + 1 := by omega
  rw [e1, List.replicate_succ, rowBd_append, rowBd_cons, List.take_succ_eq_append_getElem hk, List.append_assoc, rowBd_append, List.singleton_append, rowBd_cons, he]
  exact setBd _ _ k (by rw [rowBd_length, List.length_take]; omega) _ _ _ _ _ _ _ _
set_option maxRecDepth 100000 in
theorem toBindS_any (x : Option Addr) (cap : Nat) (es : List Bd) (w : World) (h : ArgBd w x es.length es) (hn : es.length ≤ 1048576) :
    Calls Tryz.prog 22 #[.slice x es.length cap] w fun e w' => ∃ g, e = .returned (.slice (some ⟨g, 0, none⟩) es.length es.length) ∧ w.heap.size ≤ g ∧ Row w' g 77 (rowBd es) ∧ Below w.heap.size w w' := by
  have HE : Hid (∀ e w, Calls Tryz.prog 50 #[bdV e] w fun r w' => r = .returned (bdV e) ∧ Below w.heap.size w w') := toBind_any
  have HX : Hid (ArgBd w x es.length es) := h
  clear h
  go_enter Tryz.func22, Tryz.ntmps22
  go_wp2_with (at_make; refine wpList_make_bds rfl _ _ rfl _ es.length rfl rfl rfl (by omega) w.heap.size w (Below.refl _ _) (Nat.le_refl _) ?_)
  intro w0 hr0 hb0
  have hz : es.take 0 ++ List.replicate (es.length - 0) zeroBd = List.replicate es.length zeroBd := by simp
  rw [← hz] at hr0
  clear hz
  go_wp2_with fail
  go_loopw [4] (fun i wr => ∃ k : Nat, k ≤ es.length ∧ i = .int .i64 k ∧ Row wr w.heap.size 77 (rowBd (es.take k ++ List.replicate (es.length - k) zeroBd)) ∧ Below w.heap.size w wr) (fun i _ => es.length - (intOf i).toNat)
  case atStart => exact ⟨0, Nat.zero_le _, rfl, hr0, hb0⟩
  case round =>
    obtain ⟨k, hk, rfl, hr, hb⟩ := hrel
    by_cases hlt : k < es.length
    · obtain ⟨p, po, vl, tn, ic, rfl, hek, c0, c1, c2, c3⟩ := (HX.out.below hb).at k hlt
      have HEk : Hid (∀ w, Calls Tryz.prog 50 #[.agg #[.int .i64 po, .int .i64 vl, .int .i64 tn, .int .i64 ic]] w fun r w' => r = .returned (.agg #[.int .i64 po, .int .i64 vl, .int .i64 tn, .int .i64 ic]) ∧ Below w.heap.size w w') := HE.out ⟨po, vl, tn, ic⟩
      have hset := rowBd_set es k hlt po vl tn ic hek
      have HS : Hid _ := hset
      clear hset HE hek hr0 hb0
      go_wp2_with fail
      refine (HEk.out _).mono ?_
      rintro e w1 ⟨rfl, hb1⟩
      have hr1 := hr.below hb1 hr.lt
      have hB1 := hb.trans (hb1.mono hb.size)
      clear c0 c1 c2 c3 hb1 HEk hr hb
      have hlr : (rowBd (es.take k ++ List.replicate (es.length - k) zeroBd)).length = es.length * 4 := by rw [rowBd_length]; simp; omega
      obtain ⟨z0, hz0⟩ := Row.someBd hr1 (k * 4) (by omega)
      obtain ⟨z1, hz1⟩ := Row.someBd hr1 (k * 4 + 1) (by omega)
      obtain ⟨z2, hz2⟩ := Row.someBd hr1 (k * 4 + 2) (by omega)
      obtain ⟨z3, hz3⟩ := Row.someBd hr1 (k * 4 + 3) (by omega)
      have f0 := hr1.frozen (k * 4)
      have f1 := hr1.frozen (k * 4 + 1)
      have f2 := hr1.frozen (k * 4 + 2)
      have f3 := hr1.frozen (k * 4 + 3)
      have hr2 := fourBd_row hr1 (k * 4) (.int .i64 po) (.int .i64 vl) (.int .i64 tn) (.int .i64 ic)
      rw [HS.out] at hr2
      have hB2 := fourBd_below hB1 w.heap.size (k * 4) (Nat.le_refl _) (.int .i64 po) (.int .i64 vl) (.int .i64 tn) (.int .i64 ic)
      unfold fourBd at hr2 hB2
      have HH : Hid _ := And.intro hr2 hB2
      clear hr1 hB1 HS hlr hr2 hB2
      go_wp2_with fail
      go_roundw
      case rel => exact ⟨k + 1, hlt, by go_num, HH.out.1, HH.out.2⟩
      case measure => simp [intOf]; omega
    · obtain rfl : k = es.length := by omega
      rw [List.take_length, Nat.sub_self, List.replicate_zero, List.append_nil] at hr
      clear hlt hk
      go_wp2
      go_ret
      exact ⟨_, rfl, Nat.le_refl _, hr, hb⟩
set_option maxRecDepth 100000 in
theorem szBindS_any (x : Option Addr) (len cap : Nat) (L : Int) (w : World) (hl : len ≤ maxLen) (h0 : 0 ≤ L) (h1 : L ≤ 1048576) : Calls Tryz.prog 15 #[.slice x len cap, .int .i64 L] w fun e w' => e = .returned (.int .i64 (if (len : Int) ≤ L then L - (len : Int) else -1)) ∧ w = w' := by
  unfold maxLen at hl
  have z : IntKind.i64.wrap (L - (len : Int)) = L - (len : Int) := wrap_i64_in _ (by omega) (by omega)
  by_cases h : (len : Int) ≤ L
  · rw [if_pos h]
    have d : decide (L - (len : Int) < 0) = false := by simp; omega
    go_enter Tryz.func15, Tryz.ntmps15
    go_wp2
    go_ret
    exact ⟨rfl, rfl⟩
  · rw [if_neg h]
    have d : decide (L - (len : Int) < 0) = true := by simp; omega
    go_enter Tryz.func15, Tryz.ntmps15
    go_wp2
    go_ret
    exact ⟨rfl, rfl⟩
end Go.Proofs.YtialedffpaoacaaGreatDoor
/- The laws' own lists of Leaks: opened. (Written by gen_lks.py.) -/
namespace Go.Proofs.YtialedffpaoacaaGreatDoor
open Go.ChangeShapes Go.WideShapes Go.RowKit Go.Sort Go.Deep Go.Joins

/-- The slice (x, len) that was handed in holds the Leaks rs. -/
def ArgL (w : World) (x : Option Addr) (len : Nat) (rs : List Lk) : Prop := rs.length = len ∧ len ≤ maxLen ∧ (∀ e ∈ rs, LkW e) ∧ ∀ i, (h : i < rs.length) → ∃ p, x = some p ∧ w.cell? (p.add (i * 6)) = some (.int .i64 rs[i].fr) ∧ w.cell? (p.add (i * 6 + 1)) = some (.int .i64 rs[i].tt) ∧ w.cell? (p.add (i * 6 + 2)) = some (.int .i64 rs[i].a) ∧ w.cell? (p.add (i * 6 + 3)) = some (.int .i64 rs[i].l) ∧ w.cell? (p.add (i * 6 + 4)) = some (.int .i64 rs[i].ad) ∧ w.cell? (p.add (i * 6 + 5)) = some (.int .i64 rs[i].tg)
theorem ArgL.below {w w' : World} {x : Option Addr} {len : Nat} {rs : List Lk} (h : ArgL w x len rs) (hb : Below w.heap.size w w') : ArgL w' x len rs := by
  obtain ⟨h1, h2, h3, h4⟩ := h
  refine ⟨h1, h2, h3, fun i hi => ?_⟩
  obtain ⟨p, hp, c0, c1, c2, c3, c4, c5⟩ := h4 i hi
  have hk : ∀ k v, w.cell? (p.add k) = some v → w'.cell? (p.add k) = some v := fun k v hv => by rw [hb.cell (World.block_lt_of_cell? w _ hv)]; exact hv
  exact ⟨p, hp, hk _ _ c0, hk _ _ c1, hk _ _ c2, hk _ _ c3, hk _ _ c4, hk _ _ c5⟩
theorem addr_moreL (p : Addr) (m j : Nat) (hj : j ≠ 0) : p.add (m + j) = ⟨(p.add m).block, (p.add m).off + j, none⟩ := by
  rw [← Addr.add_add]
  generalize p.add m = q
  unfold Addr.add
  rw [if_neg hj]
theorem ArgL.at {w : World} {x : Option Addr} {len : Nat} {rs : List Lk} (h : ArgL w x len rs) (i : Nat) (hi : i < rs.length) : ∃ p fr tt a l ad tg, x = some p ∧ rs[i] = ⟨fr, tt, a, l, ad, tg⟩ ∧ w.cell? (p.add (i * 6)) = some (.int .i64 fr) ∧ w.cell? ⟨(p.add (i * 6)).block, (p.add (i * 6)).off + 1, none⟩ = some (.int .i64 tt) ∧ w.cell? ⟨(p.add (i * 6)).block, (p.add (i * 6)).off + 2, none⟩ = some (.int .i64 a) ∧ w.cell? ⟨(p.add (i * 6)).block, (p.add (i * 6)).off + 3, none⟩ = some (.int .i64 l) ∧ w.cell? ⟨(p.add (i * 6)).block, (p.add (i * 6)).off + 4, none⟩ = some (.int .i64 ad) ∧ w.cell? ⟨(p.add (i * 6)).block, (p.add (i * 6)).off + 5, none⟩ = some (.int .i64 tg) := by
  obtain ⟨p, hp, c0, c1, c2, c3, c4, c5⟩ := h.2.2.2 i hi
  rw [addr_moreL _ _ _ (by omega)] at c1 c2 c3 c4 c5
  exact ⟨p, _, _, _, _, _, _, hp, rfl, c0, c1, c2, c3, c4, c5⟩
section
variable {H : Type} {enc : TypeId × Value → H} {w : World} {base : Nat} {spare : Nat → Bool} {held : Bool}
set_option maxRecDepth 100000 in
theorem open_lks {fuel : Nat} {v : Value} {x : DataW H × List MemPlace} (h : DataW.trod enc Tryz.prog w base spare held fuel 24 [v] = some x) : ∃ y len cap rs, v = .slice y len cap ∧ ArgL w y len rs := by
  rcases open_slice Tryz.underlying24 h with ⟨h0, _⟩ | ⟨a, len, cap, m, n, D, Pl, h0, hb, hl, hm, hmm, _, hx⟩
  · simp only [List.cons.injEq, and_true] at h0
    exact ⟨none, 0, 0, [], h0, rfl, Nat.zero_le _, by simp, fun i hi => absurd hi (by simp)⟩
  · simp only [List.cons.injEq, and_true] at h0
    have hlm : len ≤ m := by rw [hmm]; split <;> omega
    have each : ∀ i, i < m → ∃ e : Lk, LkW e ∧ w.cell? (a.add (i * 6)) = some (.int .i64 e.fr) ∧ w.cell? (a.add (i * 6 + 1)) = some (.int .i64 e.tt) ∧ w.cell? (a.add (i * 6 + 2)) = some (.int .i64 e.a) ∧ w.cell? (a.add (i * 6 + 3)) = some (.int .i64 e.l) ∧ w.cell? (a.add (i * 6 + 4)) = some (.int .i64 e.ad) ∧ w.cell? (a.add (i * 6 + 5)) = some (.int .i64 e.tg) := by
      intro i hi
      obtain ⟨cs', h1, h2⟩ := hx i hi
      rw [Tryz.cellsLeak] at h1
      obtain ⟨e, rfl, hw⟩ := open_lk h2
      obtain ⟨_, _, hcell⟩ := World.cells?_some h1
      have hadd : ∀ j k, (a.add j).add k = a.add (j + k) := fun j k => by
        unfold Addr.add
        by_cases hj : j = 0
        · subst hj; by_cases hk : k = 0 <;> simp [hk]
        · by_cases hk : k = 0
          · simp [hj, hk]
          · simp [hj, hk, Nat.add_assoc]
      refine ⟨e, hw, ?_⟩
      have k0 := hcell 0 (by omega)
      have k1 := hcell 1 (by omega)
      have k2 := hcell 2 (by omega)
      have k3 := hcell 3 (by omega)
      have k4 := hcell 4 (by omega)
      have k5 := hcell 5 (by omega)
      simp only [hadd, Nat.add_zero, lkL] at k0 k1 k2 k3 k4 k5
      exact ⟨by simpa using k0, by simpa using k1, by simpa using k2, by simpa using k3, by simpa using k4, by simpa using k5⟩
    obtain ⟨E, hE⟩ := choose_lt (α := Lk) (p := fun i e => LkW e ∧ w.cell? (a.add (i * 6)) = some (.int .i64 e.fr) ∧ w.cell? (a.add (i * 6 + 1)) = some (.int .i64 e.tt) ∧ w.cell? (a.add (i * 6 + 2)) = some (.int .i64 e.a) ∧ w.cell? (a.add (i * 6 + 3)) = some (.int .i64 e.l) ∧ w.cell? (a.add (i * 6 + 4)) = some (.int .i64 e.ad) ∧ w.cell? (a.add (i * 6 + 5)) = some (.int .i64 e.tg)) each
    refine ⟨some a, len, cap, (List.range len).map E, h0, by simp, by omega, ?_, ?_⟩
    · intro e he
      simp only [List.mem_map, List.mem_range] at he
      obtain ⟨i, hi, rfl⟩ := he
      exact (hE i (by omega)).1
    · intro i hi
      simp only [List.length_map, List.length_range] at hi
      refine ⟨a, rfl, ?_⟩
      simp only [List.getElem_map, List.getElem_range]
      exact (hE i (by omega)).2
end
end Go.Proofs.YtialedffpaoacaaGreatDoor
/- The laws' own lists of Leaks measured and handed over. (Written by gen_lks.py.) -/
namespace Go.Proofs.YtialedffpaoacaaGreatDoor
open Go.RowKit Go.Sort

def sixL (w : World) (g o : Nat) (x0 x1 x2 x3 x4 x5 : Value) : World := ((((((w.setCell ⟨g, o, none⟩ x0).setCell ⟨g, o + 1, none⟩ x1).setCell ⟨g, o + 2, none⟩ x2).setCell ⟨g, o + 3, none⟩ x3).setCell ⟨g, o + 4, none⟩ x4).setCell ⟨g, o + 5, none⟩ x5)
theorem sixL_below {B : Nat} {w0 w : World} (h : Below B w0 w) (g o : Nat) (hg : B ≤ g) (x0 x1 x2 x3 x4 x5 : Value) : Below B w0 (sixL w g o x0 x1 x2 x3 x4 x5) := ((((((h.setCell (p := ⟨g, o, none⟩) hg x0).setCell (p := ⟨g, o + 1, none⟩) hg x1).setCell (p := ⟨g, o + 2, none⟩) hg x2).setCell (p := ⟨g, o + 3, none⟩) hg x3).setCell (p := ⟨g, o + 4, none⟩) hg x4).setCell (p := ⟨g, o + 5, none⟩) hg x5)
theorem sixL_row {w : World} {g : Nat} {t : TypeId} {l : List Value} (h : Row w g t l) (o : Nat) (x0 x1 x2 x3 x4 x5 : Value) : Row (sixL w g o x0 x1 x2 x3 x4 x5) g t ((((((l.set (o) x0).set (o + 1) x1).set (o + 2) x2).set (o + 3) x3).set (o + 4) x4).set (o + 5) x5) := ((((((h.set (o) x0).set (o + 1) x1).set (o + 2) x2).set (o + 3) x3).set (o + 4) x4).set (o + 5) x5)
theorem sixL_other {w : World} {b g : Nat} {t : TypeId} {l : List Value} (h : Row w b t l) (hne : b ≠ g) (o : Nat) (x0 x1 x2 x3 x4 x5 : Value) : Row (sixL w g o x0 x1 x2 x3 x4 x5) b t l := ((((((h.other (o) x0 hne).other (o + 1) x1 hne).other (o + 2) x2 hne).other (o + 3) x3 hne).other (o + 4) x4 hne).other (o + 5) x5 hne)
theorem set6L (A R : List Value) (k : Nat) (hA : A.length = k * 6) (z0 z1 z2 z3 z4 z5 x0 x1 x2 x3 x4 x5 : Value) : (((((((A ++ ([z0, z1, z2, z3, z4, z5] ++ R)).set (k * 6) x0).set (k * 6 + 1) x1).set (k * 6 + 2) x2).set (k * 6 + 3) x3).set (k * 6 + 4) x4).set (k * 6 + 5) x5) = A ++ ([x0, x1, x2, x3, x4, x5] ++ R) := by
  have e : ∀ (L : List Value) (j : Nat) (x : Value), (A ++ L).set (k * 6 + j) x = A ++ L.set j x := fun L j x => by
    rw [List.set_append, if_neg (by omega), hA, Nat.add_sub_cancel_left]
  have e0 : ∀ (L : List Value) (x : Value), (A ++ L).set (k * 6) x = A ++ L.set 0 x := fun L x => e L 0 x
  rw [e0, e, e, e, e, e]
  rfl
theorem Row.someL {w : World} {g : Nat} {t : TypeId} {l : List Value} (h : Row w g t l) (k : Nat) (hk : k < l.length) : ∃ v, w.cell? ⟨g, k, none⟩ = some v := ⟨l[k], by rw [h.cell, List.getElem?_eq_getElem hk]⟩
theorem Tryz.infoL : (Tryz.prog.info? 113).map (fun i => (i.zero, i.size, i.bytes)) = some (some (.agg #[.int .i64 0, .int .i64 0, .int .i64 0, .int .i64 0, .int .i64 0, .int .i64 0]), 6, 48) := by kernel_rfl
def zeroLk : Lk := ⟨0, 0, 0, 0, 0, 0⟩
theorem rowL_zero_get (n i : Nat) (h : i < n * 6) : (rowL (List.replicate n zeroLk))[i]? = some (.int .i64 0) := by
  have hi : i / 6 < (List.replicate n zeroLk).length := by simp; omega
  have := rowL_get (List.replicate n zeroLk) (i / 6) (i % 6) hi (by omega)
  rw [show i / 6 * 6 + i % 6 = i by omega] at this
  rw [this, List.getElem_replicate]
  have h9 : i % 6 = 0 ∨ i % 6 = 1 ∨ i % 6 = 2 ∨ i % 6 = 3 ∨ i % 6 = 4 ∨ i % 6 = 5 := by omega
  rcases h9 with h | h | h | h | h | h <;> (rw [h]; rfl)
theorem made_zeroL (n : Nat) : (madeCells (Value.agg #[.int .i64 0, .int .i64 0, .int .i64 0, .int .i64 0, .int .i64 0, .int .i64 0]).cells (n * 6)).toList = rowL (List.replicate n zeroLk) := by
  apply List.ext_getElem?
  intro i
  by_cases h : i < n * 6
  · rw [rowL_zero_get n i h]
    simp only [madeCells, Value.cells, Array.toList_map, List.getElem?_map]
    have h9 : i % 6 = 0 ∨ i % 6 = 1 ∨ i % 6 = 2 ∨ i % 6 = 3 ∨ i % 6 = 4 ∨ i % 6 = 5 := by omega
    rcases h9 with h9 | h9 | h9 | h9 | h9 | h9 <;> simp [h9, h]
  · rw [List.getElem?_eq_none (by simp [madeCells]; omega), List.getElem?_eq_none (by rw [rowL_length]; simp; omega)]
set_option maxRecDepth 100000 in
/-- 'make([]Leak, n)'. -/
theorem wpList_make_lks {w : World} {ops : Array Oper} {rest : List Oper} {o : Oper} {a : Act} {Q : Exit → Act → World → Prop}
    (hgd : o.guard = none) (l c : Operand) (hop : o.op = Op.makeSlice 31 l c)
    (L : Int) (n : Nat) (hl : a.eval l = .int .i64 L) (hc : a.eval c = .int .i64 L) (hL : L = (n : Int)) (hn : n ≤ 100000000)
    (B : Nat) (w0 : World) (hb : Below B w0 w) (hB : B ≤ w.heap.size)
    (h : ∀ w', Row w' w.heap.size 113 (rowL (List.replicate n zeroLk)) → Below B w0 w' → wpList Tryz.prog ops Q rest (a.put o.dst (.slice (some ⟨w.heap.size, 0, none⟩) n n)) w') : wpList Tryz.prog ops Q (o :: rest) a w := by
  obtain ⟨i0, hi0, hz0, hz1, hz2⟩ := info_parts Tryz.infoL
  refine wpList_make_full w hgd l c 31 hop B 113 i0 _ 6 Tryz.underlying31 hi0 hz0 hz1 .i64 .i64 L L n hl hc hL hL (by rw [hz2]; omega) (by unfold maxLen; omega) hB ?_
  intro w' hown hgrow
  rcases hown.2 with ⟨h', _⟩ | ⟨g, cap, cur, h', hbg, hg, hnc, hcm, hcs, htake⟩
  · simp at h'
  · simp only [Value.slice.injEq, Option.some.injEq, Addr.mk.injEq, and_true, true_and] at h'
    obtain ⟨rfl, rfl⟩ := h'
    refine h w' ?_ (hb.trans ((Below.refl B w).grown hgrow hB (by intro k hk; cases hk)))
    unfold Row
    rw [hg, ← made_zeroL, ← htake, List.take_of_length_le (by simp [hcs])]
theorem rowL_set (es : List Lk) (k : Nat) (hk : k < es.length) (fr tt a l ad tg : Int) (he : es[k] = ⟨fr, tt, a, l, ad, tg⟩) :
    (((((((rowL (es.take k ++ List.replicate (es.length - k) zeroLk)).set (k * 6) (.int .i64 fr)).set (k * 6 + 1) (.int .i64 tt)).set (k * 6 + 2) (.int .i64 a)).set (k * 6 + 3) (.int .i64 l)).set (k * 6 + 4) (.int .i64 ad)).set (k * 6 + 5) (.int .i64 tg)) = rowL (es.take (k + 1) ++ List.replicate (es.length - (k + 1)) zeroLk) := by
  have e1 : es.length - k = (es.length - (k + 1)) + 1 := by omega
  rw [e1, List.replicate_succ, rowL_append, rowL_cons, List.take_succ_eq_append_getElem hk, List.append_assoc, rowL_append, List.singleton_append, rowL_cons, he]
  exact set6L _ _ k (by rw [rowL_length, List.length_take]; omega) _ _ _ _ _ _ _ _ _ _ _ _
set_option maxRecDepth 100000 in
theorem szLeakS_any (x : Option Addr) (len cap : Nat) (w : World) (hl : len ≤ maxLen) : Calls Tryz.prog 16 #[.slice x len cap, .int .i64 1048576] w fun e w' => e = .returned (.int .i64 (if len ≤ 1048576 then 1048576 - (len : Int) else -1)) ∧ w = w' := by
  unfold maxLen at hl
  by_cases h : len ≤ 1048576
  · rw [if_pos h]
    have d : decide (1048576 - (len : Int) < 0) = false := by simp; omega
    go_enter Tryz.func16, Tryz.ntmps16
    go_wp2
    go_ret
    exact ⟨rfl, rfl⟩
  · rw [if_neg h]
    have d : decide (1048576 - (len : Int) < 0) = true := by simp; omega
    go_enter Tryz.func16, Tryz.ntmps16
    go_wp2
    go_ret
    exact ⟨rfl, rfl⟩
set_option maxRecDepth 100000 in
theorem toLeakS_any (x : Option Addr) (cap : Nat) (es : List Lk) (w : World) (h : ArgL w x es.length es) (hn : es.length ≤ 1048576) :
    Calls Tryz.prog 23 #[.slice x es.length cap] w fun e w' => ∃ g, e = .returned (.slice (some ⟨g, 0, none⟩) es.length es.length) ∧ w.heap.size ≤ g ∧ Row w' g 113 (rowL es) ∧ Below w.heap.size w w' := by
  have HE : Hid (∀ e w, Calls Tryz.prog 51 #[lkV e] w fun r w' => r = .returned (lkV e) ∧ Below w.heap.size w w') := toLeak_any
  have HX : Hid (ArgL w x es.length es) := h
  clear h
  go_enter Tryz.func23, Tryz.ntmps23
  go_wp2_with (at_make; refine wpList_make_lks rfl _ _ rfl _ es.length rfl rfl rfl (by omega) w.heap.size w (Below.refl _ _) (Nat.le_refl _) ?_)
  intro w0 hr0 hb0
  have hz : es.take 0 ++ List.replicate (es.length - 0) zeroLk = List.replicate es.length zeroLk := by simp
  rw [← hz] at hr0
  clear hz
  go_wp2_with fail
  go_loopw [4] (fun i wr => ∃ k : Nat, k ≤ es.length ∧ i = .int .i64 k ∧ Row wr w.heap.size 113 (rowL (es.take k ++ List.replicate (es.length - k) zeroLk)) ∧ Below w.heap.size w wr) (fun i _ => es.length - (intOf i).toNat)
  case atStart => exact ⟨0, Nat.zero_le _, rfl, hr0, hb0⟩
  case round =>
    obtain ⟨k, hk, rfl, hr, hb⟩ := hrel
    by_cases hlt : k < es.length
    · obtain ⟨p, fr, tt, a, l, ad, tg, rfl, hek, c0, c1, c2, c3, c4, c5⟩ := (HX.out.below hb).at k hlt
      have HEk : Hid (∀ w, Calls Tryz.prog 51 #[.agg #[.int .i64 fr, .int .i64 tt, .int .i64 a, .int .i64 l, .int .i64 ad, .int .i64 tg]] w fun r w' => r = .returned (.agg #[.int .i64 fr, .int .i64 tt, .int .i64 a, .int .i64 l, .int .i64 ad, .int .i64 tg]) ∧ Below w.heap.size w w') := HE.out ⟨fr, tt, a, l, ad, tg⟩
      have hset := rowL_set es k hlt fr tt a l ad tg hek
      have HS : Hid _ := hset
      clear hset HE hek hr0 hb0
      go_wp2_with fail
      refine (HEk.out _).mono ?_
      rintro e w1 ⟨rfl, hb1⟩
      have hr1 := hr.below hb1 hr.lt
      have hB1 := hb.trans (hb1.mono hb.size)
      clear c0 c1 c2 c3 c4 c5 hb1 HEk hr hb
      have hlr : (rowL (es.take k ++ List.replicate (es.length - k) zeroLk)).length = es.length * 6 := by rw [rowL_length]; simp; omega
      obtain ⟨z0, hz0⟩ := Row.someL hr1 (k * 6) (by omega)
      obtain ⟨z1, hz1⟩ := Row.someL hr1 (k * 6 + 1) (by omega)
      obtain ⟨z2, hz2⟩ := Row.someL hr1 (k * 6 + 2) (by omega)
      obtain ⟨z3, hz3⟩ := Row.someL hr1 (k * 6 + 3) (by omega)
      obtain ⟨z4, hz4⟩ := Row.someL hr1 (k * 6 + 4) (by omega)
      obtain ⟨z5, hz5⟩ := Row.someL hr1 (k * 6 + 5) (by omega)
      have f0 := hr1.frozen (k * 6)
      have f1 := hr1.frozen (k * 6 + 1)
      have f2 := hr1.frozen (k * 6 + 2)
      have f3 := hr1.frozen (k * 6 + 3)
      have f4 := hr1.frozen (k * 6 + 4)
      have f5 := hr1.frozen (k * 6 + 5)
      have hr2 := sixL_row hr1 (k * 6) (.int .i64 fr) (.int .i64 tt) (.int .i64 a) (.int .i64 l) (.int .i64 ad) (.int .i64 tg)
      rw [HS.out] at hr2
      have hB2 := sixL_below hB1 w.heap.size (k * 6) (Nat.le_refl _) (.int .i64 fr) (.int .i64 tt) (.int .i64 a) (.int .i64 l) (.int .i64 ad) (.int .i64 tg)
      unfold sixL at hr2 hB2
      have HH : Hid _ := And.intro hr2 hB2
      clear hr1 hB1 HS hlr hr2 hB2
      go_wp2_with fail
      go_roundw
      case rel => exact ⟨k + 1, hlt, by go_num, HH.out.1, HH.out.2⟩
      case measure => simp [intOf]; omega
    · obtain rfl : k = es.length := by omega
      rw [List.take_length, Nat.sub_self, List.replicate_zero, List.append_nil] at hr
      clear hlt hk
      go_wp2
      go_ret
      exact ⟨_, rfl, Nat.le_refl _, hr, hb⟩
end Go.Proofs.YtialedffpaoacaaGreatDoor
/- The laws' own look: Leaks and lists of them are as themselves. (Written by gen_lks.py.) -/
namespace Go.Proofs.YtialedffpaoacaaGreatDoor
open Go.RowKit Go.Sort

theorem boxes6L {w w1 : World} {xs ys : List Value} {t u : TypeId} (h : Below ((w.alloc (.cells xs.toArray t)).alloc (.cells ys.toArray u)).heap.size ((w.alloc (.cells xs.toArray t)).alloc (.cells ys.toArray u)) w1) :
    (∀ k v, xs[k]? = some v → w1.cell? ⟨w.heap.size, k, none⟩ = some v) ∧ (∀ k v, ys[k]? = some v → w1.cell? ⟨w.heap.size + 1, k, none⟩ = some v) ∧ Below w.heap.size w w1 := by
  have q0 := (Row.new w t xs).alloc (.cells ys.toArray u)
  have q1 := Row.new (w.alloc (.cells xs.toArray t)) u ys
  have p0 := q0.below h q0.lt
  have p1 := q1.below h q1.lt
  have e1 : (w.alloc (.cells xs.toArray t)).heap.size = w.heap.size + 1 := by simp
  rw [e1] at p1
  exact ⟨fun k v hv => (p0.cell k).trans hv, fun k v hv => (p1.cell k).trans hv, ((ent_new0 w _).alloc (by simp) _).trans (h.mono (by simp; omega))⟩
set_option maxRecDepth 100000 in
theorem eqLeak_same (e : Lk) (w : World) : Calls Tryz.prog 61 #[lkV e, lkV e] w fun r w' => r = .returned (.bool true) ∧ Below w.heap.size w w' := by
  obtain ⟨fr, tt, a, l, ad, tg⟩ := e
  unfold lkV lkA
  have HN : Hid (∀ w, Calls Tryz.prog 110 #[.agg #[.int .i64 a, .int .i64 l], .agg #[.int .i64 a, .int .i64 l]] w fun e w' => e = .returned (.bool true) ∧ Below w.heap.size w w') := eqNet_same a l
  have e0 : (fr != fr) = false := by simp
  have e1 : (tt != tt) = false := by simp
  have e2 : (ad != ad) = false := by simp
  have e3 : (tg != tg) = false := by simp
  go_enter Tryz.func61, Tryz.ntmps61
  go_wp2_with fail
  refine (HN.out _).mono ?_
  rintro e w1 ⟨rfl, hb1⟩
  obtain ⟨k0, k1, hB⟩ := boxes6L (xs := [.int .i64 fr, .int .i64 tt, .int .i64 a, .int .i64 l, .int .i64 ad, .int .i64 tg]) (ys := [.int .i64 fr, .int .i64 tt, .int .i64 a, .int .i64 l, .int .i64 ad, .int .i64 tg]) hb1
  have c4 := k0 4 _ rfl
  have d4 := k1 4 _ rfl
  have c5 := k0 5 _ rfl
  have d5 := k1 5 _ rfl
  clear k0 k1 hb1 HN
  go_wp2
  go_ret
  exact ⟨rfl, hB⟩
set_option maxRecDepth 100000 in
theorem eqLeakS_any (p q : Option Addr) (c0 d0 : Nat) (es : List Lk) (w : World) (hp : LksIn w p es) (hq : LksIn w q es) (hn : es.length ≤ 100000000) : Calls Tryz.prog 30 #[.slice p es.length c0, .slice q es.length d0] w fun r w' => r = .returned (.bool true) ∧ Below w.heap.size w w' := by
  have HE : Hid (∀ e w, Calls Tryz.prog 61 #[lkV e, lkV e] w fun r w' => r = .returned (.bool true) ∧ Below w.heap.size w w') := eqLeak_same
  have HX : Hid (LksIn w p es ∧ LksIn w q es) := ⟨hp, hq⟩
  have h0 : ((es.length : Int) != (es.length : Int)) = false := by simp
  clear hp hq
  go_enter Tryz.func30, Tryz.ntmps30
  go_wp2_with fail
  go_loopw [5] (fun i wr => ∃ k : Nat, k ≤ es.length ∧ i = .int .i64 k ∧ Below w.heap.size w wr) (fun i _ => es.length - (intOf i).toNat)
  case atStart => exact ⟨0, Nat.zero_le _, rfl, Below.refl _ _⟩
  case round =>
    obtain ⟨k, hk, rfl, hb⟩ := hrel
    by_cases hlt : k < es.length
    · obtain ⟨g, fr, tt, a, l, ad, tg, rfl, hg, hek, x0, x1, x2, x3, x4, x5⟩ := (HX.out.1.below hb).at k hlt
      obtain ⟨g', fr', tt', a', l', ad', tg', rfl, hg', hek', y0, y1, y2, y3, y4, y5⟩ := (HX.out.2.below hb).at k hlt
      rw [hek] at hek'
      simp only [Lk.mk.injEq] at hek'
      obtain ⟨rfl, rfl, rfl, rfl, rfl, rfl⟩ := hek'
      have HEk : Hid (∀ w, Calls Tryz.prog 61 #[.agg #[.int .i64 fr, .int .i64 tt, .int .i64 a, .int .i64 l, .int .i64 ad, .int .i64 tg], .agg #[.int .i64 fr, .int .i64 tt, .int .i64 a, .int .i64 l, .int .i64 ad, .int .i64 tg]] w fun r w' => r = .returned (.bool true) ∧ Below w.heap.size w w') := HE.out ⟨fr, tt, a, l, ad, tg⟩
      clear HE hek HX
      replace x0 := cell_regrown x0
      replace y0 := cell_regrown y0
      replace x1 := cell_regrown x1
      replace y1 := cell_regrown y1
      replace x2 := cell_regrown x2
      replace y2 := cell_regrown y2
      replace x3 := cell_regrown x3
      replace y3 := cell_regrown y3
      replace x4 := cell_regrown x4
      replace y4 := cell_regrown y4
      replace x5 := cell_regrown x5
      replace y5 := cell_regrown y5
      go_wp2_with fail
      refine wp_region_quiet_below (by kernel_rfl) (by kernel_rfl) ?_
      repeat (go_big_quiet_step ((go_at_call 61; exact Calls.regrown_of (HEk.out _))))
      refine wpQuiet_nil ?_
      intro w1 hw'
      obtain ⟨⟨dq, osq⟩, hw''⟩ := hw'
      have hbq := below_regrown wr dq osq
      rw [← hw''] at hbq
      clear hw'' osq dq x0 x1 x2 x3 x4 x5 y0 y1 y2 y3 y4 y5 HEk
      have hb2 := hb.trans (hbq.mono hb.size)
      clear hbq
      go_wp2
      go_roundw
      case rel => exact ⟨k + 1, hlt, by go_num, hb2⟩
      case measure => simp [intOf]; omega
    · obtain rfl : k = es.length := by omega
      clear hlt hk
      go_wp2
      go_ret
      exact ⟨rfl, hb⟩
end Go.Proofs.YtialedffpaoacaaGreatDoor
/- A Box: its value; measured, handed over, alike. (Written by gen_boxa.py.) -/
namespace Go.Proofs.YtialedffpaoacaaGreatDoor
open Go.RowKit Go.Sort

theorem box4 {w w1 : World} {x0 x1 x2 x3 : Value} {t : TypeId} (h : Below (w.alloc (.cells #[x0, x1, x2, x3] t)).heap.size (w.alloc (.cells #[x0, x1, x2, x3] t)) w1) :
    Row w1 w.heap.size t [x0, x1, x2, x3] ∧ Below w.heap.size w w1 := by
  have q := Row.new w t [x0, x1, x2, x3]
  exact ⟨q.below h q.lt, (ent_new0 w _).trans (h.mono (by simp))⟩
set_option maxRecDepth 100000 in
set_option maxHeartbeats 4000000 in
theorem szLeakSL_any (x : Option Addr) (len cap : Nat) (L : Int) (w : World) (hl : len ≤ maxLen) (h0 : 0 ≤ L) (h1 : L ≤ 1048576) : Calls Tryz.prog 16 #[.slice x len cap, .int .i64 L] w fun e w' => e = .returned (.int .i64 (if (len : Int) ≤ L then L - (len : Int) else -1)) ∧ w = w' := by
  unfold maxLen at hl
  have z : IntKind.i64.wrap (L - (len : Int)) = L - (len : Int) := wrap_i64_in _ (by omega) (by omega)
  by_cases h : (len : Int) ≤ L
  · rw [if_pos h]
    have d : decide (L - (len : Int) < 0) = false := by simp; omega
    go_enter Tryz.func16, Tryz.ntmps16
    go_wp2
    go_ret
    exact ⟨rfl, rfl⟩
  · rw [if_neg h]
    have d : decide (L - (len : Int) < 0) = true := by simp; omega
    go_enter Tryz.func16, Tryz.ntmps16
    go_wp2
    go_ret
    exact ⟨rfl, rfl⟩
set_option maxRecDepth 100000 in
set_option maxHeartbeats 4000000 in
theorem szBox_any (p : Option Addr) (c1 : Nat) (q : Option Addr) (c2 : Nat) (r : Option Addr) (c3 : Nat) (ps : List TnP) (l : List Bd) (ls : List Lk) (lost : Int) (L : Int) (w : World) (h : ArgTs w p ps.length ps ∧ ArgBd w q l.length l ∧ ArgL w r ls.length ls) (h0 : 0 ≤ L) (hL : L ≤ 1048576) :
    Calls Tryz.prog 5 #[.agg #[.slice p ps.length c1, .slice q l.length c2, .slice r ls.length c3, .int .i64 lost], .int .i64 L] w fun e w' => (∃ v : Int, e = .returned (.int .i64 v) ∧ v ≤ L ∧ (v < 0 ∨ 0 ≤ v ∧ ps.length ≤ 1048576 ∧ l.length ≤ 1048576 ∧ ls.length ≤ 1048576 ∧ ∀ e ∈ ps, TnS e.2)) ∧ Below w.heap.size w w' := by
  have HA : Hid (∀ w1, Below w.heap.size w w1 → Calls Tryz.prog 14 #[.slice p ps.length c1, .int .i64 L] w1 fun e w' => (∃ v : Int, e = .returned (.int .i64 v) ∧ v ≤ L ∧ (v < 0 ∨ 0 ≤ v ∧ ps.length ≤ 1048576 ∧ ∀ e ∈ ps, TnS e.2)) ∧ Below w1.heap.size w1 w') := fun w1 hb => szTenantS_any p c1 ps L w1 (h.1.below hb) h0 hL
  have HC : Hid (∀ L : Int, 0 ≤ L → L ≤ 1048576 → ∀ w, Calls Tryz.prog 15 #[.slice q l.length c2, .int .i64 L] w fun e w' => e = .returned (.int .i64 (if (l.length : Int) ≤ L then L - (l.length : Int) else -1)) ∧ w = w') := fun L a b w => szBindS_any q l.length c2 L w h.2.1.2.1 a b
  have HD : Hid (∀ L : Int, 0 ≤ L → L ≤ 1048576 → ∀ w, Calls Tryz.prog 16 #[.slice r ls.length c3, .int .i64 L] w fun e w' => e = .returned (.int .i64 (if (ls.length : Int) ≤ L then L - (ls.length : Int) else -1)) ∧ w = w') := fun L a b w => szLeakSL_any r ls.length c3 L w h.2.2.2.1 a b
  clear h
  generalize ps.length = n1 at *
  generalize l.length = n2 at *
  generalize ls.length = n3 at *
  go_enter Tryz.func5, Tryz.ntmps5
  go_wp2_with fail
  refine (HA.out _ (ent_new0 w _)).mono ?_
  rintro e w1 ⟨⟨v1, rfl, hv1, hc1⟩, hb1⟩
  obtain ⟨r0, hB⟩ := box4 hb1
  clear hb1 HA
  rcases hc1 with hc1 | ⟨g1, m1, m2⟩
  · have d1 : decide (v1 < 0) = true := by simpa using hc1
    clear hc1
    go_wp2
    go_ret
    exact ⟨⟨_, rfl, by omega, .inl (by omega)⟩, hB⟩
  have d1 : decide (v1 < 0) = false := by simp; omega
  have y1 : w1.cell? ⟨w.heap.size, 1, none⟩ = some (.slice q n2 c2) := r0.cell 1
  go_wp2_with fail
  refine (HC.out v1 (by omega) (by omega) _).mono ?_
  rintro e w2 ⟨rfl, rfl⟩
  clear y1
  by_cases k2 : (n2 : Int) ≤ v1
  case neg =>
    rw [if_neg k2]
    go_wp2
    go_ret
    exact ⟨⟨_, rfl, by omega, .inl (by omega)⟩, hB⟩
  rw [if_pos k2]
  have d2 : decide (v1 - (n2 : Int) < 0) = false := by simp; omega
  have y2 : w1.cell? ⟨w.heap.size, 2, none⟩ = some (.slice r n3 c3) := r0.cell 2
  go_wp2_with fail
  refine (HD.out (v1 - (n2 : Int)) (by omega) (by omega) _).mono ?_
  rintro e w2 ⟨rfl, rfl⟩
  clear y2
  by_cases k3 : (n3 : Int) ≤ v1 - (n2 : Int)
  case neg =>
    rw [if_neg k3]
    go_wp2
    go_ret
    exact ⟨⟨_, rfl, by omega, .inl (by omega)⟩, hB⟩
  rw [if_pos k3]
  have d3 : decide (v1 - (n2 : Int) - (n3 : Int) < 0) = false := by simp; omega
  go_wp2
  go_ret
  exact ⟨⟨_, rfl, by omega, .inr ⟨by omega, m1, by omega, by omega, m2⟩⟩, hB⟩
set_option maxRecDepth 100000 in
set_option maxHeartbeats 4000000 in
theorem toBox_any (p : Option Addr) (c1 : Nat) (q : Option Addr) (c2 : Nat) (r : Option Addr) (c3 : Nat) (ps : List TnP) (l : List Bd) (ls : List Lk) (lost : Int) (w : World) (h : ArgTs w p ps.length ps ∧ ArgBd w q l.length l ∧ ArgL w r ls.length ls) (hn : ps.length ≤ 1048576 ∧ l.length ≤ 1048576 ∧ ls.length ≤ 1048576 ∧ ∀ e ∈ ps, TnS e.2) :
    Calls Tryz.prog 7 #[.agg #[.slice p ps.length c1, .slice q l.length c2, .slice r ls.length c3, .int .i64 lost]] w fun e w' => ∃ (g : Nat) (qs : List TnP) (h u : Nat), e = .returned (.agg #[.slice (some ⟨g, 0, none⟩) ps.length ps.length, .slice (some ⟨h, 0, none⟩) l.length l.length, .slice (some ⟨u, 0, none⟩) ls.length ls.length, .int .i64 lost]) ∧ w.heap.size ≤ g ∧ w.heap.size ≤ h ∧ w.heap.size ≤ u ∧ qs.map (·.2) = ps.map (·.2) ∧ Row w' g 55 (rowT qs) ∧ (∀ e ∈ qs, PlT w' (g + 1) e.1 e.2) ∧ Row w' h 77 (rowBd l) ∧ Row w' u 113 (rowL ls) ∧ Below w.heap.size w w' := by
  have HI : Hid (∀ w, ArgTs w p ps.length ps → Calls Tryz.prog 21 #[.slice p ps.length c1] w fun e w' => ∃ (g : Nat) (qs : List TnP), e = .returned (.slice (some ⟨g, 0, none⟩) ps.length ps.length) ∧ w.heap.size ≤ g ∧ qs.map (·.2) = ps.map (·.2) ∧ Row w' g 55 (rowT qs) ∧ (∀ e ∈ qs, PlT w' (g + 1) e.1 e.2) ∧ Below w.heap.size w w') := fun w h => toTenantS_any p c1 ps w h hn.1 hn.2.2.2
  have HS : Hid (∀ w, ArgBd w q l.length l → Calls Tryz.prog 22 #[.slice q l.length c2] w fun e w' => ∃ g, e = .returned (.slice (some ⟨g, 0, none⟩) l.length l.length) ∧ w.heap.size ≤ g ∧ Row w' g 77 (rowBd l) ∧ Below w.heap.size w w') := fun w h => toBindS_any q c2 l w h hn.2.1
  have HE0 : Hid (∀ w, ArgL w r ls.length ls → Calls Tryz.prog 23 #[.slice r ls.length c3] w fun e w' => ∃ g, e = .returned (.slice (some ⟨g, 0, none⟩) ls.length ls.length) ∧ w.heap.size ≤ g ∧ Row w' g 113 (rowL ls) ∧ Below w.heap.size w w') := fun w h => toLeakS_any r c3 ls w h hn.2.2.1
  have HX : Hid (ArgTs w p ps.length ps ∧ ArgBd w q l.length l ∧ ArgL w r ls.length ls) := h
  clear h hn
  generalize ps.length = n1 at *
  generalize l.length = n2 at *
  generalize ls.length = n3 at *
  obtain ⟨W, hW, q0, q1, q2, hB, hS⟩ := three_new w [.slice p n1 c1, .slice q n2 c2, .slice r n3 c3, .int .i64 lost] [.slice none 0 0, .slice none 0 0, .slice none 0 0, .int .i64 0] [.slice none 0 0, .slice none 0 0, .slice none 0 0, .int .i64 0] 26 33 33
  have HW : Hid _ := hW
  have HQ : Hid _ := And.intro q0 (And.intro q1 (And.intro q2 (And.intro hB hS)))
  clear hW q0 q1 q2 hB hS
  go_enter Tryz.func7, Tryz.ntmps7
  go_wp2_with fail
  rw [← HW.out]
  obtain ⟨q0, q1, q2, hB, hS⟩ := HQ.out
  refine (HI.out _ (HX.out.1.below hB)).mono ?_
  rintro e w1 ⟨g, qs, rfl, hg, hqm, rg, hp, hb1⟩
  have q0 := q0.below hb1 q0.lt
  have q1 := q1.below hb1 q1.lt
  have q2 := q2.below hb1 q2.lt
  have hB := hB.trans (hb1.mono hB.size)
  have hs := hb1.size
  clear hb1
  clear HI HW HQ
  have x1 : w1.cell? ⟨w.heap.size, 1, none⟩ = some (.slice q n2 c2) := q0.cell 1
  have a0 : w1.cell? ⟨(w.heap.size + 1 + 1), 0, none⟩ = some (.slice none 0 0) := q2.cell 0
  have f0 : w1.frozen? ⟨(w.heap.size + 1 + 1), 0, none⟩ = false := q2.frozen 0
  have ng : g ≠ (w.heap.size + 1 + 1) := by omega
  have HE : Hid (Row (w1.setCell ⟨(w.heap.size + 1 + 1), 0, none⟩ (.slice (some ⟨g, 0, none⟩) n1 n1)) w.heap.size 26 [.slice p n1 c1, .slice q n2 c2, .slice r n3 c3, .int .i64 lost] ∧ Row (w1.setCell ⟨(w.heap.size + 1 + 1), 0, none⟩ (.slice (some ⟨g, 0, none⟩) n1 n1)) (w.heap.size + 1) 33 [.slice none 0 0, .slice none 0 0, .slice none 0 0, .int .i64 0] ∧ Row (w1.setCell ⟨(w.heap.size + 1 + 1), 0, none⟩ (.slice (some ⟨g, 0, none⟩) n1 n1)) (w.heap.size + 1 + 1) 33 [.slice (some ⟨g, 0, none⟩) n1 n1, .slice none 0 0, .slice none 0 0, .int .i64 0] ∧ Row (w1.setCell ⟨(w.heap.size + 1 + 1), 0, none⟩ (.slice (some ⟨g, 0, none⟩) n1 n1)) g 55 (rowT qs) ∧ (∀ e ∈ qs, PlT (w1.setCell ⟨(w.heap.size + 1 + 1), 0, none⟩ (.slice (some ⟨g, 0, none⟩) n1 n1)) (g + 1) e.1 e.2) ∧ Below w.heap.size w (w1.setCell ⟨(w.heap.size + 1 + 1), 0, none⟩ (.slice (some ⟨g, 0, none⟩) n1 n1)) ∧ (w1.setCell ⟨(w.heap.size + 1 + 1), 0, none⟩ (.slice (some ⟨g, 0, none⟩) n1 n1)).heap.size = w1.heap.size) := ⟨(q0).other 0 (.slice (some ⟨g, 0, none⟩) n1 n1) (by omega), (q1).other 0 (.slice (some ⟨g, 0, none⟩) n1 n1) (by omega), (q2).set 0 (.slice (some ⟨g, 0, none⟩) n1 n1), (rg).other 0 (.slice (some ⟨g, 0, none⟩) n1 n1) ng, fun e he => (hp e he).kept (w' := _) (b := (w.heap.size + 1 + 1)) (by omega) (fun b_ t_ l_ hne hr => hr.other 0 (.slice (some ⟨g, 0, none⟩) n1 n1) hne), (hB.setCell (p := ⟨(w.heap.size + 1 + 1), 0, none⟩) (by show w.heap.size ≤ (w.heap.size + 1 + 1); omega) (.slice (some ⟨g, 0, none⟩) n1 n1)), by simp⟩
  clear q0 q1 q2 hB hp rg
  go_wp2_with fail
  generalize (w1.setCell ⟨(w.heap.size + 1 + 1), 0, none⟩ (.slice (some ⟨g, 0, none⟩) n1 n1)) = W1 at *
  obtain ⟨q0, q1, q2, rg, hp, hB, hS⟩ := HE.out
  clear HE a0 f0 ng
  refine (HS.out _ (HX.out.2.1.below hB)).mono ?_
  rintro e w2 ⟨h, rfl, hh, rh, hb2⟩
  have q0 := q0.below hb2 q0.lt
  have q1 := q1.below hb2 q1.lt
  have q2 := q2.below hb2 q2.lt
  have rg := rg.below hb2 rg.lt
  have hp := fun e he => (hp e he).below hb2
  have hB := hB.trans (hb2.mono hB.size)
  have hs := hb2.size
  clear hb2
  clear HS x1
  have x2 : w2.cell? ⟨w.heap.size, 2, none⟩ = some (.slice r n3 c3) := q0.cell 2
  have a1 : w2.cell? ⟨(w.heap.size + 1 + 1), 1, none⟩ = some (.slice none 0 0) := q2.cell 1
  have f1 : w2.frozen? ⟨(w.heap.size + 1 + 1), 1, none⟩ = false := q2.frozen 1
  have ng : g ≠ (w.heap.size + 1 + 1) := by omega
  have nh : h ≠ (w.heap.size + 1 + 1) := by omega
  have HE : Hid (Row (w2.setCell ⟨(w.heap.size + 1 + 1), 1, none⟩ (.slice (some ⟨h, 0, none⟩) n2 n2)) w.heap.size 26 [.slice p n1 c1, .slice q n2 c2, .slice r n3 c3, .int .i64 lost] ∧ Row (w2.setCell ⟨(w.heap.size + 1 + 1), 1, none⟩ (.slice (some ⟨h, 0, none⟩) n2 n2)) (w.heap.size + 1) 33 [.slice none 0 0, .slice none 0 0, .slice none 0 0, .int .i64 0] ∧ Row (w2.setCell ⟨(w.heap.size + 1 + 1), 1, none⟩ (.slice (some ⟨h, 0, none⟩) n2 n2)) (w.heap.size + 1 + 1) 33 [.slice (some ⟨g, 0, none⟩) n1 n1, .slice (some ⟨h, 0, none⟩) n2 n2, .slice none 0 0, .int .i64 0] ∧ Row (w2.setCell ⟨(w.heap.size + 1 + 1), 1, none⟩ (.slice (some ⟨h, 0, none⟩) n2 n2)) g 55 (rowT qs) ∧ Row (w2.setCell ⟨(w.heap.size + 1 + 1), 1, none⟩ (.slice (some ⟨h, 0, none⟩) n2 n2)) h 77 (rowBd l) ∧ (∀ e ∈ qs, PlT (w2.setCell ⟨(w.heap.size + 1 + 1), 1, none⟩ (.slice (some ⟨h, 0, none⟩) n2 n2)) (g + 1) e.1 e.2) ∧ Below w.heap.size w (w2.setCell ⟨(w.heap.size + 1 + 1), 1, none⟩ (.slice (some ⟨h, 0, none⟩) n2 n2)) ∧ (w2.setCell ⟨(w.heap.size + 1 + 1), 1, none⟩ (.slice (some ⟨h, 0, none⟩) n2 n2)).heap.size = w2.heap.size) := ⟨(q0).other 1 (.slice (some ⟨h, 0, none⟩) n2 n2) (by omega), (q1).other 1 (.slice (some ⟨h, 0, none⟩) n2 n2) (by omega), (q2).set 1 (.slice (some ⟨h, 0, none⟩) n2 n2), (rg).other 1 (.slice (some ⟨h, 0, none⟩) n2 n2) ng, (rh).other 1 (.slice (some ⟨h, 0, none⟩) n2 n2) nh, fun e he => (hp e he).kept (w' := _) (b := (w.heap.size + 1 + 1)) (by omega) (fun b_ t_ l_ hne hr => hr.other 1 (.slice (some ⟨h, 0, none⟩) n2 n2) hne), (hB.setCell (p := ⟨(w.heap.size + 1 + 1), 1, none⟩) (by show w.heap.size ≤ (w.heap.size + 1 + 1); omega) (.slice (some ⟨h, 0, none⟩) n2 n2)), by simp⟩
  clear q0 q1 q2 hB hp rg rh
  go_wp2_with fail
  generalize (w2.setCell ⟨(w.heap.size + 1 + 1), 1, none⟩ (.slice (some ⟨h, 0, none⟩) n2 n2)) = W2 at *
  obtain ⟨q0, q1, q2, rg, rh, hp, hB, hS⟩ := HE.out
  clear HE a1 f1 ng nh
  refine (HE0.out _ (HX.out.2.2.below hB)).mono ?_
  rintro e w3 ⟨u, rfl, hu, ru, hb3⟩
  have q0 := q0.below hb3 q0.lt
  have q1 := q1.below hb3 q1.lt
  have q2 := q2.below hb3 q2.lt
  have rg := rg.below hb3 rg.lt
  have rh := rh.below hb3 rh.lt
  have hp := fun e he => (hp e he).below hb3
  have hB := hB.trans (hb3.mono hB.size)
  have hs := hb3.size
  clear hb3
  clear HE0 HX x2
  have x3 : w3.cell? ⟨w.heap.size, 3, none⟩ = some (.int .i64 lost) := q0.cell 3
  have a0 : w3.cell? ⟨(w.heap.size + 1 + 1), 0, none⟩ = some (.slice (some ⟨g, 0, none⟩) n1 n1) := q2.cell 0
  have a1 : w3.cell? ⟨(w.heap.size + 1 + 1), 1, none⟩ = some (.slice (some ⟨h, 0, none⟩) n2 n2) := q2.cell 1
  have a2 : w3.cell? ⟨(w.heap.size + 1 + 1), 2, none⟩ = some (.slice none 0 0) := q2.cell 2
  have a3 : w3.cell? ⟨(w.heap.size + 1 + 1), 3, none⟩ = some (.int .i64 0) := q2.cell 3
  have f2 : w3.frozen? ⟨(w.heap.size + 1 + 1), 2, none⟩ = false := q2.frozen 2
  have f3 : w3.frozen? ⟨(w.heap.size + 1 + 1), 3, none⟩ = false := q2.frozen 3
  have b0 : w3.cell? ⟨(w.heap.size + 1), 0, none⟩ = some (.slice none 0 0) := q1.cell 0
  have b1 : w3.cell? ⟨(w.heap.size + 1), 1, none⟩ = some (.slice none 0 0) := q1.cell 1
  have b2 : w3.cell? ⟨(w.heap.size + 1), 2, none⟩ = some (.slice none 0 0) := q1.cell 2
  have b3 : w3.cell? ⟨(w.heap.size + 1), 3, none⟩ = some (.int .i64 0) := q1.cell 3
  have e0 : w3.frozen? ⟨(w.heap.size + 1), 0, none⟩ = false := q1.frozen 0
  have e1 : w3.frozen? ⟨(w.heap.size + 1), 1, none⟩ = false := q1.frozen 1
  have e2 : w3.frozen? ⟨(w.heap.size + 1), 2, none⟩ = false := q1.frozen 2
  have e3 : w3.frozen? ⟨(w.heap.size + 1), 3, none⟩ = false := q1.frozen 3
  have ng2 : g ≠ (w.heap.size + 1 + 1) := by omega
  have nh2 : h ≠ (w.heap.size + 1 + 1) := by omega
  have nu2 : u ≠ (w.heap.size + 1 + 1) := by omega
  have ng1 : g ≠ (w.heap.size + 1) := by omega
  have nh1 : h ≠ (w.heap.size + 1) := by omega
  have nu1 : u ≠ (w.heap.size + 1) := by omega
  have n12 : (w.heap.size + 1) ≠ (w.heap.size + 1 + 1) := by omega
  have HF : Hid (Row ((((((w3.setCell ⟨(w.heap.size + 1 + 1), 2, none⟩ (.slice (some ⟨u, 0, none⟩) n3 n3)).setCell ⟨(w.heap.size + 1 + 1), 3, none⟩ (.int .i64 lost)).setCell ⟨(w.heap.size + 1), 0, none⟩ (.slice (some ⟨g, 0, none⟩) n1 n1)).setCell ⟨(w.heap.size + 1), 1, none⟩ (.slice (some ⟨h, 0, none⟩) n2 n2)).setCell ⟨(w.heap.size + 1), 2, none⟩ (.slice (some ⟨u, 0, none⟩) n3 n3)).setCell ⟨(w.heap.size + 1), 3, none⟩ (.int .i64 lost)) (w.heap.size + 1) 33 [.slice (some ⟨g, 0, none⟩) n1 n1, .slice (some ⟨h, 0, none⟩) n2 n2, .slice (some ⟨u, 0, none⟩) n3 n3, .int .i64 lost] ∧ Row ((((((w3.setCell ⟨(w.heap.size + 1 + 1), 2, none⟩ (.slice (some ⟨u, 0, none⟩) n3 n3)).setCell ⟨(w.heap.size + 1 + 1), 3, none⟩ (.int .i64 lost)).setCell ⟨(w.heap.size + 1), 0, none⟩ (.slice (some ⟨g, 0, none⟩) n1 n1)).setCell ⟨(w.heap.size + 1), 1, none⟩ (.slice (some ⟨h, 0, none⟩) n2 n2)).setCell ⟨(w.heap.size + 1), 2, none⟩ (.slice (some ⟨u, 0, none⟩) n3 n3)).setCell ⟨(w.heap.size + 1), 3, none⟩ (.int .i64 lost)) g 55 (rowT qs) ∧ Row ((((((w3.setCell ⟨(w.heap.size + 1 + 1), 2, none⟩ (.slice (some ⟨u, 0, none⟩) n3 n3)).setCell ⟨(w.heap.size + 1 + 1), 3, none⟩ (.int .i64 lost)).setCell ⟨(w.heap.size + 1), 0, none⟩ (.slice (some ⟨g, 0, none⟩) n1 n1)).setCell ⟨(w.heap.size + 1), 1, none⟩ (.slice (some ⟨h, 0, none⟩) n2 n2)).setCell ⟨(w.heap.size + 1), 2, none⟩ (.slice (some ⟨u, 0, none⟩) n3 n3)).setCell ⟨(w.heap.size + 1), 3, none⟩ (.int .i64 lost)) h 77 (rowBd l) ∧ Row ((((((w3.setCell ⟨(w.heap.size + 1 + 1), 2, none⟩ (.slice (some ⟨u, 0, none⟩) n3 n3)).setCell ⟨(w.heap.size + 1 + 1), 3, none⟩ (.int .i64 lost)).setCell ⟨(w.heap.size + 1), 0, none⟩ (.slice (some ⟨g, 0, none⟩) n1 n1)).setCell ⟨(w.heap.size + 1), 1, none⟩ (.slice (some ⟨h, 0, none⟩) n2 n2)).setCell ⟨(w.heap.size + 1), 2, none⟩ (.slice (some ⟨u, 0, none⟩) n3 n3)).setCell ⟨(w.heap.size + 1), 3, none⟩ (.int .i64 lost)) u 113 (rowL ls) ∧ (∀ e ∈ qs, PlT ((((((w3.setCell ⟨(w.heap.size + 1 + 1), 2, none⟩ (.slice (some ⟨u, 0, none⟩) n3 n3)).setCell ⟨(w.heap.size + 1 + 1), 3, none⟩ (.int .i64 lost)).setCell ⟨(w.heap.size + 1), 0, none⟩ (.slice (some ⟨g, 0, none⟩) n1 n1)).setCell ⟨(w.heap.size + 1), 1, none⟩ (.slice (some ⟨h, 0, none⟩) n2 n2)).setCell ⟨(w.heap.size + 1), 2, none⟩ (.slice (some ⟨u, 0, none⟩) n3 n3)).setCell ⟨(w.heap.size + 1), 3, none⟩ (.int .i64 lost)) (g + 1) e.1 e.2) ∧ Below w.heap.size w ((((((w3.setCell ⟨(w.heap.size + 1 + 1), 2, none⟩ (.slice (some ⟨u, 0, none⟩) n3 n3)).setCell ⟨(w.heap.size + 1 + 1), 3, none⟩ (.int .i64 lost)).setCell ⟨(w.heap.size + 1), 0, none⟩ (.slice (some ⟨g, 0, none⟩) n1 n1)).setCell ⟨(w.heap.size + 1), 1, none⟩ (.slice (some ⟨h, 0, none⟩) n2 n2)).setCell ⟨(w.heap.size + 1), 2, none⟩ (.slice (some ⟨u, 0, none⟩) n3 n3)).setCell ⟨(w.heap.size + 1), 3, none⟩ (.int .i64 lost))) := ⟨((((((q1).other 2 (.slice (some ⟨u, 0, none⟩) n3 n3) n12).other 3 (.int .i64 lost) n12).set 0 (.slice (some ⟨g, 0, none⟩) n1 n1)).set 1 (.slice (some ⟨h, 0, none⟩) n2 n2)).set 2 (.slice (some ⟨u, 0, none⟩) n3 n3)).set 3 (.int .i64 lost), ((((((rg).other 2 (.slice (some ⟨u, 0, none⟩) n3 n3) ng2).other 3 (.int .i64 lost) ng2).other 0 (.slice (some ⟨g, 0, none⟩) n1 n1) ng1).other 1 (.slice (some ⟨h, 0, none⟩) n2 n2) ng1).other 2 (.slice (some ⟨u, 0, none⟩) n3 n3) ng1).other 3 (.int .i64 lost) ng1, ((((((rh).other 2 (.slice (some ⟨u, 0, none⟩) n3 n3) nh2).other 3 (.int .i64 lost) nh2).other 0 (.slice (some ⟨g, 0, none⟩) n1 n1) nh1).other 1 (.slice (some ⟨h, 0, none⟩) n2 n2) nh1).other 2 (.slice (some ⟨u, 0, none⟩) n3 n3) nh1).other 3 (.int .i64 lost) nh1, ((((((ru).other 2 (.slice (some ⟨u, 0, none⟩) n3 n3) nu2).other 3 (.int .i64 lost) nu2).other 0 (.slice (some ⟨g, 0, none⟩) n1 n1) nu1).other 1 (.slice (some ⟨h, 0, none⟩) n2 n2) nu1).other 2 (.slice (some ⟨u, 0, none⟩) n3 n3) nu1).other 3 (.int .i64 lost) nu1, fun e he => ((((((hp e he).kept (b := (w.heap.size + 1 + 1)) (by omega) (fun b_ t_ l_ hne hr => hr.other 2 (.slice (some ⟨u, 0, none⟩) n3 n3) hne)).kept (b := (w.heap.size + 1 + 1)) (by omega) (fun b_ t_ l_ hne hr => hr.other 3 (.int .i64 lost) hne)).kept (b := (w.heap.size + 1)) (by omega) (fun b_ t_ l_ hne hr => hr.other 0 (.slice (some ⟨g, 0, none⟩) n1 n1) hne)).kept (b := (w.heap.size + 1)) (by omega) (fun b_ t_ l_ hne hr => hr.other 1 (.slice (some ⟨h, 0, none⟩) n2 n2) hne)).kept (b := (w.heap.size + 1)) (by omega) (fun b_ t_ l_ hne hr => hr.other 2 (.slice (some ⟨u, 0, none⟩) n3 n3) hne)).kept (b := (w.heap.size + 1)) (by omega) (fun b_ t_ l_ hne hr => hr.other 3 (.int .i64 lost) hne), ((((((hB.setCell (p := ⟨(w.heap.size + 1 + 1), 2, none⟩) (by show w.heap.size ≤ (w.heap.size + 1 + 1); omega) (.slice (some ⟨u, 0, none⟩) n3 n3)).setCell (p := ⟨(w.heap.size + 1 + 1), 3, none⟩) (by show w.heap.size ≤ (w.heap.size + 1 + 1); omega) (.int .i64 lost)).setCell (p := ⟨(w.heap.size + 1), 0, none⟩) (by show w.heap.size ≤ (w.heap.size + 1); omega) (.slice (some ⟨g, 0, none⟩) n1 n1)).setCell (p := ⟨(w.heap.size + 1), 1, none⟩) (by show w.heap.size ≤ (w.heap.size + 1); omega) (.slice (some ⟨h, 0, none⟩) n2 n2)).setCell (p := ⟨(w.heap.size + 1), 2, none⟩) (by show w.heap.size ≤ (w.heap.size + 1); omega) (.slice (some ⟨u, 0, none⟩) n3 n3)).setCell (p := ⟨(w.heap.size + 1), 3, none⟩) (by show w.heap.size ≤ (w.heap.size + 1); omega) (.int .i64 lost))⟩
  clear q0 q1 q2 rg rh ru hB hp
  go_wp2_with fail
  have hF := HF.out
  clear HF x3 a0 b0 e0 a1 b1 e1 a2 b2 e2 a3 b3 e3 f2 f3
  generalize ((((((w3.setCell ⟨(w.heap.size + 1 + 1), 2, none⟩ (.slice (some ⟨u, 0, none⟩) n3 n3)).setCell ⟨(w.heap.size + 1 + 1), 3, none⟩ (.int .i64 lost)).setCell ⟨(w.heap.size + 1), 0, none⟩ (.slice (some ⟨g, 0, none⟩) n1 n1)).setCell ⟨(w.heap.size + 1), 1, none⟩ (.slice (some ⟨h, 0, none⟩) n2 n2)).setCell ⟨(w.heap.size + 1), 2, none⟩ (.slice (some ⟨u, 0, none⟩) n3 n3)).setCell ⟨(w.heap.size + 1), 3, none⟩ (.int .i64 lost)) = Y at *
  obtain ⟨k1, k2, k3, k4, k5, k6⟩ := hF
  have e0 : Y.cell? ⟨(w.heap.size + 1), 0, none⟩ = some (.slice (some ⟨g, 0, none⟩) n1 n1) := k1.cell 0
  have e1 : Y.cell? ⟨(w.heap.size + 1), 1, none⟩ = some (.slice (some ⟨h, 0, none⟩) n2 n2) := k1.cell 1
  have e2 : Y.cell? ⟨(w.heap.size + 1), 2, none⟩ = some (.slice (some ⟨u, 0, none⟩) n3 n3) := k1.cell 2
  have e3 : Y.cell? ⟨(w.heap.size + 1), 3, none⟩ = some (.int .i64 lost) := k1.cell 3
  exact bodyPost_ret (v := .agg #[.slice (some ⟨g, 0, none⟩) n1 n1, .slice (some ⟨h, 0, none⟩) n2 n2, .slice (some ⟨u, 0, none⟩) n3 n3, .int .i64 lost]) (by simp [results, Tryz.results7, go_sem, e0, e1, e2, e3]) rfl ⟨g, qs, h, u, rfl, by omega, by omega, by omega, hqm, k2, k5, k3, k4, k6⟩
set_option maxRecDepth 100000 in
set_option maxHeartbeats 4000000 in
theorem eqBox_any (p0 : Option Addr) (a1 : Nat) (q0 : Option Addr) (a2 : Nat) (r0 : Option Addr) (a3 : Nat) (p1 : Option Addr) (b1 : Nat) (q1 : Option Addr) (b2 : Nat) (r1 : Option Addr) (b3 : Nat) (ps qs : List TnP) (l : List Bd) (ls : List Lk) (lost : Int) (w : World) (h : (TensIn w p0 ps ∧ BdsIn w q0 l ∧ LksIn w r0 ls) ∧ (TensIn w p1 qs ∧ BdsIn w q1 l ∧ LksIn w r1 ls)) (hpq : ps.map (·.2) = qs.map (·.2)) (hn : ps.length ≤ 1048576 ∧ l.length ≤ 1048576 ∧ ls.length ≤ 1048576 ∧ ∀ e ∈ ps, TnS e.2) :
    Calls Tryz.prog 9 #[.agg #[.slice p0 ps.length a1, .slice q0 l.length a2, .slice r0 ls.length a3, .int .i64 lost], .agg #[.slice p1 ps.length b1, .slice q1 l.length b2, .slice r1 ls.length b3, .int .i64 lost]] w fun e w' => e = .returned (.bool true) ∧ Below w.heap.size w w' := by
  have HI : Hid (∀ w, TensIn w p0 ps → TensIn w p1 qs → Calls Tryz.prog 28 #[.slice p0 ps.length a1, .slice p1 ps.length b1] w fun e w' => e = .returned (.bool true) ∧ Below w.heap.size w w') := fun w a b => eqTenantS_any p0 p1 a1 b1 ps qs w a b hpq (by omega) (fun e he => by have := hn.2.2.2 e he; unfold TnS at this; omega)
  have HS : Hid (∀ w, BdsIn w q0 l → BdsIn w q1 l → Calls Tryz.prog 29 #[.slice q0 l.length a2, .slice q1 l.length b2] w fun e w' => e = .returned (.bool true) ∧ Below w.heap.size w w') := fun w a b => eqBindS_any q0 q1 a2 b2 l w a b (by omega)
  have HE0 : Hid (∀ w, LksIn w r0 ls → LksIn w r1 ls → Calls Tryz.prog 30 #[.slice r0 ls.length a3, .slice r1 ls.length b3] w fun e w' => e = .returned (.bool true) ∧ Below w.heap.size w w') := fun w a b => eqLeakS_any r0 r1 a3 b3 ls w a b (by omega)
  have HX : Hid ((TensIn w p0 ps ∧ BdsIn w q0 l ∧ LksIn w r0 ls) ∧ (TensIn w p1 qs ∧ BdsIn w q1 l ∧ LksIn w r1 ls)) := h
  clear h hn hpq
  generalize ps.length = n1 at *
  generalize l.length = n2 at *
  generalize ls.length = n3 at *
  have k0 := (Row.new w 33 [.slice p0 n1 a1, .slice q0 n2 a2, .slice r0 n3 a3, .int .i64 lost]).alloc (.cells #[.slice p1 n1 b1, .slice q1 n2 b2, .slice r1 n3 b3, .int .i64 lost] 33)
  have k1 := Row.new (w.alloc (.cells #[.slice p0 n1 a1, .slice q0 n2 a2, .slice r0 n3 a3, .int .i64 lost] 33)) 33 [.slice p1 n1 b1, .slice q1 n2 b2, .slice r1 n3 b3, .int .i64 lost]
  rw [show (w.alloc (.cells #[.slice p0 n1 a1, .slice q0 n2 a2, .slice r0 n3 a3, .int .i64 lost] 33)).heap.size = w.heap.size + 1 by simp] at k1
  have hB : Below w.heap.size w ((w.alloc (.cells #[.slice p0 n1 a1, .slice q0 n2 a2, .slice r0 n3 a3, .int .i64 lost] 33)).alloc (.cells #[.slice p1 n1 b1, .slice q1 n2 b2, .slice r1 n3 b3, .int .i64 lost] 33)) := (ent_new0 w _).alloc (by simp) _
  have HQ : Hid _ := And.intro k0 (And.intro k1 hB)
  clear k0 k1 hB
  have dn2 : (lost != lost) = false := by simp
  go_enter Tryz.func9, Tryz.ntmps9
  go_wp2_with fail
  obtain ⟨k0, k1, hB⟩ := HQ.out
  clear HQ
  refine (HI.out _ (HX.out.1.1.below hB) (HX.out.2.1.below hB)).mono ?_
  rintro e w1 ⟨rfl, hb1⟩
  have k0 := k0.below hb1 k0.lt
  have k1 := k1.below hb1 k1.lt
  have hB := hB.trans (hb1.mono hB.size)
  clear hb1
  have s0 : w1.cell? ⟨w.heap.size, 0, none⟩ = some (.slice p0 n1 a1) := k0.cell 0
  have s1 : w1.cell? ⟨w.heap.size, 1, none⟩ = some (.slice q0 n2 a2) := k0.cell 1
  have s2 : w1.cell? ⟨w.heap.size, 2, none⟩ = some (.slice r0 n3 a3) := k0.cell 2
  have s3 : w1.cell? ⟨w.heap.size, 3, none⟩ = some (.int .i64 lost) := k0.cell 3
  have t0 : w1.cell? ⟨w.heap.size + 1, 0, none⟩ = some (.slice p1 n1 b1) := k1.cell 0
  have t1 : w1.cell? ⟨w.heap.size + 1, 1, none⟩ = some (.slice q1 n2 b2) := k1.cell 1
  have t2 : w1.cell? ⟨w.heap.size + 1, 2, none⟩ = some (.slice r1 n3 b3) := k1.cell 2
  have t3 : w1.cell? ⟨w.heap.size + 1, 3, none⟩ = some (.int .i64 lost) := k1.cell 3
  go_wp2_with fail
  clear s0 s1 s2 s3 t0 t1 t2 t3
  refine (HS.out _ (HX.out.1.2.1.below hB) (HX.out.2.2.1.below hB)).mono ?_
  rintro e w2 ⟨rfl, hb2⟩
  have k0 := k0.below hb2 k0.lt
  have k1 := k1.below hb2 k1.lt
  have hB := hB.trans (hb2.mono hB.size)
  clear hb2
  have s0 : w2.cell? ⟨w.heap.size, 0, none⟩ = some (.slice p0 n1 a1) := k0.cell 0
  have s1 : w2.cell? ⟨w.heap.size, 1, none⟩ = some (.slice q0 n2 a2) := k0.cell 1
  have s2 : w2.cell? ⟨w.heap.size, 2, none⟩ = some (.slice r0 n3 a3) := k0.cell 2
  have s3 : w2.cell? ⟨w.heap.size, 3, none⟩ = some (.int .i64 lost) := k0.cell 3
  have t0 : w2.cell? ⟨w.heap.size + 1, 0, none⟩ = some (.slice p1 n1 b1) := k1.cell 0
  have t1 : w2.cell? ⟨w.heap.size + 1, 1, none⟩ = some (.slice q1 n2 b2) := k1.cell 1
  have t2 : w2.cell? ⟨w.heap.size + 1, 2, none⟩ = some (.slice r1 n3 b3) := k1.cell 2
  have t3 : w2.cell? ⟨w.heap.size + 1, 3, none⟩ = some (.int .i64 lost) := k1.cell 3
  go_wp2_with fail
  clear s0 s1 s2 s3 t0 t1 t2 t3
  refine (HE0.out _ (HX.out.1.2.2.below hB) (HX.out.2.2.2.below hB)).mono ?_
  rintro e w3 ⟨rfl, hb3⟩
  have k0 := k0.below hb3 k0.lt
  have k1 := k1.below hb3 k1.lt
  have hB := hB.trans (hb3.mono hB.size)
  clear hb3
  have s0 : w3.cell? ⟨w.heap.size, 0, none⟩ = some (.slice p0 n1 a1) := k0.cell 0
  have s1 : w3.cell? ⟨w.heap.size, 1, none⟩ = some (.slice q0 n2 a2) := k0.cell 1
  have s2 : w3.cell? ⟨w.heap.size, 2, none⟩ = some (.slice r0 n3 a3) := k0.cell 2
  have s3 : w3.cell? ⟨w.heap.size, 3, none⟩ = some (.int .i64 lost) := k0.cell 3
  have t0 : w3.cell? ⟨w.heap.size + 1, 0, none⟩ = some (.slice p1 n1 b1) := k1.cell 0
  have t1 : w3.cell? ⟨w.heap.size + 1, 1, none⟩ = some (.slice q1 n2 b2) := k1.cell 1
  have t2 : w3.cell? ⟨w.heap.size + 1, 2, none⟩ = some (.slice r1 n3 b3) := k1.cell 2
  have t3 : w3.cell? ⟨w.heap.size + 1, 3, none⟩ = some (.int .i64 lost) := k1.cell 3
  go_wp2
  go_ret
  exact ⟨rfl, hB⟩
end Go.Proofs.YtialedffpaoacaaGreatDoor
/- The laws' own Boxes handed in: opened. (Written by gen_boxa.py.) -/
namespace Go.Proofs.YtialedffpaoacaaGreatDoor
open Go.ChangeShapes Go.WideShapes Go.RowKit Go.Sort Go.Deep Go.Joins Go.WideElems Go.Maps

theorem Tryz.cellsBox : Tryz.prog.cellsOf 26 = 4 := by kernel_rfl
theorem Tryz.cellsBoxT : Tryz.prog.cellsOf 22 = 1 := by kernel_rfl
theorem Tryz.cellsBoxB : Tryz.prog.cellsOf 23 = 1 := by kernel_rfl
theorem Tryz.cellsBoxL : Tryz.prog.cellsOf 24 = 1 := by kernel_rfl
theorem Tryz.cellsBoxN : Tryz.prog.cellsOf 2 = 1 := by kernel_rfl
/-- The Box that was handed in: its lists, each opened. -/
def ArgX (w : World) (p : Option Addr) (ps : List TnP) (q : Option Addr) (l : List Bd) (r : Option Addr) (ls : List Lk) : Prop := ArgTs w p ps.length ps ∧ ArgBd w q l.length l ∧ ArgL w r ls.length ls
theorem ArgX.below {w w' : World} {p : Option Addr} {ps : List TnP} {q : Option Addr} {l : List Bd} {r : Option Addr} {ls : List Lk} (h : ArgX w p ps q l r ls) (hb : Below w.heap.size w w') : ArgX w' p ps q l r ls := ⟨h.1.below hb, h.2.1.below hb, h.2.2.below hb⟩
def boxV (p : Option Addr) (c1 : Nat) (q : Option Addr) (c2 : Nat) (r : Option Addr) (c3 : Nat) (ps : List TnP) (l : List Bd) (ls : List Lk) (lost : Int) : Value := .agg #[.slice p ps.length c1, .slice q l.length c2, .slice r ls.length c3, .int .i64 lost]
section
variable {H : Type} {enc : TypeId × Value → H} {w : World} {base : Nat} {spare : Nat → Bool} {held : Bool}
set_option maxRecDepth 100000 in
set_option maxHeartbeats 4000000 in
theorem open_boxV {r_ : Reach} {b0 : Nat} {v : Value} {d : DataW H} {pp : List MemPlace} (hv : Value.okWide Tryz.prog w r_ b0 26 v) (h : DataW.Trod enc Tryz.prog w base spare held 26 v d pp) :
    ∃ p c1 q c2 r c3 ps l ls lost, v = boxV p c1 q c2 r c3 ps l ls lost ∧ ArgX w p ps q l r ls ∧ (Lit.int .i64 lost).wf = true := by
  obtain ⟨cs, rfl, hsz⟩ := okWide_struct Tryz.underlying26 hv
  rw [Tryz.cellsBox] at hsz
  obtain ⟨li⟩ := cs
  obtain ⟨fuel, hf⟩ := h
  obtain ⟨xs, n, _, _, hl, hx, hg⟩ := DataW.trod_struct Tryz.underlying26 hf
  match li, hsz, xs, hx with
  | [c0, c1, c2, c3], _, [y0, y1, y2, y3], _ =>
    have h0 : DataW.trod enc Tryz.prog w base spare held n 22 ((([c0, c1, c2, c3] : List Value).drop 0).take (Tryz.prog.cellsOf 22)) = [y0, y1, y2, y3][0]? := hg 0 _ rfl
    rw [Tryz.cellsBoxT] at h0
    replace h0 : DataW.trod enc Tryz.prog w base spare held n 22 [c0] = some y0 := h0
    have h1 : DataW.trod enc Tryz.prog w base spare held n 23 ((([c0, c1, c2, c3] : List Value).drop 1).take (Tryz.prog.cellsOf 23)) = [y0, y1, y2, y3][1]? := hg 1 _ rfl
    rw [Tryz.cellsBoxB] at h1
    replace h1 : DataW.trod enc Tryz.prog w base spare held n 23 [c1] = some y1 := h1
    have h2 : DataW.trod enc Tryz.prog w base spare held n 24 ((([c0, c1, c2, c3] : List Value).drop 2).take (Tryz.prog.cellsOf 24)) = [y0, y1, y2, y3][2]? := hg 2 _ rfl
    rw [Tryz.cellsBoxL] at h2
    replace h2 : DataW.trod enc Tryz.prog w base spare held n 24 [c2] = some y2 := h2
    have h3 : DataW.trod enc Tryz.prog w base spare held n 2 ((([c0, c1, c2, c3] : List Value).drop 3).take (Tryz.prog.cellsOf 2)) = [y0, y1, y2, y3][3]? := hg 3 _ rfl
    rw [Tryz.cellsBoxN] at h3
    replace h3 : DataW.trod enc Tryz.prog w base spare held n 2 [c3] = some y3 := h3
    obtain ⟨p, n1, k1, ps, rfl, hT⟩ := open_tns h0
    obtain ⟨q, n2, k2, l, rfl, hB⟩ := open_bds h1
    obtain ⟨r, n3, k3, ls, rfl, hL⟩ := open_lks h2
    obtain ⟨lost, el, _, wl⟩ := DataW.trod_int Tryz.underlying2 h3
    simp only [List.cons.injEq, and_true] at el
    subst el
    obtain rfl : ps.length = n1 := hT.1
    obtain rfl : l.length = n2 := hB.1
    obtain rfl : ls.length = n3 := hL.1
    exact ⟨p, k1, q, k2, r, k3, ps, l, ls, lost, rfl, ⟨hT, hB, hL⟩, wl⟩
end
end Go.Proofs.YtialedffpaoacaaGreatDoor
/- What every walk over a Box needs. (Written by gen_boxa.py.) -/
namespace Go.Proofs.YtialedffpaoacaaGreatDoor
open Go.RowKit Go.Sort

theorem tensIn_row {w : World} {g : Nat} {t : TypeId} {ps : List TnP} (h : Row w g t (rowT ps)) (hp : ∀ e ∈ ps, InT w e.1 e.2) : TensIn w (some ⟨g, 0, none⟩) ps := ⟨.inr ⟨g, rfl, h.lt, fun j _ hj => (h.cell j).trans hj⟩, hp⟩
theorem same_snd {ps qs : List TnP} (h : qs.map (·.2) = ps.map (·.2)) {P : Tn → Prop} (hp : ∀ e ∈ ps, P e.2) : ∀ e ∈ qs, P e.2 := fun e he => by
  have : e.2 ∈ ps.map (·.2) := by rw [← h]; exact List.mem_map_of_mem he
  obtain ⟨e', he', h2⟩ := List.mem_map.1 this
  rw [← h2]
  exact hp e' he'
theorem TnS.m {t : Tn} (h : TnS t) : TnM t := by
  unfold TnS at h
  unfold TnM maxLen
  exact ⟨by omega, by omega, fun s hs => by have := h.2.2.2.2.2 s hs; omega⟩
theorem PlT.c {w : World} {b : Nat} {a : Tp} {t : Tn} (h : PlT w b a t) : TpC a t := by
  obtain ⟨g, h, u, z, rfl, _⟩ := h
  exact Nat.le_refl _
theorem len_snd {ps qs : List TnP} (h : qs.map (·.2) = ps.map (·.2)) : qs.length = ps.length := by simpa using congrArg List.length h
/-- The value is a Box that was handed over. -/
def HandedX (ps : List TnP) (l : List Bd) (ls : List Lk) (n1 n2 n3 : Nat) (lost : Int) (v : Value) (W : World) : Prop := ∃ (g : Nat) (qs : List TnP) (h u : Nat), v = .agg #[.slice (some ⟨g, 0, none⟩) n1 n1, .slice (some ⟨h, 0, none⟩) n2 n2, .slice (some ⟨u, 0, none⟩) n3 n3, .int .i64 lost] ∧ qs.map (·.2) = ps.map (·.2) ∧ Row W g 55 (rowT qs) ∧ (∀ e ∈ qs, PlT W (g + 1) e.1 e.2) ∧ Row W h 77 (rowBd l) ∧ Row W u 113 (rowL ls)
theorem stab_box (ps : List TnP) (l : List Bd) (ls : List Lk) (n1 n2 n3 : Nat) (lost : Int) : ∀ (v : Value) (w1 w2 : World), HandedX ps l ls n1 n2 n3 lost v w1 → Below w1.heap.size w1 w2 → HandedX ps l ls n1 n2 n3 lost v w2 := by
  rintro v w1 w2 ⟨g, qs, h, u, e, em, a, b, c, d⟩ hb
  exact ⟨g, qs, h, u, e, em, a.below hb a.lt, fun x hx => (b x hx).below hb, c.below hb c.lt, d.below hb d.lt⟩
end Go.Proofs.YtialedffpaoacaaGreatDoor
