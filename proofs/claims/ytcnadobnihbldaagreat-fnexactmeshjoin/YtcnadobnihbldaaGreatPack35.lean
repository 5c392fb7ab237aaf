/- Texts that stand on each other, in one file: WorkI, StepI. -/
import Derived.Test.YtcnadobnihbldaaGreatPack34
import Derived.Test.YtcnadobnihbldaaGreatPack33
import Derived.Test.YtcnadobnihbldaaGreatPack30
/- A router at work: its table is asked. (Written by gen_insti.py.) -/
namespace Go.Proofs.YtcnadobnihbldaaGreat
open Go.RowKit Go.Sort

theorem tickW_any (base : Nat) (is : List If) (rs : List Rt) (now : Int) (g : Nat) (nw : Int) (w : World) (h : AtW base is rs now g w) (hn : rs.length ≤ 100000000) :
    Calls Tryz.prog 151 #[.pointer (some ⟨g, 0, none⟩), .int .i64 nw] w fun e w' => e = .returned (.int .i64 (tickO rs nw).1) ∧ AtW base is (if (tickO rs nw).1 = 0 then (tickO rs nw).2 else rs) now g w' ∧ Below base w w' := by
  obtain ⟨q1, k1, q2, k2, hg, hr, oi, orr⟩ := h
  exact (tickAt_any g 0 _ _ q2 k2 rs nw w hr rfl (ownsR_in rfl orr) hn).mono fun e w' ⟨he, ht⟩ => ⟨he, atW_took hg hr oi orr ht⟩
theorem loseW_any (base : Nat) (is : List If) (rs : List Rt) (now : Int) (g : Nat) (i nw : Int) (hrib : ribB rs = true) (hnow : inNow nw = true) (w : World) (h : AtW base is rs now g w) (hn : rs.length ≤ 100000000) :
    Calls Tryz.prog 157 #[.pointer (some ⟨g, 0, none⟩), .int .i64 i, .int .i64 nw] w fun e w' => e = .returned (.int .i64 (loseO rs i nw).1) ∧ AtW base is (if (loseO rs i nw).1 = 0 then (loseO rs i nw).2 else rs) now g w' ∧ Below base w w' := by
  obtain ⟨q1, k1, q2, k2, hg, hr, oi, orr⟩ := h
  exact (loseAt_any g 0 _ _ q2 k2 rs i nw hrib hnow w hr rfl (ownsR_in rfl orr) hn).mono fun e w' ⟨he, ht⟩ => ⟨he, atW_took hg hr oi orr ht⟩
end Go.Proofs.YtcnadobnihbldaaGreat
/- Step of the program. (Written by gen_insti.py.) -/
namespace Go.Proofs.YtcnadobnihbldaaGreat
open Go.RowKit Go.Sort

/-- What Step answers. -/
def stepO (is : List If) (rs : List Rt) (now : Int) : Int × (List If × (List Rt × Int)) := if instB is rs now = true then (if now = 999800 then (9, [], [], 0) else (0, is, rs.filterMap (tickF (now + 1)), now + 1)) else (1, [], [], 0)
theorem instB_bd {is : List If} {rs : List Rt} {now : Int} (h : instB is rs now = true) : ribB rs = true ∧ 0 ≤ now ∧ now ≤ 999800 := by
  simp only [instB, Bool.and_eq_true, decide_eq_true_eq] at h
  exact ⟨h.2.1, h.2.2⟩
theorem inNow_of {now : Int} (h0 : 0 ≤ now) (h1 : now ≤ 999900) : inNow now = true := by
  simp only [inNow, Bool.and_eq_true, decide_eq_true_eq]
  exact ⟨h0, h1⟩
set_option maxRecDepth 100000 in
set_option maxHeartbeats 2000000 in
theorem implStep_any (x : Option Addr) (c1 : Nat) (y : Option Addr) (c2 : Nat) (is : List If) (rs : List Rt) (now : Int) (w : World) (h1 : IfsIn w x is) (hc : is.length ≤ c1) (hc1 : x = none → c1 = 0) (h2 : RtsIn w y rs) (hc2 : y = none → c2 = 0) (hn1 : is.length ≤ 100000000) (hn2 : rs.length ≤ 100000000) :
    Calls Tryz.prog 120 #[instV x is.length c1 y rs.length c2 now] w fun e w' => OutI w.heap.size (stepO is rs now) e w' ∧ Below w.heap.size w w' := by
  have HR : Hid (∀ w, IfsIn w x is → RtsIn w y rs → Calls Tryz.prog 115 #[instV x is.length c1 y rs.length c2 now] w fun e w' => e = .returned (.bool (instB is rs now)) ∧ Below w.heap.size w w') := fun w p q => implInst_any x c1 y c2 is rs now w p hc q hn1 hn2
  have HA : Hid (∀ w, IfsIn w x is → RtsIn w y rs → Calls Tryz.prog 60 #[instV x is.length c1 y rs.length c2 now] w fun e w' => ∃ g, e = .returned (.pointer (some ⟨g, 0, none⟩)) ∧ AtW w.heap.size is rs now g w' ∧ Below w.heap.size w w') := fun w p q => atWork_any x c1 y c2 is rs now w p hc1 q hc2 hn1 hn2
  have HX : Hid (IfsIn w x is ∧ RtsIn w y rs) := ⟨h1, h2⟩
  have HTk : Hid (∀ base g w, instB is rs now = true → AtW base is rs (now + 1) g w → Calls Tryz.prog 151 #[.pointer (some ⟨g, 0, none⟩), .int .i64 (now + 1)] w fun e w' => e = .returned (.int .i64 0) ∧ AtW base is (rs.filterMap (tickF (now + 1))) (now + 1) g w' ∧ Below base w w') := fun base g w hI h => by
    obtain ⟨b1, b2, b3⟩ := instB_bd hI
    have := tickW_any base is rs (now + 1) g (now + 1) w h hn2
    unfold tickO at this
    rw [b1, inNow_of (by omega) (by omega)] at this
    exact this
  have HT : Hid (∀ base g w, AtW base is (rs.filterMap (tickF (now + 1))) (now + 1) g w → Calls Tryz.prog 62 #[.pointer (some ⟨g, 0, none⟩), .int .i64 0] w fun e w' => OutI base (0, is, rs.filterMap (tickF (now + 1)), now + 1) e w' ∧ Below w.heap.size w w') := fun base g w h => toldW_any base is _ (now + 1) 0 g w h
  have HBD : Hid (instB is rs now = true → 0 ≤ now ∧ now ≤ 999800) := fun h => (instB_bd h).2
  have HD : Hid (stepO is rs now = if instB is rs now = true then (if now = 999800 then (9, [], [], 0) else (0, is, rs.filterMap (tickF (now + 1)), now + 1)) else (1, [], [], 0)) := rfl
  clear h1 h2 hc hc1 hc2
  generalize stepO is rs now = RES at *
  generalize instB is rs now = IB at *
  unfold instV at *
  obtain ⟨W, hW, q0, qz, hB, hS⟩ := rows2 w [.slice x is.length c1, .slice y rs.length c2, .int .i64 now] [.slice none 0 0, .slice none 0 0, .int .i64 0, .int .i64 0] 61 63
  have HW : Hid _ := hW
  have x0 : W.cell? ⟨w.heap.size, 0, none⟩ = some (.slice x is.length c1) := q0.cell 0
  have x1 : W.cell? ⟨w.heap.size, 1, none⟩ = some (.slice y rs.length c2) := q0.cell 1
  have x2 : W.cell? ⟨w.heap.size, 2, none⟩ = some (.int .i64 now) := q0.cell 2
  have HQ : Hid _ := And.intro q0 (And.intro qz hB)
  clear q0 qz hB hS
  go_enter Tryz.func120, Tryz.ntmps120
  rw [hW] at x0 x1 x2
  clear hW
  go_wp2_with fail
  rw [← HW.out]
  obtain ⟨q0, qz, hB⟩ := HQ.out
  clear x0 x1 x2 HW
  refine (HR.out _ (HX.out.1.below hB) (HX.out.2.below hB)).mono ?_
  rintro e w1 ⟨rfl, hb1⟩
  have q0 := q0.below hb1 q0.lt
  have qz := qz.below hb1 qz.lt
  have hB := hB.trans (hb1.mono hB.size)
  clear hb1 HR HQ
  clear hn1 hn2
  have hR := HD.out
  clear HD
  cases IB
  · simp only [Bool.false_eq_true, if_false] at hR
    clear HX q0 HA HTk HT
    have f0 : w1.frozen? ⟨w.heap.size + 1, 0, none⟩ = false := qz.frozen 0
    have f1 : w1.frozen? ⟨w.heap.size + 1, 1, none⟩ = false := qz.frozen 1
    have f2 : w1.frozen? ⟨w.heap.size + 1, 2, none⟩ = false := qz.frozen 2
    have f3 : w1.frozen? ⟨w.heap.size + 1, 3, none⟩ = false := qz.frozen 3
    have z0 : w1.cell? ⟨w.heap.size + 1, 0, none⟩ = some (.slice none 0 0) := qz.cell 0
    have z1 : w1.cell? ⟨w.heap.size + 1, 1, none⟩ = some (.slice none 0 0) := qz.cell 1
    have z2 : w1.cell? ⟨w.heap.size + 1, 2, none⟩ = some (.int .i64 0) := qz.cell 2
    have z3 : w1.cell? ⟨w.heap.size + 1, 3, none⟩ = some (.int .i64 0) := qz.cell 3
    have HE : Hid _ := out4 (p := none) (q := none) (now := 0) (cc := 1) qz rfl (show w.heap.size ≤ w.heap.size + 1 by omega) hB (ownsI_nil w1 w.heap.size) (ownsR_nil w1 w.heap.size) rfl _ rfl
    clear qz hB 
    go_wp2_with fail
    generalize (((w1.setCell ⟨w.heap.size + 1, 0, none⟩ (.slice none 0 0)).setCell ⟨w.heap.size + 1, 1, none⟩ (.slice none 0 0)).setCell ⟨w.heap.size + 1, 2, none⟩ (.int .i64 0)).setCell ⟨w.heap.size + 1, 3, none⟩ (.int .i64 1) = Z at *
    obtain ⟨k1, k2, k3, k4⟩ := HE.out
    clear HE f0 f1 f2 f3 z0 z1 z2 z3
    have e0 : Z.cell? ⟨w.heap.size + 1, 0, none⟩ = some (.slice none 0 0) := k1.cell 0
    have e1 : Z.cell? ⟨w.heap.size + 1, 1, none⟩ = some (.slice none 0 0) := k1.cell 1
    have e2 : Z.cell? ⟨w.heap.size + 1, 2, none⟩ = some (.int .i64 0) := k1.cell 2
    have e3 : Z.cell? ⟨w.heap.size + 1, 3, none⟩ = some (.int .i64 1) := k1.cell 3
    exact bodyPost_ret (v := .agg #[.slice none 0 0, .slice none 0 0, .int .i64 0, .int .i64 1]) (by simp [results, Tryz.results120, go_sem, e0, e1, e2, e3]) rfl ⟨by rw [hR]; exact outI_no _ _ _, k2⟩
  · simp only [if_true] at hR
    obtain ⟨n0, n1⟩ := HBD.out rfl
    clear HBD
    generalize rs.filterMap (tickF (now + 1)) = qs at *
    by_cases hE : now = 999800
    · have zE : (now == 999800) = true := by simpa using hE
      rw [if_pos hE] at hR
      clear hE
      have y0 : w1.cell? ⟨w.heap.size, 0, none⟩ = some (.slice x is.length c1) := q0.cell 0
      have y1 : w1.cell? ⟨w.heap.size, 1, none⟩ = some (.slice y rs.length c2) := q0.cell 1
      have y2 : w1.cell? ⟨w.heap.size, 2, none⟩ = some (.int .i64 now) := q0.cell 2
      clear q0 HA HX HTk HT
      have f0 : w1.frozen? ⟨w.heap.size + 1, 0, none⟩ = false := qz.frozen 0
      have f1 : w1.frozen? ⟨w.heap.size + 1, 1, none⟩ = false := qz.frozen 1
      have f2 : w1.frozen? ⟨w.heap.size + 1, 2, none⟩ = false := qz.frozen 2
      have f3 : w1.frozen? ⟨w.heap.size + 1, 3, none⟩ = false := qz.frozen 3
      have z0 : w1.cell? ⟨w.heap.size + 1, 0, none⟩ = some (.slice none 0 0) := qz.cell 0
      have z1 : w1.cell? ⟨w.heap.size + 1, 1, none⟩ = some (.slice none 0 0) := qz.cell 1
      have z2 : w1.cell? ⟨w.heap.size + 1, 2, none⟩ = some (.int .i64 0) := qz.cell 2
      have z3 : w1.cell? ⟨w.heap.size + 1, 3, none⟩ = some (.int .i64 0) := qz.cell 3
      have HE : Hid _ := out4 (p := none) (q := none) (now := 0) (cc := 9) qz rfl (show w.heap.size ≤ w.heap.size + 1 by omega) hB (ownsI_nil w1 w.heap.size) (ownsR_nil w1 w.heap.size) rfl _ rfl
      clear qz hB 
      go_wp2_with fail
      generalize (((w1.setCell ⟨w.heap.size + 1, 0, none⟩ (.slice none 0 0)).setCell ⟨w.heap.size + 1, 1, none⟩ (.slice none 0 0)).setCell ⟨w.heap.size + 1, 2, none⟩ (.int .i64 0)).setCell ⟨w.heap.size + 1, 3, none⟩ (.int .i64 9) = Z at *
      obtain ⟨k1, k2, k3, k4⟩ := HE.out
      clear HE f0 f1 f2 f3 z0 z1 z2 z3
      have e0 : Z.cell? ⟨w.heap.size + 1, 0, none⟩ = some (.slice none 0 0) := k1.cell 0
      have e1 : Z.cell? ⟨w.heap.size + 1, 1, none⟩ = some (.slice none 0 0) := k1.cell 1
      have e2 : Z.cell? ⟨w.heap.size + 1, 2, none⟩ = some (.int .i64 0) := k1.cell 2
      have e3 : Z.cell? ⟨w.heap.size + 1, 3, none⟩ = some (.int .i64 9) := k1.cell 3
      exact bodyPost_ret (v := .agg #[.slice none 0 0, .slice none 0 0, .int .i64 0, .int .i64 9]) (by simp [results, Tryz.results120, go_sem, e0, e1, e2, e3]) rfl ⟨by rw [hR]; exact outI_no _ _ _, k2⟩
    · have zE : (now == 999800) = false := by simpa using hE
      rw [if_neg hE] at hR
      have y0 : w1.cell? ⟨w.heap.size, 0, none⟩ = some (.slice x is.length c1) := q0.cell 0
      have y1 : w1.cell? ⟨w.heap.size, 1, none⟩ = some (.slice y rs.length c2) := q0.cell 1
      have y2 : w1.cell? ⟨w.heap.size, 2, none⟩ = some (.int .i64 now) := q0.cell 2
      have L1 := qz.lt
      have L1s := hB.size
      go_wp2_with fail
      refine (HA.out _ (HX.out.1.below hB) (HX.out.2.below hB)).mono ?_
      rintro e w2 ⟨g, rfl, hat, hb2⟩
      have qz := qz.below hb2 qz.lt
      have hB := hB.trans (hb2.mono hB.size)
      have hb2s := hb2.size
      clear hb2 HA HX y0 y1 y2 q0
      generalize w1.heap.size = B at *
      clear zE hE
      obtain ⟨q1, k1, q2, k2, y0, y1, y2, y3, -⟩ := atW_cells hat
      have hg := atW_ge hat
      have hat2 := atW_now (now + 1) hat
      have hat2 := hat2
      have qz := qz.other 2 (.int .i64 (now + 1)) (show w.heap.size + 1 ≠ g by omega)
      have hB := hB.setCell (p := ⟨g, 2, none⟩) (by show w.heap.size ≤ g; omega) (.int .i64 (now + 1))
      have t2 : (w2.setCell ⟨g, 2, none⟩ (.int .i64 (now + 1))).cell? ⟨g, 2, none⟩ = some (.int .i64 (now + 1)) := by obtain ⟨_, _, _, _, _, _, h, _⟩ := atW_cells hat2; exact h
      have hz3 : (w2.setCell ⟨g, 2, none⟩ (.int .i64 (now + 1))).heap.size = w2.heap.size := by simp
      have HH : Hid _ := And.intro hat2 (And.intro qz (And.intro hB hz3))
      clear hat hat2 qz hB hz3
      go_wp2_with fail
      obtain ⟨hat, qz, hB, hz3⟩ := HH.out
      generalize w2.setCell ⟨g, 2, none⟩ (.int .i64 (now + 1)) = W2 at *
      clear HH y0 y1 y2 y3
      refine wp_region_tail1 8 (.pointer (some ⟨g, 0, none⟩)) (by kernel_rfl) (by kernel_rfl) rfl ?_ ?_ ?_
      · intro _; rfl
      · exact fun _ _ _ h => h
      simp only [List.take_succ_cons, List.take_zero, List.drop_succ_cons, List.drop_zero]
      repeat (quiet_step (fail))
      refine wpQuiet_nil ?_
      intro _ hw'
      obtain ⟨nq, hw''⟩ := hw'
      subst hw''
      go_wp2_with fail
      refine (HTk.out _ _ _ trivial (atW_drewN nq hat)).mono ?_
      rintro e w3 ⟨rfl, hat, hb3⟩
      have qz := (qz.drewN nq).below hb3 L1
      have hB := (below_drewN hB nq).trans (hb3.mono (by omega))
      clear hb3 HTk
      go_wp2_with fail
      refine (HT.out _ _ _ hat).mono ?_
      rintro e w4 ⟨⟨p, d1, q, d2, rfl, oi, orr⟩, hb4⟩
      have qz := qz.below hb4 qz.lt
      have hB := hB.trans (hb4.mono hB.size)
      clear hb4 HT hat t2
      simp only at oi orr ⊢
      have f0 : w4.frozen? ⟨w.heap.size + 1, 0, none⟩ = false := qz.frozen 0
      have f1 : w4.frozen? ⟨w.heap.size + 1, 1, none⟩ = false := qz.frozen 1
      have f2 : w4.frozen? ⟨w.heap.size + 1, 2, none⟩ = false := qz.frozen 2
      have f3 : w4.frozen? ⟨w.heap.size + 1, 3, none⟩ = false := qz.frozen 3
      have z0 : w4.cell? ⟨w.heap.size + 1, 0, none⟩ = some (.slice none 0 0) := qz.cell 0
      have z1 : w4.cell? ⟨w.heap.size + 1, 1, none⟩ = some (.slice none 0 0) := qz.cell 1
      have z2 : w4.cell? ⟨w.heap.size + 1, 2, none⟩ = some (.int .i64 0) := qz.cell 2
      have z3 : w4.cell? ⟨w.heap.size + 1, 3, none⟩ = some (.int .i64 0) := qz.cell 3
      have HE : Hid _ := out4 (p := p) (q := q) (now := (now + 1)) (cc := 0) qz rfl (show w.heap.size ≤ w.heap.size + 1 by omega) hB oi orr rfl _ rfl
      clear qz hB oi orr
      go_wp2_with fail
      generalize (((w4.setCell ⟨w.heap.size + 1, 0, none⟩ (.slice p is.length d1)).setCell ⟨w.heap.size + 1, 1, none⟩ (.slice q qs.length d2)).setCell ⟨w.heap.size + 1, 2, none⟩ (.int .i64 (now + 1))).setCell ⟨w.heap.size + 1, 3, none⟩ (.int .i64 0) = Z at *
      obtain ⟨k1, k2, k3, k4⟩ := HE.out
      clear HE f0 f1 f2 f3 z0 z1 z2 z3
      have e0 : Z.cell? ⟨w.heap.size + 1, 0, none⟩ = some (.slice p is.length d1) := k1.cell 0
      have e1 : Z.cell? ⟨w.heap.size + 1, 1, none⟩ = some (.slice q qs.length d2) := k1.cell 1
      have e2 : Z.cell? ⟨w.heap.size + 1, 2, none⟩ = some (.int .i64 (now + 1)) := k1.cell 2
      have e3 : Z.cell? ⟨w.heap.size + 1, 3, none⟩ = some (.int .i64 0) := k1.cell 3
      exact bodyPost_ret (v := .agg #[.slice p is.length d1, .slice q qs.length d2, .int .i64 (now + 1), .int .i64 0]) (by simp [results, Tryz.results120, go_sem, e0, e1, e2, e3]) rfl ⟨by rw [hR]; exact ⟨p, d1, q, d2, rfl, ownsI_mono k3 (by omega), ownsR_mono k4 (by omega)⟩, k2⟩
end Go.Proofs.YtcnadobnihbldaaGreat
