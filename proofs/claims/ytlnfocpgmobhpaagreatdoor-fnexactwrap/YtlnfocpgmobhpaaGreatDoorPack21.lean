/- Texts that stand on each other, in one file: FitI, RisB, BoxI, ThereL, InstB, ThereB, BoxS, OpTen, OpTens. -/
import Derived.Test.YtlnfocpgmobhpaaGreatDoorPack20
import Derived.Lib.QuietBelow
import Derived.BigQuiet
import Derived.Test.YtlnfocpgmobhpaaGreatDoorPack12
import Derived.Test.YtlnfocpgmobhpaaGreatDoorPack3
import Derived.Test.YtlnfocpgmobhpaaGreatDoorPack18
import Derived.Test.YtlnfocpgmobhpaaGreatDoorPack5
import Derived.Test.YtlnfocpgmobhpaaGreatDoorPack19
/- Whether a box has what a request is asked of, of the program. (Written by gen_box.py.) -/
namespace Go.Proofs.YtlnfocpgmobhpaaGreatDoor
open Go.RowKit Go.Sort

set_option maxRecDepth 100000 in
set_option maxHeartbeats 4000000 in
theorem fitsT_any (n : Int) (p : Option Addr) (nt cap : Nat) (pb : Option Addr) (nb cb : Nat) (pl : Option Addr) (nl cl : Nat) (lost : Int) (w : World) (_hn : nt ≤ 100000000) :
    Calls Tryz.prog 43 #[.agg #[.int .i64 n], .agg #[.slice p nt cap, .slice pb nb cb, .slice pl nl cl, .int .i64 lost]] w fun e w' => e = .returned (.bool (decide (0 ≤ n) && decide (n < (nt : Int)))) ∧ Below w.heap.size w w' := by
  by_cases h1 : 0 ≤ n
  · have d1 : decide (0 ≤ n) = true := by simpa using h1
    rw [d1, Bool.true_and]
    have HB : Hid (Below w.heap.size w ((w.alloc (.cells #[.int .i64 n] 57)).alloc (.cells #[.slice p nt cap, .slice pb nb cb, .slice pl nl cl, .int .i64 lost] 33))) := (ent_new0 w _).alloc (by simp) _
    generalize hD : decide (n < (nt : Int)) = D
    go_enter Tryz.func43, Tryz.ntmps43
    go_wp2
    go_ret
    exact ⟨rfl, HB.out⟩
  · have d1 : decide (0 ≤ n) = false := by simpa using h1
    rw [d1, Bool.false_and]
    have HB : Hid (Below w.heap.size w ((w.alloc (.cells #[.int .i64 n] 57)).alloc (.cells #[.slice p nt cap, .slice pb nb cb, .slice pl nl cl, .int .i64 lost] 33))) := (ent_new0 w _).alloc (by simp) _
    go_enter Tryz.func43, Tryz.ntmps43
    go_wp2
    go_ret
    exact ⟨rfl, HB.out⟩
set_option maxRecDepth 100000 in
set_option maxHeartbeats 4000000 in
theorem fitsI_any (n i : Int) (p : Option Addr) (cap : Nat) (ps : List TnP) (pb : Option Addr) (nb cb : Nat) (pl : Option Addr) (nl cl : Nat) (lost : Int) (w : World) (h : TensIn w p ps) (hn : ps.length ≤ 100000000) :
    Calls Tryz.prog 20 #[.agg #[.int .i64 n, .int .i64 i], .agg #[.slice p ps.length cap, .slice pb nb cb, .slice pl nl cl, .int .i64 lost]] w fun e w' => e = .returned (.bool (inFc (ps.map (·.2)) n i)) ∧ Below w.heap.size w w' := by
  have HC : Hid (∀ w, Calls Tryz.prog 43 #[.agg #[.int .i64 n], .agg #[.slice p ps.length cap, .slice pb nb cb, .slice pl nl cl, .int .i64 lost]] w fun e w' => e = .returned (.bool (decide (0 ≤ n) && decide (n < (ps.length : Int)))) ∧ Below w.heap.size w w') := fun w => fitsT_any n p ps.length cap pb nb cb pl nl cl lost w hn
  have HR : Hid (inFc (ps.map (·.2)) n i = ((decide (0 ≤ n) && decide (n < (ps.length : Int))) && (decide (0 ≤ i) && decide (i < (((ps.map (fun x : TnP => x.2))[n.toNat]!).is.length : Int))))) := by show _ = _; unfold inFc inTn; rw [List.length_map]
  generalize inFc (ps.map (·.2)) n i = RES at *
  have q0 := (Row.new w 59 [.int .i64 n, .int .i64 i]).alloc (.cells #[.slice p ps.length cap, .slice pb nb cb, .slice pl nl cl, .int .i64 lost] 33)
  have q1 := Row.new (w.alloc (.cells #[.int .i64 n, .int .i64 i] 59)) 33 [.slice p ps.length cap, .slice pb nb cb, .slice pl nl cl, .int .i64 lost]
  rw [show (w.alloc (.cells #[.int .i64 n, .int .i64 i] 59)).heap.size = w.heap.size + 1 by simp] at q1
  have hB : Below w.heap.size w ((w.alloc (.cells #[.int .i64 n, .int .i64 i] 59)).alloc (.cells #[.slice p ps.length cap, .slice pb nb cb, .slice pl nl cl, .int .i64 lost] 33)) := (ent_new0 w _).alloc (by simp) _
  have HX : Hid (TensIn w p ps) := h
  have HQ : Hid _ := And.intro q0 (And.intro q1 hB)
  clear q0 q1 hB h
  go_enter Tryz.func20, Tryz.ntmps20
  go_wp2_with fail
  obtain ⟨q0, q1, hB⟩ := HQ.out
  have hX := HX.out.below hB
  clear HQ HX
  generalize ((w.alloc (.cells #[.int .i64 n, .int .i64 i] 59)).alloc (.cells #[.slice p ps.length cap, .slice pb nb cb, .slice pl nl cl, .int .i64 lost] 33)) = W at *
  have s0 : W.cell? ⟨w.heap.size, 0, none⟩ = some (.int .i64 n) := q0.cell 0
  have s1 : W.cell? ⟨w.heap.size, 1, none⟩ = some (.int .i64 i) := q0.cell 1
  have t0 : W.cell? ⟨w.heap.size + 1, 0, none⟩ = some (.slice p ps.length cap) := q1.cell 0
  have t1 : W.cell? ⟨w.heap.size + 1, 1, none⟩ = some (.slice pb nb cb) := q1.cell 1
  have t2 : W.cell? ⟨w.heap.size + 1, 2, none⟩ = some (.slice pl nl cl) := q1.cell 2
  have t3 : W.cell? ⟨w.heap.size + 1, 3, none⟩ = some (.int .i64 lost) := q1.cell 3
  have HB : Hid _ := hB
  have HCr : Hid (∀ d os, Calls Tryz.prog 43 #[.agg #[.int .i64 n], .agg #[.slice p ps.length cap, .slice pb nb cb, .slice pl nl cl, .int .i64 lost]] (grow (redrawn W d) os) fun e w'' => e = .returned (.bool (decide (0 ≤ n) && decide (n < (ps.length : Int)))) ∧ ∃ p : Regrown, w'' = grow (redrawn W p.d) p.os) := fun d os => Calls.regrown_of (HC.out _)
  have hR := HR.out
  clear q0 q1 hB HC HR
  replace s0 := cell_regrown s0
  replace s1 := cell_regrown s1
  replace t0 := cell_regrown t0
  replace t1 := cell_regrown t1
  replace t2 := cell_regrown t2
  replace t3 := cell_regrown t3
  by_cases h1 : 0 ≤ n ∧ n < (ps.length : Int)
  case neg =>
    have dn : (decide (0 ≤ n) && decide (n < (ps.length : Int))) = false := by rw [← Bool.decide_and]; exact decide_eq_false h1
    rw [dn] at HCr
    rw [dn, Bool.false_and] at hR
    clear hX h1 dn
    refine wp_region_quiet_below (by kernel_rfl) (by kernel_rfl) ?_
    repeat (go_big_quiet_step ((go_at_call 43; exact HCr.out _ _)))
    refine wpQuiet_nil ?_
    intro w1 hw'
    obtain ⟨⟨dq, osq⟩, hw''⟩ := hw'
    have hbq := below_regrown W dq osq
    rw [← hw''] at hbq
    clear hw'' osq dq
    clear s0 s1 t0 t1 t2 t3 HCr
    have hB := HB.out.trans (hbq.mono HB.out.size)
    clear hbq HB
    go_wp2
    go_ret
    exact ⟨by first | rfl | (rw [hR]; rfl), hB⟩
  have dn : (decide (0 ≤ n) && decide (n < (ps.length : Int))) = true := by rw [← Bool.decide_and]; exact decide_eq_true h1
  rw [dn] at HCr
  rw [dn, Bool.true_and] at hR
  obtain ⟨m, rfl⟩ : ∃ m : Nat, n = (m : Int) := ⟨n.toNat, by omega⟩
  have hm : m < ps.length := by omega
  obtain ⟨g, a, t, rfl, hg, hek, -, c0, -, -, -, -, -, -, -⟩ := hX.at m hm
  rw [Int.toNat_natCast, tn_at hm hek] at hR
  have dm : decide ((m : Int) < (ps.length : Int)) = true := by simpa using hm
  clear h1 dn hX hek
  generalize t.is.length = tn1 at *
  generalize a.x = ax at *
  generalize a.c1 = ac1 at *
  replace c0 := cell_regrown c0
  by_cases h2 : 0 ≤ i
  case neg =>
    have d2 : decide (0 ≤ i) = false := by simpa using h2
    rw [d2, Bool.false_and] at hR
    refine wp_region_quiet_below (by kernel_rfl) (by kernel_rfl) ?_
    repeat (go_big_quiet_step ((go_at_call 43; exact HCr.out _ _)))
    refine wpQuiet_nil ?_
    intro w1 hw'
    obtain ⟨⟨dq, osq⟩, hw''⟩ := hw'
    have hbq := below_regrown W dq osq
    rw [← hw''] at hbq
    clear hw'' osq dq
    clear c0 s0 s1 t0 t1 t2 t3 HCr
    have hB := HB.out.trans (hbq.mono HB.out.size)
    clear hbq HB
    go_wp2
    go_ret
    exact ⟨by first | rfl | (rw [hR]; rfl), hB⟩
  have d2 : decide (0 ≤ i) = true := by simpa using h2
  rw [d2, Bool.true_and] at hR
  by_cases h3 : i < (tn1 : Int)
  · have d3 : decide (i < (tn1 : Int)) = true := by simpa using h3
    rw [d3] at hR
    refine wp_region_quiet_below (by kernel_rfl) (by kernel_rfl) ?_
    repeat (go_big_quiet_step ((go_at_call 43; exact HCr.out _ _)))
    refine wpQuiet_nil ?_
    intro w1 hw'
    obtain ⟨⟨dq, osq⟩, hw''⟩ := hw'
    have hbq := below_regrown W dq osq
    rw [← hw''] at hbq
    clear hw'' osq dq
    clear c0 s0 s1 t0 t1 t2 t3 HCr
    have hB := HB.out.trans (hbq.mono HB.out.size)
    clear hbq HB
    go_wp2
    go_ret
    exact ⟨by first | rfl | (rw [hR]; rfl), hB⟩
  · have d3 : decide (i < (tn1 : Int)) = false := by simpa using h3
    rw [d3] at hR
    refine wp_region_quiet_below (by kernel_rfl) (by kernel_rfl) ?_
    repeat (go_big_quiet_step ((go_at_call 43; exact HCr.out _ _)))
    refine wpQuiet_nil ?_
    intro w1 hw'
    obtain ⟨⟨dq, osq⟩, hw''⟩ := hw'
    have hbq := below_regrown W dq osq
    rw [← hw''] at hbq
    clear hw'' osq dq
    clear c0 s0 s1 t0 t1 t2 t3 HCr
    have hB := HB.out.trans (hbq.mono HB.out.size)
    clear hbq HB
    go_wp2
    go_ret
    exact ⟨by first | rfl | (rw [hR]; rfl), hB⟩
set_option maxRecDepth 100000 in
set_option maxHeartbeats 4000000 in
theorem bindRight_any (po vl tn ic : Int) (p : Option Addr) (cap : Nat) (ps : List TnP) (pb : Option Addr) (nb cb : Nat) (pl : Option Addr) (nl cl : Nat) (lost : Int) (w : World) (h : TensIn w p ps) (hn : ps.length ≤ 100000000) :
    Calls Tryz.prog 71 #[.agg #[.int .i64 po, .int .i64 vl, .int .i64 tn, .int .i64 ic], .agg #[.slice p ps.length cap, .slice pb nb cb, .slice pl nl cl, .int .i64 lost]] w fun e w' => e = .returned (.bool (bdB (ps.map (·.2)) ⟨po, vl, tn, ic⟩)) ∧ Below w.heap.size w w' := by
  have HC : Hid (∀ w, TensIn w p ps → Calls Tryz.prog 20 #[.agg #[.int .i64 tn, .int .i64 ic], .agg #[.slice p ps.length cap, .slice pb nb cb, .slice pl nl cl, .int .i64 lost]] w fun e w' => e = .returned (.bool (inFc (ps.map (·.2)) tn ic)) ∧ Below w.heap.size w w') := fun w h => fitsI_any tn ic p cap ps pb nb cb pl nl cl lost w h hn
  have HR : Hid (bdB (ps.map (·.2)) ⟨po, vl, tn, ic⟩ = (decide (0 ≤ po) && (decide (po ≤ 3) && (decide (1 ≤ vl) && (decide (vl ≤ 4094) && inFc (ps.map (·.2)) tn ic))))) := rfl
  generalize bdB (ps.map (·.2)) ⟨po, vl, tn, ic⟩ = RES at *
  generalize inFc (ps.map (·.2)) tn ic = FC at *
  have HX : Hid (TensIn w p ps) := h
  have q0 := (Row.new w 80 [.int .i64 po, .int .i64 vl, .int .i64 tn, .int .i64 ic]).alloc (.cells #[.slice p ps.length cap, .slice pb nb cb, .slice pl nl cl, .int .i64 lost] 33)
  have q1 := Row.new (w.alloc (.cells #[.int .i64 po, .int .i64 vl, .int .i64 tn, .int .i64 ic] 80)) 33 [.slice p ps.length cap, .slice pb nb cb, .slice pl nl cl, .int .i64 lost]
  rw [show (w.alloc (.cells #[.int .i64 po, .int .i64 vl, .int .i64 tn, .int .i64 ic] 80)).heap.size = w.heap.size + 1 by simp] at q1
  have hB : Below w.heap.size w ((w.alloc (.cells #[.int .i64 po, .int .i64 vl, .int .i64 tn, .int .i64 ic] 80)).alloc (.cells #[.slice p ps.length cap, .slice pb nb cb, .slice pl nl cl, .int .i64 lost] 33)) := (ent_new0 w _).alloc (by simp) _
  have hB := hB.alloc hB.size (.cells #[.int .i64 tn, .int .i64 ic] 59)
  have HQ : Hid _ := hB
  have hR := HR.out
  clear q0 q1 hB h HR
  by_cases h1 : 0 ≤ po
  case neg =>
    have d1 : decide (0 ≤ po) = false := by simpa using h1
    rw [d1, Bool.false_and] at hR
    go_enter Tryz.func71, Tryz.ntmps71
    go_wp2
    go_ret
    exact ⟨by first | rfl | (rw [hR]; rfl), HQ.out⟩
  have d1 : decide (0 ≤ po) = true := by simpa using h1
  rw [d1, Bool.true_and] at hR
  by_cases h2 : po ≤ 3
  case neg =>
    have d2 : decide (po ≤ 3) = false := by simpa using h2
    rw [d2, Bool.false_and] at hR
    go_enter Tryz.func71, Tryz.ntmps71
    go_wp2
    go_ret
    exact ⟨by first | rfl | (rw [hR]; rfl), HQ.out⟩
  have d2 : decide (po ≤ 3) = true := by simpa using h2
  rw [d2, Bool.true_and] at hR
  by_cases h3 : 1 ≤ vl
  case neg =>
    have d3 : decide (1 ≤ vl) = false := by simpa using h3
    rw [d3, Bool.false_and] at hR
    go_enter Tryz.func71, Tryz.ntmps71
    go_wp2
    go_ret
    exact ⟨by first | rfl | (rw [hR]; rfl), HQ.out⟩
  have d3 : decide (1 ≤ vl) = true := by simpa using h3
  rw [d3, Bool.true_and] at hR
  by_cases h4 : vl ≤ 4094
  case neg =>
    have d4 : decide (vl ≤ 4094) = false := by simpa using h4
    rw [d4, Bool.false_and] at hR
    go_enter Tryz.func71, Tryz.ntmps71
    go_wp2
    go_ret
    exact ⟨by first | rfl | (rw [hR]; rfl), HQ.out⟩
  have d4 : decide (vl ≤ 4094) = true := by simpa using h4
  rw [d4, Bool.true_and] at hR
  go_enter Tryz.func71, Tryz.ntmps71
  go_wp2_with fail
  refine (HC.out _ (HX.out.below HQ.out)).mono ?_
  rintro e w1 ⟨rfl, hb1⟩
  have hB := HQ.out.trans (hb1.mono HQ.out.size)
  clear hb1 HC HQ HX
  go_wp2
  go_ret
  exact ⟨by first | rfl | (rw [hR]; rfl), hB⟩
end Go.Proofs.YtlnfocpgmobhpaaGreatDoor
/- Binds rise, of the program. (Written by gen_box.py.) -/
namespace Go.Proofs.YtlnfocpgmobhpaaGreatDoor
open Go.RowKit Go.Sort

theorem stab_two (c d : Int) : ∀ (v : Value) (w1 w2 : World), (∃ g, v = .slice (some ⟨g, 0, none⟩) 2 2 ∧ Row w1 g 3 [.int .i64 c, .int .i64 d]) → Below w1.heap.size w1 w2 → ∃ g, v = .slice (some ⟨g, 0, none⟩) 2 2 ∧ Row w2 g 3 [.int .i64 c, .int .i64 d] := by
  rintro v w1 w2 ⟨g, e, h⟩ hb
  exact ⟨g, e, h.below hb h.lt⟩
def orJ (c d : Int) : Int := if c = 0 then d else c
set_option maxRecDepth 100000 in
set_option maxHeartbeats 4000000 in
theorem cmpOr_any (c d : Int) (g : Nat) (w : World) (h : Row w g 3 [.int .i64 c, .int .i64 d]) : Calls Tryz.prog 110 #[.slice (some ⟨g, 0, none⟩) 2 2] w fun e w' => e = .returned (.int .i64 (orJ c d)) ∧ w = w' := by
  have c0 : w.cell? ⟨g, 0, none⟩ = some (.int .i64 c) := h.cell 0
  have c1 : w.cell? ⟨g, 1, none⟩ = some (.int .i64 d) := h.cell 1
  have HR : Hid (orJ c d = if c = 0 then d else c) := rfl
  generalize orJ c d = R at *
  clear h
  go_enter Tryz.func110, Tryz.ntmps110
  go_wp2_with fail
  go_loop [8] (fun i => i = .int .i64 0 ∨ i = .int .i64 1 ∧ c = 0 ∨ i = .int .i64 2 ∧ c = 0 ∧ d = 0) (fun i => 2 - (intOf i).toNat)
  case atStart => exact .inl rfl
  case round =>
    rcases hrel with rfl | ⟨rfl, hc⟩ | ⟨rfl, hc, hd⟩
    · by_cases hc : c = 0
      · have dc : (c != 0) = false := by simp [hc]
        have HC : Hid (c = 0) := hc
        clear hc
        go_wp2
        go_round
        case rel => exact .inr (.inl ⟨by go_num, HC.out⟩)
        case measure => simp [intOf]
      · have dc : (c != 0) = true := bne_iff_ne.2 hc
        have hR : R = c := by rw [HR.out, if_neg hc]
        clear hc
        go_wp2
        go_ret
        exact ⟨by first | rfl | (rw [hR]; rfl), rfl⟩
    · have HC : Hid (c = 0) := hc
      clear hc
      by_cases hd : d = 0
      · have dc : (d != 0) = false := by simp [hd]
        have HD : Hid (d = 0) := hd
        clear hd
        go_wp2
        go_round
        case rel => exact .inr (.inr ⟨by go_num, HC.out, HD.out⟩)
        case measure => simp [intOf]
      · have dc : (d != 0) = true := bne_iff_ne.2 hd
        have hR : R = d := by rw [HR.out, if_pos HC.out]
        clear hd
        go_wp2
        go_ret
        exact ⟨by first | rfl | (rw [hR]; rfl), rfl⟩
    · have hR : R = 0 := by rw [HR.out, if_pos hc, hd]
      clear hc hd
      go_wp2
      go_ret
      exact ⟨by first | rfl | (rw [hR]; rfl), rfl⟩
/-- What bindOrder tells. -/
def ordB (a0 a1 b0 b1 : Int) : Int := orJ (cmpJ a0 b0) (cmpJ a1 b1)
set_option maxRecDepth 100000 in
set_option maxHeartbeats 4000000 in
theorem bindOrder_any (a0 a1 a2 a3 b0 b1 b2 b3 : Int) (w : World) : Calls Tryz.prog 73 #[.agg #[.int .i64 a0, .int .i64 a1, .int .i64 a2, .int .i64 a3], .agg #[.int .i64 b0, .int .i64 b1, .int .i64 b2, .int .i64 b3]] w fun e w' => e = .returned (.int .i64 (ordB a0 a1 b0 b1)) ∧ Below w.heap.size w w' := by
  have HC1 : Hid (∀ w, Calls Tryz.prog 111 #[.int .i64 a0, .int .i64 b0] w fun e w' => e = .returned (.int .i64 (cmpJ a0 b0)) ∧ w = w') := cmpJ_any a0 b0
  have HC2 : Hid (∀ w, Calls Tryz.prog 111 #[.int .i64 a1, .int .i64 b1] w fun e w' => e = .returned (.int .i64 (cmpJ a1 b1)) ∧ w = w') := cmpJ_any a1 b1
  have HO : Hid (∀ g w, Row w g 3 [.int .i64 (cmpJ a0 b0), .int .i64 (cmpJ a1 b1)] → Calls Tryz.prog 110 #[.slice (some ⟨g, 0, none⟩) 2 2] w fun e w' => e = .returned (.int .i64 (ordB a0 a1 b0 b1)) ∧ w = w') := fun g w h => cmpOr_any _ _ g w h
  generalize ordB a0 a1 b0 b1 = r at *
  generalize cmpJ a0 b0 = c at *
  generalize cmpJ a1 b1 = d at *
  have q0 := (Row.new w 80 [.int .i64 a0, .int .i64 a1, .int .i64 a2, .int .i64 a3]).alloc (.cells #[.int .i64 b0, .int .i64 b1, .int .i64 b2, .int .i64 b3] 80)
  have q1 := Row.new (w.alloc (.cells #[.int .i64 a0, .int .i64 a1, .int .i64 a2, .int .i64 a3] 80)) 80 [.int .i64 b0, .int .i64 b1, .int .i64 b2, .int .i64 b3]
  rw [show (w.alloc (.cells #[.int .i64 a0, .int .i64 a1, .int .i64 a2, .int .i64 a3] 80)).heap.size = w.heap.size + 1 by simp] at q1
  have hB : Below w.heap.size w ((w.alloc (.cells #[.int .i64 a0, .int .i64 a1, .int .i64 a2, .int .i64 a3] 80)).alloc (.cells #[.int .i64 b0, .int .i64 b1, .int .i64 b2, .int .i64 b3] 80)) := (ent_new0 w _).alloc (by simp) _
  have HQ : Hid _ := And.intro q0 (And.intro q1 hB)
  clear q0 q1 hB
  go_enter Tryz.func73, Tryz.ntmps73
  go_wp2_with fail
  obtain ⟨q0, q1, hB⟩ := HQ.out
  clear HQ
  generalize ((w.alloc (.cells #[.int .i64 a0, .int .i64 a1, .int .i64 a2, .int .i64 a3] 80)).alloc (.cells #[.int .i64 b0, .int .i64 b1, .int .i64 b2, .int .i64 b3] 80)) = W at *
  have hGN : (([(5, Is (.pointer (some ⟨w.heap.size, 0, none⟩))), (6, Is (.int .i64 a0)), (7, Is (.pointer (some ⟨w.heap.size + 1, 0, none⟩))), (8, Is (.int .i64 b0)), (9, Is (.int .i64 c)), (10, Is (.pointer (some ⟨w.heap.size, 1, none⟩))), (11, Is (.int .i64 a1)), (12, Is (.pointer (some ⟨w.heap.size + 1, 1, none⟩))), (13, Is (.int .i64 b1)), (14, Is (.int .i64 d)), (15, fun v W => ∃ g, v = .slice (some ⟨g, 0, none⟩) 2 2 ∧ Row W g 3 [.int .i64 c, .int .i64 d]), (16, Is (.int .i64 r))] : List (Nat × (Value → World → Prop))).map (·.1)).Nodup := by simp
  refine wp_region_steady 12 (SlotG [(5, Is (.pointer (some ⟨w.heap.size, 0, none⟩))), (6, Is (.int .i64 a0)), (7, Is (.pointer (some ⟨w.heap.size + 1, 0, none⟩))), (8, Is (.int .i64 b0)), (9, Is (.int .i64 c)), (10, Is (.pointer (some ⟨w.heap.size, 1, none⟩))), (11, Is (.int .i64 a1)), (12, Is (.pointer (some ⟨w.heap.size + 1, 1, none⟩))), (13, Is (.int .i64 b1)), (14, Is (.int .i64 d)), (15, fun v W => ∃ g, v = .slice (some ⟨g, 0, none⟩) 2 2 ∧ Row W g 3 [.int .i64 c, .int .i64 d]), (16, Is (.int .i64 r))]) (by kernel_rfl) (by kernel_rfl) (Stabs.all ⟨stab_is _, stab_is _, stab_is _, stab_is _, stab_is _, stab_is _, stab_is _, stab_is _, stab_is _, stab_is _, stab_two c d, stab_is _, trivial⟩) ?_ ?_
  · intro o ho
    simp only [List.take_succ_cons, List.take_zero, List.mem_cons, List.not_mem_nil, or_false] at ho
    rcases ho with rfl | rfl | rfl | rfl | rfl | rfl | rfl | rfl | rfl | rfl | rfl | rfl
    · intro a' w' hb ha hdep
      have d2 : a'.tmps.getD 2 undef = .pointer (some ⟨w.heap.size, 0, none⟩) := ha.at 2 (by kernel_rfl)
      have hmk := fun (x : Value) (W : World) => SlotG.mk (x := x) (w := W) 0 rfl hGN
      clear hGN ha hdep
      go_simp
      exact ⟨_, rfl, Below.refl _ _, hmk _ _ rfl⟩
    · intro a' w' hb ha hdep
      have d5 : a'.tmps.getD 5 undef = .pointer (some ⟨w.heap.size, 0, none⟩) := (hdep 5 (of_decide_eq_true (by kernel_rfl))).is 0 rfl
      have hmk := fun (x : Value) (W : World) => SlotG.mk (x := x) (w := W) 1 rfl hGN
      clear hGN ha hdep
      have y : w'.cell? ⟨w.heap.size, 0, none⟩ = some (.int .i64 a0) := (q0.below hb q0.lt).cell 0
      go_simp
      exact ⟨_, rfl, Below.refl _ _, hmk _ _ rfl⟩
    · intro a' w' hb ha hdep
      have d3 : a'.tmps.getD 3 undef = .pointer (some ⟨w.heap.size + 1, 0, none⟩) := ha.at 3 (by kernel_rfl)
      have hmk := fun (x : Value) (W : World) => SlotG.mk (x := x) (w := W) 2 rfl hGN
      clear hGN ha hdep
      go_simp
      exact ⟨_, rfl, Below.refl _ _, hmk _ _ rfl⟩
    · intro a' w' hb ha hdep
      have d7 : a'.tmps.getD 7 undef = .pointer (some ⟨w.heap.size + 1, 0, none⟩) := (hdep 7 (of_decide_eq_true (by kernel_rfl))).is 2 rfl
      have hmk := fun (x : Value) (W : World) => SlotG.mk (x := x) (w := W) 3 rfl hGN
      clear hGN ha hdep
      have y : w'.cell? ⟨w.heap.size + 1, 0, none⟩ = some (.int .i64 b0) := (q1.below hb q1.lt).cell 0
      go_simp
      exact ⟨_, rfl, Below.refl _ _, hmk _ _ rfl⟩
    · intro a' w' hb ha hdep
      have d6 : a'.tmps.getD 6 undef = .int .i64 a0 := (hdep 6 (of_decide_eq_true (by kernel_rfl))).is 1 rfl
      have d8 : a'.tmps.getD 8 undef = .int .i64 b0 := (hdep 8 (of_decide_eq_true (by kernel_rfl))).is 3 rfl
      have hmk := fun (x : Value) (W : World) => SlotG.mk (x := x) (w := W) 4 rfl hGN
      clear hGN ha hdep
      go_simp
      refine (HC1.out _).mono ?_
      rintro e w2 ⟨rfl, rfl⟩
      exact ⟨_, rfl, Below.refl _ _, hmk _ _ rfl⟩
    · intro a' w' hb ha hdep
      have d2 : a'.tmps.getD 2 undef = .pointer (some ⟨w.heap.size, 0, none⟩) := ha.at 2 (by kernel_rfl)
      have hmk := fun (x : Value) (W : World) => SlotG.mk (x := x) (w := W) 5 rfl hGN
      clear hGN ha hdep
      go_simp
      exact ⟨_, rfl, Below.refl _ _, hmk _ _ rfl⟩
    · intro a' w' hb ha hdep
      have d10 : a'.tmps.getD 10 undef = .pointer (some ⟨w.heap.size, 1, none⟩) := (hdep 10 (of_decide_eq_true (by kernel_rfl))).is 5 rfl
      have hmk := fun (x : Value) (W : World) => SlotG.mk (x := x) (w := W) 6 rfl hGN
      clear hGN ha hdep
      have y : w'.cell? ⟨w.heap.size, 1, none⟩ = some (.int .i64 a1) := (q0.below hb q0.lt).cell 1
      go_simp
      exact ⟨_, rfl, Below.refl _ _, hmk _ _ rfl⟩
    · intro a' w' hb ha hdep
      have d3 : a'.tmps.getD 3 undef = .pointer (some ⟨w.heap.size + 1, 0, none⟩) := ha.at 3 (by kernel_rfl)
      have hmk := fun (x : Value) (W : World) => SlotG.mk (x := x) (w := W) 7 rfl hGN
      clear hGN ha hdep
      go_simp
      exact ⟨_, rfl, Below.refl _ _, hmk _ _ rfl⟩
    · intro a' w' hb ha hdep
      have d12 : a'.tmps.getD 12 undef = .pointer (some ⟨w.heap.size + 1, 1, none⟩) := (hdep 12 (of_decide_eq_true (by kernel_rfl))).is 7 rfl
      have hmk := fun (x : Value) (W : World) => SlotG.mk (x := x) (w := W) 8 rfl hGN
      clear hGN ha hdep
      have y : w'.cell? ⟨w.heap.size + 1, 1, none⟩ = some (.int .i64 b1) := (q1.below hb q1.lt).cell 1
      go_simp
      exact ⟨_, rfl, Below.refl _ _, hmk _ _ rfl⟩
    · intro a' w' hb ha hdep
      have d11 : a'.tmps.getD 11 undef = .int .i64 a1 := (hdep 11 (of_decide_eq_true (by kernel_rfl))).is 6 rfl
      have d13 : a'.tmps.getD 13 undef = .int .i64 b1 := (hdep 13 (of_decide_eq_true (by kernel_rfl))).is 8 rfl
      have hmk := fun (x : Value) (W : World) => SlotG.mk (x := x) (w := W) 9 rfl hGN
      clear hGN ha hdep
      go_simp
      refine (HC2.out _).mono ?_
      rintro e w2 ⟨rfl, rfl⟩
      exact ⟨_, rfl, Below.refl _ _, hmk _ _ rfl⟩
    · intro a' w' hb ha hdep
      have d9 : a'.tmps.getD 9 undef = .int .i64 c := (hdep 9 (of_decide_eq_true (by kernel_rfl))).is 4 rfl
      have d14 : a'.tmps.getD 14 undef = .int .i64 d := (hdep 14 (of_decide_eq_true (by kernel_rfl))).is 9 rfl
      have hmk := fun (x : Value) (W : World) => SlotG.mk (x := x) (w := W) 10 rfl hGN
      clear hGN ha hdep
      rw [Array.getD_eq_getD_getElem?] at d9 d14
      go_simp
      exact ⟨_, rfl, ent_new0 _ _, hmk _ _ ⟨_, rfl, Row.new w' 3 _⟩⟩
    · intro a' w' hb ha hdep
      have D15 := (hdep 15 (of_decide_eq_true (by kernel_rfl))).get 10 rfl
      have hmk := fun (x : Value) (W : World) => SlotG.mk (x := x) (w := W) 11 rfl hGN
      clear hGN ha hdep
      obtain ⟨g, d15, hr⟩ := D15
      go_simp
      refine (HO.out g _ hr).mono ?_
      rintro e w2 ⟨rfl, rfl⟩
      exact ⟨_, rfl, Below.refl _ _, hmk _ _ rfl⟩
  · intro a' w' hb ha hG
    clear hGN
    have d16 : a'.tmps.getD 16 undef = .int .i64 r := (hG _ (List.mem_of_getElem? (i := 11) rfl) 16 rfl).is 11 rfl
    have e2 : a' = ⟨#[a'.tmps.getD 0 undef, a'.tmps.getD 1 undef, a'.tmps.getD 2 undef, a'.tmps.getD 3 undef, a'.tmps.getD 4 undef, a'.tmps.getD 5 undef, a'.tmps.getD 6 undef, a'.tmps.getD 7 undef, a'.tmps.getD 8 undef, a'.tmps.getD 9 undef, a'.tmps.getD 10 undef, a'.tmps.getD 11 undef, a'.tmps.getD 12 undef, a'.tmps.getD 13 undef, a'.tmps.getD 14 undef, a'.tmps.getD 15 undef, a'.tmps.getD 16 undef], []⟩ := by rw [← (show a'.defers = [] from ha.2.1)]; exact act_eq a' 17 ha.1
    rw [d16] at e2
    clear hG ha d16
    generalize a'.tmps.getD 0 undef = x0 at *
    generalize a'.tmps.getD 1 undef = x1 at *
    generalize a'.tmps.getD 2 undef = x2 at *
    generalize a'.tmps.getD 3 undef = x3 at *
    generalize a'.tmps.getD 4 undef = x4 at *
    generalize a'.tmps.getD 5 undef = x5 at *
    generalize a'.tmps.getD 6 undef = x6 at *
    generalize a'.tmps.getD 7 undef = x7 at *
    generalize a'.tmps.getD 8 undef = x8 at *
    generalize a'.tmps.getD 9 undef = x9 at *
    generalize a'.tmps.getD 10 undef = x10 at *
    generalize a'.tmps.getD 11 undef = x11 at *
    generalize a'.tmps.getD 12 undef = x12 at *
    generalize a'.tmps.getD 13 undef = x13 at *
    generalize a'.tmps.getD 14 undef = x14 at *
    generalize a'.tmps.getD 15 undef = x15 at *
    subst e2
    simp only [List.drop_succ_cons, List.drop_zero]
    have hB10 := hB.trans (hb.mono hB.size)
    clear hb
    go_wp2
    go_ret
    exact ⟨rfl, hB10⟩
theorem ordB_val (a b : Bd) : ordB a.po a.vl b.po b.vl = -1 ∧ bdLt a b = true ∨ ordB a.po a.vl b.po b.vl = 0 ∧ bdLt a b = false ∨ ordB a.po a.vl b.po b.vl = 1 ∧ bdLt a b = false := by
  unfold ordB orJ bdLt cmpJ
  by_cases h1 : a.po < b.po
  · left; simp [h1]
  · by_cases h2 : b.po < a.po
    · right; right; simp [h1, h2]; omega
    · have e : a.po = b.po := by omega
      by_cases h3 : a.vl < b.vl
      · left; simp [e, h3]
      · by_cases h4 : b.vl < a.vl
        · right; right; simp [e, h3, h4]
        · right; left; simp [e, h3, h4]
set_option maxRecDepth 100000 in
set_option maxHeartbeats 4000000 in
theorem bindRise_any (p : Option Addr) (cap : Nat) (l : List Bd) (w : World) (h : BdsIn w p l) (hn : l.length ≤ 100000000) :
    Calls Tryz.prog 72 #[.slice p l.length cap, .func (.func 73) #[] #[]] w fun e w' => (∃ R : Bool, e = .returned (.bool R) ∧ (R = true → ∀ j, j < l.length → bdUp l j = true) ∧ (R = false → ∃ j, j < l.length ∧ bdUp l j = false)) ∧ Below w.heap.size w w' := by
  have HX : Hid (BdsIn w p l) := h
  have HO : Hid (∀ a0 a1 a2 a3 b0 b1 b2 b3 w, Calls Tryz.prog 73 #[.agg #[.int .i64 a0, .int .i64 a1, .int .i64 a2, .int .i64 a3], .agg #[.int .i64 b0, .int .i64 b1, .int .i64 b2, .int .i64 b3]] w fun e w' => e = .returned (.int .i64 (ordB a0 a1 b0 b1)) ∧ Below w.heap.size w w') := bindOrder_any
  clear h
  go_enter Tryz.func72, Tryz.ntmps72
  go_wp2_with fail
  go_loopw [5] (fun i wr => ∃ k : Nat, 1 ≤ k ∧ (k ≤ l.length ∨ k = 1) ∧ i = .int .i64 k ∧ (∀ j, j < k → j < l.length → bdUp l j = true) ∧ Below w.heap.size w wr) (fun i _ => l.length + 1 - (intOf i).toNat)
  case atStart => exact ⟨1, Nat.le_refl _, .inr rfl, rfl, fun j hj _ => (by obtain rfl : j = 0 := (by omega); unfold bdUp; simp), Below.refl _ _⟩
  case round =>
    obtain ⟨k, hk1, hk, rfl, ha, hB⟩ := hrel
    by_cases hlt : k < l.length
    · have d1 : decide ((k : Int) < (l.length : Int)) = true := by simpa using hlt
      obtain ⟨g, b0, b1, b2, b3, rfl, hg, hek, c0, c1, c2, c3⟩ := (HX.out.below hB).at k hlt
      obtain ⟨g', a0, a1, a2, a3, e', hg', hek', e0, e1, e2, e3⟩ := (HX.out.below hB).at (k - 1) (by omega)
      cases e'
      have hup : bdUp l k = bdLt ⟨a0, a1, a2, a3⟩ ⟨b0, b1, b2, b3⟩ := by
        unfold bdUp
        rw [get_bangB l k hlt, get_bangB l (k - 1) (by omega), hek, hek', decide_eq_false (by omega), Bool.false_or]
      have z2 : IntKind.i64.wrap ((k : Int) - 1) = ((k - 1 : Nat) : Int) := by rw [wrap_i64_in _ (by omega) (by omega)]; omega
      have z3 : (k : Int) - 1 = ((k - 1 : Nat) : Int) := by omega
      have z4 : decide (((k - 1 : Nat) : Int) < (l.length : Int)) = true := by simp; omega
      have z5 : k - 1 < l.length := by omega
      have HOk : Hid (∀ w, Calls Tryz.prog 73 #[.agg #[.int .i64 a0, .int .i64 a1, .int .i64 a2, .int .i64 a3], .agg #[.int .i64 b0, .int .i64 b1, .int .i64 b2, .int .i64 b3]] w fun e w' => e = .returned (.int .i64 (ordB a0 a1 b0 b1)) ∧ Below w.heap.size w w') := HO.out a0 a1 a2 a3 b0 b1 b2 b3
      have HA : Hid (∀ j, j < k → j < l.length → bdUp l j = true) := ha
      have hcv := ordB_val ⟨a0, a1, a2, a3⟩ ⟨b0, b1, b2, b3⟩
      simp only at hcv
      clear HO hek hek' ha
      generalize ordB a0 a1 b0 b1 = C at *
      replace c0 := cell_regrown c0
      replace e0 := cell_regrown e0
      replace c1 := cell_regrown c1
      replace e1 := cell_regrown e1
      replace c2 := cell_regrown c2
      replace e2 := cell_regrown e2
      replace c3 := cell_regrown c3
      replace e3 := cell_regrown e3
      rcases hcv with ⟨rfl, hu⟩ | ⟨rfl, hu⟩ | ⟨rfl, hu⟩
      · have HU : Hid (bdUp l k = true) := by rw [hup]; exact hu
        clear hu hup
        go_wp2_with fail
        refine wp_region_quiet_below (by kernel_rfl) (by kernel_rfl) ?_
        repeat (go_big_quiet_step ((go_at_call 73; exact Calls.regrown_of (HOk.out _))))
        refine wpQuiet_nil ?_
        intro w1 hw'
        obtain ⟨⟨dq, osq⟩, hw''⟩ := hw'
        have hbq := below_regrown wr dq osq
        rw [← hw''] at hbq
        clear hw'' osq dq c0 c1 c2 c3 e0 e1 e2 e3 HOk
        have HB : Hid _ := hB.trans (hbq.mono hB.size)
        clear hbq
        go_wp2
        go_roundw
        case rel => exact ⟨k + 1, by omega, .inl hlt, by go_num, (fun j hj hl => by
          rcases Nat.lt_or_ge j k with h' | h'
          · exact HA.out j h' hl
          · obtain rfl : j = k := (by omega)
            exact HU.out), HB.out⟩
        case measure => simp [intOf]; omega
      · have HU : Hid (bdUp l k = false) := by rw [hup]; exact hu
        clear hu hup
        go_wp2_with fail
        refine wp_region_quiet_below (by kernel_rfl) (by kernel_rfl) ?_
        repeat (go_big_quiet_step ((go_at_call 73; exact Calls.regrown_of (HOk.out _))))
        refine wpQuiet_nil ?_
        intro w1 hw'
        obtain ⟨⟨dq, osq⟩, hw''⟩ := hw'
        have hbq := below_regrown wr dq osq
        rw [← hw''] at hbq
        clear hw'' osq dq c0 c1 c2 c3 e0 e1 e2 e3 HOk
        have HB : Hid _ := hB.trans (hbq.mono hB.size)
        clear hbq
        go_wp2
        go_ret
        exact ⟨⟨false, rfl, fun h => by simp at h, fun _ => ⟨k, hlt, HU.out⟩⟩, HB.out⟩
      · have HU : Hid (bdUp l k = false) := by rw [hup]; exact hu
        clear hu hup
        go_wp2_with fail
        refine wp_region_quiet_below (by kernel_rfl) (by kernel_rfl) ?_
        repeat (go_big_quiet_step ((go_at_call 73; exact Calls.regrown_of (HOk.out _))))
        refine wpQuiet_nil ?_
        intro w1 hw'
        obtain ⟨⟨dq, osq⟩, hw''⟩ := hw'
        have hbq := below_regrown wr dq osq
        rw [← hw''] at hbq
        clear hw'' osq dq c0 c1 c2 c3 e0 e1 e2 e3 HOk
        have HB : Hid _ := hB.trans (hbq.mono hB.size)
        clear hbq
        go_wp2
        go_ret
        exact ⟨⟨false, rfl, fun h => by simp at h, fun _ => ⟨k, hlt, HU.out⟩⟩, HB.out⟩
    · have d1 : decide ((k : Int) < (l.length : Int)) = false := by simpa using hlt
      have HB : Hid _ := hB
      have HA : Hid (∀ j, j < k → j < l.length → bdUp l j = true) := ha
      clear HX HO hB ha
      go_wp2
      go_ret
      exact ⟨⟨true, rfl, fun _ j hj => HA.out j (by omega) hj, fun h => by simp at h⟩, HB.out⟩
end Go.Proofs.YtlnfocpgmobhpaaGreatDoor
/- bindsRight and BoxRight of the program. (Written by gen_box.py.) -/
namespace Go.Proofs.YtlnfocpgmobhpaaGreatDoor
open Go.RowKit Go.Sort

set_option maxRecDepth 100000 in
set_option maxHeartbeats 4000000 in
theorem bindsRight_any (p : Option Addr) (cap : Nat) (ps : List TnP) (pb : Option Addr) (cb : Nat) (l : List Bd) (pl : Option Addr) (nl cl : Nat) (lost : Int) (w : World) (h : TensIn w p ps) (hb0 : BdsIn w pb l) (hn : ps.length ≤ 100000000) (hl : l.length ≤ 100000000) :
    Calls Tryz.prog 40 #[.agg #[.slice p ps.length cap, .slice pb l.length cb, .slice pl nl cl, .int .i64 lost]] w fun e w' => e = .returned (.bool (bindsB (ps.map (·.2)) l)) ∧ Below w.heap.size w w' := by
  have HX : Hid (TensIn w p ps ∧ BdsIn w pb l) := ⟨h, hb0⟩
  have HC : Hid (∀ b0 b1 b2 b3 w, TensIn w p ps → Calls Tryz.prog 71 #[.agg #[.int .i64 b0, .int .i64 b1, .int .i64 b2, .int .i64 b3], .agg #[.slice p ps.length cap, .slice pb l.length cb, .slice pl nl cl, .int .i64 lost]] w fun e w' => e = .returned (.bool (bdB (ps.map (·.2)) ⟨b0, b1, b2, b3⟩)) ∧ Below w.heap.size w w') := fun b0 b1 b2 b3 w h => bindRight_any b0 b1 b2 b3 p cap ps pb l.length cb pl nl cl lost w h hn
  have HRI : Hid (∀ w, BdsIn w pb l → Calls Tryz.prog 72 #[.slice pb l.length cb, .func (.func 73) #[] #[]] w fun e w' => (∃ R : Bool, e = .returned (.bool R) ∧ (R = true → ∀ j, j < l.length → bdUp l j = true) ∧ (R = false → ∃ j, j < l.length ∧ bdUp l j = false)) ∧ Below w.heap.size w w') := fun w h => bindRise_any pb cb l w h hl
  have HB1 : Hid (∀ k, k < l.length → (bdB (ps.map (·.2)) l[k]! && bdUp l k) = false → bindsB (ps.map (·.2)) l = false) := fun k hk h => bindsB_bad hk h
  have HG : Hid (l.length ≤ 9 → (∀ j, j < l.length → (bdB (ps.map (·.2)) l[j]! && bdUp l j) = true) → bindsB (ps.map (·.2)) l = true) := fun a b => bindsB_good a b
  have HQ : Hid _ := And.intro (Row.new w 33 [.slice p ps.length cap, .slice pb l.length cb, .slice pl nl cl, .int .i64 lost]) (ent_new0 w (.cells #[.slice p ps.length cap, .slice pb l.length cb, .slice pl nl cl, .int .i64 lost] 33))
  clear h hb0
  by_cases h9 : l.length ≤ 9
  case neg =>
    have hR := bindsB_long (ts := ps.map (·.2)) h9
    have d0 : decide (9 < (l.length : Int)) = true := by simp; omega
    have hB := HQ.out.2
    clear HB1 HG HX HC HRI HQ
    go_enter Tryz.func40, Tryz.ntmps40
    go_wp2
    go_ret
    exact ⟨by first | rfl | (rw [hR]; rfl), hB⟩
  have d0 : decide (9 < (l.length : Int)) = false := by simp; omega
  generalize bindsB (ps.map (·.2)) l = RES at *
  go_enter Tryz.func40, Tryz.ntmps40
  go_wp2_with fail
  go_loopw [12] (fun i wr => ∃ k : Nat, k ≤ l.length ∧ i = .int .i64 k ∧ (∀ j, j < k → bdB (ps.map (·.2)) l[j]! = true) ∧ Row wr w.heap.size 33 [.slice p ps.length cap, .slice pb l.length cb, .slice pl nl cl, .int .i64 lost] ∧ Below w.heap.size w wr) (fun i _ => l.length - (intOf i).toNat)
  case atStart => exact ⟨0, Nat.zero_le _, rfl, fun j hj => absurd hj (by omega), HQ.out.1, HQ.out.2⟩
  case round =>
    clear HQ
    obtain ⟨k, hk, rfl, ha, r0, hB⟩ := hrel
    by_cases hlt : k < l.length
    · have d1 : decide ((k : Int) < (l.length : Int)) = true := by simpa using hlt
      obtain ⟨g, b0, b1, b2, b3, rfl, hg, hek, c0, c1, c2, c3⟩ := (HX.out.2.below hB).at k hlt
      have HK : Hid (bdB (ps.map (·.2)) l[k]! = bdB (ps.map (·.2)) ⟨b0, b1, b2, b3⟩) := by show _ = _; rw [get_bangB l k hlt, hek]
      have HBad : Hid (bdB (ps.map (·.2)) l[k]! = false → RES = false) := fun h => HB1.out k hlt (by rw [h]; rfl)
      have HNx : Hid (bdB (ps.map (·.2)) l[k]! = true → ∀ j, j < k + 1 → bdB (ps.map (·.2)) l[j]! = true) := fun h j hjk => by
        rcases Nat.lt_or_ge j k with h' | h'
        · exact ha j h'
        · obtain rfl : j = k := by omega
          exact h
      have HCk : Hid (∀ w, TensIn w p ps → Calls Tryz.prog 71 #[.agg #[.int .i64 b0, .int .i64 b1, .int .i64 b2, .int .i64 b3], .agg #[.slice p ps.length cap, .slice (some ⟨g, 0, none⟩) l.length cb, .slice pl nl cl, .int .i64 lost]] w fun e w' => e = .returned (.bool (bdB (ps.map (·.2)) ⟨b0, b1, b2, b3⟩)) ∧ Below w.heap.size w w') := HC.out b0 b1 b2 b3
      clear HB1 HG ha hek HC HRI
      generalize bdB (ps.map (·.2)) l[k]! = SB at *
      generalize bdB (ps.map (·.2)) ⟨b0, b1, b2, b3⟩ = A1 at *
      have r1 := r0.alloc (.cells #[.int .i64 b0, .int .i64 b1, .int .i64 b2, .int .i64 b3] 80)
      have hB1 := hB.alloc hB.size (.cells #[.int .i64 b0, .int .i64 b1, .int .i64 b2, .int .i64 b3] 80)
      have t0 : (wr.alloc (.cells #[.int .i64 b0, .int .i64 b1, .int .i64 b2, .int .i64 b3] 80)).cell? ⟨w.heap.size, 0, none⟩ = some (.slice p ps.length cap) := r1.cell 0
      have t1 : (wr.alloc (.cells #[.int .i64 b0, .int .i64 b1, .int .i64 b2, .int .i64 b3] 80)).cell? ⟨w.heap.size, 1, none⟩ = some (.slice (some ⟨g, 0, none⟩) l.length cb) := r1.cell 1
      have t2 : (wr.alloc (.cells #[.int .i64 b0, .int .i64 b1, .int .i64 b2, .int .i64 b3] 80)).cell? ⟨w.heap.size, 2, none⟩ = some (.slice pl nl cl) := r1.cell 2
      have t3 : (wr.alloc (.cells #[.int .i64 b0, .int .i64 b1, .int .i64 b2, .int .i64 b3] 80)).cell? ⟨w.heap.size, 3, none⟩ = some (.int .i64 lost) := r1.cell 3
      have HBB : Hid _ := And.intro r1 hB1
      clear r0 hB r1 hB1
      go_wp2_with fail
      clear c0 c1 c2 c3 t0 t1 t2 t3
      obtain ⟨r1, hB1⟩ := HBB.out
      refine (HCk.out _ (HX.out.1.below hB1)).mono ?_
      rintro e w2 ⟨rfl, hb2⟩
      have HF : Hid _ := And.intro (r1.below hb2 r1.lt) (hB1.trans (hb2.mono hB1.size))
      clear HBB r1 hB1 hb2 HCk
      cases A1
      · have hR := HBad.out HK.out
        go_wp2
        go_ret
        exact ⟨by first | rfl | (rw [hR]; rfl), HF.out.2⟩
      · have HNN : Hid _ := HNx.out HK.out
        clear HNx HBad
        go_wp2_with fail
        go_roundw
        case rel => exact ⟨k + 1, hlt, by go_num, HNN.out, HF.out.1, HF.out.2⟩
        case measure => simp [intOf]; omega
    · obtain rfl : k = l.length := by omega
      have d1 : decide ((l.length : Int) < (l.length : Int)) = false := by simp
      have HA : Hid (∀ j, j < l.length → bdB (ps.map (·.2)) l[j]! = true) := ha
      have t0 : wr.cell? ⟨w.heap.size, 0, none⟩ = some (.slice p ps.length cap) := r0.cell 0
      have t1 : wr.cell? ⟨w.heap.size, 1, none⟩ = some (.slice pb l.length cb) := r0.cell 1
      have t2 : wr.cell? ⟨w.heap.size, 2, none⟩ = some (.slice pl nl cl) := r0.cell 2
      have t3 : wr.cell? ⟨w.heap.size, 3, none⟩ = some (.int .i64 lost) := r0.cell 3
      have HB : Hid _ := hB
      clear hlt hk ha hB r0 HC
      go_wp2_with fail
      clear t0 t1 t2 t3
      refine (HRI.out _ (HX.out.2.below HB.out)).mono ?_
      rintro e w1 ⟨⟨R, rfl, hr1, hr2⟩, hb1⟩
      have hB := HB.out.trans (hb1.mono HB.out.size)
      have HF : Hid (R = RES) := by
        cases R
        · obtain ⟨j, hj, hu⟩ := hr2 rfl
          exact (HB1.out j hj (by rw [hu, Bool.and_false])).symm
        · exact (HG.out h9 (fun j hj => by rw [HA.out j hj, hr1 rfl j hj]; rfl)).symm
      clear hr1 hr2 hb1 HRI HB HB1 HG HX
      go_wp2
      go_ret
      exact ⟨by rw [← HF.out]; rfl, hB⟩
set_option maxRecDepth 100000 in
set_option maxHeartbeats 4000000 in
theorem implBox_any (p : Option Addr) (cap : Nat) (ps : List TnP) (pb : Option Addr) (cb : Nat) (l : List Bd) (pl : Option Addr) (cl : Nat) (ls : List Lk) (lost : Int) (w : World) (h : TensIn w p ps) (hb0 : BdsIn w pb l) (hk0 : LksIn w pl ls) (hn : ps.length ≤ 100000000) (hm : ∀ e ∈ ps, TnM e.2 ∧ TpC e.1 e.2) (hl : l.length ≤ 100000000) (hk : ls.length ≤ 100000000) :
    Calls Tryz.prog 19 #[.agg #[.slice p ps.length cap, .slice pb l.length cb, .slice pl ls.length cl, .int .i64 lost]] w fun e w' => e = .returned (.bool (boxB (ps.map (·.2)) l ls lost)) ∧ Below w.heap.size w w' := by
  have H1 : Hid (∀ w, TensIn w p ps → Calls Tryz.prog 39 #[.slice p ps.length cap] w fun e w' => e = .returned (.bool (tensB (ps.map (·.2)))) ∧ Below w.heap.size w w') := fun w h => tenantsRight_any p cap ps w h hn hm
  have H2 : Hid (∀ w, TensIn w p ps → BdsIn w pb l → Calls Tryz.prog 40 #[.agg #[.slice p ps.length cap, .slice pb l.length cb, .slice pl ls.length cl, .int .i64 lost]] w fun e w' => e = .returned (.bool (bindsB (ps.map (·.2)) l)) ∧ Below w.heap.size w w') := fun w a b => bindsRight_any p cap ps pb cb l pl ls.length cl lost w a b hn hl
  have H3 : Hid (∀ w, LksIn w pl ls → Calls Tryz.prog 41 #[.slice pl ls.length cl] w fun e w' => e = .returned (.bool (lksB ls)) ∧ Below w.heap.size w w') := fun w a => implLeaks_any pl cl ls w a hk
  have H4 : Hid (∀ w, Calls Tryz.prog 42 #[.int .i64 lost] w fun e w' => e = .returned (.bool (inTime lost)) ∧ w = w') := fun w => isTime_any lost w
  have HX : Hid (TensIn w p ps ∧ BdsIn w pb l ∧ LksIn w pl ls) := ⟨h, hb0, hk0⟩
  have HR : Hid (boxB (ps.map (·.2)) l ls lost = (tensB (ps.map (·.2)) && (bindsB (ps.map (·.2)) l && (lksB ls && inTime lost)))) := rfl
  clear h hb0 hk0 hn hm hl hk
  generalize boxB (ps.map (·.2)) l ls lost = RES at *
  generalize tensB (ps.map (·.2)) = V1 at *
  generalize bindsB (ps.map (·.2)) l = V2 at *
  generalize lksB ls = V3 at *
  generalize inTime lost = V4 at *
  have HQ : Hid _ := And.intro (Row.new w 33 [.slice p ps.length cap, .slice pb l.length cb, .slice pl ls.length cl, .int .i64 lost]) (ent_new0 w (.cells #[.slice p ps.length cap, .slice pb l.length cb, .slice pl ls.length cl, .int .i64 lost] 33))
  go_enter Tryz.func19, Tryz.ntmps19
  go_wp2_with fail
  obtain ⟨r0, hB⟩ := HQ.out
  clear HQ
  refine (H1.out _ (HX.out.1.below hB)).mono ?_
  rintro e w1 ⟨rfl, hb1⟩
  have r0 := r0.below hb1 r0.lt
  have hB := hB.trans (hb1.mono hB.size)
  clear hb1
  have hR := HR.out
  clear HR H1
  cases V1
  · rw [Bool.false_and] at hR
    go_wp2
    go_ret
    exact ⟨by first | rfl | (rw [hR]; rfl), hB⟩
  rw [Bool.true_and] at hR
  have s0 : w1.cell? ⟨w.heap.size, 0, none⟩ = some (.slice p ps.length cap) := r0.cell 0
  have s1 : w1.cell? ⟨w.heap.size, 1, none⟩ = some (.slice pb l.length cb) := r0.cell 1
  have s2 : w1.cell? ⟨w.heap.size, 2, none⟩ = some (.slice pl ls.length cl) := r0.cell 2
  have s3 : w1.cell? ⟨w.heap.size, 3, none⟩ = some (.int .i64 lost) := r0.cell 3
  go_wp2_with fail
  clear s0 s1 s2 s3
  refine (H2.out _ (HX.out.1.below hB) (HX.out.2.1.below hB)).mono ?_
  rintro e w2 ⟨rfl, hb2⟩
  have r0 := r0.below hb2 r0.lt
  have hB := hB.trans (hb2.mono hB.size)
  clear hb2
  clear H2
  cases V2
  · rw [Bool.false_and] at hR
    go_wp2
    go_ret
    exact ⟨by first | rfl | (rw [hR]; rfl), hB⟩
  rw [Bool.true_and] at hR
  have s0 : w2.cell? ⟨w.heap.size, 0, none⟩ = some (.slice p ps.length cap) := r0.cell 0
  have s1 : w2.cell? ⟨w.heap.size, 1, none⟩ = some (.slice pb l.length cb) := r0.cell 1
  have s2 : w2.cell? ⟨w.heap.size, 2, none⟩ = some (.slice pl ls.length cl) := r0.cell 2
  have s3 : w2.cell? ⟨w.heap.size, 3, none⟩ = some (.int .i64 lost) := r0.cell 3
  go_wp2_with fail
  clear s0 s1 s2 s3
  refine (H3.out _ (HX.out.2.2.below hB)).mono ?_
  rintro e w3 ⟨rfl, hb3⟩
  have r0 := r0.below hb3 r0.lt
  have hB := hB.trans (hb3.mono hB.size)
  clear hb3
  clear H3
  cases V3
  · rw [Bool.false_and] at hR
    go_wp2
    go_ret
    exact ⟨by first | rfl | (rw [hR]; rfl), hB⟩
  rw [Bool.true_and] at hR
  have s0 : w3.cell? ⟨w.heap.size, 0, none⟩ = some (.slice p ps.length cap) := r0.cell 0
  have s1 : w3.cell? ⟨w.heap.size, 1, none⟩ = some (.slice pb l.length cb) := r0.cell 1
  have s2 : w3.cell? ⟨w.heap.size, 2, none⟩ = some (.slice pl ls.length cl) := r0.cell 2
  have s3 : w3.cell? ⟨w.heap.size, 3, none⟩ = some (.int .i64 lost) := r0.cell 3
  go_wp2_with fail
  clear s0 s1 s2 s3
  refine (H4.out _).mono ?_
  rintro e w4 ⟨rfl, rfl⟩
  clear H4
  go_wp2
  go_ret
  exact ⟨by first | rfl | (rw [hR]; rfl), hB⟩
end Go.Proofs.YtlnfocpgmobhpaaGreatDoor
/- Is there such an iface? By the model. -/
namespace Go.Proofs.YtlnfocpgmobhpaaGreatDoor
open Go.RowKit Go.Sort

set_option maxRecDepth 100000 in
set_option maxHeartbeats 2000000 in
theorem l07There_any (x : Option Addr) (n1 c1 : Nat) (y : Option Addr) (n2 c2 : Nat) (now i : Int) (w : World) (hn : n1 ≤ 100000000) :
    Calls Tryz.prog 14 #[instV x n1 c1 y n2 c2 now, .int .i64 i] w fun e w' => e = .returned (.bool (decide (0 ≤ i ∧ i ≤ (n1 : Int) - 1))) ∧ Below w.heap.size w w' := by
  have HI : Hid (∀ w, Calls Tryz.prog 30 #[.int .i64 i, .int .i64 0, .int .i64 ((n1 : Int) - 1)] w fun e w' => e = .returned (.bool (decide (0 ≤ i ∧ i ≤ (n1 : Int) - 1))) ∧ w = w') := fun w => l03Is_any i 0 ((n1 : Int) - 1) w
  generalize decide (0 ≤ i ∧ i ≤ (n1 : Int) - 1) = R at *
  unfold instV
  go_enter Tryz.func14, Tryz.ntmps14
  go_wp2_with fail
  refine (HI.out _).mono ?_
  rintro e w1 ⟨rfl, rfl⟩
  go_wp2
  go_ret
  exact ⟨rfl, ent_new0 w _⟩
end Go.Proofs.YtlnfocpgmobhpaaGreatDoor
/- Is there an Iface, and is it near: by the model. (Written by gen_near2.py.) -/
namespace Go.Proofs.YtlnfocpgmobhpaaGreatDoor
open Go.RowKit Go.Sort

theorem ifsB_right {is : List If} (h : ifsB is = true) (k : Nat) (hk : k < is.length) : rightB is[k].a is[k].l = true := by
  unfold ifsB at h
  simp only [Bool.and_eq_true, List.all_eq_true, List.mem_range] at h
  have := h.2 k hk
  unfold ifsOk at this
  rw [getElem!_pos is k hk] at this
  simp only [Bool.and_eq_true] at this
  have h1 := this.1
  unfold ifB at h1
  simp only [Bool.and_eq_true] at h1
  have h2 := h1.1
  unfold coversB at h2
  simp only [Bool.and_eq_true] at h2
  exact h2.1
theorem instB_ifs {is : List If} {rs : List Rt} {now : Int} (h : instB is rs now = true) : ifsB is = true ∧ ribB rs = true ∧ 0 ≤ now ∧ now ≤ 999800 := by
  unfold instB at h
  simp only [Bool.and_eq_true, decide_eq_true_eq] at h
  exact h
end Go.Proofs.YtlnfocpgmobhpaaGreatDoor
/- Is there such a tenant? By the model. (Written by gen_boxs.py.) -/
namespace Go.Proofs.YtlnfocpgmobhpaaGreatDoor
open Go.RowKit Go.Sort

set_option maxRecDepth 100000 in
set_option maxHeartbeats 4000000 in
theorem l09There_any (p : Option Addr) (nt cap : Nat) (pb : Option Addr) (nb cb : Nat) (pl : Option Addr) (nl cl : Nat) (lost : Int) (n : Int) (w : World) (hn : nt ≤ 100000000) :
    Calls Tryz.prog 13 #[.agg #[.slice p nt cap, .slice pb nb cb, .slice pl nl cl, .int .i64 lost], .int .i64 n] w fun e w' => e = .returned (.bool (decide (0 ≤ n ∧ n ≤ (nt : Int) - 1))) ∧ Below w.heap.size w w' := by
  have HI : Hid (∀ w, Calls Tryz.prog 30 #[.int .i64 n, .int .i64 0, .int .i64 ((nt : Int) - 1)] w fun e w' => e = .returned (.bool (decide (0 ≤ n ∧ n ≤ (nt : Int) - 1))) ∧ w = w') := fun w => l03Is_any n 0 ((nt : Int) - 1) w
  have HB : Hid _ := ent_new0 w (.cells #[.slice p nt cap, .slice pb nb cb, .slice pl nl cl, .int .i64 lost] 33)
  generalize decide (0 ≤ n ∧ n ≤ (nt : Int) - 1) = R at *
  go_enter Tryz.func13, Tryz.ntmps13
  go_wp2_with fail
  refine (HI.out _).mono ?_
  rintro e w1 ⟨rfl, rfl⟩
  go_wp2
  go_ret
  exact ⟨rfl, HB.out⟩
end Go.Proofs.YtlnfocpgmobhpaaGreatDoor
/- BoxRight of the model. (Written by gen_boxs.py.) -/
namespace Go.Proofs.YtlnfocpgmobhpaaGreatDoor
open Go.RowKit Go.Sort

theorem bdB_0 {ts : List Tn} {b0 b1 b2 b3 : Int} (h : ¬ (0 ≤ b0 ∧ b0 ≤ 3)) : bdB ts ⟨b0, b1, b2, b3⟩ = false := by
  unfold bdB
  by_cases h0 : 0 ≤ b0
  · rw [decide_eq_false (show ¬ b0 ≤ 3 by omega)]; simp
  · rw [decide_eq_false h0]; rfl
theorem bdB_1 {ts : List Tn} {b0 b1 b2 b3 : Int} (h : ¬ (1 ≤ b1 ∧ b1 ≤ 4094)) : bdB ts ⟨b0, b1, b2, b3⟩ = false := by
  unfold bdB
  by_cases h0 : 1 ≤ b1
  · rw [decide_eq_false (show ¬ b1 ≤ 4094 by omega)]; simp
  · rw [decide_eq_false h0]; simp
theorem bdB_2 {ps : List TnP} {b0 b1 b2 b3 : Int} (h : ¬ (0 ≤ b2 ∧ b2 ≤ (ps.length : Int) - 1)) : bdB (ps.map (·.2)) ⟨b0, b1, b2, b3⟩ = false := by
  unfold bdB inFc inTn
  rw [List.length_map]
  by_cases h0 : 0 ≤ b2
  · rw [decide_eq_false (show ¬ b2 < (ps.length : Int) by omega)]; simp
  · rw [decide_eq_false h0]; simp
theorem bdB_3 {ps : List TnP} {b0 b1 b3 : Int} {n : Nat} {a : Tp} {t : Tn} (h0 : 0 ≤ b0 ∧ b0 ≤ 3) (h1 : 1 ≤ b1 ∧ b1 ≤ 4094) (hn : n < ps.length) (he : ps[n] = (a, t)) : bdB (ps.map (·.2)) ⟨b0, b1, (n : Int), b3⟩ = decide (0 ≤ b3 ∧ b3 ≤ (t.is.length : Int) - 1) := by
  unfold bdB inFc inTn
  simp only
  rw [List.length_map, decide_eq_true h0.1, decide_eq_true h0.2, decide_eq_true h1.1, decide_eq_true h1.2, decide_eq_true (show 0 ≤ (n : Int) by omega), decide_eq_true (show (n : Int) < (ps.length : Int) by omega), Int.toNat_natCast, tn_at hn he, ← Bool.decide_and]
  simp only [Bool.true_and]
  exact decide_eq_decide.2 (by omega)
set_option maxRecDepth 100000 in
set_option maxHeartbeats 16000000 in
theorem specBox_any (p : Option Addr) (cap : Nat) (ps : List TnP) (pb : Option Addr) (cb : Nat) (l : List Bd) (pl : Option Addr) (cl : Nat) (ls : List Lk) (lost : Int) (w : World) (h : TensIn w p ps) (hb0 : BdsIn w pb l) (hk0 : LksIn w pl ls) (hn : ps.length ≤ 100000000) (hm : ∀ e ∈ ps, TnM e.2 ∧ TpC e.1 e.2) (hl : l.length ≤ 100000000) (hk : ls.length ≤ 100000000) :
    Calls Tryz.prog 12 #[.agg #[.slice p ps.length cap, .slice pb l.length cb, .slice pl ls.length cl, .int .i64 lost]] w fun e w' => e = .returned (.bool (boxB (ps.map (·.2)) l ls lost)) ∧ Below w.heap.size w w' := by
  have HX : Hid (TensIn w p ps ∧ BdsIn w pb l ∧ LksIn w pl ls) := ⟨h, hb0, hk0⟩
  have HM : Hid (∀ e ∈ ps, TnM e.2 ∧ TpC e.1 e.2) := hm
  have HM2 : Hid (∀ e ∈ ps, e.2.is.length ≤ 100000000) := fun e he => (hm e he).1.1.1
  have HK : Hid (∀ w, LksIn w pl ls → Calls Tryz.prog 27 #[.slice pl ls.length cl] w fun e w' => e = .returned (.bool (lksB ls)) ∧ Below w.heap.size w w') := fun w a => specLeaks_any pl cl ls w a hk
  have HT : Hid (∀ w, Calls Tryz.prog 28 #[.int .i64 lost] w fun e w' => e = .returned (.bool (inTime lost)) ∧ w = w') := fun w => l03Time_any lost w
  have HD : Hid (∀ n w, Calls Tryz.prog 13 #[.agg #[.slice p ps.length cap, .slice pb l.length cb, .slice pl ls.length cl, .int .i64 lost], .int .i64 n] w fun e w' => e = .returned (.bool (decide (0 ≤ n ∧ n ≤ (ps.length : Int) - 1))) ∧ Below w.heap.size w w') := fun n w => l09There_any p ps.length cap pb l.length cb pl ls.length cl lost n w hn
  have HJ : Hid (∀ n a b w, Calls Tryz.prog 30 #[.int .i64 n, .int .i64 a, .int .i64 b] w fun e w' => e = .returned (.bool (decide (a ≤ n ∧ n ≤ b))) ∧ Below w.heap.size w w') := fun n a b w => (l03Is_any n a b w).mono (by rintro e w' ⟨rfl, rfl⟩; exact ⟨rfl, Below.refl _ _⟩)
  have HC : Hid True := trivial
  have HRE : Hid (boxB (ps.map (·.2)) l ls lost = (tensB (ps.map (·.2)) && (bindsB (ps.map (·.2)) l && (lksB ls && inTime lost)))) := rfl
  have HL1 : Hid (¬ 1 ≤ ps.length → boxB (ps.map (·.2)) l ls lost = false) := fun h => by unfold boxB; rw [tensB_few (by simpa using h), Bool.false_and]
  have HL3 : Hid (¬ ps.length ≤ 3 → boxB (ps.map (·.2)) l ls lost = false) := fun h => by unfold boxB; rw [tensB_many (by simpa using h), Bool.false_and]
  have HL9 : Hid (¬ l.length ≤ 9 → boxB (ps.map (·.2)) l ls lost = false) := fun h => by unfold boxB; rw [bindsB_long h, Bool.false_and, Bool.and_false]
  have HB1 : Hid (∀ k (hk : k < (ps.map (·.2)).length), tnOk (ps.map (·.2)) (ps.map (·.2))[k] = false → tensB (ps.map (·.2)) = false) := fun k hk h => tensB_bad hk h
  have HG : Hid (1 ≤ ps.length → ps.length ≤ 3 → (∀ j (hj : j < (ps.map (·.2)).length), tnOk (ps.map (·.2)) (ps.map (·.2))[j] = true) → tensB (ps.map (·.2)) = true) := fun a b c => tensB_good (by simpa using a) (by simpa using b) c
  have HB2 : Hid (∀ k, k < l.length → (bdB (ps.map (·.2)) l[k]! && bdUp l k) = false → bindsB (ps.map (·.2)) l = false) := fun k hk h => bindsB_bad hk h
  have HG2 : Hid (l.length ≤ 9 → (∀ j, j < l.length → (bdB (ps.map (·.2)) l[j]! && bdUp l j) = true) → bindsB (ps.map (·.2)) l = true) := fun a b => bindsB_good a b
  clear h hb0 hk0 hm
  generalize boxB (ps.map (·.2)) l ls lost = RES at *
  generalize tensB (ps.map (·.2)) = TB at *
  generalize bindsB (ps.map (·.2)) l = BB at *
  generalize lksB ls = V3 at *
  generalize inTime lost = V4 at *
  have HQ : Hid _ := And.intro (Row.new w 33 [.slice p ps.length cap, .slice pb l.length cb, .slice pl ls.length cl, .int .i64 lost]) (ent_new0 w (.cells #[.slice p ps.length cap, .slice pb l.length cb, .slice pl ls.length cl, .int .i64 lost] 33))
  have hRe := HRE.out
  by_cases h1 : 1 ≤ ps.length
  case neg =>
    have d1 : decide ((ps.length : Int) < 1) = true := by simp; omega
    have hR := HL1.out h1
    have hB := HQ.out.2
    clear HX HM HL1 HL3 HL9 HB1 HB2 HG HG2 HQ HRE hRe HK HT HC HD HJ
    go_enter Tryz.func12, Tryz.ntmps12
    go_wp2
    go_ret
    exact ⟨by first | rfl | (rw [hR]; rfl), hB⟩
  have d1 : decide ((ps.length : Int) < 1) = false := by simp; omega
  by_cases h3 : ps.length ≤ 3
  case neg =>
    have d3 : decide (3 < (ps.length : Int)) = true := by simp; omega
    have hR := HL3.out h3
    have hB := HQ.out.2
    clear HX HM HL1 HL3 HL9 HB1 HB2 HG HG2 HQ HRE hRe HK HT HC HD HJ
    go_enter Tryz.func12, Tryz.ntmps12
    go_wp2
    go_ret
    exact ⟨by first | rfl | (rw [hR]; rfl), hB⟩
  have d3 : decide (3 < (ps.length : Int)) = false := by simp; omega
  by_cases h9 : l.length ≤ 9
  case neg =>
    have d9 : decide (9 < (l.length : Int)) = true := by simp; omega
    have hR := HL9.out h9
    have hB := HQ.out.2
    clear HX HM HL1 HL3 HL9 HB1 HB2 HG HG2 HQ HRE hRe HK HT HC HD HJ
    go_enter Tryz.func12, Tryz.ntmps12
    go_wp2
    go_ret
    exact ⟨by first | rfl | (rw [hR]; rfl), hB⟩
  have d9 : decide (9 < (l.length : Int)) = false := by simp; omega
  go_enter Tryz.func12, Tryz.ntmps12
  go_wp2_with fail
  obtain ⟨r0, hB⟩ := HQ.out
  clear HQ
  refine (HK.out _ (HX.out.2.2.below hB)).mono ?_
  rintro e w1 ⟨rfl, hb1⟩
  have r0 := r0.below hb1 r0.lt
  have hB := hB.trans (hb1.mono hB.size)
  clear hb1
  clear HK
  cases V3
  · have hR : RES = false := by rw [hRe]; simp
    clear hRe HX HM HL1 HL3 HL9 HB1 HB2 HG HG2 HRE HT HC HD HJ
    go_wp2
    go_ret
    exact ⟨by first | rfl | (rw [hR]; rfl), hB⟩
  have s0 : w1.cell? ⟨w.heap.size, 0, none⟩ = some (.slice p ps.length cap) := r0.cell 0
  have s1 : w1.cell? ⟨w.heap.size, 1, none⟩ = some (.slice pb l.length cb) := r0.cell 1
  have s2 : w1.cell? ⟨w.heap.size, 2, none⟩ = some (.slice pl ls.length cl) := r0.cell 2
  have s3 : w1.cell? ⟨w.heap.size, 3, none⟩ = some (.int .i64 lost) := r0.cell 3
  go_wp2_with fail
  clear s0 s1 s2 s3
  refine (HT.out _).mono ?_
  rintro e w2 ⟨rfl, rfl⟩
  clear HT
  cases V4
  · have hR : RES = false := by rw [hRe]; simp
    clear hRe HX HM HL1 HL3 HL9 HB1 HB2 HG HG2 HRE HC HD HJ
    go_wp2
    go_ret
    exact ⟨by first | rfl | (rw [hR]; rfl), hB⟩
  rw [Bool.and_true, Bool.and_true] at hRe
  have HRR : Hid (RES = (TB && BB)) := hRe
  have HQ2 : Hid _ := And.intro r0 hB
  clear hRe HRE r0 hB d1 d3 d9
  go_wp2_with fail
  go_loopw [3] (fun i wr => ∃ k : Nat, k ≤ ps.length ∧ i = .int .i64 k ∧ (∀ j (hj : j < (ps.map (·.2)).length), j < k → tnOk (ps.map (·.2)) (ps.map (·.2))[j] = true) ∧ Row wr w.heap.size 33 [.slice p ps.length cap, .slice pb l.length cb, .slice pl ls.length cl, .int .i64 lost] ∧ Below w.heap.size w wr) (fun i _ => ps.length - (intOf i).toNat)
  case atStart => exact ⟨0, Nat.zero_le _, rfl, fun j _ hj => absurd hj (by omega), HQ2.out.1, HQ2.out.2⟩
  case round =>
    clear HQ2
    obtain ⟨k, hk, rfl, ha, rk, hBk⟩ := hrel
    have s0 : wr.cell? ⟨w.heap.size, 0, none⟩ = some (.slice p ps.length cap) := rk.cell 0
    have s1 : wr.cell? ⟨w.heap.size, 1, none⟩ = some (.slice pb l.length cb) := rk.cell 1
    have s2 : wr.cell? ⟨w.heap.size, 2, none⟩ = some (.slice pl ls.length cl) := rk.cell 2
    have s3 : wr.cell? ⟨w.heap.size, 3, none⟩ = some (.int .i64 lost) := rk.cell 3
    by_cases hlt : k < ps.length
    · have dk : decide ((k : Int) < (ps.length : Int)) = true := by simpa using hlt
      have d00 : decide ((0 : Int) < (ps.length : Int)) = true := by simp; omega
      have d01 : 0 < ps.length := by omega
      obtain ⟨g, a, t, rfl, hg, hek, hI, c0, c1, c2, c3, c4, c5, c6, c7⟩ := (HX.out.1.below hBk).at k hlt
      obtain ⟨g', a0, t0, e', hg', hek0, hI0, -, -, d2, -, -, -, -, -⟩ := (HX.out.1.below hBk).at 0 (by omega)
      cases e'
      have d2 : wr.cell? ⟨g, 2, none⟩ = some (.int .i64 t0.now) := by simpa using d2
      have hM := HM.out _ (List.getElem_mem hlt)
      rw [hek] at hM
      have hlm : k < (ps.map (·.2)).length := by simpa using hlt
      have HBad : Hid (tnOk (ps.map (·.2)) t = false → TB = false) := fun h => HB1.out k hlm (by rw [tn_at' hlt hek]; exact h)
      have HNx : Hid (tnOk (ps.map (·.2)) t = true → ∀ j (hj : j < (ps.map (·.2)).length), j < k + 1 → tnOk (ps.map (·.2)) (ps.map (·.2))[j] = true) := fun h j hj hjk => by
        rcases Nat.lt_or_ge j k with h' | h'
        · exact ha j hj h'
        · obtain rfl : j = k := by omega
          rw [tn_at' hlt hek]; exact h
      have HOk : Hid (tnOk (ps.map (·.2)) t = (tenT t && decide (t.now = t0.now))) := by show _ = _; unfold tnOk; rw [tn_at (by omega) hek0]
      have HCr : Hid (∀ d os, Calls Tryz.prog 29 #[.agg #[.slice a.x t.is.length a.c1, .slice a.y t.rs.length a.c2, .int .i64 t.now, .string t.key, .int .i64 t.qu, .slice a.p t.ss.length a.c3, .slice a.q t.es.length a.c4, .int .i64 t.dr]] (grow (redrawn wr d) os) fun e w'' => e = .returned (.bool (tenT t)) ∧ ∃ p : Regrown, w'' = grow (redrawn wr p.d) p.os) := fun d os => Calls.regrown_of (specTenant_any a.x a.c1 a.y a.c2 a.p a.c3 a.q a.c4 t.is t.rs t.now t.key t.qu t.ss t.es t.dr _ (hI.below (below_regrown _ d os)) hM.2 hM.1.2.1 hM.1.2.2 hM.1.1)
      have HBB : Hid _ := And.intro rk hBk
      clear HB1 HB2 HG HG2 HL1 HL3 HL9 ha hek hek0 hI hI0 hM HX HM hlm HC HD HJ rk hBk s0 s1 s2 s3
      generalize tnOk (ps.map (·.2)) t = OK at *
      generalize tenT t = TV at *
      generalize t0.now = n0 at *
      generalize a.x = ax at *
      generalize a.y = ay at *
      generalize a.p = ap at *
      generalize a.q = aq at *
      generalize a.c1 = ac1 at *
      generalize a.c2 = ac2 at *
      generalize a.c3 = ac3 at *
      generalize a.c4 = ac4 at *
      generalize t.is.length = tn1 at *
      generalize t.rs.length = tn2 at *
      generalize t.ss.length = tn3 at *
      generalize t.es.length = tn4 at *
      generalize t.now = tw at *
      generalize t.key = tk at *
      generalize t.qu = tq at *
      generalize t.dr = td at *
      have s0 : wr.cell? ⟨w.heap.size, 0, none⟩ = some (.slice (some ⟨g, 0, none⟩) ps.length cap) := HBB.out.1.cell 0
      go_wp2_with fail
      replace c0 := cell_regrown c0
      replace c1 := cell_regrown c1
      replace c2 := cell_regrown c2
      replace c3 := cell_regrown c3
      replace c4 := cell_regrown c4
      replace c5 := cell_regrown c5
      replace c6 := cell_regrown c6
      replace c7 := cell_regrown c7
      replace d2 := cell_regrown d2
      replace s0 := cell_regrown s0
      cases TV
      · have hV := HBad.out (by rw [HOk.out]; rfl)
        clear HBad HNx HOk
        have hR := HRR.out.trans (show (TB && BB) = false by rw [hV, Bool.false_and])
        clear hV
        refine wp_region_quiet_below (by kernel_rfl) (by kernel_rfl) ?_
        repeat (go_big_quiet_step ((go_at_call 29; exact HCr.out _ _)))
        refine wpQuiet_nil ?_
        intro w1 hw'
        obtain ⟨⟨dq, osq⟩, hw''⟩ := hw'
        have hbq := below_regrown wr dq osq
        rw [← hw''] at hbq
        clear hw'' osq dq
        clear d2 s0 c0 c1 c2 c3 c4 c5 c6 c7 HCr
        have hB := HBB.out.2.trans (hbq.mono HBB.out.2.size)
        clear hbq HBB
        go_wp2
        go_ret
        exact ⟨by first | rfl | (rw [hR]; rfl), hB⟩
      by_cases hz : tw = n0
      · have dz : (tw != n0) = false := by simp [hz]
        have HN : Hid _ := HNx.out (by rw [HOk.out, decide_eq_true hz]; rfl)
        clear HBad HNx HOk hz
        refine wp_region_quiet_below (by kernel_rfl) (by kernel_rfl) ?_
        repeat (go_big_quiet_step ((go_at_call 29; exact HCr.out _ _)))
        refine wpQuiet_nil ?_
        intro w1 hw'
        obtain ⟨⟨dq, osq⟩, hw''⟩ := hw'
        have hbq := below_regrown wr dq osq
        rw [← hw''] at hbq
        clear hw'' osq dq
        clear d2 s0 c0 c1 c2 c3 c4 c5 c6 c7 HCr
        have HB : Hid _ := And.intro (HBB.out.1.below hbq HBB.out.1.lt) (HBB.out.2.trans (hbq.mono HBB.out.2.size))
        clear hbq HBB
        go_wp2
        go_roundw
        case rel => exact ⟨k + 1, hlt, by go_num, HN.out, HB.out.1, HB.out.2⟩
        case measure => simp [intOf]; omega
      · have dz : (tw != n0) = true := bne_iff_ne.2 hz
        have hV := HBad.out (by rw [HOk.out, decide_eq_false hz]; rfl)
        clear HBad HNx HOk hz
        have hR := HRR.out.trans (show (TB && BB) = false by rw [hV, Bool.false_and])
        clear hV
        refine wp_region_quiet_below (by kernel_rfl) (by kernel_rfl) ?_
        repeat (go_big_quiet_step ((go_at_call 29; exact HCr.out _ _)))
        refine wpQuiet_nil ?_
        intro w1 hw'
        obtain ⟨⟨dq, osq⟩, hw''⟩ := hw'
        have hbq := below_regrown wr dq osq
        rw [← hw''] at hbq
        clear hw'' osq dq
        clear d2 s0 c0 c1 c2 c3 c4 c5 c6 c7 HCr
        have hB := HBB.out.2.trans (hbq.mono HBB.out.2.size)
        clear hbq HBB
        go_wp2
        go_ret
        exact ⟨by first | rfl | (rw [hR]; rfl), hB⟩
    · have dk : decide ((k : Int) < (ps.length : Int)) = false := by simpa using hlt
      have HTB : Hid (TB = true) := HG.out h1 h3 (fun j hj => ha j hj (by simp at hj; omega))
      have HQ3 : Hid _ := And.intro rk hBk
      clear ha HB1 HG HL1 HL3 HM HC
      go_wp2_with fail
      clear s0 s1 s2 s3 rk hBk
      go_loopw [4] (fun i wr => ∃ k : Nat, k ≤ l.length ∧ i = .int .i64 k ∧ (∀ j, j < k → (bdB (ps.map (·.2)) l[j]! && bdUp l j) = true) ∧ Row wr w.heap.size 33 [.slice p ps.length cap, .slice pb l.length cb, .slice pl ls.length cl, .int .i64 lost] ∧ Below w.heap.size w wr) (fun i _ => l.length - (intOf i).toNat)
      case atStart => exact ⟨0, Nat.zero_le _, rfl, fun j hj => absurd hj (by omega), HQ3.out.1, HQ3.out.2⟩
      case round =>
        clear HQ3
        obtain ⟨m, hm, rfl, ha, rm, hBm⟩ := hrel
        have s0 : wr.cell? ⟨w.heap.size, 0, none⟩ = some (.slice p ps.length cap) := rm.cell 0
        have s1 : wr.cell? ⟨w.heap.size, 1, none⟩ = some (.slice pb l.length cb) := rm.cell 1
        have s2 : wr.cell? ⟨w.heap.size, 2, none⟩ = some (.slice pl ls.length cl) := rm.cell 2
        have s3 : wr.cell? ⟨w.heap.size, 3, none⟩ = some (.int .i64 lost) := rm.cell 3
        by_cases hlt2 : m < l.length
        · have dm : decide ((m : Int) < (l.length : Int)) = true := by simpa using hlt2
          obtain ⟨g, b0, b1, b2, b3, rfl, hg, hek, c0, c1, c2, c3⟩ := (HX.out.2.1.below hBm).at m hlt2
          have HEK : Hid (bdB (ps.map (·.2)) l[m]! = bdB (ps.map (·.2)) ⟨b0, b1, b2, b3⟩ ∧ l[m] = ⟨b0, b1, b2, b3⟩) := ⟨by rw [get_bangB l m hlt2, hek], hek⟩
          have HBad : Hid ((bdB (ps.map (·.2)) l[m]! && bdUp l m) = false → BB = false) := fun h => HB2.out m hlt2 h
          have HNx : Hid ((bdB (ps.map (·.2)) l[m]! && bdUp l m) = true → ∀ j, j < m + 1 → (bdB (ps.map (·.2)) l[j]! && bdUp l j) = true) := fun h j hjk => by
            rcases Nat.lt_or_ge j m with h' | h'
            · exact ha j h'
            · obtain rfl : j = m := by omega
              exact h
          have HDk : Hid (∀ w, Calls Tryz.prog 13 #[.agg #[.slice p ps.length cap, .slice (some ⟨g, 0, none⟩) l.length cb, .slice pl ls.length cl, .int .i64 lost], .int .i64 b2] w fun e w' => e = .returned (.bool (decide (0 ≤ b2 ∧ b2 ≤ (ps.length : Int) - 1))) ∧ Below w.heap.size w w') := HD.out b2
          have rm1 := rm.alloc (.cells #[.int .i64 b0, .int .i64 b1, .int .i64 b2, .int .i64 b3] 80)
          have hBm1 := hBm.alloc hBm.size (.cells #[.int .i64 b0, .int .i64 b1, .int .i64 b2, .int .i64 b3] 80)
          have rx := Row.new wr 80 [.int .i64 b0, .int .i64 b1, .int .i64 b2, .int .i64 b3]
          have HBB : Hid _ := And.intro rm1 (And.intro hBm1 rx)
          clear ha hek HB2 HG2 HL9 HD rm hBm rm1 hBm1 rx
          go_wp2_with fail
          clear s0 s1 s2 s3 c0 c1 c2 c3
          generalize hbx : wr.heap.size = bx at *
          generalize wr.alloc (.cells #[.int .i64 b0, .int .i64 b1, .int .i64 b2, .int .i64 b3] 80) = W at *
          clear hbx
          obtain ⟨rm, hB, rx⟩ := HBB.out
          clear HBB
          have s0 : W.cell? ⟨w.heap.size, 0, none⟩ = some (.slice p ps.length cap) := rm.cell 0
          have s1 : W.cell? ⟨w.heap.size, 1, none⟩ = some (.slice (some ⟨g, 0, none⟩) l.length cb) := rm.cell 1
          have s2 : W.cell? ⟨w.heap.size, 2, none⟩ = some (.slice pl ls.length cl) := rm.cell 2
          have s3 : W.cell? ⟨w.heap.size, 3, none⟩ = some (.int .i64 lost) := rm.cell 3
          have x0 : W.cell? ⟨bx, 0, none⟩ = some (.int .i64 b0) := rx.cell 0
          have x1 : W.cell? ⟨bx, 1, none⟩ = some (.int .i64 b1) := rx.cell 1
          have x2 : W.cell? ⟨bx, 2, none⟩ = some (.int .i64 b2) := rx.cell 2
          have x3 : W.cell? ⟨bx, 3, none⟩ = some (.int .i64 b3) := rx.cell 3
          have HBB : Hid _ := And.intro rm (And.intro hB rx)
          clear rm hB rx
          replace s0 := cell_regrown s0
          replace s1 := cell_regrown s1
          replace s2 := cell_regrown s2
          replace s3 := cell_regrown s3
          replace x0 := cell_regrown x0
          replace x1 := cell_regrown x1
          replace x2 := cell_regrown x2
          replace x3 := cell_regrown x3
          by_cases k0 : 0 ≤ b0 ∧ b0 ≤ 3
          case neg =>
            have e0 : decide (0 ≤ b0 ∧ b0 ≤ 3) = false := decide_eq_false k0
            have hv : bdB (ps.map (·.2)) ⟨b0, b1, b2, b3⟩ = false := bdB_0 k0
            have hR := HRR.out.trans (show (TB && BB) = false by rw [HTB.out, Bool.true_and]; exact HBad.out (by rw [HEK.out.1, hv, Bool.false_and]))
            clear hv HBad HNx HEK
            refine wp_region_quiet_below (by kernel_rfl) (by kernel_rfl) ?_
            repeat (go_big_quiet_step ((go_at_call 30; exact Calls.regrown_of (HJ.out _ _ _ _))))
            refine wpQuiet_nil ?_
            intro w1 hw'
            obtain ⟨⟨dq, osq⟩, hw''⟩ := hw'
            have hbq := below_regrown W dq osq
            rw [← hw''] at hbq
            clear hw'' osq dq
            clear s0 x0 s1 x1 s2 x2 s3 x3 HDk
            have hB := HBB.out.2.1.trans (hbq.mono HBB.out.2.1.size)
            clear hbq HBB
            go_wp2
            go_ret
            exact ⟨by first | rfl | (rw [hR]; rfl), hB⟩
          have e0 : decide (0 ≤ b0 ∧ b0 ≤ 3) = true := decide_eq_true k0
          by_cases k1 : 1 ≤ b1 ∧ b1 ≤ 4094
          case neg =>
            have e1 : decide (1 ≤ b1 ∧ b1 ≤ 4094) = false := decide_eq_false k1
            have hv : bdB (ps.map (·.2)) ⟨b0, b1, b2, b3⟩ = false := bdB_1 k1
            have hR := HRR.out.trans (show (TB && BB) = false by rw [HTB.out, Bool.true_and]; exact HBad.out (by rw [HEK.out.1, hv, Bool.false_and]))
            clear hv HBad HNx HEK
            refine wp_region_quiet_below (by kernel_rfl) (by kernel_rfl) ?_
            repeat (go_big_quiet_step ((go_at_call 30; exact Calls.regrown_of (HJ.out _ _ _ _))))
            refine wpQuiet_nil ?_
            intro w1 hw'
            obtain ⟨⟨dq, osq⟩, hw''⟩ := hw'
            have hbq := below_regrown W dq osq
            rw [← hw''] at hbq
            clear hw'' osq dq
            clear s0 x0 s1 x1 s2 x2 s3 x3 HDk
            have hB := HBB.out.2.1.trans (hbq.mono HBB.out.2.1.size)
            clear hbq HBB
            go_wp2
            go_ret
            exact ⟨by first | rfl | (rw [hR]; rfl), hB⟩
          have e1 : decide (1 ≤ b1 ∧ b1 ≤ 4094) = true := decide_eq_true k1
          by_cases k2 : 0 ≤ b2 ∧ b2 ≤ (ps.length : Int) - 1
          case neg =>
            have e2 : decide (0 ≤ b2 ∧ b2 ≤ (ps.length : Int) - 1) = false := decide_eq_false k2
            have hv : bdB (ps.map (·.2)) ⟨b0, b1, b2, b3⟩ = false := bdB_2 k2
            have hR := HRR.out.trans (show (TB && BB) = false by rw [HTB.out, Bool.true_and]; exact HBad.out (by rw [HEK.out.1, hv, Bool.false_and]))
            clear hv HBad HNx HEK
            refine wp_region_quiet_below (by kernel_rfl) (by kernel_rfl) ?_
            repeat (go_big_quiet_step (first | (go_at_call 30; exact Calls.regrown_of (HJ.out _ _ _ _)) | (go_at_call 13; exact Calls.regrown_of (HDk.out _))))
            refine wpQuiet_nil ?_
            intro w1 hw'
            obtain ⟨⟨dq, osq⟩, hw''⟩ := hw'
            have hbq := below_regrown W dq osq
            rw [← hw''] at hbq
            clear hw'' osq dq
            clear s0 x0 s1 x1 s2 x2 s3 x3 HDk
            have hB := HBB.out.2.1.trans (hbq.mono HBB.out.2.1.size)
            clear hbq HBB
            go_wp2
            go_ret
            exact ⟨by first | rfl | (rw [hR]; rfl), hB⟩
          have e2 : decide (0 ≤ b2 ∧ b2 ≤ (ps.length : Int) - 1) = true := decide_eq_true k2
          obtain ⟨n, rfl⟩ : ∃ n : Nat, b2 = (n : Int) := ⟨b2.toNat, by omega⟩
          have hn2 : n < ps.length := by omega
          obtain ⟨g', a, t, hp, hg', hek', hI, y0, y1, y2, -, -, -, -, -⟩ := (HX.out.1.below HBB.out.2.1).at n hn2
          have HTh : Hid (∀ w, Calls Tryz.prog 14 #[.agg #[.slice a.x t.is.length a.c1, .slice a.y t.rs.length a.c2, .int .i64 t.now], .int .i64 b3] w fun e w' => e = .returned (.bool (decide (0 ≤ b3 ∧ b3 ≤ (t.is.length : Int) - 1))) ∧ Below w.heap.size w w') := fun w => l07There_any _ _ _ _ _ _ _ _ w (by have := HM2.out _ (List.getElem_mem hn2); rw [hek'] at this; exact this)
          have HI : Hid (bdB (ps.map (·.2)) ⟨b0, b1, (n : Int), b3⟩ = decide (0 ≤ b3 ∧ b3 ≤ (t.is.length : Int) - 1)) := bdB_3 k0 k1 hn2 hek'
          clear hI hek'
          subst hp
          have dn : decide ((n : Int) < (ps.length : Int)) = true := by simpa using hn2
          generalize a.x = ax at *
          generalize a.y = ay at *
          generalize a.c1 = ac1 at *
          generalize a.c2 = ac2 at *
          generalize t.rs.length = tn2 at *
          generalize t.now = tw at *
          generalize t.is.length = tn1 at *
          replace y0 := cell_regrown y0
          replace y1 := cell_regrown y1
          replace y2 := cell_regrown y2
          by_cases k3 : 0 ≤ b3 ∧ b3 ≤ (tn1 : Int) - 1
          case neg =>
            have e3 : decide (0 ≤ b3 ∧ b3 ≤ (tn1 : Int) - 1) = false := decide_eq_false k3
            have hv := HI.out.trans e3
            have hR := HRR.out.trans (show (TB && BB) = false by rw [HTB.out, Bool.true_and]; exact HBad.out (by rw [HEK.out.1, hv, Bool.false_and]))
            clear hv HBad HNx HEK
            refine wp_region_quiet_below (by kernel_rfl) (by kernel_rfl) ?_
            repeat (go_big_quiet_step (first | (go_at_call 30; exact Calls.regrown_of (HJ.out _ _ _ _)) | (go_at_call 13; exact Calls.regrown_of (HDk.out _)) | (go_at_call 14; exact Calls.regrown_of (HTh.out _))))
            refine wpQuiet_nil ?_
            intro w1 hw'
            obtain ⟨⟨dq, osq⟩, hw''⟩ := hw'
            have hbq := below_regrown W dq osq
            rw [← hw''] at hbq
            clear hw'' osq dq
            clear s0 x0 s1 x1 s2 x2 s3 x3 HDk HTh y0 y1 y2
            have hB := HBB.out.2.1.trans (hbq.mono HBB.out.2.1.size)
            clear hbq HBB
            go_wp2
            go_ret
            exact ⟨by first | rfl | (rw [hR]; rfl), hB⟩
          have e3 : decide (0 ≤ b3 ∧ b3 ≤ (tn1 : Int) - 1) = true := decide_eq_true k3
          have hv := HI.out.trans e3
          refine wp_region_quiet_below (by kernel_rfl) (by kernel_rfl) ?_
          repeat (go_big_quiet_step (first | (go_at_call 30; exact Calls.regrown_of (HJ.out _ _ _ _)) | (go_at_call 13; exact Calls.regrown_of (HDk.out _)) | (go_at_call 14; exact Calls.regrown_of (HTh.out _))))
          refine wpQuiet_nil ?_
          intro w1 hw'
          obtain ⟨⟨dq, osq⟩, hw''⟩ := hw'
          have hbq := below_regrown W dq osq
          rw [← hw''] at hbq
          clear hw'' osq dq
          clear s0 x0 s1 x1 s2 x2 s3 x3 HDk HTh y0 y1 y2
          have rm := HBB.out.1.below hbq HBB.out.1.lt
          have rx := HBB.out.2.2.below hbq HBB.out.2.2.lt
          have hB := HBB.out.2.1.trans (hbq.mono HBB.out.2.1.size)
          clear hbq HBB
          have HV : Hid _ := hv
          clear hv HI
          rw [HEK.out.1] at HBad HNx
          rw [HV.out, Bool.true_and] at HBad HNx
          have s1 : w1.cell? ⟨w.heap.size, 1, none⟩ = some (.slice (some ⟨g, 0, none⟩) l.length cb) := rm.cell 1
          have x0 : w1.cell? ⟨bx, 0, none⟩ = some (.int .i64 b0) := rx.cell 0
          have x1 : w1.cell? ⟨bx, 1, none⟩ = some (.int .i64 b1) := rx.cell 1
          replace s1 := cell_regrown s1
          replace x0 := cell_regrown x0
          replace x1 := cell_regrown x1
          have HZ : Hid _ := And.intro rm hB
          by_cases k4 : m = 0
          · have dz : decide (0 < (m : Int)) = false := by simp; omega
            have dz2 : decide (0 < m) = false := by simp; omega
            have HN : Hid _ := HNx.out (by unfold bdUp; rw [decide_eq_true k4]; rfl)
            clear rm rx hB HBad HNx k4 HEK
            go_wp2_with fail
            refine wp_region_quiet_below (by kernel_rfl) (by kernel_rfl) ?_
            repeat (go_big_quiet_step (fail))
            refine wpQuiet_nil ?_
            intro w9 hw'
            obtain ⟨⟨dq, osq⟩, hw''⟩ := hw'
            have hbq := below_regrown w1 dq osq
            rw [← hw''] at hbq
            clear hw'' osq dq
            have HF : Hid _ := And.intro (HZ.out.1.below hbq HZ.out.1.lt) (HZ.out.2.trans (hbq.mono HZ.out.2.size))
            clear hbq s1 x0 x1 HZ
            go_wp2
            go_roundw
            case rel => exact ⟨m + 1, hlt2, by go_num, HN.out, HF.out.1, HF.out.2⟩
            case measure => simp [intOf]; omega
          · have dz : decide (0 < (m : Int)) = true := by simp; omega
            have dz2 : decide (0 < m) = true := by simp; omega
            obtain ⟨g2, a0, a1, a2, a3, e', hg2, hek2, q0, q1, q2, q3⟩ := (HX.out.2.1.below hB).at (m - 1) (by omega)
            cases e'
            have hup : bdUp l m = bdLt ⟨a0, a1, a2, a3⟩ ⟨b0, b1, (n : Int), b3⟩ := by
              unfold bdUp
              rw [get_bangB l m hlt2, get_bangB l (m - 1) (by omega), HEK.out.2, hek2, decide_eq_false k4, Bool.false_or]
            have z2 : IntKind.i64.wrap ((m : Int) - 1) = ((m - 1 : Nat) : Int) := by rw [wrap_i64_in _ (by omega) (by omega)]; omega
            have z3 : (m : Int) - 1 = ((m - 1 : Nat) : Int) := by omega
            have z4 : decide (((m - 1 : Nat) : Int) < (l.length : Int)) = true := by simp; omega
            have z5 : m - 1 < l.length := by omega
            clear rm rx hB HEK hek2 q2 q3
            replace q0 := cell_regrown q0
            replace q1 := cell_regrown q1
            rw [hup] at HBad HNx
            by_cases k5 : b0 < a0
            · have d5 : decide (b0 < a0) = true := by simpa using k5
              have hbb := HBad.out (by unfold bdLt; apply decide_eq_false; simp only; omega)
              clear HBad HNx hup k5 k4
              go_wp2_with fail
              have hR := HRR.out.trans (show (TB && BB) = false by rw [HTB.out, Bool.true_and]; exact hbb)
              clear hbb
              refine wp_region_quiet_below (by kernel_rfl) (by kernel_rfl) ?_
              repeat (go_big_quiet_step (fail))
              refine wpQuiet_nil ?_
              intro w9 hw'
              obtain ⟨⟨dq, osq⟩, hw''⟩ := hw'
              have hbq := below_regrown w1 dq osq
              rw [← hw''] at hbq
              clear hw'' osq dq
              have hB := HZ.out.2.trans (hbq.mono HZ.out.2.size)
              clear hbq s1 x0 x1 q0 q1 HZ
              go_wp2
              go_ret
              exact ⟨by first | rfl | (rw [hR]; rfl), hB⟩
            have d5 : decide (b0 < a0) = false := by simpa using k5
            by_cases k6 : a0 = b0
            · have d6 : (a0 == b0) = true := by simpa using k6
              by_cases k7 : b1 ≤ a1
              · have d7 : decide (b1 ≤ a1) = true := by simpa using k7
                have hbb := HBad.out (by unfold bdLt; apply decide_eq_false; simp only; omega)
                clear HBad HNx hup k5 k4 k6 k7
                go_wp2_with fail
                have hR := HRR.out.trans (show (TB && BB) = false by rw [HTB.out, Bool.true_and]; exact hbb)
                clear hbb
                refine wp_region_quiet_below (by kernel_rfl) (by kernel_rfl) ?_
                repeat (go_big_quiet_step (fail))
                refine wpQuiet_nil ?_
                intro w9 hw'
                obtain ⟨⟨dq, osq⟩, hw''⟩ := hw'
                have hbq := below_regrown w1 dq osq
                rw [← hw''] at hbq
                clear hw'' osq dq
                have hB := HZ.out.2.trans (hbq.mono HZ.out.2.size)
                clear hbq s1 x0 x1 q0 q1 HZ
                go_wp2
                go_ret
                exact ⟨by first | rfl | (rw [hR]; rfl), hB⟩
              · have d7 : decide (b1 ≤ a1) = false := by simpa using k7
                have HN : Hid _ := HNx.out (by unfold bdLt; apply decide_eq_true; simp only; omega)
                clear HBad HNx hup k5 k4 k6 k7
                go_wp2_with fail
                refine wp_region_quiet_below (by kernel_rfl) (by kernel_rfl) ?_
                repeat (go_big_quiet_step (fail))
                refine wpQuiet_nil ?_
                intro w9 hw'
                obtain ⟨⟨dq, osq⟩, hw''⟩ := hw'
                have hbq := below_regrown w1 dq osq
                rw [← hw''] at hbq
                clear hw'' osq dq
                have HF : Hid _ := And.intro (HZ.out.1.below hbq HZ.out.1.lt) (HZ.out.2.trans (hbq.mono HZ.out.2.size))
                clear hbq s1 x0 x1 q0 q1 HZ
                go_wp2
                go_roundw
                case rel => exact ⟨m + 1, hlt2, by go_num, HN.out, HF.out.1, HF.out.2⟩
                case measure => simp [intOf]; omega
            · have d6 : (a0 == b0) = false := by simpa using k6
              have HN : Hid _ := HNx.out (by unfold bdLt; apply decide_eq_true; simp only; omega)
              clear HBad HNx hup k5 k4 k6
              go_wp2_with fail
              refine wp_region_quiet_below (by kernel_rfl) (by kernel_rfl) ?_
              repeat (go_big_quiet_step (fail))
              refine wpQuiet_nil ?_
              intro w9 hw'
              obtain ⟨⟨dq, osq⟩, hw''⟩ := hw'
              have hbq := below_regrown w1 dq osq
              rw [← hw''] at hbq
              clear hw'' osq dq
              have HF : Hid _ := And.intro (HZ.out.1.below hbq HZ.out.1.lt) (HZ.out.2.trans (hbq.mono HZ.out.2.size))
              clear hbq s1 x0 x1 q0 q1 HZ
              go_wp2
              go_roundw
              case rel => exact ⟨m + 1, hlt2, by go_num, HN.out, HF.out.1, HF.out.2⟩
              case measure => simp [intOf]; omega
        · have dm : decide ((m : Int) < (l.length : Int)) = false := by simpa using hlt2
          have hR := HRR.out.trans (show (TB && BB) = true by rw [HTB.out, Bool.true_and]; exact HG2.out h9 (fun j hj => ha j (by omega)))
          have hB := hBm
          clear hBm ha HB2 HG2 HL9 HD HX
          go_wp2
          go_ret
          exact ⟨by first | rfl | (rw [hR]; rfl), hB⟩
end Go.Proofs.YtlnfocpgmobhpaaGreatDoor
/- The laws' own Tenants handed in: opened. (Written by gen_opten.py.) -/
namespace Go.Proofs.YtlnfocpgmobhpaaGreatDoor
open Go.ChangeShapes Go.WideShapes Go.RowKit Go.Sort Go.Deep Go.Joins Go.WideElems Go.Maps

theorem Tryz.cellsTn : Tryz.prog.cellsOf 75 = 8 := by kernel_rfl
theorem Tryz.cellsTnI : Tryz.prog.cellsOf 71 = 3 := by kernel_rfl
theorem Tryz.cellsTnS : Tryz.prog.cellsOf 9 = 1 := by kernel_rfl
theorem Tryz.cellsTnN : Tryz.prog.cellsOf 2 = 1 := by kernel_rfl
theorem Tryz.cellsTnR : Tryz.prog.cellsOf 72 = 1 := by kernel_rfl
theorem Tryz.cellsTnH : Tryz.prog.cellsOf 73 = 1 := by kernel_rfl
def TnW (t : Tn) : Prop := t.key.size ≤ maxLen ∧ (Lit.int .i64 t.now).wf = true ∧ (Lit.int .i64 t.qu).wf = true ∧ (Lit.int .i64 t.dr).wf = true
section
variable {H : Type} {enc : TypeId × Value → H} {w : World} {base : Nat} {spare : Nat → Bool} {held : Bool}
set_option maxRecDepth 100000 in
set_option maxHeartbeats 4000000 in
theorem open_inst3 {fuel : Nat} {e0 e1 e2 : Value} {x : DataW H × List MemPlace} (h : DataW.trod enc Tryz.prog w base spare held fuel 71 [e0, e1, e2] = some x) :
    ∃ x n1 c1 is y n2 c2 rs now, e0 = .slice x n1 c1 ∧ e1 = .slice y n2 c2 ∧ e2 = .int .i64 now ∧ ArgI w x n1 is ∧ ArgR w y n2 rs ∧ (Lit.int .i64 now).wf = true := by
  obtain ⟨xs, n, _, _, hl, hx, hg⟩ := DataW.trod_struct Tryz.underlying71 h
  match xs, hx with
  | [y0, y1, y2], _ =>
    have h0 : DataW.trod enc Tryz.prog w base spare held n 66 ((([e0, e1, e2] : List Value).drop 0).take (Tryz.prog.cellsOf 66)) = [y0, y1, y2][0]? := hg 0 _ rfl
    rw [Tryz.cellsIfsI] at h0
    replace h0 : DataW.trod enc Tryz.prog w base spare held n 66 [e0] = some y0 := h0
    have h1 : DataW.trod enc Tryz.prog w base spare held n 69 ((([e0, e1, e2] : List Value).drop 1).take (Tryz.prog.cellsOf 69)) = [y0, y1, y2][1]? := hg 1 _ rfl
    rw [Tryz.cellsRibI] at h1
    replace h1 : DataW.trod enc Tryz.prog w base spare held n 69 [e1] = some y1 := h1
    have h2 : DataW.trod enc Tryz.prog w base spare held n 2 ((([e0, e1, e2] : List Value).drop 2).take (Tryz.prog.cellsOf 2)) = [y0, y1, y2][2]? := hg 2 _ rfl
    rw [Tryz.cellsIntN] at h2
    replace h2 : DataW.trod enc Tryz.prog w base spare held n 2 [e2] = some y2 := h2
    obtain ⟨xs', n', _, _, hl', hx', hg'⟩ := DataW.trod_struct Tryz.underlying69 h1
    match xs', hx' with
    | [z0], _ =>
      have k0 : DataW.trod enc Tryz.prog w base spare held n' 67 ((([e1] : List Value).drop 0).take (Tryz.prog.cellsOf 67)) = [z0][0]? := hg' 0 _ rfl
      rw [Tryz.cellsRibS] at k0
      replace k0 : DataW.trod enc Tryz.prog w base spare held n' 67 [e1] = some z0 := k0
      obtain ⟨x, n1, c1, is, rfl, hA⟩ := open_ifs h0
      obtain ⟨y, n2, c2, rs, rfl, hR⟩ := open_rts k0
      obtain ⟨now, en, _, wn⟩ := DataW.trod_int Tryz.underlying2 h2
      simp only [List.cons.injEq, and_true] at en
      subst en
      exact ⟨x, n1, c1, is, y, n2, c2, rs, now, rfl, rfl, rfl, hA, hR, wn⟩
set_option maxRecDepth 100000 in
set_option maxHeartbeats 4000000 in
theorem open_tn {fuel : Nat} {cs : List Value} {x : DataW H × List MemPlace} (h : DataW.trod enc Tryz.prog w base spare held fuel 75 cs = some x) : ∃ (a : Tp) (t : Tn), cs = tnL a t ∧ ArgT w a t ∧ TnW t := by
  obtain ⟨xs, n, _, _, hl, hx, hg⟩ := DataW.trod_struct Tryz.underlying75 h
  rw [Tryz.cellsTn] at hl
  match cs, hl, xs, hx with
  | [c0, c1, c2, c3, c4, c5, c6, c7], _, [y0, y1, y2, y3, y4, y5], _ =>
    have h0 : DataW.trod enc Tryz.prog w base spare held n 71 ((([c0, c1, c2, c3, c4, c5, c6, c7] : List Value).drop 0).take (Tryz.prog.cellsOf 71)) = [y0, y1, y2, y3, y4, y5][0]? := hg 0 _ rfl
    rw [Tryz.cellsTnI] at h0
    replace h0 : DataW.trod enc Tryz.prog w base spare held n 71 [c0, c1, c2] = some y0 := h0
    have h1 : DataW.trod enc Tryz.prog w base spare held n 9 ((([c0, c1, c2, c3, c4, c5, c6, c7] : List Value).drop 3).take (Tryz.prog.cellsOf 9)) = [y0, y1, y2, y3, y4, y5][1]? := hg 1 _ rfl
    rw [Tryz.cellsTnS] at h1
    replace h1 : DataW.trod enc Tryz.prog w base spare held n 9 [c3] = some y1 := h1
    have h2 : DataW.trod enc Tryz.prog w base spare held n 2 ((([c0, c1, c2, c3, c4, c5, c6, c7] : List Value).drop 4).take (Tryz.prog.cellsOf 2)) = [y0, y1, y2, y3, y4, y5][2]? := hg 2 _ rfl
    rw [Tryz.cellsTnN] at h2
    replace h2 : DataW.trod enc Tryz.prog w base spare held n 2 [c4] = some y2 := h2
    have h3 : DataW.trod enc Tryz.prog w base spare held n 72 ((([c0, c1, c2, c3, c4, c5, c6, c7] : List Value).drop 5).take (Tryz.prog.cellsOf 72)) = [y0, y1, y2, y3, y4, y5][3]? := hg 3 _ rfl
    rw [Tryz.cellsTnR] at h3
    replace h3 : DataW.trod enc Tryz.prog w base spare held n 72 [c5] = some y3 := h3
    have h4 : DataW.trod enc Tryz.prog w base spare held n 73 ((([c0, c1, c2, c3, c4, c5, c6, c7] : List Value).drop 6).take (Tryz.prog.cellsOf 73)) = [y0, y1, y2, y3, y4, y5][4]? := hg 4 _ rfl
    rw [Tryz.cellsTnH] at h4
    replace h4 : DataW.trod enc Tryz.prog w base spare held n 73 [c6] = some y4 := h4
    have h5 : DataW.trod enc Tryz.prog w base spare held n 2 ((([c0, c1, c2, c3, c4, c5, c6, c7] : List Value).drop 7).take (Tryz.prog.cellsOf 2)) = [y0, y1, y2, y3, y4, y5][5]? := hg 5 _ rfl
    rw [Tryz.cellsTnN] at h5
    replace h5 : DataW.trod enc Tryz.prog w base spare held n 2 [c7] = some y5 := h5
    obtain ⟨x, n1, k1, is, y, n2, k2, rs, now, rfl, rfl, rfl, hI, hR, wn⟩ := open_inst3 h0
    obtain ⟨key, ek, _, wk⟩ := DataW.trod_string Tryz.underlying9 h1
    obtain ⟨qu, eq, _, wq⟩ := DataW.trod_int Tryz.underlying2 h2
    obtain ⟨p, n3, k3, ss, rfl, hS⟩ := open_sns h3
    obtain ⟨q, n4, k4, es, rfl, hE⟩ := open_ses h4
    obtain ⟨dr, ed, _, wd⟩ := DataW.trod_int Tryz.underlying2 h5
    simp only [List.cons.injEq, and_true] at ek eq ed
    subst ek eq ed
    obtain rfl : is.length = n1 := hI.1
    obtain rfl : rs.length = n2 := hR.1
    obtain rfl : ss.length = n3 := hS.1
    obtain rfl : es.length = n4 := hE.1
    exact ⟨⟨x, k1, y, k2, p, k3, q, k4⟩, ⟨is, rs, now, key, qu, ss, es, dr⟩, rfl, ⟨hI, hR, hS, hE⟩, wk, wn, wq, wd⟩
set_option maxRecDepth 100000 in
set_option maxHeartbeats 4000000 in
theorem open_tnV {r : Reach} {b0 : Nat} {v : Value} {d : DataW H} {p : List MemPlace} (hv : Value.okWide Tryz.prog w r b0 75 v) (h : DataW.Trod enc Tryz.prog w base spare held 75 v d p) :
    ∃ (a : Tp) (t : Tn), v = tnV a t ∧ ArgT w a t ∧ TnW t := by
  obtain ⟨cs, rfl, hsz⟩ := okWide_struct Tryz.underlying75 hv
  obtain ⟨fuel, hf⟩ := h
  obtain ⟨a, t, he, hA, hW⟩ := open_tn hf
  refine ⟨a, t, ?_, hA, hW⟩
  obtain ⟨l⟩ := cs
  simp only [Value.cells] at he
  subst he
  rfl
end
end Go.Proofs.YtlnfocpgmobhpaaGreatDoor
/- The laws' own lists of Tenants handed in: opened. (Written by gen_tens.py.) -/
namespace Go.Proofs.YtlnfocpgmobhpaaGreatDoor
open Go.ChangeShapes Go.WideShapes Go.RowKit Go.Sort Go.Deep Go.Joins Go.WideElems Go.Maps

/-- The slice (x, len) that was handed in holds them. -/
def ArgTs (w : World) (x : Option Addr) (len : Nat) (ps : List TnP) : Prop := ps.length = len ∧ len ≤ maxLen ∧ (∀ e ∈ ps, ArgT w e.1 e.2 ∧ TnW e.2) ∧ ∀ i, (h : i < ps.length) → ∃ p, x = some p ∧ w.cell? (p.add (i * 8)) = some (.slice ps[i].1.x ps[i].2.is.length ps[i].1.c1) ∧ w.cell? (p.add (i * 8 + 1)) = some (.slice ps[i].1.y ps[i].2.rs.length ps[i].1.c2) ∧ w.cell? (p.add (i * 8 + 2)) = some (.int .i64 ps[i].2.now) ∧ w.cell? (p.add (i * 8 + 3)) = some (.string ps[i].2.key) ∧ w.cell? (p.add (i * 8 + 4)) = some (.int .i64 ps[i].2.qu) ∧ w.cell? (p.add (i * 8 + 5)) = some (.slice ps[i].1.p ps[i].2.ss.length ps[i].1.c3) ∧ w.cell? (p.add (i * 8 + 6)) = some (.slice ps[i].1.q ps[i].2.es.length ps[i].1.c4) ∧ w.cell? (p.add (i * 8 + 7)) = some (.int .i64 ps[i].2.dr)
theorem ArgTs.below {w w' : World} {x : Option Addr} {len : Nat} {ps : List TnP} (h : ArgTs w x len ps) (hb : Below w.heap.size w w') : ArgTs w' x len ps := by
  obtain ⟨h1, h2, h3, h4⟩ := h
  refine ⟨h1, h2, fun e he => ⟨(h3 e he).1.below hb, (h3 e he).2⟩, fun i hi => ?_⟩
  obtain ⟨p, hp, c0, c1, c2, c3, c4, c5, c6, c7⟩ := h4 i hi
  have hk : ∀ k v, w.cell? (p.add k) = some v → w'.cell? (p.add k) = some v := fun k v hv => by rw [hb.cell (World.block_lt_of_cell? w _ hv)]; exact hv
  exact ⟨p, hp, hk _ _ c0, hk _ _ c1, hk _ _ c2, hk _ _ c3, hk _ _ c4, hk _ _ c5, hk _ _ c6, hk _ _ c7⟩
theorem addr_moreT (p : Addr) (m j : Nat) (hj : j ≠ 0) : p.add (m + j) = ⟨(p.add m).block, (p.add m).off + j, none⟩ := by
  rw [← Addr.add_add]
  generalize p.add m = q
  unfold Addr.add
  rw [if_neg hj]
theorem ArgTs.at {w : World} {x : Option Addr} {len : Nat} {ps : List TnP} (h : ArgTs w x len ps) (i : Nat) (hi : i < ps.length) : ∃ p a t, x = some p ∧ ps[i] = (a, t) ∧ ArgT w a t ∧ TnW t ∧ w.cell? (p.add (i * 8)) = some (.slice a.x t.is.length a.c1) ∧ w.cell? ⟨(p.add (i * 8)).block, (p.add (i * 8)).off + 1, none⟩ = some (.slice a.y t.rs.length a.c2) ∧ w.cell? ⟨(p.add (i * 8)).block, (p.add (i * 8)).off + 2, none⟩ = some (.int .i64 t.now) ∧ w.cell? ⟨(p.add (i * 8)).block, (p.add (i * 8)).off + 3, none⟩ = some (.string t.key) ∧ w.cell? ⟨(p.add (i * 8)).block, (p.add (i * 8)).off + 4, none⟩ = some (.int .i64 t.qu) ∧ w.cell? ⟨(p.add (i * 8)).block, (p.add (i * 8)).off + 5, none⟩ = some (.slice a.p t.ss.length a.c3) ∧ w.cell? ⟨(p.add (i * 8)).block, (p.add (i * 8)).off + 6, none⟩ = some (.slice a.q t.es.length a.c4) ∧ w.cell? ⟨(p.add (i * 8)).block, (p.add (i * 8)).off + 7, none⟩ = some (.int .i64 t.dr) := by
  obtain ⟨p, hp, c0, c1, c2, c3, c4, c5, c6, c7⟩ := h.2.2.2 i hi
  have hh := h.2.2.1 _ (List.getElem_mem hi)
  rw [addr_moreT _ _ _ (by omega)] at c1 c2 c3 c4 c5 c6 c7
  exact ⟨p, _, _, hp, rfl, hh.1, hh.2, c0, c1, c2, c3, c4, c5, c6, c7⟩
section
variable {H : Type} {enc : TypeId × Value → H} {w : World} {base : Nat} {spare : Nat → Bool} {held : Bool}
set_option maxRecDepth 100000 in
set_option maxHeartbeats 4000000 in
theorem open_tns {fuel : Nat} {v : Value} {x : DataW H × List MemPlace} (h : DataW.trod enc Tryz.prog w base spare held fuel 22 [v] = some x) : ∃ y len cap ps, v = .slice y len cap ∧ ArgTs w y len ps := by
  rcases open_slice Tryz.underlying22 h with ⟨h0, _⟩ | ⟨a, len, cap, m, n, D, Pl, h0, hb, hl, hm, hmm, _, hx⟩
  · simp only [List.cons.injEq, and_true] at h0
    exact ⟨none, 0, 0, [], h0, rfl, Nat.zero_le _, by simp, fun i hi => absurd hi (by simp)⟩
  · simp only [List.cons.injEq, and_true] at h0
    have hlm : len ≤ m := by rw [hmm]; split <;> omega
    have each : ∀ i, i < m → ∃ e : TnP, (ArgT w e.1 e.2 ∧ TnW e.2) ∧ w.cell? (a.add (i * 8)) = some (.slice e.1.x e.2.is.length e.1.c1) ∧ w.cell? (a.add (i * 8 + 1)) = some (.slice e.1.y e.2.rs.length e.1.c2) ∧ w.cell? (a.add (i * 8 + 2)) = some (.int .i64 e.2.now) ∧ w.cell? (a.add (i * 8 + 3)) = some (.string e.2.key) ∧ w.cell? (a.add (i * 8 + 4)) = some (.int .i64 e.2.qu) ∧ w.cell? (a.add (i * 8 + 5)) = some (.slice e.1.p e.2.ss.length e.1.c3) ∧ w.cell? (a.add (i * 8 + 6)) = some (.slice e.1.q e.2.es.length e.1.c4) ∧ w.cell? (a.add (i * 8 + 7)) = some (.int .i64 e.2.dr) := by
      intro i hi
      obtain ⟨cs', h1, h2⟩ := hx i hi
      rw [Tryz.cellsTn] at h1
      obtain ⟨aa, tt, rfl, hA, hw⟩ := open_tn h2
      obtain ⟨_, _, hcell⟩ := World.cells?_some h1
      have hadd : ∀ j k, (a.add j).add k = a.add (j + k) := fun j k => by
        unfold Addr.add
        by_cases hj : j = 0
        · subst hj; by_cases hk : k = 0 <;> simp [hk]
        · by_cases hk : k = 0
          · simp [hj, hk]
          · simp [hj, hk, Nat.add_assoc]
      refine ⟨(aa, tt), ⟨hA, hw⟩, ?_⟩
      have k0 := hcell 0 (by omega)
      have k1 := hcell 1 (by omega)
      have k2 := hcell 2 (by omega)
      have k3 := hcell 3 (by omega)
      have k4 := hcell 4 (by omega)
      have k5 := hcell 5 (by omega)
      have k6 := hcell 6 (by omega)
      have k7 := hcell 7 (by omega)
      simp only [hadd, Nat.add_zero, tnL] at k0 k1 k2 k3 k4 k5 k6 k7
      exact ⟨by simpa using k0, by simpa using k1, by simpa using k2, by simpa using k3, by simpa using k4, by simpa using k5, by simpa using k6, by simpa using k7⟩
    obtain ⟨E, hE⟩ := choose_lt (α := TnP) (p := fun i e => (ArgT w e.1 e.2 ∧ TnW e.2) ∧ w.cell? (a.add (i * 8)) = some (.slice e.1.x e.2.is.length e.1.c1) ∧ w.cell? (a.add (i * 8 + 1)) = some (.slice e.1.y e.2.rs.length e.1.c2) ∧ w.cell? (a.add (i * 8 + 2)) = some (.int .i64 e.2.now) ∧ w.cell? (a.add (i * 8 + 3)) = some (.string e.2.key) ∧ w.cell? (a.add (i * 8 + 4)) = some (.int .i64 e.2.qu) ∧ w.cell? (a.add (i * 8 + 5)) = some (.slice e.1.p e.2.ss.length e.1.c3) ∧ w.cell? (a.add (i * 8 + 6)) = some (.slice e.1.q e.2.es.length e.1.c4) ∧ w.cell? (a.add (i * 8 + 7)) = some (.int .i64 e.2.dr)) each
    refine ⟨some a, len, cap, (List.range len).map E, h0, by simp, by omega, ?_, ?_⟩
    · intro e he
      simp only [List.mem_map, List.mem_range] at he
      obtain ⟨i, hi, rfl⟩ := he
      exact (hE i (by omega)).1
    · intro i hi
      simp only [List.length_map, List.length_range] at hi
      refine ⟨a, rfl, ?_⟩
      simp only [List.getElem_map, List.getElem_range]
      exact (hE i (by omega)).2
end
end Go.Proofs.YtlnfocpgmobhpaaGreatDoor
