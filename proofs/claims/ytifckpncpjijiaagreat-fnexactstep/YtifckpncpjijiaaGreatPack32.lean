/- Texts that stand on each other, in one file: StepS. -/
import Derived.Test.YtifckpncpjijiaaGreatPack30
import Derived.Test.YtifckpncpjijiaaGreatPack31
import Derived.Test.YtifckpncpjijiaaGreatPack26
/- Step of the model. (Written by gen_insts.py.) -/
namespace Go.Proofs.YtifckpncpjijiaaGreat
open Go.RowKit Go.Sort

set_option maxRecDepth 100000 in
set_option maxHeartbeats 2000000 in
theorem l07Step_any (x : Option Addr) (c1 : Nat) (y : Option Addr) (c2 : Nat) (is : List If) (rs : List Rt) (now : Int) (w : World) (h1 : IfsIn w x is) (_hc : is.length ≤ c1) (hc1 : x = none → c1 = 0) (h2 : RtsIn w y rs) (hc2 : y = none → c2 = 0) (hl2 : rs.length ≤ c2) (hn1 : is.length ≤ 100000000) (hn2 : rs.length ≤ 100000000) (hrib : ribB rs = true) (n0 : 0 ≤ now) (n1 : now ≤ 999800) :
    Calls Tryz.prog 67 #[instV x is.length c1 y rs.length c2 now] w fun e w' => OutI w.heap.size ((if now = 999800 then ((9 : Int), ([] : List If), ([] : List Rt), (0 : Int)) else (0, is, rs.filterMap (tickF (now + 1)), now + 1))) e w' ∧ Below w.heap.size w w' := by
  have HX : Hid (IfsIn w x is ∧ RtsIn w y rs) := ⟨h1, h2⟩
  have HIl : Hid (∀ c w, Calls Tryz.prog 46 #[.int .i64 c] w fun e w' => e = .returned (.agg #[.slice none 0 0, .slice none 0 0, .int .i64 0, .int .i64 c]) ∧ Below w.heap.size w w') := l07Ill_any
  have HC : Hid (∀ w, IfsIn w x is → RtsIn w y rs → Calls Tryz.prog 70 #[instV x is.length c1 y rs.length c2 now] w fun e w' => ∃ q1 k1 q2 k2, e = .returned (.agg #[.slice q1 is.length k1, .slice q2 rs.length k2, .int .i64 now]) ∧ w'.ownsRow w.heap.size 89 5 (.slice q1 is.length k1) is.length (rowI is) ∧ w'.ownsRow w.heap.size 98 9 (.slice q2 rs.length k2) rs.length (rowR rs) ∧ Below w.heap.size w w') := fun w p q => l07Copy_any x _ c1 y _ c2 is rs now w rfl rfl p hc1 q hc2 hl2 hn1 hn2
  have HTi : Hid (∀ w, RtsIn w y rs → Calls Tryz.prog 115 #[.agg #[.slice y rs.length c2], .int .i64 (now + 1)] w fun e w' => ∃ q c, e = .returned (.agg #[.slice q (rs.filterMap (tickF (now + 1))).length c]) ∧ w'.ownsRow w.heap.size 98 9 (.slice q (rs.filterMap (tickF (now + 1))).length c) (rs.filterMap (tickF (now + 1))).length (rowR (rs.filterMap (tickF (now + 1)))) ∧ Below w.heap.size w w') := fun w h => by
    have := l06Tick_any y c2 rs (now + 1) w h hn2 (by omega) (by omega)
    rw [tick_lists hrib] at this
    exact this
  obtain ⟨RES, hRES⟩ : ∃ R, R = (if now = 999800 then ((9 : Int), ([] : List If), ([] : List Rt), (0 : Int)) else (0, is, rs.filterMap (tickF (now + 1)), now + 1)) := ⟨_, rfl⟩
  rw [← hRES]
  have HD : Hid (RES = (if now = 999800 then ((9 : Int), ([] : List If), ([] : List Rt), (0 : Int)) else (0, is, rs.filterMap (tickF (now + 1)), now + 1))) := hRES
  clear hRES
  clear h1 h2 _hc hc1 hc2 hl2
  unfold instV at *
  obtain ⟨W, hW, q0, qz, hB, hS⟩ := rows2 w [.slice x is.length c1, .slice y rs.length c2, .int .i64 now] [.slice none 0 0, .slice none 0 0, .int .i64 0, .int .i64 0] 38 40
  have HW : Hid _ := hW
  have x0 : W.cell? ⟨w.heap.size, 0, none⟩ = some (.slice x is.length c1) := q0.cell 0
  have x1 : W.cell? ⟨w.heap.size, 1, none⟩ = some (.slice y rs.length c2) := q0.cell 1
  have x2 : W.cell? ⟨w.heap.size, 2, none⟩ = some (.int .i64 now) := q0.cell 2
  have HQ : Hid _ := And.intro q0 (And.intro qz hB)
  clear q0 qz hB hS
  have hR := HD.out
  clear HD hn1 hn2
  by_cases hE : now = 999800
  · rw [if_pos hE] at hR
    have zE : decide (now ≥ 999800) = true := by simp; omega
    clear hE
    go_enter Tryz.func67, Tryz.ntmps67
    rw [hW] at x0 x1 x2
    clear hW HC HTi HX
    go_wp2_with fail
    rw [← HW.out]
    obtain ⟨q0, qz, hB⟩ := HQ.out
    clear x0 x1 x2 HW HQ
    refine (HIl.out 9 _).mono ?_
    rintro e w9 ⟨rfl, hb9⟩
    have qz := qz.below hb9 qz.lt
    have hB := hB.trans (hb9.mono hB.size)
    clear hb9 HIl q0
    have f0 : w9.frozen? ⟨w.heap.size + 1, 0, none⟩ = false := qz.frozen 0
    have f1 : w9.frozen? ⟨w.heap.size + 1, 1, none⟩ = false := qz.frozen 1
    have f2 : w9.frozen? ⟨w.heap.size + 1, 2, none⟩ = false := qz.frozen 2
    have f3 : w9.frozen? ⟨w.heap.size + 1, 3, none⟩ = false := qz.frozen 3
    have z0 : w9.cell? ⟨w.heap.size + 1, 0, none⟩ = some (.slice none 0 0) := qz.cell 0
    have z1 : w9.cell? ⟨w.heap.size + 1, 1, none⟩ = some (.slice none 0 0) := qz.cell 1
    have z2 : w9.cell? ⟨w.heap.size + 1, 2, none⟩ = some (.int .i64 0) := qz.cell 2
    have z3 : w9.cell? ⟨w.heap.size + 1, 3, none⟩ = some (.int .i64 0) := qz.cell 3
    have HE : Hid _ := out4 (p := none) (q := none) (now := 0) (cc := 9) qz rfl (show w.heap.size ≤ w.heap.size + 1 by omega) hB (ownsI_nil w9 w.heap.size) (ownsR_nil w9 w.heap.size) rfl _ rfl
    clear qz hB 
    go_wp2_with fail
    generalize (((w9.setCell ⟨w.heap.size + 1, 0, none⟩ (.slice none 0 0)).setCell ⟨w.heap.size + 1, 1, none⟩ (.slice none 0 0)).setCell ⟨w.heap.size + 1, 2, none⟩ (.int .i64 0)).setCell ⟨w.heap.size + 1, 3, none⟩ (.int .i64 9) = Z at *
    obtain ⟨k1, k2, k3, k4⟩ := HE.out
    clear HE f0 f1 f2 f3 z0 z1 z2 z3
    have e0 : Z.cell? ⟨w.heap.size + 1, 0, none⟩ = some (.slice none 0 0) := k1.cell 0
    have e1 : Z.cell? ⟨w.heap.size + 1, 1, none⟩ = some (.slice none 0 0) := k1.cell 1
    have e2 : Z.cell? ⟨w.heap.size + 1, 2, none⟩ = some (.int .i64 0) := k1.cell 2
    have e3 : Z.cell? ⟨w.heap.size + 1, 3, none⟩ = some (.int .i64 9) := k1.cell 3
    exact bodyPost_ret (v := .agg #[.slice none 0 0, .slice none 0 0, .int .i64 0, .int .i64 9]) (by simp [results, Tryz.results67, go_sem, e0, e1, e2, e3]) rfl ⟨by rw [hR]; exact outI_no _ _ _, k2⟩
  · rw [if_neg hE] at hR
    have zE : decide (now ≥ 999800) = false := by simp; omega
    clear hE HIl
    generalize hqs : rs.filterMap (tickF (now + 1)) = qs at *
    clear hqs
    go_enter Tryz.func67, Tryz.ntmps67
    rw [hW] at x0 x1 x2
    clear hW
    go_wp2_with fail
    rw [← HW.out]
    obtain ⟨q0, qz, hB⟩ := HQ.out
    clear x0 x1 x2 HW HQ
    refine (HC.out _ (HX.out.1.below hB) (HX.out.2.below hB)).mono ?_
    rintro e w2 ⟨q1, k1, q2, k2, rfl, o1, -, hb2⟩
    have L1 := qz.lt
    have L0 := q0.lt
    have hBs := hB.size
    have q0 := q0.below hb2 q0.lt
    have qz := qz.below hb2 qz.lt
    have hB := hB.trans (hb2.mono hB.size)
    have o1 := ownsI_mono (base' := w.heap.size) o1 (by omega)
    have hL1 : w.heap.size + 1 < w2.heap.size := by have := qz.lt; omega
    clear hb2 HC
    have rc := Row.new w2 38 [.slice q1 is.length k1, .slice q2 rs.length k2, .int .i64 (now + 1)]
    have yn : (w2.alloc (.cells #[.slice q1 is.length k1, .slice q2 rs.length k2, .int .i64 now] 38)).cell? ⟨w.heap.size, 2, none⟩ = some (.int .i64 now) := (q0.alloc _).cell 2
    have q0 := q0.alloc (.cells #[.slice q1 is.length k1, .slice q2 rs.length k2, .int .i64 (now + 1)] 38)
    have qz := qz.alloc (.cells #[.slice q1 is.length k1, .slice q2 rs.length k2, .int .i64 (now + 1)] 38)
    have o1 := World.ownsRow.alloc o1 (.cells #[.slice q1 is.length k1, .slice q2 rs.length k2, .int .i64 (now + 1)] 38)
    have hB := hB.alloc (by have := hB.size; omega) (.cells #[.slice q1 is.length k1, .slice q2 rs.length k2, .int .i64 (now + 1)] 38)
    have y1 : (w2.alloc (.cells #[.slice q1 is.length k1, .slice q2 rs.length k2, .int .i64 (now + 1)] 38)).cell? ⟨w.heap.size, 1, none⟩ = some (.slice y rs.length c2) := q0.cell 1
    have y2 : (w2.alloc (.cells #[.slice q1 is.length k1, .slice q2 rs.length k2, .int .i64 (now + 1)] 38)).cell? ⟨w.heap.size, 2, none⟩ = some (.int .i64 now) := q0.cell 2
    have hLb : w.heap.size + 1 ≠ w2.heap.size ∧ w.heap.size ≠ w2.heap.size := ⟨by omega, by omega⟩
    have HA : Hid _ := And.intro rc (And.intro q0 (And.intro qz (And.intro o1 hB)))
    clear rc q0 qz o1 hB
    go_wp2_with fail
    generalize w2.heap.size = b at *
    generalize w2.alloc (.cells #[.slice q1 is.length k1, .slice q2 rs.length k2, .int .i64 (now + 1)] 38) = W3 at *
    obtain ⟨rc, q0, qz, o1, hB⟩ := HA.out
    clear HA y1 y2 yn
    refine (HTi.out _ (HX.out.2.below hB)).mono ?_
    rintro e w3 ⟨q, c, rfl, o3, hb3⟩
    have rc := rc.below hb3 rc.lt
    have q0 := q0.below hb3 q0.lt
    have qz := qz.below hb3 qz.lt
    have o1 := ownsI_below o1 hb3
    have o3 := ownsR_mono (base' := w.heap.size) o3 hB.size
    have hbW : w.heap.size ≤ b := by omega
    have hB := hB.trans (hb3.mono hB.size)
    clear hb3
    clear HTi HX
    have t0 : w3.cell? ⟨b, 0, none⟩ = some (.slice q1 is.length k1) := rc.cell 0
    have t1 : w3.cell? ⟨b, 1, none⟩ = some (.slice q2 rs.length k2) := rc.cell 1
    have t2 : w3.cell? ⟨b, 2, none⟩ = some (.int .i64 (now + 1)) := rc.cell 2
    have tf : w3.frozen? ⟨b, 1, none⟩ = false := rc.frozen 1
    have nb : ¬ b = w.heap.size + 1 := fun e => hLb.1 e.symm
    have nb' : ¬ w.heap.size + 1 = b := hLb.1
    have f0 : w3.frozen? ⟨w.heap.size + 1, 0, none⟩ = false := qz.frozen 0
    have f1 : w3.frozen? ⟨w.heap.size + 1, 1, none⟩ = false := qz.frozen 1
    have f2 : w3.frozen? ⟨w.heap.size + 1, 2, none⟩ = false := qz.frozen 2
    have f3 : w3.frozen? ⟨w.heap.size + 1, 3, none⟩ = false := qz.frozen 3
    have z0 : w3.cell? ⟨w.heap.size + 1, 0, none⟩ = some (.slice none 0 0) := qz.cell 0
    have z1 : w3.cell? ⟨w.heap.size + 1, 1, none⟩ = some (.slice none 0 0) := qz.cell 1
    have z2 : w3.cell? ⟨w.heap.size + 1, 2, none⟩ = some (.int .i64 0) := qz.cell 2
    have z3 : w3.cell? ⟨w.heap.size + 1, 3, none⟩ = some (.int .i64 0) := qz.cell 3
    have hk4 : ∀ g t l, g ≠ b → Row w3 g t l → Row (w3.setCell ⟨b, 1, none⟩ (.slice q qs.length c)) g t l := fun g t l hne h => h.other 1 _ hne
    have qz4 := hk4 _ _ _ hLb.1 qz
    have o14 := ownsI_kept o1 (fun g t l e h => hk4 g t l (fun e2 => ownsI_ne o1 rc (by decide) (by rw [e, e2])) h)
    have o34 := ownsR_kept rfl o3 (fun g t l e h => hk4 g t l (fun e2 => ownsR_ne o3 rc (by decide) (by rw [e, e2])) h)
    have hB4 := hB.setCell (p := ⟨b, 1, none⟩) (by show w.heap.size ≤ b; omega) (.slice q qs.length c)
    have HE : Hid _ := out4 (p := q1) (q := q) (now := (now + 1)) (cc := 0) qz4 rfl (show w.heap.size ≤ w.heap.size + 1 by omega) hB4 o14 o34 rfl _ rfl
    clear qz qz4 o1 o3 o14 o34 hB hB4 hk4 rc q0
    go_wp2_with fail
    generalize (((((w3.setCell ⟨b, 1, none⟩ (.slice q qs.length c))).setCell ⟨w.heap.size + 1, 0, none⟩ (.slice q1 is.length k1)).setCell ⟨w.heap.size + 1, 1, none⟩ (.slice q qs.length c)).setCell ⟨w.heap.size + 1, 2, none⟩ (.int .i64 (now + 1))).setCell ⟨w.heap.size + 1, 3, none⟩ (.int .i64 0) = Z at *
    obtain ⟨m1, m2, m3, m4⟩ := HE.out
    clear HE f0 f1 f2 f3 z0 z1 z2 z3 t0 t1 t2 tf nb nb'
    have e0 : Z.cell? ⟨w.heap.size + 1, 0, none⟩ = some (.slice q1 is.length k1) := m1.cell 0
    have e1 : Z.cell? ⟨w.heap.size + 1, 1, none⟩ = some (.slice q qs.length c) := m1.cell 1
    have e2 : Z.cell? ⟨w.heap.size + 1, 2, none⟩ = some (.int .i64 (now + 1)) := m1.cell 2
    have e3 : Z.cell? ⟨w.heap.size + 1, 3, none⟩ = some (.int .i64 0) := m1.cell 3
    exact bodyPost_ret (v := .agg #[.slice q1 is.length k1, .slice q qs.length c, .int .i64 (now + 1), .int .i64 0]) (by simp [results, Tryz.results67, go_sem, e0, e1, e2, e3]) rfl ⟨by rw [hR]; exact ⟨q1, k1, q, c, rfl, m3, m4⟩, m2⟩
set_option maxRecDepth 100000 in
set_option maxHeartbeats 2000000 in
theorem specStep_any (x : Option Addr) (c1 : Nat) (y : Option Addr) (c2 : Nat) (is : List If) (rs : List Rt) (now : Int) (w : World) (h1 : IfsIn w x is) (hc : is.length ≤ c1) (hc1 : x = none → c1 = 0) (h2 : RtsIn w y rs) (hc2 : y = none → c2 = 0) (hl2 : rs.length ≤ c2) (hn1 : is.length ≤ 100000000) (hn2 : rs.length ≤ 100000000) :
    Calls Tryz.prog 22 #[instV x is.length c1 y rs.length c2 now] w fun e w' => OutI w.heap.size (stepO is rs now) e w' ∧ Below w.heap.size w w' := by
  have HR : Hid (∀ w, IfsIn w x is → RtsIn w y rs → Calls Tryz.prog 44 #[instV x is.length c1 y rs.length c2 now] w fun e w' => e = .returned (.bool (instB is rs now)) ∧ Below w.heap.size w w') := fun w p q => specInst_any x c1 y c2 is rs now w p hc q hn1 hn2
  have HX : Hid (IfsIn w x is ∧ RtsIn w y rs) := ⟨h1, h2⟩
  have HIl : Hid (∀ c w, Calls Tryz.prog 46 #[.int .i64 c] w fun e w' => e = .returned (.agg #[.slice none 0 0, .slice none 0 0, .int .i64 0, .int .i64 c]) ∧ Below w.heap.size w w') := l07Ill_any
  have HS : Hid (instB is rs now = true → ∀ w, IfsIn w x is → RtsIn w y rs → Calls Tryz.prog 67 #[instV x is.length c1 y rs.length c2 now] w fun e w' => OutI w.heap.size (if now = 999800 then ((9 : Int), ([] : List If), ([] : List Rt), (0 : Int)) else (0, is, rs.filterMap (tickF (now + 1)), now + 1)) e w' ∧ Below w.heap.size w w') := fun hI w p q => by
    obtain ⟨b1, b2, b3⟩ := instB_bd hI
    exact l07Step_any x c1 y c2 is rs now w p hc hc1 q hc2 hl2 hn1 hn2 b1 b2 b3
  have HD : Hid (stepO is rs now = if instB is rs now = true then (if now = 999800 then (9, [], [], 0) else (0, is, rs.filterMap (tickF (now + 1)), now + 1)) else (1, [], [], 0)) := rfl
  clear h1 h2 hc hc1 hc2 hl2
  generalize stepO is rs now = RES at *
  generalize instB is rs now = IB at *
  unfold instV at *
  obtain ⟨W, hW, q0, qz, hB, hS⟩ := rows2 w [.slice x is.length c1, .slice y rs.length c2, .int .i64 now] [.slice none 0 0, .slice none 0 0, .int .i64 0, .int .i64 0] 38 40
  have HW : Hid _ := hW
  have x0 : W.cell? ⟨w.heap.size, 0, none⟩ = some (.slice x is.length c1) := q0.cell 0
  have x1 : W.cell? ⟨w.heap.size, 1, none⟩ = some (.slice y rs.length c2) := q0.cell 1
  have x2 : W.cell? ⟨w.heap.size, 2, none⟩ = some (.int .i64 now) := q0.cell 2
  have HQ : Hid _ := And.intro q0 (And.intro qz hB)
  clear q0 qz hB hS
  go_enter Tryz.func22, Tryz.ntmps22
  rw [hW] at x0 x1 x2
  clear hW
  go_wp2_with fail
  rw [← HW.out]
  obtain ⟨q0, qz, hB⟩ := HQ.out
  clear x0 x1 x2 HW
  refine (HR.out _ (HX.out.1.below hB) (HX.out.2.below hB)).mono ?_
  rintro e w1 ⟨rfl, hb1⟩
  have q0 := q0.below hb1 q0.lt
  have qz := qz.below hb1 qz.lt
  have hB := hB.trans (hb1.mono hB.size)
  clear hb1 HR HQ
  clear hn1 hn2
  have hR := HD.out
  clear HD
  cases IB
  · simp only [Bool.false_eq_true, if_false] at hR
    clear HX q0 HS
    go_wp2_with fail
    refine (HIl.out 1 _).mono ?_
    rintro e w9 ⟨rfl, hb9⟩
    have qz := qz.below hb9 qz.lt
    have hB := hB.trans (hb9.mono hB.size)
    clear hb9 HIl
    have f0 : w9.frozen? ⟨w.heap.size + 1, 0, none⟩ = false := qz.frozen 0
    have f1 : w9.frozen? ⟨w.heap.size + 1, 1, none⟩ = false := qz.frozen 1
    have f2 : w9.frozen? ⟨w.heap.size + 1, 2, none⟩ = false := qz.frozen 2
    have f3 : w9.frozen? ⟨w.heap.size + 1, 3, none⟩ = false := qz.frozen 3
    have z0 : w9.cell? ⟨w.heap.size + 1, 0, none⟩ = some (.slice none 0 0) := qz.cell 0
    have z1 : w9.cell? ⟨w.heap.size + 1, 1, none⟩ = some (.slice none 0 0) := qz.cell 1
    have z2 : w9.cell? ⟨w.heap.size + 1, 2, none⟩ = some (.int .i64 0) := qz.cell 2
    have z3 : w9.cell? ⟨w.heap.size + 1, 3, none⟩ = some (.int .i64 0) := qz.cell 3
    have HE : Hid _ := out4 (p := none) (q := none) (now := 0) (cc := 1) qz rfl (show w.heap.size ≤ w.heap.size + 1 by omega) hB (ownsI_nil w9 w.heap.size) (ownsR_nil w9 w.heap.size) rfl _ rfl
    clear qz hB 
    go_wp2_with fail
    generalize (((w9.setCell ⟨w.heap.size + 1, 0, none⟩ (.slice none 0 0)).setCell ⟨w.heap.size + 1, 1, none⟩ (.slice none 0 0)).setCell ⟨w.heap.size + 1, 2, none⟩ (.int .i64 0)).setCell ⟨w.heap.size + 1, 3, none⟩ (.int .i64 1) = Z at *
    obtain ⟨k1, k2, k3, k4⟩ := HE.out
    clear HE f0 f1 f2 f3 z0 z1 z2 z3
    have e0 : Z.cell? ⟨w.heap.size + 1, 0, none⟩ = some (.slice none 0 0) := k1.cell 0
    have e1 : Z.cell? ⟨w.heap.size + 1, 1, none⟩ = some (.slice none 0 0) := k1.cell 1
    have e2 : Z.cell? ⟨w.heap.size + 1, 2, none⟩ = some (.int .i64 0) := k1.cell 2
    have e3 : Z.cell? ⟨w.heap.size + 1, 3, none⟩ = some (.int .i64 1) := k1.cell 3
    exact bodyPost_ret (v := .agg #[.slice none 0 0, .slice none 0 0, .int .i64 0, .int .i64 1]) (by simp [results, Tryz.results22, go_sem, e0, e1, e2, e3]) rfl ⟨by rw [hR]; exact outI_no _ _ _, k2⟩
  · simp only [if_true] at hR
    have HS2 := HS.out rfl
    clear HS HIl
    generalize (if now = 999800 then ((9 : Int), ([] : List If), ([] : List Rt), (0 : Int)) else (0, is, rs.filterMap (tickF (now + 1)), now + 1)) = R4 at *
    obtain ⟨cc, is4, rs4, now4⟩ := R4
    have y0 : w1.cell? ⟨w.heap.size, 0, none⟩ = some (.slice x is.length c1) := q0.cell 0
    have y1 : w1.cell? ⟨w.heap.size, 1, none⟩ = some (.slice y rs.length c2) := q0.cell 1
    have y2 : w1.cell? ⟨w.heap.size, 2, none⟩ = some (.int .i64 now) := q0.cell 2
    go_wp2_with fail
    refine (HS2 _ (HX.out.1.below hB) (HX.out.2.below hB)).mono ?_
    rintro e w4 ⟨⟨p, d1, q, d2, rfl, oi, orr⟩, hb4⟩
    have hBs := hB.size
    have qz := qz.below hb4 qz.lt
    have hB := hB.trans (hb4.mono hB.size)
    clear hb4 HS2 HX y0 y1 y2 q0
    simp only at oi orr ⊢
    have f0 : w4.frozen? ⟨w.heap.size + 1, 0, none⟩ = false := qz.frozen 0
    have f1 : w4.frozen? ⟨w.heap.size + 1, 1, none⟩ = false := qz.frozen 1
    have f2 : w4.frozen? ⟨w.heap.size + 1, 2, none⟩ = false := qz.frozen 2
    have f3 : w4.frozen? ⟨w.heap.size + 1, 3, none⟩ = false := qz.frozen 3
    have z0 : w4.cell? ⟨w.heap.size + 1, 0, none⟩ = some (.slice none 0 0) := qz.cell 0
    have z1 : w4.cell? ⟨w.heap.size + 1, 1, none⟩ = some (.slice none 0 0) := qz.cell 1
    have z2 : w4.cell? ⟨w.heap.size + 1, 2, none⟩ = some (.int .i64 0) := qz.cell 2
    have z3 : w4.cell? ⟨w.heap.size + 1, 3, none⟩ = some (.int .i64 0) := qz.cell 3
    have HE : Hid _ := out4 (p := p) (q := q) (now := now4) (cc := cc) qz rfl (show w.heap.size ≤ w.heap.size + 1 by omega) hB oi orr rfl _ rfl
    clear qz hB oi orr
    go_wp2_with fail
    generalize (((w4.setCell ⟨w.heap.size + 1, 0, none⟩ (.slice p is4.length d1)).setCell ⟨w.heap.size + 1, 1, none⟩ (.slice q rs4.length d2)).setCell ⟨w.heap.size + 1, 2, none⟩ (.int .i64 now4)).setCell ⟨w.heap.size + 1, 3, none⟩ (.int .i64 cc) = Z at *
    obtain ⟨k1, k2, k3, k4⟩ := HE.out
    clear HE f0 f1 f2 f3 z0 z1 z2 z3
    have e0 : Z.cell? ⟨w.heap.size + 1, 0, none⟩ = some (.slice p is4.length d1) := k1.cell 0
    have e1 : Z.cell? ⟨w.heap.size + 1, 1, none⟩ = some (.slice q rs4.length d2) := k1.cell 1
    have e2 : Z.cell? ⟨w.heap.size + 1, 2, none⟩ = some (.int .i64 now4) := k1.cell 2
    have e3 : Z.cell? ⟨w.heap.size + 1, 3, none⟩ = some (.int .i64 cc) := k1.cell 3
    exact bodyPost_ret (v := .agg #[.slice p is4.length d1, .slice q rs4.length d2, .int .i64 now4, .int .i64 cc]) (by simp [results, Tryz.results22, go_sem, e0, e1, e2, e3]) rfl ⟨by rw [hR]; exact ⟨p, d1, q, d2, rfl, ownsI_mono k3 (by omega), ownsR_mono k4 (by omega)⟩, k2⟩
end Go.Proofs.YtifckpncpjijiaaGreat
