/- Texts that stand on each other, in one file: HearS, HearT. -/
import Derived.Test.YtifckpncpjijiaaGreatPack33
import Derived.Test.YtifckpncpjijiaaGreatPack35
import Derived.Test.YtifckpncpjijiaaGreatPack13
import Derived.Test.YtifckpncpjijiaaGreatPack36
/- HearRip of the model. (Written by gen_hears.py.) -/
namespace Go.Proofs.YtifckpncpjijiaaGreat
open Go.RowKit Go.Sort

theorem l01Min_any (a b : Int) (w : World) : Calls Tryz.prog 97 #[.int .i64 a, .int .i64 b] w fun e w' => e = .returned (.int .i64 (min a b)) ∧ w = w' := by
  by_cases h : a < b
  · have e : min a b = a := by omega
    rw [e]
    have d : decide (a < b) = true := by simpa using h
    clear h e
    go_enter Tryz.func97, Tryz.ntmps97
    go_wp2
    go_ret
    exact ⟨rfl, rfl⟩
  · have e : min a b = b := by omega
    rw [e]
    have d : decide (a < b) = false := by simpa using h
    clear h e
    go_enter Tryz.func97, Tryz.ntmps97
    go_wp2
    go_ret
    exact ⟨rfl, rfl⟩
theorem ownsR_ltH {w : World} {base n cv : Nat} {p : Option Addr} {xs : List Value} (h : w.ownsRow base 98 9 (.slice p n cv) n xs) : ∀ b, p = some ⟨b, 0, none⟩ → b < w.heap.size := fun b e => by
  subst e
  exact (World.ownsRow.lt h b rfl).2
theorem ownsR_capsH {w : World} {base n cv : Nat} {p : Option Addr} {xs : List Value} (h : w.ownsRow base 98 9 (.slice p n cv) n xs) : (p = none → cv = 0) ∧ n ≤ cv := by
  rcases h.2 with ⟨h1, h2⟩ | ⟨g, cap, cur, h1, _, _, h4, _⟩
  · simp only [Value.slice.injEq] at h1
    obtain ⟨rfl, rfl, rfl⟩ := h1
    exact ⟨fun _ => rfl, Nat.le_refl _⟩
  · simp only [Value.slice.injEq] at h1
    obtain ⟨rfl, _, rfl⟩ := h1
    exact ⟨(fun e => by cases e), h4⟩
theorem hearK_step {f : If} {i fr now : Int} {rs : List Rt} {es : List Ent} {j : Nat} (hj : j < es.length) (h : ribB (hearK f i fr now rs es j) = true) (ht : toldB (wayE f i fr es[j]) now = true) : ((learnK (hearK f i fr now rs es j) (wayE f i fr es[j]) now).1 = 0 → hearK f i fr now rs es (j + 1) = (learnK (hearK f i fr now rs es j) (wayE f i fr es[j]) now).2) ∧ ((learnK (hearK f i fr now rs es j) (wayE f i fr es[j]) now).1 ≠ 0 → hearK f i fr now rs es (j + 1) = hearK f i fr now rs es j) := by
  rw [hearK_next f i fr now rs es j hj]
  unfold stepH
  rw [learn_of h ht]
  exact ⟨fun h0 => if_pos h0, fun h0 => if_neg h0⟩
theorem way_row (f : If) (k : Nat) (fr : Int) (a l n m t mw nx : Int) (hm : min (m + f.c) 16 = mw) (h : (if n ≠ 0 ∧ nearF f n = true then n else fr) = nx) : rtV (wayE f (k : Int) fr ⟨a, l, n, m, t⟩) = .agg #[.int .i64 a, .int .i64 l, .int .i64 mw, .int .i64 nx, .int .i64 (k : Int), .int .i64 t, .int .i64 0, .int .i64 0, .bool false] := by
  subst hm h
  rfl
set_option maxRecDepth 100000 in
set_option maxHeartbeats 2000000 in
theorem l07Hear_any (x : Option Addr) (c1 : Nat) (y : Option Addr) (c2 : Nat) (is : List If) (rs : List Rt) (now : Int) (k : Nat) (fr c : Int) (z : Option Addr) (cz : Nat) (es : List Ent) (w : World) (h1 : IfsIn w x is) (_hc : is.length ≤ c1) (hc1 : x = none → c1 = 0) (h2 : RtsIn w y rs) (hc2 : y = none → c2 = 0) (hl2 : rs.length ≤ c2) (hn1 : is.length ≤ 100000000) (hn2 : rs.length ≤ 100000000) (h3 : EntsIn w z es) (hn3 : es.length ≤ 100000000) (hk : k < is.length) (hI : ifsB is = true) (hrib : ribB rs = true) (n0 : 0 ≤ now) (n1 : now ≤ 999800) (hcm : c = 1 ∨ c = 2) (hes : es.all entB = true) :
    Calls Tryz.prog 48 #[instV x is.length c1 y rs.length c2 now, .int .i64 (k : Int), .int .i64 fr, ripV c z es.length cz] w fun e w' => OutI w.heap.size (if is[k].u = true then (if fr ≠ 0 ∧ nearF is[k] fr = true then (0, is, (if c = 1 then rs else hearK is[k] k fr now rs es es.length), now) else ((11 : Int), [], [], (0 : Int))) else ((10 : Int), [], [], (0 : Int))) e w' ∧ Below w.heap.size w w' := by
  have HN : Hid (∀ x' w, IfsIn w x is → Calls Tryz.prog 96 #[instV x is.length c1 y rs.length c2 now, .int .i64 (k : Int), .int .i64 x'] w fun e w' => e = .returned (.bool (nearF is[k] x')) ∧ Below w.heap.size w w') := fun x' w p => l07Near_any x c1 y rs.length c2 now x' is k hk (ifsB_right hI k hk) w p hn1
  have HIl : Hid (∀ c w, Calls Tryz.prog 46 #[.int .i64 c] w fun e w' => e = .returned (.agg #[.slice none 0 0, .slice none 0 0, .int .i64 0, .int .i64 c]) ∧ Below w.heap.size w w') := l07Ill_any
  have HC : Hid (∀ w, IfsIn w x is → RtsIn w y rs → Calls Tryz.prog 70 #[instV x is.length c1 y rs.length c2 now] w fun e w' => ∃ q1 k1 q2 k2, e = .returned (.agg #[.slice q1 is.length k1, .slice q2 rs.length k2, .int .i64 now]) ∧ w'.ownsRow w.heap.size 89 5 (.slice q1 is.length k1) is.length (rowI is) ∧ w'.ownsRow w.heap.size 98 9 (.slice q2 rs.length k2) rs.length (rowR rs) ∧ Below w.heap.size w w') := fun w p q => l07Copy_any x _ c1 y _ c2 is rs now w rfl rfl p hc1 q hc2 hl2 hn1 hn2
  have hnow := inNow_of n0 (by omega : now ≤ 999900)
  have hifk : ifB is[k] = true := ifsB_if hI k hk
  have hink : inIf (k : Int) = true := ifsB_inIf hI k hk
  have HLn : Hid (fr ≠ 0 → nearF is[k] fr = true → ∀ j (hj : j < es.length), ((learnK (hearK is[k] k fr now rs es j) (wayE is[k] k fr es[j]) now).1 = 0 → hearK is[k] k fr now rs es (j + 1) = (learnK (hearK is[k] k fr now rs es j) (wayE is[k] k fr es[j]) now).2) ∧ ((learnK (hearK is[k] k fr now rs es j) (wayE is[k] k fr es[j]) now).1 ≠ 0 → hearK is[k] k fr now rs es (j + 1) = hearK is[k] k fr now rs es j) ∧ ∀ base q k' w, w.ownsRow base 98 9 (.slice q (hearK is[k] k fr now rs es j).length k') (hearK is[k] k fr now rs es j).length (rowR (hearK is[k] k fr now rs es j)) → Calls Tryz.prog 98 #[.agg #[.slice q (hearK is[k] k fr now rs es j).length k'], rtV (wayE is[k] k fr es[j]), .int .i64 now] w fun e w' => OutR w.heap.size (learnK (hearK is[k] k fr now rs es j) (wayE is[k] k fr es[j]) now).1 (learnK (hearK is[k] k fr now rs es j) (wayE is[k] k fr es[j]) now).2 e w' ∧ Below w.heap.size w w') := fun hf0 hnr j hj => by
    have hr := hearK_right hifk hink hf0 hnr hnow hrib hes j (by omega)
    have ht := way_told hifk ((List.all_eq_true.1 hes) _ (List.getElem_mem hj)) hink hf0 hnr hnow
    obtain ⟨a1, a2⟩ := hearK_step hj hr ht
    refine ⟨a1, a2, fun base q k' w ho => ?_⟩
    obtain ⟨hc0, hcl⟩ := ownsR_capsH ho
    exact l06Learn_any q k' _ _ now w (ownsR_in rfl ho) hc0 hcl hr n0 (by omega)
  have HX : Hid (IfsIn w x is ∧ RtsIn w y rs ∧ EntsIn w z es) := ⟨h1, h2, h3⟩
  obtain ⟨gx, fd, fa, fl, fc, fu, rfl, hbl, hek, g0, g1, g2, g3, g4⟩ := h1.at k hk
  have hfu : is[k].u = fu := by rw [hek]
  have hfc : is[k].c = fc := by rw [hek]
  have hcb : 1 ≤ fc ∧ fc ≤ 15 := by
    rw [← hfc]
    unfold ifB at hifk
    simp only [Bool.and_eq_true, decide_eq_true_eq] at hifk
    exact hifk.2
  obtain ⟨RES, hRES⟩ : ∃ R, R = (if is[k].u = true then (if fr ≠ 0 ∧ nearF is[k] fr = true then (0, is, (if c = 1 then rs else hearK is[k] k fr now rs es es.length), now) else ((11 : Int), [], [], (0 : Int))) else ((10 : Int), [], [], (0 : Int))) := ⟨_, rfl⟩
  rw [← hRES]
  clear h1 h2 h3 _hc hc1 hc2 hl2 hnow hifk hink hek g0 g1 g2 hrib n0 n1 hI hn1 hn2
  generalize is[k] = f2 at *
  have hR := hRES
  clear hRES
  rw [hfu] at hR
  unfold instV ripV at *
  obtain ⟨W, hW, q0, qr, qz, hB, hS, -⟩ := rows3 w [.slice (some ⟨gx, 0, none⟩) is.length c1, .slice y rs.length c2, .int .i64 now] [.int .i64 c, .slice z es.length cz] [.slice none 0 0, .slice none 0 0, .int .i64 0, .int .i64 0] 38 45 40
  have HW : Hid _ := hW
  have x3 : W.cell? ⟨gx, k * 5 + 3, none⟩ = some (.int .i64 fc) := by rw [hB.cell (p := ⟨gx, k * 5 + 3, none⟩) hbl]; exact g3
  have x4 : W.cell? ⟨gx, k * 5 + 4, none⟩ = some (.bool fu) := by rw [hB.cell (p := ⟨gx, k * 5 + 4, none⟩) hbl]; exact g4
  have y0 : W.cell? ⟨w.heap.size, 0, none⟩ = some (.slice (some ⟨gx, 0, none⟩) is.length c1) := q0.cell 0
  have y1 : W.cell? ⟨w.heap.size, 1, none⟩ = some (.slice y rs.length c2) := q0.cell 1
  have y2 : W.cell? ⟨w.heap.size, 2, none⟩ = some (.int .i64 now) := q0.cell 2
  have zk : (k : Int) < (is.length : Int) := by omega
  have HQ : Hid _ := And.intro q0 (And.intro qr (And.intro qz hB))
  clear q0 qr qz hB hS g4
  rw [hW] at x3 x4 y0 y1 y2
  clear hW
  cases fu
  · rw [if_neg (by decide)] at hR
    go_enter Tryz.func48, Tryz.ntmps48
    go_wp2_with fail
    rw [← HW.out]
    obtain ⟨q0, qr, qz, hB⟩ := HQ.out
    clear x3 x4 y0 y1 y2 HW HQ HC HN HLn HX
    refine (HIl.out 10 _).mono ?_
    rintro e w9 ⟨rfl, hb9⟩
    have qz := qz.below hb9 qz.lt
    have hB := hB.trans (hb9.mono hB.size)
    clear hb9 HIl
    have f0 : w9.frozen? ⟨w.heap.size + 1 + 1, 0, none⟩ = false := qz.frozen 0
    have f1 : w9.frozen? ⟨w.heap.size + 1 + 1, 1, none⟩ = false := qz.frozen 1
    have f2 : w9.frozen? ⟨w.heap.size + 1 + 1, 2, none⟩ = false := qz.frozen 2
    have f3 : w9.frozen? ⟨w.heap.size + 1 + 1, 3, none⟩ = false := qz.frozen 3
    have z0 : w9.cell? ⟨w.heap.size + 1 + 1, 0, none⟩ = some (.slice none 0 0) := qz.cell 0
    have z1 : w9.cell? ⟨w.heap.size + 1 + 1, 1, none⟩ = some (.slice none 0 0) := qz.cell 1
    have z2 : w9.cell? ⟨w.heap.size + 1 + 1, 2, none⟩ = some (.int .i64 0) := qz.cell 2
    have z3 : w9.cell? ⟨w.heap.size + 1 + 1, 3, none⟩ = some (.int .i64 0) := qz.cell 3
    have HE : Hid _ := out4 (p := none) (q := none) (now := 0) (cc := 10) qz rfl (show w.heap.size ≤ w.heap.size + 1 + 1 by omega) hB (ownsI_nil w9 w.heap.size) (ownsR_nil w9 w.heap.size) rfl _ rfl
    clear qz hB 
    go_wp2_with fail
    generalize (((w9.setCell ⟨w.heap.size + 1 + 1, 0, none⟩ (.slice none 0 0)).setCell ⟨w.heap.size + 1 + 1, 1, none⟩ (.slice none 0 0)).setCell ⟨w.heap.size + 1 + 1, 2, none⟩ (.int .i64 0)).setCell ⟨w.heap.size + 1 + 1, 3, none⟩ (.int .i64 10) = Z at *
    obtain ⟨m1, m2, m3, m4⟩ := HE.out
    clear HE f0 f1 f2 f3 z0 z1 z2 z3
    have e0_ : Z.cell? ⟨w.heap.size + 1 + 1, 0, none⟩ = some (.slice none 0 0) := m1.cell 0
    have e1_ : Z.cell? ⟨w.heap.size + 1 + 1, 1, none⟩ = some (.slice none 0 0) := m1.cell 1
    have e2_ : Z.cell? ⟨w.heap.size + 1 + 1, 2, none⟩ = some (.int .i64 0) := m1.cell 2
    have e3_ : Z.cell? ⟨w.heap.size + 1 + 1, 3, none⟩ = some (.int .i64 10) := m1.cell 3
    exact bodyPost_ret (v := .agg #[.slice none 0 0, .slice none 0 0, .int .i64 0, .int .i64 10]) (by simp [results, Tryz.results48, go_sem, e0_, e1_, e2_, e3_]) rfl ⟨by rw [hR]; exact outI_no _ _ _, m2⟩
  · rw [if_pos rfl] at hR
    go_enter Tryz.func48, Tryz.ntmps48
    go_wp2_with fail
    rw [← HW.out]
    obtain ⟨q0, qr, qz, hB⟩ := HQ.out
    clear x3 x4 y0 y1 y2 HW HQ
    refine (HN.out fr _ (HX.out.1.below hB)).mono ?_
    rintro e w2 ⟨rfl, hb2⟩
    have q0 := q0.below hb2 q0.lt
    have qr := qr.below hb2 qr.lt
    have qz := qz.below hb2 qz.lt
    have hB := hB.trans (hb2.mono hB.size)
    clear hb2
    generalize hNR : nearF f2 fr = NR at *
    have HNR : Hid (nearF f2 fr = NR) := hNR
    clear hNR
    cases NR
    · rw [if_neg (fun h => by cases h.2)] at hR
      clear HC HN HLn HX q0 qr
      go_wp2_with fail
      refine (HIl.out 11 _).mono ?_
      rintro e w9 ⟨rfl, hb9⟩
      have qz := qz.below hb9 qz.lt
      have hB := hB.trans (hb9.mono hB.size)
      clear hb9 HIl
      have f0 : w9.frozen? ⟨w.heap.size + 1 + 1, 0, none⟩ = false := qz.frozen 0
      have f1 : w9.frozen? ⟨w.heap.size + 1 + 1, 1, none⟩ = false := qz.frozen 1
      have f2 : w9.frozen? ⟨w.heap.size + 1 + 1, 2, none⟩ = false := qz.frozen 2
      have f3 : w9.frozen? ⟨w.heap.size + 1 + 1, 3, none⟩ = false := qz.frozen 3
      have z0 : w9.cell? ⟨w.heap.size + 1 + 1, 0, none⟩ = some (.slice none 0 0) := qz.cell 0
      have z1 : w9.cell? ⟨w.heap.size + 1 + 1, 1, none⟩ = some (.slice none 0 0) := qz.cell 1
      have z2 : w9.cell? ⟨w.heap.size + 1 + 1, 2, none⟩ = some (.int .i64 0) := qz.cell 2
      have z3 : w9.cell? ⟨w.heap.size + 1 + 1, 3, none⟩ = some (.int .i64 0) := qz.cell 3
      have HE : Hid _ := out4 (p := none) (q := none) (now := 0) (cc := 11) qz rfl (show w.heap.size ≤ w.heap.size + 1 + 1 by omega) hB (ownsI_nil w9 w.heap.size) (ownsR_nil w9 w.heap.size) rfl _ rfl
      clear qz hB 
      go_wp2_with fail
      generalize (((w9.setCell ⟨w.heap.size + 1 + 1, 0, none⟩ (.slice none 0 0)).setCell ⟨w.heap.size + 1 + 1, 1, none⟩ (.slice none 0 0)).setCell ⟨w.heap.size + 1 + 1, 2, none⟩ (.int .i64 0)).setCell ⟨w.heap.size + 1 + 1, 3, none⟩ (.int .i64 11) = Z at *
      obtain ⟨m1, m2, m3, m4⟩ := HE.out
      clear HE f0 f1 f2 f3 z0 z1 z2 z3
      have e0_ : Z.cell? ⟨w.heap.size + 1 + 1, 0, none⟩ = some (.slice none 0 0) := m1.cell 0
      have e1_ : Z.cell? ⟨w.heap.size + 1 + 1, 1, none⟩ = some (.slice none 0 0) := m1.cell 1
      have e2_ : Z.cell? ⟨w.heap.size + 1 + 1, 2, none⟩ = some (.int .i64 0) := m1.cell 2
      have e3_ : Z.cell? ⟨w.heap.size + 1 + 1, 3, none⟩ = some (.int .i64 11) := m1.cell 3
      exact bodyPost_ret (v := .agg #[.slice none 0 0, .slice none 0 0, .int .i64 0, .int .i64 11]) (by simp [results, Tryz.results48, go_sem, e0_, e1_, e2_, e3_]) rfl ⟨by rw [hR]; exact outI_no _ _ _, m2⟩
    · by_cases hf0 : fr = 0
      · have zf : (fr == 0) = true := by simpa using hf0
        rw [if_neg (fun h => h.1 hf0)] at hR
        clear HC HN HLn HX q0 qr hf0
        go_wp2_with fail
        refine (HIl.out 11 _).mono ?_
        rintro e w9 ⟨rfl, hb9⟩
        have qz := qz.below hb9 qz.lt
        have hB := hB.trans (hb9.mono hB.size)
        clear hb9 HIl
        have f0 : w9.frozen? ⟨w.heap.size + 1 + 1, 0, none⟩ = false := qz.frozen 0
        have f1 : w9.frozen? ⟨w.heap.size + 1 + 1, 1, none⟩ = false := qz.frozen 1
        have f2 : w9.frozen? ⟨w.heap.size + 1 + 1, 2, none⟩ = false := qz.frozen 2
        have f3 : w9.frozen? ⟨w.heap.size + 1 + 1, 3, none⟩ = false := qz.frozen 3
        have z0 : w9.cell? ⟨w.heap.size + 1 + 1, 0, none⟩ = some (.slice none 0 0) := qz.cell 0
        have z1 : w9.cell? ⟨w.heap.size + 1 + 1, 1, none⟩ = some (.slice none 0 0) := qz.cell 1
        have z2 : w9.cell? ⟨w.heap.size + 1 + 1, 2, none⟩ = some (.int .i64 0) := qz.cell 2
        have z3 : w9.cell? ⟨w.heap.size + 1 + 1, 3, none⟩ = some (.int .i64 0) := qz.cell 3
        have HE : Hid _ := out4 (p := none) (q := none) (now := 0) (cc := 11) qz rfl (show w.heap.size ≤ w.heap.size + 1 + 1 by omega) hB (ownsI_nil w9 w.heap.size) (ownsR_nil w9 w.heap.size) rfl _ rfl
        clear qz hB 
        go_wp2_with fail
        generalize (((w9.setCell ⟨w.heap.size + 1 + 1, 0, none⟩ (.slice none 0 0)).setCell ⟨w.heap.size + 1 + 1, 1, none⟩ (.slice none 0 0)).setCell ⟨w.heap.size + 1 + 1, 2, none⟩ (.int .i64 0)).setCell ⟨w.heap.size + 1 + 1, 3, none⟩ (.int .i64 11) = Z at *
        obtain ⟨m1, m2, m3, m4⟩ := HE.out
        clear HE f0 f1 f2 f3 z0 z1 z2 z3
        have e0_ : Z.cell? ⟨w.heap.size + 1 + 1, 0, none⟩ = some (.slice none 0 0) := m1.cell 0
        have e1_ : Z.cell? ⟨w.heap.size + 1 + 1, 1, none⟩ = some (.slice none 0 0) := m1.cell 1
        have e2_ : Z.cell? ⟨w.heap.size + 1 + 1, 2, none⟩ = some (.int .i64 0) := m1.cell 2
        have e3_ : Z.cell? ⟨w.heap.size + 1 + 1, 3, none⟩ = some (.int .i64 11) := m1.cell 3
        exact bodyPost_ret (v := .agg #[.slice none 0 0, .slice none 0 0, .int .i64 0, .int .i64 11]) (by simp [results, Tryz.results48, go_sem, e0_, e1_, e2_, e3_]) rfl ⟨by rw [hR]; exact outI_no _ _ _, m2⟩
      · have zf : (fr == 0) = false := by simpa using hf0
        rw [if_pos ⟨hf0, rfl⟩] at hR
        have HLj : Hid _ := HLn.out hf0 rfl
        clear HNR HLn
        have y0 : w2.cell? ⟨w.heap.size, 0, none⟩ = some (.slice (some ⟨gx, 0, none⟩) is.length c1) := q0.cell 0
        have y1 : w2.cell? ⟨w.heap.size, 1, none⟩ = some (.slice y rs.length c2) := q0.cell 1
        have y2 : w2.cell? ⟨w.heap.size, 2, none⟩ = some (.int .i64 now) := q0.cell 2
        go_wp2_with fail
        refine (HC.out _ (HX.out.1.below hB) (HX.out.2.1.below hB)).mono ?_
        rintro e w3 ⟨p0, dz0, q20, e20, rfl, o1, o2, hb3⟩
        have hbz := hB.size
        have L0 := q0.lt
        have L1 := qr.lt
        have L2 := qz.lt
        have hb3s := hb3.size
        have o1 := ownsI_mono (base' := w.heap.size) o1 hbz
        have o2 := ownsR_mono (base' := w.heap.size) o2 hbz
        have q0 := q0.below hb3 q0.lt
        have qr := qr.below hb3 qr.lt
        have qz := qz.below hb3 qz.lt
        have hB := hB.trans (hb3.mono hB.size)
        clear hb3 HC y0 y1 y2
        have rb := Row.new w3 38 [.slice p0 is.length dz0, .slice q20 rs.length e20, .int .i64 now]
        have A3 := ent_new0 w3 (.cells #[.slice p0 is.length dz0, .slice q20 rs.length e20, .int .i64 now] 38)
        have LbW : w.heap.size ≠ w3.heap.size ∧ w.heap.size + 1 ≠ w3.heap.size ∧ w.heap.size + 1 + 1 ≠ w3.heap.size ∧ w.heap.size ≤ w3.heap.size := ⟨by omega, by omega, by omega, by omega⟩
        have q0 := q0.below A3 q0.lt
        have qr := qr.below A3 qr.lt
        have qz := qz.below A3 qz.lt
        have o1 := ownsI_below o1 A3
        have o2 := ownsR_below o2 A3
        have hB := hB.trans (A3.mono hB.size)
        clear A3 L0 L1 L2 hb3s hbz
        have HA : Hid _ := And.intro rb (And.intro o1 (And.intro o2 (And.intro q0 (And.intro qr (And.intro qz hB)))))
        clear rb o1 o2 q0 qr qz hB
        go_wp2_with fail
        generalize w3.heap.size = b at *
        generalize w3.alloc (.cells #[.slice p0 is.length dz0, .slice q20 rs.length e20, .int .i64 now] 38) = W3 at *
        go_loopw [10] (fun i' wr => ∃ (j : Nat) (p1 : Option Addr) (dz1 : Nat) (q2 : Option Addr) (k2 : Nat), j ≤ es.length ∧ i' = .int .i64 j ∧ (c = 1 → j = 0) ∧ Row wr b 38 [.slice p1 is.length dz1, .slice q2 (hearK f2 k fr now rs es j).length k2, .int .i64 now] ∧ wr.ownsRow w.heap.size 89 5 (.slice p1 is.length dz1) is.length (rowI is) ∧ wr.ownsRow w.heap.size 98 9 (.slice q2 (hearK f2 k fr now rs es j).length k2) (hearK f2 k fr now rs es j).length (rowR (hearK f2 k fr now rs es j)) ∧ Row wr w.heap.size 38 [.slice (some ⟨gx, 0, none⟩) is.length c1, .slice y rs.length c2, .int .i64 now] ∧ Row wr (w.heap.size + 1) 45 [.int .i64 c, .slice z es.length cz] ∧ Row wr (w.heap.size + 1 + 1) 40 [.slice none 0 0, .slice none 0 0, .int .i64 0, .int .i64 0] ∧ Below w.heap.size w wr) (fun i' _ => es.length - (intOf i').toNat)
        case atStart => exact ⟨0, p0, dz0, q20, e20, Nat.zero_le _, rfl, fun _ => rfl, HA.out⟩
        case round =>
          obtain ⟨j, p1, dz1, q2, k2, hj, rfl, hc0, rb, o1, o2, q0, qr, qz, hB⟩ := hrel
          clear HA
          have v0 : wr.cell? ⟨w.heap.size + 1, 0, none⟩ = some (.int .i64 c) := qr.cell 0
          have v1 : wr.cell? ⟨w.heap.size + 1, 1, none⟩ = some (.slice z es.length cz) := qr.cell 1
          by_cases hlt : j < es.length
          · have dj : decide ((j : Int) < (es.length : Int)) = true := by simpa using hlt
            by_cases hc1 : c = 1
            · have zc : (c == 2) = false := by subst hc1; rfl
              rw [if_pos hc1] at hR
              obtain rfl : j = 0 := hc0 hc1
              rw [hearK_0] at rb o2
              clear hc0 hc1 hcm hes hn3 g3
              have t0 : wr.cell? ⟨b, 0, none⟩ = some (.slice p1 is.length dz1) := rb.cell 0
              have t1 : wr.cell? ⟨b, 1, none⟩ = some (.slice q2 rs.length k2) := rb.cell 1
              have t2 : wr.cell? ⟨b, 2, none⟩ = some (.int .i64 now) := rb.cell 2
              clear rb q0 qr HX HN HLj HIl
              have f0 : wr.frozen? ⟨w.heap.size + 1 + 1, 0, none⟩ = false := qz.frozen 0
              have f1 : wr.frozen? ⟨w.heap.size + 1 + 1, 1, none⟩ = false := qz.frozen 1
              have f2 : wr.frozen? ⟨w.heap.size + 1 + 1, 2, none⟩ = false := qz.frozen 2
              have f3 : wr.frozen? ⟨w.heap.size + 1 + 1, 3, none⟩ = false := qz.frozen 3
              have z0 : wr.cell? ⟨w.heap.size + 1 + 1, 0, none⟩ = some (.slice none 0 0) := qz.cell 0
              have z1 : wr.cell? ⟨w.heap.size + 1 + 1, 1, none⟩ = some (.slice none 0 0) := qz.cell 1
              have z2 : wr.cell? ⟨w.heap.size + 1 + 1, 2, none⟩ = some (.int .i64 0) := qz.cell 2
              have z3 : wr.cell? ⟨w.heap.size + 1 + 1, 3, none⟩ = some (.int .i64 0) := qz.cell 3
              have HE : Hid _ := out4 (p := p1) (q := q2) (now := now) (cc := 0) qz rfl (show w.heap.size ≤ w.heap.size + 1 + 1 by omega) hB o1 o2 rfl _ rfl
              clear qz hB o1 o2
              go_wp2_with fail
              generalize (((wr.setCell ⟨w.heap.size + 1 + 1, 0, none⟩ (.slice p1 is.length dz1)).setCell ⟨w.heap.size + 1 + 1, 1, none⟩ (.slice q2 rs.length k2)).setCell ⟨w.heap.size + 1 + 1, 2, none⟩ (.int .i64 now)).setCell ⟨w.heap.size + 1 + 1, 3, none⟩ (.int .i64 0) = Z at *
              obtain ⟨m1, m2, m3, m4⟩ := HE.out
              clear HE f0 f1 f2 f3 z0 z1 z2 z3
              have e0_ : Z.cell? ⟨w.heap.size + 1 + 1, 0, none⟩ = some (.slice p1 is.length dz1) := m1.cell 0
              have e1_ : Z.cell? ⟨w.heap.size + 1 + 1, 1, none⟩ = some (.slice q2 rs.length k2) := m1.cell 1
              have e2_ : Z.cell? ⟨w.heap.size + 1 + 1, 2, none⟩ = some (.int .i64 now) := m1.cell 2
              have e3_ : Z.cell? ⟨w.heap.size + 1 + 1, 3, none⟩ = some (.int .i64 0) := m1.cell 3
              exact bodyPost_ret (v := .agg #[.slice p1 is.length dz1, .slice q2 rs.length k2, .int .i64 now, .int .i64 0]) (by simp [results, Tryz.results48, go_sem, e0_, e1_, e2_, e3_]) rfl ⟨by rw [hR]; exact ⟨p1, dz1, q2, k2, rfl, m3, m4⟩, m2⟩
            · have hc2 : c = 2 := hcm.resolve_left hc1
              subst hc2
              clear hcm
              obtain ⟨a1, a2, a3⟩ := HLj.out j hlt
              obtain ⟨gz, a, l, n, m, t, rfl, hgz, hej, e0, e1, e2, e3, e4⟩ := (HX.out.2.2.below hB).at j hlt
              have hbe : entB es[j] = true := (List.all_eq_true.1 hes) _ (List.getElem_mem hlt)
              have hmb : 1 ≤ m ∧ m ≤ 16 := by
                rw [hej] at hbe
                unfold entB at hbe
                simp only [Bool.and_eq_true, inMet, decide_eq_true_eq] at hbe
                exact hbe.1.2
              have zj : (j : Int) < (es.length : Int) := by omega
              have HMn : Hid (∀ w, Calls Tryz.prog 97 #[.int .i64 16, .int .i64 (m + fc)] w fun e w' => e = .returned (.int .i64 (min (m + fc) 16)) ∧ w = w') := fun w => by
                have := l01Min_any 16 (m + fc) w
                rw [Int.min_comm] at this
                exact this
              have hWr : IntKind.i64.wrap (m + fc) = m + fc := wrap_i64_in _ (by omega) (by omega)
              have hmw : min (m + f2.c) 16 = min (m + fc) 16 := by rw [hfc]
              generalize min (m + fc) 16 = mw at *
              rw [hej] at a1 a2 a3
              generalize learnK (hearK f2 k fr now rs es j) (wayE f2 k fr ⟨a, l, n, m, t⟩) now = LR at *
              obtain ⟨LC, QS⟩ := LR
              simp only at a1 a2 a3
              have HSt : Hid ((LC = 0 → hearK f2 k fr now rs es (j + 1) = QS) ∧ (LC ≠ 0 → hearK f2 k fr now rs es (j + 1) = hearK f2 k fr now rs es j)) := ⟨a1, a2⟩
              generalize hearK f2 k fr now rs es j = qs at *
              generalize hMM : qs.length = N2 at *
              have hM : Hid (N2 = qs.length) := hMM.symm
              have HLk : Hid (∀ nx, (if n ≠ 0 ∧ nearF f2 n = true then n else fr) = nx → ∀ base q k' w, w.ownsRow base 98 9 (.slice q N2 k') N2 (rowR qs) → Calls Tryz.prog 98 #[.agg #[.slice q N2 k'], .agg #[.int .i64 a, .int .i64 l, .int .i64 mw, .int .i64 nx, .int .i64 (k : Int), .int .i64 t, .int .i64 0, .int .i64 0, .bool false], .int .i64 now] w fun e w' => (∃ q c, e = .returned (.agg #[.slice q QS.length c, .int .i64 LC]) ∧ w'.ownsRow w.heap.size 98 9 (.slice q QS.length c) QS.length (rowR QS)) ∧ Below w.heap.size w w') := fun nx hnx base q k' w ho => by
                have := a3 base q k' w ho
                rw [way_row f2 k fr a l n m t mw nx hmw hnx] at this
                exact this
              generalize hN3' : QS.length = N3 at *
              have hN3 : Hid (N3 = QS.length) := hN3'.symm
              clear hN3' hMM a1 a2 a3 hmw hbe hes
              have HNk : Hid (∀ x' w, IfsIn w (some ⟨gx, 0, none⟩) is → Calls Tryz.prog 96 #[.agg #[.slice (some ⟨gx, 0, none⟩) is.length c1, .slice y rs.length c2, .int .i64 now], .int .i64 (k : Int), .int .i64 x'] w fun e w' => e = .returned (.bool (nearF f2 x')) ∧ Below w.heap.size w w') := HN.out
              have hsz : w.heap.size ≤ wr.heap.size := hB.size
              have rE := Row.new wr 95 [.int .i64 a, .int .i64 l, .int .i64 n, .int .i64 m, .int .i64 t]
              have A4 := ent_new0 wr (.cells #[.int .i64 a, .int .i64 l, .int .i64 n, .int .i64 m, .int .i64 t] 95)
              have q0 := q0.below A4 q0.lt
              have qr := qr.below A4 qr.lt
              have qz := qz.below A4 qz.lt
              have rb := rb.below A4 rb.lt
              have o1 := ownsI_below o1 A4
              have o2 := ownsR_below o2 A4
              have hB := hB.trans (A4.mono hB.size)
              have g3 : (wr.alloc (.cells #[.int .i64 a, .int .i64 l, .int .i64 n, .int .i64 m, .int .i64 t] 95)).cell? ⟨gx, k * 5 + 3, none⟩ = some (.int .i64 fc) := by rw [hB.cell (p := ⟨gx, k * 5 + 3, none⟩) hbl]; exact g3
              have hsz : w.heap.size ≤ (wr.alloc (.cells #[.int .i64 a, .int .i64 l, .int .i64 n, .int .i64 m, .int .i64 t] 95)).heap.size := hB.size
              clear A4
              have HA : Hid _ := And.intro rE (And.intro q0 (And.intro qr (And.intro qz (And.intro rb (And.intro o1 (And.intro o2 hB))))))
              clear rE q0 qr qz rb o1 o2 hB hej hgz HLj hR HIl HN
              go_wp2_with fail
              generalize wr.heap.size = bE at *
              generalize wr.alloc (.cells #[.int .i64 a, .int .i64 l, .int .i64 n, .int .i64 m, .int .i64 t] 95) = W4 at *
              obtain ⟨rE, q0, qr, qz, rb, o1, o2, hB⟩ := HA.out
              clear HA e0 e1 e2 e3 e4 v0 v1
              have hGN : (([(51, Is (.pointer (some ⟨bE, 0, none⟩))), (52, Is (.agg #[.int .i64 a, .int .i64 l])), (53, Is (.pointer (some ⟨bE, 3, none⟩))), (54, Is (.int .i64 m)), (55, Is (.pointer (some ⟨w.heap.size, 0, none⟩))), (56, Is (.slice (some ⟨gx, 0, none⟩) is.length c1)), (57, Is (.int .i64 (k : Int))), (58, Is (.pointer (some ⟨gx, k * 5, none⟩))), (59, Is (.pointer (some ⟨gx, k * 5 + 3, none⟩))), (60, Is (.int .i64 fc)), (61, Is (.int .i64 (m + fc))), (62, Is (.int .i64 mw)), (63, Is (.int .i64 fr)), (64, Is (.int .i64 (k : Int))), (65, Is (.pointer (some ⟨bE, 4, none⟩))), (66, Is (.int .i64 t)), (67, Is (.agg #[.int .i64 a, .int .i64 l, .int .i64 mw, .int .i64 fr, .int .i64 (k : Int), .int .i64 t, .int .i64 0, .int .i64 0, .bool false])), (12, fun v W => ∃ g, v = .pointer (some ⟨g, 0, none⟩) ∧ W4.heap.size ≤ g ∧ Row W g 98 [.int .i64 0, .int .i64 0, .int .i64 0, .int .i64 0, .int .i64 0, .int .i64 0, .int .i64 0, .int .i64 0, .bool false])] : List (Nat × (Value → World → Prop))).map (·.1)).Nodup := by simp
              refine wp_region_steady 18 (SlotG [(51, Is (.pointer (some ⟨bE, 0, none⟩))), (52, Is (.agg #[.int .i64 a, .int .i64 l])), (53, Is (.pointer (some ⟨bE, 3, none⟩))), (54, Is (.int .i64 m)), (55, Is (.pointer (some ⟨w.heap.size, 0, none⟩))), (56, Is (.slice (some ⟨gx, 0, none⟩) is.length c1)), (57, Is (.int .i64 (k : Int))), (58, Is (.pointer (some ⟨gx, k * 5, none⟩))), (59, Is (.pointer (some ⟨gx, k * 5 + 3, none⟩))), (60, Is (.int .i64 fc)), (61, Is (.int .i64 (m + fc))), (62, Is (.int .i64 mw)), (63, Is (.int .i64 fr)), (64, Is (.int .i64 (k : Int))), (65, Is (.pointer (some ⟨bE, 4, none⟩))), (66, Is (.int .i64 t)), (67, Is (.agg #[.int .i64 a, .int .i64 l, .int .i64 mw, .int .i64 fr, .int .i64 (k : Int), .int .i64 t, .int .i64 0, .int .i64 0, .bool false])), (12, fun v W => ∃ g, v = .pointer (some ⟨g, 0, none⟩) ∧ W4.heap.size ≤ g ∧ Row W g 98 [.int .i64 0, .int .i64 0, .int .i64 0, .int .i64 0, .int .i64 0, .int .i64 0, .int .i64 0, .int .i64 0, .bool false])]) (by kernel_rfl) (by kernel_rfl) (Stabs.all ⟨stab_is _, stab_is _, stab_is _, stab_is _, stab_is _, stab_is _, stab_is _, stab_is _, stab_is _, stab_is _, stab_is _, stab_is _, stab_is _, stab_is _, stab_is _, stab_is _, stab_is _, stab_new W4.heap.size 98 [.int .i64 0, .int .i64 0, .int .i64 0, .int .i64 0, .int .i64 0, .int .i64 0, .int .i64 0, .int .i64 0, .bool false], trivial⟩) ?_ ?_
              · intro o ho
                simp only [List.take_succ_cons, List.take_zero, List.mem_cons, List.not_mem_nil, or_false] at ho
                rcases ho with rfl | rfl | rfl | rfl | rfl | rfl | rfl | rfl | rfl | rfl | rfl | rfl | rfl | rfl | rfl | rfl | rfl | rfl
                · intro a' w' hb ha hdep
                  have d11 : a'.tmps.getD 11 undef = .pointer (some ⟨bE, 0, none⟩) := ha.at 11 (by kernel_rfl)
                  have hmk := fun (x : Value) (W : World) => SlotG.mk (x := x) (w := W) 0 rfl hGN
                  clear hGN ha hdep
                  go_simp
                  exact ⟨_, rfl, Below.refl _ _, hmk _ _ rfl⟩
                · intro a' w' hb ha hdep
                  have d51 : a'.tmps.getD 51 undef = .pointer (some ⟨bE, 0, none⟩) := (hdep 51 (of_decide_eq_true (by kernel_rfl))).is 0 rfl
                  have hmk := fun (x : Value) (W : World) => SlotG.mk (x := x) (w := W) 1 rfl hGN
                  clear hGN ha hdep
                  have x0 : w'.cell? ⟨bE, 0, none⟩ = some (.int .i64 a) := (rE.below hb rE.lt).cell 0
                  have x1 : w'.cell? ⟨bE, 1, none⟩ = some (.int .i64 l) := (rE.below hb rE.lt).cell 1
                  go_simp
                  exact ⟨_, rfl, Below.refl _ _, hmk _ _ rfl⟩
                · intro a' w' hb ha hdep
                  have d11 : a'.tmps.getD 11 undef = .pointer (some ⟨bE, 0, none⟩) := ha.at 11 (by kernel_rfl)
                  have hmk := fun (x : Value) (W : World) => SlotG.mk (x := x) (w := W) 2 rfl hGN
                  clear hGN ha hdep
                  go_simp
                  exact ⟨_, rfl, Below.refl _ _, hmk _ _ rfl⟩
                · intro a' w' hb ha hdep
                  have d53 : a'.tmps.getD 53 undef = .pointer (some ⟨bE, 3, none⟩) := (hdep 53 (of_decide_eq_true (by kernel_rfl))).is 2 rfl
                  have hmk := fun (x : Value) (W : World) => SlotG.mk (x := x) (w := W) 3 rfl hGN
                  clear hGN ha hdep
                  have x3 : w'.cell? ⟨bE, 3, none⟩ = some (.int .i64 m) := (rE.below hb rE.lt).cell 3
                  go_simp
                  exact ⟨_, rfl, Below.refl _ _, hmk _ _ rfl⟩
                · intro a' w' hb ha hdep
                  have d4 : a'.tmps.getD 4 undef = .pointer (some ⟨w.heap.size, 0, none⟩) := ha.at 4 (by kernel_rfl)
                  have hmk := fun (x : Value) (W : World) => SlotG.mk (x := x) (w := W) 4 rfl hGN
                  clear hGN ha hdep
                  go_simp
                  exact ⟨_, rfl, Below.refl _ _, hmk _ _ rfl⟩
                · intro a' w' hb ha hdep
                  have d55 : a'.tmps.getD 55 undef = .pointer (some ⟨w.heap.size, 0, none⟩) := (hdep 55 (of_decide_eq_true (by kernel_rfl))).is 4 rfl
                  have hmk := fun (x : Value) (W : World) => SlotG.mk (x := x) (w := W) 5 rfl hGN
                  clear hGN ha hdep
                  have y0 : w'.cell? ⟨w.heap.size, 0, none⟩ = some (.slice (some ⟨gx, 0, none⟩) is.length c1) := (q0.below hb q0.lt).cell 0
                  go_simp
                  exact ⟨_, rfl, Below.refl _ _, hmk _ _ rfl⟩
                · intro a' w' hb ha hdep
                  have d1 : a'.tmps.getD 1 undef = .int .i64 (k : Int) := ha.at 1 (by kernel_rfl)
                  have hmk := fun (x : Value) (W : World) => SlotG.mk (x := x) (w := W) 6 rfl hGN
                  clear hGN ha hdep
                  go_simp
                  exact ⟨_, rfl, Below.refl _ _, hmk _ _ rfl⟩
                · intro a' w' hb ha hdep
                  have d56 : a'.tmps.getD 56 undef = .slice (some ⟨gx, 0, none⟩) is.length c1 := (hdep 56 (of_decide_eq_true (by kernel_rfl))).is 5 rfl
                  have d57 : a'.tmps.getD 57 undef = .int .i64 (k : Int) := (hdep 57 (of_decide_eq_true (by kernel_rfl))).is 6 rfl
                  have hmk := fun (x : Value) (W : World) => SlotG.mk (x := x) (w := W) 7 rfl hGN
                  clear hGN ha hdep
                  go_simp
                  exact ⟨_, rfl, Below.refl _ _, hmk _ _ rfl⟩
                · intro a' w' hb ha hdep
                  have d58 : a'.tmps.getD 58 undef = .pointer (some ⟨gx, k * 5, none⟩) := (hdep 58 (of_decide_eq_true (by kernel_rfl))).is 7 rfl
                  have hmk := fun (x : Value) (W : World) => SlotG.mk (x := x) (w := W) 8 rfl hGN
                  clear hGN ha hdep
                  go_simp
                  exact ⟨_, rfl, Below.refl _ _, hmk _ _ rfl⟩
                · intro a' w' hb ha hdep
                  have d59 : a'.tmps.getD 59 undef = .pointer (some ⟨gx, k * 5 + 3, none⟩) := (hdep 59 (of_decide_eq_true (by kernel_rfl))).is 8 rfl
                  have hmk := fun (x : Value) (W : World) => SlotG.mk (x := x) (w := W) 9 rfl hGN
                  clear hGN ha hdep
                  have x3 : w'.cell? ⟨gx, k * 5 + 3, none⟩ = some (.int .i64 fc) := by rw [hb.cell (p := ⟨gx, k * 5 + 3, none⟩) (Nat.lt_of_lt_of_le hbl hsz)]; exact g3
                  go_simp
                  exact ⟨_, rfl, Below.refl _ _, hmk _ _ rfl⟩
                · intro a' w' hb ha hdep
                  have d54 : a'.tmps.getD 54 undef = .int .i64 m := (hdep 54 (of_decide_eq_true (by kernel_rfl))).is 3 rfl
                  have d60 : a'.tmps.getD 60 undef = .int .i64 fc := (hdep 60 (of_decide_eq_true (by kernel_rfl))).is 9 rfl
                  have hmk := fun (x : Value) (W : World) => SlotG.mk (x := x) (w := W) 10 rfl hGN
                  clear hGN ha hdep
                  go_simp
                  exact ⟨_, rfl, Below.refl _ _, hmk _ _ rfl⟩
                · intro a' w' hb ha hdep
                  have d61 : a'.tmps.getD 61 undef = .int .i64 (m + fc) := (hdep 61 (of_decide_eq_true (by kernel_rfl))).is 10 rfl
                  have hmk := fun (x : Value) (W : World) => SlotG.mk (x := x) (w := W) 11 rfl hGN
                  clear hGN ha hdep
                  go_simp
                  refine (HMn.out _).mono ?_
                  rintro e w2 ⟨rfl, rfl⟩
                  exact ⟨_, rfl, Below.refl _ _, hmk _ _ rfl⟩
                · intro a' w' hb ha hdep
                  have d2 : a'.tmps.getD 2 undef = .int .i64 fr := ha.at 2 (by kernel_rfl)
                  have hmk := fun (x : Value) (W : World) => SlotG.mk (x := x) (w := W) 12 rfl hGN
                  clear hGN ha hdep
                  go_simp
                  exact ⟨_, rfl, Below.refl _ _, hmk _ _ rfl⟩
                · intro a' w' hb ha hdep
                  have d1 : a'.tmps.getD 1 undef = .int .i64 (k : Int) := ha.at 1 (by kernel_rfl)
                  have hmk := fun (x : Value) (W : World) => SlotG.mk (x := x) (w := W) 13 rfl hGN
                  clear hGN ha hdep
                  go_simp
                  exact ⟨_, rfl, Below.refl _ _, hmk _ _ rfl⟩
                · intro a' w' hb ha hdep
                  have d11 : a'.tmps.getD 11 undef = .pointer (some ⟨bE, 0, none⟩) := ha.at 11 (by kernel_rfl)
                  have hmk := fun (x : Value) (W : World) => SlotG.mk (x := x) (w := W) 14 rfl hGN
                  clear hGN ha hdep
                  go_simp
                  exact ⟨_, rfl, Below.refl _ _, hmk _ _ rfl⟩
                · intro a' w' hb ha hdep
                  have d65 : a'.tmps.getD 65 undef = .pointer (some ⟨bE, 4, none⟩) := (hdep 65 (of_decide_eq_true (by kernel_rfl))).is 14 rfl
                  have hmk := fun (x : Value) (W : World) => SlotG.mk (x := x) (w := W) 15 rfl hGN
                  clear hGN ha hdep
                  have x4 : w'.cell? ⟨bE, 4, none⟩ = some (.int .i64 t) := (rE.below hb rE.lt).cell 4
                  go_simp
                  exact ⟨_, rfl, Below.refl _ _, hmk _ _ rfl⟩
                · intro a' w' hb ha hdep
                  have d52 : a'.tmps.getD 52 undef = .agg #[.int .i64 a, .int .i64 l] := (hdep 52 (of_decide_eq_true (by kernel_rfl))).is 1 rfl
                  have d62 : a'.tmps.getD 62 undef = .int .i64 mw := (hdep 62 (of_decide_eq_true (by kernel_rfl))).is 11 rfl
                  have d63 : a'.tmps.getD 63 undef = .int .i64 fr := (hdep 63 (of_decide_eq_true (by kernel_rfl))).is 12 rfl
                  have d64 : a'.tmps.getD 64 undef = .int .i64 (k : Int) := (hdep 64 (of_decide_eq_true (by kernel_rfl))).is 13 rfl
                  have d66 : a'.tmps.getD 66 undef = .int .i64 t := (hdep 66 (of_decide_eq_true (by kernel_rfl))).is 15 rfl
                  have hmk := fun (x : Value) (W : World) => SlotG.mk (x := x) (w := W) 16 rfl hGN
                  clear hGN ha hdep
                  have E52 : a'.tmps[52]?.getD undef = .agg #[.int .i64 a, .int .i64 l] := by simpa using d52
                  have E62 : a'.tmps[62]?.getD undef = .int .i64 mw := by simpa using d62
                  have E63 : a'.tmps[63]?.getD undef = .int .i64 fr := by simpa using d63
                  have E64 : a'.tmps[64]?.getD undef = .int .i64 (k : Int) := by simpa using d64
                  have E66 : a'.tmps[66]?.getD undef = .int .i64 t := by simpa using d66
                  go_simp
                  exact ⟨_, rfl, Below.refl _ _, hmk _ _ rfl⟩
                · intro a' w' hb ha hdep
                  have hmk := fun (x : Value) (W : World) => SlotG.mk (x := x) (w := W) 17 rfl hGN
                  clear hGN ha hdep
                  go_simp
                  exact ⟨_, rfl, ent_new0 _ _, hmk _ _ ⟨w'.heap.size, rfl, hb.size, Row.new w' 98 [.int .i64 0, .int .i64 0, .int .i64 0, .int .i64 0, .int .i64 0, .int .i64 0, .int .i64 0, .int .i64 0, .bool false]⟩⟩
              · intro a' w' hb ha hG
                clear hGN
                have d67 : a'.tmps.getD 67 undef = .agg #[.int .i64 a, .int .i64 l, .int .i64 mw, .int .i64 fr, .int .i64 (k : Int), .int .i64 t, .int .i64 0, .int .i64 0, .bool false] := (hG _ (List.mem_of_getElem? (i := 16) rfl) 67 rfl).is 16 rfl
                have D12 := (hG _ (List.mem_of_getElem? (i := 17) rfl) 12 rfl).get 17 rfl
                have d0 : a'.tmps.getD 0 undef = .agg #[.slice (some ⟨gx, 0, none⟩) is.length c1, .slice y rs.length c2, .int .i64 now] := ha.at 0 (by kernel_rfl)
                have d1 : a'.tmps.getD 1 undef = .int .i64 (k : Int) := ha.at 1 (by kernel_rfl)
                have d2 : a'.tmps.getD 2 undef = .int .i64 fr := ha.at 2 (by kernel_rfl)
                have d3 : a'.tmps.getD 3 undef = .agg #[.int .i64 2, .slice (some ⟨gz, 0, none⟩) es.length cz] := ha.at 3 (by kernel_rfl)
                have d4 : a'.tmps.getD 4 undef = .pointer (some ⟨w.heap.size, 0, none⟩) := ha.at 4 (by kernel_rfl)
                have d5 : a'.tmps.getD 5 undef = undef := ha.at 5 (by kernel_rfl)
                have d6 : a'.tmps.getD 6 undef = undef := ha.at 6 (by kernel_rfl)
                have d7 : a'.tmps.getD 7 undef = .pointer (some ⟨w.heap.size + 1, 0, none⟩) := ha.at 7 (by kernel_rfl)
                have d8 : a'.tmps.getD 8 undef = .pointer (some ⟨w.heap.size + 1 + 1, 0, none⟩) := ha.at 8 (by kernel_rfl)
                have d9 : a'.tmps.getD 9 undef = .pointer (some ⟨b, 0, none⟩) := ha.at 9 (by kernel_rfl)
                have d10 : a'.tmps.getD 10 undef = .int .i64 (j : Int) := ha.at 10 (by kernel_rfl)
                have d11 : a'.tmps.getD 11 undef = .pointer (some ⟨bE, 0, none⟩) := ha.at 11 (by kernel_rfl)
                have d14 : a'.tmps.getD 14 undef = .pointer (some ⟨w.heap.size, 0, none⟩) := ha.at 14 (by kernel_rfl)
                have d15 : a'.tmps.getD 15 undef = .slice (some ⟨gx, 0, none⟩) is.length c1 := ha.at 15 (by kernel_rfl)
                have d16 : a'.tmps.getD 16 undef = .int .i64 (k : Int) := ha.at 16 (by kernel_rfl)
                have d17 : a'.tmps.getD 17 undef = .pointer (some ⟨gx, k * 5, none⟩) := ha.at 17 (by kernel_rfl)
                have d18 : a'.tmps.getD 18 undef = .pointer (some ⟨gx, k * 5 + 4, none⟩) := ha.at 18 (by kernel_rfl)
                have d19 : a'.tmps.getD 19 undef = .bool true := ha.at 19 (by kernel_rfl)
                have d20 : a'.tmps.getD 20 undef = .bool false := ha.at 20 (by kernel_rfl)
                have d21 : a'.tmps.getD 21 undef = undef := ha.at 21 (by kernel_rfl)
                have d22 : a'.tmps.getD 22 undef = .agg #[.slice (some ⟨gx, 0, none⟩) is.length c1, .slice y rs.length c2, .int .i64 now] := ha.at 22 (by kernel_rfl)
                have d23 : a'.tmps.getD 23 undef = .int .i64 (k : Int) := ha.at 23 (by kernel_rfl)
                have d24 : a'.tmps.getD 24 undef = .int .i64 fr := ha.at 24 (by kernel_rfl)
                have d25 : a'.tmps.getD 25 undef = .bool true := ha.at 25 (by kernel_rfl)
                have d26 : a'.tmps.getD 26 undef = .bool false := ha.at 26 (by kernel_rfl)
                have d27 : a'.tmps.getD 27 undef = .bool false := ha.at 27 (by kernel_rfl)
                have d28 : a'.tmps.getD 28 undef = .int .i64 fr := ha.at 28 (by kernel_rfl)
                have d29 : a'.tmps.getD 29 undef = .bool false := ha.at 29 (by kernel_rfl)
                have d30 : a'.tmps.getD 30 undef = .bool false := ha.at 30 (by kernel_rfl)
                have d31 : a'.tmps.getD 31 undef = undef := ha.at 31 (by kernel_rfl)
                have d32 : a'.tmps.getD 32 undef = .agg #[.slice (some ⟨gx, 0, none⟩) is.length c1, .slice y rs.length c2, .int .i64 now] := ha.at 32 (by kernel_rfl)
                have d33 : a'.tmps.getD 33 undef = .agg #[.slice p0 is.length dz0, .slice q20 rs.length e20, .int .i64 now] := ha.at 33 (by kernel_rfl)
                have d93 : a'.tmps.getD 93 undef = undef := ha.at 93 (by kernel_rfl)
                have d94 : a'.tmps.getD 94 undef = undef := ha.at 94 (by kernel_rfl)
                have e2 : a' = ⟨#[a'.tmps.getD 0 undef, a'.tmps.getD 1 undef, a'.tmps.getD 2 undef, a'.tmps.getD 3 undef, a'.tmps.getD 4 undef, a'.tmps.getD 5 undef, a'.tmps.getD 6 undef, a'.tmps.getD 7 undef, a'.tmps.getD 8 undef, a'.tmps.getD 9 undef, a'.tmps.getD 10 undef, a'.tmps.getD 11 undef, a'.tmps.getD 12 undef, a'.tmps.getD 13 undef, a'.tmps.getD 14 undef, a'.tmps.getD 15 undef, a'.tmps.getD 16 undef, a'.tmps.getD 17 undef, a'.tmps.getD 18 undef, a'.tmps.getD 19 undef, a'.tmps.getD 20 undef, a'.tmps.getD 21 undef, a'.tmps.getD 22 undef, a'.tmps.getD 23 undef, a'.tmps.getD 24 undef, a'.tmps.getD 25 undef, a'.tmps.getD 26 undef, a'.tmps.getD 27 undef, a'.tmps.getD 28 undef, a'.tmps.getD 29 undef, a'.tmps.getD 30 undef, a'.tmps.getD 31 undef, a'.tmps.getD 32 undef, a'.tmps.getD 33 undef, a'.tmps.getD 34 undef, a'.tmps.getD 35 undef, a'.tmps.getD 36 undef, a'.tmps.getD 37 undef, a'.tmps.getD 38 undef, a'.tmps.getD 39 undef, a'.tmps.getD 40 undef, a'.tmps.getD 41 undef, a'.tmps.getD 42 undef, a'.tmps.getD 43 undef, a'.tmps.getD 44 undef, a'.tmps.getD 45 undef, a'.tmps.getD 46 undef, a'.tmps.getD 47 undef, a'.tmps.getD 48 undef, a'.tmps.getD 49 undef, a'.tmps.getD 50 undef, a'.tmps.getD 51 undef, a'.tmps.getD 52 undef, a'.tmps.getD 53 undef, a'.tmps.getD 54 undef, a'.tmps.getD 55 undef, a'.tmps.getD 56 undef, a'.tmps.getD 57 undef, a'.tmps.getD 58 undef, a'.tmps.getD 59 undef, a'.tmps.getD 60 undef, a'.tmps.getD 61 undef, a'.tmps.getD 62 undef, a'.tmps.getD 63 undef, a'.tmps.getD 64 undef, a'.tmps.getD 65 undef, a'.tmps.getD 66 undef, a'.tmps.getD 67 undef, a'.tmps.getD 68 undef, a'.tmps.getD 69 undef, a'.tmps.getD 70 undef, a'.tmps.getD 71 undef, a'.tmps.getD 72 undef, a'.tmps.getD 73 undef, a'.tmps.getD 74 undef, a'.tmps.getD 75 undef, a'.tmps.getD 76 undef, a'.tmps.getD 77 undef, a'.tmps.getD 78 undef, a'.tmps.getD 79 undef, a'.tmps.getD 80 undef, a'.tmps.getD 81 undef, a'.tmps.getD 82 undef, a'.tmps.getD 83 undef, a'.tmps.getD 84 undef, a'.tmps.getD 85 undef, a'.tmps.getD 86 undef, a'.tmps.getD 87 undef, a'.tmps.getD 88 undef, a'.tmps.getD 89 undef, a'.tmps.getD 90 undef, a'.tmps.getD 91 undef, a'.tmps.getD 92 undef, a'.tmps.getD 93 undef, a'.tmps.getD 94 undef], []⟩ := by rw [← (show a'.defers = [] from ha.2.1)]; exact act_eq a' 95 ha.1
                rw [d67, d0, d1, d2, d3, d4, d5, d6, d7, d8, d9, d10, d11, d14, d15, d16, d17, d18, d19, d20, d21, d22, d23, d24, d25, d26, d27, d28, d29, d30, d31, d32, d33, d93, d94] at e2
                clear hG ha d67 d0 d1 d2 d3 d4 d5 d6 d7 d8 d9 d10 d11 d14 d15 d16 d17 d18 d19 d20 d21 d22 d23 d24 d25 d26 d27 d28 d29 d30 d31 d32 d33 d93 d94
                generalize a'.tmps.getD 12 undef = x12 at *
                generalize a'.tmps.getD 13 undef = x13 at *
                generalize a'.tmps.getD 34 undef = x34 at *
                generalize a'.tmps.getD 35 undef = x35 at *
                generalize a'.tmps.getD 36 undef = x36 at *
                generalize a'.tmps.getD 37 undef = x37 at *
                generalize a'.tmps.getD 38 undef = x38 at *
                generalize a'.tmps.getD 39 undef = x39 at *
                generalize a'.tmps.getD 40 undef = x40 at *
                generalize a'.tmps.getD 41 undef = x41 at *
                generalize a'.tmps.getD 42 undef = x42 at *
                generalize a'.tmps.getD 43 undef = x43 at *
                generalize a'.tmps.getD 44 undef = x44 at *
                generalize a'.tmps.getD 45 undef = x45 at *
                generalize a'.tmps.getD 46 undef = x46 at *
                generalize a'.tmps.getD 47 undef = x47 at *
                generalize a'.tmps.getD 48 undef = x48 at *
                generalize a'.tmps.getD 49 undef = x49 at *
                generalize a'.tmps.getD 50 undef = x50 at *
                generalize a'.tmps.getD 51 undef = x51 at *
                generalize a'.tmps.getD 52 undef = x52 at *
                generalize a'.tmps.getD 53 undef = x53 at *
                generalize a'.tmps.getD 54 undef = x54 at *
                generalize a'.tmps.getD 55 undef = x55 at *
                generalize a'.tmps.getD 56 undef = x56 at *
                generalize a'.tmps.getD 57 undef = x57 at *
                generalize a'.tmps.getD 58 undef = x58 at *
                generalize a'.tmps.getD 59 undef = x59 at *
                generalize a'.tmps.getD 60 undef = x60 at *
                generalize a'.tmps.getD 61 undef = x61 at *
                generalize a'.tmps.getD 62 undef = x62 at *
                generalize a'.tmps.getD 63 undef = x63 at *
                generalize a'.tmps.getD 64 undef = x64 at *
                generalize a'.tmps.getD 65 undef = x65 at *
                generalize a'.tmps.getD 66 undef = x66 at *
                generalize a'.tmps.getD 68 undef = x68 at *
                generalize a'.tmps.getD 69 undef = x69 at *
                generalize a'.tmps.getD 70 undef = x70 at *
                generalize a'.tmps.getD 71 undef = x71 at *
                generalize a'.tmps.getD 72 undef = x72 at *
                generalize a'.tmps.getD 73 undef = x73 at *
                generalize a'.tmps.getD 74 undef = x74 at *
                generalize a'.tmps.getD 75 undef = x75 at *
                generalize a'.tmps.getD 76 undef = x76 at *
                generalize a'.tmps.getD 77 undef = x77 at *
                generalize a'.tmps.getD 78 undef = x78 at *
                generalize a'.tmps.getD 79 undef = x79 at *
                generalize a'.tmps.getD 80 undef = x80 at *
                generalize a'.tmps.getD 81 undef = x81 at *
                generalize a'.tmps.getD 82 undef = x82 at *
                generalize a'.tmps.getD 83 undef = x83 at *
                generalize a'.tmps.getD 84 undef = x84 at *
                generalize a'.tmps.getD 85 undef = x85 at *
                generalize a'.tmps.getD 86 undef = x86 at *
                generalize a'.tmps.getD 87 undef = x87 at *
                generalize a'.tmps.getD 88 undef = x88 at *
                generalize a'.tmps.getD 89 undef = x89 at *
                generalize a'.tmps.getD 90 undef = x90 at *
                generalize a'.tmps.getD 91 undef = x91 at *
                generalize a'.tmps.getD 92 undef = x92 at *
                subst e2
                simp only [List.drop_succ_cons, List.drop_zero]
                obtain ⟨bR, rfl, hbR, rR⟩ := D12
                have LbR : bR ≠ b ∧ bR ≠ w.heap.size ∧ bR ≠ w.heap.size + 1 ∧ bR ≠ w.heap.size + 1 + 1 ∧ bR ≠ bE := by
                  have h1 := rb.lt
                  have h2 := q0.lt
                  have h3 := qr.lt
                  have h4 := qz.lt
                  have h5 := rE.lt
                  omega
                have LbRw : w.heap.size ≤ bR := Nat.le_trans hB.size hbR
                have hq2 : ∀ b', q2 = some ⟨b', 0, none⟩ → b' ≠ bR := fun b' e => Nat.ne_of_lt (Nat.lt_of_lt_of_le (ownsR_ltH o2 b' e) hbR)
                have rE := rE.below hb rE.lt
                have q0 := q0.below hb q0.lt
                have qr := qr.below hb qr.lt
                have qz := qz.below hb qz.lt
                have rb := rb.below hb rb.lt
                have o1 := ownsI_below o1 hb
                have o2 := ownsR_below o2 hb
                have hB := hB.trans (hb.mono hB.size)
                clear hb HMn g3 hbR
                have hne : ∀ g' t' l', g' ≠ bR → Row w' g' t' l' → Row (nine0 w' bR (.int .i64 a) (.int .i64 l) (.int .i64 mw) (.int .i64 fr) (.int .i64 (k : Int)) (.int .i64 t) (.int .i64 0) (.int .i64 0) (.bool false)) g' t' l' := fun g' t' l' h h' => nine0_other h' bR h (.int .i64 a) (.int .i64 l) (.int .i64 mw) (.int .i64 fr) (.int .i64 (k : Int)) (.int .i64 t) (.int .i64 0) (.int .i64 0) (.bool false)
                have HH : Hid _ := And.intro (nine0_row rR (.int .i64 a) (.int .i64 l) (.int .i64 mw) (.int .i64 fr) (.int .i64 (k : Int)) (.int .i64 t) (.int .i64 0) (.int .i64 0) (.bool false)) (And.intro (hne _ _ _ LbR.2.2.2.2.symm rE) (And.intro (hne _ _ _ LbR.2.1.symm q0) (And.intro (hne _ _ _ LbR.2.2.1.symm qr) (And.intro (hne _ _ _ LbR.2.2.2.1.symm qz) (And.intro (hne _ _ _ LbR.1.symm rb) (And.intro (ownsI_kept o1 (fun g t l e h => hne g t l (fun e2 => ownsI_ne o1 rR (by decide) (by rw [e, e2])) h)) (And.intro (ownsR_kept hM.out o2 (fun g t l e h => hne g t l (hq2 g e) h)) (nine0_below hB bR LbRw (.int .i64 a) (.int .i64 l) (.int .i64 mw) (.int .i64 fr) (.int .i64 (k : Int)) (.int .i64 t) (.int .i64 0) (.int .i64 0) (.bool false)))))))))
                have fz0 : w'.frozen? ⟨bR, 0, none⟩ = false := rR.frozen 0
                have fz1 : w'.frozen? ⟨bR, 1, none⟩ = false := rR.frozen 1
                have fz2 : w'.frozen? ⟨bR, 2, none⟩ = false := rR.frozen 2
                have fz3 : w'.frozen? ⟨bR, 3, none⟩ = false := rR.frozen 3
                have fz4 : w'.frozen? ⟨bR, 4, none⟩ = false := rR.frozen 4
                have fz5 : w'.frozen? ⟨bR, 5, none⟩ = false := rR.frozen 5
                have fz6 : w'.frozen? ⟨bR, 6, none⟩ = false := rR.frozen 6
                have fz7 : w'.frozen? ⟨bR, 7, none⟩ = false := rR.frozen 7
                have fz8 : w'.frozen? ⟨bR, 8, none⟩ = false := rR.frozen 8
                have zz0 : w'.cell? ⟨bR, 0, none⟩ = some (.int .i64 0) := rR.cell 0
                have zz1 : w'.cell? ⟨bR, 1, none⟩ = some (.int .i64 0) := rR.cell 1
                have zz2 : w'.cell? ⟨bR, 2, none⟩ = some (.int .i64 0) := rR.cell 2
                have zz3 : w'.cell? ⟨bR, 3, none⟩ = some (.int .i64 0) := rR.cell 3
                have zz4 : w'.cell? ⟨bR, 4, none⟩ = some (.int .i64 0) := rR.cell 4
                have zz5 : w'.cell? ⟨bR, 5, none⟩ = some (.int .i64 0) := rR.cell 5
                have zz6 : w'.cell? ⟨bR, 6, none⟩ = some (.int .i64 0) := rR.cell 6
                have zz7 : w'.cell? ⟨bR, 7, none⟩ = some (.int .i64 0) := rR.cell 7
                have zz8 : w'.cell? ⟨bR, 8, none⟩ = some (.bool false) := rR.cell 8
                have cN : w'.cell? ⟨bE, 2, none⟩ = some (.int .i64 n) := rE.cell 2
                have nE : ¬ bE = bR := LbR.2.2.2.2.symm
                have nE' : ¬ bR = bE := LbR.2.2.2.2
                have nb : ¬ b = bR := LbR.1.symm
                have nb' : ¬ bR = b := LbR.1
                have nw : ¬ w.heap.size = bR := LbR.2.1.symm
                have nw' : ¬ bR = w.heap.size := LbR.2.1
                have u1 : w'.cell? ⟨b, 1, none⟩ = some (.slice q2 N2 k2) := rb.cell 1
                have y0 : w'.cell? ⟨w.heap.size, 0, none⟩ = some (.slice (some ⟨gx, 0, none⟩) is.length c1) := q0.cell 0
                have y1 : w'.cell? ⟨w.heap.size, 1, none⟩ = some (.slice y rs.length c2) := q0.cell 1
                have y2 : w'.cell? ⟨w.heap.size, 2, none⟩ = some (.int .i64 now) := q0.cell 2
                clear rR rE q0 qr qz rb o1 o2 hB hne
                by_cases hn0 : n = 0
                · have zn : (n != 0) = false := by simpa using hn0
                  have hnx : (if n ≠ 0 ∧ nearF f2 n = true then n else fr) = fr := if_neg (fun h => h.1 hn0)
                  clear HNk hn0 hq2
                  go_wp2_with fail
                  have hF := HH.out
                  unfold nine0 at hF
                  clear HH fz0 zz0 fz1 zz1 fz2 zz2 fz3 zz3 fz4 zz4 fz5 zz5 fz6 zz6 fz7 zz7 fz8 zz8
                  generalize (((((((((w'.setCell ⟨bR, 0, none⟩ (.int .i64 a)).setCell ⟨bR, 1, none⟩ (.int .i64 l)).setCell ⟨bR, 2, none⟩ (.int .i64 mw)).setCell ⟨bR, 3, none⟩ (.int .i64 fr)).setCell ⟨bR, 4, none⟩ (.int .i64 (k : Int))).setCell ⟨bR, 5, none⟩ (.int .i64 t)).setCell ⟨bR, 6, none⟩ (.int .i64 0)).setCell ⟨bR, 7, none⟩ (.int .i64 0)).setCell ⟨bR, 8, none⟩ (.bool false)) = W5 at *
                  obtain ⟨rR, rE, q0, qr, qz, rb, o1, o2, hB⟩ := hF
                  clear cN nE nE' nb nb' nw nw' u1 y0 y1 y2
                  clear rE rR LbR LbRw
                  refine (HLk.out fr hnx _ _ _ _ o2).mono ?_
                  rintro e_ w6 ⟨⟨q3, c3, rfl, o3⟩, hb6⟩
                  have o3 := ownsR_mono (base' := w.heap.size) o3 hB.size
                  have q0 := q0.below hb6 q0.lt
                  have qr := qr.below hb6 qr.lt
                  have qz := qz.below hb6 qz.lt
                  have rb := rb.below hb6 rb.lt
                  have o1 := ownsI_below o1 hb6
                  have o2 := ownsR_below o2 hb6
                  have hB := hB.trans (hb6.mono hB.size)
                  have Lb := rb.lt
                  have L0 := q0.lt
                  have Lr := qr.lt
                  have Lz := qz.lt
                  have hbz := hB.size
                  clear hb6
                  have h6 := ent_new0 w6 (.cells #[.slice q3 N3 c3, .int .i64 LC] 112)
                  have q0 := q0.below h6 q0.lt
                  have qr := qr.below h6 qr.lt
                  have qz := qz.below h6 qz.lt
                  have rb := rb.below h6 rb.lt
                  have o1 := ownsI_below o1 h6
                  have o2 := ownsR_below o2 h6
                  have hB := hB.trans (h6.mono hB.size)
                  have o3 := ownsR_below o3 h6
                  clear h6
                  by_cases hLC : LC = 0
                  · have zL : (LC == 0) = true := by simpa using hLC
                    have hNext := HSt.out.1 hLC
                    clear hLC o2
                    have n6 : ¬ w6.heap.size = b := by omega
                    have n6' : ¬ b = w6.heap.size := by omega
                    have tf : (w6.alloc (.cells #[.slice q3 N3 c3, .int .i64 LC] 112)).frozen? ⟨b, 1, none⟩ = false := rb.frozen 1
                    have tu : (w6.alloc (.cells #[.slice q3 N3 c3, .int .i64 LC] 112)).cell? ⟨b, 1, none⟩ = some (.slice q2 N2 k2) := rb.cell 1
                    have hne : ∀ g t l, g ≠ b → Row (w6.alloc (.cells #[.slice q3 N3 c3, .int .i64 LC] 112)) g t l → Row ((w6.alloc (.cells #[.slice q3 N3 c3, .int .i64 LC] 112)).setCell ⟨b, 1, none⟩ (.slice q3 N3 c3)) g t l := fun g t l hne h => h.other 1 _ hne
                    have HH : Hid _ := And.intro (rb.set 1 (.slice q3 N3 c3)) (And.intro (ownsI_kept o1 (fun g t l e h => hne g t l (fun e2 => ownsI_ne o1 rb (by decide) (by rw [e, e2])) h)) (And.intro (ownsR_kept hN3.out o3 (fun g t l e h => hne g t l (fun e2 => ownsR_ne o3 rb (by decide) (by rw [e, e2])) h)) (And.intro (hne _ _ _ LbW.1 q0) (And.intro (hne _ _ _ LbW.2.1 qr) (And.intro (hne _ _ _ LbW.2.2.1 qz) (hB.setCell (p := ⟨b, 1, none⟩) LbW.2.2.2 (.slice q3 N3 c3)))))))
                    clear hne rb o1 o3 q0 qr qz hB Lb L0 Lr Lz hbz
                    go_wp2_with fail
                    go_roundw
                    case rel => exact ⟨j + 1, p1, dz1, q3, c3, hlt, by go_num, fun h => absurd h hc1, by rw [hNext, ← hN3.out]; exact HH.out.1, HH.out.2.1, by rw [hNext, ← hN3.out]; exact HH.out.2.2.1, HH.out.2.2.2.1, HH.out.2.2.2.2.1, HH.out.2.2.2.2.2.1, HH.out.2.2.2.2.2.2⟩
                    case measure => simp [intOf]; omega
                  · have zL : (LC == 0) = false := by simpa using hLC
                    have hNext := HSt.out.2 hLC
                    clear hLC o3
                    have HH : Hid _ := And.intro rb (And.intro o1 (And.intro o2 (And.intro q0 (And.intro qr (And.intro qz hB)))))
                    clear rb o1 o2 q0 qr qz hB Lb L0 Lr Lz hbz
                    go_wp2_with fail
                    go_roundw
                    case rel => exact ⟨j + 1, p1, dz1, q2, k2, hlt, by go_num, fun h => absurd h hc1, by rw [hNext, ← hM.out]; exact HH.out.1, HH.out.2.1, by rw [hNext, ← hM.out]; exact HH.out.2.2.1, HH.out.2.2.2.1, HH.out.2.2.2.2.1, HH.out.2.2.2.2.2.1, HH.out.2.2.2.2.2.2⟩
                    case measure => simp [intOf]; omega
                · have zn : (n != 0) = true := by simpa using hn0
                  go_wp2_with fail
                  have hF := HH.out
                  unfold nine0 at hF
                  clear HH fz0 zz0 fz1 zz1 fz2 zz2 fz3 zz3 fz4 zz4 fz5 zz5 fz6 zz6 fz7 zz7 fz8 zz8
                  generalize (((((((((w'.setCell ⟨bR, 0, none⟩ (.int .i64 a)).setCell ⟨bR, 1, none⟩ (.int .i64 l)).setCell ⟨bR, 2, none⟩ (.int .i64 mw)).setCell ⟨bR, 3, none⟩ (.int .i64 fr)).setCell ⟨bR, 4, none⟩ (.int .i64 (k : Int))).setCell ⟨bR, 5, none⟩ (.int .i64 t)).setCell ⟨bR, 6, none⟩ (.int .i64 0)).setCell ⟨bR, 7, none⟩ (.int .i64 0)).setCell ⟨bR, 8, none⟩ (.bool false)) = W5 at *
                  obtain ⟨rR, rE, q0, qr, qz, rb, o1, o2, hB⟩ := hF
                  clear cN nE nE' nb nb' nw nw' u1 y0 y1 y2
                  refine (HNk.out n _ (HX.out.1.below hB)).mono ?_
                  rintro e_ w5 ⟨rfl, hb5⟩
                  have rR := rR.below hb5 rR.lt
                  have rE := rE.below hb5 rE.lt
                  have q0 := q0.below hb5 q0.lt
                  have qr := qr.below hb5 qr.lt
                  have qz := qz.below hb5 qz.lt
                  have rb := rb.below hb5 rb.lt
                  have o1 := ownsI_below o1 hb5
                  have o2 := ownsR_below o2 hb5
                  have hB := hB.trans (hb5.mono hB.size)
                  clear hb5 HNk
                  obtain ⟨NR, hNR⟩ : ∃ NR, nearF f2 n = NR := ⟨_, rfl⟩
                  rw [hNR]
                  cases NR
                  · have hnx : (if n ≠ 0 ∧ nearF f2 n = true then n else fr) = fr := if_neg (fun h => by rw [hNR] at h; cases h.2)
                    clear hNR hn0 hq2 LbR LbRw rE
                    have s0 : w5.cell? ⟨bR, 0, none⟩ = some (.int .i64 a) := rR.cell 0
                    have s1 : w5.cell? ⟨bR, 1, none⟩ = some (.int .i64 l) := rR.cell 1
                    have s2 : w5.cell? ⟨bR, 2, none⟩ = some (.int .i64 mw) := rR.cell 2
                    have s3 : w5.cell? ⟨bR, 3, none⟩ = some (.int .i64 fr) := rR.cell 3
                    have s4 : w5.cell? ⟨bR, 4, none⟩ = some (.int .i64 (k : Int)) := rR.cell 4
                    have s5 : w5.cell? ⟨bR, 5, none⟩ = some (.int .i64 t) := rR.cell 5
                    have s6 : w5.cell? ⟨bR, 6, none⟩ = some (.int .i64 0) := rR.cell 6
                    have s7 : w5.cell? ⟨bR, 7, none⟩ = some (.int .i64 0) := rR.cell 7
                    have s8 : w5.cell? ⟨bR, 8, none⟩ = some (.bool false) := rR.cell 8
                    have u1 : w5.cell? ⟨b, 1, none⟩ = some (.slice q2 N2 k2) := rb.cell 1
                    have y2 : w5.cell? ⟨w.heap.size, 2, none⟩ = some (.int .i64 now) := q0.cell 2
                    clear rR
                    go_wp2_with fail
                    refine (HLk.out fr hnx _ _ _ _ o2).mono ?_
                    rintro e_ w6 ⟨⟨q3, c3, rfl, o3⟩, hb6⟩
                    clear s0 s1 s2 s3 s4 s5 s6 s7 s8 u1 y2
                    have o3 := ownsR_mono (base' := w.heap.size) o3 hB.size
                    have q0 := q0.below hb6 q0.lt
                    have qr := qr.below hb6 qr.lt
                    have qz := qz.below hb6 qz.lt
                    have rb := rb.below hb6 rb.lt
                    have o1 := ownsI_below o1 hb6
                    have o2 := ownsR_below o2 hb6
                    have hB := hB.trans (hb6.mono hB.size)
                    have Lb := rb.lt
                    have L0 := q0.lt
                    have Lr := qr.lt
                    have Lz := qz.lt
                    have hbz := hB.size
                    clear hb6
                    have h6 := ent_new0 w6 (.cells #[.slice q3 N3 c3, .int .i64 LC] 112)
                    have q0 := q0.below h6 q0.lt
                    have qr := qr.below h6 qr.lt
                    have qz := qz.below h6 qz.lt
                    have rb := rb.below h6 rb.lt
                    have o1 := ownsI_below o1 h6
                    have o2 := ownsR_below o2 h6
                    have hB := hB.trans (h6.mono hB.size)
                    have o3 := ownsR_below o3 h6
                    clear h6
                    by_cases hLC : LC = 0
                    · have zL : (LC == 0) = true := by simpa using hLC
                      have hNext := HSt.out.1 hLC
                      clear hLC o2
                      have n6 : ¬ w6.heap.size = b := by omega
                      have n6' : ¬ b = w6.heap.size := by omega
                      have tf : (w6.alloc (.cells #[.slice q3 N3 c3, .int .i64 LC] 112)).frozen? ⟨b, 1, none⟩ = false := rb.frozen 1
                      have tu : (w6.alloc (.cells #[.slice q3 N3 c3, .int .i64 LC] 112)).cell? ⟨b, 1, none⟩ = some (.slice q2 N2 k2) := rb.cell 1
                      have hne : ∀ g t l, g ≠ b → Row (w6.alloc (.cells #[.slice q3 N3 c3, .int .i64 LC] 112)) g t l → Row ((w6.alloc (.cells #[.slice q3 N3 c3, .int .i64 LC] 112)).setCell ⟨b, 1, none⟩ (.slice q3 N3 c3)) g t l := fun g t l hne h => h.other 1 _ hne
                      have HH : Hid _ := And.intro (rb.set 1 (.slice q3 N3 c3)) (And.intro (ownsI_kept o1 (fun g t l e h => hne g t l (fun e2 => ownsI_ne o1 rb (by decide) (by rw [e, e2])) h)) (And.intro (ownsR_kept hN3.out o3 (fun g t l e h => hne g t l (fun e2 => ownsR_ne o3 rb (by decide) (by rw [e, e2])) h)) (And.intro (hne _ _ _ LbW.1 q0) (And.intro (hne _ _ _ LbW.2.1 qr) (And.intro (hne _ _ _ LbW.2.2.1 qz) (hB.setCell (p := ⟨b, 1, none⟩) LbW.2.2.2 (.slice q3 N3 c3)))))))
                      clear hne rb o1 o3 q0 qr qz hB Lb L0 Lr Lz hbz
                      go_wp2_with fail
                      go_roundw
                      case rel => exact ⟨j + 1, p1, dz1, q3, c3, hlt, by go_num, fun h => absurd h hc1, by rw [hNext, ← hN3.out]; exact HH.out.1, HH.out.2.1, by rw [hNext, ← hN3.out]; exact HH.out.2.2.1, HH.out.2.2.2.1, HH.out.2.2.2.2.1, HH.out.2.2.2.2.2.1, HH.out.2.2.2.2.2.2⟩
                      case measure => simp [intOf]; omega
                    · have zL : (LC == 0) = false := by simpa using hLC
                      have hNext := HSt.out.2 hLC
                      clear hLC o3
                      have HH : Hid _ := And.intro rb (And.intro o1 (And.intro o2 (And.intro q0 (And.intro qr (And.intro qz hB)))))
                      clear rb o1 o2 q0 qr qz hB Lb L0 Lr Lz hbz
                      go_wp2_with fail
                      go_roundw
                      case rel => exact ⟨j + 1, p1, dz1, q2, k2, hlt, by go_num, fun h => absurd h hc1, by rw [hNext, ← hM.out]; exact HH.out.1, HH.out.2.1, by rw [hNext, ← hM.out]; exact HH.out.2.2.1, HH.out.2.2.2.1, HH.out.2.2.2.2.1, HH.out.2.2.2.2.2.1, HH.out.2.2.2.2.2.2⟩
                      case measure => simp [intOf]; omega
                  · have hnx : (if n ≠ 0 ∧ nearF f2 n = true then n else fr) = n := if_pos ⟨hn0, hNR⟩
                    clear hNR hn0
                    have cN : w5.cell? ⟨bE, 2, none⟩ = some (.int .i64 n) := rE.cell 2
                    have rf : w5.frozen? ⟨bR, 3, none⟩ = false := rR.frozen 3
                    have s0 : w5.cell? ⟨bR, 0, none⟩ = some (.int .i64 a) := rR.cell 0
                    have s1 : w5.cell? ⟨bR, 1, none⟩ = some (.int .i64 l) := rR.cell 1
                    have s2 : w5.cell? ⟨bR, 2, none⟩ = some (.int .i64 mw) := rR.cell 2
                    have s3 : w5.cell? ⟨bR, 3, none⟩ = some (.int .i64 fr) := rR.cell 3
                    have s4 : w5.cell? ⟨bR, 4, none⟩ = some (.int .i64 (k : Int)) := rR.cell 4
                    have s5 : w5.cell? ⟨bR, 5, none⟩ = some (.int .i64 t) := rR.cell 5
                    have s6 : w5.cell? ⟨bR, 6, none⟩ = some (.int .i64 0) := rR.cell 6
                    have s7 : w5.cell? ⟨bR, 7, none⟩ = some (.int .i64 0) := rR.cell 7
                    have s8 : w5.cell? ⟨bR, 8, none⟩ = some (.bool false) := rR.cell 8
                    have u1 : w5.cell? ⟨b, 1, none⟩ = some (.slice q2 N2 k2) := rb.cell 1
                    have y2 : w5.cell? ⟨w.heap.size, 2, none⟩ = some (.int .i64 now) := q0.cell 2
                    have n1 : ¬ bR = b := LbR.1
                    have n1' : ¬ b = bR := LbR.1.symm
                    have n2 : ¬ bR = w.heap.size := LbR.2.1
                    have n2' : ¬ w.heap.size = bR := LbR.2.1.symm
                    have hne : ∀ g t l, g ≠ bR → Row w5 g t l → Row (w5.setCell ⟨bR, 3, none⟩ (.int .i64 n)) g t l := fun g t l hne h => h.other 3 _ hne
                    have o2' := ownsR_kept hM.out o2 (fun g t l e h => hne g t l (hq2 g e) h)
                    have o1' := ownsI_kept o1 (fun g t l e h => hne g t l (fun e2 => ownsI_ne o1 rR (by decide) (by rw [e, e2])) h)
                    have hB' := hB.setCell (p := ⟨bR, 3, none⟩) LbRw (.int .i64 n)
                    have HH : Hid _ := And.intro (hne _ _ _ LbR.2.1.symm q0) (And.intro (hne _ _ _ LbR.2.2.1.symm qr) (And.intro (hne _ _ _ LbR.2.2.2.1.symm qz) (And.intro (hne _ _ _ LbR.1.symm rb) (And.intro o1' (And.intro o2' hB')))))
                    clear hne o2' o1' hB' q0 qr qz rb o1 o2 hB rR rE LbR hq2
                    go_wp2_with fail
                    obtain ⟨q0, qr, qz, rb, o1, o2, hB⟩ := HH.out
                    clear HH cN rf n1 n1' n2 n2'
                    generalize (w5.setCell ⟨bR, 3, none⟩ (.int .i64 n)) = W7 at *
                    refine (HLk.out n hnx _ _ _ _ o2).mono ?_
                    rintro e_ w6 ⟨⟨q3, c3, rfl, o3⟩, hb6⟩
                    clear s0 s1 s2 s3 s4 s5 s6 s7 s8 u1 y2
                    have o3 := ownsR_mono (base' := w.heap.size) o3 hB.size
                    have q0 := q0.below hb6 q0.lt
                    have qr := qr.below hb6 qr.lt
                    have qz := qz.below hb6 qz.lt
                    have rb := rb.below hb6 rb.lt
                    have o1 := ownsI_below o1 hb6
                    have o2 := ownsR_below o2 hb6
                    have hB := hB.trans (hb6.mono hB.size)
                    have Lb := rb.lt
                    have L0 := q0.lt
                    have Lr := qr.lt
                    have Lz := qz.lt
                    have hbz := hB.size
                    clear hb6
                    have h6 := ent_new0 w6 (.cells #[.slice q3 N3 c3, .int .i64 LC] 112)
                    have q0 := q0.below h6 q0.lt
                    have qr := qr.below h6 qr.lt
                    have qz := qz.below h6 qz.lt
                    have rb := rb.below h6 rb.lt
                    have o1 := ownsI_below o1 h6
                    have o2 := ownsR_below o2 h6
                    have hB := hB.trans (h6.mono hB.size)
                    have o3 := ownsR_below o3 h6
                    clear h6
                    by_cases hLC : LC = 0
                    · have zL : (LC == 0) = true := by simpa using hLC
                      have hNext := HSt.out.1 hLC
                      clear hLC o2
                      have n6 : ¬ w6.heap.size = b := by omega
                      have n6' : ¬ b = w6.heap.size := by omega
                      have tf : (w6.alloc (.cells #[.slice q3 N3 c3, .int .i64 LC] 112)).frozen? ⟨b, 1, none⟩ = false := rb.frozen 1
                      have tu : (w6.alloc (.cells #[.slice q3 N3 c3, .int .i64 LC] 112)).cell? ⟨b, 1, none⟩ = some (.slice q2 N2 k2) := rb.cell 1
                      have hne : ∀ g t l, g ≠ b → Row (w6.alloc (.cells #[.slice q3 N3 c3, .int .i64 LC] 112)) g t l → Row ((w6.alloc (.cells #[.slice q3 N3 c3, .int .i64 LC] 112)).setCell ⟨b, 1, none⟩ (.slice q3 N3 c3)) g t l := fun g t l hne h => h.other 1 _ hne
                      have HH : Hid _ := And.intro (rb.set 1 (.slice q3 N3 c3)) (And.intro (ownsI_kept o1 (fun g t l e h => hne g t l (fun e2 => ownsI_ne o1 rb (by decide) (by rw [e, e2])) h)) (And.intro (ownsR_kept hN3.out o3 (fun g t l e h => hne g t l (fun e2 => ownsR_ne o3 rb (by decide) (by rw [e, e2])) h)) (And.intro (hne _ _ _ LbW.1 q0) (And.intro (hne _ _ _ LbW.2.1 qr) (And.intro (hne _ _ _ LbW.2.2.1 qz) (hB.setCell (p := ⟨b, 1, none⟩) LbW.2.2.2 (.slice q3 N3 c3)))))))
                      clear hne rb o1 o3 q0 qr qz hB Lb L0 Lr Lz hbz
                      go_wp2_with fail
                      go_roundw
                      case rel => exact ⟨j + 1, p1, dz1, q3, c3, hlt, by go_num, fun h => absurd h hc1, by rw [hNext, ← hN3.out]; exact HH.out.1, HH.out.2.1, by rw [hNext, ← hN3.out]; exact HH.out.2.2.1, HH.out.2.2.2.1, HH.out.2.2.2.2.1, HH.out.2.2.2.2.2.1, HH.out.2.2.2.2.2.2⟩
                      case measure => simp [intOf]; omega
                    · have zL : (LC == 0) = false := by simpa using hLC
                      have hNext := HSt.out.2 hLC
                      clear hLC o3
                      have HH : Hid _ := And.intro rb (And.intro o1 (And.intro o2 (And.intro q0 (And.intro qr (And.intro qz hB)))))
                      clear rb o1 o2 q0 qr qz hB Lb L0 Lr Lz hbz
                      go_wp2_with fail
                      go_roundw
                      case rel => exact ⟨j + 1, p1, dz1, q2, k2, hlt, by go_num, fun h => absurd h hc1, by rw [hNext, ← hM.out]; exact HH.out.1, HH.out.2.1, by rw [hNext, ← hM.out]; exact HH.out.2.2.1, HH.out.2.2.2.1, HH.out.2.2.2.2.1, HH.out.2.2.2.2.2.1, HH.out.2.2.2.2.2.2⟩
                      case measure => simp [intOf]; omega
          · obtain rfl : j = es.length := by omega
            have dj : decide ((es.length : Int) < (es.length : Int)) = false := by simp
            have hq : (if c = 1 then rs else hearK f2 k fr now rs es es.length) = hearK f2 k fr now rs es es.length := by
              split
              · rename_i h
                rw [hc0 h]
                rfl
              · rfl
            rw [hq] at hR
            generalize hearK f2 k fr now rs es es.length = qs at *
            clear hq hc0 hlt hcm hes hn3 g3 hj
            have t0 : wr.cell? ⟨b, 0, none⟩ = some (.slice p1 is.length dz1) := rb.cell 0
            have t1 : wr.cell? ⟨b, 1, none⟩ = some (.slice q2 qs.length k2) := rb.cell 1
            have t2 : wr.cell? ⟨b, 2, none⟩ = some (.int .i64 now) := rb.cell 2
            clear rb q0 qr HX HN HLj HIl
            have f0 : wr.frozen? ⟨w.heap.size + 1 + 1, 0, none⟩ = false := qz.frozen 0
            have f1 : wr.frozen? ⟨w.heap.size + 1 + 1, 1, none⟩ = false := qz.frozen 1
            have f2 : wr.frozen? ⟨w.heap.size + 1 + 1, 2, none⟩ = false := qz.frozen 2
            have f3 : wr.frozen? ⟨w.heap.size + 1 + 1, 3, none⟩ = false := qz.frozen 3
            have z0 : wr.cell? ⟨w.heap.size + 1 + 1, 0, none⟩ = some (.slice none 0 0) := qz.cell 0
            have z1 : wr.cell? ⟨w.heap.size + 1 + 1, 1, none⟩ = some (.slice none 0 0) := qz.cell 1
            have z2 : wr.cell? ⟨w.heap.size + 1 + 1, 2, none⟩ = some (.int .i64 0) := qz.cell 2
            have z3 : wr.cell? ⟨w.heap.size + 1 + 1, 3, none⟩ = some (.int .i64 0) := qz.cell 3
            have HE : Hid _ := out4 (p := p1) (q := q2) (now := now) (cc := 0) qz rfl (show w.heap.size ≤ w.heap.size + 1 + 1 by omega) hB o1 o2 rfl _ rfl
            clear qz hB o1 o2
            go_wp2_with fail
            generalize (((wr.setCell ⟨w.heap.size + 1 + 1, 0, none⟩ (.slice p1 is.length dz1)).setCell ⟨w.heap.size + 1 + 1, 1, none⟩ (.slice q2 qs.length k2)).setCell ⟨w.heap.size + 1 + 1, 2, none⟩ (.int .i64 now)).setCell ⟨w.heap.size + 1 + 1, 3, none⟩ (.int .i64 0) = Z at *
            obtain ⟨m1, m2, m3, m4⟩ := HE.out
            clear HE f0 f1 f2 f3 z0 z1 z2 z3
            have e0_ : Z.cell? ⟨w.heap.size + 1 + 1, 0, none⟩ = some (.slice p1 is.length dz1) := m1.cell 0
            have e1_ : Z.cell? ⟨w.heap.size + 1 + 1, 1, none⟩ = some (.slice q2 qs.length k2) := m1.cell 1
            have e2_ : Z.cell? ⟨w.heap.size + 1 + 1, 2, none⟩ = some (.int .i64 now) := m1.cell 2
            have e3_ : Z.cell? ⟨w.heap.size + 1 + 1, 3, none⟩ = some (.int .i64 0) := m1.cell 3
            exact bodyPost_ret (v := .agg #[.slice p1 is.length dz1, .slice q2 qs.length k2, .int .i64 now, .int .i64 0]) (by simp [results, Tryz.results48, go_sem, e0_, e1_, e2_, e3_]) rfl ⟨by rw [hR]; exact ⟨p1, dz1, q2, k2, rfl, m3, m4⟩, m2⟩
end Go.Proofs.YtifckpncpjijiaaGreat
/- HearRip of the model, whole. (Written by gen_hears.py.) -/
namespace Go.Proofs.YtifckpncpjijiaaGreat
open Go.RowKit Go.Sort

set_option maxRecDepth 100000 in
set_option maxHeartbeats 2000000 in
theorem specHear_any (x : Option Addr) (c1 : Nat) (y : Option Addr) (c2 : Nat) (is : List If) (rs : List Rt) (now : Int) (i fr c : Int) (z : Option Addr) (cz : Nat) (es : List Ent) (w : World) (h1 : IfsIn w x is) (hc : is.length ≤ c1) (hc1 : x = none → c1 = 0) (h2 : RtsIn w y rs) (hc2 : y = none → c2 = 0) (hl2 : rs.length ≤ c2) (hn1 : is.length ≤ 100000000) (hn2 : rs.length ≤ 100000000) (h3 : EntsIn w z es) (hn3 : es.length ≤ 100000000) :
    Calls Tryz.prog 11 #[instV x is.length c1 y rs.length c2 now, .int .i64 i, .int .i64 fr, ripV c z es.length cz] w fun e w' => OutI w.heap.size (hearO is rs now i fr c es) e w' ∧ Below w.heap.size w w' := by
  have HR : Hid (∀ w, IfsIn w x is → RtsIn w y rs → Calls Tryz.prog 44 #[instV x is.length c1 y rs.length c2 now] w fun e w' => e = .returned (.bool (instB is rs now)) ∧ Below w.heap.size w w') := fun w p q => specInst_any x c1 y c2 is rs now w p hc q hn1 hn2
  have HP : Hid (∀ w, EntsIn w z es → Calls Tryz.prog 45 #[.agg #[.int .i64 c, .slice z es.length cz]] w fun e w' => e = .returned (.bool (ripB c es)) ∧ Below w.heap.size w w') := fun w p => specRipRight_any c z cz es w p hn3
  have HIl : Hid (∀ c w, Calls Tryz.prog 46 #[.int .i64 c] w fun e w' => e = .returned (.agg #[.slice none 0 0, .slice none 0 0, .int .i64 0, .int .i64 c]) ∧ Below w.heap.size w w') := l07Ill_any
  have HT : Hid (∀ w, Calls Tryz.prog 47 #[instV x is.length c1 y rs.length c2 now, .int .i64 i] w fun e w' => e = .returned (.bool (decide (0 ≤ i ∧ i ≤ (is.length : Int) - 1))) ∧ Below w.heap.size w w') := fun w => l07There_any x is.length c1 y rs.length c2 now i w hn1
  have HS : Hid (instB is rs now = true → ripB c es = true → ∀ k (hk : k < is.length) w, IfsIn w x is → RtsIn w y rs → EntsIn w z es → Calls Tryz.prog 48 #[instV x is.length c1 y rs.length c2 now, .int .i64 (k : Int), .int .i64 fr, .agg #[.int .i64 c, .slice z es.length cz]] w fun e w' => OutI w.heap.size (if is[k].u = true then (if fr ≠ 0 ∧ nearF is[k] fr = true then (0, is, (if c = 1 then rs else hearK is[k] k fr now rs es es.length), now) else ((11 : Int), [], [], (0 : Int))) else ((10 : Int), [], [], (0 : Int))) e w' ∧ Below w.heap.size w w') := fun hI hR k hk w p q r => by
    obtain ⟨b1, b2, b3, b4⟩ := instB_ifs hI
    unfold ripB at hR
    simp only [Bool.and_eq_true, decide_eq_true_eq] at hR
    exact l07Hear_any x c1 y c2 is rs now k fr c z cz es w p hc hc1 q hc2 hl2 hn1 hn2 r hn3 hk b1 b2 b3 b4 hR.1.1 hR.2
  have HX : Hid (IfsIn w x is ∧ RtsIn w y rs ∧ EntsIn w z es) := ⟨h1, h2, h3⟩
  have HD : Hid (hearO is rs now i fr c es = if (instB is rs now && ripB c es) = true then (match ifAt is i with | none => ((6 : Int), [], [], (0 : Int)) | some f => if f.u = true then (if fr ≠ 0 ∧ nearF f fr = true then (0, is, (if c = 1 then rs else hearK f i fr now rs es es.length), now) else ((11 : Int), [], [], (0 : Int))) else ((10 : Int), [], [], (0 : Int))) else (1, [], [], 0)) := rfl
  clear h1 h2 h3 hc hc1 hc2 hl2 hn1 hn2 hn3
  generalize hearO is rs now i fr c es = RES at *
  generalize instB is rs now = IB at *
  generalize ripB c es = RB at *
  unfold instV ripV at *
  obtain ⟨W, hW, q0, qr, qz, hB, hS, -⟩ := rows3 w [.slice x is.length c1, .slice y rs.length c2, .int .i64 now] [.int .i64 c, .slice z es.length cz] [.slice none 0 0, .slice none 0 0, .int .i64 0, .int .i64 0] 38 45 40
  have HW : Hid _ := hW
  have x0 : W.cell? ⟨w.heap.size, 0, none⟩ = some (.slice x is.length c1) := q0.cell 0
  have x1 : W.cell? ⟨w.heap.size, 1, none⟩ = some (.slice y rs.length c2) := q0.cell 1
  have x2 : W.cell? ⟨w.heap.size, 2, none⟩ = some (.int .i64 now) := q0.cell 2
  have HQ : Hid _ := And.intro q0 (And.intro qr (And.intro qz hB))
  clear q0 qr qz hB hS
  go_enter Tryz.func11, Tryz.ntmps11
  rw [hW] at x0 x1 x2
  clear hW
  go_wp2_with fail
  rw [← HW.out]
  obtain ⟨q0, qr, qz, hB⟩ := HQ.out
  clear x0 x1 x2 HW HQ
  refine (HR.out _ (HX.out.1.below hB) (HX.out.2.1.below hB)).mono ?_
  rintro e w1 ⟨rfl, hb1⟩
  have q0 := q0.below hb1 q0.lt
  have qr := qr.below hb1 qr.lt
  have qz := qz.below hb1 qz.lt
  have hB := hB.trans (hb1.mono hB.size)
  clear hb1 HR
  have hR := HD.out
  clear HD
  cases IB
  · simp only [Bool.false_and, Bool.false_eq_true, if_false] at hR
    clear HX q0 qr HT HS HP
    go_wp2_with fail
    refine (HIl.out 1 _).mono ?_
    rintro e w9 ⟨rfl, hb9⟩
    have qz := qz.below hb9 qz.lt
    have hB := hB.trans (hb9.mono hB.size)
    clear hb9 HIl
    have f0 : w9.frozen? ⟨w.heap.size + 1 + 1, 0, none⟩ = false := qz.frozen 0
    have f1 : w9.frozen? ⟨w.heap.size + 1 + 1, 1, none⟩ = false := qz.frozen 1
    have f2 : w9.frozen? ⟨w.heap.size + 1 + 1, 2, none⟩ = false := qz.frozen 2
    have f3 : w9.frozen? ⟨w.heap.size + 1 + 1, 3, none⟩ = false := qz.frozen 3
    have z0 : w9.cell? ⟨w.heap.size + 1 + 1, 0, none⟩ = some (.slice none 0 0) := qz.cell 0
    have z1 : w9.cell? ⟨w.heap.size + 1 + 1, 1, none⟩ = some (.slice none 0 0) := qz.cell 1
    have z2 : w9.cell? ⟨w.heap.size + 1 + 1, 2, none⟩ = some (.int .i64 0) := qz.cell 2
    have z3 : w9.cell? ⟨w.heap.size + 1 + 1, 3, none⟩ = some (.int .i64 0) := qz.cell 3
    have HE : Hid _ := out4 (p := none) (q := none) (now := 0) (cc := 1) qz rfl (show w.heap.size ≤ w.heap.size + 1 + 1 by omega) hB (ownsI_nil w9 w.heap.size) (ownsR_nil w9 w.heap.size) rfl _ rfl
    clear qz hB 
    go_wp2_with fail
    generalize (((w9.setCell ⟨w.heap.size + 1 + 1, 0, none⟩ (.slice none 0 0)).setCell ⟨w.heap.size + 1 + 1, 1, none⟩ (.slice none 0 0)).setCell ⟨w.heap.size + 1 + 1, 2, none⟩ (.int .i64 0)).setCell ⟨w.heap.size + 1 + 1, 3, none⟩ (.int .i64 1) = Z at *
    obtain ⟨m1, m2, m3, m4⟩ := HE.out
    clear HE f0 f1 f2 f3 z0 z1 z2 z3
    have e0_ : Z.cell? ⟨w.heap.size + 1 + 1, 0, none⟩ = some (.slice none 0 0) := m1.cell 0
    have e1_ : Z.cell? ⟨w.heap.size + 1 + 1, 1, none⟩ = some (.slice none 0 0) := m1.cell 1
    have e2_ : Z.cell? ⟨w.heap.size + 1 + 1, 2, none⟩ = some (.int .i64 0) := m1.cell 2
    have e3_ : Z.cell? ⟨w.heap.size + 1 + 1, 3, none⟩ = some (.int .i64 1) := m1.cell 3
    exact bodyPost_ret (v := .agg #[.slice none 0 0, .slice none 0 0, .int .i64 0, .int .i64 1]) (by simp [results, Tryz.results11, go_sem, e0_, e1_, e2_, e3_]) rfl ⟨by rw [hR]; exact outI_no _ _ _, m2⟩
  · 
    have v0 : w1.cell? ⟨w.heap.size + 1, 0, none⟩ = some (.int .i64 c) := qr.cell 0
    have v1 : w1.cell? ⟨w.heap.size + 1, 1, none⟩ = some (.slice z es.length cz) := qr.cell 1
    go_wp2_with fail
    refine (HP.out _ (HX.out.2.2.below hB)).mono ?_
    rintro e w1r ⟨rfl, hb1r⟩
    have q0 := q0.below hb1r q0.lt
    have qr := qr.below hb1r qr.lt
    have qz := qz.below hb1r qz.lt
    have hB := hB.trans (hb1r.mono hB.size)
    clear hb1r HP v0 v1
    cases RB
    · simp only [Bool.and_false, Bool.false_eq_true, if_false] at hR
      clear HX q0 qr HT HS
      go_wp2_with fail
      refine (HIl.out 1 _).mono ?_
      rintro e w9 ⟨rfl, hb9⟩
      have qz := qz.below hb9 qz.lt
      have hB := hB.trans (hb9.mono hB.size)
      clear hb9 HIl
      have f0 : w9.frozen? ⟨w.heap.size + 1 + 1, 0, none⟩ = false := qz.frozen 0
      have f1 : w9.frozen? ⟨w.heap.size + 1 + 1, 1, none⟩ = false := qz.frozen 1
      have f2 : w9.frozen? ⟨w.heap.size + 1 + 1, 2, none⟩ = false := qz.frozen 2
      have f3 : w9.frozen? ⟨w.heap.size + 1 + 1, 3, none⟩ = false := qz.frozen 3
      have z0 : w9.cell? ⟨w.heap.size + 1 + 1, 0, none⟩ = some (.slice none 0 0) := qz.cell 0
      have z1 : w9.cell? ⟨w.heap.size + 1 + 1, 1, none⟩ = some (.slice none 0 0) := qz.cell 1
      have z2 : w9.cell? ⟨w.heap.size + 1 + 1, 2, none⟩ = some (.int .i64 0) := qz.cell 2
      have z3 : w9.cell? ⟨w.heap.size + 1 + 1, 3, none⟩ = some (.int .i64 0) := qz.cell 3
      have HE : Hid _ := out4 (p := none) (q := none) (now := 0) (cc := 1) qz rfl (show w.heap.size ≤ w.heap.size + 1 + 1 by omega) hB (ownsI_nil w9 w.heap.size) (ownsR_nil w9 w.heap.size) rfl _ rfl
      clear qz hB 
      go_wp2_with fail
      generalize (((w9.setCell ⟨w.heap.size + 1 + 1, 0, none⟩ (.slice none 0 0)).setCell ⟨w.heap.size + 1 + 1, 1, none⟩ (.slice none 0 0)).setCell ⟨w.heap.size + 1 + 1, 2, none⟩ (.int .i64 0)).setCell ⟨w.heap.size + 1 + 1, 3, none⟩ (.int .i64 1) = Z at *
      obtain ⟨m1, m2, m3, m4⟩ := HE.out
      clear HE f0 f1 f2 f3 z0 z1 z2 z3
      have e0_ : Z.cell? ⟨w.heap.size + 1 + 1, 0, none⟩ = some (.slice none 0 0) := m1.cell 0
      have e1_ : Z.cell? ⟨w.heap.size + 1 + 1, 1, none⟩ = some (.slice none 0 0) := m1.cell 1
      have e2_ : Z.cell? ⟨w.heap.size + 1 + 1, 2, none⟩ = some (.int .i64 0) := m1.cell 2
      have e3_ : Z.cell? ⟨w.heap.size + 1 + 1, 3, none⟩ = some (.int .i64 1) := m1.cell 3
      exact bodyPost_ret (v := .agg #[.slice none 0 0, .slice none 0 0, .int .i64 0, .int .i64 1]) (by simp [results, Tryz.results11, go_sem, e0_, e1_, e2_, e3_]) rfl ⟨by rw [hR]; exact outI_no _ _ _, m2⟩
    · simp only [Bool.and_self, if_true] at hR
      have HSk : Hid _ := HS.out trivial rfl
      clear HS
      have y0 : w1r.cell? ⟨w.heap.size, 0, none⟩ = some (.slice x is.length c1) := q0.cell 0
      have y1 : w1r.cell? ⟨w.heap.size, 1, none⟩ = some (.slice y rs.length c2) := q0.cell 1
      have y2 : w1r.cell? ⟨w.heap.size, 2, none⟩ = some (.int .i64 now) := q0.cell 2
      go_wp2_with fail
      refine (HT.out _).mono ?_
      rintro e w2 ⟨rfl, hb2⟩
      have q0 := q0.below hb2 q0.lt
      have qr := qr.below hb2 qr.lt
      have qz := qz.below hb2 qz.lt
      have hB := hB.trans (hb2.mono hB.size)
      clear hb2 HT y0 y1 y2
      cases hia : ifAt is i with
      | none =>
        rw [hia] at hR
        simp only at hR
        have hd : decide (0 ≤ i ∧ i ≤ (is.length : Int) - 1) = false := by
          have := ifAt_out hia
          simp only [decide_eq_false_iff_not]
          omega
        rw [hd]
        clear hd hia HX q0 qr HSk
        go_wp2_with fail
        refine (HIl.out 6 _).mono ?_
        rintro e w9 ⟨rfl, hb9⟩
        have qz := qz.below hb9 qz.lt
        have hB := hB.trans (hb9.mono hB.size)
        clear hb9 HIl
        have f0 : w9.frozen? ⟨w.heap.size + 1 + 1, 0, none⟩ = false := qz.frozen 0
        have f1 : w9.frozen? ⟨w.heap.size + 1 + 1, 1, none⟩ = false := qz.frozen 1
        have f2 : w9.frozen? ⟨w.heap.size + 1 + 1, 2, none⟩ = false := qz.frozen 2
        have f3 : w9.frozen? ⟨w.heap.size + 1 + 1, 3, none⟩ = false := qz.frozen 3
        have z0 : w9.cell? ⟨w.heap.size + 1 + 1, 0, none⟩ = some (.slice none 0 0) := qz.cell 0
        have z1 : w9.cell? ⟨w.heap.size + 1 + 1, 1, none⟩ = some (.slice none 0 0) := qz.cell 1
        have z2 : w9.cell? ⟨w.heap.size + 1 + 1, 2, none⟩ = some (.int .i64 0) := qz.cell 2
        have z3 : w9.cell? ⟨w.heap.size + 1 + 1, 3, none⟩ = some (.int .i64 0) := qz.cell 3
        have HE : Hid _ := out4 (p := none) (q := none) (now := 0) (cc := 6) qz rfl (show w.heap.size ≤ w.heap.size + 1 + 1 by omega) hB (ownsI_nil w9 w.heap.size) (ownsR_nil w9 w.heap.size) rfl _ rfl
        clear qz hB 
        go_wp2_with fail
        generalize (((w9.setCell ⟨w.heap.size + 1 + 1, 0, none⟩ (.slice none 0 0)).setCell ⟨w.heap.size + 1 + 1, 1, none⟩ (.slice none 0 0)).setCell ⟨w.heap.size + 1 + 1, 2, none⟩ (.int .i64 0)).setCell ⟨w.heap.size + 1 + 1, 3, none⟩ (.int .i64 6) = Z at *
        obtain ⟨m1, m2, m3, m4⟩ := HE.out
        clear HE f0 f1 f2 f3 z0 z1 z2 z3
        have e0_ : Z.cell? ⟨w.heap.size + 1 + 1, 0, none⟩ = some (.slice none 0 0) := m1.cell 0
        have e1_ : Z.cell? ⟨w.heap.size + 1 + 1, 1, none⟩ = some (.slice none 0 0) := m1.cell 1
        have e2_ : Z.cell? ⟨w.heap.size + 1 + 1, 2, none⟩ = some (.int .i64 0) := m1.cell 2
        have e3_ : Z.cell? ⟨w.heap.size + 1 + 1, 3, none⟩ = some (.int .i64 6) := m1.cell 3
        exact bodyPost_ret (v := .agg #[.slice none 0 0, .slice none 0 0, .int .i64 0, .int .i64 6]) (by simp [results, Tryz.results11, go_sem, e0_, e1_, e2_, e3_]) rfl ⟨by rw [hR]; exact outI_no _ _ _, m2⟩
      | some f =>
        rw [hia] at hR
        simp only at hR
        obtain ⟨k, rfl, hk, e⟩ := ifAt_some hia
        have hd : decide (0 ≤ (k : Int) ∧ (k : Int) ≤ (is.length : Int) - 1) = true := by simp only [decide_eq_true_eq]; omega
        rw [hd]
        clear hd
        have HSf := HSk.out k hk
        rw [e, ← hR] at HSf
        have HSf : Hid _ := HSf
        clear hR HSk hia e HIl
        obtain ⟨cc, is4, rs4, now4⟩ := RES
        have y0 : w2.cell? ⟨w.heap.size, 0, none⟩ = some (.slice x is.length c1) := q0.cell 0
        have y1 : w2.cell? ⟨w.heap.size, 1, none⟩ = some (.slice y rs.length c2) := q0.cell 1
        have y2 : w2.cell? ⟨w.heap.size, 2, none⟩ = some (.int .i64 now) := q0.cell 2
        have v0 : w2.cell? ⟨w.heap.size + 1, 0, none⟩ = some (.int .i64 c) := qr.cell 0
        have v1 : w2.cell? ⟨w.heap.size + 1, 1, none⟩ = some (.slice z es.length cz) := qr.cell 1
        go_wp2_with fail
        refine (HSf.out _ (HX.out.1.below hB) (HX.out.2.1.below hB) (HX.out.2.2.below hB)).mono ?_
        rintro e w4 ⟨⟨p, dd1, q, dd2, rfl, oi, orr⟩, hb4⟩
        have hBs := hB.size
        have qz := qz.below hb4 qz.lt
        have hB := hB.trans (hb4.mono hB.size)
        clear hb4 HSf HX y0 y1 y2 v0 v1 q0 qr
        simp only at oi orr ⊢
        have f0 : w4.frozen? ⟨w.heap.size + 1 + 1, 0, none⟩ = false := qz.frozen 0
        have f1 : w4.frozen? ⟨w.heap.size + 1 + 1, 1, none⟩ = false := qz.frozen 1
        have f2 : w4.frozen? ⟨w.heap.size + 1 + 1, 2, none⟩ = false := qz.frozen 2
        have f3 : w4.frozen? ⟨w.heap.size + 1 + 1, 3, none⟩ = false := qz.frozen 3
        have z0 : w4.cell? ⟨w.heap.size + 1 + 1, 0, none⟩ = some (.slice none 0 0) := qz.cell 0
        have z1 : w4.cell? ⟨w.heap.size + 1 + 1, 1, none⟩ = some (.slice none 0 0) := qz.cell 1
        have z2 : w4.cell? ⟨w.heap.size + 1 + 1, 2, none⟩ = some (.int .i64 0) := qz.cell 2
        have z3 : w4.cell? ⟨w.heap.size + 1 + 1, 3, none⟩ = some (.int .i64 0) := qz.cell 3
        have HE : Hid _ := out4 (p := p) (q := q) (now := now4) (cc := cc) qz rfl (show w.heap.size ≤ w.heap.size + 1 + 1 by omega) hB oi orr rfl _ rfl
        clear qz hB oi orr
        go_wp2_with fail
        generalize (((w4.setCell ⟨w.heap.size + 1 + 1, 0, none⟩ (.slice p is4.length dd1)).setCell ⟨w.heap.size + 1 + 1, 1, none⟩ (.slice q rs4.length dd2)).setCell ⟨w.heap.size + 1 + 1, 2, none⟩ (.int .i64 now4)).setCell ⟨w.heap.size + 1 + 1, 3, none⟩ (.int .i64 cc) = Z at *
        obtain ⟨m1, m2, m3, m4⟩ := HE.out
        clear HE f0 f1 f2 f3 z0 z1 z2 z3
        have e0_ : Z.cell? ⟨w.heap.size + 1 + 1, 0, none⟩ = some (.slice p is4.length dd1) := m1.cell 0
        have e1_ : Z.cell? ⟨w.heap.size + 1 + 1, 1, none⟩ = some (.slice q rs4.length dd2) := m1.cell 1
        have e2_ : Z.cell? ⟨w.heap.size + 1 + 1, 2, none⟩ = some (.int .i64 now4) := m1.cell 2
        have e3_ : Z.cell? ⟨w.heap.size + 1 + 1, 3, none⟩ = some (.int .i64 cc) := m1.cell 3
        exact bodyPost_ret (v := .agg #[.slice p is4.length dd1, .slice q rs4.length dd2, .int .i64 now4, .int .i64 cc]) (by simp [results, Tryz.results11, go_sem, e0_, e1_, e2_, e3_]) rfl ⟨by exact ⟨p, dd1, q, dd2, rfl, ownsI_mono m3 hBs, ownsR_mono m4 hBs⟩, m2⟩
end Go.Proofs.YtifckpncpjijiaaGreat
