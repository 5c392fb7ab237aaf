/- Texts that stand on each other, in one file: HearI. -/
import Derived.Test.YtifckpncpjijiaaGreatPack33
import Derived.Test.YtifckpncpjijiaaGreatPack34
import Derived.Test.YtifckpncpjijiaaGreatPack21
import Derived.Test.YtifckpncpjijiaaGreatPack36
import Derived.Test.YtifckpncpjijiaaGreatPack13
/- HearRip of the program. (Written by gen_hear.py.) -/
namespace Go.Proofs.YtifckpncpjijiaaGreat
open Go.RowKit Go.Sort

theorem atW_now2 {base : Nat} {is : List If} {rs : List Rt} {now : Int} {g : Nat} {w : World} (h : AtW base is rs now g w) : w.cell? ⟨g, 2, none⟩ = some (.int .i64 now) := by
  obtain ⟨_, _, _, _, _, _, h, _⟩ := atW_cells h
  exact h
set_option maxRecDepth 100000 in
set_option maxHeartbeats 2000000 in
theorem implHear_any (x : Option Addr) (c1 : Nat) (y : Option Addr) (c2 : Nat) (is : List If) (rs : List Rt) (now : Int) (i fr c : Int) (z : Option Addr) (cz : Nat) (es : List Ent) (w : World) (h1 : IfsIn w x is) (hc : is.length ≤ c1) (hc1 : x = none → c1 = 0) (h2 : RtsIn w y rs) (hc2 : y = none → c2 = 0) (hn1 : is.length ≤ 100000000) (hn2 : rs.length ≤ 100000000) (h3 : EntsIn w z es) (hn3 : es.length ≤ 100000000) :
    Calls Tryz.prog 14 #[instV x is.length c1 y rs.length c2 now, .int .i64 i, .int .i64 fr, ripV c z es.length cz] w fun e w' => OutI w.heap.size (hearO is rs now i fr c es) e w' ∧ Below w.heap.size w w' := by
  have HR : Hid (∀ w, IfsIn w x is → RtsIn w y rs → Calls Tryz.prog 52 #[instV x is.length c1 y rs.length c2 now] w fun e w' => e = .returned (.bool (instB is rs now)) ∧ Below w.heap.size w w') := fun w p q => implInst_any x c1 y c2 is rs now w p hc q hn1 hn2
  have HP : Hid (∀ w, EntsIn w z es → Calls Tryz.prog 53 #[.agg #[.int .i64 c, .slice z es.length cz]] w fun e w' => e = .returned (.bool (ripB c es)) ∧ Below w.heap.size w w') := fun w p => implRipRight_any c z cz es w p hn3
  have HA : Hid (∀ w, IfsIn w x is → RtsIn w y rs → Calls Tryz.prog 54 #[instV x is.length c1 y rs.length c2 now] w fun e w' => ∃ g, e = .returned (.pointer (some ⟨g, 0, none⟩)) ∧ AtW w.heap.size is rs now g w' ∧ Below w.heap.size w w') := fun w p q => atWork_any x c1 y c2 is rs now w p hc1 q hc2 hn1 hn2
  have HTe : Hid (∀ base g c w, c ≠ 0 → AtW base is rs now g w → Calls Tryz.prog 56 #[.pointer (some ⟨g, 0, none⟩), .int .i64 c] w fun e w' => OutI base (c, [], [], 0) e w' ∧ Below w.heap.size w w') := fun base g c w hc h => by
    have := toldW_any base is rs now c g w h
    unfold outW at this
    rw [if_neg hc] at this
    exact this
  have HL : Hid (∀ base g w, AtW base is rs now g w → Calls Tryz.prog 55 #[.pointer (some ⟨g, 0, none⟩), .int .i64 i, .bool true] w fun e w' => e = .returned (.int .i64 (lookC is i true)) ∧ Below w.heap.size w w') := fun base g w h => lookW_any base is rs now g i true w h hn1
  have HC : Hid ((match ifAt is i with | none => (6 : Int) | some f => if f.u = true then (0 : Int) else 10) = lookC is i true) := rfl
  generalize lookC is i true = CC at *
  have HT : Hid (∀ base rs' g w, AtW base is rs' now g w → Calls Tryz.prog 56 #[.pointer (some ⟨g, 0, none⟩), .int .i64 0] w fun e w' => OutI base (0, is, rs', now) e w' ∧ Below w.heap.size w w') := fun base rs' g w h => toldW_any base is rs' now 0 g w h
  have HX : Hid (IfsIn w x is ∧ RtsIn w y rs ∧ EntsIn w z es) := ⟨h1, h2, h3⟩
  have HBD : Hid (instB is rs now = true → ifsB is = true ∧ ribB rs = true ∧ 0 ≤ now ∧ now ≤ 999800) := instB_ifs
  have HEB : Hid (ripB c es = true → (c = 1 ∨ c = 2) ∧ es.all entB = true) := fun h => by
    unfold ripB at h
    simp only [Bool.and_eq_true, decide_eq_true_eq] at h
    exact ⟨h.1.1, h.2⟩
  have HD : Hid (hearO is rs now i fr c es = if (instB is rs now && ripB c es) = true then (match ifAt is i with | none => ((6 : Int), [], [], (0 : Int)) | some f => if f.u = true then (if fr ≠ 0 ∧ nearF f fr = true then (0, is, (if c = 1 then rs else hearK f i fr now rs es es.length), now) else ((11 : Int), [], [], (0 : Int))) else ((10 : Int), [], [], (0 : Int))) else (1, [], [], 0)) := rfl
  clear h1 h2 h3 hc hc1 hc2
  generalize hearO is rs now i fr c es = RES at *
  generalize instB is rs now = IB at *
  generalize ripB c es = RB at *
  unfold instV ripV at *
  obtain ⟨W, hW, q0, qr, qz, hB, hS, -⟩ := rows3 w [.slice x is.length c1, .slice y rs.length c2, .int .i64 now] [.int .i64 c, .slice z es.length cz] [.slice none 0 0, .slice none 0 0, .int .i64 0, .int .i64 0] 38 45 40
  have HW : Hid _ := hW
  have x0 : W.cell? ⟨w.heap.size, 0, none⟩ = some (.slice x is.length c1) := q0.cell 0
  have x1 : W.cell? ⟨w.heap.size, 1, none⟩ = some (.slice y rs.length c2) := q0.cell 1
  have x2 : W.cell? ⟨w.heap.size, 2, none⟩ = some (.int .i64 now) := q0.cell 2
  have HQ : Hid _ := And.intro q0 (And.intro qr (And.intro qz hB))
  clear q0 qr qz hB hS
  go_enter Tryz.func14, Tryz.ntmps14
  rw [hW] at x0 x1 x2
  clear hW
  go_wp2_with fail
  rw [← HW.out]
  obtain ⟨q0, qr, qz, hB⟩ := HQ.out
  clear x0 x1 x2 HW
  refine (HR.out _ (HX.out.1.below hB) (HX.out.2.1.below hB)).mono ?_
  rintro e w1 ⟨rfl, hb1⟩
  have q0 := q0.below hb1 q0.lt
  have qr := qr.below hb1 qr.lt
  have qz := qz.below hb1 qz.lt
  have hB := hB.trans (hb1.mono hB.size)
  clear hb1 HR HQ
  have hR := HD.out
  have hcc := HC.out
  clear HD HC
  cases IB
  · simp only [Bool.false_and, Bool.false_eq_true, if_false] at hR
    clear HX q0 qr HA HTe HL HT HP HBD HEB hcc
    have f0 : w1.frozen? ⟨w.heap.size + 1 + 1, 0, none⟩ = false := qz.frozen 0
    have f1 : w1.frozen? ⟨w.heap.size + 1 + 1, 1, none⟩ = false := qz.frozen 1
    have f2 : w1.frozen? ⟨w.heap.size + 1 + 1, 2, none⟩ = false := qz.frozen 2
    have f3 : w1.frozen? ⟨w.heap.size + 1 + 1, 3, none⟩ = false := qz.frozen 3
    have z0 : w1.cell? ⟨w.heap.size + 1 + 1, 0, none⟩ = some (.slice none 0 0) := qz.cell 0
    have z1 : w1.cell? ⟨w.heap.size + 1 + 1, 1, none⟩ = some (.slice none 0 0) := qz.cell 1
    have z2 : w1.cell? ⟨w.heap.size + 1 + 1, 2, none⟩ = some (.int .i64 0) := qz.cell 2
    have z3 : w1.cell? ⟨w.heap.size + 1 + 1, 3, none⟩ = some (.int .i64 0) := qz.cell 3
    have HE : Hid _ := out4 (p := none) (q := none) (now := 0) (cc := 1) qz rfl (show w.heap.size ≤ w.heap.size + 1 + 1 by omega) hB (ownsI_nil w1 w.heap.size) (ownsR_nil w1 w.heap.size) rfl _ rfl
    clear qz hB 
    go_wp2_with fail
    generalize (((w1.setCell ⟨w.heap.size + 1 + 1, 0, none⟩ (.slice none 0 0)).setCell ⟨w.heap.size + 1 + 1, 1, none⟩ (.slice none 0 0)).setCell ⟨w.heap.size + 1 + 1, 2, none⟩ (.int .i64 0)).setCell ⟨w.heap.size + 1 + 1, 3, none⟩ (.int .i64 1) = Z at *
    obtain ⟨k1, k2, k3, k4⟩ := HE.out
    clear HE f0 f1 f2 f3 z0 z1 z2 z3
    have e0 : Z.cell? ⟨w.heap.size + 1 + 1, 0, none⟩ = some (.slice none 0 0) := k1.cell 0
    have e1 : Z.cell? ⟨w.heap.size + 1 + 1, 1, none⟩ = some (.slice none 0 0) := k1.cell 1
    have e2 : Z.cell? ⟨w.heap.size + 1 + 1, 2, none⟩ = some (.int .i64 0) := k1.cell 2
    have e3 : Z.cell? ⟨w.heap.size + 1 + 1, 3, none⟩ = some (.int .i64 1) := k1.cell 3
    exact bodyPost_ret (v := .agg #[.slice none 0 0, .slice none 0 0, .int .i64 0, .int .i64 1]) (by simp [results, Tryz.results14, go_sem, e0, e1, e2, e3]) rfl ⟨by rw [hR]; exact outI_no _ _ _, k2⟩
  · obtain ⟨hI, hrib, n0, n1⟩ := HBD.out rfl
    clear HBD
    have v0 : w1.cell? ⟨w.heap.size + 1, 0, none⟩ = some (.int .i64 c) := qr.cell 0
    have v1 : w1.cell? ⟨w.heap.size + 1, 1, none⟩ = some (.slice z es.length cz) := qr.cell 1
    go_wp2_with fail
    refine (HP.out _ (HX.out.2.2.below hB)).mono ?_
    rintro e w1r ⟨rfl, hb1r⟩
    have q0 := q0.below hb1r q0.lt
    have qr := qr.below hb1r qr.lt
    have qz := qz.below hb1r qz.lt
    have hB := hB.trans (hb1r.mono hB.size)
    clear hb1r HP v0 v1
    cases RB
    · simp only [Bool.and_false, Bool.false_eq_true, if_false] at hR
      clear HX q0 qr HA HTe HL HT HEB hcc
      have f0 : w1r.frozen? ⟨w.heap.size + 1 + 1, 0, none⟩ = false := qz.frozen 0
      have f1 : w1r.frozen? ⟨w.heap.size + 1 + 1, 1, none⟩ = false := qz.frozen 1
      have f2 : w1r.frozen? ⟨w.heap.size + 1 + 1, 2, none⟩ = false := qz.frozen 2
      have f3 : w1r.frozen? ⟨w.heap.size + 1 + 1, 3, none⟩ = false := qz.frozen 3
      have z0 : w1r.cell? ⟨w.heap.size + 1 + 1, 0, none⟩ = some (.slice none 0 0) := qz.cell 0
      have z1 : w1r.cell? ⟨w.heap.size + 1 + 1, 1, none⟩ = some (.slice none 0 0) := qz.cell 1
      have z2 : w1r.cell? ⟨w.heap.size + 1 + 1, 2, none⟩ = some (.int .i64 0) := qz.cell 2
      have z3 : w1r.cell? ⟨w.heap.size + 1 + 1, 3, none⟩ = some (.int .i64 0) := qz.cell 3
      have HE : Hid _ := out4 (p := none) (q := none) (now := 0) (cc := 1) qz rfl (show w.heap.size ≤ w.heap.size + 1 + 1 by omega) hB (ownsI_nil w1r w.heap.size) (ownsR_nil w1r w.heap.size) rfl _ rfl
      clear qz hB 
      go_wp2_with fail
      generalize (((w1r.setCell ⟨w.heap.size + 1 + 1, 0, none⟩ (.slice none 0 0)).setCell ⟨w.heap.size + 1 + 1, 1, none⟩ (.slice none 0 0)).setCell ⟨w.heap.size + 1 + 1, 2, none⟩ (.int .i64 0)).setCell ⟨w.heap.size + 1 + 1, 3, none⟩ (.int .i64 1) = Z at *
      obtain ⟨k1, k2, k3, k4⟩ := HE.out
      clear HE f0 f1 f2 f3 z0 z1 z2 z3
      have e0 : Z.cell? ⟨w.heap.size + 1 + 1, 0, none⟩ = some (.slice none 0 0) := k1.cell 0
      have e1 : Z.cell? ⟨w.heap.size + 1 + 1, 1, none⟩ = some (.slice none 0 0) := k1.cell 1
      have e2 : Z.cell? ⟨w.heap.size + 1 + 1, 2, none⟩ = some (.int .i64 0) := k1.cell 2
      have e3 : Z.cell? ⟨w.heap.size + 1 + 1, 3, none⟩ = some (.int .i64 1) := k1.cell 3
      exact bodyPost_ret (v := .agg #[.slice none 0 0, .slice none 0 0, .int .i64 0, .int .i64 1]) (by simp [results, Tryz.results14, go_sem, e0, e1, e2, e3]) rfl ⟨by rw [hR]; exact outI_no _ _ _, k2⟩
    · simp only [Bool.and_self, if_true] at hR
      obtain ⟨hcm, hes⟩ := HEB.out rfl
      clear HEB
      have y0 : w1r.cell? ⟨w.heap.size, 0, none⟩ = some (.slice x is.length c1) := q0.cell 0
      have y1 : w1r.cell? ⟨w.heap.size, 1, none⟩ = some (.slice y rs.length c2) := q0.cell 1
      have y2 : w1r.cell? ⟨w.heap.size, 2, none⟩ = some (.int .i64 now) := q0.cell 2
      have L1 := qz.lt
      have L1s := hB.size
      go_wp2_with fail
      refine (HA.out _ (HX.out.1.below hB) (HX.out.2.1.below hB)).mono ?_
      rintro e w2 ⟨g, rfl, hat, hb2⟩
      have qr := qr.below hb2 qr.lt
      have qz := qz.below hb2 qz.lt
      have hB := hB.trans (hb2.mono hB.size)
      have hb2s := hb2.size
      clear hb2 HA y0 y1 y2 q0
      generalize w1r.heap.size = B at *
      go_wp2_with fail
      refine (HL.out _ _ _ hat).mono ?_
      rintro e w3 ⟨rfl, hb3⟩
      have hat := atW_below hat hb3
      have qr := qr.below hb3 qr.lt
      have qz := qz.below hb3 qz.lt
      have hB := hB.trans (hb3.mono hB.size)
      clear hb3 HL
      cases hia : ifAt is i with
      | none =>
        rw [hia] at hcc hR
        simp only at hcc hR
        subst hcc
        clear hia HT qr
        go_wp2_with fail
        refine (HTe.out _ _ 6 _ (by decide) hat).mono ?_
        rintro e w4 ⟨⟨p, d1, q, d2, rfl, oi, orr⟩, hb4⟩
        have qz := qz.below hb4 qz.lt
        have hB := hB.trans (hb4.mono hB.size)
        clear hb4 HTe hat
        simp only [List.length_nil] at oi orr ⊢
        have f0 : w4.frozen? ⟨w.heap.size + 1 + 1, 0, none⟩ = false := qz.frozen 0
        have f1 : w4.frozen? ⟨w.heap.size + 1 + 1, 1, none⟩ = false := qz.frozen 1
        have f2 : w4.frozen? ⟨w.heap.size + 1 + 1, 2, none⟩ = false := qz.frozen 2
        have f3 : w4.frozen? ⟨w.heap.size + 1 + 1, 3, none⟩ = false := qz.frozen 3
        have z0 : w4.cell? ⟨w.heap.size + 1 + 1, 0, none⟩ = some (.slice none 0 0) := qz.cell 0
        have z1 : w4.cell? ⟨w.heap.size + 1 + 1, 1, none⟩ = some (.slice none 0 0) := qz.cell 1
        have z2 : w4.cell? ⟨w.heap.size + 1 + 1, 2, none⟩ = some (.int .i64 0) := qz.cell 2
        have z3 : w4.cell? ⟨w.heap.size + 1 + 1, 3, none⟩ = some (.int .i64 0) := qz.cell 3
        have HE : Hid _ := out4 (p := p) (q := q) (now := 0) (cc := 6) qz rfl (show w.heap.size ≤ w.heap.size + 1 + 1 by omega) hB oi orr rfl _ rfl
        clear qz hB oi orr
        go_wp2_with fail
        generalize (((w4.setCell ⟨w.heap.size + 1 + 1, 0, none⟩ (.slice p 0 d1)).setCell ⟨w.heap.size + 1 + 1, 1, none⟩ (.slice q 0 d2)).setCell ⟨w.heap.size + 1 + 1, 2, none⟩ (.int .i64 0)).setCell ⟨w.heap.size + 1 + 1, 3, none⟩ (.int .i64 6) = Z at *
        obtain ⟨k1, k2, k3, k4⟩ := HE.out
        clear HE f0 f1 f2 f3 z0 z1 z2 z3
        have e0 : Z.cell? ⟨w.heap.size + 1 + 1, 0, none⟩ = some (.slice p 0 d1) := k1.cell 0
        have e1 : Z.cell? ⟨w.heap.size + 1 + 1, 1, none⟩ = some (.slice q 0 d2) := k1.cell 1
        have e2 : Z.cell? ⟨w.heap.size + 1 + 1, 2, none⟩ = some (.int .i64 0) := k1.cell 2
        have e3 : Z.cell? ⟨w.heap.size + 1 + 1, 3, none⟩ = some (.int .i64 6) := k1.cell 3
        exact bodyPost_ret (v := .agg #[.slice p 0 d1, .slice q 0 d2, .int .i64 0, .int .i64 6]) (by simp [results, Tryz.results14, go_sem, e0, e1, e2, e3]) rfl ⟨by rw [hR]; exact ⟨p, d1, q, d2, rfl, ownsI_mono k3 (by omega), ownsR_mono k4 (by omega)⟩, k2⟩
      | some f =>
        rw [hia] at hcc hR
        simp only at hcc hR
        by_cases hu : f.u = true
        · rw [if_pos hu] at hcc hR
          subst hcc
          obtain ⟨k, rfl, hk, hfk⟩ := ifAt_some hia
          clear hia hu
          by_cases hf0 : fr = 0
          · have zf : (fr == 0) = true := by simpa using hf0
            rw [if_neg (fun h => h.1 hf0)] at hR
            clear hf0 HT qr
            go_wp2_with fail
            refine (HTe.out _ _ 11 _ (by decide) hat).mono ?_
            rintro e w4 ⟨⟨p, d1, q, d2, rfl, oi, orr⟩, hb4⟩
            have qz := qz.below hb4 qz.lt
            have hB := hB.trans (hb4.mono hB.size)
            clear hb4 HTe hat
            simp only [List.length_nil] at oi orr ⊢
            have f0 : w4.frozen? ⟨w.heap.size + 1 + 1, 0, none⟩ = false := qz.frozen 0
            have f1 : w4.frozen? ⟨w.heap.size + 1 + 1, 1, none⟩ = false := qz.frozen 1
            have f2 : w4.frozen? ⟨w.heap.size + 1 + 1, 2, none⟩ = false := qz.frozen 2
            have f3 : w4.frozen? ⟨w.heap.size + 1 + 1, 3, none⟩ = false := qz.frozen 3
            have z0 : w4.cell? ⟨w.heap.size + 1 + 1, 0, none⟩ = some (.slice none 0 0) := qz.cell 0
            have z1 : w4.cell? ⟨w.heap.size + 1 + 1, 1, none⟩ = some (.slice none 0 0) := qz.cell 1
            have z2 : w4.cell? ⟨w.heap.size + 1 + 1, 2, none⟩ = some (.int .i64 0) := qz.cell 2
            have z3 : w4.cell? ⟨w.heap.size + 1 + 1, 3, none⟩ = some (.int .i64 0) := qz.cell 3
            have HE : Hid _ := out4 (p := p) (q := q) (now := 0) (cc := 11) qz rfl (show w.heap.size ≤ w.heap.size + 1 + 1 by omega) hB oi orr rfl _ rfl
            clear qz hB oi orr
            go_wp2_with fail
            generalize (((w4.setCell ⟨w.heap.size + 1 + 1, 0, none⟩ (.slice p 0 d1)).setCell ⟨w.heap.size + 1 + 1, 1, none⟩ (.slice q 0 d2)).setCell ⟨w.heap.size + 1 + 1, 2, none⟩ (.int .i64 0)).setCell ⟨w.heap.size + 1 + 1, 3, none⟩ (.int .i64 11) = Z at *
            obtain ⟨k1, k2, k3, k4⟩ := HE.out
            clear HE f0 f1 f2 f3 z0 z1 z2 z3
            have e0 : Z.cell? ⟨w.heap.size + 1 + 1, 0, none⟩ = some (.slice p 0 d1) := k1.cell 0
            have e1 : Z.cell? ⟨w.heap.size + 1 + 1, 1, none⟩ = some (.slice q 0 d2) := k1.cell 1
            have e2 : Z.cell? ⟨w.heap.size + 1 + 1, 2, none⟩ = some (.int .i64 0) := k1.cell 2
            have e3 : Z.cell? ⟨w.heap.size + 1 + 1, 3, none⟩ = some (.int .i64 11) := k1.cell 3
            exact bodyPost_ret (v := .agg #[.slice p 0 d1, .slice q 0 d2, .int .i64 0, .int .i64 11]) (by simp [results, Tryz.results14, go_sem, e0, e1, e2, e3]) rfl ⟨by rw [hR]; exact ⟨p, d1, q, d2, rfl, ownsI_mono k3 (by omega), ownsR_mono k4 (by omega)⟩, k2⟩
          · have zf : (fr == 0) = false := by simpa using hf0
            obtain ⟨q1, k1, q2, k2, -, y1, -, -, oi⟩ := atW_cells hat
            obtain ⟨b, fd, fa, fl, fc, fu, rfl, hbl, hek, e0, e1, e2, e3, e4⟩ := (ownsI_in rfl oi).at k hk
            have hff : f = ⟨fd, fa, fl, fc, fu⟩ := hfk.symm.trans hek
            have zk : (k : Int) < (is.length : Int) := by omega
            have HN : Hid (∀ w, Calls Tryz.prog 57 #[.agg #[.int .i64 fd, .int .i64 fa, .int .i64 fl, .int .i64 fc, .bool fu], .int .i64 fr] w fun e w' => e = .returned (.bool (nearF f fr)) ∧ Below w.heap.size w w') := fun w => by rw [hff]; exact isNear_any ⟨fd, fa, fl, fc, fu⟩ fr w
            clear oi hek hff
            generalize hNR : nearF f fr = NR at *
            have HNR : Hid (nearF f fr = NR) := hNR
            clear hNR
            go_wp2_with fail
            refine (HN.out _).mono ?_
            rintro e w4 ⟨rfl, hb4⟩
            have hat := atW_below hat hb4
            have qr := qr.below hb4 qr.lt
            have qz := qz.below hb4 qz.lt
            have hB := hB.trans (hb4.mono hB.size)
            clear hb4 HN e0 e1 e2 e3 e4 y1 hbl
            cases NR
            · rw [if_neg (fun h => by cases h.2)] at hR
              clear HT qr
              go_wp2_with fail
              refine (HTe.out _ _ 11 _ (by decide) hat).mono ?_
              rintro e w5 ⟨⟨p, d1, q, d2, rfl, oi, orr⟩, hb4⟩
              have qz := qz.below hb4 qz.lt
              have hB := hB.trans (hb4.mono hB.size)
              clear hb4 HTe hat
              simp only [List.length_nil] at oi orr ⊢
              have f0 : w5.frozen? ⟨w.heap.size + 1 + 1, 0, none⟩ = false := qz.frozen 0
              have f1 : w5.frozen? ⟨w.heap.size + 1 + 1, 1, none⟩ = false := qz.frozen 1
              have f2 : w5.frozen? ⟨w.heap.size + 1 + 1, 2, none⟩ = false := qz.frozen 2
              have f3 : w5.frozen? ⟨w.heap.size + 1 + 1, 3, none⟩ = false := qz.frozen 3
              have z0 : w5.cell? ⟨w.heap.size + 1 + 1, 0, none⟩ = some (.slice none 0 0) := qz.cell 0
              have z1 : w5.cell? ⟨w.heap.size + 1 + 1, 1, none⟩ = some (.slice none 0 0) := qz.cell 1
              have z2 : w5.cell? ⟨w.heap.size + 1 + 1, 2, none⟩ = some (.int .i64 0) := qz.cell 2
              have z3 : w5.cell? ⟨w.heap.size + 1 + 1, 3, none⟩ = some (.int .i64 0) := qz.cell 3
              have HE : Hid _ := out4 (p := p) (q := q) (now := 0) (cc := 11) qz rfl (show w.heap.size ≤ w.heap.size + 1 + 1 by omega) hB oi orr rfl _ rfl
              clear qz hB oi orr
              go_wp2_with fail
              generalize (((w5.setCell ⟨w.heap.size + 1 + 1, 0, none⟩ (.slice p 0 d1)).setCell ⟨w.heap.size + 1 + 1, 1, none⟩ (.slice q 0 d2)).setCell ⟨w.heap.size + 1 + 1, 2, none⟩ (.int .i64 0)).setCell ⟨w.heap.size + 1 + 1, 3, none⟩ (.int .i64 11) = Z at *
              obtain ⟨k1, k2, k3, k4⟩ := HE.out
              clear HE f0 f1 f2 f3 z0 z1 z2 z3
              have e0 : Z.cell? ⟨w.heap.size + 1 + 1, 0, none⟩ = some (.slice p 0 d1) := k1.cell 0
              have e1 : Z.cell? ⟨w.heap.size + 1 + 1, 1, none⟩ = some (.slice q 0 d2) := k1.cell 1
              have e2 : Z.cell? ⟨w.heap.size + 1 + 1, 2, none⟩ = some (.int .i64 0) := k1.cell 2
              have e3 : Z.cell? ⟨w.heap.size + 1 + 1, 3, none⟩ = some (.int .i64 11) := k1.cell 3
              exact bodyPost_ret (v := .agg #[.slice p 0 d1, .slice q 0 d2, .int .i64 0, .int .i64 11]) (by simp [results, Tryz.results14, go_sem, e0, e1, e2, e3]) rfl ⟨by rw [hR]; exact ⟨p, d1, q, d2, rfl, ownsI_mono k3 (by omega), ownsR_mono k4 (by omega)⟩, k2⟩
            · rw [if_pos ⟨hf0, rfl⟩] at hR
              clear HTe
              have v0 : w4.cell? ⟨w.heap.size + 1, 0, none⟩ = some (.int .i64 c) := qr.cell 0
              have v1 : w4.cell? ⟨w.heap.size + 1, 1, none⟩ = some (.slice z es.length cz) := qr.cell 1
              by_cases hc1 : c = 1
              · have zc : (c == 1) = true := by simpa using hc1
                rw [if_pos hc1] at hR
                clear hc1 hcm qr v1
                go_wp2_with fail
                refine (HT.out _ rs _ _ hat).mono ?_
                rintro e w5 ⟨⟨p, d1, q, d2, rfl, oi, orr⟩, hb4⟩
                have qz := qz.below hb4 qz.lt
                have hB := hB.trans (hb4.mono hB.size)
                clear hb4 HT hat
                simp only at oi orr ⊢
                have f0 : w5.frozen? ⟨w.heap.size + 1 + 1, 0, none⟩ = false := qz.frozen 0
                have f1 : w5.frozen? ⟨w.heap.size + 1 + 1, 1, none⟩ = false := qz.frozen 1
                have f2 : w5.frozen? ⟨w.heap.size + 1 + 1, 2, none⟩ = false := qz.frozen 2
                have f3 : w5.frozen? ⟨w.heap.size + 1 + 1, 3, none⟩ = false := qz.frozen 3
                have z0 : w5.cell? ⟨w.heap.size + 1 + 1, 0, none⟩ = some (.slice none 0 0) := qz.cell 0
                have z1 : w5.cell? ⟨w.heap.size + 1 + 1, 1, none⟩ = some (.slice none 0 0) := qz.cell 1
                have z2 : w5.cell? ⟨w.heap.size + 1 + 1, 2, none⟩ = some (.int .i64 0) := qz.cell 2
                have z3 : w5.cell? ⟨w.heap.size + 1 + 1, 3, none⟩ = some (.int .i64 0) := qz.cell 3
                have HE : Hid _ := out4 (p := p) (q := q) (now := now) (cc := 0) qz rfl (show w.heap.size ≤ w.heap.size + 1 + 1 by omega) hB oi orr rfl _ rfl
                clear qz hB oi orr
                go_wp2_with fail
                generalize (((w5.setCell ⟨w.heap.size + 1 + 1, 0, none⟩ (.slice p is.length d1)).setCell ⟨w.heap.size + 1 + 1, 1, none⟩ (.slice q rs.length d2)).setCell ⟨w.heap.size + 1 + 1, 2, none⟩ (.int .i64 now)).setCell ⟨w.heap.size + 1 + 1, 3, none⟩ (.int .i64 0) = Z at *
                obtain ⟨k1, k2, k3, k4⟩ := HE.out
                clear HE f0 f1 f2 f3 z0 z1 z2 z3
                have e0 : Z.cell? ⟨w.heap.size + 1 + 1, 0, none⟩ = some (.slice p is.length d1) := k1.cell 0
                have e1 : Z.cell? ⟨w.heap.size + 1 + 1, 1, none⟩ = some (.slice q rs.length d2) := k1.cell 1
                have e2 : Z.cell? ⟨w.heap.size + 1 + 1, 2, none⟩ = some (.int .i64 now) := k1.cell 2
                have e3 : Z.cell? ⟨w.heap.size + 1 + 1, 3, none⟩ = some (.int .i64 0) := k1.cell 3
                exact bodyPost_ret (v := .agg #[.slice p is.length d1, .slice q rs.length d2, .int .i64 now, .int .i64 0]) (by simp [results, Tryz.results14, go_sem, e0, e1, e2, e3]) rfl ⟨by rw [hR]; exact ⟨p, d1, q, d2, rfl, ownsI_mono k3 (by omega), ownsR_mono k4 (by omega)⟩, k2⟩
              · have zc : (c == 1) = false := by simpa using hc1
                rw [if_neg hc1] at hR
                have hnow := inNow_of n0 (by omega : now ≤ 999900)
                have hifk : ifB is[k] = true := ifsB_if hI k hk
                have hink : inIf (k : Int) = true := ifsB_inIf hI k hk
                have HRR : Hid (∀ j, j ≤ es.length → ribB (hearK is[k] k fr now rs es j) = true) := fun j hj => hearK_right hifk hink hf0 (by rw [hfk]; exact HNR.out) hnow hrib hes j hj
                have HFr : Hid (∀ rs' g e w, AtW B is rs' now g w → entB e = true → Calls Tryz.prog 59 #[.pointer (some ⟨g, 0, none⟩), entV e, .int .i64 (k : Int), .int .i64 fr] w fun r w' => r = .returned (rtV (wayE is[k] k fr e)) ∧ Below w.heap.size w w') := fun rs' g e w h he => heardFrom_any B is rs' now fr g k e w h hk hifk he
                have HLe : Hid (∀ j (hj : j < es.length) g w, AtW B is (hearK is[k] k fr now rs es j) now g w → Calls Tryz.prog 58 #[.pointer (some ⟨g, 0, none⟩), rtV (wayE is[k] k fr es[j]), .int .i64 now] w fun e w' => e = .returned (.int .i64 (learnO (hearK is[k] k fr now rs es j) (wayE is[k] k fr es[j]) now).1) ∧ AtW B is (hearK is[k] k fr now rs es (j + 1)) now g w' ∧ Below B w w') := fun j hj g w h => by
                  have := learnW_any B is _ now g (wayE is[k] k fr es[j]) now w h (by have := ribB_len (HRR.out j (by omega)); omega)
                  rw [hearK_next _ _ _ _ _ _ j hj]
                  exact this
                have hR2 : RES = (0, is, hearK is[k] k fr now rs es es.length, now) := by rw [hR, hfk]
                clear hR hc1 hcm hnow hifk hink HRR hfk HNR hrib hI
                have hR := hR2
                clear hR2
                have HS0 : Hid _ := And.intro hat (And.intro qz hB)
                have hat0 : AtW B is (hearK is[k] k fr now rs es 0) now g w4 := hat
                have HS1 : Hid _ := hat0
                clear hat hat0 qz hB qr
                generalize is[k] = f2 at *
                go_wp2_with fail
                go_loopw [56] (fun i' wr => ∃ j : Nat, j ≤ es.length ∧ i' = .int .i64 j ∧ AtW B is (hearK f2 k fr now rs es j) now g wr ∧ Row wr (w.heap.size + 1 + 1) 40 [.slice none 0 0, .slice none 0 0, .int .i64 0, .int .i64 0] ∧ Below w.heap.size w wr) (fun i' _ => es.length - (intOf i').toNat)
                case atStart => exact ⟨0, Nat.zero_le _, rfl, HS1.out, HS0.out.2.1, HS0.out.2.2⟩
                case round =>
                  obtain ⟨j, hj, rfl, hat, qz, hB⟩ := hrel
                  clear HS0 HS1 v0 v1
                  by_cases hlt : j < es.length
                  · have d1 : decide ((j : Int) < (es.length : Int)) = true := by simpa using hlt
                    obtain ⟨gz, a, l, n, m, t, rfl, hgz, hej, e0, e1, e2, e3, e4⟩ := (HX.out.2.2.below hB).at j hlt
                    have hbe : entB es[j] = true := (List.all_eq_true.1 hes) _ (List.getElem_mem _)
                    have HLk : Hid (∀ w, AtW B is (hearK f2 k fr now rs es j) now g w → Calls Tryz.prog 58 #[.pointer (some ⟨g, 0, none⟩), rtV (wayE f2 k fr es[j]), .int .i64 now] w fun e w' => e = .returned (.int .i64 (learnO (hearK f2 k fr now rs es j) (wayE f2 k fr es[j]) now).1) ∧ AtW B is (hearK f2 k fr now rs es (j + 1)) now g w' ∧ Below B w w') := fun w h => HLe.out j hlt g w h
                    have HFk : Hid (∀ w, AtW B is (hearK f2 k fr now rs es j) now g w → Calls Tryz.prog 59 #[.pointer (some ⟨g, 0, none⟩), .agg #[.int .i64 a, .int .i64 l, .int .i64 n, .int .i64 m, .int .i64 t], .int .i64 (k : Int), .int .i64 fr] w fun r w' => r = .returned (rtV (wayE f2 k fr es[j])) ∧ Below w.heap.size w w') := fun w h => by
                      have := HFr.out _ g es[j] w h hbe
                      rw [show entV es[j] = .agg #[.int .i64 a, .int .i64 l, .int .i64 n, .int .i64 m, .int .i64 t] by rw [hej]; rfl] at this
                      exact this
                    generalize (learnO (hearK f2 k fr now rs es j) (wayE f2 k fr es[j]) now).1 = LC at *
                    generalize wayE f2 k fr es[j] = WY at *
                    have rE := Row.new wr 95 [.int .i64 a, .int .i64 l, .int .i64 n, .int .i64 m, .int .i64 t]
                    have hat := atW_below hat (ent_new0 wr (.cells #[.int .i64 a, .int .i64 l, .int .i64 n, .int .i64 m, .int .i64 t] 95))
                    have qz := qz.alloc (.cells #[.int .i64 a, .int .i64 l, .int .i64 n, .int .i64 m, .int .i64 t] 95)
                    have hB := hB.alloc hB.size (.cells #[.int .i64 a, .int .i64 l, .int .i64 n, .int .i64 m, .int .i64 t] 95)
                    have HA : Hid _ := And.intro rE (And.intro hat (And.intro qz hB))
                    clear rE hat qz hB hej hbe hes HT hgz HFr HLe HX
                    go_wp2_with fail
                    generalize wr.heap.size = bE at *
                    generalize wr.alloc (.cells #[.int .i64 a, .int .i64 l, .int .i64 n, .int .i64 m, .int .i64 t] 95) = W9 at *
                    obtain ⟨rE, hat, qz, hB⟩ := HA.out
                    clear HA e0 e1 e2 e3 e4
                    have hGN : (([(60, Is (.pointer (some ⟨g, 0, none⟩))), (61, Is (.pointer (some ⟨g, 0, none⟩))), (62, Is (.pointer (some ⟨g, 0, none⟩))), (63, Is (.pointer (some ⟨g, 0, none⟩))), (64, Is (.agg #[.int .i64 a, .int .i64 l, .int .i64 n, .int .i64 m, .int .i64 t])), (65, Is (.int .i64 (k : Int))), (66, Is (.int .i64 fr)), (67, Is (rtV WY)), (68, Is (.pointer (some ⟨g, 0, none⟩))), (69, Is (.pointer (some ⟨g, 0, none⟩))), (70, Is (.pointer (some ⟨g, 2, none⟩))), (71, Is (.int .i64 now))] : List (Nat × (Value → World → Prop))).map (·.1)).Nodup := by simp
                    refine wp_region_steady 12 (SlotG [(60, Is (.pointer (some ⟨g, 0, none⟩))), (61, Is (.pointer (some ⟨g, 0, none⟩))), (62, Is (.pointer (some ⟨g, 0, none⟩))), (63, Is (.pointer (some ⟨g, 0, none⟩))), (64, Is (.agg #[.int .i64 a, .int .i64 l, .int .i64 n, .int .i64 m, .int .i64 t])), (65, Is (.int .i64 (k : Int))), (66, Is (.int .i64 fr)), (67, Is (rtV WY)), (68, Is (.pointer (some ⟨g, 0, none⟩))), (69, Is (.pointer (some ⟨g, 0, none⟩))), (70, Is (.pointer (some ⟨g, 2, none⟩))), (71, Is (.int .i64 now))]) (by kernel_rfl) (by kernel_rfl) (Stabs.all ⟨stab_is _, stab_is _, stab_is _, stab_is _, stab_is _, stab_is _, stab_is _, stab_is _, stab_is _, stab_is _, stab_is _, stab_is _, trivial⟩) ?_ ?_
                    · intro o ho
                      simp only [List.take_succ_cons, List.take_zero, List.mem_cons, List.not_mem_nil, or_false] at ho
                      rcases ho with rfl | rfl | rfl | rfl | rfl | rfl | rfl | rfl | rfl | rfl | rfl | rfl
                      · intro a' w' hb ha hdep
                        have d9 : a'.tmps.getD 9 undef = .pointer (some ⟨g, 0, none⟩) := ha.at 9 (by kernel_rfl)
                        have hmk := fun (x : Value) (W : World) => SlotG.mk (x := x) (w := W) 0 rfl hGN
                        clear hGN ha hdep
                        go_simp
                        exact ⟨_, rfl, Below.refl _ _, hmk _ _ rfl⟩
                      · intro a' w' hb ha hdep
                        have d60 : a'.tmps.getD 60 undef = .pointer (some ⟨g, 0, none⟩) := (hdep 60 (of_decide_eq_true (by kernel_rfl))).is 0 rfl
                        have hmk := fun (x : Value) (W : World) => SlotG.mk (x := x) (w := W) 1 rfl hGN
                        clear hGN ha hdep
                        go_simp
                        exact ⟨_, rfl, Below.refl _ _, hmk _ _ rfl⟩
                      · intro a' w' hb ha hdep
                        have d61 : a'.tmps.getD 61 undef = .pointer (some ⟨g, 0, none⟩) := (hdep 61 (of_decide_eq_true (by kernel_rfl))).is 1 rfl
                        have hmk := fun (x : Value) (W : World) => SlotG.mk (x := x) (w := W) 2 rfl hGN
                        clear hGN ha hdep
                        go_simp
                        exact ⟨_, rfl, Below.refl _ _, hmk _ _ rfl⟩
                      · intro a' w' hb ha hdep
                        have d9 : a'.tmps.getD 9 undef = .pointer (some ⟨g, 0, none⟩) := ha.at 9 (by kernel_rfl)
                        have hmk := fun (x : Value) (W : World) => SlotG.mk (x := x) (w := W) 3 rfl hGN
                        clear hGN ha hdep
                        go_simp
                        exact ⟨_, rfl, Below.refl _ _, hmk _ _ rfl⟩
                      · intro a' w' hb ha hdep
                        have d12 : a'.tmps.getD 12 undef = .pointer (some ⟨bE, 0, none⟩) := ha.at 12 (by kernel_rfl)
                        have hmk := fun (x : Value) (W : World) => SlotG.mk (x := x) (w := W) 4 rfl hGN
                        clear hGN ha hdep
                        have x0 : w'.cell? ⟨bE, 0, none⟩ = some (.int .i64 a) := (rE.below hb rE.lt).cell 0
                        have x1 : w'.cell? ⟨bE, 1, none⟩ = some (.int .i64 l) := (rE.below hb rE.lt).cell 1
                        have x2 : w'.cell? ⟨bE, 2, none⟩ = some (.int .i64 n) := (rE.below hb rE.lt).cell 2
                        have x3 : w'.cell? ⟨bE, 3, none⟩ = some (.int .i64 m) := (rE.below hb rE.lt).cell 3
                        have x4 : w'.cell? ⟨bE, 4, none⟩ = some (.int .i64 t) := (rE.below hb rE.lt).cell 4
                        go_simp
                        exact ⟨_, rfl, Below.refl _ _, hmk _ _ rfl⟩
                      · intro a' w' hb ha hdep
                        have d1 : a'.tmps.getD 1 undef = .int .i64 (k : Int) := ha.at 1 (by kernel_rfl)
                        have hmk := fun (x : Value) (W : World) => SlotG.mk (x := x) (w := W) 5 rfl hGN
                        clear hGN ha hdep
                        go_simp
                        exact ⟨_, rfl, Below.refl _ _, hmk _ _ rfl⟩
                      · intro a' w' hb ha hdep
                        have d2 : a'.tmps.getD 2 undef = .int .i64 fr := ha.at 2 (by kernel_rfl)
                        have hmk := fun (x : Value) (W : World) => SlotG.mk (x := x) (w := W) 6 rfl hGN
                        clear hGN ha hdep
                        go_simp
                        exact ⟨_, rfl, Below.refl _ _, hmk _ _ rfl⟩
                      · intro a' w' hb ha hdep
                        have d63 : a'.tmps.getD 63 undef = .pointer (some ⟨g, 0, none⟩) := (hdep 63 (of_decide_eq_true (by kernel_rfl))).is 3 rfl
                        have d64 : a'.tmps.getD 64 undef = .agg #[.int .i64 a, .int .i64 l, .int .i64 n, .int .i64 m, .int .i64 t] := (hdep 64 (of_decide_eq_true (by kernel_rfl))).is 4 rfl
                        have d65 : a'.tmps.getD 65 undef = .int .i64 (k : Int) := (hdep 65 (of_decide_eq_true (by kernel_rfl))).is 5 rfl
                        have d66 : a'.tmps.getD 66 undef = .int .i64 fr := (hdep 66 (of_decide_eq_true (by kernel_rfl))).is 6 rfl
                        have hmk := fun (x : Value) (W : World) => SlotG.mk (x := x) (w := W) 7 rfl hGN
                        clear hGN ha hdep
                        go_simp
                        refine (HFk.out _ (atW_below hat hb)).mono ?_
                        rintro e w2 ⟨rfl, hb2⟩
                        exact ⟨_, rfl, hb2, hmk _ _ rfl⟩
                      · intro a' w' hb ha hdep
                        have d9 : a'.tmps.getD 9 undef = .pointer (some ⟨g, 0, none⟩) := ha.at 9 (by kernel_rfl)
                        have hmk := fun (x : Value) (W : World) => SlotG.mk (x := x) (w := W) 8 rfl hGN
                        clear hGN ha hdep
                        go_simp
                        exact ⟨_, rfl, Below.refl _ _, hmk _ _ rfl⟩
                      · intro a' w' hb ha hdep
                        have d68 : a'.tmps.getD 68 undef = .pointer (some ⟨g, 0, none⟩) := (hdep 68 (of_decide_eq_true (by kernel_rfl))).is 8 rfl
                        have hmk := fun (x : Value) (W : World) => SlotG.mk (x := x) (w := W) 9 rfl hGN
                        clear hGN ha hdep
                        go_simp
                        exact ⟨_, rfl, Below.refl _ _, hmk _ _ rfl⟩
                      · intro a' w' hb ha hdep
                        have d69 : a'.tmps.getD 69 undef = .pointer (some ⟨g, 0, none⟩) := (hdep 69 (of_decide_eq_true (by kernel_rfl))).is 9 rfl
                        have hmk := fun (x : Value) (W : World) => SlotG.mk (x := x) (w := W) 10 rfl hGN
                        clear hGN ha hdep
                        go_simp
                        exact ⟨_, rfl, Below.refl _ _, hmk _ _ rfl⟩
                      · intro a' w' hb ha hdep
                        have d70 : a'.tmps.getD 70 undef = .pointer (some ⟨g, 2, none⟩) := (hdep 70 (of_decide_eq_true (by kernel_rfl))).is 10 rfl
                        have hmk := fun (x : Value) (W : World) => SlotG.mk (x := x) (w := W) 11 rfl hGN
                        clear hGN ha hdep
                        have t2 : w'.cell? ⟨g, 2, none⟩ = some (.int .i64 now) := atW_now2 (atW_below hat hb)
                        go_simp
                        exact ⟨_, rfl, Below.refl _ _, hmk _ _ rfl⟩
                    · intro a' w' hb ha hG
                      clear hGN
                      have d62 : a'.tmps.getD 62 undef = .pointer (some ⟨g, 0, none⟩) := (hG _ (List.mem_of_getElem? (i := 2) rfl) 62 rfl).is 2 rfl
                      have d67 : a'.tmps.getD 67 undef = rtV WY := (hG _ (List.mem_of_getElem? (i := 7) rfl) 67 rfl).is 7 rfl
                      have d71 : a'.tmps.getD 71 undef = .int .i64 now := (hG _ (List.mem_of_getElem? (i := 11) rfl) 71 rfl).is 11 rfl
                      have d0 : a'.tmps.getD 0 undef = .agg #[.slice x is.length c1, .slice y rs.length c2, .int .i64 now] := ha.at 0 (by kernel_rfl)
                      have d1 : a'.tmps.getD 1 undef = .int .i64 (k : Int) := ha.at 1 (by kernel_rfl)
                      have d2 : a'.tmps.getD 2 undef = .int .i64 fr := ha.at 2 (by kernel_rfl)
                      have d3 : a'.tmps.getD 3 undef = .agg #[.int .i64 c, .slice (some ⟨gz, 0, none⟩) es.length cz] := ha.at 3 (by kernel_rfl)
                      have d4 : a'.tmps.getD 4 undef = .pointer (some ⟨w.heap.size, 0, none⟩) := ha.at 4 (by kernel_rfl)
                      have d5 : a'.tmps.getD 5 undef = undef := ha.at 5 (by kernel_rfl)
                      have d6 : a'.tmps.getD 6 undef = undef := ha.at 6 (by kernel_rfl)
                      have d7 : a'.tmps.getD 7 undef = .pointer (some ⟨w.heap.size + 1, 0, none⟩) := ha.at 7 (by kernel_rfl)
                      have d8 : a'.tmps.getD 8 undef = .pointer (some ⟨w.heap.size + 1 + 1, 0, none⟩) := ha.at 8 (by kernel_rfl)
                      have d9 : a'.tmps.getD 9 undef = .pointer (some ⟨g, 0, none⟩) := ha.at 9 (by kernel_rfl)
                      have d10 : a'.tmps.getD 10 undef = .int .i64 0 := ha.at 10 (by kernel_rfl)
                      have d11 : a'.tmps.getD 11 undef = undef := ha.at 11 (by kernel_rfl)
                      have d13 : a'.tmps.getD 13 undef = .agg #[.slice x is.length c1, .slice y rs.length c2, .int .i64 now] := ha.at 13 (by kernel_rfl)
                      have d14 : a'.tmps.getD 14 undef = .bool true := ha.at 14 (by kernel_rfl)
                      have d15 : a'.tmps.getD 15 undef = .bool false := ha.at 15 (by kernel_rfl)
                      have d16 : a'.tmps.getD 16 undef = .bool false := ha.at 16 (by kernel_rfl)
                      have d17 : a'.tmps.getD 17 undef = .agg #[.int .i64 c, .slice (some ⟨gz, 0, none⟩) es.length cz] := ha.at 17 (by kernel_rfl)
                      have d18 : a'.tmps.getD 18 undef = .bool true := ha.at 18 (by kernel_rfl)
                      have d19 : a'.tmps.getD 19 undef = .bool false := ha.at 19 (by kernel_rfl)
                      have d20 : a'.tmps.getD 20 undef = .bool false := ha.at 20 (by kernel_rfl)
                      have d21 : a'.tmps.getD 21 undef = undef := ha.at 21 (by kernel_rfl)
                      have d22 : a'.tmps.getD 22 undef = .agg #[.slice x is.length c1, .slice y rs.length c2, .int .i64 now] := ha.at 22 (by kernel_rfl)
                      have d23 : a'.tmps.getD 23 undef = .pointer (some ⟨g, 0, none⟩) := ha.at 23 (by kernel_rfl)
                      have d24 : a'.tmps.getD 24 undef = .pointer (some ⟨g, 0, none⟩) := ha.at 24 (by kernel_rfl)
                      have d25 : a'.tmps.getD 25 undef = .int .i64 (k : Int) := ha.at 25 (by kernel_rfl)
                      have d26 : a'.tmps.getD 26 undef = .int .i64 0 := ha.at 26 (by kernel_rfl)
                      have d27 : a'.tmps.getD 27 undef = .int .i64 0 := ha.at 27 (by kernel_rfl)
                      have d28 : a'.tmps.getD 28 undef = .bool false := ha.at 28 (by kernel_rfl)
                      have d29 : a'.tmps.getD 29 undef = undef := ha.at 29 (by kernel_rfl)
                      have d30 : a'.tmps.getD 30 undef = undef := ha.at 30 (by kernel_rfl)
                      have d31 : a'.tmps.getD 31 undef = undef := ha.at 31 (by kernel_rfl)
                      have d32 : a'.tmps.getD 32 undef = .int .i64 fr := ha.at 32 (by kernel_rfl)
                      have d33 : a'.tmps.getD 33 undef = .bool false := ha.at 33 (by kernel_rfl)
                      have d34 : a'.tmps.getD 34 undef = .bool false := ha.at 34 (by kernel_rfl)
                      have d35 : a'.tmps.getD 35 undef = .pointer (some ⟨g, 0, none⟩) := ha.at 35 (by kernel_rfl)
                      have d36 : a'.tmps.getD 36 undef = .pointer (some ⟨g, 0, none⟩) := ha.at 36 (by kernel_rfl)
                      have d37 : a'.tmps.getD 37 undef = .pointer (some ⟨g, 1, none⟩) := ha.at 37 (by kernel_rfl)
                      have d38 : a'.tmps.getD 38 undef = .slice (some ⟨b, 0, none⟩) is.length k1 := ha.at 38 (by kernel_rfl)
                      have d39 : a'.tmps.getD 39 undef = .int .i64 (k : Int) := ha.at 39 (by kernel_rfl)
                      have d40 : a'.tmps.getD 40 undef = .pointer (some ⟨b, k * 5, none⟩) := ha.at 40 (by kernel_rfl)
                      have d41 : a'.tmps.getD 41 undef = .agg #[.int .i64 fd, .int .i64 fa, .int .i64 fl, .int .i64 fc, .bool fu] := ha.at 41 (by kernel_rfl)
                      have d42 : a'.tmps.getD 42 undef = .int .i64 fr := ha.at 42 (by kernel_rfl)
                      have d43 : a'.tmps.getD 43 undef = .bool true := ha.at 43 (by kernel_rfl)
                      have d44 : a'.tmps.getD 44 undef = .bool false := ha.at 44 (by kernel_rfl)
                      have d45 : a'.tmps.getD 45 undef = .bool false := ha.at 45 (by kernel_rfl)
                      have d46 : a'.tmps.getD 46 undef = undef := ha.at 46 (by kernel_rfl)
                      have d47 : a'.tmps.getD 47 undef = undef := ha.at 47 (by kernel_rfl)
                      have d48 : a'.tmps.getD 48 undef = .pointer (some ⟨w.heap.size + 1, 0, none⟩) := ha.at 48 (by kernel_rfl)
                      have d49 : a'.tmps.getD 49 undef = .int .i64 c := ha.at 49 (by kernel_rfl)
                      have d50 : a'.tmps.getD 50 undef = .bool false := ha.at 50 (by kernel_rfl)
                      have d51 : a'.tmps.getD 51 undef = undef := ha.at 51 (by kernel_rfl)
                      have d52 : a'.tmps.getD 52 undef = undef := ha.at 52 (by kernel_rfl)
                      have d53 : a'.tmps.getD 53 undef = .pointer (some ⟨w.heap.size + 1, 1, none⟩) := ha.at 53 (by kernel_rfl)
                      have d54 : a'.tmps.getD 54 undef = .slice (some ⟨gz, 0, none⟩) es.length cz := ha.at 54 (by kernel_rfl)
                      have d55 : a'.tmps.getD 55 undef = .int .i64 (es.length : Int) := ha.at 55 (by kernel_rfl)
                      have d56 : a'.tmps.getD 56 undef = .int .i64 (j : Int) := ha.at 56 (by kernel_rfl)
                      have d74 : a'.tmps.getD 74 undef = undef := ha.at 74 (by kernel_rfl)
                      have d75 : a'.tmps.getD 75 undef = undef := ha.at 75 (by kernel_rfl)
                      have e2 : a' = ⟨#[a'.tmps.getD 0 undef, a'.tmps.getD 1 undef, a'.tmps.getD 2 undef, a'.tmps.getD 3 undef, a'.tmps.getD 4 undef, a'.tmps.getD 5 undef, a'.tmps.getD 6 undef, a'.tmps.getD 7 undef, a'.tmps.getD 8 undef, a'.tmps.getD 9 undef, a'.tmps.getD 10 undef, a'.tmps.getD 11 undef, a'.tmps.getD 12 undef, a'.tmps.getD 13 undef, a'.tmps.getD 14 undef, a'.tmps.getD 15 undef, a'.tmps.getD 16 undef, a'.tmps.getD 17 undef, a'.tmps.getD 18 undef, a'.tmps.getD 19 undef, a'.tmps.getD 20 undef, a'.tmps.getD 21 undef, a'.tmps.getD 22 undef, a'.tmps.getD 23 undef, a'.tmps.getD 24 undef, a'.tmps.getD 25 undef, a'.tmps.getD 26 undef, a'.tmps.getD 27 undef, a'.tmps.getD 28 undef, a'.tmps.getD 29 undef, a'.tmps.getD 30 undef, a'.tmps.getD 31 undef, a'.tmps.getD 32 undef, a'.tmps.getD 33 undef, a'.tmps.getD 34 undef, a'.tmps.getD 35 undef, a'.tmps.getD 36 undef, a'.tmps.getD 37 undef, a'.tmps.getD 38 undef, a'.tmps.getD 39 undef, a'.tmps.getD 40 undef, a'.tmps.getD 41 undef, a'.tmps.getD 42 undef, a'.tmps.getD 43 undef, a'.tmps.getD 44 undef, a'.tmps.getD 45 undef, a'.tmps.getD 46 undef, a'.tmps.getD 47 undef, a'.tmps.getD 48 undef, a'.tmps.getD 49 undef, a'.tmps.getD 50 undef, a'.tmps.getD 51 undef, a'.tmps.getD 52 undef, a'.tmps.getD 53 undef, a'.tmps.getD 54 undef, a'.tmps.getD 55 undef, a'.tmps.getD 56 undef, a'.tmps.getD 57 undef, a'.tmps.getD 58 undef, a'.tmps.getD 59 undef, a'.tmps.getD 60 undef, a'.tmps.getD 61 undef, a'.tmps.getD 62 undef, a'.tmps.getD 63 undef, a'.tmps.getD 64 undef, a'.tmps.getD 65 undef, a'.tmps.getD 66 undef, a'.tmps.getD 67 undef, a'.tmps.getD 68 undef, a'.tmps.getD 69 undef, a'.tmps.getD 70 undef, a'.tmps.getD 71 undef, a'.tmps.getD 72 undef, a'.tmps.getD 73 undef, a'.tmps.getD 74 undef, a'.tmps.getD 75 undef], []⟩ := by rw [← (show a'.defers = [] from ha.2.1)]; exact act_eq a' 76 ha.1
                      rw [d62, d67, d71, d0, d1, d2, d3, d4, d5, d6, d7, d8, d9, d10, d11, d13, d14, d15, d16, d17, d18, d19, d20, d21, d22, d23, d24, d25, d26, d27, d28, d29, d30, d31, d32, d33, d34, d35, d36, d37, d38, d39, d40, d41, d42, d43, d44, d45, d46, d47, d48, d49, d50, d51, d52, d53, d54, d55, d56, d74, d75] at e2
                      clear hG ha d62 d67 d71 d0 d1 d2 d3 d4 d5 d6 d7 d8 d9 d10 d11 d13 d14 d15 d16 d17 d18 d19 d20 d21 d22 d23 d24 d25 d26 d27 d28 d29 d30 d31 d32 d33 d34 d35 d36 d37 d38 d39 d40 d41 d42 d43 d44 d45 d46 d47 d48 d49 d50 d51 d52 d53 d54 d55 d56 d74 d75
                      generalize a'.tmps.getD 12 undef = x12 at *
                      generalize a'.tmps.getD 57 undef = x57 at *
                      generalize a'.tmps.getD 58 undef = x58 at *
                      generalize a'.tmps.getD 59 undef = x59 at *
                      generalize a'.tmps.getD 60 undef = x60 at *
                      generalize a'.tmps.getD 61 undef = x61 at *
                      generalize a'.tmps.getD 63 undef = x63 at *
                      generalize a'.tmps.getD 64 undef = x64 at *
                      generalize a'.tmps.getD 65 undef = x65 at *
                      generalize a'.tmps.getD 66 undef = x66 at *
                      generalize a'.tmps.getD 68 undef = x68 at *
                      generalize a'.tmps.getD 69 undef = x69 at *
                      generalize a'.tmps.getD 70 undef = x70 at *
                      generalize a'.tmps.getD 72 undef = x72 at *
                      generalize a'.tmps.getD 73 undef = x73 at *
                      subst e2
                      simp only [List.drop_succ_cons, List.drop_zero]
                      have hat := atW_below hat hb
                      have qz := qz.below hb qz.lt
                      have hB := hB.trans (hb.mono hB.size)
                      clear hb rE HFk
                      go_wp2_with fail
                      refine (HLk.out _ hat).mono ?_
                      rintro e_ w6 ⟨rfl, hat, hb6⟩
                      have qz := qz.below hb6 L1
                      have hB := hB.trans (hb6.mono (by omega))
                      clear hb6 HLk
                      go_wp2_with fail
                      go_roundw
                      case rel => exact ⟨j + 1, hlt, by go_num, hat, qz, hB⟩
                      case measure => simp [intOf]; omega
                  · obtain rfl : j = es.length := by omega
                    have d1 : decide ((es.length : Int) < (es.length : Int)) = false := by simp
                    clear hlt hj HFr HLe hes
                    generalize hearK f2 (k : Int) fr now rs es es.length = qs at *
                    go_wp2_with fail
                    refine (HT.out _ qs _ _ hat).mono ?_
                    rintro e w5 ⟨⟨p, d1, q, d2, rfl, oi, orr⟩, hb4⟩
                    have qz := qz.below hb4 qz.lt
                    have hB := hB.trans (hb4.mono hB.size)
                    clear hb4 HT hat
                    simp only at oi orr ⊢
                    have f0 : w5.frozen? ⟨w.heap.size + 1 + 1, 0, none⟩ = false := qz.frozen 0
                    have f1 : w5.frozen? ⟨w.heap.size + 1 + 1, 1, none⟩ = false := qz.frozen 1
                    have f2 : w5.frozen? ⟨w.heap.size + 1 + 1, 2, none⟩ = false := qz.frozen 2
                    have f3 : w5.frozen? ⟨w.heap.size + 1 + 1, 3, none⟩ = false := qz.frozen 3
                    have z0 : w5.cell? ⟨w.heap.size + 1 + 1, 0, none⟩ = some (.slice none 0 0) := qz.cell 0
                    have z1 : w5.cell? ⟨w.heap.size + 1 + 1, 1, none⟩ = some (.slice none 0 0) := qz.cell 1
                    have z2 : w5.cell? ⟨w.heap.size + 1 + 1, 2, none⟩ = some (.int .i64 0) := qz.cell 2
                    have z3 : w5.cell? ⟨w.heap.size + 1 + 1, 3, none⟩ = some (.int .i64 0) := qz.cell 3
                    have HE : Hid _ := out4 (p := p) (q := q) (now := now) (cc := 0) qz rfl (show w.heap.size ≤ w.heap.size + 1 + 1 by omega) hB oi orr rfl _ rfl
                    clear qz hB oi orr
                    go_wp2_with fail
                    generalize (((w5.setCell ⟨w.heap.size + 1 + 1, 0, none⟩ (.slice p is.length d1)).setCell ⟨w.heap.size + 1 + 1, 1, none⟩ (.slice q qs.length d2)).setCell ⟨w.heap.size + 1 + 1, 2, none⟩ (.int .i64 now)).setCell ⟨w.heap.size + 1 + 1, 3, none⟩ (.int .i64 0) = Z at *
                    obtain ⟨k1, k2, k3, k4⟩ := HE.out
                    clear HE f0 f1 f2 f3 z0 z1 z2 z3
                    have e0 : Z.cell? ⟨w.heap.size + 1 + 1, 0, none⟩ = some (.slice p is.length d1) := k1.cell 0
                    have e1 : Z.cell? ⟨w.heap.size + 1 + 1, 1, none⟩ = some (.slice q qs.length d2) := k1.cell 1
                    have e2 : Z.cell? ⟨w.heap.size + 1 + 1, 2, none⟩ = some (.int .i64 now) := k1.cell 2
                    have e3 : Z.cell? ⟨w.heap.size + 1 + 1, 3, none⟩ = some (.int .i64 0) := k1.cell 3
                    exact bodyPost_ret (v := .agg #[.slice p is.length d1, .slice q qs.length d2, .int .i64 now, .int .i64 0]) (by simp [results, Tryz.results14, go_sem, e0, e1, e2, e3]) rfl ⟨by rw [hR]; exact ⟨p, d1, q, d2, rfl, ownsI_mono k3 (by omega), ownsR_mono k4 (by omega)⟩, k2⟩
        · rw [if_neg hu] at hcc hR
          subst hcc
          clear hia hu HT qr
          go_wp2_with fail
          refine (HTe.out _ _ 10 _ (by decide) hat).mono ?_
          rintro e w4 ⟨⟨p, d1, q, d2, rfl, oi, orr⟩, hb4⟩
          have qz := qz.below hb4 qz.lt
          have hB := hB.trans (hb4.mono hB.size)
          clear hb4 HTe hat
          simp only [List.length_nil] at oi orr ⊢
          have f0 : w4.frozen? ⟨w.heap.size + 1 + 1, 0, none⟩ = false := qz.frozen 0
          have f1 : w4.frozen? ⟨w.heap.size + 1 + 1, 1, none⟩ = false := qz.frozen 1
          have f2 : w4.frozen? ⟨w.heap.size + 1 + 1, 2, none⟩ = false := qz.frozen 2
          have f3 : w4.frozen? ⟨w.heap.size + 1 + 1, 3, none⟩ = false := qz.frozen 3
          have z0 : w4.cell? ⟨w.heap.size + 1 + 1, 0, none⟩ = some (.slice none 0 0) := qz.cell 0
          have z1 : w4.cell? ⟨w.heap.size + 1 + 1, 1, none⟩ = some (.slice none 0 0) := qz.cell 1
          have z2 : w4.cell? ⟨w.heap.size + 1 + 1, 2, none⟩ = some (.int .i64 0) := qz.cell 2
          have z3 : w4.cell? ⟨w.heap.size + 1 + 1, 3, none⟩ = some (.int .i64 0) := qz.cell 3
          have HE : Hid _ := out4 (p := p) (q := q) (now := 0) (cc := 10) qz rfl (show w.heap.size ≤ w.heap.size + 1 + 1 by omega) hB oi orr rfl _ rfl
          clear qz hB oi orr
          go_wp2_with fail
          generalize (((w4.setCell ⟨w.heap.size + 1 + 1, 0, none⟩ (.slice p 0 d1)).setCell ⟨w.heap.size + 1 + 1, 1, none⟩ (.slice q 0 d2)).setCell ⟨w.heap.size + 1 + 1, 2, none⟩ (.int .i64 0)).setCell ⟨w.heap.size + 1 + 1, 3, none⟩ (.int .i64 10) = Z at *
          obtain ⟨k1, k2, k3, k4⟩ := HE.out
          clear HE f0 f1 f2 f3 z0 z1 z2 z3
          have e0 : Z.cell? ⟨w.heap.size + 1 + 1, 0, none⟩ = some (.slice p 0 d1) := k1.cell 0
          have e1 : Z.cell? ⟨w.heap.size + 1 + 1, 1, none⟩ = some (.slice q 0 d2) := k1.cell 1
          have e2 : Z.cell? ⟨w.heap.size + 1 + 1, 2, none⟩ = some (.int .i64 0) := k1.cell 2
          have e3 : Z.cell? ⟨w.heap.size + 1 + 1, 3, none⟩ = some (.int .i64 10) := k1.cell 3
          exact bodyPost_ret (v := .agg #[.slice p 0 d1, .slice q 0 d2, .int .i64 0, .int .i64 10]) (by simp [results, Tryz.results14, go_sem, e0, e1, e2, e3]) rfl ⟨by rw [hR]; exact ⟨p, d1, q, d2, rfl, ownsI_mono k3 (by omega), ownsR_mono k4 (by omega)⟩, k2⟩
end Go.Proofs.YtifckpncpjijiaaGreat
