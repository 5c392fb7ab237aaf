/- Texts that stand on each other, in one file: DownI, UpI, MwkM. -/
import Derived.Test.YtcnadobnihbldaaGreatPack35
import Derived.Test.YtcnadobnihbldaaGreatPack22
import Derived.Test.YtcnadobnihbldaaGreatPack36
import Derived.Test.YtcnadobnihbldaaGreatPack20
import Derived.Test.YtcnadobnihbldaaGreatPack19
/- Down of the program. (Written by gen_insti.py.) -/
namespace Go.Proofs.YtcnadobnihbldaaGreat
open Go.RowKit Go.Sort

/-- What Down answers. -/
def downO (is : List If) (rs : List Rt) (now i : Int) : Int × (List If × (List Rt × Int)) := if instB is rs now = true then (match ifAt is i with | none => ((6 : Int), [], [], (0 : Int)) | some f => if f.u = true then (0, setU is i.toNat false, rs.filterMap (loseF i now), now) else ((10 : Int), [], [], (0 : Int))) else (1, [], [], 0)
set_option maxRecDepth 100000 in
set_option maxHeartbeats 2000000 in
theorem implDown_any (x : Option Addr) (c1 : Nat) (y : Option Addr) (c2 : Nat) (is : List If) (rs : List Rt) (now : Int) (i : Int) (w : World) (h1 : IfsIn w x is) (hc : is.length ≤ c1) (hc1 : x = none → c1 = 0) (h2 : RtsIn w y rs) (hc2 : y = none → c2 = 0) (hn1 : is.length ≤ 100000000) (hn2 : rs.length ≤ 100000000) :
    Calls Tryz.prog 132 #[instV x is.length c1 y rs.length c2 now, .int .i64 i] w fun e w' => OutI w.heap.size (downO is rs now i) e w' ∧ Below w.heap.size w w' := by
  have HR : Hid (∀ w, IfsIn w x is → RtsIn w y rs → Calls Tryz.prog 115 #[instV x is.length c1 y rs.length c2 now] w fun e w' => e = .returned (.bool (instB is rs now)) ∧ Below w.heap.size w w') := fun w p q => implInst_any x c1 y c2 is rs now w p hc q hn1 hn2
  have HA : Hid (∀ w, IfsIn w x is → RtsIn w y rs → Calls Tryz.prog 60 #[instV x is.length c1 y rs.length c2 now] w fun e w' => ∃ g, e = .returned (.pointer (some ⟨g, 0, none⟩)) ∧ AtW w.heap.size is rs now g w' ∧ Below w.heap.size w w') := fun w p q => atWork_any x c1 y c2 is rs now w p hc1 q hc2 hn1 hn2
  have HX : Hid (IfsIn w x is ∧ RtsIn w y rs) := ⟨h1, h2⟩
  have HTe : Hid (∀ base g c w, c ≠ 0 → AtW base is rs now g w → Calls Tryz.prog 62 #[.pointer (some ⟨g, 0, none⟩), .int .i64 c] w fun e w' => OutI base (c, [], [], 0) e w' ∧ Below w.heap.size w w') := fun base g c w hc h => by
    have := toldW_any base is rs now c g w h
    unfold outW at this
    rw [if_neg hc] at this
    exact this
  have HL : Hid (∀ base g w, AtW base is rs now g w → Calls Tryz.prog 123 #[.pointer (some ⟨g, 0, none⟩), .int .i64 i, .bool true] w fun e w' => e = .returned (.int .i64 (lookC is i true)) ∧ Below w.heap.size w w') := fun base g w h => lookW_any base is rs now g i true w h hn1
  have HC : Hid ((match ifAt is i with | none => (6 : Int) | some f => if f.u = true then (0 : Int) else 10) = lookC is i true) := rfl
  generalize lookC is i true = CC at *
  have HLo : Hid (∀ base is' g w, instB is rs now = true → AtW base is' rs now g w → Calls Tryz.prog 157 #[.pointer (some ⟨g, 0, none⟩), .int .i64 i, .int .i64 now] w fun e w' => e = .returned (.int .i64 0) ∧ AtW base is' (rs.filterMap (loseF i now)) now g w' ∧ Below base w w') := fun base is' g w hI h => by
    obtain ⟨b1, b2, b3⟩ := instB_bd hI
    exact loseW_any base is' rs now g i now b1 (inNow_of b2 (by omega)) w h hn2
  have HT : Hid (∀ base is' g w, AtW base is' (rs.filterMap (loseF i now)) now g w → Calls Tryz.prog 62 #[.pointer (some ⟨g, 0, none⟩), .int .i64 0] w fun e w' => OutI base (0, is', rs.filterMap (loseF i now), now) e w' ∧ Below w.heap.size w w') := fun base is' g w h => toldW_any base is' _ now 0 g w h
  have HD : Hid (downO is rs now i = if instB is rs now = true then (match ifAt is i with | none => ((6 : Int), [], [], (0 : Int)) | some f => if f.u = true then (0, setU is i.toNat false, rs.filterMap (loseF i now), now) else ((10 : Int), [], [], (0 : Int))) else (1, [], [], 0)) := rfl
  clear h1 h2 hc hc1 hc2
  generalize downO is rs now i = RES at *
  generalize instB is rs now = IB at *
  unfold instV at *
  obtain ⟨W, hW, q0, qz, hB, hS⟩ := rows2 w [.slice x is.length c1, .slice y rs.length c2, .int .i64 now] [.slice none 0 0, .slice none 0 0, .int .i64 0, .int .i64 0] 61 63
  have HW : Hid _ := hW
  have x0 : W.cell? ⟨w.heap.size, 0, none⟩ = some (.slice x is.length c1) := q0.cell 0
  have x1 : W.cell? ⟨w.heap.size, 1, none⟩ = some (.slice y rs.length c2) := q0.cell 1
  have x2 : W.cell? ⟨w.heap.size, 2, none⟩ = some (.int .i64 now) := q0.cell 2
  have HQ : Hid _ := And.intro q0 (And.intro qz hB)
  clear q0 qz hB hS
  go_enter Tryz.func132, Tryz.ntmps132
  rw [hW] at x0 x1 x2
  clear hW
  go_wp2_with fail
  rw [← HW.out]
  obtain ⟨q0, qz, hB⟩ := HQ.out
  clear x0 x1 x2 HW
  refine (HR.out _ (HX.out.1.below hB) (HX.out.2.below hB)).mono ?_
  rintro e w1 ⟨rfl, hb1⟩
  have q0 := q0.below hb1 q0.lt
  have qz := qz.below hb1 qz.lt
  have hB := hB.trans (hb1.mono hB.size)
  clear hb1 HR HQ
  clear hn1 hn2
  have hR := HD.out
  clear HD
  cases IB
  · simp only [Bool.false_eq_true, if_false] at hR
    clear HX q0 HA HTe HL HC HLo HT
    have f0 : w1.frozen? ⟨w.heap.size + 1, 0, none⟩ = false := qz.frozen 0
    have f1 : w1.frozen? ⟨w.heap.size + 1, 1, none⟩ = false := qz.frozen 1
    have f2 : w1.frozen? ⟨w.heap.size + 1, 2, none⟩ = false := qz.frozen 2
    have f3 : w1.frozen? ⟨w.heap.size + 1, 3, none⟩ = false := qz.frozen 3
    have z0 : w1.cell? ⟨w.heap.size + 1, 0, none⟩ = some (.slice none 0 0) := qz.cell 0
    have z1 : w1.cell? ⟨w.heap.size + 1, 1, none⟩ = some (.slice none 0 0) := qz.cell 1
    have z2 : w1.cell? ⟨w.heap.size + 1, 2, none⟩ = some (.int .i64 0) := qz.cell 2
    have z3 : w1.cell? ⟨w.heap.size + 1, 3, none⟩ = some (.int .i64 0) := qz.cell 3
    have HE : Hid _ := out4 (p := none) (q := none) (now := 0) (cc := 1) qz rfl (show w.heap.size ≤ w.heap.size + 1 by omega) hB (ownsI_nil w1 w.heap.size) (ownsR_nil w1 w.heap.size) rfl _ rfl
    clear qz hB 
    go_wp2_with fail
    generalize (((w1.setCell ⟨w.heap.size + 1, 0, none⟩ (.slice none 0 0)).setCell ⟨w.heap.size + 1, 1, none⟩ (.slice none 0 0)).setCell ⟨w.heap.size + 1, 2, none⟩ (.int .i64 0)).setCell ⟨w.heap.size + 1, 3, none⟩ (.int .i64 1) = Z at *
    obtain ⟨k1, k2, k3, k4⟩ := HE.out
    clear HE f0 f1 f2 f3 z0 z1 z2 z3
    have e0 : Z.cell? ⟨w.heap.size + 1, 0, none⟩ = some (.slice none 0 0) := k1.cell 0
    have e1 : Z.cell? ⟨w.heap.size + 1, 1, none⟩ = some (.slice none 0 0) := k1.cell 1
    have e2 : Z.cell? ⟨w.heap.size + 1, 2, none⟩ = some (.int .i64 0) := k1.cell 2
    have e3 : Z.cell? ⟨w.heap.size + 1, 3, none⟩ = some (.int .i64 1) := k1.cell 3
    exact bodyPost_ret (v := .agg #[.slice none 0 0, .slice none 0 0, .int .i64 0, .int .i64 1]) (by simp [results, Tryz.results132, go_sem, e0, e1, e2, e3]) rfl ⟨by rw [hR]; exact outI_no _ _ _, k2⟩
  · simp only [if_true] at hR
    generalize rs.filterMap (loseF i now) = qs at *
    have y0 : w1.cell? ⟨w.heap.size, 0, none⟩ = some (.slice x is.length c1) := q0.cell 0
    have y1 : w1.cell? ⟨w.heap.size, 1, none⟩ = some (.slice y rs.length c2) := q0.cell 1
    have y2 : w1.cell? ⟨w.heap.size, 2, none⟩ = some (.int .i64 now) := q0.cell 2
    have L1 := qz.lt
    have L1s := hB.size
    go_wp2_with fail
    refine (HA.out _ (HX.out.1.below hB) (HX.out.2.below hB)).mono ?_
    rintro e w2 ⟨g, rfl, hat, hb2⟩
    have qz := qz.below hb2 qz.lt
    have hB := hB.trans (hb2.mono hB.size)
    have hb2s := hb2.size
    clear hb2 HA HX y0 y1 y2 q0
    generalize w1.heap.size = B at *
    go_wp2_with fail
    refine (HL.out _ _ _ hat).mono ?_
    rintro e w3 ⟨rfl, hb3⟩
    have hat := atW_below hat hb3
    have qz := qz.below hb3 qz.lt
    have hB := hB.trans (hb3.mono hB.size)
    clear hb3 HL
    have hc := HC.out
    clear HC
    cases hia : ifAt is i with
    | none =>
      rw [hia] at hc hR
      simp only at hc hR
      subst hc
      clear hia HLo HT
      go_wp2_with fail
      refine (HTe.out _ _ 6 _ (by decide) hat).mono ?_
      rintro e w4 ⟨⟨p, d1, q, d2, rfl, oi, orr⟩, hb4⟩
      have qz := qz.below hb4 qz.lt
      have hB := hB.trans (hb4.mono hB.size)
      clear hb4 HTe hat
      simp only [List.length_nil] at oi orr ⊢
      have f0 : w4.frozen? ⟨w.heap.size + 1, 0, none⟩ = false := qz.frozen 0
      have f1 : w4.frozen? ⟨w.heap.size + 1, 1, none⟩ = false := qz.frozen 1
      have f2 : w4.frozen? ⟨w.heap.size + 1, 2, none⟩ = false := qz.frozen 2
      have f3 : w4.frozen? ⟨w.heap.size + 1, 3, none⟩ = false := qz.frozen 3
      have z0 : w4.cell? ⟨w.heap.size + 1, 0, none⟩ = some (.slice none 0 0) := qz.cell 0
      have z1 : w4.cell? ⟨w.heap.size + 1, 1, none⟩ = some (.slice none 0 0) := qz.cell 1
      have z2 : w4.cell? ⟨w.heap.size + 1, 2, none⟩ = some (.int .i64 0) := qz.cell 2
      have z3 : w4.cell? ⟨w.heap.size + 1, 3, none⟩ = some (.int .i64 0) := qz.cell 3
      have HE : Hid _ := out4 (p := p) (q := q) (now := 0) (cc := 6) qz rfl (show w.heap.size ≤ w.heap.size + 1 by omega) hB oi orr rfl _ rfl
      clear qz hB oi orr
      go_wp2_with fail
      generalize (((w4.setCell ⟨w.heap.size + 1, 0, none⟩ (.slice p 0 d1)).setCell ⟨w.heap.size + 1, 1, none⟩ (.slice q 0 d2)).setCell ⟨w.heap.size + 1, 2, none⟩ (.int .i64 0)).setCell ⟨w.heap.size + 1, 3, none⟩ (.int .i64 6) = Z at *
      obtain ⟨k1, k2, k3, k4⟩ := HE.out
      clear HE f0 f1 f2 f3 z0 z1 z2 z3
      have e0 : Z.cell? ⟨w.heap.size + 1, 0, none⟩ = some (.slice p 0 d1) := k1.cell 0
      have e1 : Z.cell? ⟨w.heap.size + 1, 1, none⟩ = some (.slice q 0 d2) := k1.cell 1
      have e2 : Z.cell? ⟨w.heap.size + 1, 2, none⟩ = some (.int .i64 0) := k1.cell 2
      have e3 : Z.cell? ⟨w.heap.size + 1, 3, none⟩ = some (.int .i64 6) := k1.cell 3
      exact bodyPost_ret (v := .agg #[.slice p 0 d1, .slice q 0 d2, .int .i64 0, .int .i64 6]) (by simp [results, Tryz.results132, go_sem, e0, e1, e2, e3]) rfl ⟨by rw [hR]; exact ⟨p, d1, q, d2, rfl, ownsI_mono k3 (by omega), ownsR_mono k4 (by omega)⟩, k2⟩
    | some f =>
      rw [hia] at hc hR
      simp only at hc hR
      by_cases hu : f.u = true
      · rw [if_pos hu] at hc hR
        subst hc
        obtain ⟨k, rfl, hk, -⟩ := ifAt_some hia
        simp only [Int.toNat_natCast] at hR
        clear hia hu HTe
        obtain ⟨b, k1, y1, ⟨u0, y2⟩, y3, hbb, hbl, -, hup⟩ := atW_up hat k hk
        have hat2 := hup false
        have zk : (k : Int) < (is.length : Int) := by omega
        have qz := qz.other (k * 5 + 4) (.bool false) (show w.heap.size + 1 ≠ b by omega)
        have hB := hB.setCell (p := ⟨b, k * 5 + 4, none⟩) (by show w.heap.size ≤ b; omega) (.bool false)
        obtain ⟨_, _, _, _, _, _, t2, _⟩ := atW_cells hat2
        have HH : Hid _ := And.intro hat2 (And.intro qz hB)
        clear hat hat2 qz hB hup
        go_wp2_with fail
        obtain ⟨hat, qz, hB⟩ := HH.out
        generalize w3.setCell ⟨b, k * 5 + 4, none⟩ (.bool false) = W2 at *
        generalize setU is k false = is2 at *
        clear HH y1 y2 y3 zk
        refine wp_region_tail1 9 (.pointer (some ⟨g, 0, none⟩)) (by kernel_rfl) (by kernel_rfl) rfl ?_ ?_ ?_
        · intro _; rfl
        · exact fun _ _ _ h => h
        simp only [List.take_succ_cons, List.take_zero, List.drop_succ_cons, List.drop_zero]
        repeat (quiet_step (fail))
        refine wpQuiet_nil ?_
        intro _ hw'
        obtain ⟨nq, hw''⟩ := hw'
        subst hw''
        go_wp2_with fail
        refine (HLo.out _ _ _ _ trivial (atW_drewN nq hat)).mono ?_
        rintro e w5 ⟨rfl, hat, hb5⟩
        have qz := (qz.drewN nq).below hb5 L1
        have hB := (below_drewN hB nq).trans (hb5.mono (by omega))
        clear hb5 HLo
        go_wp2_with fail
        refine (HT.out _ _ _ _ hat).mono ?_
        rintro e w4 ⟨⟨p, d1, q, d2, rfl, oi, orr⟩, hb4⟩
        have qz := qz.below hb4 qz.lt
        have hB := hB.trans (hb4.mono hB.size)
        clear hb4 HT hat t2
        simp only at oi orr ⊢
        have f0 : w4.frozen? ⟨w.heap.size + 1, 0, none⟩ = false := qz.frozen 0
        have f1 : w4.frozen? ⟨w.heap.size + 1, 1, none⟩ = false := qz.frozen 1
        have f2 : w4.frozen? ⟨w.heap.size + 1, 2, none⟩ = false := qz.frozen 2
        have f3 : w4.frozen? ⟨w.heap.size + 1, 3, none⟩ = false := qz.frozen 3
        have z0 : w4.cell? ⟨w.heap.size + 1, 0, none⟩ = some (.slice none 0 0) := qz.cell 0
        have z1 : w4.cell? ⟨w.heap.size + 1, 1, none⟩ = some (.slice none 0 0) := qz.cell 1
        have z2 : w4.cell? ⟨w.heap.size + 1, 2, none⟩ = some (.int .i64 0) := qz.cell 2
        have z3 : w4.cell? ⟨w.heap.size + 1, 3, none⟩ = some (.int .i64 0) := qz.cell 3
        have HE : Hid _ := out4 (p := p) (q := q) (now := now) (cc := 0) qz rfl (show w.heap.size ≤ w.heap.size + 1 by omega) hB oi orr rfl _ rfl
        clear qz hB oi orr
        go_wp2_with fail
        generalize (((w4.setCell ⟨w.heap.size + 1, 0, none⟩ (.slice p is2.length d1)).setCell ⟨w.heap.size + 1, 1, none⟩ (.slice q qs.length d2)).setCell ⟨w.heap.size + 1, 2, none⟩ (.int .i64 now)).setCell ⟨w.heap.size + 1, 3, none⟩ (.int .i64 0) = Z at *
        obtain ⟨k1, k2, k3, k4⟩ := HE.out
        clear HE f0 f1 f2 f3 z0 z1 z2 z3
        have e0 : Z.cell? ⟨w.heap.size + 1, 0, none⟩ = some (.slice p is2.length d1) := k1.cell 0
        have e1 : Z.cell? ⟨w.heap.size + 1, 1, none⟩ = some (.slice q qs.length d2) := k1.cell 1
        have e2 : Z.cell? ⟨w.heap.size + 1, 2, none⟩ = some (.int .i64 now) := k1.cell 2
        have e3 : Z.cell? ⟨w.heap.size + 1, 3, none⟩ = some (.int .i64 0) := k1.cell 3
        exact bodyPost_ret (v := .agg #[.slice p is2.length d1, .slice q qs.length d2, .int .i64 now, .int .i64 0]) (by simp [results, Tryz.results132, go_sem, e0, e1, e2, e3]) rfl ⟨by rw [hR]; exact ⟨p, d1, q, d2, rfl, ownsI_mono k3 (by omega), ownsR_mono k4 (by omega)⟩, k2⟩
      · rw [if_neg hu] at hc hR
        subst hc
        clear hia hu HLo HT
        go_wp2_with fail
        refine (HTe.out _ _ 10 _ (by decide) hat).mono ?_
        rintro e w4 ⟨⟨p, d1, q, d2, rfl, oi, orr⟩, hb4⟩
        have qz := qz.below hb4 qz.lt
        have hB := hB.trans (hb4.mono hB.size)
        clear hb4 HTe hat
        simp only [List.length_nil] at oi orr ⊢
        have f0 : w4.frozen? ⟨w.heap.size + 1, 0, none⟩ = false := qz.frozen 0
        have f1 : w4.frozen? ⟨w.heap.size + 1, 1, none⟩ = false := qz.frozen 1
        have f2 : w4.frozen? ⟨w.heap.size + 1, 2, none⟩ = false := qz.frozen 2
        have f3 : w4.frozen? ⟨w.heap.size + 1, 3, none⟩ = false := qz.frozen 3
        have z0 : w4.cell? ⟨w.heap.size + 1, 0, none⟩ = some (.slice none 0 0) := qz.cell 0
        have z1 : w4.cell? ⟨w.heap.size + 1, 1, none⟩ = some (.slice none 0 0) := qz.cell 1
        have z2 : w4.cell? ⟨w.heap.size + 1, 2, none⟩ = some (.int .i64 0) := qz.cell 2
        have z3 : w4.cell? ⟨w.heap.size + 1, 3, none⟩ = some (.int .i64 0) := qz.cell 3
        have HE : Hid _ := out4 (p := p) (q := q) (now := 0) (cc := 10) qz rfl (show w.heap.size ≤ w.heap.size + 1 by omega) hB oi orr rfl _ rfl
        clear qz hB oi orr
        go_wp2_with fail
        generalize (((w4.setCell ⟨w.heap.size + 1, 0, none⟩ (.slice p 0 d1)).setCell ⟨w.heap.size + 1, 1, none⟩ (.slice q 0 d2)).setCell ⟨w.heap.size + 1, 2, none⟩ (.int .i64 0)).setCell ⟨w.heap.size + 1, 3, none⟩ (.int .i64 10) = Z at *
        obtain ⟨k1, k2, k3, k4⟩ := HE.out
        clear HE f0 f1 f2 f3 z0 z1 z2 z3
        have e0 : Z.cell? ⟨w.heap.size + 1, 0, none⟩ = some (.slice p 0 d1) := k1.cell 0
        have e1 : Z.cell? ⟨w.heap.size + 1, 1, none⟩ = some (.slice q 0 d2) := k1.cell 1
        have e2 : Z.cell? ⟨w.heap.size + 1, 2, none⟩ = some (.int .i64 0) := k1.cell 2
        have e3 : Z.cell? ⟨w.heap.size + 1, 3, none⟩ = some (.int .i64 10) := k1.cell 3
        exact bodyPost_ret (v := .agg #[.slice p 0 d1, .slice q 0 d2, .int .i64 0, .int .i64 10]) (by simp [results, Tryz.results132, go_sem, e0, e1, e2, e3]) rfl ⟨by rw [hR]; exact ⟨p, d1, q, d2, rfl, ownsI_mono k3 (by omega), ownsR_mono k4 (by omega)⟩, k2⟩
end Go.Proofs.YtcnadobnihbldaaGreat
/- Up of the program. (Written by gen_insti.py.) -/
namespace Go.Proofs.YtcnadobnihbldaaGreat
open Go.RowKit Go.Sort

/-- What Up answers. -/
def upO (is : List If) (rs : List Rt) (now i : Int) : Int × (List If × (List Rt × Int)) := if instB is rs now = true then (match ifAt is i with | none => ((6 : Int), [], [], (0 : Int)) | some f => if f.u = false then outW (ownO rs f.a f.l i).1 (setU is i.toNat true) (ownO rs f.a f.l i).2 now else ((10 : Int), [], [], (0 : Int))) else (1, [], [], 0)
set_option maxRecDepth 100000 in
set_option maxHeartbeats 2000000 in
theorem implUp_any (x : Option Addr) (c1 : Nat) (y : Option Addr) (c2 : Nat) (is : List If) (rs : List Rt) (now : Int) (i : Int) (w : World) (h1 : IfsIn w x is) (hc : is.length ≤ c1) (hc1 : x = none → c1 = 0) (h2 : RtsIn w y rs) (hc2 : y = none → c2 = 0) (hn1 : is.length ≤ 100000000) (hn2 : rs.length ≤ 100000000) :
    Calls Tryz.prog 131 #[instV x is.length c1 y rs.length c2 now, .int .i64 i] w fun e w' => OutI w.heap.size (upO is rs now i) e w' ∧ Below w.heap.size w w' := by
  have HR : Hid (∀ w, IfsIn w x is → RtsIn w y rs → Calls Tryz.prog 115 #[instV x is.length c1 y rs.length c2 now] w fun e w' => e = .returned (.bool (instB is rs now)) ∧ Below w.heap.size w w') := fun w p q => implInst_any x c1 y c2 is rs now w p hc q hn1 hn2
  have HA : Hid (∀ w, IfsIn w x is → RtsIn w y rs → Calls Tryz.prog 60 #[instV x is.length c1 y rs.length c2 now] w fun e w' => ∃ g, e = .returned (.pointer (some ⟨g, 0, none⟩)) ∧ AtW w.heap.size is rs now g w' ∧ Below w.heap.size w w') := fun w p q => atWork_any x c1 y c2 is rs now w p hc1 q hc2 hn1 hn2
  have HX : Hid (IfsIn w x is ∧ RtsIn w y rs) := ⟨h1, h2⟩
  have HTe : Hid (∀ base g c w, c ≠ 0 → AtW base is rs now g w → Calls Tryz.prog 62 #[.pointer (some ⟨g, 0, none⟩), .int .i64 c] w fun e w' => OutI base (c, [], [], 0) e w' ∧ Below w.heap.size w w') := fun base g c w hc h => by
    have := toldW_any base is rs now c g w h
    unfold outW at this
    rw [if_neg hc] at this
    exact this
  have HL : Hid (∀ base g w, AtW base is rs now g w → Calls Tryz.prog 123 #[.pointer (some ⟨g, 0, none⟩), .int .i64 i, .bool false] w fun e w' => e = .returned (.int .i64 (lookC is i false)) ∧ Below w.heap.size w w') := fun base g w h => lookW_any base is rs now g i false w h hn1
  have HC : Hid ((match ifAt is i with | none => (6 : Int) | some f => if f.u = false then (0 : Int) else 10) = lookC is i false) := rfl
  generalize lookC is i false = CC at *
  have HRs : Hid (∀ base g k w, (hk : k < is.length) → AtW base is rs now g w → Calls Tryz.prog 61 #[.pointer (some ⟨g, 0, none⟩), .int .i64 k] w fun e w' => e = .returned (.int .i64 (ownO rs is[k].a is[k].l k).1) ∧ AtW base (setU is k true) (if (ownO rs is[k].a is[k].l k).1 = 0 then (ownO rs is[k].a is[k].l k).2 else rs) now g w' ∧ Below base w w') := fun base g k w hk h => raise_any base is rs now g k w h hk hn2
  have HT : Hid (∀ base is' (o : Int × List Rt) g w, AtW base is' (if o.1 = 0 then o.2 else rs) now g w → Calls Tryz.prog 62 #[.pointer (some ⟨g, 0, none⟩), .int .i64 o.1] w fun e w' => OutI base (outW o.1 is' o.2 now) e w' ∧ Below w.heap.size w w') := fun base is' o g w h => by
    have := toldW_any base is' _ now o.1 g w h
    unfold outW at this ⊢
    by_cases hc : o.1 = 0
    · rw [if_pos hc] at this ⊢
      rw [if_pos hc] at this
      exact this
    · rw [if_neg hc] at this ⊢
      exact this
  have HD : Hid (upO is rs now i = if instB is rs now = true then (match ifAt is i with | none => ((6 : Int), [], [], (0 : Int)) | some f => if f.u = false then outW (ownO rs f.a f.l i).1 (setU is i.toNat true) (ownO rs f.a f.l i).2 now else ((10 : Int), [], [], (0 : Int))) else (1, [], [], 0)) := rfl
  clear h1 h2 hc hc1 hc2
  generalize upO is rs now i = RES at *
  generalize instB is rs now = IB at *
  unfold instV at *
  obtain ⟨W, hW, q0, qz, hB, hS⟩ := rows2 w [.slice x is.length c1, .slice y rs.length c2, .int .i64 now] [.slice none 0 0, .slice none 0 0, .int .i64 0, .int .i64 0] 61 63
  have HW : Hid _ := hW
  have x0 : W.cell? ⟨w.heap.size, 0, none⟩ = some (.slice x is.length c1) := q0.cell 0
  have x1 : W.cell? ⟨w.heap.size, 1, none⟩ = some (.slice y rs.length c2) := q0.cell 1
  have x2 : W.cell? ⟨w.heap.size, 2, none⟩ = some (.int .i64 now) := q0.cell 2
  have HQ : Hid _ := And.intro q0 (And.intro qz hB)
  clear q0 qz hB hS
  go_enter Tryz.func131, Tryz.ntmps131
  rw [hW] at x0 x1 x2
  clear hW
  go_wp2_with fail
  rw [← HW.out]
  obtain ⟨q0, qz, hB⟩ := HQ.out
  clear x0 x1 x2 HW
  refine (HR.out _ (HX.out.1.below hB) (HX.out.2.below hB)).mono ?_
  rintro e w1 ⟨rfl, hb1⟩
  have q0 := q0.below hb1 q0.lt
  have qz := qz.below hb1 qz.lt
  have hB := hB.trans (hb1.mono hB.size)
  clear hb1 HR HQ
  clear hn1 hn2
  have hR := HD.out
  clear HD
  cases IB
  · simp only [Bool.false_eq_true, if_false] at hR
    clear HX q0 HA HTe HL HC HRs HT
    have f0 : w1.frozen? ⟨w.heap.size + 1, 0, none⟩ = false := qz.frozen 0
    have f1 : w1.frozen? ⟨w.heap.size + 1, 1, none⟩ = false := qz.frozen 1
    have f2 : w1.frozen? ⟨w.heap.size + 1, 2, none⟩ = false := qz.frozen 2
    have f3 : w1.frozen? ⟨w.heap.size + 1, 3, none⟩ = false := qz.frozen 3
    have z0 : w1.cell? ⟨w.heap.size + 1, 0, none⟩ = some (.slice none 0 0) := qz.cell 0
    have z1 : w1.cell? ⟨w.heap.size + 1, 1, none⟩ = some (.slice none 0 0) := qz.cell 1
    have z2 : w1.cell? ⟨w.heap.size + 1, 2, none⟩ = some (.int .i64 0) := qz.cell 2
    have z3 : w1.cell? ⟨w.heap.size + 1, 3, none⟩ = some (.int .i64 0) := qz.cell 3
    have HE : Hid _ := out4 (p := none) (q := none) (now := 0) (cc := 1) qz rfl (show w.heap.size ≤ w.heap.size + 1 by omega) hB (ownsI_nil w1 w.heap.size) (ownsR_nil w1 w.heap.size) rfl _ rfl
    clear qz hB 
    go_wp2_with fail
    generalize (((w1.setCell ⟨w.heap.size + 1, 0, none⟩ (.slice none 0 0)).setCell ⟨w.heap.size + 1, 1, none⟩ (.slice none 0 0)).setCell ⟨w.heap.size + 1, 2, none⟩ (.int .i64 0)).setCell ⟨w.heap.size + 1, 3, none⟩ (.int .i64 1) = Z at *
    obtain ⟨k1, k2, k3, k4⟩ := HE.out
    clear HE f0 f1 f2 f3 z0 z1 z2 z3
    have e0 : Z.cell? ⟨w.heap.size + 1, 0, none⟩ = some (.slice none 0 0) := k1.cell 0
    have e1 : Z.cell? ⟨w.heap.size + 1, 1, none⟩ = some (.slice none 0 0) := k1.cell 1
    have e2 : Z.cell? ⟨w.heap.size + 1, 2, none⟩ = some (.int .i64 0) := k1.cell 2
    have e3 : Z.cell? ⟨w.heap.size + 1, 3, none⟩ = some (.int .i64 1) := k1.cell 3
    exact bodyPost_ret (v := .agg #[.slice none 0 0, .slice none 0 0, .int .i64 0, .int .i64 1]) (by simp [results, Tryz.results131, go_sem, e0, e1, e2, e3]) rfl ⟨by rw [hR]; exact outI_no _ _ _, k2⟩
  · simp only [if_true] at hR
    have y0 : w1.cell? ⟨w.heap.size, 0, none⟩ = some (.slice x is.length c1) := q0.cell 0
    have y1 : w1.cell? ⟨w.heap.size, 1, none⟩ = some (.slice y rs.length c2) := q0.cell 1
    have y2 : w1.cell? ⟨w.heap.size, 2, none⟩ = some (.int .i64 now) := q0.cell 2
    have L1 := qz.lt
    have L1s := hB.size
    go_wp2_with fail
    refine (HA.out _ (HX.out.1.below hB) (HX.out.2.below hB)).mono ?_
    rintro e w2 ⟨g, rfl, hat, hb2⟩
    have qz := qz.below hb2 qz.lt
    have hB := hB.trans (hb2.mono hB.size)
    have hb2s := hb2.size
    clear hb2 HA HX y0 y1 y2 q0
    generalize w1.heap.size = B at *
    go_wp2_with fail
    refine (HL.out _ _ _ hat).mono ?_
    rintro e w3 ⟨rfl, hb3⟩
    have hat := atW_below hat hb3
    have qz := qz.below hb3 qz.lt
    have hB := hB.trans (hb3.mono hB.size)
    clear hb3 HL
    have hc := HC.out
    clear HC
    cases hia : ifAt is i with
    | none =>
      rw [hia] at hc hR
      simp only at hc hR
      subst hc
      clear hia HRs HT
      go_wp2_with fail
      refine (HTe.out _ _ 6 _ (by decide) hat).mono ?_
      rintro e w4 ⟨⟨p, d1, q, d2, rfl, oi, orr⟩, hb4⟩
      have qz := qz.below hb4 qz.lt
      have hB := hB.trans (hb4.mono hB.size)
      clear hb4 HTe hat
      simp only [List.length_nil] at oi orr ⊢
      have f0 : w4.frozen? ⟨w.heap.size + 1, 0, none⟩ = false := qz.frozen 0
      have f1 : w4.frozen? ⟨w.heap.size + 1, 1, none⟩ = false := qz.frozen 1
      have f2 : w4.frozen? ⟨w.heap.size + 1, 2, none⟩ = false := qz.frozen 2
      have f3 : w4.frozen? ⟨w.heap.size + 1, 3, none⟩ = false := qz.frozen 3
      have z0 : w4.cell? ⟨w.heap.size + 1, 0, none⟩ = some (.slice none 0 0) := qz.cell 0
      have z1 : w4.cell? ⟨w.heap.size + 1, 1, none⟩ = some (.slice none 0 0) := qz.cell 1
      have z2 : w4.cell? ⟨w.heap.size + 1, 2, none⟩ = some (.int .i64 0) := qz.cell 2
      have z3 : w4.cell? ⟨w.heap.size + 1, 3, none⟩ = some (.int .i64 0) := qz.cell 3
      have HE : Hid _ := out4 (p := p) (q := q) (now := 0) (cc := 6) qz rfl (show w.heap.size ≤ w.heap.size + 1 by omega) hB oi orr rfl _ rfl
      clear qz hB oi orr
      go_wp2_with fail
      generalize (((w4.setCell ⟨w.heap.size + 1, 0, none⟩ (.slice p 0 d1)).setCell ⟨w.heap.size + 1, 1, none⟩ (.slice q 0 d2)).setCell ⟨w.heap.size + 1, 2, none⟩ (.int .i64 0)).setCell ⟨w.heap.size + 1, 3, none⟩ (.int .i64 6) = Z at *
      obtain ⟨k1, k2, k3, k4⟩ := HE.out
      clear HE f0 f1 f2 f3 z0 z1 z2 z3
      have e0 : Z.cell? ⟨w.heap.size + 1, 0, none⟩ = some (.slice p 0 d1) := k1.cell 0
      have e1 : Z.cell? ⟨w.heap.size + 1, 1, none⟩ = some (.slice q 0 d2) := k1.cell 1
      have e2 : Z.cell? ⟨w.heap.size + 1, 2, none⟩ = some (.int .i64 0) := k1.cell 2
      have e3 : Z.cell? ⟨w.heap.size + 1, 3, none⟩ = some (.int .i64 6) := k1.cell 3
      exact bodyPost_ret (v := .agg #[.slice p 0 d1, .slice q 0 d2, .int .i64 0, .int .i64 6]) (by simp [results, Tryz.results131, go_sem, e0, e1, e2, e3]) rfl ⟨by rw [hR]; exact ⟨p, d1, q, d2, rfl, ownsI_mono k3 (by omega), ownsR_mono k4 (by omega)⟩, k2⟩
    | some f =>
      rw [hia] at hc hR
      simp only at hc hR
      by_cases hu : f.u = false
      · rw [if_pos hu] at hc hR
        subst hc
        obtain ⟨k, rfl, hk, he⟩ := ifAt_some hia
        simp only [Int.toNat_natCast] at hR
        have HRk : Hid (∀ base g w, AtW base is rs now g w → Calls Tryz.prog 61 #[.pointer (some ⟨g, 0, none⟩), .int .i64 k] w fun e w' => e = .returned (.int .i64 (ownO rs f.a f.l k).1) ∧ AtW base (setU is k true) (if (ownO rs f.a f.l k).1 = 0 then (ownO rs f.a f.l k).2 else rs) now g w' ∧ Below base w w') := fun base g w h => by
          have := HRs.out base g k w hk h
          rw [he] at this
          exact this
        clear hia hu HTe HRs he
        generalize setU is k true = is2 at *
        generalize ownO rs f.a f.l k = RO at *
        go_wp2_with fail
        refine (HRk.out _ _ _ hat).mono ?_
        rintro e w5 ⟨rfl, hat, hb5⟩
        have qz := qz.below hb5 L1
        have hB := hB.trans (hb5.mono (by omega))
        clear hb5 HRk
        have HT2 : Hid (Calls Tryz.prog 62 #[.pointer (some ⟨g, 0, none⟩), .int .i64 RO.1] w5 fun e w' => OutI B (outW RO.1 is2 RO.2 now) e w' ∧ Below w5.heap.size w5 w') := HT.out _ is2 RO _ _ hat
        clear HT hat
        generalize outW RO.1 is2 RO.2 now = R4 at *
        obtain ⟨cc, is4, rs4, now4⟩ := R4
        go_wp2_with fail
        refine (HT2.out).mono ?_
        rintro e w4 ⟨⟨p, d1, q, d2, rfl, oi, orr⟩, hb4⟩
        have qz := qz.below hb4 qz.lt
        have hB := hB.trans (hb4.mono hB.size)
        clear hb4 HT2
        simp only at oi orr ⊢
        have f0 : w4.frozen? ⟨w.heap.size + 1, 0, none⟩ = false := qz.frozen 0
        have f1 : w4.frozen? ⟨w.heap.size + 1, 1, none⟩ = false := qz.frozen 1
        have f2 : w4.frozen? ⟨w.heap.size + 1, 2, none⟩ = false := qz.frozen 2
        have f3 : w4.frozen? ⟨w.heap.size + 1, 3, none⟩ = false := qz.frozen 3
        have z0 : w4.cell? ⟨w.heap.size + 1, 0, none⟩ = some (.slice none 0 0) := qz.cell 0
        have z1 : w4.cell? ⟨w.heap.size + 1, 1, none⟩ = some (.slice none 0 0) := qz.cell 1
        have z2 : w4.cell? ⟨w.heap.size + 1, 2, none⟩ = some (.int .i64 0) := qz.cell 2
        have z3 : w4.cell? ⟨w.heap.size + 1, 3, none⟩ = some (.int .i64 0) := qz.cell 3
        have HE : Hid _ := out4 (p := p) (q := q) (now := now4) (cc := cc) qz rfl (show w.heap.size ≤ w.heap.size + 1 by omega) hB oi orr rfl _ rfl
        clear qz hB oi orr
        go_wp2_with fail
        generalize (((w4.setCell ⟨w.heap.size + 1, 0, none⟩ (.slice p is4.length d1)).setCell ⟨w.heap.size + 1, 1, none⟩ (.slice q rs4.length d2)).setCell ⟨w.heap.size + 1, 2, none⟩ (.int .i64 now4)).setCell ⟨w.heap.size + 1, 3, none⟩ (.int .i64 cc) = Z at *
        obtain ⟨k1, k2, k3, k4⟩ := HE.out
        clear HE f0 f1 f2 f3 z0 z1 z2 z3
        have e0 : Z.cell? ⟨w.heap.size + 1, 0, none⟩ = some (.slice p is4.length d1) := k1.cell 0
        have e1 : Z.cell? ⟨w.heap.size + 1, 1, none⟩ = some (.slice q rs4.length d2) := k1.cell 1
        have e2 : Z.cell? ⟨w.heap.size + 1, 2, none⟩ = some (.int .i64 now4) := k1.cell 2
        have e3 : Z.cell? ⟨w.heap.size + 1, 3, none⟩ = some (.int .i64 cc) := k1.cell 3
        exact bodyPost_ret (v := .agg #[.slice p is4.length d1, .slice q rs4.length d2, .int .i64 now4, .int .i64 cc]) (by simp [results, Tryz.results131, go_sem, e0, e1, e2, e3]) rfl ⟨by rw [hR]; exact ⟨p, d1, q, d2, rfl, ownsI_mono k3 (by omega), ownsR_mono k4 (by omega)⟩, k2⟩
      · rw [if_neg hu] at hc hR
        subst hc
        clear hia hu HRs HT
        go_wp2_with fail
        refine (HTe.out _ _ 10 _ (by decide) hat).mono ?_
        rintro e w4 ⟨⟨p, d1, q, d2, rfl, oi, orr⟩, hb4⟩
        have qz := qz.below hb4 qz.lt
        have hB := hB.trans (hb4.mono hB.size)
        clear hb4 HTe hat
        simp only [List.length_nil] at oi orr ⊢
        have f0 : w4.frozen? ⟨w.heap.size + 1, 0, none⟩ = false := qz.frozen 0
        have f1 : w4.frozen? ⟨w.heap.size + 1, 1, none⟩ = false := qz.frozen 1
        have f2 : w4.frozen? ⟨w.heap.size + 1, 2, none⟩ = false := qz.frozen 2
        have f3 : w4.frozen? ⟨w.heap.size + 1, 3, none⟩ = false := qz.frozen 3
        have z0 : w4.cell? ⟨w.heap.size + 1, 0, none⟩ = some (.slice none 0 0) := qz.cell 0
        have z1 : w4.cell? ⟨w.heap.size + 1, 1, none⟩ = some (.slice none 0 0) := qz.cell 1
        have z2 : w4.cell? ⟨w.heap.size + 1, 2, none⟩ = some (.int .i64 0) := qz.cell 2
        have z3 : w4.cell? ⟨w.heap.size + 1, 3, none⟩ = some (.int .i64 0) := qz.cell 3
        have HE : Hid _ := out4 (p := p) (q := q) (now := 0) (cc := 10) qz rfl (show w.heap.size ≤ w.heap.size + 1 by omega) hB oi orr rfl _ rfl
        clear qz hB oi orr
        go_wp2_with fail
        generalize (((w4.setCell ⟨w.heap.size + 1, 0, none⟩ (.slice p 0 d1)).setCell ⟨w.heap.size + 1, 1, none⟩ (.slice q 0 d2)).setCell ⟨w.heap.size + 1, 2, none⟩ (.int .i64 0)).setCell ⟨w.heap.size + 1, 3, none⟩ (.int .i64 10) = Z at *
        obtain ⟨k1, k2, k3, k4⟩ := HE.out
        clear HE f0 f1 f2 f3 z0 z1 z2 z3
        have e0 : Z.cell? ⟨w.heap.size + 1, 0, none⟩ = some (.slice p 0 d1) := k1.cell 0
        have e1 : Z.cell? ⟨w.heap.size + 1, 1, none⟩ = some (.slice q 0 d2) := k1.cell 1
        have e2 : Z.cell? ⟨w.heap.size + 1, 2, none⟩ = some (.int .i64 0) := k1.cell 2
        have e3 : Z.cell? ⟨w.heap.size + 1, 3, none⟩ = some (.int .i64 10) := k1.cell 3
        exact bodyPost_ret (v := .agg #[.slice p 0 d1, .slice q 0 d2, .int .i64 0, .int .i64 10]) (by simp [results, Tryz.results131, go_sem, e0, e1, e2, e3]) rfl ⟨by rw [hR]; exact ⟨p, d1, q, d2, rfl, ownsI_mono k3 (by omega), ownsR_mono k4 (by omega)⟩, k2⟩
end Go.Proofs.YtcnadobnihbldaaGreat
/- A mesh at work: what lies where; a router turned. (Written by gen_mwork.py.) -/
namespace Go.Proofs.YtcnadobnihbldaaGreat
open Go.RowKit Go.Sort

def ptrV (h : Nat) : Value := .pointer (some ⟨h, 0, none⟩)
/-- Routers at work: each in a block of its own, with lists of its own. -/
def RtrsW (w : World) (base : Nat) (hs : List Nat) (qs : List IvP) : Prop := hs.length = qs.length ∧ hs.Nodup ∧ ApQ qs ∧ ∀ j (h1 : j < hs.length) (h2 : j < qs.length), base ≤ hs[j] ∧ Row w hs[j] 131 (ivL qs[j].1 qs[j].2) ∧ OwnIv w base qs[j].1 qs[j].2
theorem RtrsW.below {w w' : World} {base : Nat} {hs : List Nat} {qs : List IvP} (h : RtrsW w base hs qs) (hb : Below w.heap.size w w') : RtrsW w' base hs qs :=
  ⟨h.1, h.2.1, h.2.2.1, fun j h1 h2 => ⟨(h.2.2.2 j h1 h2).1, (h.2.2.2 j h1 h2).2.1.below hb (h.2.2.2 j h1 h2).2.1.lt, (h.2.2.2 j h1 h2).2.2.below hb⟩⟩
/-- A mesh at work. -/
def MwkAt (w : World) (base g : Nat) (hs : List Nat) (qs : List IvP) (ls : List Li) : Prop := ∃ pr cr q d, base ≤ g ∧ Row w g 128 [.slice pr hs.length cr, .slice q ls.length d] ∧ w.ownsRow base 129 1 (.slice pr hs.length cr) hs.length (hs.map ptrV) ∧ w.ownsRow base 56 4 (.slice q ls.length d) ls.length (rowLi ls) ∧ RtrsW w base hs qs
theorem MwkAt.below {w w' : World} {base g : Nat} {hs : List Nat} {qs : List IvP} {ls : List Li} (h : MwkAt w base g hs qs ls) (hb : Below w.heap.size w w') : MwkAt w' base g hs qs ls := by
  obtain ⟨pr, cr, q, d, h1, h2, h3, h4, h5⟩ := h
  exact ⟨pr, cr, q, d, h1, h2.below hb h2.lt, owns_below h3 hb, owns_below h4 hb, h5.below hb⟩
/-- The cells of an owned list. -/
theorem owns_cell {w : World} {base sz n cv : Nat} {ty : TypeId} {p : Option Addr} {xs : List Value} (h : w.ownsRow base ty sz (.slice p n cv) n xs) (hn : 0 < n) : ∃ g, p = some ⟨g, 0, none⟩ ∧ base ≤ g ∧ g < w.heap.size ∧ n ≤ cv ∧ ∀ j u, xs[j]? = some u → w.cell? ⟨g, j, none⟩ = some u := by
  rcases owns_opened h with h0 | ⟨g, rest, rfl, hb, h1, h2, hr, hl⟩
  · omega
  · exact ⟨g, rfl, hb, hr.lt, h1, fun j u hj => by rw [hr.cell, List.getElem?_append_left (List.getElem?_eq_some_iff.1 hj).1]; exact hj⟩
/-- An owned list has the room it needs. -/
theorem owns_room {w : World} {base sz n cv : Nat} {ty : TypeId} {p : Option Addr} {xs : List Value} (h : w.ownsRow base ty sz (.slice p n cv) n xs) : n ≤ cv ∧ (p = none → cv = 0) := by
  rcases h.2 with ⟨h1, _⟩ | ⟨g, cap, cur, h1, _, _, h4, _⟩
  · simp only [Value.slice.injEq] at h1
    obtain ⟨_, h2, h3⟩ := h1
    exact ⟨by omega, fun _ => h3⟩
  · simp only [Value.slice.injEq] at h1
    obtain ⟨rfl, _, rfl⟩ := h1
    exact ⟨h4, fun e => by cases e⟩
/-- What a turn answers, and what it makes of a router. -/
def turnO (t : Iv) (i : Int) (up : Bool) : Int × (List If × (List Rt × Int)) := if up = true then upO t.is t.rs t.now i else downO t.is t.rs t.now i
def turnT (t : Iv) (i : Int) (up : Bool) : Iv := if (turnO t i up).1 = 0 then ⟨(turnO t i up).2.1, (turnO t i up).2.2.1, (turnO t i up).2.2.2⟩ else t
set_option maxRecDepth 100000 in
set_option maxHeartbeats 4000000 in
theorem turnR_any (hh base : Nat) (a : Ip) (t : Iv) (i : Int) (up : Bool) (w : World) (hr : Row w hh 131 (ivL a t)) (hO : OwnIv w base a t) (hbs : base ≤ w.heap.size) (hn1 : t.is.length ≤ 100000000) (hn2 : t.rs.length ≤ 100000000) :
    Calls Tryz.prog 90 #[.pointer (some ⟨hh, 0, none⟩), .int .i64 i, .bool up] w fun e w' => (∃ v, e = .returned v) ∧ (∃ a', Row w' hh 131 (ivL a' (turnT t i up)) ∧ OwnIv w' base a' (turnT t i up) ∧ (a' = a ∨ ∀ b, a'.x = some ⟨b, 0, none⟩ ∨ a'.y = some ⟨b, 0, none⟩ → w.heap.size ≤ b)) ∧ Below hh w w' ∧ ∀ b t l, b ≠ hh → Row w b t l → Row w' b t l := by
  have hlt := hr.lt
  have hI := hO.inIv
  have r1 := owns_room hO.1
  have r2 := owns_room hO.2
  have HD : Hid (Calls Tryz.prog (if up = true then 131 else 132) #[.agg #[.slice a.x t.is.length a.c1, .slice a.y t.rs.length a.c2, .int .i64 t.now], .int .i64 i] w fun e w' => OutI w.heap.size (turnO t i up) e w' ∧ Below w.heap.size w w') := by
    unfold turnO
    cases up
    · exact implDown_any a.x a.c1 a.y a.c2 t.is t.rs t.now i w hI.1 r1.1 r1.2 hI.2 r2.2 hn1 hn2
    · exact implUp_any a.x a.c1 a.y a.c2 t.is t.rs t.now i w hI.1 r1.1 r1.2 hI.2 r2.2 hn1 hn2
  have HT : Hid (∀ x n1 c1 y n2 c2 now cc w, Row w hh 131 [.slice a.x t.is.length a.c1, .slice a.y t.rs.length a.c2, .int .i64 t.now] → Calls Tryz.prog 80 #[.pointer (some ⟨hh, 0, none⟩), .agg #[.slice x n1 c1, .slice y n2 c2, .int .i64 now, .int .i64 cc]] w fun e w' => (∃ v, e = .returned v) ∧ Row w' hh 131 (if cc = 0 then [.slice x n1 c1, .slice y n2 c2, .int .i64 now] else [.slice a.x t.is.length a.c1, .slice a.y t.rs.length a.c2, .int .i64 t.now]) ∧ Below hh w w' ∧ ∀ b t l, b ≠ hh → Row w b t l → Row w' b t l) := fun x n1 c1 y n2 c2 now cc w h => takeR_any hh a.x t.is.length a.c1 a.y t.rs.length a.c2 t.now x n1 c1 y n2 c2 now cc w h
  have HX : Hid (Row w hh 131 [.slice a.x t.is.length a.c1, .slice a.y t.rs.length a.c2, .int .i64 t.now] ∧ OwnIv w base a t) := ⟨hr, hO⟩
  have y0 : w.cell? ⟨hh, 0, none⟩ = some (.slice a.x t.is.length a.c1) := hr.cell 0
  have y1 : w.cell? ⟨hh, 1, none⟩ = some (.slice a.y t.rs.length a.c2) := hr.cell 1
  have y2 : w.cell? ⟨hh, 2, none⟩ = some (.int .i64 t.now) := hr.cell 2
  have HF : Hid (∀ p c1 q c2 w1 w2, Below w.heap.size w w1 → w1.ownsRow w.heap.size 53 5 (.slice p (turnO t i up).2.1.length c1) (turnO t i up).2.1.length (rowI (turnO t i up).2.1) → w1.ownsRow w.heap.size 155 9 (.slice q (turnO t i up).2.2.1.length c2) (turnO t i up).2.2.1.length (rowR (turnO t i up).2.2.1) → Row w2 hh 131 (if (turnO t i up).1 = 0 then [.slice p (turnO t i up).2.1.length c1, .slice q (turnO t i up).2.2.1.length c2, .int .i64 (turnO t i up).2.2.2] else [.slice a.x t.is.length a.c1, .slice a.y t.rs.length a.c2, .int .i64 t.now]) → Below hh w1 w2 → (∀ b t l, b ≠ hh → Row w1 b t l → Row w2 b t l) →
      (∃ a', Row w2 hh 131 (ivL a' (turnT t i up)) ∧ OwnIv w2 base a' (turnT t i up) ∧ (a' = a ∨ ∀ b, a'.x = some ⟨b, 0, none⟩ ∨ a'.y = some ⟨b, 0, none⟩ → w.heap.size ≤ b)) ∧ Below hh w w2 ∧ ∀ b t l, b ≠ hh → Row w b t l → Row w2 b t l) := fun p c1 q c2 w1 w2 hb o1 o2 hrw hb2 hk => by
    refine ⟨?_, (hb.mono (Nat.le_of_lt hlt)).trans hb2, fun b t l hne h => hk b t l hne (h.below hb h.lt)⟩
    unfold turnT
    have hr1 := hr.below hb hr.lt
    by_cases hc : (turnO t i up).1 = 0
    · rw [if_pos hc] at hrw ⊢
      have g1 := owns_ge o1
      have g2 := owns_ge o2
      refine ⟨⟨p, c1, q, c2⟩, hrw, ⟨?_, ?_⟩, .inr fun b hb => by rcases hb with e | e; exact g1 b e; exact g2 b e⟩
      · exact owns_mono (owns_kept o1 (fun b t l e h => hk b t l (fun e2 => by have := g1 b e; omega) h)) hbs
      · exact owns_mono (owns_kept o2 (fun b t l e h => hk b t l (fun e2 => by have := g2 b e; omega) h)) hbs
    · rw [if_neg hc] at hrw ⊢
      refine ⟨a, hrw, ?_, .inl rfl⟩
      refine (hO.below hb).kept (fun b t l e h => hk b t l (fun e2 => ?_) h)
      subst e2
      rcases e with e | e
      · exact owns_ne (hO.below hb).1 hr1 (by decide) e
      · exact owns_ne (hO.below hb).2 hr1 (by decide) e
  unfold OutI at HD
  clear hr hO hbs hn1 hn2 hI r1 r2
  generalize turnO t i up = R at *
  obtain ⟨rc, ris, rrs, rnow⟩ := R
  simp only at HD HF
  generalize turnT t i up = T' at *
  cases up
  · simp only [Bool.false_eq_true, if_false] at HD
    go_enter Tryz.func90, Tryz.ntmps90
    go_wp2_with fail
    refine (HD.out).mono ?_
    rintro e w1 ⟨⟨p, c1, q, c2, rfl, o1, o2⟩, hb1⟩
    have hr1 := HX.out.1.below hb1 HX.out.1.lt
    clear y0 y1 y2 HX
    go_wp2_with fail
    refine (HT.out _ _ _ _ _ _ _ _ _ hr1).mono ?_
    rintro e w2 ⟨⟨v, rfl⟩, hrw, hb2, hk⟩
    have hE := HF.out _ _ _ _ _ _ hb1 o1 o2 hrw hb2 hk
    clear HF HT HD hrw hb2 hk hb1 o1 o2 hr1
    go_wp2_with fail
    go_end0
    exact ⟨⟨_, rfl⟩, hE⟩
  · simp only [if_true] at HD
    go_enter Tryz.func90, Tryz.ntmps90
    go_wp2_with fail
    refine (HD.out).mono ?_
    rintro e w1 ⟨⟨p, c1, q, c2, rfl, o1, o2⟩, hb1⟩
    have hr1 := HX.out.1.below hb1 HX.out.1.lt
    clear y0 y1 y2 HX
    go_wp2_with fail
    refine (HT.out _ _ _ _ _ _ _ _ _ hr1).mono ?_
    rintro e w2 ⟨⟨v, rfl⟩, hrw, hb2, hk⟩
    have hE := HF.out _ _ _ _ _ _ hb1 o1 o2 hrw hb2 hk
    clear HF HT HD hrw hb2 hk hb1 o1 o2 hr1
    go_wp2_with fail
    go_end0
    exact ⟨⟨_, rfl⟩, hE⟩
end Go.Proofs.YtcnadobnihbldaaGreat
