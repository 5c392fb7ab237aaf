/- The walk of the law on InstNew. (Written by gen_wnew.py.) -/
import Derived.Test.YtflmbkjnlgibnaaPack26
import Derived.Test.YtflmbkjnlgibnaaPack27
import Derived.Test.YtflmbkjnlgibnaaPack15
namespace Go.Proofs.Ytflmbkjnlgibnaa
open Go.RowKit Go.Sort

theorem lt_neA {p : Option Addr} {b g n : Nat} (h : ∀ b, p = some ⟨b, 0, none⟩ → b < n) (hg : n ≤ g) (e : p = some ⟨b, 0, none⟩) : (some ⟨g, 0, none⟩ : Option Addr) ≠ some ⟨b, 0, none⟩ := fun e' => by
  have := h b e
  simp only [Option.some.injEq, Addr.mk.injEq, and_true] at e'
  omega
theorem base_neI {w : World} {base n cv g b : Nat} {p : Option Addr} {xs : List Value} (h : w.ownsRow base 82 5 (.slice p n cv) n xs) (hg : g < base) (e : p = some ⟨b, 0, none⟩) : (some ⟨g, 0, none⟩ : Option Addr) ≠ some ⟨b, 0, none⟩ := fun e' => ownsI_base h hg (by rw [e, ← e'])
theorem base_neR {w : World} {base n cv g b : Nat} {p : Option Addr} {xs : List Value} (h : w.ownsRow base 101 9 (.slice p n cv) n xs) (hg : g < base) (e : p = some ⟨b, 0, none⟩) : (some ⟨g, 0, none⟩ : Option Addr) ≠ some ⟨b, 0, none⟩ := fun e' => ownsR_base h hg (by rw [e, ← e'])
theorem ltR_of {w : World} {base n cv : Nat} {p : Option Addr} {xs : List Value} (h : w.ownsRow base 101 9 (.slice p n cv) n xs) : ∀ b, p = some ⟨b, 0, none⟩ → b < w.heap.size := fun b e => by
  subst e
  exact (World.ownsRow.lt h b rfl).2
theorem lt_baseI {w : World} {base n cv b : Nat} {p q : Option Addr} {xs : List Value} (h : w.ownsRow base 82 5 (.slice q n cv) n xs) (hl : ∀ b, p = some ⟨b, 0, none⟩ → b < base) (e : p = some ⟨b, 0, none⟩) : q ≠ some ⟨b, 0, none⟩ := ownsI_base h (hl b e)
theorem lt_baseR {w : World} {base n cv b : Nat} {p q : Option Addr} {xs : List Value} (h : w.ownsRow base 101 9 (.slice q n cv) n xs) (hl : ∀ b, p = some ⟨b, 0, none⟩ → b < base) (e : p = some ⟨b, 0, none⟩) : q ≠ some ⟨b, 0, none⟩ := ownsR_base h (hl b e)
theorem outI_le {r : Int × (List If × (List Rt × Int))} (h : r.2.1.length ≤ 10000000 ∧ r.2.2.1.length ≤ 100000000) : r.2.1.length ≤ 10000000 ∧ r.2.2.1.length ≤ 100000000 := h
set_option maxRecDepth 100000 in
set_option maxHeartbeats 8000000 in
theorem fnExactInstNew_walk (x : Option Addr) (n1 c1 : Nat) (is : List If) (w : World) (h1 : ArgI w x n1 is) :
    Calls Try.prog 4 #[.slice x n1 c1] w fun r w' => r = .returned (.bool true) ∧ Below w.heap.size w w' := by
  obtain rfl : is.length = n1 := h1.1
  have HZ : Hid (∀ w, Calls Try.prog 14 #[.slice x is.length c1, .int .i64 1048576] w fun e w' => e = .returned (.int .i64 (if is.length ≤ 1048576 then 1048576 - (is.length : Int) else -1)) ∧ w = w') := fun w => szIfaceS_any x is.length c1 w h1.2.1
  have HT0 : Hid (is.length ≤ 1048576 → ∀ w, ArgI w x is.length is → Calls Try.prog 16 #[.slice x is.length c1] w fun e w' => ∃ g, e = .returned (.slice (some ⟨g, 0, none⟩) is.length is.length) ∧ w.heap.size ≤ g ∧ Row w' g 82 (rowI is) ∧ Below w.heap.size w w') := fun a w p => toIfaceS_any x c1 is w p a
  have HS0 : Hid (is.length ≤ 1048576 → ∀ g w, Row w g 82 (rowI is) → Calls Try.prog 15 #[.slice (some ⟨g, 0, none⟩) is.length is.length] w fun e w' => OutI w.heap.size (newO is) e w' ∧ Below w.heap.size w w') := fun a g w p => specNew_any (some ⟨g, 0, none⟩) is.length is w (ifsIn_row p) (fun e => by cases e) (by omega)
  have HI0 : Hid (is.length ≤ 1048576 → ∀ g w, Row w g 82 (rowI is) → Calls Try.prog 17 #[.slice (some ⟨g, 0, none⟩) is.length is.length] w fun e w' => OutI w.heap.size (newO is) e w' ∧ Below w.heap.size w w') := fun a g w p => implNew_any (some ⟨g, 0, none⟩) is.length is w (ifsIn_row p) (Nat.le_refl _) (fun e => by cases e) (by omega)
  have HE0 : Hid (is.length ≤ 1048576 → ∀ p q w, IfsIn w p is → IfsIn w q is → Calls Try.prog 19 #[.slice p is.length is.length, .slice q is.length is.length] w fun e w' => e = .returned (.bool true) ∧ Below w.heap.size w w') := fun a p q w k1 k2 => eqIfaceS_any p q _ _ is w k1 k2 (by omega)
  have HL0 : Hid (is.length ≤ 1048576 → (newO is).2.1.length ≤ 10000000 ∧ (newO is).2.2.1.length ≤ 100000000) := newO_len is
  have HX : Hid (ArgI w x is.length is) := h1
  clear h1
  generalize newO is = RES at *
  obtain ⟨cc, isq, rsq, nw⟩ := RES
  unfold OutI at HS0 HI0
  simp only at HS0 HI0 HL0
  generalize hM1 : isq.length = M1 at *
  have HM1 : Hid (M1 = isq.length) := hM1.symm
  generalize hM2 : rsq.length = M2 at *
  have HM2 : Hid (M2 = rsq.length) := hM2.symm
  generalize hN1 : is.length = n1 at *
  have HN1 : Hid (n1 = is.length) := hN1.symm
  clear hM1 hM2 hN1
  go_enter Try.func4, Try.ntmps4
  go_wp2_with fail
  refine (HZ.out _).mono ?_
  rintro e_ w1 ⟨rfl, rfl⟩
  clear HZ
  have hB := Below.refl w.heap.size w
  by_cases hn1 : n1 ≤ 1048576
  · rw [if_pos hn1]
    have d : decide (1048576 - (n1 : Int) < 0) = false := by simp; omega
    have HT : Hid _ := HT0.out hn1
    have HS : Hid _ := HS0.out hn1
    have HI : Hid _ := HI0.out hn1
    have HE : Hid _ := HE0.out hn1
    have HL : Hid _ := HL0.out hn1
    clear HT0 HS0 HI0 HE0 HL0
    go_wp2_with fail
    refine (HT.out _ (HX.out.below hB)).mono ?_
    rintro e_ w2 ⟨g2, rfl, -, ri, hb2⟩
    have hB := hB.trans (hb2.mono hB.size)
    clear hb2
    go_wp2_with fail
    refine (HS.out g2 _ ri).mono ?_
    rintro e_ w3 ⟨⟨p0, d0, q0, e0, rfl, o0i, o0r⟩, hb3⟩
    have hB := hB.trans (hb3.mono hB.size)
    clear hb3 ri HS
    have HQ : Hid (∀ p d q e w, IfsIn w p isq → RtsIn w q rsq → IfsIn w p0 isq → RtsIn w q0 rsq → Calls Try.prog 18 #[.agg #[.slice p M1 d, .slice q M2 e, .int .i64 nw, .int .i64 cc], .agg #[.slice p0 M1 d0, .slice q0 M2 e0, .int .i64 nw, .int .i64 cc]] w fun r w' => r = .returned (.bool true) ∧ Below w.heap.size w w') := fun p d q e w h1 h2 h3 h4 => eqInstOut_any cc p p0 M1 d d0 q q0 M2 e e0 nw isq rsq w HM1.out HM2.out (by have := HL.out.1; omega) (by have := HL.out.2; omega) h1 h3 h2 h4
    have o0i := World.ownsRow.alloc o0i (.cells #[.slice p0 M1 d0, .slice q0 M2 e0, .int .i64 nw, .int .i64 cc] 41)
    have o0r := World.ownsRow.alloc o0r (.cells #[.slice p0 M1 d0, .slice q0 M2 e0, .int .i64 nw, .int .i64 cc] 41)
    have r8 := Row.new w3 41 [.slice p0 M1 d0, .slice q0 M2 e0, .int .i64 nw, .int .i64 cc]
    have hB := hB.alloc (by have := hB.size; omega) (.cells #[.slice p0 M1 d0, .slice q0 M2 e0, .int .i64 nw, .int .i64 cc] 41)
    have HA : Hid _ := And.intro o0i (And.intro o0r (And.intro r8 (hB)))
    clear o0i o0r r8 hB
    go_wp2_with fail
    generalize hbx : w3.heap.size = b8 at *
    generalize w3.alloc (.cells #[.slice p0 M1 d0, .slice q0 M2 e0, .int .i64 nw, .int .i64 cc] 41) = Z8 at *
    clear hbx
    obtain ⟨o0i, o0r, r8, hB⟩ := HA.out
    clear HA 
    have LI5 := ownsI_lt o0i
    have LR5 := ltR_of o0r
    refine (HT.out _ (HX.out.below hB)).mono ?_
    rintro e_ w5 ⟨g5, rfl, hg5, r5i, hb5⟩
    have G5 : w.heap.size ≤ g5 := Nat.le_trans hB.size hg5
    have r8 := r8.below hb5 r8.lt
    have o0i := ownsI_below o0i hb5
    have o0r := ownsR_below o0r hb5
    have hB := hB.trans (hb5.mono hB.size)
    clear hb5
    have G57 := r5i.lt
    have LI7 := ownsI_lt o0i
    have LR7 := ltR_of o0r
    go_wp2_with fail
    refine (HI.out g5 _ r5i).mono ?_
    rintro e_ w7 ⟨⟨p1, d1, q1, e1, rfl, o1i, o1r⟩, hb7⟩
    have r8 := r8.below hb7 r8.lt
    have r5i := r5i.below hb7 r5i.lt
    have o0i := ownsI_below o0i hb7
    have o0r := ownsR_below o0r hb7
    have hB := hB.trans (hb7.mono hB.size)
    have hb7s := hb7.size
    generalize hn7 : w5.heap.size = n7 at *
    clear hb7 hn7
    have r8 := r8.alloc (.cells #[.slice p1 M1 d1, .slice q1 M2 e1, .int .i64 nw, .int .i64 cc] 41)
    have r5i := r5i.alloc (.cells #[.slice p1 M1 d1, .slice q1 M2 e1, .int .i64 nw, .int .i64 cc] 41)
    have o0i := World.ownsRow.alloc o0i (.cells #[.slice p1 M1 d1, .slice q1 M2 e1, .int .i64 nw, .int .i64 cc] 41)
    have o0r := World.ownsRow.alloc o0r (.cells #[.slice p1 M1 d1, .slice q1 M2 e1, .int .i64 nw, .int .i64 cc] 41)
    have o1i := World.ownsRow.alloc o1i (.cells #[.slice p1 M1 d1, .slice q1 M2 e1, .int .i64 nw, .int .i64 cc] 41)
    have o1r := World.ownsRow.alloc o1r (.cells #[.slice p1 M1 d1, .slice q1 M2 e1, .int .i64 nw, .int .i64 cc] 41)
    have r10 := Row.new w7 41 [.slice p1 M1 d1, .slice q1 M2 e1, .int .i64 nw, .int .i64 cc]
    have hB := hB.alloc (by have := hB.size; omega) (.cells #[.slice p1 M1 d1, .slice q1 M2 e1, .int .i64 nw, .int .i64 cc] 41)
    have s0 : (w7.alloc (.cells #[.slice p1 M1 d1, .slice q1 M2 e1, .int .i64 nw, .int .i64 cc] 41)).cell? ⟨w7.heap.size, 0, none⟩ = some (.slice p1 M1 d1) := r10.cell 0
    have s1 : (w7.alloc (.cells #[.slice p1 M1 d1, .slice q1 M2 e1, .int .i64 nw, .int .i64 cc] 41)).cell? ⟨w7.heap.size, 1, none⟩ = some (.slice q1 M2 e1) := r10.cell 1
    have s2 : (w7.alloc (.cells #[.slice p1 M1 d1, .slice q1 M2 e1, .int .i64 nw, .int .i64 cc] 41)).cell? ⟨w7.heap.size, 2, none⟩ = some (.int .i64 nw) := r10.cell 2
    have s3 : (w7.alloc (.cells #[.slice p1 M1 d1, .slice q1 M2 e1, .int .i64 nw, .int .i64 cc] 41)).cell? ⟨w7.heap.size, 3, none⟩ = some (.int .i64 cc) := r10.cell 3
    have t0 : (w7.alloc (.cells #[.slice p1 M1 d1, .slice q1 M2 e1, .int .i64 nw, .int .i64 cc] 41)).cell? ⟨b8, 0, none⟩ = some (.slice p0 M1 d0) := r8.cell 0
    have t1 : (w7.alloc (.cells #[.slice p1 M1 d1, .slice q1 M2 e1, .int .i64 nw, .int .i64 cc] 41)).cell? ⟨b8, 1, none⟩ = some (.slice q0 M2 e0) := r8.cell 1
    have t2 : (w7.alloc (.cells #[.slice p1 M1 d1, .slice q1 M2 e1, .int .i64 nw, .int .i64 cc] 41)).cell? ⟨b8, 2, none⟩ = some (.int .i64 nw) := r8.cell 2
    have t3 : (w7.alloc (.cells #[.slice p1 M1 d1, .slice q1 M2 e1, .int .i64 nw, .int .i64 cc] 41)).cell? ⟨b8, 3, none⟩ = some (.int .i64 cc) := r8.cell 3
    have HA : Hid _ := And.intro r8 (And.intro r5i (And.intro o0i (And.intro o0r (And.intro o1i (And.intro o1r (And.intro r10 (hB)))))))
    clear r8 r5i o0i o0r o1i o1r r10 hB
    go_wp2_with fail
    generalize hbx : w7.heap.size = b10 at *
    generalize w7.alloc (.cells #[.slice p1 M1 d1, .slice q1 M2 e1, .int .i64 nw, .int .i64 cc] 41) = Z10 at *
    clear hbx
    obtain ⟨r8, r5i, o0i, o0r, o1i, o1r, r10, hB⟩ := HA.out
    clear HA s0 s1 s2 s3 t0 t1 t2 t3
    refine (HQ.out p1 d1 q1 e1 Z10 (ownsI_in HM1.out o1i) (ownsR_in HM2.out o1r) (ownsI_in HM1.out o0i) (ownsR_in HM2.out o0r)).mono ?_
    rintro e_ w10 ⟨rfl, hbe⟩
    have r8 := r8.below hbe r8.lt
    have r5i := r5i.below hbe r5i.lt
    have r10 := r10.below hbe r10.lt
    have o0i := ownsI_below o0i hbe
    have o0r := ownsR_below o0r hbe
    have o1i := ownsI_below o1i hbe
    have o1r := ownsR_below o1r hbe
    have hB := hB.trans (hbe.mono hB.size)
    clear hbe
    go_wp2_with fail
    refine (HT.out _ (HX.out.below hB)).mono ?_
    rintro e_ wa ⟨ga, rfl, -, ra, hba⟩
    have r8 := r8.below hba r8.lt
    have r5i := r5i.below hba r5i.lt
    have r10 := r10.below hba r10.lt
    have o0i := ownsI_below o0i hba
    have o0r := ownsR_below o0r hba
    have o1i := ownsI_below o1i hba
    have o1r := ownsR_below o1r hba
    have hB := hB.trans (hba.mono hB.size)
    clear hba
    go_wp2_with fail
    refine (HE.out _ _ _ (ifsIn_row r5i) (ifsIn_row ra)).mono ?_
    rintro e_ wb ⟨rfl, hbb⟩
    have r8 := r8.below hbb r8.lt
    have r5i := r5i.below hbb r5i.lt
    have r10 := r10.below hbb r10.lt
    have o0i := ownsI_below o0i hbb
    have o0r := ownsR_below o0r hbb
    have o1i := ownsI_below o1i hbb
    have o1r := ownsR_below o1r hbb
    have hB := hB.trans (hbb.mono hB.size)
    have hBs := hB.size
    clear hbb ra HE
    go_wp2_with fail
    have o5i := ownsI_mono (base' := w.heap.size) (ownsI_row HN1.out (by omega) r5i) G5
    refine (markIfaceS_any 1 (some ⟨g5, 0, none⟩) n1 n1 w.heap.size is wb HN1.out (by omega) (by omega) o5i).mono ?_
    rintro e_ w11 ⟨rfl, -, hb11, hkp⟩
    have r8 := hkp _ _ _ (ownsI_ne o5i r8 (by decide)) r8
    have r10 := hkp _ _ _ (ownsI_ne o5i r10 (by decide)) r10
    have o0i := ownsI_kept o0i (fun b t l e hr => hkp b t l (lt_neA LI5 hg5 e) hr)
    have o0r := ownsR_kept HM2.out o0r (fun b t l e hr => hkp b t l (lt_neA LR5 hg5 e) hr)
    have o1i := ownsI_kept o1i (fun b t l e hr => hkp b t l (base_neI o1i G57 e) hr)
    have o1r := ownsR_kept HM2.out o1r (fun b t l e hr => hkp b t l (base_neR o1r G57 e) hr)
    have hB := hB.trans hb11
    clear hb11 hkp o5i r5i
    have dK : decide (((1 : Nat) : Int) + 5 * (n1 : Int) < 0) = false := by simp; omega
    have s0 : w11.cell? ⟨b10, 0, none⟩ = some (.slice p1 M1 d1) := r10.cell 0
    have s1 : w11.cell? ⟨b10, 1, none⟩ = some (.slice q1 M2 e1) := r10.cell 1
    have s2 : w11.cell? ⟨b10, 2, none⟩ = some (.int .i64 nw) := r10.cell 2
    have s3 : w11.cell? ⟨b10, 3, none⟩ = some (.int .i64 cc) := r10.cell 3
    have t0 : w11.cell? ⟨b8, 0, none⟩ = some (.slice p0 M1 d0) := r8.cell 0
    have t1 : w11.cell? ⟨b8, 1, none⟩ = some (.slice q0 M2 e0) := r8.cell 1
    have t2 : w11.cell? ⟨b8, 2, none⟩ = some (.int .i64 nw) := r8.cell 2
    have t3 : w11.cell? ⟨b8, 3, none⟩ = some (.int .i64 cc) := r8.cell 3
    go_wp2_with fail
    refine (HQ.out p1 d1 q1 e1 w11 (ownsI_in HM1.out o1i) (ownsR_in HM2.out o1r) (ownsI_in HM1.out o0i) (ownsR_in HM2.out o0r)).mono ?_
    rintro e_ w12 ⟨rfl, hbe⟩
    have r8 := r8.below hbe r8.lt
    have r10 := r10.below hbe r10.lt
    have o0i := ownsI_below o0i hbe
    have o0r := ownsR_below o0r hbe
    have o1i := ownsI_below o1i hbe
    have o1r := ownsR_below o1r hbe
    have hB := hB.trans (hbe.mono hB.size)
    clear hbe
    clear s0 s1 s2 s3 t0 t1 t2 t3 dK
    have s0 : w12.cell? ⟨b10, 0, none⟩ = some (.slice p1 M1 d1) := r10.cell 0
    have s1 : w12.cell? ⟨b10, 1, none⟩ = some (.slice q1 M2 e1) := r10.cell 1
    have s2 : w12.cell? ⟨b10, 2, none⟩ = some (.int .i64 nw) := r10.cell 2
    have s3 : w12.cell? ⟨b10, 3, none⟩ = some (.int .i64 cc) := r10.cell 3
    go_wp2_with fail
    refine (markInstOut_any 1 cc p1 M1 d1 q1 M2 e1 nw n7 isq rsq w12 HM1.out HM2.out (by omega) HL.out.1 HL.out.2 o1i o1r (by have := r10.lt; have := hB.size; omega)).mono ?_
    rintro e_ w13' ⟨rfl, o1i', o1r', hb13, hkp⟩
    have r8 := hkp _ _ _ (ownsI_ne o1i r8 (by decide)) (ownsR_ne o1r r8 (by decide)) r8
    have r10 := hkp _ _ _ (ownsI_ne o1i r10 (by decide)) (ownsR_ne o1r r10 (by decide)) r10
    have o0i := ownsI_kept o0i (fun b t l e hr => hkp b t l (lt_baseI o1i LI7 e) (lt_baseR o1r LI7 e) hr)
    have o0r := ownsR_kept HM2.out o0r (fun b t l e hr => hkp b t l (lt_baseI o1i LR7 e) (lt_baseR o1r LR7 e) hr)
    have hB := hB.trans (hb13.mono (by omega))
    clear hb13 hkp o1i o1r s0 s1 s2 s3
    have o1i := o1i'
    have o1r := o1r'
    clear o1i' o1r'
    have HH : Hid (∀ w, IfsIn w p1 (marksI 1 M1) → RtsIn w q1 (marksR (1 + 5 * M1) M2) → Calls Try.prog 22 #[.agg #[.slice p1 M1 d1, .slice q1 M2 e1, .int .i64 nw, .int .i64 cc], .int .i64 ((1 : Nat) : Int)] w fun e w' => e = .returned (.int .i64 (((1 : Nat) : Int) + 5 * (M1 : Int) + 9 * (M2 : Int))) ∧ Below w.heap.size w w') := fun w a b => heldInstOut_any 1 cc p1 M1 d1 q1 M2 e1 nw w (by omega) HL.out.1 HL.out.2 a b
    have s0 : w13'.cell? ⟨b10, 0, none⟩ = some (.slice p1 M1 d1) := r10.cell 0
    have s1 : w13'.cell? ⟨b10, 1, none⟩ = some (.slice q1 M2 e1) := r10.cell 1
    have s2 : w13'.cell? ⟨b10, 2, none⟩ = some (.int .i64 nw) := r10.cell 2
    have s3 : w13'.cell? ⟨b10, 3, none⟩ = some (.int .i64 cc) := r10.cell 3
    go_wp2_with fail
    refine (HH.out w13' (ownsI_in (marksI_length 1 M1).symm o1i) (ownsR_in (marksR_length _ M2).symm o1r)).mono ?_
    rintro e_ w13 ⟨rfl, hbe⟩
    have r8 := r8.below hbe r8.lt
    have r10 := r10.below hbe r10.lt
    have o0i := ownsI_below o0i hbe
    have o0r := ownsR_below o0r hbe
    have o1i := ownsI_below o1i hbe
    have o1r := ownsR_below o1r hbe
    have hB := hB.trans (hbe.mono hB.size)
    clear hbe s0 s1 s2 s3
    have dN : decide (((1 : Nat) : Int) + 5 * (M1 : Int) + 9 * (M2 : Int) < 0) = false := by simp; omega
    have dM : ((((1 : Nat) : Int) + 5 * (M1 : Int) + 9 * (M2 : Int)) != (((1 : Nat) : Int) + 5 * (M1 : Int) + 9 * (M2 : Int))) = false := by simp
    go_wp2_with fail
    refine (HT.out _ (HX.out.below hB)).mono ?_
    rintro e_ w20 ⟨g20, rfl, -, ri20, hb20⟩
    have r8 := r8.below hb20 r8.lt
    have r10 := r10.below hb20 r10.lt
    have o0i := ownsI_below o0i hb20
    have o0r := ownsR_below o0r hb20
    have o1i := ownsI_below o1i hb20
    have o1r := ownsR_below o1r hb20
    have hB := hB.trans (hb20.mono hB.size)
    clear hb20
    go_wp2_with fail
    refine (HI.out g20 _ ri20).mono ?_
    rintro e_ w21 ⟨⟨p2, d2, q2, e2, rfl, o2i, o2r⟩, hb21⟩
    have r8 := r8.below hb21 r8.lt
    have r10 := r10.below hb21 r10.lt
    have o0i := ownsI_below o0i hb21
    have o0r := ownsR_below o0r hb21
    have o1i := ownsI_below o1i hb21
    have o1r := ownsR_below o1r hb21
    have hB := hB.trans (hb21.mono hB.size)
    clear hb21 ri20 HX HT HI
    have r8 := r8.alloc (.cells #[.slice p2 M1 d2, .slice q2 M2 e2, .int .i64 nw, .int .i64 cc] 41)
    have r10 := r10.alloc (.cells #[.slice p2 M1 d2, .slice q2 M2 e2, .int .i64 nw, .int .i64 cc] 41)
    have o0i := World.ownsRow.alloc o0i (.cells #[.slice p2 M1 d2, .slice q2 M2 e2, .int .i64 nw, .int .i64 cc] 41)
    have o0r := World.ownsRow.alloc o0r (.cells #[.slice p2 M1 d2, .slice q2 M2 e2, .int .i64 nw, .int .i64 cc] 41)
    have o1i := World.ownsRow.alloc o1i (.cells #[.slice p2 M1 d2, .slice q2 M2 e2, .int .i64 nw, .int .i64 cc] 41)
    have o1r := World.ownsRow.alloc o1r (.cells #[.slice p2 M1 d2, .slice q2 M2 e2, .int .i64 nw, .int .i64 cc] 41)
    have o2i := World.ownsRow.alloc o2i (.cells #[.slice p2 M1 d2, .slice q2 M2 e2, .int .i64 nw, .int .i64 cc] 41)
    have o2r := World.ownsRow.alloc o2r (.cells #[.slice p2 M1 d2, .slice q2 M2 e2, .int .i64 nw, .int .i64 cc] 41)
    have r14 := Row.new w21 41 [.slice p2 M1 d2, .slice q2 M2 e2, .int .i64 nw, .int .i64 cc]
    have hB := hB.alloc (by have := hB.size; omega) (.cells #[.slice p2 M1 d2, .slice q2 M2 e2, .int .i64 nw, .int .i64 cc] 41)
    have s0 : (w21.alloc (.cells #[.slice p2 M1 d2, .slice q2 M2 e2, .int .i64 nw, .int .i64 cc] 41)).cell? ⟨w21.heap.size, 0, none⟩ = some (.slice p2 M1 d2) := r14.cell 0
    have s1 : (w21.alloc (.cells #[.slice p2 M1 d2, .slice q2 M2 e2, .int .i64 nw, .int .i64 cc] 41)).cell? ⟨w21.heap.size, 1, none⟩ = some (.slice q2 M2 e2) := r14.cell 1
    have s2 : (w21.alloc (.cells #[.slice p2 M1 d2, .slice q2 M2 e2, .int .i64 nw, .int .i64 cc] 41)).cell? ⟨w21.heap.size, 2, none⟩ = some (.int .i64 nw) := r14.cell 2
    have s3 : (w21.alloc (.cells #[.slice p2 M1 d2, .slice q2 M2 e2, .int .i64 nw, .int .i64 cc] 41)).cell? ⟨w21.heap.size, 3, none⟩ = some (.int .i64 cc) := r14.cell 3
    have t0 : (w21.alloc (.cells #[.slice p2 M1 d2, .slice q2 M2 e2, .int .i64 nw, .int .i64 cc] 41)).cell? ⟨b8, 0, none⟩ = some (.slice p0 M1 d0) := r8.cell 0
    have t1 : (w21.alloc (.cells #[.slice p2 M1 d2, .slice q2 M2 e2, .int .i64 nw, .int .i64 cc] 41)).cell? ⟨b8, 1, none⟩ = some (.slice q0 M2 e0) := r8.cell 1
    have t2 : (w21.alloc (.cells #[.slice p2 M1 d2, .slice q2 M2 e2, .int .i64 nw, .int .i64 cc] 41)).cell? ⟨b8, 2, none⟩ = some (.int .i64 nw) := r8.cell 2
    have t3 : (w21.alloc (.cells #[.slice p2 M1 d2, .slice q2 M2 e2, .int .i64 nw, .int .i64 cc] 41)).cell? ⟨b8, 3, none⟩ = some (.int .i64 cc) := r8.cell 3
    have HA : Hid _ := And.intro r8 (And.intro r10 (And.intro o0i (And.intro o0r (And.intro o1i (And.intro o1r (And.intro o2i (And.intro o2r (And.intro r14 (hB)))))))))
    clear r8 r10 o0i o0r o1i o1r o2i o2r r14 hB
    go_wp2_with fail
    generalize hbx : w21.heap.size = b14 at *
    generalize w21.alloc (.cells #[.slice p2 M1 d2, .slice q2 M2 e2, .int .i64 nw, .int .i64 cc] 41) = Z14 at *
    clear hbx
    obtain ⟨r8, r10, o0i, o0r, o1i, o1r, o2i, o2r, r14, hB⟩ := HA.out
    clear HA s0 s1 s2 s3 t0 t1 t2 t3
    refine (HQ.out p2 d2 q2 e2 Z14 (ownsI_in HM1.out o2i) (ownsR_in HM2.out o2r) (ownsI_in HM1.out o0i) (ownsR_in HM2.out o0r)).mono ?_
    rintro e_ w15 ⟨rfl, hbe⟩
    have r10 := r10.below hbe r10.lt
    have o1i := ownsI_below o1i hbe
    have o1r := ownsR_below o1r hbe
    have hB := hB.trans (hbe.mono hB.size)
    clear hbe
    clear r14 r8 o2i o2r o0i o0r
    have s0 : w15.cell? ⟨b10, 0, none⟩ = some (.slice p1 M1 d1) := r10.cell 0
    have s1 : w15.cell? ⟨b10, 1, none⟩ = some (.slice q1 M2 e1) := r10.cell 1
    have s2 : w15.cell? ⟨b10, 2, none⟩ = some (.int .i64 nw) := r10.cell 2
    have s3 : w15.cell? ⟨b10, 3, none⟩ = some (.int .i64 cc) := r10.cell 3
    go_wp2_with fail
    refine (HH.out w15 (ownsI_in (marksI_length 1 M1).symm o1i) (ownsR_in (marksR_length _ M2).symm o1r)).mono ?_
    rintro e_ w16 ⟨rfl, hb16⟩
    have hB := hB.trans (hb16.mono hB.size)
    clear hb16 s0 s1 s2 s3
    go_wp2
    go_ret
    exact ⟨rfl, hB⟩
  · rw [if_neg hn1]
    go_wp2
    go_ret
    exact ⟨rfl, hB⟩
end Go.Proofs.Ytflmbkjnlgibnaa
