/- The walk of the law on Up. (Written by gen_wiout.py.) -/
import Derived.Test.YtifckpncpjijiaaGreatPack34
import Derived.Test.YtifckpncpjijiaaGreatPack17
namespace Go.Proofs.YtifckpncpjijiaaGreat
open Go.RowKit Go.Sort

theorem lt_neA {p : Option Addr} {b g n : Nat} (h : ∀ b, p = some ⟨b, 0, none⟩ → b < n) (hg : n ≤ g) (e : p = some ⟨b, 0, none⟩) : (some ⟨g, 0, none⟩ : Option Addr) ≠ some ⟨b, 0, none⟩ := fun e' => by
  have := h b e
  simp only [Option.some.injEq, Addr.mk.injEq, and_true] at e'
  omega
theorem base_neI {w : World} {base n cv g b : Nat} {p : Option Addr} {xs : List Value} (h : w.ownsRow base 89 5 (.slice p n cv) n xs) (hg : g < base) (e : p = some ⟨b, 0, none⟩) : (some ⟨g, 0, none⟩ : Option Addr) ≠ some ⟨b, 0, none⟩ := fun e' => ownsI_base h hg (by rw [e, ← e'])
theorem base_neR {w : World} {base n cv g b : Nat} {p : Option Addr} {xs : List Value} (h : w.ownsRow base 98 9 (.slice p n cv) n xs) (hg : g < base) (e : p = some ⟨b, 0, none⟩) : (some ⟨g, 0, none⟩ : Option Addr) ≠ some ⟨b, 0, none⟩ := fun e' => ownsR_base h hg (by rw [e, ← e'])
theorem ltR_of {w : World} {base n cv : Nat} {p : Option Addr} {xs : List Value} (h : w.ownsRow base 98 9 (.slice p n cv) n xs) : ∀ b, p = some ⟨b, 0, none⟩ → b < w.heap.size := fun b e => by
  subst e
  exact (World.ownsRow.lt h b rfl).2
theorem lt_baseI {w : World} {base n cv b : Nat} {p q : Option Addr} {xs : List Value} (h : w.ownsRow base 89 5 (.slice q n cv) n xs) (hl : ∀ b, p = some ⟨b, 0, none⟩ → b < base) (e : p = some ⟨b, 0, none⟩) : q ≠ some ⟨b, 0, none⟩ := ownsI_base h (hl b e)
theorem lt_baseR {w : World} {base n cv b : Nat} {p q : Option Addr} {xs : List Value} (h : w.ownsRow base 98 9 (.slice q n cv) n xs) (hl : ∀ b, p = some ⟨b, 0, none⟩ → b < base) (e : p = some ⟨b, 0, none⟩) : q ≠ some ⟨b, 0, none⟩ := ownsR_base h (hl b e)
theorem outI_le {r : Int × (List If × (List Rt × Int))} (h : r.2.1.length ≤ 10000000 ∧ r.2.2.1.length ≤ 100000000) : r.2.1.length ≤ 10000000 ∧ r.2.2.1.length ≤ 100000000 := h
set_option maxRecDepth 100000 in
set_option maxHeartbeats 8000000 in
theorem fnExactUp_walk (x : Option Addr) (n1 c1 : Nat) (is : List If) (y : Option Addr) (n2 c2 : Nat) (rs : List Rt) (now : Int) (i : Int) (w : World) (h1 : ArgI w x n1 is) (h2 : ArgR w y n2 rs) (_hw : (Lit.int .i64 now).wf = true) (_hi : (Lit.int .i64 i).wf = true) :
    Calls Tryz.prog 6 #[instV x n1 c1 y n2 c2 now, .int .i64 i] w fun r w' => r = .returned (.bool true) ∧ Below w.heap.size w w' := by
  obtain rfl : is.length = n1 := h1.1
  obtain rfl : rs.length = n2 := h2.1
  have HZ : Hid (∀ w, Calls Tryz.prog 9 #[instV x is.length c1 y rs.length c2 now, .int .i64 1048576] w fun e w' => (∃ v : Int, e = .returned (.int .i64 v) ∧ (v < 0 ∨ 0 ≤ v ∧ is.length ≤ 1048576 ∧ rs.length ≤ 1048576)) ∧ Below w.heap.size w w') := fun w => szInst_any x is.length c1 y rs.length c2 now w h1.2.1 h2.2.1
  have HT0 : Hid (is.length ≤ 1048576 → rs.length ≤ 1048576 → ∀ w, ArgI w x is.length is → ArgR w y rs.length rs → Calls Tryz.prog 12 #[instV x is.length c1 y rs.length c2 now] w fun e w' => ∃ g h, e = .returned (instV (some ⟨g, 0, none⟩) is.length is.length (some ⟨h, 0, none⟩) rs.length rs.length now) ∧ w.heap.size ≤ g ∧ w.heap.size ≤ h ∧ Row w' g 89 (rowI is) ∧ Row w' h 98 (rowR rs) ∧ Below w.heap.size w w') := fun a b w p q => toInst_new x c1 y c2 is rs now w p q a b
  have HS0 : Hid (is.length ≤ 1048576 → rs.length ≤ 1048576 → ∀ g h w, Row w g 89 (rowI is) → Row w h 98 (rowR rs) → Calls Tryz.prog 26 #[instV (some ⟨g, 0, none⟩) is.length is.length (some ⟨h, 0, none⟩) rs.length rs.length now, .int .i64 i] w fun e w' => OutI w.heap.size (upO is rs now i) e w' ∧ Below w.heap.size w w') := fun a b g h w p q => specUp_any (some ⟨g, 0, none⟩) is.length (some ⟨h, 0, none⟩) rs.length is rs now i w (ifsIn_row p) (Nat.le_refl _) (fun e => by cases e) (rtsIn_row q) (fun e => by cases e) (Nat.le_refl _) (by omega) (by omega)
  have HI0 : Hid (is.length ≤ 1048576 → rs.length ≤ 1048576 → ∀ g h w, Row w g 89 (rowI is) → Row w h 98 (rowR rs) → Calls Tryz.prog 27 #[instV (some ⟨g, 0, none⟩) is.length is.length (some ⟨h, 0, none⟩) rs.length rs.length now, .int .i64 i] w fun e w' => OutI w.heap.size (upO is rs now i) e w' ∧ Below w.heap.size w w') := fun a b g h w p q => implUp_any (some ⟨g, 0, none⟩) is.length (some ⟨h, 0, none⟩) rs.length is rs now i w (ifsIn_row p) (Nat.le_refl _) (fun e => by cases e) (rtsIn_row q) (fun e => by cases e) (by omega) (by omega)
  have HE0 : Hid (is.length ≤ 1048576 → rs.length ≤ 1048576 → ∀ p q r s w, IfsIn w p is → IfsIn w q is → RtsIn w r rs → RtsIn w s rs → Calls Tryz.prog 16 #[instV p is.length is.length r rs.length rs.length now, instV q is.length is.length s rs.length rs.length now] w fun e w' => e = .returned (.bool true) ∧ Below w.heap.size w w') := fun a b p q r s w k1 k2 k3 k4 => eqInst_any p q _ _ r s _ _ is rs now w k1 k2 k3 k4 (by omega) (by omega)
  have HL0 : Hid (is.length ≤ 1048576 → rs.length ≤ 1048576 → (upO is rs now i).2.1.length ≤ 10000000 ∧ (upO is rs now i).2.2.1.length ≤ 100000000) := fun a b => by
    unfold upO
    split
    · split
      · simp
      · split
        · unfold outW
          split
          · exact ⟨by show (setU is i.toNat true).length ≤ _; rw [setU_length]; omega, Nat.le_trans (ownO_len _ _ _ _) (by omega)⟩
          · simp
        · simp
    · simp
  have HX : Hid (ArgI w x is.length is ∧ ArgR w y rs.length rs) := ⟨h1, h2⟩
  clear h1 h2
  generalize upO is rs now i = RES at *
  obtain ⟨cc, isq, rsq, nw⟩ := RES
  unfold OutI at HS0 HI0
  simp only at HS0 HI0 HL0
  unfold instV at *
  generalize hM1 : isq.length = M1 at *
  have HM1 : Hid (M1 = isq.length) := hM1.symm
  generalize hM2 : rsq.length = M2 at *
  have HM2 : Hid (M2 = rsq.length) := hM2.symm
  generalize hN1 : is.length = n1 at *
  have HN1 : Hid (n1 = is.length) := hN1.symm
  generalize hN2 : rs.length = n2 at *
  have HN2 : Hid (n2 = rs.length) := hN2.symm
  clear hM1 hM2 hN1 hN2
  go_enter Tryz.func6, Tryz.ntmps6
  go_wp2_with fail
  refine (HZ.out _).mono ?_
  rintro e_ w1 ⟨⟨v, rfl, hv⟩, hb1⟩
  obtain ⟨r0, hB⟩ := box3i hb1
  clear hb1 HZ
  rcases hv with hv | ⟨hv, hn1, hn2⟩
  · have d : decide (v < 0) = true := by simpa using hv
    clear hv
    go_wp2
    go_ret
    exact ⟨rfl, hB⟩
  · have d : decide (v < 0) = false := by simp; omega
    have HT : Hid _ := HT0.out hn1 hn2
    have HS : Hid _ := HS0.out hn1 hn2
    have HI : Hid _ := HI0.out hn1 hn2
    have HE : Hid _ := HE0.out hn1 hn2
    have HL : Hid _ := HL0.out hn1 hn2
    clear HT0 HS0 HI0 HE0 HL0 hv
    have y0 : w1.cell? ⟨w.heap.size, 0, none⟩ = some (.slice x n1 c1) := r0.cell 0
    have y1 : w1.cell? ⟨w.heap.size, 1, none⟩ = some (.slice y n2 c2) := r0.cell 1
    have y2 : w1.cell? ⟨w.heap.size, 2, none⟩ = some (.int .i64 now) := r0.cell 2
    go_wp2_with fail
    refine (HT.out _ (HX.out.1.below hB) (HX.out.2.below hB)).mono ?_
    rintro e_ w2 ⟨g2, h2, rfl, -, -, ri, rr, hb2⟩
    have r0 := r0.below hb2 r0.lt
    have hB := hB.trans (hb2.mono hB.size)
    clear hb2 y0 y1 y2
    go_wp2_with fail
    refine (HS.out g2 h2 _ ri rr).mono ?_
    rintro e_ w3 ⟨⟨p0, d0, q0, e0, rfl, o0i, o0r⟩, hb3⟩
    have r0 := r0.below hb3 r0.lt
    have hB := hB.trans (hb3.mono hB.size)
    clear hb3 ri rr HS
    have HQ : Hid (∀ p d q e w, IfsIn w p isq → RtsIn w q rsq → IfsIn w p0 isq → RtsIn w q0 rsq → Calls Tryz.prog 15 #[.agg #[.slice p M1 d, .slice q M2 e, .int .i64 nw, .int .i64 cc], .agg #[.slice p0 M1 d0, .slice q0 M2 e0, .int .i64 nw, .int .i64 cc]] w fun r w' => r = .returned (.bool true) ∧ Below w.heap.size w w') := fun p d q e w h1 h2 h3 h4 => eqInstOut_any cc p p0 M1 d d0 q q0 M2 e e0 nw isq rsq w HM1.out HM2.out (by have := HL.out.1; omega) (by have := HL.out.2; omega) h1 h3 h2 h4
    have r0 := r0.alloc (.cells #[.slice p0 M1 d0, .slice q0 M2 e0, .int .i64 nw, .int .i64 cc] 40)
    have o0i := World.ownsRow.alloc o0i (.cells #[.slice p0 M1 d0, .slice q0 M2 e0, .int .i64 nw, .int .i64 cc] 40)
    have o0r := World.ownsRow.alloc o0r (.cells #[.slice p0 M1 d0, .slice q0 M2 e0, .int .i64 nw, .int .i64 cc] 40)
    have r8 := Row.new w3 40 [.slice p0 M1 d0, .slice q0 M2 e0, .int .i64 nw, .int .i64 cc]
    have hB := hB.alloc (by have := hB.size; omega) (.cells #[.slice p0 M1 d0, .slice q0 M2 e0, .int .i64 nw, .int .i64 cc] 40)
    have y0 : (w3.alloc (.cells #[.slice p0 M1 d0, .slice q0 M2 e0, .int .i64 nw, .int .i64 cc] 40)).cell? ⟨w.heap.size, 0, none⟩ = some (.slice x n1 c1) := r0.cell 0
    have y1 : (w3.alloc (.cells #[.slice p0 M1 d0, .slice q0 M2 e0, .int .i64 nw, .int .i64 cc] 40)).cell? ⟨w.heap.size, 1, none⟩ = some (.slice y n2 c2) := r0.cell 1
    have y2 : (w3.alloc (.cells #[.slice p0 M1 d0, .slice q0 M2 e0, .int .i64 nw, .int .i64 cc] 40)).cell? ⟨w.heap.size, 2, none⟩ = some (.int .i64 now) := r0.cell 2
    have HA : Hid _ := And.intro r0 (And.intro o0i (And.intro o0r (And.intro r8 (hB))))
    clear r0 o0i o0r r8 hB
    go_wp2_with fail
    generalize hbx : w3.heap.size = b8 at *
    generalize w3.alloc (.cells #[.slice p0 M1 d0, .slice q0 M2 e0, .int .i64 nw, .int .i64 cc] 40) = Z8 at *
    clear hbx
    obtain ⟨r0, o0i, o0r, r8, hB⟩ := HA.out
    clear HA y0 y1 y2
    have LI5 := ownsI_lt o0i
    have LR5 := ltR_of o0r
    refine (HT.out _ (HX.out.1.below hB) (HX.out.2.below hB)).mono ?_
    rintro e_ w5 ⟨g5, h5, rfl, hg5, hh5, r5i, r5r, hb5⟩
    have G5 : w.heap.size ≤ g5 := Nat.le_trans hB.size hg5
    have H5 : w.heap.size ≤ h5 := Nat.le_trans hB.size hh5
    have r0 := r0.below hb5 r0.lt
    have r8 := r8.below hb5 r8.lt
    have o0i := ownsI_below o0i hb5
    have o0r := ownsR_below o0r hb5
    have hB := hB.trans (hb5.mono hB.size)
    clear hb5
    have r0 := r0.alloc (.cells #[.slice (some ⟨g5, 0, none⟩) n1 n1, .slice (some ⟨h5, 0, none⟩) n2 n2, .int .i64 now] 38)
    have r8 := r8.alloc (.cells #[.slice (some ⟨g5, 0, none⟩) n1 n1, .slice (some ⟨h5, 0, none⟩) n2 n2, .int .i64 now] 38)
    have r5i := r5i.alloc (.cells #[.slice (some ⟨g5, 0, none⟩) n1 n1, .slice (some ⟨h5, 0, none⟩) n2 n2, .int .i64 now] 38)
    have r5r := r5r.alloc (.cells #[.slice (some ⟨g5, 0, none⟩) n1 n1, .slice (some ⟨h5, 0, none⟩) n2 n2, .int .i64 now] 38)
    have o0i := World.ownsRow.alloc o0i (.cells #[.slice (some ⟨g5, 0, none⟩) n1 n1, .slice (some ⟨h5, 0, none⟩) n2 n2, .int .i64 now] 38)
    have o0r := World.ownsRow.alloc o0r (.cells #[.slice (some ⟨g5, 0, none⟩) n1 n1, .slice (some ⟨h5, 0, none⟩) n2 n2, .int .i64 now] 38)
    have r9 := Row.new w5 38 [.slice (some ⟨g5, 0, none⟩) n1 n1, .slice (some ⟨h5, 0, none⟩) n2 n2, .int .i64 now]
    have hB := hB.alloc (by have := hB.size; omega) (.cells #[.slice (some ⟨g5, 0, none⟩) n1 n1, .slice (some ⟨h5, 0, none⟩) n2 n2, .int .i64 now] 38)
    have y0 : (w5.alloc (.cells #[.slice (some ⟨g5, 0, none⟩) n1 n1, .slice (some ⟨h5, 0, none⟩) n2 n2, .int .i64 now] 38)).cell? ⟨w5.heap.size, 0, none⟩ = some (.slice (some ⟨g5, 0, none⟩) n1 n1) := r9.cell 0
    have y1 : (w5.alloc (.cells #[.slice (some ⟨g5, 0, none⟩) n1 n1, .slice (some ⟨h5, 0, none⟩) n2 n2, .int .i64 now] 38)).cell? ⟨w5.heap.size, 1, none⟩ = some (.slice (some ⟨h5, 0, none⟩) n2 n2) := r9.cell 1
    have y2 : (w5.alloc (.cells #[.slice (some ⟨g5, 0, none⟩) n1 n1, .slice (some ⟨h5, 0, none⟩) n2 n2, .int .i64 now] 38)).cell? ⟨w5.heap.size, 2, none⟩ = some (.int .i64 now) := r9.cell 2
    have HA : Hid _ := And.intro r0 (And.intro r8 (And.intro r5i (And.intro r5r (And.intro o0i (And.intro o0r (And.intro r9 (hB)))))))
    clear r0 r8 r5i r5r o0i o0r r9 hB
    go_wp2_with fail
    generalize hbx : w5.heap.size = b9 at *
    generalize w5.alloc (.cells #[.slice (some ⟨g5, 0, none⟩) n1 n1, .slice (some ⟨h5, 0, none⟩) n2 n2, .int .i64 now] 38) = Z9 at *
    clear hbx
    obtain ⟨r0, r8, r5i, r5r, o0i, o0r, r9, hB⟩ := HA.out
    clear HA y0 y1 y2
    have G57 := r5i.lt
    have H57 := r5r.lt
    have LI7 := ownsI_lt o0i
    have LR7 := ltR_of o0r
    refine (HI.out g5 h5 _ r5i r5r).mono ?_
    rintro e_ w7 ⟨⟨p1, d1, q1, e1, rfl, o1i, o1r⟩, hb7⟩
    have r0 := r0.below hb7 r0.lt
    have r8 := r8.below hb7 r8.lt
    have r5i := r5i.below hb7 r5i.lt
    have r5r := r5r.below hb7 r5r.lt
    have r9 := r9.below hb7 r9.lt
    have o0i := ownsI_below o0i hb7
    have o0r := ownsR_below o0r hb7
    have hB := hB.trans (hb7.mono hB.size)
    have hb7s := hb7.size
    generalize hn7 : Z9.heap.size = n7 at *
    clear hb7 hn7
    have r0 := r0.alloc (.cells #[.slice p1 M1 d1, .slice q1 M2 e1, .int .i64 nw, .int .i64 cc] 40)
    have r8 := r8.alloc (.cells #[.slice p1 M1 d1, .slice q1 M2 e1, .int .i64 nw, .int .i64 cc] 40)
    have r5i := r5i.alloc (.cells #[.slice p1 M1 d1, .slice q1 M2 e1, .int .i64 nw, .int .i64 cc] 40)
    have r5r := r5r.alloc (.cells #[.slice p1 M1 d1, .slice q1 M2 e1, .int .i64 nw, .int .i64 cc] 40)
    have r9 := r9.alloc (.cells #[.slice p1 M1 d1, .slice q1 M2 e1, .int .i64 nw, .int .i64 cc] 40)
    have o0i := World.ownsRow.alloc o0i (.cells #[.slice p1 M1 d1, .slice q1 M2 e1, .int .i64 nw, .int .i64 cc] 40)
    have o0r := World.ownsRow.alloc o0r (.cells #[.slice p1 M1 d1, .slice q1 M2 e1, .int .i64 nw, .int .i64 cc] 40)
    have o1i := World.ownsRow.alloc o1i (.cells #[.slice p1 M1 d1, .slice q1 M2 e1, .int .i64 nw, .int .i64 cc] 40)
    have o1r := World.ownsRow.alloc o1r (.cells #[.slice p1 M1 d1, .slice q1 M2 e1, .int .i64 nw, .int .i64 cc] 40)
    have r10 := Row.new w7 40 [.slice p1 M1 d1, .slice q1 M2 e1, .int .i64 nw, .int .i64 cc]
    have hB := hB.alloc (by have := hB.size; omega) (.cells #[.slice p1 M1 d1, .slice q1 M2 e1, .int .i64 nw, .int .i64 cc] 40)
    have s0 : (w7.alloc (.cells #[.slice p1 M1 d1, .slice q1 M2 e1, .int .i64 nw, .int .i64 cc] 40)).cell? ⟨w7.heap.size, 0, none⟩ = some (.slice p1 M1 d1) := r10.cell 0
    have s1 : (w7.alloc (.cells #[.slice p1 M1 d1, .slice q1 M2 e1, .int .i64 nw, .int .i64 cc] 40)).cell? ⟨w7.heap.size, 1, none⟩ = some (.slice q1 M2 e1) := r10.cell 1
    have s2 : (w7.alloc (.cells #[.slice p1 M1 d1, .slice q1 M2 e1, .int .i64 nw, .int .i64 cc] 40)).cell? ⟨w7.heap.size, 2, none⟩ = some (.int .i64 nw) := r10.cell 2
    have s3 : (w7.alloc (.cells #[.slice p1 M1 d1, .slice q1 M2 e1, .int .i64 nw, .int .i64 cc] 40)).cell? ⟨w7.heap.size, 3, none⟩ = some (.int .i64 cc) := r10.cell 3
    have t0 : (w7.alloc (.cells #[.slice p1 M1 d1, .slice q1 M2 e1, .int .i64 nw, .int .i64 cc] 40)).cell? ⟨b8, 0, none⟩ = some (.slice p0 M1 d0) := r8.cell 0
    have t1 : (w7.alloc (.cells #[.slice p1 M1 d1, .slice q1 M2 e1, .int .i64 nw, .int .i64 cc] 40)).cell? ⟨b8, 1, none⟩ = some (.slice q0 M2 e0) := r8.cell 1
    have t2 : (w7.alloc (.cells #[.slice p1 M1 d1, .slice q1 M2 e1, .int .i64 nw, .int .i64 cc] 40)).cell? ⟨b8, 2, none⟩ = some (.int .i64 nw) := r8.cell 2
    have t3 : (w7.alloc (.cells #[.slice p1 M1 d1, .slice q1 M2 e1, .int .i64 nw, .int .i64 cc] 40)).cell? ⟨b8, 3, none⟩ = some (.int .i64 cc) := r8.cell 3
    have HA : Hid _ := And.intro r0 (And.intro r8 (And.intro r5i (And.intro r5r (And.intro r9 (And.intro o0i (And.intro o0r (And.intro o1i (And.intro o1r (And.intro r10 (hB))))))))))
    clear r0 r8 r5i r5r r9 o0i o0r o1i o1r r10 hB
    go_wp2_with fail
    generalize hbx : w7.heap.size = b10 at *
    generalize w7.alloc (.cells #[.slice p1 M1 d1, .slice q1 M2 e1, .int .i64 nw, .int .i64 cc] 40) = Z10 at *
    clear hbx
    obtain ⟨r0, r8, r5i, r5r, r9, o0i, o0r, o1i, o1r, r10, hB⟩ := HA.out
    clear HA s0 s1 s2 s3 t0 t1 t2 t3
    refine (HQ.out p1 d1 q1 e1 Z10 (ownsI_in HM1.out o1i) (ownsR_in HM2.out o1r) (ownsI_in HM1.out o0i) (ownsR_in HM2.out o0r)).mono ?_
    rintro e_ w10 ⟨rfl, hbe⟩
    have r0 := r0.below hbe r0.lt
    have r8 := r8.below hbe r8.lt
    have r5i := r5i.below hbe r5i.lt
    have r5r := r5r.below hbe r5r.lt
    have r9 := r9.below hbe r9.lt
    have r10 := r10.below hbe r10.lt
    have o0i := ownsI_below o0i hbe
    have o0r := ownsR_below o0r hbe
    have o1i := ownsI_below o1i hbe
    have o1r := ownsR_below o1r hbe
    have hB := hB.trans (hbe.mono hB.size)
    clear hbe
    go_wp2_with fail
    have hGN : (([(31, Is (.agg #[.slice (some ⟨g5, 0, none⟩) n1 n1, .slice (some ⟨h5, 0, none⟩) n2 n2, .int .i64 now])), (32, Is (.agg #[.slice x n1 c1, .slice y n2 c2, .int .i64 now])), (33, fun v W => ∃ g h, v = .agg #[.slice (some ⟨g, 0, none⟩) n1 n1, .slice (some ⟨h, 0, none⟩) n2 n2, .int .i64 now] ∧ Row W g 89 (rowI is) ∧ Row W h 98 (rowR rs)), (34, Is (.bool true)), (35, Is (.bool false))] : List (Nat × (Value → World → Prop))).map (·.1)).Nodup := by simp
    refine wp_region_steady 5 (SlotG [(31, Is (.agg #[.slice (some ⟨g5, 0, none⟩) n1 n1, .slice (some ⟨h5, 0, none⟩) n2 n2, .int .i64 now])), (32, Is (.agg #[.slice x n1 c1, .slice y n2 c2, .int .i64 now])), (33, fun v W => ∃ g h, v = .agg #[.slice (some ⟨g, 0, none⟩) n1 n1, .slice (some ⟨h, 0, none⟩) n2 n2, .int .i64 now] ∧ Row W g 89 (rowI is) ∧ Row W h 98 (rowR rs)), (34, Is (.bool true)), (35, Is (.bool false))]) (by kernel_rfl) (by kernel_rfl) (Stabs.all ⟨stab_is _, stab_is _, stab_inst n1 n2 now is rs, stab_is _, stab_is _, trivial⟩) ?_ ?_
    · intro o ho
      simp only [List.take_succ_cons, List.take_zero, List.mem_cons, List.not_mem_nil, or_false] at ho
      rcases ho with rfl | rfl | rfl | rfl | rfl
      · intro a' w' hb ha hdep
        have d7 : a'.tmps.getD 7 undef = .pointer (some ⟨b9, 0, none⟩) := ha.at 7 (by kernel_rfl)
        have hmk := fun (x : Value) (W : World) => SlotG.mk (x := x) (w := W) 0 rfl hGN
        clear hGN ha hdep
        have y0 : w'.cell? ⟨b9, 0, none⟩ = some (.slice (some ⟨g5, 0, none⟩) n1 n1) := (r9.below hb r9.lt).cell 0
        have y1 : w'.cell? ⟨b9, 1, none⟩ = some (.slice (some ⟨h5, 0, none⟩) n2 n2) := (r9.below hb r9.lt).cell 1
        have y2 : w'.cell? ⟨b9, 2, none⟩ = some (.int .i64 now) := (r9.below hb r9.lt).cell 2
        go_simp
        exact ⟨_, rfl, Below.refl _ _, hmk _ _ rfl⟩
      · intro a' w' hb ha hdep
        have d2 : a'.tmps.getD 2 undef = .pointer (some ⟨w.heap.size, 0, none⟩) := ha.at 2 (by kernel_rfl)
        have hmk := fun (x : Value) (W : World) => SlotG.mk (x := x) (w := W) 1 rfl hGN
        clear hGN ha hdep
        have y0 : w'.cell? ⟨w.heap.size, 0, none⟩ = some (.slice x n1 c1) := (r0.below hb r0.lt).cell 0
        have y1 : w'.cell? ⟨w.heap.size, 1, none⟩ = some (.slice y n2 c2) := (r0.below hb r0.lt).cell 1
        have y2 : w'.cell? ⟨w.heap.size, 2, none⟩ = some (.int .i64 now) := (r0.below hb r0.lt).cell 2
        go_simp
        exact ⟨_, rfl, Below.refl _ _, hmk _ _ rfl⟩
      · intro a' w' hb ha hdep
        have d32 : a'.tmps.getD 32 undef = .agg #[.slice x n1 c1, .slice y n2 c2, .int .i64 now] := (hdep 32 (of_decide_eq_true (by kernel_rfl))).is 1 rfl
        have hmk := fun (x : Value) (W : World) => SlotG.mk (x := x) (w := W) 2 rfl hGN
        clear hGN ha hdep
        go_simp
        refine (HT.out _ (HX.out.1.below (hB.trans (hb.mono hB.size))) (HX.out.2.below (hB.trans (hb.mono hB.size)))).mono ?_
        rintro e w2 ⟨g, h, rfl, -, -, r7, r8, hb2⟩
        exact ⟨_, rfl, hb2, hmk _ _ ⟨g, h, rfl, r7, r8⟩⟩
      · intro a' w' hb ha hdep
        have d31 : a'.tmps.getD 31 undef = .agg #[.slice (some ⟨g5, 0, none⟩) n1 n1, .slice (some ⟨h5, 0, none⟩) n2 n2, .int .i64 now] := (hdep 31 (of_decide_eq_true (by kernel_rfl))).is 0 rfl
        have D33 := (hdep 33 (of_decide_eq_true (by kernel_rfl))).get 2 rfl
        have hmk := fun (x : Value) (W : World) => SlotG.mk (x := x) (w := W) 3 rfl hGN
        clear hGN ha hdep
        obtain ⟨g, h, d33, r7, r8⟩ := D33
        go_simp
        refine (HE.out _ _ _ _ _ (ifsIn_row (r5i.below hb r5i.lt)) (ifsIn_row r7) (rtsIn_row (r5r.below hb r5r.lt)) (rtsIn_row r8)).mono ?_
        rintro e w2 ⟨rfl, hb2⟩
        exact ⟨_, rfl, hb2, hmk _ _ rfl⟩
      · intro a' w' hb ha hdep
        have d34 : a'.tmps.getD 34 undef = .bool true := (hdep 34 (of_decide_eq_true (by kernel_rfl))).is 3 rfl
        have hmk := fun (x : Value) (W : World) => SlotG.mk (x := x) (w := W) 4 rfl hGN
        clear hGN ha hdep
        go_simp
        exact ⟨_, rfl, Below.refl _ _, hmk _ _ rfl⟩
    · intro a' w' hb ha hG
      clear hGN
      have d35 : a'.tmps.getD 35 undef = .bool false := (hG _ (List.mem_of_getElem? (i := 4) rfl) 35 rfl).is 4 rfl
      have d2 : a'.tmps.getD 2 undef = .pointer (some ⟨w.heap.size, 0, none⟩) := ha.at 2 (by kernel_rfl)
      have d6 : a'.tmps.getD 6 undef = .pointer (some ⟨b8, 0, none⟩) := ha.at 6 (by kernel_rfl)
      have d7 : a'.tmps.getD 7 undef = .pointer (some ⟨b9, 0, none⟩) := ha.at 7 (by kernel_rfl)
      have d8 : a'.tmps.getD 8 undef = .pointer (some ⟨b10, 0, none⟩) := ha.at 8 (by kernel_rfl)
      have d1 : a'.tmps.getD 1 undef = .int .i64 i := ha.at 1 (by kernel_rfl)
      have e2 : a' = ⟨#[a'.tmps.getD 0 undef, a'.tmps.getD 1 undef, a'.tmps.getD 2 undef, a'.tmps.getD 3 undef, a'.tmps.getD 4 undef, a'.tmps.getD 5 undef, a'.tmps.getD 6 undef, a'.tmps.getD 7 undef, a'.tmps.getD 8 undef, a'.tmps.getD 9 undef, a'.tmps.getD 10 undef, a'.tmps.getD 11 undef, a'.tmps.getD 12 undef, a'.tmps.getD 13 undef, a'.tmps.getD 14 undef, a'.tmps.getD 15 undef, a'.tmps.getD 16 undef, a'.tmps.getD 17 undef, a'.tmps.getD 18 undef, a'.tmps.getD 19 undef, a'.tmps.getD 20 undef, a'.tmps.getD 21 undef, a'.tmps.getD 22 undef, a'.tmps.getD 23 undef, a'.tmps.getD 24 undef, a'.tmps.getD 25 undef, a'.tmps.getD 26 undef, a'.tmps.getD 27 undef, a'.tmps.getD 28 undef, a'.tmps.getD 29 undef, a'.tmps.getD 30 undef, a'.tmps.getD 31 undef, a'.tmps.getD 32 undef, a'.tmps.getD 33 undef, a'.tmps.getD 34 undef, a'.tmps.getD 35 undef, a'.tmps.getD 36 undef, a'.tmps.getD 37 undef, a'.tmps.getD 38 undef, a'.tmps.getD 39 undef, a'.tmps.getD 40 undef, a'.tmps.getD 41 undef, a'.tmps.getD 42 undef, a'.tmps.getD 43 undef, a'.tmps.getD 44 undef, a'.tmps.getD 45 undef, a'.tmps.getD 46 undef, a'.tmps.getD 47 undef, a'.tmps.getD 48 undef, a'.tmps.getD 49 undef, a'.tmps.getD 50 undef, a'.tmps.getD 51 undef, a'.tmps.getD 52 undef, a'.tmps.getD 53 undef, a'.tmps.getD 54 undef, a'.tmps.getD 55 undef, a'.tmps.getD 56 undef, a'.tmps.getD 57 undef, a'.tmps.getD 58 undef, a'.tmps.getD 59 undef, a'.tmps.getD 60 undef, a'.tmps.getD 61 undef, a'.tmps.getD 62 undef, a'.tmps.getD 63 undef, a'.tmps.getD 64 undef, a'.tmps.getD 65 undef, a'.tmps.getD 66 undef, a'.tmps.getD 67 undef, a'.tmps.getD 68 undef, a'.tmps.getD 69 undef, a'.tmps.getD 70 undef, a'.tmps.getD 71 undef, a'.tmps.getD 72 undef, a'.tmps.getD 73 undef], []⟩ := by rw [← (show a'.defers = [] from ha.2.1)]; exact act_eq a' 74 ha.1
      rw [d35, d2, d6, d7, d8, d1] at e2
      clear hG ha d35 d2 d6 d7 d8 d1
      generalize a'.tmps.getD 0 undef = x0 at *
      generalize a'.tmps.getD 3 undef = x3 at *
      generalize a'.tmps.getD 4 undef = x4 at *
      generalize a'.tmps.getD 5 undef = x5 at *
      generalize a'.tmps.getD 9 undef = x9 at *
      generalize a'.tmps.getD 10 undef = x10 at *
      generalize a'.tmps.getD 11 undef = x11 at *
      generalize a'.tmps.getD 12 undef = x12 at *
      generalize a'.tmps.getD 13 undef = x13 at *
      generalize a'.tmps.getD 14 undef = x14 at *
      generalize a'.tmps.getD 15 undef = x15 at *
      generalize a'.tmps.getD 16 undef = x16 at *
      generalize a'.tmps.getD 17 undef = x17 at *
      generalize a'.tmps.getD 18 undef = x18 at *
      generalize a'.tmps.getD 19 undef = x19 at *
      generalize a'.tmps.getD 20 undef = x20 at *
      generalize a'.tmps.getD 21 undef = x21 at *
      generalize a'.tmps.getD 22 undef = x22 at *
      generalize a'.tmps.getD 23 undef = x23 at *
      generalize a'.tmps.getD 24 undef = x24 at *
      generalize a'.tmps.getD 25 undef = x25 at *
      generalize a'.tmps.getD 26 undef = x26 at *
      generalize a'.tmps.getD 27 undef = x27 at *
      generalize a'.tmps.getD 28 undef = x28 at *
      generalize a'.tmps.getD 29 undef = x29 at *
      generalize a'.tmps.getD 30 undef = x30 at *
      generalize a'.tmps.getD 31 undef = x31 at *
      generalize a'.tmps.getD 32 undef = x32 at *
      generalize a'.tmps.getD 33 undef = x33 at *
      generalize a'.tmps.getD 34 undef = x34 at *
      generalize a'.tmps.getD 36 undef = x36 at *
      generalize a'.tmps.getD 37 undef = x37 at *
      generalize a'.tmps.getD 38 undef = x38 at *
      generalize a'.tmps.getD 39 undef = x39 at *
      generalize a'.tmps.getD 40 undef = x40 at *
      generalize a'.tmps.getD 41 undef = x41 at *
      generalize a'.tmps.getD 42 undef = x42 at *
      generalize a'.tmps.getD 43 undef = x43 at *
      generalize a'.tmps.getD 44 undef = x44 at *
      generalize a'.tmps.getD 45 undef = x45 at *
      generalize a'.tmps.getD 46 undef = x46 at *
      generalize a'.tmps.getD 47 undef = x47 at *
      generalize a'.tmps.getD 48 undef = x48 at *
      generalize a'.tmps.getD 49 undef = x49 at *
      generalize a'.tmps.getD 50 undef = x50 at *
      generalize a'.tmps.getD 51 undef = x51 at *
      generalize a'.tmps.getD 52 undef = x52 at *
      generalize a'.tmps.getD 53 undef = x53 at *
      generalize a'.tmps.getD 54 undef = x54 at *
      generalize a'.tmps.getD 55 undef = x55 at *
      generalize a'.tmps.getD 56 undef = x56 at *
      generalize a'.tmps.getD 57 undef = x57 at *
      generalize a'.tmps.getD 58 undef = x58 at *
      generalize a'.tmps.getD 59 undef = x59 at *
      generalize a'.tmps.getD 60 undef = x60 at *
      generalize a'.tmps.getD 61 undef = x61 at *
      generalize a'.tmps.getD 62 undef = x62 at *
      generalize a'.tmps.getD 63 undef = x63 at *
      generalize a'.tmps.getD 64 undef = x64 at *
      generalize a'.tmps.getD 65 undef = x65 at *
      generalize a'.tmps.getD 66 undef = x66 at *
      generalize a'.tmps.getD 67 undef = x67 at *
      generalize a'.tmps.getD 68 undef = x68 at *
      generalize a'.tmps.getD 69 undef = x69 at *
      generalize a'.tmps.getD 70 undef = x70 at *
      generalize a'.tmps.getD 71 undef = x71 at *
      generalize a'.tmps.getD 72 undef = x72 at *
      generalize a'.tmps.getD 73 undef = x73 at *
      subst e2
      simp only [List.drop_succ_cons, List.drop_zero]
      have r0 := r0.below hb r0.lt
      have r8 := r8.below hb r8.lt
      have r5i := r5i.below hb r5i.lt
      have r5r := r5r.below hb r5r.lt
      have r9 := r9.below hb r9.lt
      have r10 := r10.below hb r10.lt
      have o0i := ownsI_below o0i hb
      have o0r := ownsR_below o0r hb
      have o1i := ownsI_below o1i hb
      have o1r := ownsR_below o1r hb
      have hB := hB.trans (hb.mono hB.size)
      have hb10s := hB.size
      clear hb HE
      have xx0 : w'.cell? ⟨b9, 0, none⟩ = some (.slice (some ⟨g5, 0, none⟩) n1 n1) := r9.cell 0
      have xx1 : w'.cell? ⟨b9, 1, none⟩ = some (.slice (some ⟨h5, 0, none⟩) n2 n2) := r9.cell 1
      have xx2 : w'.cell? ⟨b9, 2, none⟩ = some (.int .i64 now) := r9.cell 2
      have HR : Hid _ := And.intro r0 (And.intro r8 (And.intro r10 (And.intro o0i (And.intro o0r (And.intro o1i (And.intro o1r (And.intro r5i (And.intro r5r hB))))))))
      clear r0 r8 r10 o0i o0r o1i o1r r5i r5r hB r9
      go_wp2_with fail
      obtain ⟨r0, r8, r10, o0i, o0r, o1i, o1r, r5i, r5r, hB⟩ := HR.out
      clear HR xx0 xx1 xx2
      have o5i := ownsI_mono (base' := w.heap.size) (ownsI_row HN1.out (by omega) r5i) G5
      have o5r := ownsR_mono (base' := w.heap.size) (ownsR_row HN2.out (by omega) r5r) H5
      refine (markInst_any 1 (some ⟨g5, 0, none⟩) n1 n1 (some ⟨h5, 0, none⟩) n2 n2 now w.heap.size is rs w' HN1.out HN2.out (by omega) (by omega) (by omega) o5i o5r hB.size).mono ?_
      rintro e_ w11 ⟨rfl, -, -, hb11, hkp⟩
      have r0 := hkp _ _ _ (ownsI_ne o5i r0 (by decide)) (ownsR_ne o5r r0 (by decide)) r0
      have r8 := hkp _ _ _ (ownsI_ne o5i r8 (by decide)) (ownsR_ne o5r r8 (by decide)) r8
      have r10 := hkp _ _ _ (ownsI_ne o5i r10 (by decide)) (ownsR_ne o5r r10 (by decide)) r10
      have o0i := ownsI_kept o0i (fun b t l e hr => hkp b t l (lt_neA LI5 hg5 e) (lt_neA LI5 hh5 e) hr)
      have o0r := ownsR_kept HM2.out o0r (fun b t l e hr => hkp b t l (lt_neA LR5 hg5 e) (lt_neA LR5 hh5 e) hr)
      have o1i := ownsI_kept o1i (fun b t l e hr => hkp b t l (base_neI o1i G57 e) (base_neI o1i H57 e) hr)
      have o1r := ownsR_kept HM2.out o1r (fun b t l e hr => hkp b t l (base_neR o1r G57 e) (base_neR o1r H57 e) hr)
      have hB := hB.trans hb11
      clear hb11 hkp o5i o5r r5i r5r
      have dK : decide (((1 : Nat) : Int) + 5 * (n1 : Int) + 9 * (n2 : Int) < 0) = false := by simp; omega
      have s0 : w11.cell? ⟨b10, 0, none⟩ = some (.slice p1 M1 d1) := r10.cell 0
      have s1 : w11.cell? ⟨b10, 1, none⟩ = some (.slice q1 M2 e1) := r10.cell 1
      have s2 : w11.cell? ⟨b10, 2, none⟩ = some (.int .i64 nw) := r10.cell 2
      have s3 : w11.cell? ⟨b10, 3, none⟩ = some (.int .i64 cc) := r10.cell 3
      have t0 : w11.cell? ⟨b8, 0, none⟩ = some (.slice p0 M1 d0) := r8.cell 0
      have t1 : w11.cell? ⟨b8, 1, none⟩ = some (.slice q0 M2 e0) := r8.cell 1
      have t2 : w11.cell? ⟨b8, 2, none⟩ = some (.int .i64 nw) := r8.cell 2
      have t3 : w11.cell? ⟨b8, 3, none⟩ = some (.int .i64 cc) := r8.cell 3
      go_wp2_with fail
      refine (HQ.out p1 d1 q1 e1 w11 (ownsI_in HM1.out o1i) (ownsR_in HM2.out o1r) (ownsI_in HM1.out o0i) (ownsR_in HM2.out o0r)).mono ?_
      rintro e_ w12 ⟨rfl, hbe⟩
      have r0 := r0.below hbe r0.lt
      have r8 := r8.below hbe r8.lt
      have r10 := r10.below hbe r10.lt
      have o0i := ownsI_below o0i hbe
      have o0r := ownsR_below o0r hbe
      have o1i := ownsI_below o1i hbe
      have o1r := ownsR_below o1r hbe
      have hB := hB.trans (hbe.mono hB.size)
      clear hbe
      clear s0 s1 s2 s3 t0 t1 t2 t3 dK
      have s0 : w12.cell? ⟨b10, 0, none⟩ = some (.slice p1 M1 d1) := r10.cell 0
      have s1 : w12.cell? ⟨b10, 1, none⟩ = some (.slice q1 M2 e1) := r10.cell 1
      have s2 : w12.cell? ⟨b10, 2, none⟩ = some (.int .i64 nw) := r10.cell 2
      have s3 : w12.cell? ⟨b10, 3, none⟩ = some (.int .i64 cc) := r10.cell 3
      go_wp2_with fail
      refine (markInstOut_any 1 cc p1 M1 d1 q1 M2 e1 nw n7 isq rsq w12 HM1.out HM2.out (by omega) HL.out.1 HL.out.2 o1i o1r (by have := r10.lt; have := hB.size; omega)).mono ?_
      rintro e_ w13' ⟨rfl, o1i', o1r', hb13, hkp⟩
      have r0 := hkp _ _ _ (ownsI_ne o1i r0 (by decide)) (ownsR_ne o1r r0 (by decide)) r0
      have r8 := hkp _ _ _ (ownsI_ne o1i r8 (by decide)) (ownsR_ne o1r r8 (by decide)) r8
      have r10 := hkp _ _ _ (ownsI_ne o1i r10 (by decide)) (ownsR_ne o1r r10 (by decide)) r10
      have o0i := ownsI_kept o0i (fun b t l e hr => hkp b t l (lt_baseI o1i LI7 e) (lt_baseR o1r LI7 e) hr)
      have o0r := ownsR_kept HM2.out o0r (fun b t l e hr => hkp b t l (lt_baseI o1i LR7 e) (lt_baseR o1r LR7 e) hr)
      have hB := hB.trans (hb13.mono (by omega))
      clear hb13 hkp o1i o1r s0 s1 s2 s3
      have o1i := o1i'
      have o1r := o1r'
      clear o1i' o1r'
      have HH : Hid (∀ w, IfsIn w p1 (marksI 1 M1) → RtsIn w q1 (marksR (1 + 5 * M1) M2) → Calls Tryz.prog 21 #[.agg #[.slice p1 M1 d1, .slice q1 M2 e1, .int .i64 nw, .int .i64 cc], .int .i64 ((1 : Nat) : Int)] w fun e w' => e = .returned (.int .i64 (((1 : Nat) : Int) + 5 * (M1 : Int) + 9 * (M2 : Int))) ∧ Below w.heap.size w w') := fun w a b => heldInstOut_any 1 cc p1 M1 d1 q1 M2 e1 nw w (by omega) HL.out.1 HL.out.2 a b
      have s0 : w13'.cell? ⟨b10, 0, none⟩ = some (.slice p1 M1 d1) := r10.cell 0
      have s1 : w13'.cell? ⟨b10, 1, none⟩ = some (.slice q1 M2 e1) := r10.cell 1
      have s2 : w13'.cell? ⟨b10, 2, none⟩ = some (.int .i64 nw) := r10.cell 2
      have s3 : w13'.cell? ⟨b10, 3, none⟩ = some (.int .i64 cc) := r10.cell 3
      go_wp2_with fail
      refine (HH.out w13' (ownsI_in (marksI_length 1 M1).symm o1i) (ownsR_in (marksR_length _ M2).symm o1r)).mono ?_
      rintro e_ w13 ⟨rfl, hbe⟩
      have r0 := r0.below hbe r0.lt
      have r8 := r8.below hbe r8.lt
      have r10 := r10.below hbe r10.lt
      have o0i := ownsI_below o0i hbe
      have o0r := ownsR_below o0r hbe
      have o1i := ownsI_below o1i hbe
      have o1r := ownsR_below o1r hbe
      have hB := hB.trans (hbe.mono hB.size)
      clear hbe s0 s1 s2 s3
      have dN : decide (((1 : Nat) : Int) + 5 * (M1 : Int) + 9 * (M2 : Int) < 0) = false := by simp; omega
      have dM : ((((1 : Nat) : Int) + 5 * (M1 : Int) + 9 * (M2 : Int)) != (((1 : Nat) : Int) + 5 * (M1 : Int) + 9 * (M2 : Int))) = false := by simp
      have y0 : w13.cell? ⟨w.heap.size, 0, none⟩ = some (.slice x n1 c1) := r0.cell 0
      have y1 : w13.cell? ⟨w.heap.size, 1, none⟩ = some (.slice y n2 c2) := r0.cell 1
      have y2 : w13.cell? ⟨w.heap.size, 2, none⟩ = some (.int .i64 now) := r0.cell 2
      go_wp2_with fail
      refine (HT.out _ (HX.out.1.below hB) (HX.out.2.below hB)).mono ?_
      rintro e_ w20 ⟨g20, h20, rfl, -, -, ri20, rr20, hb20⟩
      have r0 := r0.below hb20 r0.lt
      have r8 := r8.below hb20 r8.lt
      have r10 := r10.below hb20 r10.lt
      have o0i := ownsI_below o0i hb20
      have o0r := ownsR_below o0r hb20
      have o1i := ownsI_below o1i hb20
      have o1r := ownsR_below o1r hb20
      have hB := hB.trans (hb20.mono hB.size)
      clear hb20 y0 y1 y2
      go_wp2_with fail
      refine (HI.out g20 h20 _ ri20 rr20).mono ?_
      rintro e_ w21 ⟨⟨p2, d2, q2, e2, rfl, o2i, o2r⟩, hb21⟩
      have r8 := r8.below hb21 r8.lt
      have r10 := r10.below hb21 r10.lt
      have o0i := ownsI_below o0i hb21
      have o0r := ownsR_below o0r hb21
      have o1i := ownsI_below o1i hb21
      have o1r := ownsR_below o1r hb21
      have hB := hB.trans (hb21.mono hB.size)
      clear hb21 ri20 rr20 r0 HX HT HI
      have r8 := r8.alloc (.cells #[.slice p2 M1 d2, .slice q2 M2 e2, .int .i64 nw, .int .i64 cc] 40)
      have r10 := r10.alloc (.cells #[.slice p2 M1 d2, .slice q2 M2 e2, .int .i64 nw, .int .i64 cc] 40)
      have o0i := World.ownsRow.alloc o0i (.cells #[.slice p2 M1 d2, .slice q2 M2 e2, .int .i64 nw, .int .i64 cc] 40)
      have o0r := World.ownsRow.alloc o0r (.cells #[.slice p2 M1 d2, .slice q2 M2 e2, .int .i64 nw, .int .i64 cc] 40)
      have o1i := World.ownsRow.alloc o1i (.cells #[.slice p2 M1 d2, .slice q2 M2 e2, .int .i64 nw, .int .i64 cc] 40)
      have o1r := World.ownsRow.alloc o1r (.cells #[.slice p2 M1 d2, .slice q2 M2 e2, .int .i64 nw, .int .i64 cc] 40)
      have o2i := World.ownsRow.alloc o2i (.cells #[.slice p2 M1 d2, .slice q2 M2 e2, .int .i64 nw, .int .i64 cc] 40)
      have o2r := World.ownsRow.alloc o2r (.cells #[.slice p2 M1 d2, .slice q2 M2 e2, .int .i64 nw, .int .i64 cc] 40)
      have r14 := Row.new w21 40 [.slice p2 M1 d2, .slice q2 M2 e2, .int .i64 nw, .int .i64 cc]
      have hB := hB.alloc (by have := hB.size; omega) (.cells #[.slice p2 M1 d2, .slice q2 M2 e2, .int .i64 nw, .int .i64 cc] 40)
      have s0 : (w21.alloc (.cells #[.slice p2 M1 d2, .slice q2 M2 e2, .int .i64 nw, .int .i64 cc] 40)).cell? ⟨w21.heap.size, 0, none⟩ = some (.slice p2 M1 d2) := r14.cell 0
      have s1 : (w21.alloc (.cells #[.slice p2 M1 d2, .slice q2 M2 e2, .int .i64 nw, .int .i64 cc] 40)).cell? ⟨w21.heap.size, 1, none⟩ = some (.slice q2 M2 e2) := r14.cell 1
      have s2 : (w21.alloc (.cells #[.slice p2 M1 d2, .slice q2 M2 e2, .int .i64 nw, .int .i64 cc] 40)).cell? ⟨w21.heap.size, 2, none⟩ = some (.int .i64 nw) := r14.cell 2
      have s3 : (w21.alloc (.cells #[.slice p2 M1 d2, .slice q2 M2 e2, .int .i64 nw, .int .i64 cc] 40)).cell? ⟨w21.heap.size, 3, none⟩ = some (.int .i64 cc) := r14.cell 3
      have t0 : (w21.alloc (.cells #[.slice p2 M1 d2, .slice q2 M2 e2, .int .i64 nw, .int .i64 cc] 40)).cell? ⟨b8, 0, none⟩ = some (.slice p0 M1 d0) := r8.cell 0
      have t1 : (w21.alloc (.cells #[.slice p2 M1 d2, .slice q2 M2 e2, .int .i64 nw, .int .i64 cc] 40)).cell? ⟨b8, 1, none⟩ = some (.slice q0 M2 e0) := r8.cell 1
      have t2 : (w21.alloc (.cells #[.slice p2 M1 d2, .slice q2 M2 e2, .int .i64 nw, .int .i64 cc] 40)).cell? ⟨b8, 2, none⟩ = some (.int .i64 nw) := r8.cell 2
      have t3 : (w21.alloc (.cells #[.slice p2 M1 d2, .slice q2 M2 e2, .int .i64 nw, .int .i64 cc] 40)).cell? ⟨b8, 3, none⟩ = some (.int .i64 cc) := r8.cell 3
      have HA : Hid _ := And.intro r8 (And.intro r10 (And.intro o0i (And.intro o0r (And.intro o1i (And.intro o1r (And.intro o2i (And.intro o2r (And.intro r14 (hB)))))))))
      clear r8 r10 o0i o0r o1i o1r o2i o2r r14 hB
      go_wp2_with fail
      generalize hbx : w21.heap.size = b14 at *
      generalize w21.alloc (.cells #[.slice p2 M1 d2, .slice q2 M2 e2, .int .i64 nw, .int .i64 cc] 40) = Z14 at *
      clear hbx
      obtain ⟨r8, r10, o0i, o0r, o1i, o1r, o2i, o2r, r14, hB⟩ := HA.out
      clear HA s0 s1 s2 s3 t0 t1 t2 t3
      refine (HQ.out p2 d2 q2 e2 Z14 (ownsI_in HM1.out o2i) (ownsR_in HM2.out o2r) (ownsI_in HM1.out o0i) (ownsR_in HM2.out o0r)).mono ?_
      rintro e_ w15 ⟨rfl, hbe⟩
      have r10 := r10.below hbe r10.lt
      have o1i := ownsI_below o1i hbe
      have o1r := ownsR_below o1r hbe
      have hB := hB.trans (hbe.mono hB.size)
      clear hbe
      clear r14 r8 o2i o2r o0i o0r
      have s0 : w15.cell? ⟨b10, 0, none⟩ = some (.slice p1 M1 d1) := r10.cell 0
      have s1 : w15.cell? ⟨b10, 1, none⟩ = some (.slice q1 M2 e1) := r10.cell 1
      have s2 : w15.cell? ⟨b10, 2, none⟩ = some (.int .i64 nw) := r10.cell 2
      have s3 : w15.cell? ⟨b10, 3, none⟩ = some (.int .i64 cc) := r10.cell 3
      go_wp2_with fail
      refine (HH.out w15 (ownsI_in (marksI_length 1 M1).symm o1i) (ownsR_in (marksR_length _ M2).symm o1r)).mono ?_
      rintro e_ w16 ⟨rfl, hb16⟩
      have hB := hB.trans (hb16.mono hB.size)
      clear hb16 s0 s1 s2 s3
      go_wp2
      go_ret
      exact ⟨rfl, hB⟩
end Go.Proofs.YtifckpncpjijiaaGreat
