/- The walk of the law on Offer. (Written by gen_woffer.py.) -/
import Derived.Test.YtflmbkjnlgibnaaPack24
import Derived.Test.YtflmbkjnlgibnaaPack11
import Derived.Test.YtflmbkjnlgibnaaPack15
import Derived.Test.YtflmbkjnlgibnaaPack16
namespace Go.Proofs.Ytflmbkjnlgibnaa
open Go.RowKit Go.Sort

theorem lt_neA {p : Option Addr} {b g n : Nat} (h : ∀ b, p = some ⟨b, 0, none⟩ → b < n) (hg : n ≤ g) (e : p = some ⟨b, 0, none⟩) : (some ⟨g, 0, none⟩ : Option Addr) ≠ some ⟨b, 0, none⟩ := fun e' => by
  have := h b e
  simp only [Option.some.injEq, Addr.mk.injEq, and_true] at e'
  omega
theorem base_neI {w : World} {base n cv g b : Nat} {p : Option Addr} {xs : List Value} (h : w.ownsRow base 82 5 (.slice p n cv) n xs) (hg : g < base) (e : p = some ⟨b, 0, none⟩) : (some ⟨g, 0, none⟩ : Option Addr) ≠ some ⟨b, 0, none⟩ := fun e' => ownsI_base h hg (by rw [e, ← e'])
theorem base_neR {w : World} {base n cv g b : Nat} {p : Option Addr} {xs : List Value} (h : w.ownsRow base 101 9 (.slice p n cv) n xs) (hg : g < base) (e : p = some ⟨b, 0, none⟩) : (some ⟨g, 0, none⟩ : Option Addr) ≠ some ⟨b, 0, none⟩ := fun e' => ownsR_base h hg (by rw [e, ← e'])
theorem ltR_of {w : World} {base n cv : Nat} {p : Option Addr} {xs : List Value} (h : w.ownsRow base 101 9 (.slice p n cv) n xs) : ∀ b, p = some ⟨b, 0, none⟩ → b < w.heap.size := fun b e => by
  subst e
  exact (World.ownsRow.lt h b rfl).2
theorem lt_baseI {w : World} {base n cv b : Nat} {p q : Option Addr} {xs : List Value} (h : w.ownsRow base 82 5 (.slice q n cv) n xs) (hl : ∀ b, p = some ⟨b, 0, none⟩ → b < base) (e : p = some ⟨b, 0, none⟩) : q ≠ some ⟨b, 0, none⟩ := ownsI_base h (hl b e)
theorem lt_baseR {w : World} {base n cv b : Nat} {p q : Option Addr} {xs : List Value} (h : w.ownsRow base 101 9 (.slice q n cv) n xs) (hl : ∀ b, p = some ⟨b, 0, none⟩ → b < base) (e : p = some ⟨b, 0, none⟩) : q ≠ some ⟨b, 0, none⟩ := ownsR_base h (hl b e)
theorem outI_le {r : Int × (List If × (List Rt × Int))} (h : r.2.1.length ≤ 10000000 ∧ r.2.2.1.length ≤ 100000000) : r.2.1.length ≤ 10000000 ∧ r.2.2.1.length ≤ 100000000 := h
theorem ownsE_kept {w w' : World} {base : Nat} {p : Option Addr} {n cv : Nat} {es : List Ent} (h : OwnE w base (.slice p n cv) es) (hk : ∀ b t l, p = some ⟨b, 0, none⟩ → Row w b t l → Row w' b t l) : OwnE w' base (.slice p n cv) es := by
  unfold OwnE at h ⊢
  refine ⟨h.1, ?_⟩
  rcases h.2 with h2 | ⟨g, cap, cur, e1, e2, e3, e4⟩
  · exact .inl h2
  · simp only [Value.slice.injEq] at e1
    obtain ⟨rfl, _, rfl⟩ := e1
    have := hk g 103 cur.toList rfl (by unfold Row; simpa using e3)
    exact .inr ⟨g, _, cur, by simp_all, e2, by unfold Row at this; simpa using this, e4⟩
theorem entsE {w : World} {base : Nat} {p : Option Addr} {n cv : Nat} {es : List Ent} (h : OwnE w base (.slice p n cv) es) : EntsIn w p es := by
  obtain ⟨p', c', e, hE⟩ := h.form
  cases e
  exact hE
theorem lenE {w : World} {base : Nat} {p : Option Addr} {n cv : Nat} {es : List Ent} (h : OwnE w base (.slice p n cv) es) : n = es.length := h.opened.1
theorem ownsE_ne {w : World} {base n cv g : Nat} {p : Option Addr} {es : List Ent} {l : List Value} {t : TypeId} (h : OwnE w base (.slice p n cv) es) (hr : Row w g t l) (ht : t ≠ 103) : p ≠ some ⟨g, 0, none⟩ := by
  rintro rfl
  unfold OwnE at h
  rcases h.2 with ⟨h1, _⟩ | ⟨g', cap, cur, h1, _, h3, _⟩
  · simp at h1
  · simp only [Value.slice.injEq, Option.some.injEq, Addr.mk.injEq, and_true] at h1
    obtain ⟨rfl, _⟩ := h1
    unfold Row at hr
    rw [h3] at hr
    simp only [Option.some.injEq, Obj.cells.injEq] at hr
    exact ht hr.2.1.symm
theorem ownsE_base {w : World} {base n cv g : Nat} {p : Option Addr} {es : List Ent} (h : OwnE w base (.slice p n cv) es) (hg : g < base) : p ≠ some ⟨g, 0, none⟩ := by
  rintro rfl
  unfold OwnE at h
  have := (World.ownsRow.lt h g rfl).1
  omega
theorem base_neE {w : World} {base n cv g b : Nat} {p : Option Addr} {es : List Ent} (h : OwnE w base (.slice p n cv) es) (hg : g < base) (e : p = some ⟨b, 0, none⟩) : (some ⟨g, 0, none⟩ : Option Addr) ≠ some ⟨b, 0, none⟩ := fun e' => ownsE_base h hg (by rw [e, ← e'])
theorem ltE_of {w : World} {base n cv : Nat} {p : Option Addr} {es : List Ent} (h : OwnE w base (.slice p n cv) es) : ∀ b, p = some ⟨b, 0, none⟩ → b < w.heap.size := fun b e => by
  subst e
  unfold OwnE at h
  exact (World.ownsRow.lt h b rfl).2
set_option maxRecDepth 100000 in
set_option maxHeartbeats 8000000 in
theorem fnExactOffer_walk (x : Option Addr) (n1 c1 : Nat) (is : List If) (y : Option Addr) (n2 c2 : Nat) (rs : List Rt) (now : Int) (i : Int) (all : Bool) (w : World) (h1 : ArgI w x n1 is) (h2 : ArgR w y n2 rs) (_hw : (Lit.int .i64 now).wf = true) (_hi : (Lit.int .i64 i).wf = true) :
    Calls Try.prog 6 #[instV x n1 c1 y n2 c2 now, .int .i64 i, .bool all] w fun r w' => r = .returned (.bool true) ∧ Below w.heap.size w w' := by
  obtain rfl : is.length = n1 := h1.1
  obtain rfl : rs.length = n2 := h2.1
  have HZ : Hid (∀ w, Calls Try.prog 9 #[instV x is.length c1 y rs.length c2 now, .int .i64 1048576] w fun e w' => (∃ v : Int, e = .returned (.int .i64 v) ∧ (v < 0 ∨ 0 ≤ v ∧ is.length ≤ 1048576 ∧ rs.length ≤ 1048576)) ∧ Below w.heap.size w w') := fun w => szInst_any x is.length c1 y rs.length c2 now w h1.2.1 h2.2.1
  have HT0 : Hid (is.length ≤ 1048576 → rs.length ≤ 1048576 → ∀ w, ArgI w x is.length is → ArgR w y rs.length rs → Calls Try.prog 11 #[instV x is.length c1 y rs.length c2 now] w fun e w' => ∃ g h, e = .returned (instV (some ⟨g, 0, none⟩) is.length is.length (some ⟨h, 0, none⟩) rs.length rs.length now) ∧ w.heap.size ≤ g ∧ w.heap.size ≤ h ∧ Row w' g 82 (rowI is) ∧ Row w' h 101 (rowR rs) ∧ Below w.heap.size w w') := fun a b w p q => toInst_new x c1 y c2 is rs now w p q a b
  have HS0 : Hid (is.length ≤ 1048576 → rs.length ≤ 1048576 → ∀ g h w, Row w g 82 (rowI is) → Row w h 101 (rowR rs) → Calls Try.prog 25 #[instV (some ⟨g, 0, none⟩) is.length is.length (some ⟨h, 0, none⟩) rs.length rs.length now, .int .i64 i, .bool all] w fun e w' => (∃ v, e = .returned v ∧ OwnE w' w.heap.size v (offerO is rs now i all)) ∧ Below w.heap.size w w') := fun a b g h w p q => specOffer_any (some ⟨g, 0, none⟩) is.length (some ⟨h, 0, none⟩) rs.length is rs now i all w (ifsIn_row p) (Nat.le_refl _) (rtsIn_row q) (by omega) (by omega)
  have HI0 : Hid (is.length ≤ 1048576 → rs.length ≤ 1048576 → ∀ g h w, Row w g 82 (rowI is) → Row w h 101 (rowR rs) → Calls Try.prog 26 #[instV (some ⟨g, 0, none⟩) is.length is.length (some ⟨h, 0, none⟩) rs.length rs.length now, .int .i64 i, .bool all] w fun e w' => (∃ v, e = .returned v ∧ OwnE w' w.heap.size v (offerO is rs now i all)) ∧ Below w.heap.size w w') := fun a b g h w p q => implOffer_any (some ⟨g, 0, none⟩) is.length (some ⟨h, 0, none⟩) rs.length is rs now i all w (ifsIn_row p) (Nat.le_refl _) (fun e => by cases e) (rtsIn_row q) (fun e => by cases e) (by omega) (by omega)
  have HE0 : Hid (is.length ≤ 1048576 → rs.length ≤ 1048576 → ∀ p q r s w, IfsIn w p is → IfsIn w q is → RtsIn w r rs → RtsIn w s rs → Calls Try.prog 13 #[instV p is.length is.length r rs.length rs.length now, instV q is.length is.length s rs.length rs.length now] w fun e w' => e = .returned (.bool true) ∧ Below w.heap.size w w') := fun a b p q r s w k1 k2 k3 k4 => eqInst_any p q _ _ r s _ _ is rs now w k1 k2 k3 k4 (by omega) (by omega)
  have HL : Hid ((offerO is rs now i all).length ≤ 1000) := offerO_le is rs now i all
  have HX : Hid (ArgI w x is.length is ∧ ArgR w y rs.length rs) := ⟨h1, h2⟩
  clear h1 h2
  generalize offerO is rs now i all = es at *
  unfold instV at *
  generalize hM : es.length = M at *
  have HM : Hid (M = es.length) := hM.symm
  generalize hN1 : is.length = n1 at *
  have HN1 : Hid (n1 = is.length) := hN1.symm
  generalize hN2 : rs.length = n2 at *
  have HN2 : Hid (n2 = rs.length) := hN2.symm
  clear hM hN1 hN2
  go_enter Try.func6, Try.ntmps6
  go_wp2_with fail
  refine (HZ.out _).mono ?_
  rintro e_ w1 ⟨⟨v, rfl, hv⟩, hb1⟩
  obtain ⟨r0, hB⟩ := box3i hb1
  clear hb1 HZ
  rcases hv with hv | ⟨hv, hn1, hn2⟩
  · have d : decide (v < 0) = true := by simpa using hv
    clear hv
    go_wp2
    go_ret
    exact ⟨rfl, hB⟩
  · have d : decide (v < 0) = false := by simp; omega
    have HT : Hid _ := HT0.out hn1 hn2
    have HS : Hid _ := HS0.out hn1 hn2
    have HI : Hid _ := HI0.out hn1 hn2
    have HE : Hid _ := HE0.out hn1 hn2
    clear HT0 HS0 HI0 HE0 hv
    have y0 : w1.cell? ⟨w.heap.size, 0, none⟩ = some (.slice x n1 c1) := r0.cell 0
    have y1 : w1.cell? ⟨w.heap.size, 1, none⟩ = some (.slice y n2 c2) := r0.cell 1
    have y2 : w1.cell? ⟨w.heap.size, 2, none⟩ = some (.int .i64 now) := r0.cell 2
    go_wp2_with fail
    refine (HT.out _ (HX.out.1.below hB) (HX.out.2.below hB)).mono ?_
    rintro e_ w2 ⟨g2, h2, rfl, -, -, ri, rr, hb2⟩
    have r0 := r0.below hb2 r0.lt
    have hB := hB.trans (hb2.mono hB.size)
    clear hb2 y0 y1 y2
    go_wp2_with fail
    refine (HS.out g2 h2 _ ri rr).mono ?_
    rintro e_ w3 ⟨⟨v0, rfl, o0⟩, hb3⟩
    have r0 := r0.below hb3 r0.lt
    have hB := hB.trans (hb3.mono hB.size)
    clear hb3 ri rr HS
    obtain ⟨p0, j0, rfl, -⟩ := o0.form
    rw [← HM.out] at o0 ⊢
    have HQ : Hid (∀ p d w, EntsIn w p es → EntsIn w p0 es → Calls Try.prog 27 #[.slice p M d, .slice p0 M j0] w fun r w' => r = .returned (.bool true) ∧ Below w.heap.size w w') := fun p d w h1 h2 => by have := eqEntryS_any p p0 d j0 es w h1 h2 (by rw [← HM.out]; have := HL.out; omega); rw [← HM.out] at this; exact this
    have y0 : w3.cell? ⟨w.heap.size, 0, none⟩ = some (.slice x n1 c1) := r0.cell 0
    have y1 : w3.cell? ⟨w.heap.size, 1, none⟩ = some (.slice y n2 c2) := r0.cell 1
    have y2 : w3.cell? ⟨w.heap.size, 2, none⟩ = some (.int .i64 now) := r0.cell 2
    go_wp2_with fail
    clear y0 y1 y2
    have LE5 := ltE_of o0
    refine (HT.out _ (HX.out.1.below hB) (HX.out.2.below hB)).mono ?_
    rintro e_ w5 ⟨g5, h5, rfl, hg5, hh5, r5i, r5r, hb5⟩
    have G5 : w.heap.size ≤ g5 := Nat.le_trans hB.size hg5
    have H5 : w.heap.size ≤ h5 := Nat.le_trans hB.size hh5
    have r0 := r0.below hb5 r0.lt
    have o0 := o0.below hb5
    have hB := hB.trans (hb5.mono hB.size)
    clear hb5
    have r0 := r0.alloc (.cells #[.slice (some ⟨g5, 0, none⟩) n1 n1, .slice (some ⟨h5, 0, none⟩) n2 n2, .int .i64 now] 35)
    have r5i := r5i.alloc (.cells #[.slice (some ⟨g5, 0, none⟩) n1 n1, .slice (some ⟨h5, 0, none⟩) n2 n2, .int .i64 now] 35)
    have r5r := r5r.alloc (.cells #[.slice (some ⟨g5, 0, none⟩) n1 n1, .slice (some ⟨h5, 0, none⟩) n2 n2, .int .i64 now] 35)
    have o0 := o0.alloc (.cells #[.slice (some ⟨g5, 0, none⟩) n1 n1, .slice (some ⟨h5, 0, none⟩) n2 n2, .int .i64 now] 35)
    have r9 := Row.new w5 35 [.slice (some ⟨g5, 0, none⟩) n1 n1, .slice (some ⟨h5, 0, none⟩) n2 n2, .int .i64 now]
    have hB := hB.alloc (by have := hB.size; omega) (.cells #[.slice (some ⟨g5, 0, none⟩) n1 n1, .slice (some ⟨h5, 0, none⟩) n2 n2, .int .i64 now] 35)
    have y0 : (w5.alloc (.cells #[.slice (some ⟨g5, 0, none⟩) n1 n1, .slice (some ⟨h5, 0, none⟩) n2 n2, .int .i64 now] 35)).cell? ⟨w5.heap.size, 0, none⟩ = some (.slice (some ⟨g5, 0, none⟩) n1 n1) := r9.cell 0
    have y1 : (w5.alloc (.cells #[.slice (some ⟨g5, 0, none⟩) n1 n1, .slice (some ⟨h5, 0, none⟩) n2 n2, .int .i64 now] 35)).cell? ⟨w5.heap.size, 1, none⟩ = some (.slice (some ⟨h5, 0, none⟩) n2 n2) := r9.cell 1
    have y2 : (w5.alloc (.cells #[.slice (some ⟨g5, 0, none⟩) n1 n1, .slice (some ⟨h5, 0, none⟩) n2 n2, .int .i64 now] 35)).cell? ⟨w5.heap.size, 2, none⟩ = some (.int .i64 now) := r9.cell 2
    have HA : Hid _ := And.intro r0 (And.intro r5i (And.intro r5r (And.intro o0 (And.intro r9 (hB)))))
    clear r0 r5i r5r o0 r9 hB
    go_wp2_with fail
    generalize hbx : w5.heap.size = b9 at *
    generalize w5.alloc (.cells #[.slice (some ⟨g5, 0, none⟩) n1 n1, .slice (some ⟨h5, 0, none⟩) n2 n2, .int .i64 now] 35) = Z9 at *
    clear hbx
    obtain ⟨r0, r5i, r5r, o0, r9, hB⟩ := HA.out
    clear HA y0 y1 y2
    have G57 := r5i.lt
    have H57 := r5r.lt
    have LE7 := ltE_of o0
    refine (HI.out g5 h5 _ r5i r5r).mono ?_
    rintro e_ w7 ⟨⟨v1, rfl, o1⟩, hb7⟩
    have r0 := r0.below hb7 r0.lt
    have r5i := r5i.below hb7 r5i.lt
    have r5r := r5r.below hb7 r5r.lt
    have r9 := r9.below hb7 r9.lt
    have o0 := o0.below hb7
    have hB7 := hB.size
    have hB := hB.trans (hb7.mono hB.size)
    have hb7s := hb7.size
    generalize hn7 : Z9.heap.size = n7 at *
    clear hb7 hn7
    obtain ⟨p1, j1, rfl, -⟩ := o1.form
    rw [← HM.out] at o1 ⊢
    go_wp2_with fail
    refine (HQ.out p1 j1 w7 (entsE o1) (entsE o0)).mono ?_
    rintro e_ w10 ⟨rfl, hbe⟩
    have r0 := r0.below hbe r0.lt
    have r5i := r5i.below hbe r5i.lt
    have r5r := r5r.below hbe r5r.lt
    have r9 := r9.below hbe r9.lt
    have o0 := o0.below hbe
    have o1 := o1.below hbe
    have hB := hB.trans (hbe.mono hB.size)
    clear hbe
    go_wp2_with fail
    have hGN : (([(35, Is (.agg #[.slice (some ⟨g5, 0, none⟩) n1 n1, .slice (some ⟨h5, 0, none⟩) n2 n2, .int .i64 now])), (36, Is (.agg #[.slice x n1 c1, .slice y n2 c2, .int .i64 now])), (37, fun v W => ∃ g h, v = .agg #[.slice (some ⟨g, 0, none⟩) n1 n1, .slice (some ⟨h, 0, none⟩) n2 n2, .int .i64 now] ∧ Row W g 82 (rowI is) ∧ Row W h 101 (rowR rs)), (38, Is (.bool true)), (39, Is (.bool false))] : List (Nat × (Value → World → Prop))).map (·.1)).Nodup := by simp
    refine wp_region_steady 5 (SlotG [(35, Is (.agg #[.slice (some ⟨g5, 0, none⟩) n1 n1, .slice (some ⟨h5, 0, none⟩) n2 n2, .int .i64 now])), (36, Is (.agg #[.slice x n1 c1, .slice y n2 c2, .int .i64 now])), (37, fun v W => ∃ g h, v = .agg #[.slice (some ⟨g, 0, none⟩) n1 n1, .slice (some ⟨h, 0, none⟩) n2 n2, .int .i64 now] ∧ Row W g 82 (rowI is) ∧ Row W h 101 (rowR rs)), (38, Is (.bool true)), (39, Is (.bool false))]) (by kernel_rfl) (by kernel_rfl) (Stabs.all ⟨stab_is _, stab_is _, stab_inst n1 n2 now is rs, stab_is _, stab_is _, trivial⟩) ?_ ?_
    · intro o ho
      simp only [List.take_succ_cons, List.take_zero, List.mem_cons, List.not_mem_nil, or_false] at ho
      rcases ho with rfl | rfl | rfl | rfl | rfl
      · intro a' w' hb ha hdep
        have d9 : a'.tmps.getD 9 undef = .pointer (some ⟨b9, 0, none⟩) := ha.at 9 (by kernel_rfl)
        have hmk := fun (x : Value) (W : World) => SlotG.mk (x := x) (w := W) 0 rfl hGN
        clear hGN ha hdep
        have y0 : w'.cell? ⟨b9, 0, none⟩ = some (.slice (some ⟨g5, 0, none⟩) n1 n1) := (r9.below hb r9.lt).cell 0
        have y1 : w'.cell? ⟨b9, 1, none⟩ = some (.slice (some ⟨h5, 0, none⟩) n2 n2) := (r9.below hb r9.lt).cell 1
        have y2 : w'.cell? ⟨b9, 2, none⟩ = some (.int .i64 now) := (r9.below hb r9.lt).cell 2
        go_simp
        exact ⟨_, rfl, Below.refl _ _, hmk _ _ rfl⟩
      · intro a' w' hb ha hdep
        have d3 : a'.tmps.getD 3 undef = .pointer (some ⟨w.heap.size, 0, none⟩) := ha.at 3 (by kernel_rfl)
        have hmk := fun (x : Value) (W : World) => SlotG.mk (x := x) (w := W) 1 rfl hGN
        clear hGN ha hdep
        have y0 : w'.cell? ⟨w.heap.size, 0, none⟩ = some (.slice x n1 c1) := (r0.below hb r0.lt).cell 0
        have y1 : w'.cell? ⟨w.heap.size, 1, none⟩ = some (.slice y n2 c2) := (r0.below hb r0.lt).cell 1
        have y2 : w'.cell? ⟨w.heap.size, 2, none⟩ = some (.int .i64 now) := (r0.below hb r0.lt).cell 2
        go_simp
        exact ⟨_, rfl, Below.refl _ _, hmk _ _ rfl⟩
      · intro a' w' hb ha hdep
        have d36 : a'.tmps.getD 36 undef = .agg #[.slice x n1 c1, .slice y n2 c2, .int .i64 now] := (hdep 36 (of_decide_eq_true (by kernel_rfl))).is 1 rfl
        have hmk := fun (x : Value) (W : World) => SlotG.mk (x := x) (w := W) 2 rfl hGN
        clear hGN ha hdep
        go_simp
        refine (HT.out _ (HX.out.1.below (hB.trans (hb.mono hB.size))) (HX.out.2.below (hB.trans (hb.mono hB.size)))).mono ?_
        rintro e w2 ⟨g, h, rfl, -, -, r7, r8, hb2⟩
        exact ⟨_, rfl, hb2, hmk _ _ ⟨g, h, rfl, r7, r8⟩⟩
      · intro a' w' hb ha hdep
        have d35 : a'.tmps.getD 35 undef = .agg #[.slice (some ⟨g5, 0, none⟩) n1 n1, .slice (some ⟨h5, 0, none⟩) n2 n2, .int .i64 now] := (hdep 35 (of_decide_eq_true (by kernel_rfl))).is 0 rfl
        have D37 := (hdep 37 (of_decide_eq_true (by kernel_rfl))).get 2 rfl
        have hmk := fun (x : Value) (W : World) => SlotG.mk (x := x) (w := W) 3 rfl hGN
        clear hGN ha hdep
        obtain ⟨g, h, d37, r7, r8⟩ := D37
        go_simp
        refine (HE.out _ _ _ _ _ (ifsIn_row (r5i.below hb r5i.lt)) (ifsIn_row r7) (rtsIn_row (r5r.below hb r5r.lt)) (rtsIn_row r8)).mono ?_
        rintro e w2 ⟨rfl, hb2⟩
        exact ⟨_, rfl, hb2, hmk _ _ rfl⟩
      · intro a' w' hb ha hdep
        have d38 : a'.tmps.getD 38 undef = .bool true := (hdep 38 (of_decide_eq_true (by kernel_rfl))).is 3 rfl
        have hmk := fun (x : Value) (W : World) => SlotG.mk (x := x) (w := W) 4 rfl hGN
        clear hGN ha hdep
        go_simp
        exact ⟨_, rfl, Below.refl _ _, hmk _ _ rfl⟩
    · intro a' w' hb ha hG
      clear hGN
      have d39 : a'.tmps.getD 39 undef = .bool false := (hG _ (List.mem_of_getElem? (i := 4) rfl) 39 rfl).is 4 rfl
      have d3 : a'.tmps.getD 3 undef = .pointer (some ⟨w.heap.size, 0, none⟩) := ha.at 3 (by kernel_rfl)
      have d9 : a'.tmps.getD 9 undef = .pointer (some ⟨b9, 0, none⟩) := ha.at 9 (by kernel_rfl)
      have d1 : a'.tmps.getD 1 undef = .int .i64 i := ha.at 1 (by kernel_rfl)
      have d2 : a'.tmps.getD 2 undef = .bool all := ha.at 2 (by kernel_rfl)
      have d8 : a'.tmps.getD 8 undef = .slice p0 M j0 := ha.at 8 (by kernel_rfl)
      have d10 : a'.tmps.getD 10 undef = .slice p1 M j1 := ha.at 10 (by kernel_rfl)
      have e2 : a' = ⟨#[a'.tmps.getD 0 undef, a'.tmps.getD 1 undef, a'.tmps.getD 2 undef, a'.tmps.getD 3 undef, a'.tmps.getD 4 undef, a'.tmps.getD 5 undef, a'.tmps.getD 6 undef, a'.tmps.getD 7 undef, a'.tmps.getD 8 undef, a'.tmps.getD 9 undef, a'.tmps.getD 10 undef, a'.tmps.getD 11 undef, a'.tmps.getD 12 undef, a'.tmps.getD 13 undef, a'.tmps.getD 14 undef, a'.tmps.getD 15 undef, a'.tmps.getD 16 undef, a'.tmps.getD 17 undef, a'.tmps.getD 18 undef, a'.tmps.getD 19 undef, a'.tmps.getD 20 undef, a'.tmps.getD 21 undef, a'.tmps.getD 22 undef, a'.tmps.getD 23 undef, a'.tmps.getD 24 undef, a'.tmps.getD 25 undef, a'.tmps.getD 26 undef, a'.tmps.getD 27 undef, a'.tmps.getD 28 undef, a'.tmps.getD 29 undef, a'.tmps.getD 30 undef, a'.tmps.getD 31 undef, a'.tmps.getD 32 undef, a'.tmps.getD 33 undef, a'.tmps.getD 34 undef, a'.tmps.getD 35 undef, a'.tmps.getD 36 undef, a'.tmps.getD 37 undef, a'.tmps.getD 38 undef, a'.tmps.getD 39 undef, a'.tmps.getD 40 undef, a'.tmps.getD 41 undef, a'.tmps.getD 42 undef, a'.tmps.getD 43 undef, a'.tmps.getD 44 undef, a'.tmps.getD 45 undef, a'.tmps.getD 46 undef, a'.tmps.getD 47 undef, a'.tmps.getD 48 undef, a'.tmps.getD 49 undef, a'.tmps.getD 50 undef, a'.tmps.getD 51 undef, a'.tmps.getD 52 undef, a'.tmps.getD 53 undef, a'.tmps.getD 54 undef, a'.tmps.getD 55 undef, a'.tmps.getD 56 undef, a'.tmps.getD 57 undef, a'.tmps.getD 58 undef, a'.tmps.getD 59 undef, a'.tmps.getD 60 undef, a'.tmps.getD 61 undef, a'.tmps.getD 62 undef, a'.tmps.getD 63 undef, a'.tmps.getD 64 undef, a'.tmps.getD 65 undef, a'.tmps.getD 66 undef, a'.tmps.getD 67 undef, a'.tmps.getD 68 undef, a'.tmps.getD 69 undef, a'.tmps.getD 70 undef, a'.tmps.getD 71 undef, a'.tmps.getD 72 undef, a'.tmps.getD 73 undef, a'.tmps.getD 74 undef, a'.tmps.getD 75 undef, a'.tmps.getD 76 undef, a'.tmps.getD 77 undef, a'.tmps.getD 78 undef], []⟩ := by rw [← (show a'.defers = [] from ha.2.1)]; exact act_eq a' 79 ha.1
      rw [d39, d3, d9, d1, d2, d8, d10] at e2
      clear hG ha d39 d3 d9 d1 d2 d8 d10
      generalize a'.tmps.getD 0 undef = x0 at *
      generalize a'.tmps.getD 4 undef = x4 at *
      generalize a'.tmps.getD 5 undef = x5 at *
      generalize a'.tmps.getD 6 undef = x6 at *
      generalize a'.tmps.getD 7 undef = x7 at *
      generalize a'.tmps.getD 11 undef = x11 at *
      generalize a'.tmps.getD 12 undef = x12 at *
      generalize a'.tmps.getD 13 undef = x13 at *
      generalize a'.tmps.getD 14 undef = x14 at *
      generalize a'.tmps.getD 15 undef = x15 at *
      generalize a'.tmps.getD 16 undef = x16 at *
      generalize a'.tmps.getD 17 undef = x17 at *
      generalize a'.tmps.getD 18 undef = x18 at *
      generalize a'.tmps.getD 19 undef = x19 at *
      generalize a'.tmps.getD 20 undef = x20 at *
      generalize a'.tmps.getD 21 undef = x21 at *
      generalize a'.tmps.getD 22 undef = x22 at *
      generalize a'.tmps.getD 23 undef = x23 at *
      generalize a'.tmps.getD 24 undef = x24 at *
      generalize a'.tmps.getD 25 undef = x25 at *
      generalize a'.tmps.getD 26 undef = x26 at *
      generalize a'.tmps.getD 27 undef = x27 at *
      generalize a'.tmps.getD 28 undef = x28 at *
      generalize a'.tmps.getD 29 undef = x29 at *
      generalize a'.tmps.getD 30 undef = x30 at *
      generalize a'.tmps.getD 31 undef = x31 at *
      generalize a'.tmps.getD 32 undef = x32 at *
      generalize a'.tmps.getD 33 undef = x33 at *
      generalize a'.tmps.getD 34 undef = x34 at *
      generalize a'.tmps.getD 35 undef = x35 at *
      generalize a'.tmps.getD 36 undef = x36 at *
      generalize a'.tmps.getD 37 undef = x37 at *
      generalize a'.tmps.getD 38 undef = x38 at *
      generalize a'.tmps.getD 40 undef = x40 at *
      generalize a'.tmps.getD 41 undef = x41 at *
      generalize a'.tmps.getD 42 undef = x42 at *
      generalize a'.tmps.getD 43 undef = x43 at *
      generalize a'.tmps.getD 44 undef = x44 at *
      generalize a'.tmps.getD 45 undef = x45 at *
      generalize a'.tmps.getD 46 undef = x46 at *
      generalize a'.tmps.getD 47 undef = x47 at *
      generalize a'.tmps.getD 48 undef = x48 at *
      generalize a'.tmps.getD 49 undef = x49 at *
      generalize a'.tmps.getD 50 undef = x50 at *
      generalize a'.tmps.getD 51 undef = x51 at *
      generalize a'.tmps.getD 52 undef = x52 at *
      generalize a'.tmps.getD 53 undef = x53 at *
      generalize a'.tmps.getD 54 undef = x54 at *
      generalize a'.tmps.getD 55 undef = x55 at *
      generalize a'.tmps.getD 56 undef = x56 at *
      generalize a'.tmps.getD 57 undef = x57 at *
      generalize a'.tmps.getD 58 undef = x58 at *
      generalize a'.tmps.getD 59 undef = x59 at *
      generalize a'.tmps.getD 60 undef = x60 at *
      generalize a'.tmps.getD 61 undef = x61 at *
      generalize a'.tmps.getD 62 undef = x62 at *
      generalize a'.tmps.getD 63 undef = x63 at *
      generalize a'.tmps.getD 64 undef = x64 at *
      generalize a'.tmps.getD 65 undef = x65 at *
      generalize a'.tmps.getD 66 undef = x66 at *
      generalize a'.tmps.getD 67 undef = x67 at *
      generalize a'.tmps.getD 68 undef = x68 at *
      generalize a'.tmps.getD 69 undef = x69 at *
      generalize a'.tmps.getD 70 undef = x70 at *
      generalize a'.tmps.getD 71 undef = x71 at *
      generalize a'.tmps.getD 72 undef = x72 at *
      generalize a'.tmps.getD 73 undef = x73 at *
      generalize a'.tmps.getD 74 undef = x74 at *
      generalize a'.tmps.getD 75 undef = x75 at *
      generalize a'.tmps.getD 76 undef = x76 at *
      generalize a'.tmps.getD 77 undef = x77 at *
      generalize a'.tmps.getD 78 undef = x78 at *
      subst e2
      simp only [List.drop_succ_cons, List.drop_zero]
      have r0 := r0.below hb r0.lt
      have r5i := r5i.below hb r5i.lt
      have r5r := r5r.below hb r5r.lt
      have r9 := r9.below hb r9.lt
      have o0 := o0.below hb
      have o1 := o1.below hb
      have hB := hB.trans (hb.mono hB.size)
      have hb10s := hB.size
      clear hb HE
      have xx0 : w'.cell? ⟨b9, 0, none⟩ = some (.slice (some ⟨g5, 0, none⟩) n1 n1) := r9.cell 0
      have xx1 : w'.cell? ⟨b9, 1, none⟩ = some (.slice (some ⟨h5, 0, none⟩) n2 n2) := r9.cell 1
      have xx2 : w'.cell? ⟨b9, 2, none⟩ = some (.int .i64 now) := r9.cell 2
      have HR : Hid _ := And.intro r0 (And.intro o0 (And.intro o1 (And.intro r5i (And.intro r5r hB))))
      clear r0 o0 o1 r5i r5r hB r9
      go_wp2_with fail
      obtain ⟨r0, o0, o1, r5i, r5r, hB⟩ := HR.out
      clear HR xx0 xx1 xx2
      have o5i := ownsI_mono (base' := w.heap.size) (ownsI_row HN1.out (by omega) r5i) G5
      have o5r := ownsR_mono (base' := w.heap.size) (ownsR_row HN2.out (by omega) r5r) H5
      refine (markInst_any 1 (some ⟨g5, 0, none⟩) n1 n1 (some ⟨h5, 0, none⟩) n2 n2 now w.heap.size is rs w' HN1.out HN2.out (by omega) (by omega) (by omega) o5i o5r hB.size).mono ?_
      rintro e_ w11 ⟨rfl, -, -, hb11, hkp⟩
      have r0 := hkp _ _ _ (ownsI_ne o5i r0 (by decide)) (ownsR_ne o5r r0 (by decide)) r0
      have o0 := ownsE_kept o0 (fun b t l e hr => hkp b t l (lt_neA LE5 hg5 e) (lt_neA LE5 hh5 e) hr)
      have o1 := ownsE_kept o1 (fun b t l e hr => hkp b t l (base_neE o1 G57 e) (base_neE o1 H57 e) hr)
      have hB := hB.trans hb11
      clear hb11 hkp o5i o5r r5i r5r
      have dK : decide (((1 : Nat) : Int) + 5 * (n1 : Int) + 9 * (n2 : Int) < 0) = false := by simp; omega
      go_wp2_with fail
      refine (HQ.out p1 j1 w11 (entsE o1) (entsE o0)).mono ?_
      rintro e_ w12 ⟨rfl, hbe⟩
      have r0 := r0.below hbe r0.lt
      have o0 := o0.below hbe
      have o1 := o1.below hbe
      have hB := hB.trans (hbe.mono hB.size)
      clear hbe
      clear dK
      go_wp2_with fail
      refine (markEntryS_any p1 M j1 n7 es w12 HL.out o1).mono ?_
      rintro e_ w13 ⟨rfl, o1', hb13, hkp⟩
      have r0 := hkp _ _ _ (ownsE_ne o1 r0 (by decide)) r0
      have o0 := ownsE_kept o0 (fun b t l e hr => hkp b t l (fun e2 => ownsE_base o1 (LE7 b e) e2) hr)
      have hB := hB.trans (hb13.mono (by omega))
      clear hb13 hkp o1
      have o1 := o1'
      clear o1'
      go_wp2_with fail
      refine (heldEntryS_in p1 M j1 w13 HL.out (entsE o1)).mono ?_
      rintro e_ w14 ⟨rfl, rfl⟩
      have dN : decide (1 + 5 * (M : Int) < 0) = false := by simp; omega
      have dM : ((1 + 5 * (M : Int)) != (1 + 5 * (M : Int))) = false := by simp
      have y0 : w13.cell? ⟨w.heap.size, 0, none⟩ = some (.slice x n1 c1) := r0.cell 0
      have y1 : w13.cell? ⟨w.heap.size, 1, none⟩ = some (.slice y n2 c2) := r0.cell 1
      have y2 : w13.cell? ⟨w.heap.size, 2, none⟩ = some (.int .i64 now) := r0.cell 2
      go_wp2_with fail
      refine (HT.out _ (HX.out.1.below hB) (HX.out.2.below hB)).mono ?_
      rintro e_ w20 ⟨g20, h20, rfl, -, -, ri20, rr20, hb20⟩
      have r0 := r0.below hb20 r0.lt
      have o0 := o0.below hb20
      have o1 := o1.below hb20
      have hB := hB.trans (hb20.mono hB.size)
      clear hb20 y0 y1 y2
      go_wp2_with fail
      refine (HI.out g20 h20 _ ri20 rr20).mono ?_
      rintro e_ w21 ⟨⟨v2, rfl, o2⟩, hb21⟩
      have o0 := o0.below hb21
      have o1 := o1.below hb21
      have hB := hB.trans (hb21.mono hB.size)
      clear hb21 ri20 rr20 r0 HX HT HI
      obtain ⟨p2, j2, rfl, -⟩ := o2.form
      rw [← HM.out] at o2 ⊢
      go_wp2_with fail
      refine (HQ.out p2 j2 w21 (entsE o2) (entsE o0)).mono ?_
      rintro e_ w15 ⟨rfl, hbe⟩
      have o1 := o1.below hbe
      have hB := hB.trans (hbe.mono hB.size)
      clear hbe
      clear o2 o0
      go_wp2_with fail
      refine (heldEntryS_in p1 M j1 w15 HL.out (entsE o1)).mono ?_
      rintro e_ w16 ⟨rfl, rfl⟩
      go_wp2
      go_ret
      exact ⟨rfl, hB⟩
end Go.Proofs.Ytflmbkjnlgibnaa
