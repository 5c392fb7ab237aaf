/- The walk of the law on HearRip. (Written by gen_whear.py.) -/
import Derived.Test.YtifckpncpjijiaaGreatPack38
import Derived.Test.YtifckpncpjijiaaGreatPack37
import Derived.Test.YtifckpncpjijiaaGreatPack18
import Derived.Test.YtifckpncpjijiaaGreatPack13
namespace Go.Proofs.YtifckpncpjijiaaGreat
open Go.RowKit Go.Sort

theorem lt_neA {p : Option Addr} {b g n : Nat} (h : ∀ b, p = some ⟨b, 0, none⟩ → b < n) (hg : n ≤ g) (e : p = some ⟨b, 0, none⟩) : (some ⟨g, 0, none⟩ : Option Addr) ≠ some ⟨b, 0, none⟩ := fun e' => by
  have := h b e
  simp only [Option.some.injEq, Addr.mk.injEq, and_true] at e'
  omega
theorem base_neI {w : World} {base n cv g b : Nat} {p : Option Addr} {xs : List Value} (h : w.ownsRow base 89 5 (.slice p n cv) n xs) (hg : g < base) (e : p = some ⟨b, 0, none⟩) : (some ⟨g, 0, none⟩ : Option Addr) ≠ some ⟨b, 0, none⟩ := fun e' => ownsI_base h hg (by rw [e, ← e'])
theorem base_neR {w : World} {base n cv g b : Nat} {p : Option Addr} {xs : List Value} (h : w.ownsRow base 98 9 (.slice p n cv) n xs) (hg : g < base) (e : p = some ⟨b, 0, none⟩) : (some ⟨g, 0, none⟩ : Option Addr) ≠ some ⟨b, 0, none⟩ := fun e' => ownsR_base h hg (by rw [e, ← e'])
theorem ltR_of {w : World} {base n cv : Nat} {p : Option Addr} {xs : List Value} (h : w.ownsRow base 98 9 (.slice p n cv) n xs) : ∀ b, p = some ⟨b, 0, none⟩ → b < w.heap.size := fun b e => by
  subst e
  exact (World.ownsRow.lt h b rfl).2
theorem lt_baseI {w : World} {base n cv b : Nat} {p q : Option Addr} {xs : List Value} (h : w.ownsRow base 89 5 (.slice q n cv) n xs) (hl : ∀ b, p = some ⟨b, 0, none⟩ → b < base) (e : p = some ⟨b, 0, none⟩) : q ≠ some ⟨b, 0, none⟩ := ownsI_base h (hl b e)
theorem lt_baseR {w : World} {base n cv b : Nat} {p q : Option Addr} {xs : List Value} (h : w.ownsRow base 98 9 (.slice q n cv) n xs) (hl : ∀ b, p = some ⟨b, 0, none⟩ → b < base) (e : p = some ⟨b, 0, none⟩) : q ≠ some ⟨b, 0, none⟩ := ownsR_base h (hl b e)
theorem outI_le {r : Int × (List If × (List Rt × Int))} (h : r.2.1.length ≤ 10000000 ∧ r.2.2.1.length ≤ 100000000) : r.2.1.length ≤ 10000000 ∧ r.2.2.1.length ≤ 100000000 := h
theorem row_neT {w : World} {b g : Nat} {t t' : TypeId} {l l' : List Value} (h : Row w b t l) (h' : Row w g t' l') (ht : t ≠ t') : b ≠ g := by
  rintro rfl
  unfold Row at h h'
  rw [h] at h'
  simp only [Option.some.injEq, Obj.cells.injEq] at h'
  exact ht h'.2.1
theorem entsIn_rowH {w : World} {g : Nat} {t : TypeId} {es : List Ent} (h : Row w g t (rowE es)) : EntsIn w (some ⟨g, 0, none⟩) es := .inr ⟨g, rfl, h.lt, fun j _ hj => (h.cell j).trans hj⟩
theorem stab_ripH (n3 : Nat) (c : Int) (es : List Ent) : ∀ (v : Value) (w1 w2 : World), (∃ g, v = .agg #[.int .i64 c, .slice (some ⟨g, 0, none⟩) n3 n3] ∧ Row w1 g 95 (rowE es)) → Below w1.heap.size w1 w2 → ∃ g, v = .agg #[.int .i64 c, .slice (some ⟨g, 0, none⟩) n3 n3] ∧ Row w2 g 95 (rowE es) := by
  rintro v w1 w2 ⟨g, e, h⟩ hb
  exact ⟨g, e, h.below hb h.lt⟩
theorem stab_outH (B M1 M2 : Nat) (nw cc : Int) (isq : List If) (rsq : List Rt) : ∀ (v : Value) (w1 w2 : World), (∃ p d q e, v = .agg #[.slice p M1 d, .slice q M2 e, .int .i64 nw, .int .i64 cc] ∧ w1.ownsRow B 89 5 (.slice p M1 d) M1 (rowI isq) ∧ w1.ownsRow B 98 9 (.slice q M2 e) M2 (rowR rsq)) → Below w1.heap.size w1 w2 → ∃ p d q e, v = .agg #[.slice p M1 d, .slice q M2 e, .int .i64 nw, .int .i64 cc] ∧ w2.ownsRow B 89 5 (.slice p M1 d) M1 (rowI isq) ∧ w2.ownsRow B 98 9 (.slice q M2 e) M2 (rowR rsq) := by
  rintro v w1 w2 ⟨p, d, q, e, h, h1, h2⟩ hb
  exact ⟨p, d, q, e, h, ownsI_below h1 hb, ownsR_below h2 hb⟩
theorem hearO_len (is : List If) (rs : List Rt) (now i fr c : Int) (es : List Ent) (h1 : is.length ≤ 1048576) (h2 : rs.length ≤ 1048576) : (hearO is rs now i fr c es).2.1.length ≤ 10000000 ∧ (hearO is rs now i fr c es).2.2.1.length ≤ 100000000 := by
  unfold hearO
  split
  · rename_i hIR
    simp only [Bool.and_eq_true] at hIR
    obtain ⟨hI, hR⟩ := hIR
    obtain ⟨b1, b2, b3, b4⟩ := instB_ifs hI
    unfold ripB at hR
    simp only [Bool.and_eq_true, decide_eq_true_eq] at hR
    cases hia : ifAt is i with
    | none => simp
    | some f =>
      obtain ⟨k, rfl, hk, e⟩ := ifAt_some hia
      simp only
      split
      · split
        · rename_i hf
          refine ⟨by show is.length ≤ _; omega, ?_⟩
          show (if c = 1 then rs else hearK f (k : Int) fr now rs es es.length).length ≤ _
          split
          · omega
          · have := hearK_right (e ▸ ifsB_if b1 k hk) (ifsB_inIf b1 k hk) hf.1 hf.2 (inNow_of b3 (by omega)) b2 hR.2 es.length (Nat.le_refl _)
            exact Nat.le_trans (ribB_len this) (by omega)
        · simp
      · simp
  · simp
set_option maxRecDepth 100000 in
set_option maxHeartbeats 8000000 in
theorem fnExactHearRip_walk (x : Option Addr) (n1 c1 : Nat) (is : List If) (y : Option Addr) (n2 c2 : Nat) (rs : List Rt) (now : Int) (i fr c : Int) (z : Option Addr) (n3 c3 : Nat) (es : List Ent) (w : World) (h1 : ArgI w x n1 is) (h2 : ArgR w y n2 rs) (_hw : (Lit.int .i64 now).wf = true) (_hi : (Lit.int .i64 i).wf = true) (_hf : (Lit.int .i64 fr).wf = true) (h3 : ArgE w z n3 es) :
    Calls Tryz.prog 3 #[instV x n1 c1 y n2 c2 now, .int .i64 i, .int .i64 fr, ripV c z n3 c3] w fun r w' => r = .returned (.bool true) ∧ Below w.heap.size w w' := by
  obtain rfl : is.length = n1 := h1.1
  obtain rfl : rs.length = n2 := h2.1
  obtain rfl : es.length = n3 := h3.1
  have HZ : Hid (∀ w, Calls Tryz.prog 9 #[instV x is.length c1 y rs.length c2 now, .int .i64 1048576] w fun e w' => (∃ v : Int, e = .returned (.int .i64 v) ∧ (v < 0 ∨ 0 ≤ v ∧ v ≤ 1048576 ∧ is.length ≤ 1048576 ∧ rs.length ≤ 1048576)) ∧ Below w.heap.size w w') := fun w => szInstB_any x is.length c1 y rs.length c2 now w h1.2.1 h2.2.1
  have HZ3 : Hid (∀ L : Int, 0 ≤ L → L ≤ 1048576 → ∀ w, Calls Tryz.prog 10 #[.agg #[.int .i64 c, .slice z es.length c3], .int .i64 L] w fun e w' => (∃ v : Int, e = .returned (.int .i64 v) ∧ (v < 0 ∨ 0 ≤ v ∧ es.length ≤ 1048576)) ∧ Below w.heap.size w w') := fun L a b w => szRipK_any c z es.length c3 L w h3.2.1 a b
  have HT0 : Hid (is.length ≤ 1048576 → rs.length ≤ 1048576 → ∀ w, ArgI w x is.length is → ArgR w y rs.length rs → Calls Tryz.prog 12 #[instV x is.length c1 y rs.length c2 now] w fun e w' => ∃ g h, e = .returned (instV (some ⟨g, 0, none⟩) is.length is.length (some ⟨h, 0, none⟩) rs.length rs.length now) ∧ w.heap.size ≤ g ∧ w.heap.size ≤ h ∧ Row w' g 89 (rowI is) ∧ Row w' h 98 (rowR rs) ∧ Below w.heap.size w w') := fun a b w p q => toInst_new x c1 y c2 is rs now w p q a b
  have HT30 : Hid (es.length ≤ 1048576 → ∀ w, ArgE w z es.length es → Calls Tryz.prog 13 #[.agg #[.int .i64 c, .slice z es.length c3]] w fun e w' => ∃ g, e = .returned (.agg #[.int .i64 c, .slice (some ⟨g, 0, none⟩) es.length es.length]) ∧ w.heap.size ≤ g ∧ Row w' g 95 (rowE es) ∧ Below w.heap.size w w') := fun a w p => toRip_any c z c3 es w p a
  have HS0 : Hid (is.length ≤ 1048576 → rs.length ≤ 1048576 → es.length ≤ 1048576 → ∀ g h g3 w, Row w g 89 (rowI is) → Row w h 98 (rowR rs) → Row w g3 95 (rowE es) → Calls Tryz.prog 11 #[instV (some ⟨g, 0, none⟩) is.length is.length (some ⟨h, 0, none⟩) rs.length rs.length now, .int .i64 i, .int .i64 fr, .agg #[.int .i64 c, .slice (some ⟨g3, 0, none⟩) es.length es.length]] w fun e w' => OutI w.heap.size (hearO is rs now i fr c es) e w' ∧ Below w.heap.size w w') := fun a b d g h g3 w p q r => specHear_any (some ⟨g, 0, none⟩) is.length (some ⟨h, 0, none⟩) rs.length is rs now i fr c (some ⟨g3, 0, none⟩) es.length es w (ifsIn_row p) (Nat.le_refl _) (fun e => by cases e) (rtsIn_row q) (fun e => by cases e) (Nat.le_refl _) (by omega) (by omega) (entsIn_rowH r) (by omega)
  have HI0 : Hid (is.length ≤ 1048576 → rs.length ≤ 1048576 → es.length ≤ 1048576 → ∀ g h g3 w, Row w g 89 (rowI is) → Row w h 98 (rowR rs) → Row w g3 95 (rowE es) → Calls Tryz.prog 14 #[instV (some ⟨g, 0, none⟩) is.length is.length (some ⟨h, 0, none⟩) rs.length rs.length now, .int .i64 i, .int .i64 fr, .agg #[.int .i64 c, .slice (some ⟨g3, 0, none⟩) es.length es.length]] w fun e w' => OutI w.heap.size (hearO is rs now i fr c es) e w' ∧ Below w.heap.size w w') := fun a b d g h g3 w p q r => implHear_any (some ⟨g, 0, none⟩) is.length (some ⟨h, 0, none⟩) rs.length is rs now i fr c (some ⟨g3, 0, none⟩) es.length es w (ifsIn_row p) (Nat.le_refl _) (fun e => by cases e) (rtsIn_row q) (fun e => by cases e) (by omega) (by omega) (entsIn_rowH r) (by omega)
  have HE0 : Hid (is.length ≤ 1048576 → rs.length ≤ 1048576 → ∀ p q r s w, IfsIn w p is → IfsIn w q is → RtsIn w r rs → RtsIn w s rs → Calls Tryz.prog 16 #[instV p is.length is.length r rs.length rs.length now, instV q is.length is.length s rs.length rs.length now] w fun e w' => e = .returned (.bool true) ∧ Below w.heap.size w w') := fun a b p q r s w k1 k2 k3 k4 => eqInst_any p q _ _ r s _ _ is rs now w k1 k2 k3 k4 (by omega) (by omega)
  have HE30 : Hid (es.length ≤ 1048576 → ∀ p q w, EntsIn w p es → EntsIn w q es → Calls Tryz.prog 17 #[.agg #[.int .i64 c, .slice p es.length es.length], .agg #[.int .i64 c, .slice q es.length es.length]] w fun e w' => e = .returned (.bool true) ∧ Below w.heap.size w w') := fun a p q w k1 k2 => eqRip_any c p q es.length es.length es w k1 k2 (by omega)
  have HL0 : Hid (is.length ≤ 1048576 → rs.length ≤ 1048576 → (hearO is rs now i fr c es).2.1.length ≤ 10000000 ∧ (hearO is rs now i fr c es).2.2.1.length ≤ 100000000) := fun a b => hearO_len is rs now i fr c es a b
  have HX : Hid (ArgI w x is.length is ∧ ArgR w y rs.length rs ∧ ArgE w z es.length es) := ⟨h1, h2, h3⟩
  clear h1 h2 h3
  generalize hearO is rs now i fr c es = RES at *
  obtain ⟨cc, isq, rsq, nw⟩ := RES
  unfold OutI at HS0 HI0
  simp only at HS0 HI0 HL0
  unfold instV ripV at *
  generalize hM1 : isq.length = M1 at *
  have HM1 : Hid (M1 = isq.length) := hM1.symm
  generalize hM2 : rsq.length = M2 at *
  have HM2 : Hid (M2 = rsq.length) := hM2.symm
  generalize hN1 : is.length = n1 at *
  have HN1 : Hid (n1 = is.length) := hN1.symm
  generalize hN2 : rs.length = n2 at *
  have HN2 : Hid (n2 = rs.length) := hN2.symm
  generalize hN3 : es.length = n3 at *
  have HN3 : Hid (n3 = es.length) := hN3.symm
  clear hM1 hM2 hN1 hN2 hN3
  obtain ⟨W, hW, r0, rp, hB, hS⟩ := rows2 w [.slice x n1 c1, .slice y n2 c2, .int .i64 now] [.int .i64 c, .slice z n3 c3] 27 30
  have HW : Hid _ := hW
  have x0 : W.cell? ⟨w.heap.size, 0, none⟩ = some (.slice x n1 c1) := r0.cell 0
  have x1 : W.cell? ⟨w.heap.size, 1, none⟩ = some (.slice y n2 c2) := r0.cell 1
  have x2 : W.cell? ⟨w.heap.size, 2, none⟩ = some (.int .i64 now) := r0.cell 2
  have HQ0 : Hid _ := And.intro r0 (And.intro rp hB)
  clear r0 rp hB hS
  go_enter Tryz.func3, Tryz.ntmps3
  rw [hW] at x0 x1 x2
  clear hW
  go_wp2_with fail
  rw [← HW.out]
  obtain ⟨r0, rp, hB⟩ := HQ0.out
  clear x0 x1 x2 HW HQ0
  refine (HZ.out _).mono ?_
  rintro e_ w1 ⟨⟨v, rfl, hv⟩, hb1⟩
  have r0 := r0.below hb1 r0.lt
  have rp := rp.below hb1 rp.lt
  have hB := hB.trans (hb1.mono hB.size)
  clear hb1 HZ
  rcases hv with hv | ⟨hv, hv1, hn1, hn2⟩
  · have d : decide (v < 0) = true := by simpa using hv
    clear hv
    go_wp2
    go_ret
    exact ⟨rfl, hB⟩
  · have d : decide (v < 0) = false := by simp; omega
    have HZ3v : Hid _ := HZ3.out v hv hv1
    clear HZ3 hv hv1
    have vv0 : w1.cell? ⟨w.heap.size + 1, 0, none⟩ = some (.int .i64 c) := rp.cell 0
    have vv1 : w1.cell? ⟨w.heap.size + 1, 1, none⟩ = some (.slice z n3 c3) := rp.cell 1
    go_wp2_with fail
    clear vv0 vv1 d
    refine (HZ3v.out _).mono ?_
    rintro e_ w2 ⟨⟨v2, rfl, hv⟩, hb2⟩
    have r0 := r0.below hb2 r0.lt
    have rp := rp.below hb2 rp.lt
    have hB := hB.trans (hb2.mono hB.size)
    clear hb2 HZ3v
    rcases hv with hv | ⟨hv, hn3⟩
    · have d : decide (v2 < 0) = true := by simpa using hv
      clear hv
      go_wp2
      go_ret
      exact ⟨rfl, hB⟩
    · have d : decide (v2 < 0) = false := by simp; omega
      have HT : Hid _ := HT0.out hn1 hn2
      have HT3 : Hid _ := HT30.out hn3
      have HS : Hid _ := HS0.out hn1 hn2 hn3
      have HI : Hid _ := HI0.out hn1 hn2 hn3
      have HE : Hid _ := HE0.out hn1 hn2
      have HE3 : Hid _ := HE30.out hn3
      have HL : Hid _ := HL0.out hn1 hn2
      clear HT0 HT30 HS0 HI0 HE0 HE30 HL0 hv
      go_wp2_with fail
      clear d
      have hGN : (([(28, Is (.agg #[.slice x n1 c1, .slice y n2 c2, .int .i64 now])), (29, fun v W => ∃ g h, v = .agg #[.slice (some ⟨g, 0, none⟩) n1 n1, .slice (some ⟨h, 0, none⟩) n2 n2, .int .i64 now] ∧ Row W g 89 (rowI is) ∧ Row W h 98 (rowR rs)), (30, Is (.int .i64 i)), (31, Is (.int .i64 fr)), (32, Is (.agg #[.int .i64 c, .slice z n3 c3])), (33, fun v W => ∃ g, v = .agg #[.int .i64 c, .slice (some ⟨g, 0, none⟩) n3 n3] ∧ Row W g 95 (rowE es)), (34, fun v W => ∃ p d q e, v = .agg #[.slice p M1 d, .slice q M2 e, .int .i64 nw, .int .i64 cc] ∧ W.ownsRow w.heap.size 89 5 (.slice p M1 d) M1 (rowI isq) ∧ W.ownsRow w.heap.size 98 9 (.slice q M2 e) M2 (rowR rsq)), (10, fun v W => ∃ g, v = .pointer (some ⟨g, 0, none⟩) ∧ w2.heap.size ≤ g ∧ Row W g 40 [.slice none 0 0, .slice none 0 0, .int .i64 0, .int .i64 0])] : List (Nat × (Value → World → Prop))).map (·.1)).Nodup := by simp
      refine wp_region_steady 8 (SlotG [(28, Is (.agg #[.slice x n1 c1, .slice y n2 c2, .int .i64 now])), (29, fun v W => ∃ g h, v = .agg #[.slice (some ⟨g, 0, none⟩) n1 n1, .slice (some ⟨h, 0, none⟩) n2 n2, .int .i64 now] ∧ Row W g 89 (rowI is) ∧ Row W h 98 (rowR rs)), (30, Is (.int .i64 i)), (31, Is (.int .i64 fr)), (32, Is (.agg #[.int .i64 c, .slice z n3 c3])), (33, fun v W => ∃ g, v = .agg #[.int .i64 c, .slice (some ⟨g, 0, none⟩) n3 n3] ∧ Row W g 95 (rowE es)), (34, fun v W => ∃ p d q e, v = .agg #[.slice p M1 d, .slice q M2 e, .int .i64 nw, .int .i64 cc] ∧ W.ownsRow w.heap.size 89 5 (.slice p M1 d) M1 (rowI isq) ∧ W.ownsRow w.heap.size 98 9 (.slice q M2 e) M2 (rowR rsq)), (10, fun v W => ∃ g, v = .pointer (some ⟨g, 0, none⟩) ∧ w2.heap.size ≤ g ∧ Row W g 40 [.slice none 0 0, .slice none 0 0, .int .i64 0, .int .i64 0])]) (by kernel_rfl) (by kernel_rfl) (Stabs.all ⟨stab_is _, stab_inst n1 n2 now is rs, stab_is _, stab_is _, stab_is _, stab_ripH n3 c es, stab_outH w.heap.size M1 M2 nw cc isq rsq, stab_new w2.heap.size 40 [.slice none 0 0, .slice none 0 0, .int .i64 0, .int .i64 0], trivial⟩) ?_ ?_
      · intro o ho
        simp only [List.take_succ_cons, List.take_zero, List.mem_cons, List.not_mem_nil, or_false] at ho
        rcases ho with rfl | rfl | rfl | rfl | rfl | rfl | rfl | rfl
        · intro a' w' hb ha hdep
          have d4 : a'.tmps.getD 4 undef = .pointer (some ⟨w.heap.size, 0, none⟩) := ha.at 4 (by kernel_rfl)
          have hmk := fun (x : Value) (W : World) => SlotG.mk (x := x) (w := W) 0 rfl hGN
          clear hGN ha hdep
          have y0 : w'.cell? ⟨w.heap.size, 0, none⟩ = some (.slice x n1 c1) := (r0.below hb r0.lt).cell 0
          have y1 : w'.cell? ⟨w.heap.size, 1, none⟩ = some (.slice y n2 c2) := (r0.below hb r0.lt).cell 1
          have y2 : w'.cell? ⟨w.heap.size, 2, none⟩ = some (.int .i64 now) := (r0.below hb r0.lt).cell 2
          go_simp
          exact ⟨_, rfl, Below.refl _ _, hmk _ _ rfl⟩
        · intro a' w' hb ha hdep
          have d28 : a'.tmps.getD 28 undef = .agg #[.slice x n1 c1, .slice y n2 c2, .int .i64 now] := (hdep 28 (of_decide_eq_true (by kernel_rfl))).is 0 rfl
          have hmk := fun (x : Value) (W : World) => SlotG.mk (x := x) (w := W) 1 rfl hGN
          clear hGN ha hdep
          go_simp
          refine (HT.out _ (HX.out.1.below (hB.trans (hb.mono hB.size))) (HX.out.2.1.below (hB.trans (hb.mono hB.size)))).mono ?_
          rintro e w2 ⟨g, h, rfl, -, -, r7, r7h, hb2⟩
          exact ⟨_, rfl, hb2, hmk _ _ ⟨g, h, rfl, r7, r7h⟩⟩
        · intro a' w' hb ha hdep
          have d1 : a'.tmps.getD 1 undef = .int .i64 i := ha.at 1 (by kernel_rfl)
          have hmk := fun (x : Value) (W : World) => SlotG.mk (x := x) (w := W) 2 rfl hGN
          clear hGN ha hdep
          go_simp
          exact ⟨_, rfl, Below.refl _ _, hmk _ _ rfl⟩
        · intro a' w' hb ha hdep
          have d2 : a'.tmps.getD 2 undef = .int .i64 fr := ha.at 2 (by kernel_rfl)
          have hmk := fun (x : Value) (W : World) => SlotG.mk (x := x) (w := W) 3 rfl hGN
          clear hGN ha hdep
          go_simp
          exact ⟨_, rfl, Below.refl _ _, hmk _ _ rfl⟩
        · intro a' w' hb ha hdep
          have d7 : a'.tmps.getD 7 undef = .pointer (some ⟨w.heap.size + 1, 0, none⟩) := ha.at 7 (by kernel_rfl)
          have hmk := fun (x : Value) (W : World) => SlotG.mk (x := x) (w := W) 4 rfl hGN
          clear hGN ha hdep
          have v0 : w'.cell? ⟨w.heap.size + 1, 0, none⟩ = some (.int .i64 c) := (rp.below hb rp.lt).cell 0
          have v1 : w'.cell? ⟨w.heap.size + 1, 1, none⟩ = some (.slice z n3 c3) := (rp.below hb rp.lt).cell 1
          go_simp
          exact ⟨_, rfl, Below.refl _ _, hmk _ _ rfl⟩
        · intro a' w' hb ha hdep
          have d32 : a'.tmps.getD 32 undef = .agg #[.int .i64 c, .slice z n3 c3] := (hdep 32 (of_decide_eq_true (by kernel_rfl))).is 4 rfl
          have hmk := fun (x : Value) (W : World) => SlotG.mk (x := x) (w := W) 5 rfl hGN
          clear hGN ha hdep
          go_simp
          refine (HT3.out _ (HX.out.2.2.below (hB.trans (hb.mono hB.size)))).mono ?_
          rintro e w2 ⟨g, rfl, -, r7, hb2⟩
          exact ⟨_, rfl, hb2, hmk _ _ ⟨g, rfl, r7⟩⟩
        · intro a' w' hb ha hdep
          have D29 := (hdep 29 (of_decide_eq_true (by kernel_rfl))).get 1 rfl
          have d30 : a'.tmps.getD 30 undef = .int .i64 i := (hdep 30 (of_decide_eq_true (by kernel_rfl))).is 2 rfl
          have d31 : a'.tmps.getD 31 undef = .int .i64 fr := (hdep 31 (of_decide_eq_true (by kernel_rfl))).is 3 rfl
          have D33 := (hdep 33 (of_decide_eq_true (by kernel_rfl))).get 5 rfl
          have hmk := fun (x : Value) (W : World) => SlotG.mk (x := x) (w := W) 6 rfl hGN
          clear hGN ha hdep
          obtain ⟨g, h, d29, r7, r7h⟩ := D29
          obtain ⟨g3, d33, r7e⟩ := D33
          go_simp
          refine (HS.out g h g3 _ r7 r7h r7e).mono ?_
          rintro e w2 ⟨⟨p2, u2, q2, k2, rfl, oi, orr⟩, hb2⟩
          exact ⟨_, rfl, hb2, hmk _ _ ⟨p2, u2, q2, k2, rfl, ownsI_mono oi (Nat.le_trans hB.size hb.size), ownsR_mono orr (Nat.le_trans hB.size hb.size)⟩⟩
        · intro a' w' hb ha hdep
          have hmk := fun (x : Value) (W : World) => SlotG.mk (x := x) (w := W) 7 rfl hGN
          clear hGN ha hdep
          go_simp
          exact ⟨_, rfl, ent_new0 _ _, hmk _ _ ⟨w'.heap.size, rfl, hb.size, Row.new w' 40 [.slice none 0 0, .slice none 0 0, .int .i64 0, .int .i64 0]⟩⟩
      · intro a' w' hb ha hG
        clear hGN
        have D34 := (hG _ (List.mem_of_getElem? (i := 6) rfl) 34 rfl).get 6 rfl
        have D10 := (hG _ (List.mem_of_getElem? (i := 7) rfl) 10 rfl).get 7 rfl
        have d1 : a'.tmps.getD 1 undef = .int .i64 i := ha.at 1 (by kernel_rfl)
        have d2 : a'.tmps.getD 2 undef = .int .i64 fr := ha.at 2 (by kernel_rfl)
        have d4 : a'.tmps.getD 4 undef = .pointer (some ⟨w.heap.size, 0, none⟩) := ha.at 4 (by kernel_rfl)
        have d7 : a'.tmps.getD 7 undef = .pointer (some ⟨w.heap.size + 1, 0, none⟩) := ha.at 7 (by kernel_rfl)
        have e2 : a' = ⟨#[a'.tmps.getD 0 undef, a'.tmps.getD 1 undef, a'.tmps.getD 2 undef, a'.tmps.getD 3 undef, a'.tmps.getD 4 undef, a'.tmps.getD 5 undef, a'.tmps.getD 6 undef, a'.tmps.getD 7 undef, a'.tmps.getD 8 undef, a'.tmps.getD 9 undef, a'.tmps.getD 10 undef, a'.tmps.getD 11 undef, a'.tmps.getD 12 undef, a'.tmps.getD 13 undef, a'.tmps.getD 14 undef, a'.tmps.getD 15 undef, a'.tmps.getD 16 undef, a'.tmps.getD 17 undef, a'.tmps.getD 18 undef, a'.tmps.getD 19 undef, a'.tmps.getD 20 undef, a'.tmps.getD 21 undef, a'.tmps.getD 22 undef, a'.tmps.getD 23 undef, a'.tmps.getD 24 undef, a'.tmps.getD 25 undef, a'.tmps.getD 26 undef, a'.tmps.getD 27 undef, a'.tmps.getD 28 undef, a'.tmps.getD 29 undef, a'.tmps.getD 30 undef, a'.tmps.getD 31 undef, a'.tmps.getD 32 undef, a'.tmps.getD 33 undef, a'.tmps.getD 34 undef, a'.tmps.getD 35 undef, a'.tmps.getD 36 undef, a'.tmps.getD 37 undef, a'.tmps.getD 38 undef, a'.tmps.getD 39 undef, a'.tmps.getD 40 undef, a'.tmps.getD 41 undef, a'.tmps.getD 42 undef, a'.tmps.getD 43 undef, a'.tmps.getD 44 undef, a'.tmps.getD 45 undef, a'.tmps.getD 46 undef, a'.tmps.getD 47 undef, a'.tmps.getD 48 undef, a'.tmps.getD 49 undef, a'.tmps.getD 50 undef, a'.tmps.getD 51 undef, a'.tmps.getD 52 undef, a'.tmps.getD 53 undef, a'.tmps.getD 54 undef, a'.tmps.getD 55 undef, a'.tmps.getD 56 undef, a'.tmps.getD 57 undef, a'.tmps.getD 58 undef, a'.tmps.getD 59 undef, a'.tmps.getD 60 undef, a'.tmps.getD 61 undef, a'.tmps.getD 62 undef, a'.tmps.getD 63 undef, a'.tmps.getD 64 undef, a'.tmps.getD 65 undef, a'.tmps.getD 66 undef, a'.tmps.getD 67 undef, a'.tmps.getD 68 undef, a'.tmps.getD 69 undef, a'.tmps.getD 70 undef, a'.tmps.getD 71 undef, a'.tmps.getD 72 undef, a'.tmps.getD 73 undef, a'.tmps.getD 74 undef, a'.tmps.getD 75 undef, a'.tmps.getD 76 undef, a'.tmps.getD 77 undef, a'.tmps.getD 78 undef, a'.tmps.getD 79 undef, a'.tmps.getD 80 undef, a'.tmps.getD 81 undef, a'.tmps.getD 82 undef, a'.tmps.getD 83 undef, a'.tmps.getD 84 undef, a'.tmps.getD 85 undef, a'.tmps.getD 86 undef, a'.tmps.getD 87 undef, a'.tmps.getD 88 undef, a'.tmps.getD 89 undef, a'.tmps.getD 90 undef, a'.tmps.getD 91 undef, a'.tmps.getD 92 undef, a'.tmps.getD 93 undef, a'.tmps.getD 94 undef, a'.tmps.getD 95 undef, a'.tmps.getD 96 undef, a'.tmps.getD 97 undef, a'.tmps.getD 98 undef, a'.tmps.getD 99 undef, a'.tmps.getD 100 undef, a'.tmps.getD 101 undef], []⟩ := by rw [← (show a'.defers = [] from ha.2.1)]; exact act_eq a' 102 ha.1
        rw [d1, d2, d4, d7] at e2
        clear hG ha d1 d2 d4 d7
        generalize a'.tmps.getD 0 undef = x0 at *
        generalize a'.tmps.getD 3 undef = x3 at *
        generalize a'.tmps.getD 5 undef = x5 at *
        generalize a'.tmps.getD 6 undef = x6 at *
        generalize a'.tmps.getD 8 undef = x8 at *
        generalize a'.tmps.getD 9 undef = x9 at *
        generalize a'.tmps.getD 10 undef = x10 at *
        generalize a'.tmps.getD 11 undef = x11 at *
        generalize a'.tmps.getD 12 undef = x12 at *
        generalize a'.tmps.getD 13 undef = x13 at *
        generalize a'.tmps.getD 14 undef = x14 at *
        generalize a'.tmps.getD 15 undef = x15 at *
        generalize a'.tmps.getD 16 undef = x16 at *
        generalize a'.tmps.getD 17 undef = x17 at *
        generalize a'.tmps.getD 18 undef = x18 at *
        generalize a'.tmps.getD 19 undef = x19 at *
        generalize a'.tmps.getD 20 undef = x20 at *
        generalize a'.tmps.getD 21 undef = x21 at *
        generalize a'.tmps.getD 22 undef = x22 at *
        generalize a'.tmps.getD 23 undef = x23 at *
        generalize a'.tmps.getD 24 undef = x24 at *
        generalize a'.tmps.getD 25 undef = x25 at *
        generalize a'.tmps.getD 26 undef = x26 at *
        generalize a'.tmps.getD 27 undef = x27 at *
        generalize a'.tmps.getD 28 undef = x28 at *
        generalize a'.tmps.getD 29 undef = x29 at *
        generalize a'.tmps.getD 30 undef = x30 at *
        generalize a'.tmps.getD 31 undef = x31 at *
        generalize a'.tmps.getD 32 undef = x32 at *
        generalize a'.tmps.getD 33 undef = x33 at *
        generalize a'.tmps.getD 34 undef = x34 at *
        generalize a'.tmps.getD 35 undef = x35 at *
        generalize a'.tmps.getD 36 undef = x36 at *
        generalize a'.tmps.getD 37 undef = x37 at *
        generalize a'.tmps.getD 38 undef = x38 at *
        generalize a'.tmps.getD 39 undef = x39 at *
        generalize a'.tmps.getD 40 undef = x40 at *
        generalize a'.tmps.getD 41 undef = x41 at *
        generalize a'.tmps.getD 42 undef = x42 at *
        generalize a'.tmps.getD 43 undef = x43 at *
        generalize a'.tmps.getD 44 undef = x44 at *
        generalize a'.tmps.getD 45 undef = x45 at *
        generalize a'.tmps.getD 46 undef = x46 at *
        generalize a'.tmps.getD 47 undef = x47 at *
        generalize a'.tmps.getD 48 undef = x48 at *
        generalize a'.tmps.getD 49 undef = x49 at *
        generalize a'.tmps.getD 50 undef = x50 at *
        generalize a'.tmps.getD 51 undef = x51 at *
        generalize a'.tmps.getD 52 undef = x52 at *
        generalize a'.tmps.getD 53 undef = x53 at *
        generalize a'.tmps.getD 54 undef = x54 at *
        generalize a'.tmps.getD 55 undef = x55 at *
        generalize a'.tmps.getD 56 undef = x56 at *
        generalize a'.tmps.getD 57 undef = x57 at *
        generalize a'.tmps.getD 58 undef = x58 at *
        generalize a'.tmps.getD 59 undef = x59 at *
        generalize a'.tmps.getD 60 undef = x60 at *
        generalize a'.tmps.getD 61 undef = x61 at *
        generalize a'.tmps.getD 62 undef = x62 at *
        generalize a'.tmps.getD 63 undef = x63 at *
        generalize a'.tmps.getD 64 undef = x64 at *
        generalize a'.tmps.getD 65 undef = x65 at *
        generalize a'.tmps.getD 66 undef = x66 at *
        generalize a'.tmps.getD 67 undef = x67 at *
        generalize a'.tmps.getD 68 undef = x68 at *
        generalize a'.tmps.getD 69 undef = x69 at *
        generalize a'.tmps.getD 70 undef = x70 at *
        generalize a'.tmps.getD 71 undef = x71 at *
        generalize a'.tmps.getD 72 undef = x72 at *
        generalize a'.tmps.getD 73 undef = x73 at *
        generalize a'.tmps.getD 74 undef = x74 at *
        generalize a'.tmps.getD 75 undef = x75 at *
        generalize a'.tmps.getD 76 undef = x76 at *
        generalize a'.tmps.getD 77 undef = x77 at *
        generalize a'.tmps.getD 78 undef = x78 at *
        generalize a'.tmps.getD 79 undef = x79 at *
        generalize a'.tmps.getD 80 undef = x80 at *
        generalize a'.tmps.getD 81 undef = x81 at *
        generalize a'.tmps.getD 82 undef = x82 at *
        generalize a'.tmps.getD 83 undef = x83 at *
        generalize a'.tmps.getD 84 undef = x84 at *
        generalize a'.tmps.getD 85 undef = x85 at *
        generalize a'.tmps.getD 86 undef = x86 at *
        generalize a'.tmps.getD 87 undef = x87 at *
        generalize a'.tmps.getD 88 undef = x88 at *
        generalize a'.tmps.getD 89 undef = x89 at *
        generalize a'.tmps.getD 90 undef = x90 at *
        generalize a'.tmps.getD 91 undef = x91 at *
        generalize a'.tmps.getD 92 undef = x92 at *
        generalize a'.tmps.getD 93 undef = x93 at *
        generalize a'.tmps.getD 94 undef = x94 at *
        generalize a'.tmps.getD 95 undef = x95 at *
        generalize a'.tmps.getD 96 undef = x96 at *
        generalize a'.tmps.getD 97 undef = x97 at *
        generalize a'.tmps.getD 98 undef = x98 at *
        generalize a'.tmps.getD 99 undef = x99 at *
        generalize a'.tmps.getD 100 undef = x100 at *
        generalize a'.tmps.getD 101 undef = x101 at *
        subst e2
        simp only [List.drop_succ_cons, List.drop_zero]
        obtain ⟨p0, u0, q0, k0, rfl, o0i, o0r⟩ := D34
        obtain ⟨b8, rfl, hb8, r8⟩ := D10
        have Lp := rp.lt
        have n0 : ¬ w.heap.size = b8 := by omega
        have n0' : ¬ b8 = w.heap.size := by omega
        have np : ¬ w.heap.size + 1 = b8 := by omega
        have hwb : w.heap.size ≤ b8 := Nat.le_trans hB.size hb8
        have r0 := r0.below hb r0.lt
        have rp := rp.below hb rp.lt
        have hB := hB.trans (hb.mono hB.size)
        clear hb HS Lp
        have HQ : Hid (∀ p d q e w, IfsIn w p isq → RtsIn w q rsq → IfsIn w p0 isq → RtsIn w q0 rsq → Calls Tryz.prog 15 #[.agg #[.slice p M1 d, .slice q M2 e, .int .i64 nw, .int .i64 cc], .agg #[.slice p0 M1 u0, .slice q0 M2 k0, .int .i64 nw, .int .i64 cc]] w fun r w' => r = .returned (.bool true) ∧ Below w.heap.size w w') := fun p d q e w h1 h2 h3 h4 => eqInstOut_any cc p p0 M1 d u0 q q0 M2 e k0 nw isq rsq w HM1.out HM2.out (by have := HL.out.1; omega) (by have := HL.out.2; omega) h1 h3 h2 h4
        have f0 : w'.frozen? ⟨b8, 0, none⟩ = false := r8.frozen 0
        have f1 : w'.frozen? ⟨b8, 1, none⟩ = false := r8.frozen 1
        have f2 : w'.frozen? ⟨b8, 2, none⟩ = false := r8.frozen 2
        have f3 : w'.frozen? ⟨b8, 3, none⟩ = false := r8.frozen 3
        have z0 : w'.cell? ⟨b8, 0, none⟩ = some (.slice none 0 0) := r8.cell 0
        have z1 : w'.cell? ⟨b8, 1, none⟩ = some (.slice none 0 0) := r8.cell 1
        have z2 : w'.cell? ⟨b8, 2, none⟩ = some (.int .i64 0) := r8.cell 2
        have z3 : w'.cell? ⟨b8, 3, none⟩ = some (.int .i64 0) := r8.cell 3
        have hk : ∀ b t l, b ≠ b8 → Row w' b t l → Row ((((w'.setCell ⟨b8, 0, none⟩ (.slice p0 M1 u0)).setCell ⟨b8, 1, none⟩ (.slice q0 M2 k0)).setCell ⟨b8, 2, none⟩ (.int .i64 nw)).setCell ⟨b8, 3, none⟩ (.int .i64 cc)) b t l := fun b t l hne h => (((h.other 0 _ hne).other 1 _ hne).other 2 _ hne).other 3 _ hne
        have y0 : w'.cell? ⟨w.heap.size, 0, none⟩ = some (.slice x n1 c1) := r0.cell 0
        have y1 : w'.cell? ⟨w.heap.size, 1, none⟩ = some (.slice y n2 c2) := r0.cell 1
        have y2 : w'.cell? ⟨w.heap.size, 2, none⟩ = some (.int .i64 now) := r0.cell 2
        have HO := out4 (p := p0) (q := q0) (now := nw) (cc := cc) r8 rfl hwb hB o0i o0r HM2.out _ rfl
        have HA : Hid _ := And.intro HO (And.intro (hk _ _ _ n0 r0) (hk _ _ _ np rp))
        clear HO hk r0 rp r8 hB o0i o0r
        go_wp2_with fail
        generalize ((((w'.setCell ⟨b8, 0, none⟩ (.slice p0 M1 u0)).setCell ⟨b8, 1, none⟩ (.slice q0 M2 k0)).setCell ⟨b8, 2, none⟩ (.int .i64 nw)).setCell ⟨b8, 3, none⟩ (.int .i64 cc)) = Z8 at *
        obtain ⟨⟨r8, hB, o0i, o0r⟩, r0, rp⟩ := HA.out
        clear HA n0 n0' np y0 y1 y2 f0 z0 f1 z1 f2 z2 f3 z3
        have LI5 := ownsI_lt o0i
        have LR5 := ltR_of o0r
        refine (HT.out _ (HX.out.1.below hB) (HX.out.2.1.below hB)).mono ?_
        rintro e_ w5 ⟨g5, h5, rfl, hg5, hh5, r5i, r5r, hb5⟩
        have G5 : w.heap.size ≤ g5 := Nat.le_trans hB.size hg5
        have H5 : w.heap.size ≤ h5 := Nat.le_trans hB.size hh5
        have r0 := r0.below hb5 r0.lt
        have rp := rp.below hb5 rp.lt
        have r8 := r8.below hb5 r8.lt
        have o0i := ownsI_below o0i hb5
        have o0r := ownsR_below o0r hb5
        have hB := hB.trans (hb5.mono hB.size)
        clear hb5
        have r0 := r0.alloc (.cells #[.slice (some ⟨g5, 0, none⟩) n1 n1, .slice (some ⟨h5, 0, none⟩) n2 n2, .int .i64 now] 38)
        have rp := rp.alloc (.cells #[.slice (some ⟨g5, 0, none⟩) n1 n1, .slice (some ⟨h5, 0, none⟩) n2 n2, .int .i64 now] 38)
        have r8 := r8.alloc (.cells #[.slice (some ⟨g5, 0, none⟩) n1 n1, .slice (some ⟨h5, 0, none⟩) n2 n2, .int .i64 now] 38)
        have r5i := r5i.alloc (.cells #[.slice (some ⟨g5, 0, none⟩) n1 n1, .slice (some ⟨h5, 0, none⟩) n2 n2, .int .i64 now] 38)
        have r5r := r5r.alloc (.cells #[.slice (some ⟨g5, 0, none⟩) n1 n1, .slice (some ⟨h5, 0, none⟩) n2 n2, .int .i64 now] 38)
        have o0i := World.ownsRow.alloc o0i (.cells #[.slice (some ⟨g5, 0, none⟩) n1 n1, .slice (some ⟨h5, 0, none⟩) n2 n2, .int .i64 now] 38)
        have o0r := World.ownsRow.alloc o0r (.cells #[.slice (some ⟨g5, 0, none⟩) n1 n1, .slice (some ⟨h5, 0, none⟩) n2 n2, .int .i64 now] 38)
        have r9 := Row.new w5 38 [.slice (some ⟨g5, 0, none⟩) n1 n1, .slice (some ⟨h5, 0, none⟩) n2 n2, .int .i64 now]
        have hB := hB.alloc (by have := hB.size; omega) (.cells #[.slice (some ⟨g5, 0, none⟩) n1 n1, .slice (some ⟨h5, 0, none⟩) n2 n2, .int .i64 now] 38)
        have v0 : (w5.alloc (.cells #[.slice (some ⟨g5, 0, none⟩) n1 n1, .slice (some ⟨h5, 0, none⟩) n2 n2, .int .i64 now] 38)).cell? ⟨w.heap.size + 1, 0, none⟩ = some (.int .i64 c) := rp.cell 0
        have v1 : (w5.alloc (.cells #[.slice (some ⟨g5, 0, none⟩) n1 n1, .slice (some ⟨h5, 0, none⟩) n2 n2, .int .i64 now] 38)).cell? ⟨w.heap.size + 1, 1, none⟩ = some (.slice z n3 c3) := rp.cell 1
        have HA : Hid _ := And.intro r0 (And.intro rp (And.intro r8 (And.intro r5i (And.intro r5r (And.intro o0i (And.intro o0r (And.intro r9 (hB))))))))
        clear r0 rp r8 r5i r5r o0i o0r r9 hB
        go_wp2_with fail
        generalize hbx : w5.heap.size = b9 at *
        generalize w5.alloc (.cells #[.slice (some ⟨g5, 0, none⟩) n1 n1, .slice (some ⟨h5, 0, none⟩) n2 n2, .int .i64 now] 38) = Z9 at *
        clear hbx
        obtain ⟨r0, rp, r8, r5i, r5r, o0i, o0r, r9, hB⟩ := HA.out
        clear HA v0 v1
        refine (HT3.out _ (HX.out.2.2.below hB)).mono ?_
        rintro e_ w6 ⟨g6, rfl, hg6, r5e, hb6⟩
        have G6 : w.heap.size ≤ g6 := Nat.le_trans hB.size hg6
        have r0 := r0.below hb6 r0.lt
        have rp := rp.below hb6 rp.lt
        have r8 := r8.below hb6 r8.lt
        have r5i := r5i.below hb6 r5i.lt
        have r5r := r5r.below hb6 r5r.lt
        have r9 := r9.below hb6 r9.lt
        have o0i := ownsI_below o0i hb6
        have o0r := ownsR_below o0r hb6
        have hB := hB.trans (hb6.mono hB.size)
        clear hb6 hg6
        have r0 := r0.alloc (.cells #[.int .i64 c, .slice (some ⟨g6, 0, none⟩) n3 n3] 45)
        have rp := rp.alloc (.cells #[.int .i64 c, .slice (some ⟨g6, 0, none⟩) n3 n3] 45)
        have r8 := r8.alloc (.cells #[.int .i64 c, .slice (some ⟨g6, 0, none⟩) n3 n3] 45)
        have r5i := r5i.alloc (.cells #[.int .i64 c, .slice (some ⟨g6, 0, none⟩) n3 n3] 45)
        have r5r := r5r.alloc (.cells #[.int .i64 c, .slice (some ⟨g6, 0, none⟩) n3 n3] 45)
        have r9 := r9.alloc (.cells #[.int .i64 c, .slice (some ⟨g6, 0, none⟩) n3 n3] 45)
        have r5e := r5e.alloc (.cells #[.int .i64 c, .slice (some ⟨g6, 0, none⟩) n3 n3] 45)
        have o0i := World.ownsRow.alloc o0i (.cells #[.int .i64 c, .slice (some ⟨g6, 0, none⟩) n3 n3] 45)
        have o0r := World.ownsRow.alloc o0r (.cells #[.int .i64 c, .slice (some ⟨g6, 0, none⟩) n3 n3] 45)
        have rP := Row.new w6 45 [.int .i64 c, .slice (some ⟨g6, 0, none⟩) n3 n3]
        have hB := hB.alloc (by have := hB.size; omega) (.cells #[.int .i64 c, .slice (some ⟨g6, 0, none⟩) n3 n3] 45)
        have y0 : (w6.alloc (.cells #[.int .i64 c, .slice (some ⟨g6, 0, none⟩) n3 n3] 45)).cell? ⟨b9, 0, none⟩ = some (.slice (some ⟨g5, 0, none⟩) n1 n1) := r9.cell 0
        have y1 : (w6.alloc (.cells #[.int .i64 c, .slice (some ⟨g6, 0, none⟩) n3 n3] 45)).cell? ⟨b9, 1, none⟩ = some (.slice (some ⟨h5, 0, none⟩) n2 n2) := r9.cell 1
        have y2 : (w6.alloc (.cells #[.int .i64 c, .slice (some ⟨g6, 0, none⟩) n3 n3] 45)).cell? ⟨b9, 2, none⟩ = some (.int .i64 now) := r9.cell 2
        have v0 : (w6.alloc (.cells #[.int .i64 c, .slice (some ⟨g6, 0, none⟩) n3 n3] 45)).cell? ⟨w6.heap.size, 0, none⟩ = some (.int .i64 c) := rP.cell 0
        have v1 : (w6.alloc (.cells #[.int .i64 c, .slice (some ⟨g6, 0, none⟩) n3 n3] 45)).cell? ⟨w6.heap.size, 1, none⟩ = some (.slice (some ⟨g6, 0, none⟩) n3 n3) := rP.cell 1
        have HA : Hid _ := And.intro r0 (And.intro rp (And.intro r8 (And.intro r5i (And.intro r5r (And.intro r9 (And.intro r5e (And.intro o0i (And.intro o0r (And.intro rP (hB))))))))))
        clear r0 rp r8 r5i r5r r9 r5e o0i o0r rP hB
        go_wp2_with fail
        generalize hbx : w6.heap.size = bP at *
        generalize w6.alloc (.cells #[.int .i64 c, .slice (some ⟨g6, 0, none⟩) n3 n3] 45) = Z10 at *
        clear hbx
        obtain ⟨r0, rp, r8, r5i, r5r, r9, r5e, o0i, o0r, rP, hB⟩ := HA.out
        clear HA y0 y1 y2 v0 v1
        have G57 := r5i.lt
        have H57 := r5r.lt
        have LI7 := ownsI_lt o0i
        have LR7 := ltR_of o0r
        refine (HI.out g5 h5 g6 _ r5i r5r r5e).mono ?_
        rintro e_ w7 ⟨⟨p1, u1, q1, k1, rfl, o1i, o1r⟩, hb7⟩
        have r0 := r0.below hb7 r0.lt
        have rp := rp.below hb7 rp.lt
        have r8 := r8.below hb7 r8.lt
        have r5i := r5i.below hb7 r5i.lt
        have r5r := r5r.below hb7 r5r.lt
        have r9 := r9.below hb7 r9.lt
        have r5e := r5e.below hb7 r5e.lt
        have rP := rP.below hb7 rP.lt
        have o0i := ownsI_below o0i hb7
        have o0r := ownsR_below o0r hb7
        have hB := hB.trans (hb7.mono hB.size)
        have hb7s := hb7.size
        generalize hn7 : Z10.heap.size = n7 at *
        clear hb7 hn7
        have r0 := r0.alloc (.cells #[.slice p1 M1 u1, .slice q1 M2 k1, .int .i64 nw, .int .i64 cc] 40)
        have rp := rp.alloc (.cells #[.slice p1 M1 u1, .slice q1 M2 k1, .int .i64 nw, .int .i64 cc] 40)
        have r8 := r8.alloc (.cells #[.slice p1 M1 u1, .slice q1 M2 k1, .int .i64 nw, .int .i64 cc] 40)
        have r5i := r5i.alloc (.cells #[.slice p1 M1 u1, .slice q1 M2 k1, .int .i64 nw, .int .i64 cc] 40)
        have r5r := r5r.alloc (.cells #[.slice p1 M1 u1, .slice q1 M2 k1, .int .i64 nw, .int .i64 cc] 40)
        have r9 := r9.alloc (.cells #[.slice p1 M1 u1, .slice q1 M2 k1, .int .i64 nw, .int .i64 cc] 40)
        have r5e := r5e.alloc (.cells #[.slice p1 M1 u1, .slice q1 M2 k1, .int .i64 nw, .int .i64 cc] 40)
        have rP := rP.alloc (.cells #[.slice p1 M1 u1, .slice q1 M2 k1, .int .i64 nw, .int .i64 cc] 40)
        have o0i := World.ownsRow.alloc o0i (.cells #[.slice p1 M1 u1, .slice q1 M2 k1, .int .i64 nw, .int .i64 cc] 40)
        have o0r := World.ownsRow.alloc o0r (.cells #[.slice p1 M1 u1, .slice q1 M2 k1, .int .i64 nw, .int .i64 cc] 40)
        have o1i := World.ownsRow.alloc o1i (.cells #[.slice p1 M1 u1, .slice q1 M2 k1, .int .i64 nw, .int .i64 cc] 40)
        have o1r := World.ownsRow.alloc o1r (.cells #[.slice p1 M1 u1, .slice q1 M2 k1, .int .i64 nw, .int .i64 cc] 40)
        have r10 := Row.new w7 40 [.slice p1 M1 u1, .slice q1 M2 k1, .int .i64 nw, .int .i64 cc]
        have hB := hB.alloc (by have := hB.size; omega) (.cells #[.slice p1 M1 u1, .slice q1 M2 k1, .int .i64 nw, .int .i64 cc] 40)
        have s0 : (w7.alloc (.cells #[.slice p1 M1 u1, .slice q1 M2 k1, .int .i64 nw, .int .i64 cc] 40)).cell? ⟨w7.heap.size, 0, none⟩ = some (.slice p1 M1 u1) := r10.cell 0
        have s1 : (w7.alloc (.cells #[.slice p1 M1 u1, .slice q1 M2 k1, .int .i64 nw, .int .i64 cc] 40)).cell? ⟨w7.heap.size, 1, none⟩ = some (.slice q1 M2 k1) := r10.cell 1
        have s2 : (w7.alloc (.cells #[.slice p1 M1 u1, .slice q1 M2 k1, .int .i64 nw, .int .i64 cc] 40)).cell? ⟨w7.heap.size, 2, none⟩ = some (.int .i64 nw) := r10.cell 2
        have s3 : (w7.alloc (.cells #[.slice p1 M1 u1, .slice q1 M2 k1, .int .i64 nw, .int .i64 cc] 40)).cell? ⟨w7.heap.size, 3, none⟩ = some (.int .i64 cc) := r10.cell 3
        have t0 : (w7.alloc (.cells #[.slice p1 M1 u1, .slice q1 M2 k1, .int .i64 nw, .int .i64 cc] 40)).cell? ⟨b8, 0, none⟩ = some (.slice p0 M1 u0) := r8.cell 0
        have t1 : (w7.alloc (.cells #[.slice p1 M1 u1, .slice q1 M2 k1, .int .i64 nw, .int .i64 cc] 40)).cell? ⟨b8, 1, none⟩ = some (.slice q0 M2 k0) := r8.cell 1
        have t2 : (w7.alloc (.cells #[.slice p1 M1 u1, .slice q1 M2 k1, .int .i64 nw, .int .i64 cc] 40)).cell? ⟨b8, 2, none⟩ = some (.int .i64 nw) := r8.cell 2
        have t3 : (w7.alloc (.cells #[.slice p1 M1 u1, .slice q1 M2 k1, .int .i64 nw, .int .i64 cc] 40)).cell? ⟨b8, 3, none⟩ = some (.int .i64 cc) := r8.cell 3
        have HA : Hid _ := And.intro r0 (And.intro rp (And.intro r8 (And.intro r5i (And.intro r5r (And.intro r9 (And.intro r5e (And.intro rP (And.intro o0i (And.intro o0r (And.intro o1i (And.intro o1r (And.intro r10 (hB)))))))))))))
        clear r0 rp r8 r5i r5r r9 r5e rP o0i o0r o1i o1r r10 hB
        go_wp2_with fail
        generalize hbx : w7.heap.size = b10 at *
        generalize w7.alloc (.cells #[.slice p1 M1 u1, .slice q1 M2 k1, .int .i64 nw, .int .i64 cc] 40) = Z11 at *
        clear hbx
        obtain ⟨r0, rp, r8, r5i, r5r, r9, r5e, rP, o0i, o0r, o1i, o1r, r10, hB⟩ := HA.out
        clear HA s0 s1 s2 s3 t0 t1 t2 t3
        refine (HQ.out p1 u1 q1 k1 Z11 (ownsI_in HM1.out o1i) (ownsR_in HM2.out o1r) (ownsI_in HM1.out o0i) (ownsR_in HM2.out o0r)).mono ?_
        rintro e_ w10 ⟨rfl, hbe⟩
        have r0 := r0.below hbe r0.lt
        have rp := rp.below hbe rp.lt
        have r8 := r8.below hbe r8.lt
        have r5i := r5i.below hbe r5i.lt
        have r5r := r5r.below hbe r5r.lt
        have r5e := r5e.below hbe r5e.lt
        have r9 := r9.below hbe r9.lt
        have rP := rP.below hbe rP.lt
        have r10 := r10.below hbe r10.lt
        have o0i := ownsI_below o0i hbe
        have o0r := ownsR_below o0r hbe
        have o1i := ownsI_below o1i hbe
        have o1r := ownsR_below o1r hbe
        have hB := hB.trans (hbe.mono hB.size)
        clear hbe
        go_wp2_with fail
        have hGN : (([(48, Is (.agg #[.slice (some ⟨g5, 0, none⟩) n1 n1, .slice (some ⟨h5, 0, none⟩) n2 n2, .int .i64 now])), (49, Is (.agg #[.slice x n1 c1, .slice y n2 c2, .int .i64 now])), (50, fun v W => ∃ g h, v = .agg #[.slice (some ⟨g, 0, none⟩) n1 n1, .slice (some ⟨h, 0, none⟩) n2 n2, .int .i64 now] ∧ Row W g 89 (rowI is) ∧ Row W h 98 (rowR rs)), (51, Is (.bool true)), (52, Is (.bool false))] : List (Nat × (Value → World → Prop))).map (·.1)).Nodup := by simp
        refine wp_region_steady 5 (SlotG [(48, Is (.agg #[.slice (some ⟨g5, 0, none⟩) n1 n1, .slice (some ⟨h5, 0, none⟩) n2 n2, .int .i64 now])), (49, Is (.agg #[.slice x n1 c1, .slice y n2 c2, .int .i64 now])), (50, fun v W => ∃ g h, v = .agg #[.slice (some ⟨g, 0, none⟩) n1 n1, .slice (some ⟨h, 0, none⟩) n2 n2, .int .i64 now] ∧ Row W g 89 (rowI is) ∧ Row W h 98 (rowR rs)), (51, Is (.bool true)), (52, Is (.bool false))]) (by kernel_rfl) (by kernel_rfl) (Stabs.all ⟨stab_is _, stab_is _, stab_inst n1 n2 now is rs, stab_is _, stab_is _, trivial⟩) ?_ ?_
        · intro o ho
          simp only [List.take_succ_cons, List.take_zero, List.mem_cons, List.not_mem_nil, or_false] at ho
          rcases ho with rfl | rfl | rfl | rfl | rfl
          · intro a' w' hb ha hdep
            have d11 : a'.tmps.getD 11 undef = .pointer (some ⟨b9, 0, none⟩) := ha.at 11 (by kernel_rfl)
            have hmk := fun (x : Value) (W : World) => SlotG.mk (x := x) (w := W) 0 rfl hGN
            clear hGN ha hdep
            have y0 : w'.cell? ⟨b9, 0, none⟩ = some (.slice (some ⟨g5, 0, none⟩) n1 n1) := (r9.below hb r9.lt).cell 0
            have y1 : w'.cell? ⟨b9, 1, none⟩ = some (.slice (some ⟨h5, 0, none⟩) n2 n2) := (r9.below hb r9.lt).cell 1
            have y2 : w'.cell? ⟨b9, 2, none⟩ = some (.int .i64 now) := (r9.below hb r9.lt).cell 2
            go_simp
            exact ⟨_, rfl, Below.refl _ _, hmk _ _ rfl⟩
          · intro a' w' hb ha hdep
            have d4 : a'.tmps.getD 4 undef = .pointer (some ⟨w.heap.size, 0, none⟩) := ha.at 4 (by kernel_rfl)
            have hmk := fun (x : Value) (W : World) => SlotG.mk (x := x) (w := W) 1 rfl hGN
            clear hGN ha hdep
            have y0 : w'.cell? ⟨w.heap.size, 0, none⟩ = some (.slice x n1 c1) := (r0.below hb r0.lt).cell 0
            have y1 : w'.cell? ⟨w.heap.size, 1, none⟩ = some (.slice y n2 c2) := (r0.below hb r0.lt).cell 1
            have y2 : w'.cell? ⟨w.heap.size, 2, none⟩ = some (.int .i64 now) := (r0.below hb r0.lt).cell 2
            go_simp
            exact ⟨_, rfl, Below.refl _ _, hmk _ _ rfl⟩
          · intro a' w' hb ha hdep
            have d49 : a'.tmps.getD 49 undef = .agg #[.slice x n1 c1, .slice y n2 c2, .int .i64 now] := (hdep 49 (of_decide_eq_true (by kernel_rfl))).is 1 rfl
            have hmk := fun (x : Value) (W : World) => SlotG.mk (x := x) (w := W) 2 rfl hGN
            clear hGN ha hdep
            go_simp
            refine (HT.out _ (HX.out.1.below (hB.trans (hb.mono hB.size))) (HX.out.2.1.below (hB.trans (hb.mono hB.size)))).mono ?_
            rintro e w2 ⟨g, h, rfl, -, -, r7, r7h, hb2⟩
            exact ⟨_, rfl, hb2, hmk _ _ ⟨g, h, rfl, r7, r7h⟩⟩
          · intro a' w' hb ha hdep
            have d48 : a'.tmps.getD 48 undef = .agg #[.slice (some ⟨g5, 0, none⟩) n1 n1, .slice (some ⟨h5, 0, none⟩) n2 n2, .int .i64 now] := (hdep 48 (of_decide_eq_true (by kernel_rfl))).is 0 rfl
            have D50 := (hdep 50 (of_decide_eq_true (by kernel_rfl))).get 2 rfl
            have hmk := fun (x : Value) (W : World) => SlotG.mk (x := x) (w := W) 3 rfl hGN
            clear hGN ha hdep
            obtain ⟨g, h, d50, r7, r7h⟩ := D50
            go_simp
            refine (HE.out _ _ _ _ _ (ifsIn_row (r5i.below hb r5i.lt)) (ifsIn_row r7) (rtsIn_row (r5r.below hb r5r.lt)) (rtsIn_row r7h)).mono ?_
            rintro e w2 ⟨rfl, hb2⟩
            exact ⟨_, rfl, hb2, hmk _ _ rfl⟩
          · intro a' w' hb ha hdep
            have d51 : a'.tmps.getD 51 undef = .bool true := (hdep 51 (of_decide_eq_true (by kernel_rfl))).is 3 rfl
            have hmk := fun (x : Value) (W : World) => SlotG.mk (x := x) (w := W) 4 rfl hGN
            clear hGN ha hdep
            go_simp
            exact ⟨_, rfl, Below.refl _ _, hmk _ _ rfl⟩
        · intro a' w' hb ha hG
          clear hGN
          have d52 : a'.tmps.getD 52 undef = .bool false := (hG _ (List.mem_of_getElem? (i := 4) rfl) 52 rfl).is 4 rfl
          have d1 : a'.tmps.getD 1 undef = .int .i64 i := ha.at 1 (by kernel_rfl)
          have d2 : a'.tmps.getD 2 undef = .int .i64 fr := ha.at 2 (by kernel_rfl)
          have d4 : a'.tmps.getD 4 undef = .pointer (some ⟨w.heap.size, 0, none⟩) := ha.at 4 (by kernel_rfl)
          have d7 : a'.tmps.getD 7 undef = .pointer (some ⟨w.heap.size + 1, 0, none⟩) := ha.at 7 (by kernel_rfl)
          have d10 : a'.tmps.getD 10 undef = .pointer (some ⟨b8, 0, none⟩) := ha.at 10 (by kernel_rfl)
          have d11 : a'.tmps.getD 11 undef = .pointer (some ⟨b9, 0, none⟩) := ha.at 11 (by kernel_rfl)
          have d12 : a'.tmps.getD 12 undef = .pointer (some ⟨bP, 0, none⟩) := ha.at 12 (by kernel_rfl)
          have d13 : a'.tmps.getD 13 undef = .pointer (some ⟨b10, 0, none⟩) := ha.at 13 (by kernel_rfl)
          have e2 : a' = ⟨#[a'.tmps.getD 0 undef, a'.tmps.getD 1 undef, a'.tmps.getD 2 undef, a'.tmps.getD 3 undef, a'.tmps.getD 4 undef, a'.tmps.getD 5 undef, a'.tmps.getD 6 undef, a'.tmps.getD 7 undef, a'.tmps.getD 8 undef, a'.tmps.getD 9 undef, a'.tmps.getD 10 undef, a'.tmps.getD 11 undef, a'.tmps.getD 12 undef, a'.tmps.getD 13 undef, a'.tmps.getD 14 undef, a'.tmps.getD 15 undef, a'.tmps.getD 16 undef, a'.tmps.getD 17 undef, a'.tmps.getD 18 undef, a'.tmps.getD 19 undef, a'.tmps.getD 20 undef, a'.tmps.getD 21 undef, a'.tmps.getD 22 undef, a'.tmps.getD 23 undef, a'.tmps.getD 24 undef, a'.tmps.getD 25 undef, a'.tmps.getD 26 undef, a'.tmps.getD 27 undef, a'.tmps.getD 28 undef, a'.tmps.getD 29 undef, a'.tmps.getD 30 undef, a'.tmps.getD 31 undef, a'.tmps.getD 32 undef, a'.tmps.getD 33 undef, a'.tmps.getD 34 undef, a'.tmps.getD 35 undef, a'.tmps.getD 36 undef, a'.tmps.getD 37 undef, a'.tmps.getD 38 undef, a'.tmps.getD 39 undef, a'.tmps.getD 40 undef, a'.tmps.getD 41 undef, a'.tmps.getD 42 undef, a'.tmps.getD 43 undef, a'.tmps.getD 44 undef, a'.tmps.getD 45 undef, a'.tmps.getD 46 undef, a'.tmps.getD 47 undef, a'.tmps.getD 48 undef, a'.tmps.getD 49 undef, a'.tmps.getD 50 undef, a'.tmps.getD 51 undef, a'.tmps.getD 52 undef, a'.tmps.getD 53 undef, a'.tmps.getD 54 undef, a'.tmps.getD 55 undef, a'.tmps.getD 56 undef, a'.tmps.getD 57 undef, a'.tmps.getD 58 undef, a'.tmps.getD 59 undef, a'.tmps.getD 60 undef, a'.tmps.getD 61 undef, a'.tmps.getD 62 undef, a'.tmps.getD 63 undef, a'.tmps.getD 64 undef, a'.tmps.getD 65 undef, a'.tmps.getD 66 undef, a'.tmps.getD 67 undef, a'.tmps.getD 68 undef, a'.tmps.getD 69 undef, a'.tmps.getD 70 undef, a'.tmps.getD 71 undef, a'.tmps.getD 72 undef, a'.tmps.getD 73 undef, a'.tmps.getD 74 undef, a'.tmps.getD 75 undef, a'.tmps.getD 76 undef, a'.tmps.getD 77 undef, a'.tmps.getD 78 undef, a'.tmps.getD 79 undef, a'.tmps.getD 80 undef, a'.tmps.getD 81 undef, a'.tmps.getD 82 undef, a'.tmps.getD 83 undef, a'.tmps.getD 84 undef, a'.tmps.getD 85 undef, a'.tmps.getD 86 undef, a'.tmps.getD 87 undef, a'.tmps.getD 88 undef, a'.tmps.getD 89 undef, a'.tmps.getD 90 undef, a'.tmps.getD 91 undef, a'.tmps.getD 92 undef, a'.tmps.getD 93 undef, a'.tmps.getD 94 undef, a'.tmps.getD 95 undef, a'.tmps.getD 96 undef, a'.tmps.getD 97 undef, a'.tmps.getD 98 undef, a'.tmps.getD 99 undef, a'.tmps.getD 100 undef, a'.tmps.getD 101 undef], []⟩ := by rw [← (show a'.defers = [] from ha.2.1)]; exact act_eq a' 102 ha.1
          rw [d52, d1, d2, d4, d7, d10, d11, d12, d13] at e2
          clear hG ha d52 d1 d2 d4 d7 d10 d11 d12 d13
          generalize a'.tmps.getD 0 undef = x0 at *
          generalize a'.tmps.getD 3 undef = x3 at *
          generalize a'.tmps.getD 5 undef = x5 at *
          generalize a'.tmps.getD 6 undef = x6 at *
          generalize a'.tmps.getD 8 undef = x8 at *
          generalize a'.tmps.getD 9 undef = x9 at *
          generalize a'.tmps.getD 14 undef = x14 at *
          generalize a'.tmps.getD 15 undef = x15 at *
          generalize a'.tmps.getD 16 undef = x16 at *
          generalize a'.tmps.getD 17 undef = x17 at *
          generalize a'.tmps.getD 18 undef = x18 at *
          generalize a'.tmps.getD 19 undef = x19 at *
          generalize a'.tmps.getD 20 undef = x20 at *
          generalize a'.tmps.getD 21 undef = x21 at *
          generalize a'.tmps.getD 22 undef = x22 at *
          generalize a'.tmps.getD 23 undef = x23 at *
          generalize a'.tmps.getD 24 undef = x24 at *
          generalize a'.tmps.getD 25 undef = x25 at *
          generalize a'.tmps.getD 26 undef = x26 at *
          generalize a'.tmps.getD 27 undef = x27 at *
          generalize a'.tmps.getD 28 undef = x28 at *
          generalize a'.tmps.getD 29 undef = x29 at *
          generalize a'.tmps.getD 30 undef = x30 at *
          generalize a'.tmps.getD 31 undef = x31 at *
          generalize a'.tmps.getD 32 undef = x32 at *
          generalize a'.tmps.getD 33 undef = x33 at *
          generalize a'.tmps.getD 34 undef = x34 at *
          generalize a'.tmps.getD 35 undef = x35 at *
          generalize a'.tmps.getD 36 undef = x36 at *
          generalize a'.tmps.getD 37 undef = x37 at *
          generalize a'.tmps.getD 38 undef = x38 at *
          generalize a'.tmps.getD 39 undef = x39 at *
          generalize a'.tmps.getD 40 undef = x40 at *
          generalize a'.tmps.getD 41 undef = x41 at *
          generalize a'.tmps.getD 42 undef = x42 at *
          generalize a'.tmps.getD 43 undef = x43 at *
          generalize a'.tmps.getD 44 undef = x44 at *
          generalize a'.tmps.getD 45 undef = x45 at *
          generalize a'.tmps.getD 46 undef = x46 at *
          generalize a'.tmps.getD 47 undef = x47 at *
          generalize a'.tmps.getD 48 undef = x48 at *
          generalize a'.tmps.getD 49 undef = x49 at *
          generalize a'.tmps.getD 50 undef = x50 at *
          generalize a'.tmps.getD 51 undef = x51 at *
          generalize a'.tmps.getD 53 undef = x53 at *
          generalize a'.tmps.getD 54 undef = x54 at *
          generalize a'.tmps.getD 55 undef = x55 at *
          generalize a'.tmps.getD 56 undef = x56 at *
          generalize a'.tmps.getD 57 undef = x57 at *
          generalize a'.tmps.getD 58 undef = x58 at *
          generalize a'.tmps.getD 59 undef = x59 at *
          generalize a'.tmps.getD 60 undef = x60 at *
          generalize a'.tmps.getD 61 undef = x61 at *
          generalize a'.tmps.getD 62 undef = x62 at *
          generalize a'.tmps.getD 63 undef = x63 at *
          generalize a'.tmps.getD 64 undef = x64 at *
          generalize a'.tmps.getD 65 undef = x65 at *
          generalize a'.tmps.getD 66 undef = x66 at *
          generalize a'.tmps.getD 67 undef = x67 at *
          generalize a'.tmps.getD 68 undef = x68 at *
          generalize a'.tmps.getD 69 undef = x69 at *
          generalize a'.tmps.getD 70 undef = x70 at *
          generalize a'.tmps.getD 71 undef = x71 at *
          generalize a'.tmps.getD 72 undef = x72 at *
          generalize a'.tmps.getD 73 undef = x73 at *
          generalize a'.tmps.getD 74 undef = x74 at *
          generalize a'.tmps.getD 75 undef = x75 at *
          generalize a'.tmps.getD 76 undef = x76 at *
          generalize a'.tmps.getD 77 undef = x77 at *
          generalize a'.tmps.getD 78 undef = x78 at *
          generalize a'.tmps.getD 79 undef = x79 at *
          generalize a'.tmps.getD 80 undef = x80 at *
          generalize a'.tmps.getD 81 undef = x81 at *
          generalize a'.tmps.getD 82 undef = x82 at *
          generalize a'.tmps.getD 83 undef = x83 at *
          generalize a'.tmps.getD 84 undef = x84 at *
          generalize a'.tmps.getD 85 undef = x85 at *
          generalize a'.tmps.getD 86 undef = x86 at *
          generalize a'.tmps.getD 87 undef = x87 at *
          generalize a'.tmps.getD 88 undef = x88 at *
          generalize a'.tmps.getD 89 undef = x89 at *
          generalize a'.tmps.getD 90 undef = x90 at *
          generalize a'.tmps.getD 91 undef = x91 at *
          generalize a'.tmps.getD 92 undef = x92 at *
          generalize a'.tmps.getD 93 undef = x93 at *
          generalize a'.tmps.getD 94 undef = x94 at *
          generalize a'.tmps.getD 95 undef = x95 at *
          generalize a'.tmps.getD 96 undef = x96 at *
          generalize a'.tmps.getD 97 undef = x97 at *
          generalize a'.tmps.getD 98 undef = x98 at *
          generalize a'.tmps.getD 99 undef = x99 at *
          generalize a'.tmps.getD 100 undef = x100 at *
          generalize a'.tmps.getD 101 undef = x101 at *
          subst e2
          simp only [List.drop_succ_cons, List.drop_zero]
          have r0 := r0.below hb r0.lt
          have rp := rp.below hb rp.lt
          have r8 := r8.below hb r8.lt
          have r5i := r5i.below hb r5i.lt
          have r5r := r5r.below hb r5r.lt
          have r5e := r5e.below hb r5e.lt
          have r9 := r9.below hb r9.lt
          have rP := rP.below hb rP.lt
          have r10 := r10.below hb r10.lt
          have o0i := ownsI_below o0i hb
          have o0r := ownsR_below o0r hb
          have o1i := ownsI_below o1i hb
          have o1r := ownsR_below o1r hb
          have hB := hB.trans (hb.mono hB.size)
          clear hb HE
          go_wp2_with fail
          have hGN : (([(53, Is (.agg #[.int .i64 c, .slice (some ⟨g6, 0, none⟩) n3 n3])), (54, Is (.agg #[.int .i64 c, .slice z n3 c3])), (55, fun v W => ∃ g, v = .agg #[.int .i64 c, .slice (some ⟨g, 0, none⟩) n3 n3] ∧ Row W g 95 (rowE es)), (56, Is (.bool true)), (57, Is (.bool false))] : List (Nat × (Value → World → Prop))).map (·.1)).Nodup := by simp
          refine wp_region_steady 5 (SlotG [(53, Is (.agg #[.int .i64 c, .slice (some ⟨g6, 0, none⟩) n3 n3])), (54, Is (.agg #[.int .i64 c, .slice z n3 c3])), (55, fun v W => ∃ g, v = .agg #[.int .i64 c, .slice (some ⟨g, 0, none⟩) n3 n3] ∧ Row W g 95 (rowE es)), (56, Is (.bool true)), (57, Is (.bool false))]) (by kernel_rfl) (by kernel_rfl) (Stabs.all ⟨stab_is _, stab_is _, stab_ripH n3 c es, stab_is _, stab_is _, trivial⟩) ?_ ?_
          · intro o ho
            simp only [List.take_succ_cons, List.take_zero, List.mem_cons, List.not_mem_nil, or_false] at ho
            rcases ho with rfl | rfl | rfl | rfl | rfl
            · intro a' w' hb ha hdep
              have d12 : a'.tmps.getD 12 undef = .pointer (some ⟨bP, 0, none⟩) := ha.at 12 (by kernel_rfl)
              have hmk := fun (x : Value) (W : World) => SlotG.mk (x := x) (w := W) 0 rfl hGN
              clear hGN ha hdep
              have v0 : w'.cell? ⟨bP, 0, none⟩ = some (.int .i64 c) := (rP.below hb rP.lt).cell 0
              have v1 : w'.cell? ⟨bP, 1, none⟩ = some (.slice (some ⟨g6, 0, none⟩) n3 n3) := (rP.below hb rP.lt).cell 1
              go_simp
              exact ⟨_, rfl, Below.refl _ _, hmk _ _ rfl⟩
            · intro a' w' hb ha hdep
              have d7 : a'.tmps.getD 7 undef = .pointer (some ⟨w.heap.size + 1, 0, none⟩) := ha.at 7 (by kernel_rfl)
              have hmk := fun (x : Value) (W : World) => SlotG.mk (x := x) (w := W) 1 rfl hGN
              clear hGN ha hdep
              have v0 : w'.cell? ⟨w.heap.size + 1, 0, none⟩ = some (.int .i64 c) := (rp.below hb rp.lt).cell 0
              have v1 : w'.cell? ⟨w.heap.size + 1, 1, none⟩ = some (.slice z n3 c3) := (rp.below hb rp.lt).cell 1
              go_simp
              exact ⟨_, rfl, Below.refl _ _, hmk _ _ rfl⟩
            · intro a' w' hb ha hdep
              have d54 : a'.tmps.getD 54 undef = .agg #[.int .i64 c, .slice z n3 c3] := (hdep 54 (of_decide_eq_true (by kernel_rfl))).is 1 rfl
              have hmk := fun (x : Value) (W : World) => SlotG.mk (x := x) (w := W) 2 rfl hGN
              clear hGN ha hdep
              go_simp
              refine (HT3.out _ (HX.out.2.2.below (hB.trans (hb.mono hB.size)))).mono ?_
              rintro e w2 ⟨g, rfl, -, r7, hb2⟩
              exact ⟨_, rfl, hb2, hmk _ _ ⟨g, rfl, r7⟩⟩
            · intro a' w' hb ha hdep
              have d53 : a'.tmps.getD 53 undef = .agg #[.int .i64 c, .slice (some ⟨g6, 0, none⟩) n3 n3] := (hdep 53 (of_decide_eq_true (by kernel_rfl))).is 0 rfl
              have D55 := (hdep 55 (of_decide_eq_true (by kernel_rfl))).get 2 rfl
              have hmk := fun (x : Value) (W : World) => SlotG.mk (x := x) (w := W) 3 rfl hGN
              clear hGN ha hdep
              obtain ⟨g, d55, r7⟩ := D55
              go_simp
              refine (HE3.out _ _ _ (entsIn_rowH (r5e.below hb r5e.lt)) (entsIn_rowH r7)).mono ?_
              rintro e w2 ⟨rfl, hb2⟩
              exact ⟨_, rfl, hb2, hmk _ _ rfl⟩
            · intro a' w' hb ha hdep
              have d56 : a'.tmps.getD 56 undef = .bool true := (hdep 56 (of_decide_eq_true (by kernel_rfl))).is 3 rfl
              have hmk := fun (x : Value) (W : World) => SlotG.mk (x := x) (w := W) 4 rfl hGN
              clear hGN ha hdep
              go_simp
              exact ⟨_, rfl, Below.refl _ _, hmk _ _ rfl⟩
          · intro a' w' hb ha hG
            clear hGN
            have d57 : a'.tmps.getD 57 undef = .bool false := (hG _ (List.mem_of_getElem? (i := 4) rfl) 57 rfl).is 4 rfl
            have d1 : a'.tmps.getD 1 undef = .int .i64 i := ha.at 1 (by kernel_rfl)
            have d2 : a'.tmps.getD 2 undef = .int .i64 fr := ha.at 2 (by kernel_rfl)
            have d4 : a'.tmps.getD 4 undef = .pointer (some ⟨w.heap.size, 0, none⟩) := ha.at 4 (by kernel_rfl)
            have d7 : a'.tmps.getD 7 undef = .pointer (some ⟨w.heap.size + 1, 0, none⟩) := ha.at 7 (by kernel_rfl)
            have d10 : a'.tmps.getD 10 undef = .pointer (some ⟨b8, 0, none⟩) := ha.at 10 (by kernel_rfl)
            have d11 : a'.tmps.getD 11 undef = .pointer (some ⟨b9, 0, none⟩) := ha.at 11 (by kernel_rfl)
            have d12 : a'.tmps.getD 12 undef = .pointer (some ⟨bP, 0, none⟩) := ha.at 12 (by kernel_rfl)
            have d13 : a'.tmps.getD 13 undef = .pointer (some ⟨b10, 0, none⟩) := ha.at 13 (by kernel_rfl)
            have e2 : a' = ⟨#[a'.tmps.getD 0 undef, a'.tmps.getD 1 undef, a'.tmps.getD 2 undef, a'.tmps.getD 3 undef, a'.tmps.getD 4 undef, a'.tmps.getD 5 undef, a'.tmps.getD 6 undef, a'.tmps.getD 7 undef, a'.tmps.getD 8 undef, a'.tmps.getD 9 undef, a'.tmps.getD 10 undef, a'.tmps.getD 11 undef, a'.tmps.getD 12 undef, a'.tmps.getD 13 undef, a'.tmps.getD 14 undef, a'.tmps.getD 15 undef, a'.tmps.getD 16 undef, a'.tmps.getD 17 undef, a'.tmps.getD 18 undef, a'.tmps.getD 19 undef, a'.tmps.getD 20 undef, a'.tmps.getD 21 undef, a'.tmps.getD 22 undef, a'.tmps.getD 23 undef, a'.tmps.getD 24 undef, a'.tmps.getD 25 undef, a'.tmps.getD 26 undef, a'.tmps.getD 27 undef, a'.tmps.getD 28 undef, a'.tmps.getD 29 undef, a'.tmps.getD 30 undef, a'.tmps.getD 31 undef, a'.tmps.getD 32 undef, a'.tmps.getD 33 undef, a'.tmps.getD 34 undef, a'.tmps.getD 35 undef, a'.tmps.getD 36 undef, a'.tmps.getD 37 undef, a'.tmps.getD 38 undef, a'.tmps.getD 39 undef, a'.tmps.getD 40 undef, a'.tmps.getD 41 undef, a'.tmps.getD 42 undef, a'.tmps.getD 43 undef, a'.tmps.getD 44 undef, a'.tmps.getD 45 undef, a'.tmps.getD 46 undef, a'.tmps.getD 47 undef, a'.tmps.getD 48 undef, a'.tmps.getD 49 undef, a'.tmps.getD 50 undef, a'.tmps.getD 51 undef, a'.tmps.getD 52 undef, a'.tmps.getD 53 undef, a'.tmps.getD 54 undef, a'.tmps.getD 55 undef, a'.tmps.getD 56 undef, a'.tmps.getD 57 undef, a'.tmps.getD 58 undef, a'.tmps.getD 59 undef, a'.tmps.getD 60 undef, a'.tmps.getD 61 undef, a'.tmps.getD 62 undef, a'.tmps.getD 63 undef, a'.tmps.getD 64 undef, a'.tmps.getD 65 undef, a'.tmps.getD 66 undef, a'.tmps.getD 67 undef, a'.tmps.getD 68 undef, a'.tmps.getD 69 undef, a'.tmps.getD 70 undef, a'.tmps.getD 71 undef, a'.tmps.getD 72 undef, a'.tmps.getD 73 undef, a'.tmps.getD 74 undef, a'.tmps.getD 75 undef, a'.tmps.getD 76 undef, a'.tmps.getD 77 undef, a'.tmps.getD 78 undef, a'.tmps.getD 79 undef, a'.tmps.getD 80 undef, a'.tmps.getD 81 undef, a'.tmps.getD 82 undef, a'.tmps.getD 83 undef, a'.tmps.getD 84 undef, a'.tmps.getD 85 undef, a'.tmps.getD 86 undef, a'.tmps.getD 87 undef, a'.tmps.getD 88 undef, a'.tmps.getD 89 undef, a'.tmps.getD 90 undef, a'.tmps.getD 91 undef, a'.tmps.getD 92 undef, a'.tmps.getD 93 undef, a'.tmps.getD 94 undef, a'.tmps.getD 95 undef, a'.tmps.getD 96 undef, a'.tmps.getD 97 undef, a'.tmps.getD 98 undef, a'.tmps.getD 99 undef, a'.tmps.getD 100 undef, a'.tmps.getD 101 undef], []⟩ := by rw [← (show a'.defers = [] from ha.2.1)]; exact act_eq a' 102 ha.1
            rw [d57, d1, d2, d4, d7, d10, d11, d12, d13] at e2
            clear hG ha d57 d1 d2 d4 d7 d10 d11 d12 d13
            generalize a'.tmps.getD 0 undef = x0 at *
            generalize a'.tmps.getD 3 undef = x3 at *
            generalize a'.tmps.getD 5 undef = x5 at *
            generalize a'.tmps.getD 6 undef = x6 at *
            generalize a'.tmps.getD 8 undef = x8 at *
            generalize a'.tmps.getD 9 undef = x9 at *
            generalize a'.tmps.getD 14 undef = x14 at *
            generalize a'.tmps.getD 15 undef = x15 at *
            generalize a'.tmps.getD 16 undef = x16 at *
            generalize a'.tmps.getD 17 undef = x17 at *
            generalize a'.tmps.getD 18 undef = x18 at *
            generalize a'.tmps.getD 19 undef = x19 at *
            generalize a'.tmps.getD 20 undef = x20 at *
            generalize a'.tmps.getD 21 undef = x21 at *
            generalize a'.tmps.getD 22 undef = x22 at *
            generalize a'.tmps.getD 23 undef = x23 at *
            generalize a'.tmps.getD 24 undef = x24 at *
            generalize a'.tmps.getD 25 undef = x25 at *
            generalize a'.tmps.getD 26 undef = x26 at *
            generalize a'.tmps.getD 27 undef = x27 at *
            generalize a'.tmps.getD 28 undef = x28 at *
            generalize a'.tmps.getD 29 undef = x29 at *
            generalize a'.tmps.getD 30 undef = x30 at *
            generalize a'.tmps.getD 31 undef = x31 at *
            generalize a'.tmps.getD 32 undef = x32 at *
            generalize a'.tmps.getD 33 undef = x33 at *
            generalize a'.tmps.getD 34 undef = x34 at *
            generalize a'.tmps.getD 35 undef = x35 at *
            generalize a'.tmps.getD 36 undef = x36 at *
            generalize a'.tmps.getD 37 undef = x37 at *
            generalize a'.tmps.getD 38 undef = x38 at *
            generalize a'.tmps.getD 39 undef = x39 at *
            generalize a'.tmps.getD 40 undef = x40 at *
            generalize a'.tmps.getD 41 undef = x41 at *
            generalize a'.tmps.getD 42 undef = x42 at *
            generalize a'.tmps.getD 43 undef = x43 at *
            generalize a'.tmps.getD 44 undef = x44 at *
            generalize a'.tmps.getD 45 undef = x45 at *
            generalize a'.tmps.getD 46 undef = x46 at *
            generalize a'.tmps.getD 47 undef = x47 at *
            generalize a'.tmps.getD 48 undef = x48 at *
            generalize a'.tmps.getD 49 undef = x49 at *
            generalize a'.tmps.getD 50 undef = x50 at *
            generalize a'.tmps.getD 51 undef = x51 at *
            generalize a'.tmps.getD 52 undef = x52 at *
            generalize a'.tmps.getD 53 undef = x53 at *
            generalize a'.tmps.getD 54 undef = x54 at *
            generalize a'.tmps.getD 55 undef = x55 at *
            generalize a'.tmps.getD 56 undef = x56 at *
            generalize a'.tmps.getD 58 undef = x58 at *
            generalize a'.tmps.getD 59 undef = x59 at *
            generalize a'.tmps.getD 60 undef = x60 at *
            generalize a'.tmps.getD 61 undef = x61 at *
            generalize a'.tmps.getD 62 undef = x62 at *
            generalize a'.tmps.getD 63 undef = x63 at *
            generalize a'.tmps.getD 64 undef = x64 at *
            generalize a'.tmps.getD 65 undef = x65 at *
            generalize a'.tmps.getD 66 undef = x66 at *
            generalize a'.tmps.getD 67 undef = x67 at *
            generalize a'.tmps.getD 68 undef = x68 at *
            generalize a'.tmps.getD 69 undef = x69 at *
            generalize a'.tmps.getD 70 undef = x70 at *
            generalize a'.tmps.getD 71 undef = x71 at *
            generalize a'.tmps.getD 72 undef = x72 at *
            generalize a'.tmps.getD 73 undef = x73 at *
            generalize a'.tmps.getD 74 undef = x74 at *
            generalize a'.tmps.getD 75 undef = x75 at *
            generalize a'.tmps.getD 76 undef = x76 at *
            generalize a'.tmps.getD 77 undef = x77 at *
            generalize a'.tmps.getD 78 undef = x78 at *
            generalize a'.tmps.getD 79 undef = x79 at *
            generalize a'.tmps.getD 80 undef = x80 at *
            generalize a'.tmps.getD 81 undef = x81 at *
            generalize a'.tmps.getD 82 undef = x82 at *
            generalize a'.tmps.getD 83 undef = x83 at *
            generalize a'.tmps.getD 84 undef = x84 at *
            generalize a'.tmps.getD 85 undef = x85 at *
            generalize a'.tmps.getD 86 undef = x86 at *
            generalize a'.tmps.getD 87 undef = x87 at *
            generalize a'.tmps.getD 88 undef = x88 at *
            generalize a'.tmps.getD 89 undef = x89 at *
            generalize a'.tmps.getD 90 undef = x90 at *
            generalize a'.tmps.getD 91 undef = x91 at *
            generalize a'.tmps.getD 92 undef = x92 at *
            generalize a'.tmps.getD 93 undef = x93 at *
            generalize a'.tmps.getD 94 undef = x94 at *
            generalize a'.tmps.getD 95 undef = x95 at *
            generalize a'.tmps.getD 96 undef = x96 at *
            generalize a'.tmps.getD 97 undef = x97 at *
            generalize a'.tmps.getD 98 undef = x98 at *
            generalize a'.tmps.getD 99 undef = x99 at *
            generalize a'.tmps.getD 100 undef = x100 at *
            generalize a'.tmps.getD 101 undef = x101 at *
            subst e2
            simp only [List.drop_succ_cons, List.drop_zero]
            have r0 := r0.below hb r0.lt
            have rp := rp.below hb rp.lt
            have r8 := r8.below hb r8.lt
            have r5i := r5i.below hb r5i.lt
            have r5r := r5r.below hb r5r.lt
            have r5e := r5e.below hb r5e.lt
            have r9 := r9.below hb r9.lt
            have rP := rP.below hb rP.lt
            have r10 := r10.below hb r10.lt
            have o0i := ownsI_below o0i hb
            have o0r := ownsR_below o0r hb
            have o1i := ownsI_below o1i hb
            have o1r := ownsR_below o1r hb
            have hB := hB.trans (hb.mono hB.size)
            have hb10s := hB.size
            clear hb HE3
            have xx0 : w'.cell? ⟨b9, 0, none⟩ = some (.slice (some ⟨g5, 0, none⟩) n1 n1) := r9.cell 0
            have xx1 : w'.cell? ⟨b9, 1, none⟩ = some (.slice (some ⟨h5, 0, none⟩) n2 n2) := r9.cell 1
            have xx2 : w'.cell? ⟨b9, 2, none⟩ = some (.int .i64 now) := r9.cell 2
            have HR : Hid _ := And.intro r0 (And.intro rp (And.intro r8 (And.intro r10 (And.intro rP (And.intro r5e (And.intro o0i (And.intro o0r (And.intro o1i (And.intro o1r (And.intro r5i (And.intro r5r (hB))))))))))))
            clear r0 rp r8 r10 rP r5e o0i o0r o1i o1r r5i r5r hB r9
            go_wp2_with fail
            obtain ⟨r0, rp, r8, r10, rP, r5e, o0i, o0r, o1i, o1r, r5i, r5r, hB⟩ := HR.out
            clear HR xx0 xx1 xx2
            have o5i := ownsI_mono (base' := w.heap.size) (ownsI_row HN1.out (by omega) r5i) G5
            have o5r := ownsR_mono (base' := w.heap.size) (ownsR_row HN2.out (by omega) r5r) H5
            refine (markInst_any 1 (some ⟨g5, 0, none⟩) n1 n1 (some ⟨h5, 0, none⟩) n2 n2 now w.heap.size is rs w' HN1.out HN2.out (by omega) (by omega) (by omega) o5i o5r hB.size).mono ?_
            rintro e_ w11 ⟨rfl, -, -, hb11, hkp⟩
            have r0 := hkp _ _ _ (ownsI_ne o5i r0 (by decide)) (ownsR_ne o5r r0 (by decide)) r0
            have rp := hkp _ _ _ (ownsI_ne o5i rp (by decide)) (ownsR_ne o5r rp (by decide)) rp
            have r8 := hkp _ _ _ (ownsI_ne o5i r8 (by decide)) (ownsR_ne o5r r8 (by decide)) r8
            have r10 := hkp _ _ _ (ownsI_ne o5i r10 (by decide)) (ownsR_ne o5r r10 (by decide)) r10
            have rP := hkp _ _ _ (ownsI_ne o5i rP (by decide)) (ownsR_ne o5r rP (by decide)) rP
            have r5e := hkp _ _ _ (ownsI_ne o5i r5e (by decide)) (ownsR_ne o5r r5e (by decide)) r5e
            have o0i := ownsI_kept o0i (fun b t l e hr => hkp b t l (lt_neA LI5 hg5 e) (lt_neA LI5 hh5 e) hr)
            have o0r := ownsR_kept HM2.out o0r (fun b t l e hr => hkp b t l (lt_neA LR5 hg5 e) (lt_neA LR5 hh5 e) hr)
            have o1i := ownsI_kept o1i (fun b t l e hr => hkp b t l (base_neI o1i G57 e) (base_neI o1i H57 e) hr)
            have o1r := ownsR_kept HM2.out o1r (fun b t l e hr => hkp b t l (base_neR o1r G57 e) (base_neR o1r H57 e) hr)
            have hB := hB.trans hb11
            clear hb11 hkp o5i o5r r5i r5r
            have v0 : w11.cell? ⟨bP, 0, none⟩ = some (.int .i64 c) := rP.cell 0
            have v1 : w11.cell? ⟨bP, 1, none⟩ = some (.slice (some ⟨g6, 0, none⟩) n3 n3) := rP.cell 1
            go_wp2_with fail
            refine (markRipK c g6 n3 n3 w.heap.size (rowE es) (((1 : Nat) : Int) + 5 * (n1 : Int) + 9 * (n2 : Int)) w11 (by rw [rowE_length, ← HN3.out]; omega) hn3 (by omega) (by omega) r5e G6 hB.size).mono ?_
            rintro e_ w11r ⟨rfl, hbr, hkr⟩
            have o0i := ownsI_kept o0i (fun b t l e hr => hkr b t l (fun e2 => ownsI_ne o0i r5e (by decide) (by rw [e, e2])) hr)
            have o0r := ownsR_kept HM2.out o0r (fun b t l e hr => hkr b t l (fun e2 => ownsR_ne o0r r5e (by decide) (by rw [e, e2])) hr)
            have o1i := ownsI_kept o1i (fun b t l e hr => hkr b t l (fun e2 => ownsI_ne o1i r5e (by decide) (by rw [e, e2])) hr)
            have o1r := ownsR_kept HM2.out o1r (fun b t l e hr => hkr b t l (fun e2 => ownsR_ne o1r r5e (by decide) (by rw [e, e2])) hr)
            have r0 := hkr _ _ _ (row_neT r0 r5e (by decide)) r0
            have rp := hkr _ _ _ (row_neT rp r5e (by decide)) rp
            have r8 := hkr _ _ _ (row_neT r8 r5e (by decide)) r8
            have r10 := hkr _ _ _ (row_neT r10 r5e (by decide)) r10
            have hB := hB.trans hbr
            clear hbr hkr r5e rP v0 v1
            have dK : decide (((1 : Nat) : Int) + 5 * (n1 : Int) + 9 * (n2 : Int) + 5 * (n3 : Int) < 0) = false := by simp; omega
            have s0 : w11r.cell? ⟨b10, 0, none⟩ = some (.slice p1 M1 u1) := r10.cell 0
            have s1 : w11r.cell? ⟨b10, 1, none⟩ = some (.slice q1 M2 k1) := r10.cell 1
            have s2 : w11r.cell? ⟨b10, 2, none⟩ = some (.int .i64 nw) := r10.cell 2
            have s3 : w11r.cell? ⟨b10, 3, none⟩ = some (.int .i64 cc) := r10.cell 3
            have t0 : w11r.cell? ⟨b8, 0, none⟩ = some (.slice p0 M1 u0) := r8.cell 0
            have t1 : w11r.cell? ⟨b8, 1, none⟩ = some (.slice q0 M2 k0) := r8.cell 1
            have t2 : w11r.cell? ⟨b8, 2, none⟩ = some (.int .i64 nw) := r8.cell 2
            have t3 : w11r.cell? ⟨b8, 3, none⟩ = some (.int .i64 cc) := r8.cell 3
            go_wp2_with fail
            refine (HQ.out p1 u1 q1 k1 w11r (ownsI_in HM1.out o1i) (ownsR_in HM2.out o1r) (ownsI_in HM1.out o0i) (ownsR_in HM2.out o0r)).mono ?_
            rintro e_ w12 ⟨rfl, hbe⟩
            have r0 := r0.below hbe r0.lt
            have rp := rp.below hbe rp.lt
            have r8 := r8.below hbe r8.lt
            have r10 := r10.below hbe r10.lt
            have o0i := ownsI_below o0i hbe
            have o0r := ownsR_below o0r hbe
            have o1i := ownsI_below o1i hbe
            have o1r := ownsR_below o1r hbe
            have hB := hB.trans (hbe.mono hB.size)
            clear hbe
            clear s0 s1 s2 s3 t0 t1 t2 t3 dK
            have s0 : w12.cell? ⟨b10, 0, none⟩ = some (.slice p1 M1 u1) := r10.cell 0
            have s1 : w12.cell? ⟨b10, 1, none⟩ = some (.slice q1 M2 k1) := r10.cell 1
            have s2 : w12.cell? ⟨b10, 2, none⟩ = some (.int .i64 nw) := r10.cell 2
            have s3 : w12.cell? ⟨b10, 3, none⟩ = some (.int .i64 cc) := r10.cell 3
            go_wp2_with fail
            refine (markInstOut_any 1 cc p1 M1 u1 q1 M2 k1 nw n7 isq rsq w12 HM1.out HM2.out (by omega) HL.out.1 HL.out.2 o1i o1r (by have := r10.lt; have := hB.size; omega)).mono ?_
            rintro e_ w13' ⟨rfl, o1i', o1r', hb13, hkp⟩
            have r0 := hkp _ _ _ (ownsI_ne o1i r0 (by decide)) (ownsR_ne o1r r0 (by decide)) r0
            have rp := hkp _ _ _ (ownsI_ne o1i rp (by decide)) (ownsR_ne o1r rp (by decide)) rp
            have r8 := hkp _ _ _ (ownsI_ne o1i r8 (by decide)) (ownsR_ne o1r r8 (by decide)) r8
            have r10 := hkp _ _ _ (ownsI_ne o1i r10 (by decide)) (ownsR_ne o1r r10 (by decide)) r10
            have o0i := ownsI_kept o0i (fun b t l e hr => hkp b t l (lt_baseI o1i LI7 e) (lt_baseR o1r LI7 e) hr)
            have o0r := ownsR_kept HM2.out o0r (fun b t l e hr => hkp b t l (lt_baseI o1i LR7 e) (lt_baseR o1r LR7 e) hr)
            have hB := hB.trans (hb13.mono (by omega))
            clear hb13 hkp o1i o1r s0 s1 s2 s3
            have o1i := o1i'
            have o1r := o1r'
            clear o1i' o1r'
            have HH : Hid (∀ w, IfsIn w p1 (marksI 1 M1) → RtsIn w q1 (marksR (1 + 5 * M1) M2) → Calls Tryz.prog 21 #[.agg #[.slice p1 M1 u1, .slice q1 M2 k1, .int .i64 nw, .int .i64 cc], .int .i64 ((1 : Nat) : Int)] w fun e w' => e = .returned (.int .i64 (((1 : Nat) : Int) + 5 * (M1 : Int) + 9 * (M2 : Int))) ∧ Below w.heap.size w w') := fun w a b => heldInstOut_any 1 cc p1 M1 u1 q1 M2 k1 nw w (by omega) HL.out.1 HL.out.2 a b
            have s0 : w13'.cell? ⟨b10, 0, none⟩ = some (.slice p1 M1 u1) := r10.cell 0
            have s1 : w13'.cell? ⟨b10, 1, none⟩ = some (.slice q1 M2 k1) := r10.cell 1
            have s2 : w13'.cell? ⟨b10, 2, none⟩ = some (.int .i64 nw) := r10.cell 2
            have s3 : w13'.cell? ⟨b10, 3, none⟩ = some (.int .i64 cc) := r10.cell 3
            go_wp2_with fail
            refine (HH.out w13' (ownsI_in (marksI_length 1 M1).symm o1i) (ownsR_in (marksR_length _ M2).symm o1r)).mono ?_
            rintro e_ w13 ⟨rfl, hbe⟩
            have r0 := r0.below hbe r0.lt
            have rp := rp.below hbe rp.lt
            have r8 := r8.below hbe r8.lt
            have r10 := r10.below hbe r10.lt
            have o0i := ownsI_below o0i hbe
            have o0r := ownsR_below o0r hbe
            have o1i := ownsI_below o1i hbe
            have o1r := ownsR_below o1r hbe
            have hB := hB.trans (hbe.mono hB.size)
            clear hbe s0 s1 s2 s3
            have dN : decide (((1 : Nat) : Int) + 5 * (M1 : Int) + 9 * (M2 : Int) < 0) = false := by simp; omega
            have dM : ((((1 : Nat) : Int) + 5 * (M1 : Int) + 9 * (M2 : Int)) != (((1 : Nat) : Int) + 5 * (M1 : Int) + 9 * (M2 : Int))) = false := by simp
            go_wp2_with fail
            have hGN : (([(83, Is (.agg #[.slice x n1 c1, .slice y n2 c2, .int .i64 now])), (84, fun v W => ∃ g h, v = .agg #[.slice (some ⟨g, 0, none⟩) n1 n1, .slice (some ⟨h, 0, none⟩) n2 n2, .int .i64 now] ∧ Row W g 89 (rowI is) ∧ Row W h 98 (rowR rs)), (85, Is (.int .i64 i)), (86, Is (.int .i64 fr)), (87, Is (.agg #[.int .i64 c, .slice z n3 c3])), (88, fun v W => ∃ g, v = .agg #[.int .i64 c, .slice (some ⟨g, 0, none⟩) n3 n3] ∧ Row W g 95 (rowE es)), (89, fun v W => ∃ p d q e, v = .agg #[.slice p M1 d, .slice q M2 e, .int .i64 nw, .int .i64 cc] ∧ W.ownsRow w.heap.size 89 5 (.slice p M1 d) M1 (rowI isq) ∧ W.ownsRow w.heap.size 98 9 (.slice q M2 e) M2 (rowR rsq)), (17, fun v W => ∃ g, v = .pointer (some ⟨g, 0, none⟩) ∧ w13.heap.size ≤ g ∧ Row W g 40 [.slice none 0 0, .slice none 0 0, .int .i64 0, .int .i64 0])] : List (Nat × (Value → World → Prop))).map (·.1)).Nodup := by simp
            refine wp_region_steady 8 (SlotG [(83, Is (.agg #[.slice x n1 c1, .slice y n2 c2, .int .i64 now])), (84, fun v W => ∃ g h, v = .agg #[.slice (some ⟨g, 0, none⟩) n1 n1, .slice (some ⟨h, 0, none⟩) n2 n2, .int .i64 now] ∧ Row W g 89 (rowI is) ∧ Row W h 98 (rowR rs)), (85, Is (.int .i64 i)), (86, Is (.int .i64 fr)), (87, Is (.agg #[.int .i64 c, .slice z n3 c3])), (88, fun v W => ∃ g, v = .agg #[.int .i64 c, .slice (some ⟨g, 0, none⟩) n3 n3] ∧ Row W g 95 (rowE es)), (89, fun v W => ∃ p d q e, v = .agg #[.slice p M1 d, .slice q M2 e, .int .i64 nw, .int .i64 cc] ∧ W.ownsRow w.heap.size 89 5 (.slice p M1 d) M1 (rowI isq) ∧ W.ownsRow w.heap.size 98 9 (.slice q M2 e) M2 (rowR rsq)), (17, fun v W => ∃ g, v = .pointer (some ⟨g, 0, none⟩) ∧ w13.heap.size ≤ g ∧ Row W g 40 [.slice none 0 0, .slice none 0 0, .int .i64 0, .int .i64 0])]) (by kernel_rfl) (by kernel_rfl) (Stabs.all ⟨stab_is _, stab_inst n1 n2 now is rs, stab_is _, stab_is _, stab_is _, stab_ripH n3 c es, stab_outH w.heap.size M1 M2 nw cc isq rsq, stab_new w13.heap.size 40 [.slice none 0 0, .slice none 0 0, .int .i64 0, .int .i64 0], trivial⟩) ?_ ?_
            · intro o ho
              simp only [List.take_succ_cons, List.take_zero, List.mem_cons, List.not_mem_nil, or_false] at ho
              rcases ho with rfl | rfl | rfl | rfl | rfl | rfl | rfl | rfl
              · intro a' w' hb ha hdep
                have d4 : a'.tmps.getD 4 undef = .pointer (some ⟨w.heap.size, 0, none⟩) := ha.at 4 (by kernel_rfl)
                have hmk := fun (x : Value) (W : World) => SlotG.mk (x := x) (w := W) 0 rfl hGN
                clear hGN ha hdep
                have y0 : w'.cell? ⟨w.heap.size, 0, none⟩ = some (.slice x n1 c1) := (r0.below hb r0.lt).cell 0
                have y1 : w'.cell? ⟨w.heap.size, 1, none⟩ = some (.slice y n2 c2) := (r0.below hb r0.lt).cell 1
                have y2 : w'.cell? ⟨w.heap.size, 2, none⟩ = some (.int .i64 now) := (r0.below hb r0.lt).cell 2
                go_simp
                exact ⟨_, rfl, Below.refl _ _, hmk _ _ rfl⟩
              · intro a' w' hb ha hdep
                have d83 : a'.tmps.getD 83 undef = .agg #[.slice x n1 c1, .slice y n2 c2, .int .i64 now] := (hdep 83 (of_decide_eq_true (by kernel_rfl))).is 0 rfl
                have hmk := fun (x : Value) (W : World) => SlotG.mk (x := x) (w := W) 1 rfl hGN
                clear hGN ha hdep
                go_simp
                refine (HT.out _ (HX.out.1.below (hB.trans (hb.mono hB.size))) (HX.out.2.1.below (hB.trans (hb.mono hB.size)))).mono ?_
                rintro e w2 ⟨g, h, rfl, -, -, r7, r7h, hb2⟩
                exact ⟨_, rfl, hb2, hmk _ _ ⟨g, h, rfl, r7, r7h⟩⟩
              · intro a' w' hb ha hdep
                have d1 : a'.tmps.getD 1 undef = .int .i64 i := ha.at 1 (by kernel_rfl)
                have hmk := fun (x : Value) (W : World) => SlotG.mk (x := x) (w := W) 2 rfl hGN
                clear hGN ha hdep
                go_simp
                exact ⟨_, rfl, Below.refl _ _, hmk _ _ rfl⟩
              · intro a' w' hb ha hdep
                have d2 : a'.tmps.getD 2 undef = .int .i64 fr := ha.at 2 (by kernel_rfl)
                have hmk := fun (x : Value) (W : World) => SlotG.mk (x := x) (w := W) 3 rfl hGN
                clear hGN ha hdep
                go_simp
                exact ⟨_, rfl, Below.refl _ _, hmk _ _ rfl⟩
              · intro a' w' hb ha hdep
                have d7 : a'.tmps.getD 7 undef = .pointer (some ⟨w.heap.size + 1, 0, none⟩) := ha.at 7 (by kernel_rfl)
                have hmk := fun (x : Value) (W : World) => SlotG.mk (x := x) (w := W) 4 rfl hGN
                clear hGN ha hdep
                have v0 : w'.cell? ⟨w.heap.size + 1, 0, none⟩ = some (.int .i64 c) := (rp.below hb rp.lt).cell 0
                have v1 : w'.cell? ⟨w.heap.size + 1, 1, none⟩ = some (.slice z n3 c3) := (rp.below hb rp.lt).cell 1
                go_simp
                exact ⟨_, rfl, Below.refl _ _, hmk _ _ rfl⟩
              · intro a' w' hb ha hdep
                have d87 : a'.tmps.getD 87 undef = .agg #[.int .i64 c, .slice z n3 c3] := (hdep 87 (of_decide_eq_true (by kernel_rfl))).is 4 rfl
                have hmk := fun (x : Value) (W : World) => SlotG.mk (x := x) (w := W) 5 rfl hGN
                clear hGN ha hdep
                go_simp
                refine (HT3.out _ (HX.out.2.2.below (hB.trans (hb.mono hB.size)))).mono ?_
                rintro e w2 ⟨g, rfl, -, r7, hb2⟩
                exact ⟨_, rfl, hb2, hmk _ _ ⟨g, rfl, r7⟩⟩
              · intro a' w' hb ha hdep
                have D84 := (hdep 84 (of_decide_eq_true (by kernel_rfl))).get 1 rfl
                have d85 : a'.tmps.getD 85 undef = .int .i64 i := (hdep 85 (of_decide_eq_true (by kernel_rfl))).is 2 rfl
                have d86 : a'.tmps.getD 86 undef = .int .i64 fr := (hdep 86 (of_decide_eq_true (by kernel_rfl))).is 3 rfl
                have D88 := (hdep 88 (of_decide_eq_true (by kernel_rfl))).get 5 rfl
                have hmk := fun (x : Value) (W : World) => SlotG.mk (x := x) (w := W) 6 rfl hGN
                clear hGN ha hdep
                obtain ⟨g, h, d84, r7, r7h⟩ := D84
                obtain ⟨g3, d88, r7e⟩ := D88
                go_simp
                refine (HI.out g h g3 _ r7 r7h r7e).mono ?_
                rintro e w2 ⟨⟨p2, u2, q2, k2, rfl, oi, orr⟩, hb2⟩
                exact ⟨_, rfl, hb2, hmk _ _ ⟨p2, u2, q2, k2, rfl, ownsI_mono oi (Nat.le_trans hB.size hb.size), ownsR_mono orr (Nat.le_trans hB.size hb.size)⟩⟩
              · intro a' w' hb ha hdep
                have hmk := fun (x : Value) (W : World) => SlotG.mk (x := x) (w := W) 7 rfl hGN
                clear hGN ha hdep
                go_simp
                exact ⟨_, rfl, ent_new0 _ _, hmk _ _ ⟨w'.heap.size, rfl, hb.size, Row.new w' 40 [.slice none 0 0, .slice none 0 0, .int .i64 0, .int .i64 0]⟩⟩
            · intro a' w' hb ha hG
              clear hGN
              have D89 := (hG _ (List.mem_of_getElem? (i := 6) rfl) 89 rfl).get 6 rfl
              have D17 := (hG _ (List.mem_of_getElem? (i := 7) rfl) 17 rfl).get 7 rfl
              have d1 : a'.tmps.getD 1 undef = .int .i64 i := ha.at 1 (by kernel_rfl)
              have d2 : a'.tmps.getD 2 undef = .int .i64 fr := ha.at 2 (by kernel_rfl)
              have d4 : a'.tmps.getD 4 undef = .pointer (some ⟨w.heap.size, 0, none⟩) := ha.at 4 (by kernel_rfl)
              have d7 : a'.tmps.getD 7 undef = .pointer (some ⟨w.heap.size + 1, 0, none⟩) := ha.at 7 (by kernel_rfl)
              have d10 : a'.tmps.getD 10 undef = .pointer (some ⟨b8, 0, none⟩) := ha.at 10 (by kernel_rfl)
              have d13 : a'.tmps.getD 13 undef = .pointer (some ⟨b10, 0, none⟩) := ha.at 13 (by kernel_rfl)
              have d15 : a'.tmps.getD 15 undef = .int .i64 (((1 : Nat) : Int) + 5 * (M1 : Int) + 9 * (M2 : Int)) := ha.at 15 (by kernel_rfl)
              have e2 : a' = ⟨#[a'.tmps.getD 0 undef, a'.tmps.getD 1 undef, a'.tmps.getD 2 undef, a'.tmps.getD 3 undef, a'.tmps.getD 4 undef, a'.tmps.getD 5 undef, a'.tmps.getD 6 undef, a'.tmps.getD 7 undef, a'.tmps.getD 8 undef, a'.tmps.getD 9 undef, a'.tmps.getD 10 undef, a'.tmps.getD 11 undef, a'.tmps.getD 12 undef, a'.tmps.getD 13 undef, a'.tmps.getD 14 undef, a'.tmps.getD 15 undef, a'.tmps.getD 16 undef, a'.tmps.getD 17 undef, a'.tmps.getD 18 undef, a'.tmps.getD 19 undef, a'.tmps.getD 20 undef, a'.tmps.getD 21 undef, a'.tmps.getD 22 undef, a'.tmps.getD 23 undef, a'.tmps.getD 24 undef, a'.tmps.getD 25 undef, a'.tmps.getD 26 undef, a'.tmps.getD 27 undef, a'.tmps.getD 28 undef, a'.tmps.getD 29 undef, a'.tmps.getD 30 undef, a'.tmps.getD 31 undef, a'.tmps.getD 32 undef, a'.tmps.getD 33 undef, a'.tmps.getD 34 undef, a'.tmps.getD 35 undef, a'.tmps.getD 36 undef, a'.tmps.getD 37 undef, a'.tmps.getD 38 undef, a'.tmps.getD 39 undef, a'.tmps.getD 40 undef, a'.tmps.getD 41 undef, a'.tmps.getD 42 undef, a'.tmps.getD 43 undef, a'.tmps.getD 44 undef, a'.tmps.getD 45 undef, a'.tmps.getD 46 undef, a'.tmps.getD 47 undef, a'.tmps.getD 48 undef, a'.tmps.getD 49 undef, a'.tmps.getD 50 undef, a'.tmps.getD 51 undef, a'.tmps.getD 52 undef, a'.tmps.getD 53 undef, a'.tmps.getD 54 undef, a'.tmps.getD 55 undef, a'.tmps.getD 56 undef, a'.tmps.getD 57 undef, a'.tmps.getD 58 undef, a'.tmps.getD 59 undef, a'.tmps.getD 60 undef, a'.tmps.getD 61 undef, a'.tmps.getD 62 undef, a'.tmps.getD 63 undef, a'.tmps.getD 64 undef, a'.tmps.getD 65 undef, a'.tmps.getD 66 undef, a'.tmps.getD 67 undef, a'.tmps.getD 68 undef, a'.tmps.getD 69 undef, a'.tmps.getD 70 undef, a'.tmps.getD 71 undef, a'.tmps.getD 72 undef, a'.tmps.getD 73 undef, a'.tmps.getD 74 undef, a'.tmps.getD 75 undef, a'.tmps.getD 76 undef, a'.tmps.getD 77 undef, a'.tmps.getD 78 undef, a'.tmps.getD 79 undef, a'.tmps.getD 80 undef, a'.tmps.getD 81 undef, a'.tmps.getD 82 undef, a'.tmps.getD 83 undef, a'.tmps.getD 84 undef, a'.tmps.getD 85 undef, a'.tmps.getD 86 undef, a'.tmps.getD 87 undef, a'.tmps.getD 88 undef, a'.tmps.getD 89 undef, a'.tmps.getD 90 undef, a'.tmps.getD 91 undef, a'.tmps.getD 92 undef, a'.tmps.getD 93 undef, a'.tmps.getD 94 undef, a'.tmps.getD 95 undef, a'.tmps.getD 96 undef, a'.tmps.getD 97 undef, a'.tmps.getD 98 undef, a'.tmps.getD 99 undef, a'.tmps.getD 100 undef, a'.tmps.getD 101 undef], []⟩ := by rw [← (show a'.defers = [] from ha.2.1)]; exact act_eq a' 102 ha.1
              rw [d1, d2, d4, d7, d10, d13, d15] at e2
              clear hG ha d1 d2 d4 d7 d10 d13 d15
              generalize a'.tmps.getD 0 undef = x0 at *
              generalize a'.tmps.getD 3 undef = x3 at *
              generalize a'.tmps.getD 5 undef = x5 at *
              generalize a'.tmps.getD 6 undef = x6 at *
              generalize a'.tmps.getD 8 undef = x8 at *
              generalize a'.tmps.getD 9 undef = x9 at *
              generalize a'.tmps.getD 11 undef = x11 at *
              generalize a'.tmps.getD 12 undef = x12 at *
              generalize a'.tmps.getD 14 undef = x14 at *
              generalize a'.tmps.getD 16 undef = x16 at *
              generalize a'.tmps.getD 17 undef = x17 at *
              generalize a'.tmps.getD 18 undef = x18 at *
              generalize a'.tmps.getD 19 undef = x19 at *
              generalize a'.tmps.getD 20 undef = x20 at *
              generalize a'.tmps.getD 21 undef = x21 at *
              generalize a'.tmps.getD 22 undef = x22 at *
              generalize a'.tmps.getD 23 undef = x23 at *
              generalize a'.tmps.getD 24 undef = x24 at *
              generalize a'.tmps.getD 25 undef = x25 at *
              generalize a'.tmps.getD 26 undef = x26 at *
              generalize a'.tmps.getD 27 undef = x27 at *
              generalize a'.tmps.getD 28 undef = x28 at *
              generalize a'.tmps.getD 29 undef = x29 at *
              generalize a'.tmps.getD 30 undef = x30 at *
              generalize a'.tmps.getD 31 undef = x31 at *
              generalize a'.tmps.getD 32 undef = x32 at *
              generalize a'.tmps.getD 33 undef = x33 at *
              generalize a'.tmps.getD 34 undef = x34 at *
              generalize a'.tmps.getD 35 undef = x35 at *
              generalize a'.tmps.getD 36 undef = x36 at *
              generalize a'.tmps.getD 37 undef = x37 at *
              generalize a'.tmps.getD 38 undef = x38 at *
              generalize a'.tmps.getD 39 undef = x39 at *
              generalize a'.tmps.getD 40 undef = x40 at *
              generalize a'.tmps.getD 41 undef = x41 at *
              generalize a'.tmps.getD 42 undef = x42 at *
              generalize a'.tmps.getD 43 undef = x43 at *
              generalize a'.tmps.getD 44 undef = x44 at *
              generalize a'.tmps.getD 45 undef = x45 at *
              generalize a'.tmps.getD 46 undef = x46 at *
              generalize a'.tmps.getD 47 undef = x47 at *
              generalize a'.tmps.getD 48 undef = x48 at *
              generalize a'.tmps.getD 49 undef = x49 at *
              generalize a'.tmps.getD 50 undef = x50 at *
              generalize a'.tmps.getD 51 undef = x51 at *
              generalize a'.tmps.getD 52 undef = x52 at *
              generalize a'.tmps.getD 53 undef = x53 at *
              generalize a'.tmps.getD 54 undef = x54 at *
              generalize a'.tmps.getD 55 undef = x55 at *
              generalize a'.tmps.getD 56 undef = x56 at *
              generalize a'.tmps.getD 57 undef = x57 at *
              generalize a'.tmps.getD 58 undef = x58 at *
              generalize a'.tmps.getD 59 undef = x59 at *
              generalize a'.tmps.getD 60 undef = x60 at *
              generalize a'.tmps.getD 61 undef = x61 at *
              generalize a'.tmps.getD 62 undef = x62 at *
              generalize a'.tmps.getD 63 undef = x63 at *
              generalize a'.tmps.getD 64 undef = x64 at *
              generalize a'.tmps.getD 65 undef = x65 at *
              generalize a'.tmps.getD 66 undef = x66 at *
              generalize a'.tmps.getD 67 undef = x67 at *
              generalize a'.tmps.getD 68 undef = x68 at *
              generalize a'.tmps.getD 69 undef = x69 at *
              generalize a'.tmps.getD 70 undef = x70 at *
              generalize a'.tmps.getD 71 undef = x71 at *
              generalize a'.tmps.getD 72 undef = x72 at *
              generalize a'.tmps.getD 73 undef = x73 at *
              generalize a'.tmps.getD 74 undef = x74 at *
              generalize a'.tmps.getD 75 undef = x75 at *
              generalize a'.tmps.getD 76 undef = x76 at *
              generalize a'.tmps.getD 77 undef = x77 at *
              generalize a'.tmps.getD 78 undef = x78 at *
              generalize a'.tmps.getD 79 undef = x79 at *
              generalize a'.tmps.getD 80 undef = x80 at *
              generalize a'.tmps.getD 81 undef = x81 at *
              generalize a'.tmps.getD 82 undef = x82 at *
              generalize a'.tmps.getD 83 undef = x83 at *
              generalize a'.tmps.getD 84 undef = x84 at *
              generalize a'.tmps.getD 85 undef = x85 at *
              generalize a'.tmps.getD 86 undef = x86 at *
              generalize a'.tmps.getD 87 undef = x87 at *
              generalize a'.tmps.getD 88 undef = x88 at *
              generalize a'.tmps.getD 89 undef = x89 at *
              generalize a'.tmps.getD 90 undef = x90 at *
              generalize a'.tmps.getD 91 undef = x91 at *
              generalize a'.tmps.getD 92 undef = x92 at *
              generalize a'.tmps.getD 93 undef = x93 at *
              generalize a'.tmps.getD 94 undef = x94 at *
              generalize a'.tmps.getD 95 undef = x95 at *
              generalize a'.tmps.getD 96 undef = x96 at *
              generalize a'.tmps.getD 97 undef = x97 at *
              generalize a'.tmps.getD 98 undef = x98 at *
              generalize a'.tmps.getD 99 undef = x99 at *
              generalize a'.tmps.getD 100 undef = x100 at *
              generalize a'.tmps.getD 101 undef = x101 at *
              subst e2
              simp only [List.drop_succ_cons, List.drop_zero]
              obtain ⟨p2, u2, q2, k2, rfl, o2i, o2r⟩ := D89
              obtain ⟨b14, rfl, hb14, r14⟩ := D17
              have L8 := r8.lt
              have L10 := r10.lt
              have n8 : ¬ b8 = b14 := by omega
              have n8' : ¬ b14 = b8 := by omega
              have n10 : ¬ b10 = b14 := by omega
              have hwb : w.heap.size ≤ b14 := Nat.le_trans hB.size hb14
              have r8 := r8.below hb r8.lt
              have r10 := r10.below hb r10.lt
              have o0i := ownsI_below o0i hb
              have o0r := ownsR_below o0r hb
              have o1i := ownsI_below o1i hb
              have o1r := ownsR_below o1r hb
              have hB := hB.trans (hb.mono hB.size)
              clear hb HI HT HT3 HX r0 rp L8 L10
              have f0 : w'.frozen? ⟨b14, 0, none⟩ = false := r14.frozen 0
              have f1 : w'.frozen? ⟨b14, 1, none⟩ = false := r14.frozen 1
              have f2 : w'.frozen? ⟨b14, 2, none⟩ = false := r14.frozen 2
              have f3 : w'.frozen? ⟨b14, 3, none⟩ = false := r14.frozen 3
              have z0 : w'.cell? ⟨b14, 0, none⟩ = some (.slice none 0 0) := r14.cell 0
              have z1 : w'.cell? ⟨b14, 1, none⟩ = some (.slice none 0 0) := r14.cell 1
              have z2 : w'.cell? ⟨b14, 2, none⟩ = some (.int .i64 0) := r14.cell 2
              have z3 : w'.cell? ⟨b14, 3, none⟩ = some (.int .i64 0) := r14.cell 3
              have hk : ∀ b t l, b ≠ b14 → Row w' b t l → Row ((((w'.setCell ⟨b14, 0, none⟩ (.slice p2 M1 u2)).setCell ⟨b14, 1, none⟩ (.slice q2 M2 k2)).setCell ⟨b14, 2, none⟩ (.int .i64 nw)).setCell ⟨b14, 3, none⟩ (.int .i64 cc)) b t l := fun b t l hne h => (((h.other 0 _ hne).other 1 _ hne).other 2 _ hne).other 3 _ hne
              have t0 : w'.cell? ⟨b8, 0, none⟩ = some (.slice p0 M1 u0) := r8.cell 0
              have t1 : w'.cell? ⟨b8, 1, none⟩ = some (.slice q0 M2 k0) := r8.cell 1
              have t2 : w'.cell? ⟨b8, 2, none⟩ = some (.int .i64 nw) := r8.cell 2
              have t3 : w'.cell? ⟨b8, 3, none⟩ = some (.int .i64 cc) := r8.cell 3
              have HO := out4 (p := p2) (q := q2) (now := nw) (cc := cc) r14 rfl hwb hB o2i o2r HM2.out _ rfl
              have o0i := ownsI_kept o0i (fun b t l e hr => hk b t l (fun e2 => ownsI_ne o0i r14 (by decide) (by rw [e, e2])) hr)
              have o0r := ownsR_kept HM2.out o0r (fun b t l e hr => hk b t l (fun e2 => ownsR_ne o0r r14 (by decide) (by rw [e, e2])) hr)
              have o1i := ownsI_kept o1i (fun b t l e hr => hk b t l (fun e2 => ownsI_ne o1i r14 (by decide) (by rw [e, e2])) hr)
              have o1r := ownsR_keptK o1r (fun b t l e hr => hk b t l (fun e2 => ownsR_ne o1r r14 (by decide) (by rw [e, e2])) hr)
              have HA : Hid _ := And.intro HO (And.intro (hk _ _ _ n10 r10) (And.intro o0i (And.intro o0r (And.intro o1i o1r))))
              clear HO hk r14 r10 r8 o0i o0r o1i o1r o2i o2r hB
              go_wp2_with fail
              generalize ((((w'.setCell ⟨b14, 0, none⟩ (.slice p2 M1 u2)).setCell ⟨b14, 1, none⟩ (.slice q2 M2 k2)).setCell ⟨b14, 2, none⟩ (.int .i64 nw)).setCell ⟨b14, 3, none⟩ (.int .i64 cc)) = Z14 at *
              obtain ⟨⟨-, hB, o2i, o2r⟩, r10, o0i, o0r, o1i, o1r⟩ := HA.out
              clear HA n8 n8' n10 f0 z0 t0 f1 z1 t1 f2 z2 t2 f3 z3 t3
              refine (HQ.out p2 u2 q2 k2 Z14 (ownsI_in HM1.out o2i) (ownsR_in HM2.out o2r) (ownsI_in HM1.out o0i) (ownsR_in HM2.out o0r)).mono ?_
              rintro e_ w15 ⟨rfl, hbe⟩
              have r10 := r10.below hbe r10.lt
              have o1i := ownsI_below o1i hbe
              have o1r := ownsR_below o1r hbe
              have hB := hB.trans (hbe.mono hB.size)
              clear hbe
              clear o2i o2r o0i o0r
              have s0 : w15.cell? ⟨b10, 0, none⟩ = some (.slice p1 M1 u1) := r10.cell 0
              have s1 : w15.cell? ⟨b10, 1, none⟩ = some (.slice q1 M2 k1) := r10.cell 1
              have s2 : w15.cell? ⟨b10, 2, none⟩ = some (.int .i64 nw) := r10.cell 2
              have s3 : w15.cell? ⟨b10, 3, none⟩ = some (.int .i64 cc) := r10.cell 3
              go_wp2_with fail
              refine (HH.out w15 (ownsI_in (marksI_length 1 M1).symm o1i) (ownsR_in (marksR_length _ M2).symm o1r)).mono ?_
              rintro e_ w16 ⟨rfl, hb16⟩
              have hB := hB.trans (hb16.mono hB.size)
              clear hb16 s0 s1 s2 s3
              go_wp2
              go_ret
              exact ⟨rfl, hB⟩
end Go.Proofs.YtifckpncpjijiaaGreat
