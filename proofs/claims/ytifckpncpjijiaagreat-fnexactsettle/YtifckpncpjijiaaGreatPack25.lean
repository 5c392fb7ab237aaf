/- Texts that stand on each other, in one file: PutS. -/
import Derived.Test.YtifckpncpjijiaaGreatPack21
import Derived.Test.YtifckpncpjijiaaGreatPack15
import Derived.Test.YtifckpncpjijiaaGreatPack10
import Derived.Test.YtifckpncpjijiaaGreatPack24
/- A route put in its place, by the model. (Written by gen_puts.py.) -/
namespace Go.Proofs.YtifckpncpjijiaaGreat
open Go.RowKit Go.Sort

theorem insR_cut : ∀ (rs : List Rt) (r : Rt) (k : Nat), k ≤ rs.length → (∀ j, j < k → ltR rs[j]! r = true) → (∀ h : k < rs.length, ltR rs[k] r = false) →
    insR rs r = rs.take k ++ r :: rs.drop (if h : k < rs.length then (if isN r.a r.l rs[k] = true then k + 1 else k) else k)
  | [], r, k, hk, _, _ => by
    obtain rfl : k = 0 := by simpa using hk
    rfl
  | s :: rs, r, 0, _, _, h2 => by
    have h0 := h2 (by simp)
    simp only [List.getElem_cons_zero] at h0
    unfold insR
    rw [h0]
    simp only [List.length_cons, Nat.zero_lt_succ, dite_true, List.getElem_cons_zero, List.take_zero, List.nil_append, Bool.false_eq_true, if_false]
    split <;> rfl
  | s :: rs, r, k + 1, hk, h1, h2 => by
    have h0 := h1 0 (by omega)
    simp only [List.getElem!_cons_zero] at h0
    have ih := insR_cut rs r k (by simpa using hk) (fun j hj => by have := h1 (j + 1) (by omega); simpa using this) (fun h => by have := h2 (by simpa using h); simpa using this)
    unfold insR
    rw [if_pos h0, ih]
    simp only [List.length_cons, Nat.add_lt_add_iff_right, List.getElem_cons_succ, List.take_succ_cons, List.cons_append]
    congr 2
    split
    · split <;> rfl
    · rfl
theorem RtsIn.net {w : World} {g : Nat} {rs : List Rt} (h : RtsIn w (some ⟨g, 0, none⟩) rs) (k : Nat) (hk : k < rs.length) : w.cell? ⟨g, k * 9, none⟩ = some (.int .i64 rs[k].a) ∧ w.cell? ⟨g, k * 9 + 1, none⟩ = some (.int .i64 rs[k].l) := by
  rcases h with rfl | ⟨g', e, hg, hc⟩
  · simp at hk
  · cases e
    exact ⟨hc _ _ (rowR_get rs k 0 hk (by omega)), hc _ _ (rowR_get rs k 1 hk (by omega))⟩
theorem ownsR_shape {w : World} {base n : Nat} {v : Value} {xs : List Value} (h : w.ownsRow base 98 9 v n xs) : ∃ q c, v = .slice q n c := by
  rcases h.2 with ⟨h1, h2⟩ | ⟨g, cap, cur, h1, _⟩
  · exact ⟨none, 0, by rw [h1, h2]⟩
  · exact ⟨_, _, h1⟩
theorem insR_cut2 (rs : List Rt) (r : Rt) (k : Nat) (hk : k ≤ rs.length) (h1 : ∀ j, j < k → ltR rs[j]! r = true) (h2 : k < rs.length → ltR rs[k]! r = false) :
    insR rs r = rs.take k ++ r :: rs.drop (if k < rs.length ∧ isN r.a r.l rs[k]! = true then k + 1 else k) := by
  rw [insR_cut rs r k hk h1 (fun h => by have := h2 h; rwa [get_bang h] at this)]
  congr 3
  by_cases h : k < rs.length
  · rw [dif_pos h, get_bang h]
    simp [h]
  · rw [dif_neg h, if_neg (fun e => h e.1)]
set_option maxRecDepth 100000 in
set_option maxHeartbeats 4000000 in
theorem l06Put_any (p : Option Addr) (cap : Nat) (rs : List Rt) (r : Rt) (w : World) (h : RtsIn w p rs) (hc : p = none → cap = 0) (hcl : rs.length ≤ cap) (hn : rs.length ≤ 100000000) :
    Calls Tryz.prog 122 #[ribV p rs.length cap, rtV r] w fun e w' => ∃ q c, e = .returned (ribV q (insR rs r).length c) ∧ w'.ownsRow w.heap.size 98 9 (.slice q (insR rs r).length c) (insR rs r).length (rowR (insR rs r)) ∧ Below w.heap.size w w' := by
  have HX : Hid (RtsIn w p rs) := h
  have HC : Hid ((p = none → cap = 0) ∧ rs.length ≤ cap) := ⟨hc, hcl⟩
  have HL : Hid (∀ a l b m w, Calls Tryz.prog 127 #[.agg #[.int .i64 a, .int .i64 l], .agg #[.int .i64 b, .int .i64 m]] w fun e w' => e = .returned (.bool (decide (a < b) || (a == b && decide (l < m)))) ∧ Below w.heap.size w w') := fun a l b m w => l03Less_any a l b m w
  have HI : Hid (∀ k, k ≤ rs.length → (∀ j, j < k → ltR rs[j]! r = true) → (k < rs.length → ltR rs[k]! r = false) → insR rs r = rs.take k ++ r :: rs.drop (if k < rs.length ∧ isN r.a r.l rs[k]! = true then k + 1 else k)) := insR_cut2 rs r
  clear h hc hcl
  generalize insR rs r = qs at *
  generalize hN : rs.length = N at *
  have HN : Hid (rs.length = N) := hN
  obtain ⟨A, L, M, O, I, T, U, E, C⟩ := r
  unfold ribV rtV rtA
  simp only
  obtain ⟨W, hW, q0, q1, q2, hB, hS, -⟩ := rows3 w [.slice p N cap] [.int .i64 A, .int .i64 L, .int .i64 M, .int .i64 O, .int .i64 I, .int .i64 T, .int .i64 U, .int .i64 E, .bool C] [.slice none 0 0] 36 98 36
  have HW : Hid _ := hW
  have HQ : Hid _ := And.intro q0 (And.intro q1 (And.intro q2 hB))
  clear hW q0 q1 q2 hB hN
  go_enter Tryz.func122, Tryz.ntmps122
  go_wp2_with fail
  rw [← HW.out]
  go_loopw [5] (fun i wr => ∃ k : Nat, k ≤ N ∧ i = .int .i64 k ∧ (∀ j, j < k → ltR rs[j]! ⟨A, L, M, O, I, T, U, E, C⟩ = true) ∧ Below W.heap.size W wr) (fun i _ => N - (intOf i).toNat)
  case atStart => exact ⟨0, Nat.zero_le _, rfl, fun j hj => absurd hj (by omega), Below.refl _ _⟩
  case round =>
    obtain ⟨k, hk, rfl, ha, hb⟩ := hrel
    obtain ⟨q0, q1, q2, hB⟩ := HQ.out
    clear HW HQ
    have x0 : wr.cell? ⟨w.heap.size, 0, none⟩ = some (.slice p N cap) := (q0.below hb q0.lt).cell 0
    by_cases hlt : k < N
    · have d1 : decide ((k : Int) < (N : Int)) = true := by simpa using hlt
      have hlr : k < rs.length := by rw [HN.out]; exact hlt
      obtain ⟨g, a, l, m, n, ii, t, u, b, c, rfl, hg, hek, c0, c1, c2, c3, c4, c5, c6, c7, c8⟩ := ((HX.out).below (hB.trans (hb.mono hB.size))).at k hlr
      clear c2 c3 c4 c5 c6 c7 c8
      have y0 : wr.cell? ⟨w.heap.size + 1, 0, none⟩ = some (.int .i64 A) := (q1.below hb q1.lt).cell 0
      have y1 : wr.cell? ⟨w.heap.size + 1, 1, none⟩ = some (.int .i64 L) := (q1.below hb q1.lt).cell 1
      have HLk : Hid (∀ w, Calls Tryz.prog 127 #[.agg #[.int .i64 a, .int .i64 l], .agg #[.int .i64 A, .int .i64 L]] w fun e w' => e = .returned (.bool (decide (a < A) || (a == A && decide (l < L)))) ∧ Below w.heap.size w w') := HL.out a l A L
      have hlk : ltR rs[k] ⟨A, L, M, O, I, T, U, E, C⟩ = (decide (a < A) || (a == A && decide (l < L))) := by rw [hek]; rfl
      cases hless : (decide (a < A) || (a == A && decide (l < L)))
      · rw [hless] at HLk hlk
        have HR0 : Hid _ := HI.out k hk ha (fun _ => by rw [get_bang hlr]; exact hlk)
        clear HL HI ha hless hlk
        go_wp2_with fail
        replace x0 := cell_regrown x0
        replace c0 := cell_regrown c0
        replace c1 := cell_regrown c1
        replace y0 := cell_regrown y0
        replace y1 := cell_regrown y1
        refine wp_region_quiet_below (by kernel_rfl) (by kernel_rfl) ?_
        repeat (go_big_quiet_step (first | (go_at_call 127; exact Calls.regrown_of (HLk.out _))))
        refine wpQuiet_nil ?_
        intro w1 hw'
        obtain ⟨⟨dq, osq⟩, hw''⟩ := hw'
        have hbq := below_regrown wr dq osq
        rw [← hw''] at hbq
        clear hw'' osq dq x0 c0 c1 y0 y1
        have hb := hb.trans (hbq.mono hb.size)
        clear hbq HLk
        by_cases hit : isN A L rs[k] = true
        · have HR : qs = rs.take k ++ ⟨A, L, M, O, I, T, U, E, C⟩ :: rs.drop (k + 1) := by rw [HR0.out, if_pos ⟨hlt, by rw [get_bang hlr]; exact hit⟩]
          rw [hek] at hit
          obtain ⟨z1, z2⟩ := isN_eq hit
          simp only at z1 z2
          subst z1 z2
          have z1 : (a == a) = true := by simp
          have z2 : (l == l) = true := by simp
          clear hit
          have q0 := (q0.below hb (by omega)).alloc (.cells #[] 98)
          have q1 := (q1.below hb (by omega)).alloc (.cells #[] 98)
          have q2 := (q2.below hb (by omega)).alloc (.cells #[] 98)
          have hB1 := hB.trans (hb.mono hB.size)
          have hB := hB1.alloc hB1.size (.cells #[] 98)
          have hk8 : k ≤ cap := by have := HC.out.2; omega
          have x0 : (w1.alloc (.cells #[] 98)).cell? ⟨w.heap.size, 0, none⟩ = some (.slice (some ⟨g, 0, none⟩) N cap) := q0.cell 0
          have hX1 := (HX.out).below hB
          have hsw := hb.size
          have ho := World.ownsRow_lit (base := W.heap.size) (e := 98) (size := 9) w1 #[] 0 hsw (Nat.zero_le _) (by simp)
          have hlk : (rs.take k).length = k := by rw [List.length_take, HN.out]; omega
          obtain ⟨v4, w4, happ, hown4, hb4⟩ := run_append_rts (w1.alloc (.cells #[] 98)) W.heap.size (.slice (some ⟨w1.heap.size, 0, none⟩) 0 0) [] (rs.take k) (fromR (some ⟨g, 0, none⟩) cap 0) cap 34 (by simpa [rowR] using ho) (fun e => by
            obtain ⟨h1, h2⟩ := fromR_none (k := 0) HC.out.1 (rtsIn_none hX1) e
            rw [List.drop_zero] at h1
            exact ⟨by rw [h1]; simp, by omega⟩) (fromR_upto hX1) (by simp [List.length_take]; omega) (by simp; omega)
          rw [hlk] at happ
          rw [List.nil_append] at hown4
          have hsl := sliceR_upto (some ⟨g, 0, none⟩) N cap k (k : Int) rfl hk8
          have hsw : W.heap.size ≤ (w1.alloc (.cells #[] 98)).heap.size := by simp; omega
          clear hX1 hb hB1 ho
          have q0 := q0.below hb4 (by omega)
          have q1 := q1.below hb4 (by omega)
          have q2 := q2.below hb4 (by omega)
          have hB := hB.trans (hb4.mono (by omega))
          have hsw := Nat.le_trans hsw hb4.size
          have y0 : w4.cell? ⟨w.heap.size + 1, 0, none⟩ = some (.int .i64 a) := q1.cell 0
          have y1 : w4.cell? ⟨w.heap.size + 1, 1, none⟩ = some (.int .i64 l) := q1.cell 1
          have y2 : w4.cell? ⟨w.heap.size + 1, 2, none⟩ = some (.int .i64 M) := q1.cell 2
          have y3 : w4.cell? ⟨w.heap.size + 1, 3, none⟩ = some (.int .i64 O) := q1.cell 3
          have y4 : w4.cell? ⟨w.heap.size + 1, 4, none⟩ = some (.int .i64 I) := q1.cell 4
          have y5 : w4.cell? ⟨w.heap.size + 1, 5, none⟩ = some (.int .i64 T) := q1.cell 5
          have y6 : w4.cell? ⟨w.heap.size + 1, 6, none⟩ = some (.int .i64 U) := q1.cell 6
          have y7 : w4.cell? ⟨w.heap.size + 1, 7, none⟩ = some (.int .i64 E) := q1.cell 7
          have y8 : w4.cell? ⟨w.heap.size + 1, 8, none⟩ = some (.bool C) := q1.cell 8
          have q0 := q0.alloc (.cells #[.int .i64 a, .int .i64 l, .int .i64 M, .int .i64 O, .int .i64 I, .int .i64 T, .int .i64 U, .int .i64 E, .bool C] 98)
          have q1 := q1.alloc (.cells #[.int .i64 a, .int .i64 l, .int .i64 M, .int .i64 O, .int .i64 I, .int .i64 T, .int .i64 U, .int .i64 E, .bool C] 98)
          have q2 := q2.alloc (.cells #[.int .i64 a, .int .i64 l, .int .i64 M, .int .i64 O, .int .i64 I, .int .i64 T, .int .i64 U, .int .i64 E, .bool C] 98)
          have hB := hB.alloc (by omega) (.cells #[.int .i64 a, .int .i64 l, .int .i64 M, .int .i64 O, .int .i64 I, .int .i64 T, .int .i64 U, .int .i64 E, .bool C] 98)
          have qn := Row.new w4 98 [.int .i64 a, .int .i64 l, .int .i64 M, .int .i64 O, .int .i64 I, .int .i64 T, .int .i64 U, .int .i64 E, .bool C]
          obtain ⟨v5, w5, happ5, hown5, hb5⟩ := run_append_rts (w4.alloc (.cells #[.int .i64 a, .int .i64 l, .int .i64 M, .int .i64 O, .int .i64 I, .int .i64 T, .int .i64 U, .int .i64 E, .bool C] 98)) W.heap.size v4 (rs.take k) [(⟨a, l, M, O, I, T, U, E, C⟩ : Rt)] (some ⟨w4.heap.size, 0, none⟩) 1 34 (World.ownsRow.alloc hown4 _) (fun e => by cases e) (fun ad e j u hj => by
            cases e
            rw [addR, Nat.zero_add, qn.cell]
            exact hj) (by simp [List.length_take]; omega) (by simp; omega)
          rw [List.length_singleton] at happ5
          have HE5 : Hid _ := And.intro q0 (And.intro q1 (And.intro q2 (And.intro hB (And.intro hown5 (And.intro hb5 (show W.heap.size ≤ (w4.alloc (.cells #[.int .i64 a, .int .i64 l, .int .i64 M, .int .i64 O, .int .i64 I, .int .i64 T, .int .i64 U, .int .i64 E, .bool C] 98)).heap.size by simp; omega))))))
          clear q0 q1 q2 hB hown4 hb4 hown5 hb5 hsw qn
          go_wp2_with (at_builtin; first | refine wpList_append_runs rfl _ _ 34 rfl _ _ rfl rfl happ ?_ | refine wpList_append_runs rfl _ _ 34 rfl _ _ rfl rfl happ5 ?_)
          clear happ x0 hsl
          obtain ⟨q0, q1, q2, hB, hown5, hb5, hsw⟩ := HE5.out
          have q0 := q0.below hb5 (by omega)
          have q1 := q1.below hb5 (by omega)
          have q2 := q2.below hb5 (by omega)
          have hB := hB.trans (hb5.mono (by omega))
          have hsw := Nat.le_trans hsw hb5.size
          have x0 : w5.cell? ⟨w.heap.size, 0, none⟩ = some (.slice (some ⟨g, 0, none⟩) N cap) := q0.cell 0
          clear happ5 HE5 hb5 y0 y1 y2 y3 y4 y5 y6 y7 y8
          obtain ⟨c0, c1⟩ := ((HX.out).below hB).net k hlr
          rw [hek] at c0 c1
          have y0 : w5.cell? ⟨w.heap.size + 1, 0, none⟩ = some (.int .i64 a) := q1.cell 0
          have y1 : w5.cell? ⟨w.heap.size + 1, 1, none⟩ = some (.int .i64 l) := q1.cell 1
          simp only at c0 c1
          go_wp2_with fail
          replace x0 := cell_regrown x0
          replace c0 := cell_regrown c0
          replace c1 := cell_regrown c1
          replace y0 := cell_regrown y0
          replace y1 := cell_regrown y1
          refine wp_region_quiet_below (by kernel_rfl) (by kernel_rfl) ?_
          repeat (go_big_quiet_step (fail))
          refine wpQuiet_nil ?_
          intro w6 hw'
          obtain ⟨⟨dq, osq⟩, hw''⟩ := hw'
          have hbq := below_regrown w5 dq osq
          rw [← hw''] at hbq
          clear hw'' osq dq x0 c0 c1 y0 y1
          have q0 := q0.below hbq q0.lt
          have q2 := q2.below hbq q2.lt
          have hB := hB.trans (hbq.mono hB.size)
          have hX6 := (HX.out).below hB
          have hsw := Nat.le_trans hsw hbq.size
          have hown6 : w6.ownsRow W.heap.size 98 9 v5 (rs.take k ++ [(⟨a, l, M, O, I, T, U, E, C⟩ : Rt)]).length (rowR (rs.take k ++ [(⟨a, l, M, O, I, T, U, E, C⟩ : Rt)])) := World.ownsRow.kept hown5 (row := none) ⟨hbq.os, hbq.tape, hbq.output, hbq.size, fun k hk _ => hbq.block k hk⟩ (by cases v5.ownBlock <;> simp)
          have x0 : w6.cell? ⟨w.heap.size, 0, none⟩ = some (.slice (some ⟨g, 0, none⟩) N cap) := q0.cell 0
          obtain ⟨v8, w8, happ8, hown8, hb8⟩ := run_append_rts w6 W.heap.size v5 (rs.take k ++ [(⟨a, l, M, O, I, T, U, E, C⟩ : Rt)]) (rs.drop (k + 1)) (fromR (some ⟨g, 0, none⟩) cap (k + 1)) (cap - (k + 1)) 34 hown6 (fun e => fromR_none HC.out.1 (rtsIn_none hX6) e) (fromR_cells hX6 (by rw [HN.out]; exact HC.out.2)) (by have := HN.out; simp [List.length_take]; omega) hsw
          rw [List.length_drop, HN.out] at happ8
          have hsl := sliceR_from (some ⟨g, 0, none⟩) N cap (k + 1) ((k : Int) + 1) (by omega) (by omega)
          generalize hQS : rs.take k ++ [(⟨a, l, M, O, I, T, U, E, C⟩ : Rt)] ++ rs.drop (k + 1) = QS at hown8
          have hq : qs = QS := by rw [HR, ← hQS, List.append_assoc]; rfl
          subst hq
          clear hQS
          obtain ⟨q8, c8, rfl⟩ := ownsR_shape hown8
          have q2 := q2.below hb8 (by omega)
          have hB := hB.trans (hb8.mono (by omega))
          have f0 : w8.frozen? ⟨w.heap.size + 1 + 1, 0, none⟩ = false := q2.frozen 0
          have z0 : w8.cell? ⟨w.heap.size + 1 + 1, 0, none⟩ = some (.slice none 0 0) := q2.cell 0
          have HE9 : Hid _ := And.intro (q2.set 0 (.slice q8 qs.length c8)) (And.intro (hB.setCell (p := ⟨w.heap.size + 1 + 1, 0, none⟩) (by show w.heap.size ≤ w.heap.size + 1 + 1; omega) (.slice q8 qs.length c8)) (ownR_set (base' := w.heap.size) hown8 ⟨w.heap.size + 1 + 1, 0, none⟩ (by show w.heap.size + 1 + 1 < W.heap.size; omega) (.slice q8 qs.length c8) (by omega)))
          clear q0 q1 q2 hB hown5 hown6 hown8 hb8 hbq hX6 hsw HR
          go_wp2_with (at_builtin; refine wpList_append_runs rfl _ _ 34 rfl _ _ rfl rfl happ8 ?_)
          obtain ⟨h1, h2, h3⟩ := HE9.out
          clear HE9 f0 z0
          generalize (w8.setCell ⟨w.heap.size + 1 + 1, 0, none⟩ (.slice q8 qs.length c8)) = Z at *
          have e0 : Z.cell? ⟨w.heap.size + 1 + 1, 0, none⟩ = some (.slice q8 qs.length c8) := h1.cell 0
          exact bodyPost_ret (v := .agg #[.slice q8 qs.length c8]) (by simp [results, Tryz.results122, go_sem, e0]) rfl ⟨q8, c8, rfl, h3, h2⟩
        · have HR : qs = rs.take k ++ ⟨A, L, M, O, I, T, U, E, C⟩ :: rs.drop k := by rw [HR0.out, if_neg (fun e => hit (by rw [← get_bang hlr]; exact e.2))]
          rw [hek] at hit
          by_cases hA : a = A
          · have z1 : (a == A) = true := by simpa using hA
            have z2 : (l == L) = false := by
              rw [beq_eq_false_iff_ne]
              intro hL
              exact hit (by simp [isN, hA, hL])
            clear hit hA
            have q0 := (q0.below hb (by omega)).alloc (.cells #[] 98)
            have q1 := (q1.below hb (by omega)).alloc (.cells #[] 98)
            have q2 := (q2.below hb (by omega)).alloc (.cells #[] 98)
            have hB1 := hB.trans (hb.mono hB.size)
            have hB := hB1.alloc hB1.size (.cells #[] 98)
            have hk8 : k ≤ cap := by have := HC.out.2; omega
            have x0 : (w1.alloc (.cells #[] 98)).cell? ⟨w.heap.size, 0, none⟩ = some (.slice (some ⟨g, 0, none⟩) N cap) := q0.cell 0
            have hX1 := (HX.out).below hB
            have hsw := hb.size
            have ho := World.ownsRow_lit (base := W.heap.size) (e := 98) (size := 9) w1 #[] 0 hsw (Nat.zero_le _) (by simp)
            have hlk : (rs.take k).length = k := by rw [List.length_take, HN.out]; omega
            obtain ⟨v4, w4, happ, hown4, hb4⟩ := run_append_rts (w1.alloc (.cells #[] 98)) W.heap.size (.slice (some ⟨w1.heap.size, 0, none⟩) 0 0) [] (rs.take k) (fromR (some ⟨g, 0, none⟩) cap 0) cap 34 (by simpa [rowR] using ho) (fun e => by
              obtain ⟨h1, h2⟩ := fromR_none (k := 0) HC.out.1 (rtsIn_none hX1) e
              rw [List.drop_zero] at h1
              exact ⟨by rw [h1]; simp, by omega⟩) (fromR_upto hX1) (by simp [List.length_take]; omega) (by simp; omega)
            rw [hlk] at happ
            rw [List.nil_append] at hown4
            have hsl := sliceR_upto (some ⟨g, 0, none⟩) N cap k (k : Int) rfl hk8
            have hsw : W.heap.size ≤ (w1.alloc (.cells #[] 98)).heap.size := by simp; omega
            clear hX1 hb hB1 ho
            have q0 := q0.below hb4 (by omega)
            have q1 := q1.below hb4 (by omega)
            have q2 := q2.below hb4 (by omega)
            have hB := hB.trans (hb4.mono (by omega))
            have hsw := Nat.le_trans hsw hb4.size
            have y0 : w4.cell? ⟨w.heap.size + 1, 0, none⟩ = some (.int .i64 A) := q1.cell 0
            have y1 : w4.cell? ⟨w.heap.size + 1, 1, none⟩ = some (.int .i64 L) := q1.cell 1
            have y2 : w4.cell? ⟨w.heap.size + 1, 2, none⟩ = some (.int .i64 M) := q1.cell 2
            have y3 : w4.cell? ⟨w.heap.size + 1, 3, none⟩ = some (.int .i64 O) := q1.cell 3
            have y4 : w4.cell? ⟨w.heap.size + 1, 4, none⟩ = some (.int .i64 I) := q1.cell 4
            have y5 : w4.cell? ⟨w.heap.size + 1, 5, none⟩ = some (.int .i64 T) := q1.cell 5
            have y6 : w4.cell? ⟨w.heap.size + 1, 6, none⟩ = some (.int .i64 U) := q1.cell 6
            have y7 : w4.cell? ⟨w.heap.size + 1, 7, none⟩ = some (.int .i64 E) := q1.cell 7
            have y8 : w4.cell? ⟨w.heap.size + 1, 8, none⟩ = some (.bool C) := q1.cell 8
            have q0 := q0.alloc (.cells #[.int .i64 A, .int .i64 L, .int .i64 M, .int .i64 O, .int .i64 I, .int .i64 T, .int .i64 U, .int .i64 E, .bool C] 98)
            have q1 := q1.alloc (.cells #[.int .i64 A, .int .i64 L, .int .i64 M, .int .i64 O, .int .i64 I, .int .i64 T, .int .i64 U, .int .i64 E, .bool C] 98)
            have q2 := q2.alloc (.cells #[.int .i64 A, .int .i64 L, .int .i64 M, .int .i64 O, .int .i64 I, .int .i64 T, .int .i64 U, .int .i64 E, .bool C] 98)
            have hB := hB.alloc (by omega) (.cells #[.int .i64 A, .int .i64 L, .int .i64 M, .int .i64 O, .int .i64 I, .int .i64 T, .int .i64 U, .int .i64 E, .bool C] 98)
            have qn := Row.new w4 98 [.int .i64 A, .int .i64 L, .int .i64 M, .int .i64 O, .int .i64 I, .int .i64 T, .int .i64 U, .int .i64 E, .bool C]
            obtain ⟨v5, w5, happ5, hown5, hb5⟩ := run_append_rts (w4.alloc (.cells #[.int .i64 A, .int .i64 L, .int .i64 M, .int .i64 O, .int .i64 I, .int .i64 T, .int .i64 U, .int .i64 E, .bool C] 98)) W.heap.size v4 (rs.take k) [(⟨A, L, M, O, I, T, U, E, C⟩ : Rt)] (some ⟨w4.heap.size, 0, none⟩) 1 34 (World.ownsRow.alloc hown4 _) (fun e => by cases e) (fun ad e j u hj => by
              cases e
              rw [addR, Nat.zero_add, qn.cell]
              exact hj) (by simp [List.length_take]; omega) (by simp; omega)
            rw [List.length_singleton] at happ5
            have HE5 : Hid _ := And.intro q0 (And.intro q1 (And.intro q2 (And.intro hB (And.intro hown5 (And.intro hb5 (show W.heap.size ≤ (w4.alloc (.cells #[.int .i64 A, .int .i64 L, .int .i64 M, .int .i64 O, .int .i64 I, .int .i64 T, .int .i64 U, .int .i64 E, .bool C] 98)).heap.size by simp; omega))))))
            clear q0 q1 q2 hB hown4 hb4 hown5 hb5 hsw qn
            go_wp2_with (at_builtin; first | refine wpList_append_runs rfl _ _ 34 rfl _ _ rfl rfl happ ?_ | refine wpList_append_runs rfl _ _ 34 rfl _ _ rfl rfl happ5 ?_)
            clear happ x0 hsl
            obtain ⟨q0, q1, q2, hB, hown5, hb5, hsw⟩ := HE5.out
            have q0 := q0.below hb5 (by omega)
            have q1 := q1.below hb5 (by omega)
            have q2 := q2.below hb5 (by omega)
            have hB := hB.trans (hb5.mono (by omega))
            have hsw := Nat.le_trans hsw hb5.size
            have x0 : w5.cell? ⟨w.heap.size, 0, none⟩ = some (.slice (some ⟨g, 0, none⟩) N cap) := q0.cell 0
            clear happ5 HE5 hb5 y0 y1 y2 y3 y4 y5 y6 y7 y8
            obtain ⟨c0, c1⟩ := ((HX.out).below hB).net k hlr
            rw [hek] at c0 c1
            have y0 : w5.cell? ⟨w.heap.size + 1, 0, none⟩ = some (.int .i64 A) := q1.cell 0
            have y1 : w5.cell? ⟨w.heap.size + 1, 1, none⟩ = some (.int .i64 L) := q1.cell 1
            simp only at c0 c1
            go_wp2_with fail
            replace x0 := cell_regrown x0
            replace c0 := cell_regrown c0
            replace c1 := cell_regrown c1
            replace y0 := cell_regrown y0
            replace y1 := cell_regrown y1
            refine wp_region_quiet_below (by kernel_rfl) (by kernel_rfl) ?_
            repeat (go_big_quiet_step (fail))
            refine wpQuiet_nil ?_
            intro w6 hw'
            obtain ⟨⟨dq, osq⟩, hw''⟩ := hw'
            have hbq := below_regrown w5 dq osq
            rw [← hw''] at hbq
            clear hw'' osq dq x0 c0 c1 y0 y1
            have q0 := q0.below hbq q0.lt
            have q2 := q2.below hbq q2.lt
            have hB := hB.trans (hbq.mono hB.size)
            have hX6 := (HX.out).below hB
            have hsw := Nat.le_trans hsw hbq.size
            have hown6 : w6.ownsRow W.heap.size 98 9 v5 (rs.take k ++ [(⟨A, L, M, O, I, T, U, E, C⟩ : Rt)]).length (rowR (rs.take k ++ [(⟨A, L, M, O, I, T, U, E, C⟩ : Rt)])) := World.ownsRow.kept hown5 (row := none) ⟨hbq.os, hbq.tape, hbq.output, hbq.size, fun k hk _ => hbq.block k hk⟩ (by cases v5.ownBlock <;> simp)
            have x0 : w6.cell? ⟨w.heap.size, 0, none⟩ = some (.slice (some ⟨g, 0, none⟩) N cap) := q0.cell 0
            obtain ⟨v8, w8, happ8, hown8, hb8⟩ := run_append_rts w6 W.heap.size v5 (rs.take k ++ [(⟨A, L, M, O, I, T, U, E, C⟩ : Rt)]) (rs.drop (k)) (fromR (some ⟨g, 0, none⟩) cap (k)) (cap - (k)) 34 hown6 (fun e => fromR_none HC.out.1 (rtsIn_none hX6) e) (fromR_cells hX6 (by rw [HN.out]; exact HC.out.2)) (by have := HN.out; simp [List.length_take]; omega) hsw
            rw [List.length_drop, HN.out] at happ8
            have hsl := sliceR_from (some ⟨g, 0, none⟩) N cap (k) ((k : Int)) (by omega) (by omega)
            generalize hQS : rs.take k ++ [(⟨A, L, M, O, I, T, U, E, C⟩ : Rt)] ++ rs.drop (k) = QS at hown8
            have hq : qs = QS := by rw [HR, ← hQS, List.append_assoc]; rfl
            subst hq
            clear hQS
            obtain ⟨q8, c8, rfl⟩ := ownsR_shape hown8
            have q2 := q2.below hb8 (by omega)
            have hB := hB.trans (hb8.mono (by omega))
            have f0 : w8.frozen? ⟨w.heap.size + 1 + 1, 0, none⟩ = false := q2.frozen 0
            have z0 : w8.cell? ⟨w.heap.size + 1 + 1, 0, none⟩ = some (.slice none 0 0) := q2.cell 0
            have HE9 : Hid _ := And.intro (q2.set 0 (.slice q8 qs.length c8)) (And.intro (hB.setCell (p := ⟨w.heap.size + 1 + 1, 0, none⟩) (by show w.heap.size ≤ w.heap.size + 1 + 1; omega) (.slice q8 qs.length c8)) (ownR_set (base' := w.heap.size) hown8 ⟨w.heap.size + 1 + 1, 0, none⟩ (by show w.heap.size + 1 + 1 < W.heap.size; omega) (.slice q8 qs.length c8) (by omega)))
            clear q0 q1 q2 hB hown5 hown6 hown8 hb8 hbq hX6 hsw HR
            go_wp2_with (at_builtin; refine wpList_append_runs rfl _ _ 34 rfl _ _ rfl rfl happ8 ?_)
            obtain ⟨h1, h2, h3⟩ := HE9.out
            clear HE9 f0 z0
            generalize (w8.setCell ⟨w.heap.size + 1 + 1, 0, none⟩ (.slice q8 qs.length c8)) = Z at *
            have e0 : Z.cell? ⟨w.heap.size + 1 + 1, 0, none⟩ = some (.slice q8 qs.length c8) := h1.cell 0
            exact bodyPost_ret (v := .agg #[.slice q8 qs.length c8]) (by simp [results, Tryz.results122, go_sem, e0]) rfl ⟨q8, c8, rfl, h3, h2⟩
          · have z1 : (a == A) = false := by simpa using hA
            clear hit hA
            have q0 := (q0.below hb (by omega)).alloc (.cells #[] 98)
            have q1 := (q1.below hb (by omega)).alloc (.cells #[] 98)
            have q2 := (q2.below hb (by omega)).alloc (.cells #[] 98)
            have hB1 := hB.trans (hb.mono hB.size)
            have hB := hB1.alloc hB1.size (.cells #[] 98)
            have hk8 : k ≤ cap := by have := HC.out.2; omega
            have x0 : (w1.alloc (.cells #[] 98)).cell? ⟨w.heap.size, 0, none⟩ = some (.slice (some ⟨g, 0, none⟩) N cap) := q0.cell 0
            have hX1 := (HX.out).below hB
            have hsw := hb.size
            have ho := World.ownsRow_lit (base := W.heap.size) (e := 98) (size := 9) w1 #[] 0 hsw (Nat.zero_le _) (by simp)
            have hlk : (rs.take k).length = k := by rw [List.length_take, HN.out]; omega
            obtain ⟨v4, w4, happ, hown4, hb4⟩ := run_append_rts (w1.alloc (.cells #[] 98)) W.heap.size (.slice (some ⟨w1.heap.size, 0, none⟩) 0 0) [] (rs.take k) (fromR (some ⟨g, 0, none⟩) cap 0) cap 34 (by simpa [rowR] using ho) (fun e => by
              obtain ⟨h1, h2⟩ := fromR_none (k := 0) HC.out.1 (rtsIn_none hX1) e
              rw [List.drop_zero] at h1
              exact ⟨by rw [h1]; simp, by omega⟩) (fromR_upto hX1) (by simp [List.length_take]; omega) (by simp; omega)
            rw [hlk] at happ
            rw [List.nil_append] at hown4
            have hsl := sliceR_upto (some ⟨g, 0, none⟩) N cap k (k : Int) rfl hk8
            have hsw : W.heap.size ≤ (w1.alloc (.cells #[] 98)).heap.size := by simp; omega
            clear hX1 hb hB1 ho
            have q0 := q0.below hb4 (by omega)
            have q1 := q1.below hb4 (by omega)
            have q2 := q2.below hb4 (by omega)
            have hB := hB.trans (hb4.mono (by omega))
            have hsw := Nat.le_trans hsw hb4.size
            have y0 : w4.cell? ⟨w.heap.size + 1, 0, none⟩ = some (.int .i64 A) := q1.cell 0
            have y1 : w4.cell? ⟨w.heap.size + 1, 1, none⟩ = some (.int .i64 L) := q1.cell 1
            have y2 : w4.cell? ⟨w.heap.size + 1, 2, none⟩ = some (.int .i64 M) := q1.cell 2
            have y3 : w4.cell? ⟨w.heap.size + 1, 3, none⟩ = some (.int .i64 O) := q1.cell 3
            have y4 : w4.cell? ⟨w.heap.size + 1, 4, none⟩ = some (.int .i64 I) := q1.cell 4
            have y5 : w4.cell? ⟨w.heap.size + 1, 5, none⟩ = some (.int .i64 T) := q1.cell 5
            have y6 : w4.cell? ⟨w.heap.size + 1, 6, none⟩ = some (.int .i64 U) := q1.cell 6
            have y7 : w4.cell? ⟨w.heap.size + 1, 7, none⟩ = some (.int .i64 E) := q1.cell 7
            have y8 : w4.cell? ⟨w.heap.size + 1, 8, none⟩ = some (.bool C) := q1.cell 8
            have q0 := q0.alloc (.cells #[.int .i64 A, .int .i64 L, .int .i64 M, .int .i64 O, .int .i64 I, .int .i64 T, .int .i64 U, .int .i64 E, .bool C] 98)
            have q1 := q1.alloc (.cells #[.int .i64 A, .int .i64 L, .int .i64 M, .int .i64 O, .int .i64 I, .int .i64 T, .int .i64 U, .int .i64 E, .bool C] 98)
            have q2 := q2.alloc (.cells #[.int .i64 A, .int .i64 L, .int .i64 M, .int .i64 O, .int .i64 I, .int .i64 T, .int .i64 U, .int .i64 E, .bool C] 98)
            have hB := hB.alloc (by omega) (.cells #[.int .i64 A, .int .i64 L, .int .i64 M, .int .i64 O, .int .i64 I, .int .i64 T, .int .i64 U, .int .i64 E, .bool C] 98)
            have qn := Row.new w4 98 [.int .i64 A, .int .i64 L, .int .i64 M, .int .i64 O, .int .i64 I, .int .i64 T, .int .i64 U, .int .i64 E, .bool C]
            obtain ⟨v5, w5, happ5, hown5, hb5⟩ := run_append_rts (w4.alloc (.cells #[.int .i64 A, .int .i64 L, .int .i64 M, .int .i64 O, .int .i64 I, .int .i64 T, .int .i64 U, .int .i64 E, .bool C] 98)) W.heap.size v4 (rs.take k) [(⟨A, L, M, O, I, T, U, E, C⟩ : Rt)] (some ⟨w4.heap.size, 0, none⟩) 1 34 (World.ownsRow.alloc hown4 _) (fun e => by cases e) (fun ad e j u hj => by
              cases e
              rw [addR, Nat.zero_add, qn.cell]
              exact hj) (by simp [List.length_take]; omega) (by simp; omega)
            rw [List.length_singleton] at happ5
            have HE5 : Hid _ := And.intro q0 (And.intro q1 (And.intro q2 (And.intro hB (And.intro hown5 (And.intro hb5 (show W.heap.size ≤ (w4.alloc (.cells #[.int .i64 A, .int .i64 L, .int .i64 M, .int .i64 O, .int .i64 I, .int .i64 T, .int .i64 U, .int .i64 E, .bool C] 98)).heap.size by simp; omega))))))
            clear q0 q1 q2 hB hown4 hb4 hown5 hb5 hsw qn
            go_wp2_with (at_builtin; first | refine wpList_append_runs rfl _ _ 34 rfl _ _ rfl rfl happ ?_ | refine wpList_append_runs rfl _ _ 34 rfl _ _ rfl rfl happ5 ?_)
            clear happ x0 hsl
            obtain ⟨q0, q1, q2, hB, hown5, hb5, hsw⟩ := HE5.out
            have q0 := q0.below hb5 (by omega)
            have q1 := q1.below hb5 (by omega)
            have q2 := q2.below hb5 (by omega)
            have hB := hB.trans (hb5.mono (by omega))
            have hsw := Nat.le_trans hsw hb5.size
            have x0 : w5.cell? ⟨w.heap.size, 0, none⟩ = some (.slice (some ⟨g, 0, none⟩) N cap) := q0.cell 0
            clear happ5 HE5 hb5 y0 y1 y2 y3 y4 y5 y6 y7 y8
            obtain ⟨c0, c1⟩ := ((HX.out).below hB).net k hlr
            rw [hek] at c0 c1
            have y0 : w5.cell? ⟨w.heap.size + 1, 0, none⟩ = some (.int .i64 A) := q1.cell 0
            have y1 : w5.cell? ⟨w.heap.size + 1, 1, none⟩ = some (.int .i64 L) := q1.cell 1
            simp only at c0 c1
            go_wp2_with fail
            replace x0 := cell_regrown x0
            replace c0 := cell_regrown c0
            replace c1 := cell_regrown c1
            replace y0 := cell_regrown y0
            replace y1 := cell_regrown y1
            refine wp_region_quiet_below (by kernel_rfl) (by kernel_rfl) ?_
            repeat (go_big_quiet_step (fail))
            refine wpQuiet_nil ?_
            intro w6 hw'
            obtain ⟨⟨dq, osq⟩, hw''⟩ := hw'
            have hbq := below_regrown w5 dq osq
            rw [← hw''] at hbq
            clear hw'' osq dq x0 c0 c1 y0 y1
            have q0 := q0.below hbq q0.lt
            have q2 := q2.below hbq q2.lt
            have hB := hB.trans (hbq.mono hB.size)
            have hX6 := (HX.out).below hB
            have hsw := Nat.le_trans hsw hbq.size
            have hown6 : w6.ownsRow W.heap.size 98 9 v5 (rs.take k ++ [(⟨A, L, M, O, I, T, U, E, C⟩ : Rt)]).length (rowR (rs.take k ++ [(⟨A, L, M, O, I, T, U, E, C⟩ : Rt)])) := World.ownsRow.kept hown5 (row := none) ⟨hbq.os, hbq.tape, hbq.output, hbq.size, fun k hk _ => hbq.block k hk⟩ (by cases v5.ownBlock <;> simp)
            have x0 : w6.cell? ⟨w.heap.size, 0, none⟩ = some (.slice (some ⟨g, 0, none⟩) N cap) := q0.cell 0
            obtain ⟨v8, w8, happ8, hown8, hb8⟩ := run_append_rts w6 W.heap.size v5 (rs.take k ++ [(⟨A, L, M, O, I, T, U, E, C⟩ : Rt)]) (rs.drop (k)) (fromR (some ⟨g, 0, none⟩) cap (k)) (cap - (k)) 34 hown6 (fun e => fromR_none HC.out.1 (rtsIn_none hX6) e) (fromR_cells hX6 (by rw [HN.out]; exact HC.out.2)) (by have := HN.out; simp [List.length_take]; omega) hsw
            rw [List.length_drop, HN.out] at happ8
            have hsl := sliceR_from (some ⟨g, 0, none⟩) N cap (k) ((k : Int)) (by omega) (by omega)
            generalize hQS : rs.take k ++ [(⟨A, L, M, O, I, T, U, E, C⟩ : Rt)] ++ rs.drop (k) = QS at hown8
            have hq : qs = QS := by rw [HR, ← hQS, List.append_assoc]; rfl
            subst hq
            clear hQS
            obtain ⟨q8, c8, rfl⟩ := ownsR_shape hown8
            have q2 := q2.below hb8 (by omega)
            have hB := hB.trans (hb8.mono (by omega))
            have f0 : w8.frozen? ⟨w.heap.size + 1 + 1, 0, none⟩ = false := q2.frozen 0
            have z0 : w8.cell? ⟨w.heap.size + 1 + 1, 0, none⟩ = some (.slice none 0 0) := q2.cell 0
            have HE9 : Hid _ := And.intro (q2.set 0 (.slice q8 qs.length c8)) (And.intro (hB.setCell (p := ⟨w.heap.size + 1 + 1, 0, none⟩) (by show w.heap.size ≤ w.heap.size + 1 + 1; omega) (.slice q8 qs.length c8)) (ownR_set (base' := w.heap.size) hown8 ⟨w.heap.size + 1 + 1, 0, none⟩ (by show w.heap.size + 1 + 1 < W.heap.size; omega) (.slice q8 qs.length c8) (by omega)))
            clear q0 q1 q2 hB hown5 hown6 hown8 hb8 hbq hX6 hsw HR
            go_wp2_with (at_builtin; refine wpList_append_runs rfl _ _ 34 rfl _ _ rfl rfl happ8 ?_)
            obtain ⟨h1, h2, h3⟩ := HE9.out
            clear HE9 f0 z0
            generalize (w8.setCell ⟨w.heap.size + 1 + 1, 0, none⟩ (.slice q8 qs.length c8)) = Z at *
            have e0 : Z.cell? ⟨w.heap.size + 1 + 1, 0, none⟩ = some (.slice q8 qs.length c8) := h1.cell 0
            exact bodyPost_ret (v := .agg #[.slice q8 qs.length c8]) (by simp [results, Tryz.results122, go_sem, e0]) rfl ⟨q8, c8, rfl, h3, h2⟩
      · rw [hless] at HLk hlk
        have HNx : Hid (∀ j, j < k + 1 → ltR rs[j]! ⟨A, L, M, O, I, T, U, E, C⟩ = true) := fun j hj => by
          rcases Nat.lt_or_ge j k with h' | h'
          · exact ha j h'
          · obtain rfl : j = k := by omega
            rw [get_bang hlr]; exact hlk
        clear HL HI ha hless hlk hek
        go_wp2_with fail
        replace x0 := cell_regrown x0
        replace c0 := cell_regrown c0
        replace c1 := cell_regrown c1
        replace y0 := cell_regrown y0
        replace y1 := cell_regrown y1
        refine wp_region_quiet_below (by kernel_rfl) (by kernel_rfl) ?_
        repeat (go_big_quiet_step (first | (go_at_call 127; exact Calls.regrown_of (HLk.out _))))
        refine wpQuiet_nil ?_
        intro w1 hw'
        obtain ⟨⟨dq, osq⟩, hw''⟩ := hw'
        have hbq := below_regrown wr dq osq
        rw [← hw''] at hbq
        clear hw'' osq dq x0 c0 c1 y0 y1
        have hb := hb.trans (hbq.mono hb.size)
        clear hbq HLk
        go_wp2
        go_roundw
        case rel => exact ⟨k + 1, hlt, by go_num, HNx.out, hb⟩
        case measure => simp [intOf]; omega
    · obtain rfl : k = N := by omega
      have d1 : decide ((k : Int) < (k : Int)) = false := by simp
      have HR := HI.out k hk ha (fun h => absurd h (by omega))
      rw [if_neg (fun e => hlt e.1)] at HR
      clear HL HI ha hlt
      go_wp2_with fail
      replace x0 := cell_regrown x0
      refine wp_region_quiet_below (by kernel_rfl) (by kernel_rfl) ?_
      repeat (go_big_quiet_step (fail))
      refine wpQuiet_nil ?_
      intro w1 hw'
      obtain ⟨⟨dq, osq⟩, hw''⟩ := hw'
      have hbq := below_regrown wr dq osq
      rw [← hw''] at hbq
      clear hw'' osq dq x0
      have hb := hb.trans (hbq.mono hb.size)
      clear hbq
      have q0 := (q0.below hb (by omega)).alloc (.cells #[] 98)
      have q1 := (q1.below hb (by omega)).alloc (.cells #[] 98)
      have q2 := (q2.below hb (by omega)).alloc (.cells #[] 98)
      have hB1 := hB.trans (hb.mono hB.size)
      have hB := hB1.alloc hB1.size (.cells #[] 98)
      have hk8 : k ≤ cap := by have := HC.out.2; omega
      have x0 : (w1.alloc (.cells #[] 98)).cell? ⟨w.heap.size, 0, none⟩ = some (.slice p k cap) := q0.cell 0
      have hX1 := (HX.out).below hB
      have hsw := hb.size
      have ho := World.ownsRow_lit (base := W.heap.size) (e := 98) (size := 9) w1 #[] 0 hsw (Nat.zero_le _) (by simp)
      have hlk : (rs.take k).length = k := by rw [List.length_take, HN.out]; omega
      obtain ⟨v4, w4, happ, hown4, hb4⟩ := run_append_rts (w1.alloc (.cells #[] 98)) W.heap.size (.slice (some ⟨w1.heap.size, 0, none⟩) 0 0) [] (rs.take k) (fromR p cap 0) cap 34 (by simpa [rowR] using ho) (fun e => by
        obtain ⟨h1, h2⟩ := fromR_none (k := 0) HC.out.1 (rtsIn_none hX1) e
        rw [List.drop_zero] at h1
        exact ⟨by rw [h1]; simp, by omega⟩) (fromR_upto hX1) (by simp [List.length_take]; omega) (by simp; omega)
      rw [hlk] at happ
      rw [List.nil_append] at hown4
      have hsl := sliceR_upto p k cap k (k : Int) rfl hk8
      have hsw : W.heap.size ≤ (w1.alloc (.cells #[] 98)).heap.size := by simp; omega
      clear hX1 hb hB1 ho
      have q0 := q0.below hb4 (by omega)
      have q1 := q1.below hb4 (by omega)
      have q2 := q2.below hb4 (by omega)
      have hB := hB.trans (hb4.mono (by omega))
      have hsw := Nat.le_trans hsw hb4.size
      have y0 : w4.cell? ⟨w.heap.size + 1, 0, none⟩ = some (.int .i64 A) := q1.cell 0
      have y1 : w4.cell? ⟨w.heap.size + 1, 1, none⟩ = some (.int .i64 L) := q1.cell 1
      have y2 : w4.cell? ⟨w.heap.size + 1, 2, none⟩ = some (.int .i64 M) := q1.cell 2
      have y3 : w4.cell? ⟨w.heap.size + 1, 3, none⟩ = some (.int .i64 O) := q1.cell 3
      have y4 : w4.cell? ⟨w.heap.size + 1, 4, none⟩ = some (.int .i64 I) := q1.cell 4
      have y5 : w4.cell? ⟨w.heap.size + 1, 5, none⟩ = some (.int .i64 T) := q1.cell 5
      have y6 : w4.cell? ⟨w.heap.size + 1, 6, none⟩ = some (.int .i64 U) := q1.cell 6
      have y7 : w4.cell? ⟨w.heap.size + 1, 7, none⟩ = some (.int .i64 E) := q1.cell 7
      have y8 : w4.cell? ⟨w.heap.size + 1, 8, none⟩ = some (.bool C) := q1.cell 8
      have q0 := q0.alloc (.cells #[.int .i64 A, .int .i64 L, .int .i64 M, .int .i64 O, .int .i64 I, .int .i64 T, .int .i64 U, .int .i64 E, .bool C] 98)
      have q1 := q1.alloc (.cells #[.int .i64 A, .int .i64 L, .int .i64 M, .int .i64 O, .int .i64 I, .int .i64 T, .int .i64 U, .int .i64 E, .bool C] 98)
      have q2 := q2.alloc (.cells #[.int .i64 A, .int .i64 L, .int .i64 M, .int .i64 O, .int .i64 I, .int .i64 T, .int .i64 U, .int .i64 E, .bool C] 98)
      have hB := hB.alloc (by omega) (.cells #[.int .i64 A, .int .i64 L, .int .i64 M, .int .i64 O, .int .i64 I, .int .i64 T, .int .i64 U, .int .i64 E, .bool C] 98)
      have qn := Row.new w4 98 [.int .i64 A, .int .i64 L, .int .i64 M, .int .i64 O, .int .i64 I, .int .i64 T, .int .i64 U, .int .i64 E, .bool C]
      obtain ⟨v5, w5, happ5, hown5, hb5⟩ := run_append_rts (w4.alloc (.cells #[.int .i64 A, .int .i64 L, .int .i64 M, .int .i64 O, .int .i64 I, .int .i64 T, .int .i64 U, .int .i64 E, .bool C] 98)) W.heap.size v4 (rs.take k) [(⟨A, L, M, O, I, T, U, E, C⟩ : Rt)] (some ⟨w4.heap.size, 0, none⟩) 1 34 (World.ownsRow.alloc hown4 _) (fun e => by cases e) (fun ad e j u hj => by
        cases e
        rw [addR, Nat.zero_add, qn.cell]
        exact hj) (by simp [List.length_take]; omega) (by simp; omega)
      rw [List.length_singleton] at happ5
      have HE5 : Hid _ := And.intro q0 (And.intro q1 (And.intro q2 (And.intro hB (And.intro hown5 (And.intro hb5 (show W.heap.size ≤ (w4.alloc (.cells #[.int .i64 A, .int .i64 L, .int .i64 M, .int .i64 O, .int .i64 I, .int .i64 T, .int .i64 U, .int .i64 E, .bool C] 98)).heap.size by simp; omega))))))
      clear q0 q1 q2 hB hown4 hb4 hown5 hb5 hsw qn
      go_wp2_with (at_builtin; first | refine wpList_append_runs rfl _ _ 34 rfl _ _ rfl rfl happ ?_ | refine wpList_append_runs rfl _ _ 34 rfl _ _ rfl rfl happ5 ?_)
      clear happ x0 hsl
      obtain ⟨q0, q1, q2, hB, hown5, hb5, hsw⟩ := HE5.out
      have q0 := q0.below hb5 (by omega)
      have q1 := q1.below hb5 (by omega)
      have q2 := q2.below hb5 (by omega)
      have hB := hB.trans (hb5.mono (by omega))
      have hsw := Nat.le_trans hsw hb5.size
      have x0 : w5.cell? ⟨w.heap.size, 0, none⟩ = some (.slice p k cap) := q0.cell 0
      clear happ5 HE5 hb5 y0 y1 y2 y3 y4 y5 y6 y7 y8
      have d2 : decide ((k : Int) < (k : Int)) = false := by simp
      go_wp2_with fail
      replace x0 := cell_regrown x0
      refine wp_region_quiet_below (by kernel_rfl) (by kernel_rfl) ?_
      repeat (go_big_quiet_step (fail))
      refine wpQuiet_nil ?_
      intro w6 hw'
      obtain ⟨⟨dq, osq⟩, hw''⟩ := hw'
      have hbq := below_regrown w5 dq osq
      rw [← hw''] at hbq
      clear hw'' osq dq x0
      have q0 := q0.below hbq q0.lt
      have q2 := q2.below hbq q2.lt
      have hB := hB.trans (hbq.mono hB.size)
      have hX6 := (HX.out).below hB
      have hsw := Nat.le_trans hsw hbq.size
      have hown6 : w6.ownsRow W.heap.size 98 9 v5 (rs.take k ++ [(⟨A, L, M, O, I, T, U, E, C⟩ : Rt)]).length (rowR (rs.take k ++ [(⟨A, L, M, O, I, T, U, E, C⟩ : Rt)])) := World.ownsRow.kept hown5 (row := none) ⟨hbq.os, hbq.tape, hbq.output, hbq.size, fun k hk _ => hbq.block k hk⟩ (by cases v5.ownBlock <;> simp)
      have x0 : w6.cell? ⟨w.heap.size, 0, none⟩ = some (.slice p k cap) := q0.cell 0
      obtain ⟨v8, w8, happ8, hown8, hb8⟩ := run_append_rts w6 W.heap.size v5 (rs.take k ++ [(⟨A, L, M, O, I, T, U, E, C⟩ : Rt)]) (rs.drop (k)) (fromR p cap (k)) (cap - (k)) 34 hown6 (fun e => fromR_none HC.out.1 (rtsIn_none hX6) e) (fromR_cells hX6 (by rw [HN.out]; exact HC.out.2)) (by have := HN.out; simp [List.length_take]; omega) hsw
      rw [List.length_drop, HN.out, Nat.sub_self] at happ8
      have hsl := sliceR_from p k cap (k) ((k : Int)) (by omega) (by omega)
      simp only [Nat.sub_self] at hsl
      generalize hQS : rs.take k ++ [(⟨A, L, M, O, I, T, U, E, C⟩ : Rt)] ++ rs.drop (k) = QS at hown8
      have hq : qs = QS := by rw [HR, ← hQS, List.append_assoc]; rfl
      subst hq
      clear hQS
      obtain ⟨q8, c8, rfl⟩ := ownsR_shape hown8
      have q2 := q2.below hb8 (by omega)
      have hB := hB.trans (hb8.mono (by omega))
      have f0 : w8.frozen? ⟨w.heap.size + 1 + 1, 0, none⟩ = false := q2.frozen 0
      have z0 : w8.cell? ⟨w.heap.size + 1 + 1, 0, none⟩ = some (.slice none 0 0) := q2.cell 0
      have HE9 : Hid _ := And.intro (q2.set 0 (.slice q8 qs.length c8)) (And.intro (hB.setCell (p := ⟨w.heap.size + 1 + 1, 0, none⟩) (by show w.heap.size ≤ w.heap.size + 1 + 1; omega) (.slice q8 qs.length c8)) (ownR_set (base' := w.heap.size) hown8 ⟨w.heap.size + 1 + 1, 0, none⟩ (by show w.heap.size + 1 + 1 < W.heap.size; omega) (.slice q8 qs.length c8) (by omega)))
      clear q0 q1 q2 hB hown5 hown6 hown8 hb8 hbq hX6 hsw HR
      go_wp2_with (at_builtin; refine wpList_append_runs rfl _ _ 34 rfl _ _ rfl rfl happ8 ?_)
      obtain ⟨h1, h2, h3⟩ := HE9.out
      clear HE9 f0 z0
      generalize (w8.setCell ⟨w.heap.size + 1 + 1, 0, none⟩ (.slice q8 qs.length c8)) = Z at *
      have e0 : Z.cell? ⟨w.heap.size + 1 + 1, 0, none⟩ = some (.slice q8 qs.length c8) := h1.cell 0
      exact bodyPost_ret (v := .agg #[.slice q8 qs.length c8]) (by simp [results, Tryz.results122, go_sem, e0]) rfl ⟨q8, c8, rfl, h3, h2⟩
end Go.Proofs.YtifckpncpjijiaaGreat
