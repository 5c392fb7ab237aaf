/- The walk of the law on RipOpen. -/
import Derived.Test.YtkkhjeigndcmaaaDoorPack3
import Derived.Test.YtkkhjeigndcmaaaDoorPack4
import Derived.Test.YtkkhjeigndcmaaaDoorPack5
namespace Go.Proofs.YtkkhjeigndcmaaaDoor
open Go.RowKit Go.Sort

theorem opC_len (t k : ByteArray) (last : Int) : (opC t k last).2.1.length ≤ 8 := by
  show (opR t k last).2.1.length ≤ 8
  unfold opR
  split
  · simp
  · split
    · simp
    · split
      · simp
      · rename_i c es q hR
        split
        · simp
        · rename_i hq
          split
          · simp
          · exact (ripB_spec (ripOfR_seq hR hq).1).2.1
theorem RdOut.form {R : Int × List Ent × Int} {q : Int} {w w' : World} {e : Ending} (h : RdOut R q w w' e) : ∃ p cv, e = .returned (.agg #[.int .i64 R.1, .slice p R.2.1.length cv, .int .i64 q, .int .i64 R.2.2]) ∧ OwnE w' w.heap.size (.slice p R.2.1.length cv) R.2.1 ∧ Below w.heap.size w w' := by
  obtain ⟨v, rfl, ho, hb⟩ := h
  obtain ⟨p, cv, rfl, -⟩ := ho.form
  exact ⟨p, cv, rfl, ho, hb⟩
theorem OwnE.ents {w : World} {base : Nat} {p : Option Addr} {n cv : Nat} {es : List Ent} (h : OwnE w base (.slice p n cv) es) : EntsIn w p es := by
  obtain ⟨p', cv', e, hE⟩ := h.form
  simp only [Value.slice.injEq] at e
  rw [e.1]; exact hE
theorem OwnE.not {w : World} {base : Nat} {p : Option Addr} {n cv : Nat} {es : List Ent} (h : OwnE w base (.slice p n cv) es) {b : Nat} (hb : w.heap.size ≤ b) : p ≠ some ⟨b, 0, none⟩ := by
  rintro rfl
  have := (World.ownsRow.lt h b rfl).2
  omega
theorem OwnE.not0 {w : World} {base : Nat} {p : Option Addr} {n cv : Nat} {es : List Ent} (h : OwnE w base (.slice p n cv) es) {b : Nat} (hb : b < base) : p ≠ some ⟨b, 0, none⟩ := by
  rintro rfl
  have := (World.ownsRow.lt h b rfl).1
  omega
theorem EntsIn.belowB {B : Nat} {w w' : World} {p : Option Addr} {es : List Ent} (h : EntsIn w p es) (hb : Below B w w') (hlt : ∀ g, p = some ⟨g, 0, none⟩ → g < B) : EntsIn w' p es := by
  rcases h with h | ⟨g, hp, hg, hc⟩
  · exact .inl h
  · exact .inr ⟨g, hp, by have := hb.size; omega, fun j u hj => by rw [hb.cell (p := ⟨g, j, none⟩) (hlt g hp)]; exact hc j u hj⟩
set_option maxRecDepth 100000 in
set_option maxHeartbeats 2000000 in
theorem fnExactRipOpen_walk (a0 a1 : ByteArray) (a2 : Int) (w : World) (z0 : a0.size ≤ maxLen) (z1 : a1.size ≤ maxLen) (_z2 : (Lit.int .i64 a2).wf = true) (A : Nat → Addr) (hE : ErrsIn w A) (hL : Laid w) :
    Calls Tryd.prog 3 #[.string a0, .string a1, .int .i64 a2] w fun e w' => e = .returned (.bool true) ∧ Below w.heap.size w w' := by
  unfold maxLen at z0 z1
  by_cases hz : a0.size ≤ 1048576
  by_cases hy : a1.size ≤ 1048576
  · have dy : decide (1048576 < (a1.size : Int)) = false := by simp; omega
    have dz : decide (1048576 < (a0.size : Int)) = false := by simp; omega
    have hlen := opC_len a0 a1 a2
    have HS : Hid (∀ w, Calls Tryd.prog 4 #[.string a0, .string a1, .int .i64 a2] w fun e w' => RdOut (opC a0 a1 a2) (opQ a0 a1 a2) w w' e) := fun w => specRipOpen_any a0 a1 a2 w hz hy
    have HI : Hid (∀ w, ErrsIn w A → Laid w → Calls Tryd.prog 5 #[.string a0, .string a1, .int .i64 a2] w fun e w' => RdOut (opC a0 a1 a2) (opQ a0 a1 a2) w w' e) := fun w h h' => implRipOpen_any a0 a1 a2 w A hz hy h h'
    generalize opC a0 a1 a2 = R at *
    generalize opQ a0 a1 a2 = q at *
    obtain ⟨c, es, code⟩ := R
    simp only at hlen
    have HL : Hid (es.length ≤ 8) := hlen
    clear hlen
    go_enter Tryd.func3, Tryd.ntmps3
    go_wp2_with fail
    refine (HS.out _).mono ?_
    intro e w1 hO
    obtain ⟨p0, v0, rfl, ho1, hb1⟩ := hO.form
    simp only at ho1
    simp only
    generalize hN : es.length = N at *
    have HN : Hid (es.length = N) := hN
    clear hN hO HS
    have q1 := Row.new w1 26 [.int .i64 c, .slice p0 N v0, .int .i64 q, .int .i64 code]
    have o1 := ho1.alloc (.cells #[.int .i64 c, .slice p0 N v0, .int .i64 q, .int .i64 code] 26)
    have hB1 : Below w.heap.size w (w1.alloc (.cells #[.int .i64 c, .slice p0 N v0, .int .i64 q, .int .i64 code] 26)) := hb1.alloc hb1.size _
    have hE1 := hE.below hB1
    have HE0 : Hid (ErrsIn w A) := hE
    have HL0 : Hid (Laid w) := hL
    have HL1 : Hid (Laid _) := hL.below hB1
    clear hL
    have HP0 : Hid (∀ g, p0 = some ⟨g, 0, none⟩ → g < w1.heap.size + 1) := fun g e => by subst e; have := (World.ownsRow.lt ho1 g rfl).2; omega
    have hww1 := hb1.size
    clear hb1 ho1 hE
    go_wp2_with fail
    refine (HI.out _ hE1 HL1.out).mono ?_
    intro e w2 hO
    obtain ⟨p1, v1, rfl, ho2, hb2⟩ := hO.form
    simp only [HN.out] at ho2
    simp only [HN.out]
    clear hO
    have hs1 : (w1.alloc (.cells #[.int .i64 c, .slice p0 N v0, .int .i64 q, .int .i64 code] 26)).heap.size = w1.heap.size + 1 := by simp
    have q2 := (q1.below hb2 q1.lt).alloc (.cells #[.int .i64 c, .slice p1 N v1, .int .i64 q, .int .i64 code] 26)
    have r2 := Row.new w2 26 [.int .i64 c, .slice p1 N v1, .int .i64 q, .int .i64 code]
    have o2 := (o1.below hb2).alloc (.cells #[.int .i64 c, .slice p1 N v1, .int .i64 q, .int .i64 code] 26)
    have u2 := ho2.alloc (.cells #[.int .i64 c, .slice p1 N v1, .int .i64 q, .int .i64 code] 26)
    have hw2 := hb2.size
    have HNB : Hid (p1 ≠ some ⟨w2.heap.size, 0, none⟩ ∧ p1 ≠ some ⟨w1.heap.size, 0, none⟩) := ⟨ho2.not (Nat.le_refl _), ho2.not0 (by rw [hs1]; omega)⟩
    have hB2 : Below w.heap.size w (w2.alloc (.cells #[.int .i64 c, .slice p1 N v1, .int .i64 q, .int .i64 code] 26)) := (hB1.trans (hb2.mono hB1.size)).alloc (by have := hB1.size; omega) _
    have hE2 := hE1.below hb2
    have HE2 : Hid (ErrsIn (w2.alloc (.cells #[.int .i64 c, .slice p1 N v1, .int .i64 q, .int .i64 code] 26)) A) := hE2.below (ent_new0 w2 _)
    rw [hs1] at u2 hw2
    clear hb2 q1 o1 hB1 hE1 hE2 ho2 hs1
    have c0 : (w2.alloc (.cells #[.int .i64 c, .slice p1 N v1, .int .i64 q, .int .i64 code] 26)).cell? ⟨w1.heap.size, 0, none⟩ = some (.int .i64 c) := q2.cell 0
    have c1 : (w2.alloc (.cells #[.int .i64 c, .slice p1 N v1, .int .i64 q, .int .i64 code] 26)).cell? ⟨w1.heap.size, 1, none⟩ = some (.slice p0 N v0) := q2.cell 1
    have c2 : (w2.alloc (.cells #[.int .i64 c, .slice p1 N v1, .int .i64 q, .int .i64 code] 26)).cell? ⟨w1.heap.size, 2, none⟩ = some (.int .i64 q) := q2.cell 2
    have c3 : (w2.alloc (.cells #[.int .i64 c, .slice p1 N v1, .int .i64 q, .int .i64 code] 26)).cell? ⟨w1.heap.size, 3, none⟩ = some (.int .i64 code) := q2.cell 3
    have d0 : w2.cell? ⟨w1.heap.size, 0, none⟩ = some (.int .i64 c) := by rw [← c0, (ent_new0 w2 _).cell (p := ⟨w1.heap.size, 0, none⟩) (by show w1.heap.size < w2.heap.size; omega)]
    have d1 : w2.cell? ⟨w1.heap.size, 1, none⟩ = some (.slice p0 N v0) := by rw [← c1, (ent_new0 w2 _).cell (p := ⟨w1.heap.size, 1, none⟩) (by show w1.heap.size < w2.heap.size; omega)]
    have d2 : w2.cell? ⟨w1.heap.size, 2, none⟩ = some (.int .i64 q) := by rw [← c2, (ent_new0 w2 _).cell (p := ⟨w1.heap.size, 2, none⟩) (by show w1.heap.size < w2.heap.size; omega)]
    have d3 : w2.cell? ⟨w1.heap.size, 3, none⟩ = some (.int .i64 code) := by rw [← c3, (ent_new0 w2 _).cell (p := ⟨w1.heap.size, 3, none⟩) (by show w1.heap.size < w2.heap.size; omega)]
    have hlt2 : w1.heap.size < w2.heap.size := by omega
    have HQ2 : Hid (Row (w2.alloc (.cells #[.int .i64 c, .slice p1 N v1, .int .i64 q, .int .i64 code] 26)) w1.heap.size 26 [.int .i64 c, .slice p0 N v0, .int .i64 q, .int .i64 code] ∧ Row (w2.alloc (.cells #[.int .i64 c, .slice p1 N v1, .int .i64 q, .int .i64 code] 26)) w2.heap.size 26 [.int .i64 c, .slice p1 N v1, .int .i64 q, .int .i64 code] ∧ OwnE (w2.alloc (.cells #[.int .i64 c, .slice p1 N v1, .int .i64 q, .int .i64 code] 26)) w.heap.size (.slice p0 N v0) es ∧ OwnE (w2.alloc (.cells #[.int .i64 c, .slice p1 N v1, .int .i64 q, .int .i64 code] 26)) (w1.heap.size + 1) (.slice p1 N v1) es ∧ Below w.heap.size w (w2.alloc (.cells #[.int .i64 c, .slice p1 N v1, .int .i64 q, .int .i64 code] 26))) := ⟨q2, r2, o2, u2, hB2⟩
    clear q2 r2 o2 u2 hB2 c0 c1 c2 c3
    go_wp2_with fail
    have hsz2 : (w2.alloc (.cells #[.int .i64 c, .slice p1 N v1, .int .i64 q, .int .i64 code] 26)).heap.size = w2.heap.size + 1 := by simp
    generalize w2.alloc (.cells #[.int .i64 c, .slice p1 N v1, .int .i64 q, .int .i64 code] 26) = W2 at *
    refine (eqRipOut_any c q code p1 p0 N v1 v0 es W2 HN.out.symm (by have := HN.out; have := HL.out; omega) HQ2.out.2.2.2.1.ents HQ2.out.2.2.1.ents).mono ?_
    rintro e w3 ⟨rfl, hb3⟩
    obtain ⟨q2, r2, o2, u2, hB2⟩ := HQ2.out
    have q3 := q2.below hb3 q2.lt
    have r3 := r2.below hb3 r2.lt
    have o3 := o2.below hb3
    have u3 := u2.below hb3
    have hB3 := hB2.trans (hb3.mono hB2.size)
    have hE3 := HE2.out.below hb3
    have hw3 := hb3.size
    clear hb3 q2 r2 o2 u2 hB2 HQ2 HE2 d0 d1 d2 d3
    have s0 : w3.cell? ⟨w2.heap.size, 0, none⟩ = some (.int .i64 c) := r3.cell 0
    have s1 : w3.cell? ⟨w2.heap.size, 1, none⟩ = some (.slice p1 N v1) := r3.cell 1
    have s2 : w3.cell? ⟨w2.heap.size, 2, none⟩ = some (.int .i64 q) := r3.cell 2
    have s3 : w3.cell? ⟨w2.heap.size, 3, none⟩ = some (.int .i64 code) := r3.cell 3
    have hN8 : N ≤ 1000 := by have := HL.out; omega
    have HQ3 : Hid (Row w3 w1.heap.size 26 [.int .i64 c, .slice p0 N v0, .int .i64 q, .int .i64 code] ∧ Row w3 w2.heap.size 26 [.int .i64 c, .slice p1 N v1, .int .i64 q, .int .i64 code] ∧ EntsIn w3 p0 es ∧ OwnE w3 (w1.heap.size + 1) (.slice p1 N v1) es ∧ Below w.heap.size w w3) := ⟨q3, r3, o3.ents, u3, hB3⟩
    clear q3 r3 o3 u3 hB3 hE3
    go_wp2_with fail
    refine (markRipOut_any c q code p1 N v1 (w1.heap.size + 1) es w3 hN8 HQ3.out.2.2.2.1 (by omega)).mono ?_
    rintro e w4 ⟨rfl, u4, hb4, hot⟩
    obtain ⟨q3, r3, o3, u3, hB3⟩ := HQ3.out
    have q4 := hot _ _ _ HNB.out.2 q3
    have r4 := hot _ _ _ HNB.out.1 r3
    have o4 := o3.belowB hb4 HP0.out
    have hB4 : Below w.heap.size w w4 := hB3.trans (hb4.mono (by omega))
    have hw4 := hb4.size
    clear q3 r3 o3 u3 hB3 HQ3 hot hb4 s0 s1 s2 s3
    have s0 : w4.cell? ⟨w2.heap.size, 0, none⟩ = some (.int .i64 c) := r4.cell 0
    have s1 : w4.cell? ⟨w2.heap.size, 1, none⟩ = some (.slice p1 N v1) := r4.cell 1
    have s2 : w4.cell? ⟨w2.heap.size, 2, none⟩ = some (.int .i64 q) := r4.cell 2
    have s3 : w4.cell? ⟨w2.heap.size, 3, none⟩ = some (.int .i64 code) := r4.cell 3
    have HQ4 : Hid (Row w4 w1.heap.size 26 [.int .i64 c, .slice p0 N v0, .int .i64 q, .int .i64 code] ∧ Row w4 w2.heap.size 26 [.int .i64 c, .slice p1 N v1, .int .i64 q, .int .i64 code] ∧ EntsIn w4 p0 es ∧ EntsIn w4 p1 (marksE N) ∧ Below w.heap.size w w4) := ⟨q4, r4, o4, u4.ents, hB4⟩
    clear q4 r4 o4 u4 hB4
    go_wp2_with fail
    refine (heldRipOut_any c q code p1 N v1 w4 hN8 HQ4.out.2.2.2.1).mono ?_
    rintro e w5 ⟨rfl, hb5⟩
    obtain ⟨q4, r4, o4, u4, hB4⟩ := HQ4.out
    have q5 := q4.below hb5 q4.lt
    have r5 := r4.below hb5 r4.lt
    have o5 := o4.below hb5
    have u5 := u4.below hb5
    have hB5 := hB4.trans (hb5.mono hB4.size)
    have hw5 := hb5.size
    have dN : decide (1 + 5 * (N : Int) < 0) = false := by simp; omega
    have dM : ((1 + 5 * (N : Int)) != (1 + 5 * (N : Int))) = false := by simp
    have HQ5 : Hid (Row w5 w1.heap.size 26 [.int .i64 c, .slice p0 N v0, .int .i64 q, .int .i64 code] ∧ Row w5 w2.heap.size 26 [.int .i64 c, .slice p1 N v1, .int .i64 q, .int .i64 code] ∧ EntsIn w5 p0 es ∧ EntsIn w5 p1 (marksE N) ∧ Below w.heap.size w w5) := ⟨q5, r5, o5, u5, hB5⟩
    clear q4 r4 o4 u4 hB4 HQ4 hb5 q5 r5 o5 u5 hB5 s0 s1 s2 s3
    go_wp2_with fail
    refine (HI.out _ (HE0.out.below HQ5.out.2.2.2.2) (HL0.out.below HQ5.out.2.2.2.2)).mono ?_
    intro e w6 hO
    obtain ⟨p2, v2, rfl, ho6, hb6⟩ := hO.form
    simp only [HN.out] at ho6
    simp only [HN.out]
    obtain ⟨q5, r5, o5, u5, hB5⟩ := HQ5.out
    have q6 := (q5.below hb6 q5.lt)
    have r6 := (r5.below hb6 r5.lt)
    have hlt6 : w2.heap.size < w6.heap.size := r6.lt
    have hB6 : Below w.heap.size w (w6.alloc (.cells #[.int .i64 c, .slice p2 N v2, .int .i64 q, .int .i64 code] 26)) := (hB5.trans (hb6.mono hB5.size)).alloc (by omega) _
    have HQ6 : Hid (Row (w6.alloc (.cells #[.int .i64 c, .slice p2 N v2, .int .i64 q, .int .i64 code] 26)) w2.heap.size 26 [.int .i64 c, .slice p1 N v1, .int .i64 q, .int .i64 code] ∧ EntsIn (w6.alloc (.cells #[.int .i64 c, .slice p2 N v2, .int .i64 q, .int .i64 code] 26)) p0 es ∧ EntsIn (w6.alloc (.cells #[.int .i64 c, .slice p2 N v2, .int .i64 q, .int .i64 code] 26)) p1 (marksE N) ∧ EntsIn (w6.alloc (.cells #[.int .i64 c, .slice p2 N v2, .int .i64 q, .int .i64 code] 26)) p2 es ∧ Below w.heap.size w (w6.alloc (.cells #[.int .i64 c, .slice p2 N v2, .int .i64 q, .int .i64 code] 26))) := ⟨r6.alloc _, (o5.below hb6).alloc _, (u5.below hb6).alloc _, ho6.ents.alloc _, hB6⟩
    have d0 : w6.cell? ⟨w1.heap.size, 0, none⟩ = some (.int .i64 c) := q6.cell 0
    have d1 : w6.cell? ⟨w1.heap.size, 1, none⟩ = some (.slice p0 N v0) := q6.cell 1
    have d2 : w6.cell? ⟨w1.heap.size, 2, none⟩ = some (.int .i64 q) := q6.cell 2
    have d3 : w6.cell? ⟨w1.heap.size, 3, none⟩ = some (.int .i64 code) := q6.cell 3
    have hlt7 : w1.heap.size < w6.heap.size := by omega
    clear hO ho6 hb6 q5 r5 o5 u5 hB5 HQ5 q6 r6 hB6 HI
    go_wp2_with fail
    have hsz6 : (w6.alloc (.cells #[.int .i64 c, .slice p2 N v2, .int .i64 q, .int .i64 code] 26)).heap.size = w6.heap.size + 1 := by simp
    generalize w6.alloc (.cells #[.int .i64 c, .slice p2 N v2, .int .i64 q, .int .i64 code] 26) = W6 at *
    refine (eqRipOut_any c q code p2 p0 N v2 v0 es W6 HN.out.symm hN8 HQ6.out.2.2.2.1 HQ6.out.2.1).mono ?_
    rintro e w7 ⟨rfl, hb7⟩
    obtain ⟨r6, o6, u6, t6, hB6⟩ := HQ6.out
    have r7 := r6.below hb7 r6.lt
    have u7 := u6.below hb7
    have hB7 := hB6.trans (hb7.mono hB6.size)
    have s0 : w7.cell? ⟨w2.heap.size, 0, none⟩ = some (.int .i64 c) := r7.cell 0
    have s1 : w7.cell? ⟨w2.heap.size, 1, none⟩ = some (.slice p1 N v1) := r7.cell 1
    have s2 : w7.cell? ⟨w2.heap.size, 2, none⟩ = some (.int .i64 q) := r7.cell 2
    have s3 : w7.cell? ⟨w2.heap.size, 3, none⟩ = some (.int .i64 code) := r7.cell 3
    have HU7 : Hid (EntsIn w7 p1 (marksE N)) := u7
    clear r6 o6 u6 t6 hB6 HQ6 hb7 r7 u7 d0 d1 d2 d3
    go_wp2_with fail
    refine (heldRipOut_any c q code p1 N v1 w7 hN8 HU7.out).mono ?_
    rintro e w8 ⟨rfl, hb8⟩
    have hB8 := hB7.trans (hb8.mono hB7.size)
    clear hb8 s0 s1 s2 s3 hB7
    go_wp2
    go_ret
    exact ⟨rfl, hB8⟩
  · have dz : decide (1048576 < (a0.size : Int)) = false := by simp; omega
    have dy : decide (1048576 < (a1.size : Int)) = true := by simp; omega
    go_enter Tryd.func3, Tryd.ntmps3
    go_wp2
    go_ret
    exact ⟨rfl, Below.refl _ _⟩
  · have dz : decide (1048576 < (a0.size : Int)) = true := by simp; omega
    go_enter Tryd.func3, Tryd.ntmps3
    go_wp2
    go_ret
    exact ⟨rfl, Below.refl _ _⟩
end Go.Proofs.YtkkhjeigndcmaaaDoor
