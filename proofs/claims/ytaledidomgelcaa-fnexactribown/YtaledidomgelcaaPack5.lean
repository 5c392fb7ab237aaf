/- Texts that stand on each other, in one file: ROwnS, EqNet, EqRts, MarkR, RibMarks, RibOutL, RibLaw, OutLaw. -/
import Derived.Test.YtaledidomgelcaaPack4
import Derived.Test.YtaledidomgelcaaPack1
import Derived.Lib.QuietBelow
import Derived.BigQuiet
import Derived.Test.YtaledidomgelcaaPack3
import Derived.Test.YtaledidomgelcaaPack2
/- RibOwn of the model, and what RibOwn answers. (Written by gen_owns.py.) -/
namespace Go.Proofs.Ytaledidomgelcaa
open Go.RowKit Go.Sort

/-- What RibOwn answers: its code and its routes. -/
def ownO (rs : List Rt) (a l i : Int) : Int × List Rt := if (ribB rs && (rightB a l && inIf i)) = true then (if (insR rs (ownRt a l i)).length ≤ 8 then (0, insR rs (ownRt a l i)) else (9, [])) else (1, [])
theorem ownO_len (rs : List Rt) (a l i : Int) : (ownO rs a l i).2.length ≤ 8 := by
  unfold ownO
  split
  · split
    · assumption
    · simp
  · simp
theorem insR_length : ∀ (rs : List Rt) (r : Rt), rs.Pairwise ltP → (insR rs r).length = if (idxN rs r.a r.l).isSome = true then rs.length else rs.length + 1 := by
  intro rs r h
  rw [← (insR_perm rs r h).length_eq]
  unfold putN
  cases idxN rs r.a r.l <;> simp
theorem atV_neg (rs : List Rt) (a l : Int) : decide (atV rs a l < 0) = !(idxN rs a l).isSome := by
  unfold atV
  cases idxN rs a l with
  | none => simp
  | some k => simp
set_option maxRecDepth 100000 in
theorem l06Ill_any (c : Int) (w : World) : Calls Try.prog 39 #[.int .i64 c] w fun e w' => e = .returned (.agg #[.slice none 0 0, .int .i64 c]) ∧ Below w.heap.size w w' := by
  go_enter Try.func39, Try.ntmps39
  go_wp2_with fail
  exact bodyPost_ret (v := .agg #[.slice none 0 0, .int .i64 c]) (by simp [results, Try.results39, go_sem]) rfl ⟨rfl, ent_new0 _ _⟩
set_option maxRecDepth 100000 in
set_option maxHeartbeats 2000000 in
theorem l06Own_any (p : Option Addr) (cap : Nat) (rs : List Rt) (a l i : Int) (w : World) (h : RtsIn w p rs) (hc : p = none → cap = 0) (hcl : rs.length ≤ cap) (hr : ribB rs = true) :
    Calls Try.prog 40 #[ribV p rs.length cap, netV a l, .int .i64 i] w fun e w' => OutR w.heap.size (if (insR rs (ownRt a l i)).length ≤ 8 then 0 else 9) (if (insR rs (ownRt a l i)).length ≤ 8 then insR rs (ownRt a l i) else []) e w' ∧ Below w.heap.size w w' := by
  have h8 := (ribB_spec hr).1
  have hlen := insR_length rs (ownRt a l i) (rib_rising hr)
  have HA : Hid (∀ w, RtsIn w p rs → Calls Try.prog 77 #[.agg #[.slice p rs.length cap], .agg #[.int .i64 a, .int .i64 l]] w fun e w' => e = .returned (.int .i64 (atV rs a l)) ∧ Below w.heap.size w w') := fun w h => l06At_any p cap rs a l w h (by omega)
  have HP : Hid (∀ w, RtsIn w p rs → Calls Try.prog 78 #[.agg #[.slice p rs.length cap], .agg #[.int .i64 a, .int .i64 l, .int .i64 1, .int .i64 0, .int .i64 i, .int .i64 0, .int .i64 0, .int .i64 0, .bool true]] w fun e w' => ∃ q c, e = .returned (.agg #[.slice q (insR rs (ownRt a l i)).length c]) ∧ w'.ownsRow w.heap.size 46 9 (.slice q (insR rs (ownRt a l i)).length c) (insR rs (ownRt a l i)).length (rowR (insR rs (ownRt a l i))) ∧ Below w.heap.size w w') := fun w h => l06Put_any p cap rs (ownRt a l i) w h hc hcl (by omega)
  have HIl : Hid (∀ c w, Calls Try.prog 39 #[.int .i64 c] w fun e w' => e = .returned (.agg #[.slice none 0 0, .int .i64 c]) ∧ Below w.heap.size w w') := l06Ill_any
  have hat := atV_neg rs a l
  rw [show (ownRt a l i).a = a from rfl, show (ownRt a l i).l = l from rfl] at hlen
  generalize insR rs (ownRt a l i) = qs at *
  generalize atV rs a l = AV at *
  generalize (idxN rs a l).isSome = SM at *
  have HX : Hid (RtsIn w p rs) := h
  clear h hc hcl hr
  generalize rs.length = N at *
  by_cases hfull : SM = false ∧ 8 ≤ N
  · obtain ⟨rfl, hN8⟩ := hfull
    rw [if_neg (by rw [hlen]; simp; omega), if_neg (by rw [hlen]; simp; omega)]
    have d1 : decide (AV < 0) = true := by rw [hat]; rfl
    have d2 : decide ((8 : Int) ≤ (N : Int)) = true := by simp; omega
    clear hat hlen HP
    obtain ⟨W, hW, q0, q1, q2, hB, hS, -⟩ := rows3 w [.slice p N cap] [.int .i64 a, .int .i64 l] [.slice none 0 0, .int .i64 0] 30 35 32
    have HW : Hid _ := hW
    have HQ : Hid _ := And.intro q0 (And.intro q1 (And.intro q2 hB))
    have x0 : W.cell? ⟨w.heap.size, 0, none⟩ = some (.slice p N cap) := q0.cell 0
    have y0 : W.cell? ⟨w.heap.size + 1, 0, none⟩ = some (.int .i64 a) := q1.cell 0
    have y1 : W.cell? ⟨w.heap.size + 1, 1, none⟩ = some (.int .i64 l) := q1.cell 1
    clear q0 q1 q2 hB
    unfold ribV netV
    go_enter Try.func40, Try.ntmps40
    rw [hW] at x0 y0 y1
    clear hW
    go_wp2_with fail
    rw [← HW.out]
    obtain ⟨q0, q1, q2, hB⟩ := HQ.out
    clear x0 y0 y1
    refine (HA.out _ ((HX.out).below hB)).mono ?_
    rintro e w1 ⟨rfl, hb1⟩
    have q0 := q0.below hb1 (by omega)
    have q1 := q1.below hb1 (by omega)
    have q2 := q2.below hb1 (by omega)
    have hB := hB.trans (hb1.mono (by omega))
    have hs1 := hb1.size
    clear HA HW HQ hb1
    have x0 : w1.cell? ⟨w.heap.size, 0, none⟩ = some (.slice p N cap) := q0.cell 0
    have y0 : w1.cell? ⟨w.heap.size + 1, 0, none⟩ = some (.int .i64 a) := q1.cell 0
    have y1 : w1.cell? ⟨w.heap.size + 1, 1, none⟩ = some (.int .i64 l) := q1.cell 1
    go_wp2_with fail
    refine (HIl.out 9 _).mono ?_
    rintro e w2 ⟨rfl, hb2⟩
    have q2 := q2.below hb2 (by omega)
    have hB := hB.trans (hb2.mono (by omega))
    clear HIl x0 y0 y1 q0 q1
    have f0 : w2.frozen? ⟨w.heap.size + 1 + 1, 0, none⟩ = false := q2.frozen 0
    have f1 : w2.frozen? ⟨w.heap.size + 1 + 1, 1, none⟩ = false := q2.frozen 1
    have z0 : w2.cell? ⟨w.heap.size + 1 + 1, 0, none⟩ = some (.slice none 0 0) := q2.cell 0
    have z1 : w2.cell? ⟨w.heap.size + 1 + 1, 1, none⟩ = some (.int .i64 0) := q2.cell 1
    have HE2 : Hid _ := And.intro ((q2.set 0 (.slice none 0 0)).set 1 (.int .i64 9)) (And.intro ((hB.setCell (p := ⟨w.heap.size + 1 + 1, 0, none⟩) (by show w.heap.size ≤ w.heap.size + 1 + 1; omega) (.slice none 0 0)).setCell (p := ⟨w.heap.size + 1 + 1, 1, none⟩) (by show w.heap.size ≤ w.heap.size + 1 + 1; omega) (.int .i64 9)) trivial)
    clear q2 hB hb2
    go_wp2_with fail
    obtain ⟨h1, h2, h3⟩ := HE2.out
    clear HE2 f0 f1 z0 z1
    generalize (w2.setCell ⟨w.heap.size + 1 + 1, 0, none⟩ (.slice none 0 0)).setCell ⟨w.heap.size + 1 + 1, 1, none⟩ (.int .i64 9) = Z at *
    have e0 : Z.cell? ⟨w.heap.size + 1 + 1, 0, none⟩ = some (.slice none 0 0) := h1.cell 0
    have e1 : Z.cell? ⟨w.heap.size + 1 + 1, 1, none⟩ = some (.int .i64 9) := h1.cell 1
    exact bodyPost_ret (v := .agg #[.slice none 0 0, .int .i64 9]) (by simp [results, Try.results40, go_sem, e0, e1]) rfl ⟨⟨_, _, rfl, World.ownsRow_nil _ _ _ 9⟩, h2⟩
  · have hq8 : qs.length ≤ 8 := by
      rw [hlen]
      cases SM
      · simp at hfull ⊢; omega
      · simp; omega
    rw [if_pos hq8, if_pos hq8]
    have d : (if decide (AV < 0) = true then decide ((8 : Int) ≤ (N : Int)) else false) = false := by
      rw [hat]
      cases SM
      · simp at hfull ⊢; omega
      · simp
    clear hfull
    by_cases hAV : AV < 0
    · have d1 : decide (AV < 0) = true := by simpa using hAV
      rw [if_pos d1] at d
      clear hat hlen hAV
      obtain ⟨W, hW, q0, q1, q2, hB, hS, -⟩ := rows3 w [.slice p N cap] [.int .i64 a, .int .i64 l] [.slice none 0 0, .int .i64 0] 30 35 32
      have HW : Hid _ := hW
      have HQ : Hid _ := And.intro q0 (And.intro q1 (And.intro q2 hB))
      have x0 : W.cell? ⟨w.heap.size, 0, none⟩ = some (.slice p N cap) := q0.cell 0
      have y0 : W.cell? ⟨w.heap.size + 1, 0, none⟩ = some (.int .i64 a) := q1.cell 0
      have y1 : W.cell? ⟨w.heap.size + 1, 1, none⟩ = some (.int .i64 l) := q1.cell 1
      clear q0 q1 q2 hB
      unfold ribV netV
      go_enter Try.func40, Try.ntmps40
      rw [hW] at x0 y0 y1
      clear hW
      go_wp2_with fail
      rw [← HW.out]
      obtain ⟨q0, q1, q2, hB⟩ := HQ.out
      clear x0 y0 y1
      refine (HA.out _ ((HX.out).below hB)).mono ?_
      rintro e w1 ⟨rfl, hb1⟩
      have q0 := q0.below hb1 (by omega)
      have q1 := q1.below hb1 (by omega)
      have q2 := q2.below hb1 (by omega)
      have hB := hB.trans (hb1.mono (by omega))
      have hs1 := hb1.size
      clear HA HW HQ hb1
      have x0 : w1.cell? ⟨w.heap.size, 0, none⟩ = some (.slice p N cap) := q0.cell 0
      have y0 : w1.cell? ⟨w.heap.size + 1, 0, none⟩ = some (.int .i64 a) := q1.cell 0
      have y1 : w1.cell? ⟨w.heap.size + 1, 1, none⟩ = some (.int .i64 l) := q1.cell 1
      go_wp2_with fail
      refine (HP.out _ ((HX.out).below hB)).mono ?_
      rintro e w2 ⟨q, c, rfl, ho, hb2⟩
      have q2 := q2.below hb2 (by omega)
      have hB := hB.trans (hb2.mono (by omega))
      clear HP HIl x0 y0 y1 q0 q1
      have f0 : w2.frozen? ⟨w.heap.size + 1 + 1, 0, none⟩ = false := q2.frozen 0
      have f1 : w2.frozen? ⟨w.heap.size + 1 + 1, 1, none⟩ = false := q2.frozen 1
      have z0 : w2.cell? ⟨w.heap.size + 1 + 1, 0, none⟩ = some (.slice none 0 0) := q2.cell 0
      have z1 : w2.cell? ⟨w.heap.size + 1 + 1, 1, none⟩ = some (.int .i64 0) := q2.cell 1
      have HE2 : Hid _ := And.intro ((q2.set 0 (.slice q qs.length c)).set 1 (.int .i64 0)) (And.intro ((hB.setCell (p := ⟨w.heap.size + 1 + 1, 0, none⟩) (by show w.heap.size ≤ w.heap.size + 1 + 1; omega) (.slice q qs.length c)).setCell (p := ⟨w.heap.size + 1 + 1, 1, none⟩) (by show w.heap.size ≤ w.heap.size + 1 + 1; omega) (.int .i64 0)) (ownR_set (base' := w.heap.size) (ownR_set (base' := w.heap.size + 1 + 1 + 1) ho ⟨w.heap.size + 1 + 1, 0, none⟩ (by show w.heap.size + 1 + 1 < _; omega) (.slice q qs.length c) (by omega)) ⟨w.heap.size + 1 + 1, 1, none⟩ (by show w.heap.size + 1 + 1 < _; omega) (.int .i64 0) (by omega)))
      clear q2 hB ho hb2
      go_wp2_with fail
      obtain ⟨h1, h2, h3⟩ := HE2.out
      clear HE2 f0 f1 z0 z1
      generalize (w2.setCell ⟨w.heap.size + 1 + 1, 0, none⟩ (.slice q qs.length c)).setCell ⟨w.heap.size + 1 + 1, 1, none⟩ (.int .i64 0) = Z at *
      have e0 : Z.cell? ⟨w.heap.size + 1 + 1, 0, none⟩ = some (.slice q qs.length c) := h1.cell 0
      have e1 : Z.cell? ⟨w.heap.size + 1 + 1, 1, none⟩ = some (.int .i64 0) := h1.cell 1
      exact bodyPost_ret (v := .agg #[.slice q qs.length c, .int .i64 0]) (by simp [results, Try.results40, go_sem, e0, e1]) rfl ⟨⟨_, _, rfl, h3⟩, h2⟩
    · have d1 : decide (AV < 0) = false := by simpa using hAV
      clear hat hlen hAV d
      obtain ⟨W, hW, q0, q1, q2, hB, hS, -⟩ := rows3 w [.slice p N cap] [.int .i64 a, .int .i64 l] [.slice none 0 0, .int .i64 0] 30 35 32
      have HW : Hid _ := hW
      have HQ : Hid _ := And.intro q0 (And.intro q1 (And.intro q2 hB))
      have x0 : W.cell? ⟨w.heap.size, 0, none⟩ = some (.slice p N cap) := q0.cell 0
      have y0 : W.cell? ⟨w.heap.size + 1, 0, none⟩ = some (.int .i64 a) := q1.cell 0
      have y1 : W.cell? ⟨w.heap.size + 1, 1, none⟩ = some (.int .i64 l) := q1.cell 1
      clear q0 q1 q2 hB
      unfold ribV netV
      go_enter Try.func40, Try.ntmps40
      rw [hW] at x0 y0 y1
      clear hW
      go_wp2_with fail
      rw [← HW.out]
      obtain ⟨q0, q1, q2, hB⟩ := HQ.out
      clear x0 y0 y1
      refine (HA.out _ ((HX.out).below hB)).mono ?_
      rintro e w1 ⟨rfl, hb1⟩
      have q0 := q0.below hb1 (by omega)
      have q1 := q1.below hb1 (by omega)
      have q2 := q2.below hb1 (by omega)
      have hB := hB.trans (hb1.mono (by omega))
      have hs1 := hb1.size
      clear HA HW HQ hb1
      have x0 : w1.cell? ⟨w.heap.size, 0, none⟩ = some (.slice p N cap) := q0.cell 0
      have y0 : w1.cell? ⟨w.heap.size + 1, 0, none⟩ = some (.int .i64 a) := q1.cell 0
      have y1 : w1.cell? ⟨w.heap.size + 1, 1, none⟩ = some (.int .i64 l) := q1.cell 1
      go_wp2_with fail
      refine (HP.out _ ((HX.out).below hB)).mono ?_
      rintro e w2 ⟨q, c, rfl, ho, hb2⟩
      have q2 := q2.below hb2 (by omega)
      have hB := hB.trans (hb2.mono (by omega))
      clear HP HIl x0 y0 y1 q0 q1
      have f0 : w2.frozen? ⟨w.heap.size + 1 + 1, 0, none⟩ = false := q2.frozen 0
      have f1 : w2.frozen? ⟨w.heap.size + 1 + 1, 1, none⟩ = false := q2.frozen 1
      have z0 : w2.cell? ⟨w.heap.size + 1 + 1, 0, none⟩ = some (.slice none 0 0) := q2.cell 0
      have z1 : w2.cell? ⟨w.heap.size + 1 + 1, 1, none⟩ = some (.int .i64 0) := q2.cell 1
      have HE2 : Hid _ := And.intro ((q2.set 0 (.slice q qs.length c)).set 1 (.int .i64 0)) (And.intro ((hB.setCell (p := ⟨w.heap.size + 1 + 1, 0, none⟩) (by show w.heap.size ≤ w.heap.size + 1 + 1; omega) (.slice q qs.length c)).setCell (p := ⟨w.heap.size + 1 + 1, 1, none⟩) (by show w.heap.size ≤ w.heap.size + 1 + 1; omega) (.int .i64 0)) (ownR_set (base' := w.heap.size) (ownR_set (base' := w.heap.size + 1 + 1 + 1) ho ⟨w.heap.size + 1 + 1, 0, none⟩ (by show w.heap.size + 1 + 1 < _; omega) (.slice q qs.length c) (by omega)) ⟨w.heap.size + 1 + 1, 1, none⟩ (by show w.heap.size + 1 + 1 < _; omega) (.int .i64 0) (by omega)))
      clear q2 hB ho hb2
      go_wp2_with fail
      obtain ⟨h1, h2, h3⟩ := HE2.out
      clear HE2 f0 f1 z0 z1
      generalize (w2.setCell ⟨w.heap.size + 1 + 1, 0, none⟩ (.slice q qs.length c)).setCell ⟨w.heap.size + 1 + 1, 1, none⟩ (.int .i64 0) = Z at *
      have e0 : Z.cell? ⟨w.heap.size + 1 + 1, 0, none⟩ = some (.slice q qs.length c) := h1.cell 0
      have e1 : Z.cell? ⟨w.heap.size + 1 + 1, 1, none⟩ = some (.int .i64 0) := h1.cell 1
      exact bodyPost_ret (v := .agg #[.slice q qs.length c, .int .i64 0]) (by simp [results, Try.results40, go_sem, e0, e1]) rfl ⟨⟨_, _, rfl, h3⟩, h2⟩
set_option maxRecDepth 100000 in
set_option maxHeartbeats 2000000 in
theorem specOwn_any (p : Option Addr) (cap : Nat) (rs : List Rt) (a l i : Int) (w : World) (h : RtsIn w p rs) (hc : p = none → cap = 0) (hcl : rs.length ≤ cap) (hn : rs.length ≤ 100000000) :
    Calls Try.prog 10 #[ribV p rs.length cap, netV a l, .int .i64 i] w fun e w' => OutR w.heap.size (ownO rs a l i).1 (ownO rs a l i).2 e w' ∧ Below w.heap.size w w' := by
  have HB : Hid (∀ w, RtsIn w p rs → Calls Try.prog 36 #[.agg #[.slice p rs.length cap]] w fun e w' => e = .returned (.bool (ribB rs)) ∧ Below w.heap.size w w') := fun w h => specRib_any p cap rs w h hn
  have HR : Hid (∀ w, Calls Try.prog 37 #[.agg #[.int .i64 a, .int .i64 l]] w fun e w' => e = .returned (.bool (rightB a l)) ∧ Below w.heap.size w w') := specRight_any a l
  have HI : Hid (∀ w, Calls Try.prog 38 #[.int .i64 i, .int .i64 0, .int .i64 3] w fun e w' => e = .returned (.bool (inIf i)) ∧ w = w') := fun w => (l03Is_any i 0 3 w).mono fun e w' h => by rw [show inIf i = decide (0 ≤ i ∧ i ≤ 3) from rfl]; exact h
  have HIl : Hid (∀ c w, Calls Try.prog 39 #[.int .i64 c] w fun e w' => e = .returned (.agg #[.slice none 0 0, .int .i64 c]) ∧ Below w.heap.size w w') := l06Ill_any
  have HO : Hid (ribB rs = true → ∀ w, RtsIn w p rs → Calls Try.prog 40 #[.agg #[.slice p rs.length cap], .agg #[.int .i64 a, .int .i64 l], .int .i64 i] w fun e w' => OutR w.heap.size (if (insR rs (ownRt a l i)).length ≤ 8 then 0 else 9) (if (insR rs (ownRt a l i)).length ≤ 8 then insR rs (ownRt a l i) else []) e w' ∧ Below w.heap.size w w') := fun hr w h => l06Own_any p cap rs a l i w h hc hcl hr
  have ho : ownO rs a l i = if (ribB rs && (rightB a l && inIf i)) = true then (if (insR rs (ownRt a l i)).length ≤ 8 then 0 else 9, if (insR rs (ownRt a l i)).length ≤ 8 then insR rs (ownRt a l i) else []) else (1, []) := by
    unfold ownO
    congr 1
    split <;> rfl
  rw [ho]
  clear ho
  have HX : Hid (RtsIn w p rs) := h
  clear h hc hcl hn
  generalize (if (insR rs (ownRt a l i)).length ≤ 8 then insR rs (ownRt a l i) else []) = QS at *
  generalize (if (insR rs (ownRt a l i)).length ≤ 8 then (0 : Int) else 9) = CC at *
  generalize rs.length = N at *
  cases h1 : ribB rs
  · rw [h1] at HB
    simp only [Bool.false_and, Bool.false_eq_true, if_false]
    clear HO h1
    obtain ⟨W, hW, q0, q1, q2, hB, hS, -⟩ := rows3 w [.slice p N cap] [.int .i64 a, .int .i64 l] [.slice none 0 0, .int .i64 0] 30 35 32
    have HW : Hid _ := hW
    have HQ : Hid _ := And.intro q0 (And.intro q1 (And.intro q2 hB))
    have x0 : W.cell? ⟨w.heap.size, 0, none⟩ = some (.slice p N cap) := q0.cell 0
    clear q0 q1 q2 hB
    unfold ribV netV
    go_enter Try.func10, Try.ntmps10
    rw [hW] at x0
    clear hW
    go_wp2_with fail
    rw [← HW.out]
    obtain ⟨q0, q1, q2, hB⟩ := HQ.out
    clear x0
    refine (HB.out _ ((HX.out).below hB)).mono ?_
    rintro e w1 ⟨rfl, hb1⟩
    have q0 := q0.below hb1 (by omega)
    have q1 := q1.below hb1 (by omega)
    have q2 := q2.below hb1 (by omega)
    have hB := hB.trans (hb1.mono (by omega))
    have hs1 := hb1.size
    clear HB HW HQ hb1
    go_wp2_with fail
    refine (HIl.out 1 _).mono ?_
    rintro e w2 ⟨rfl, hb2⟩
    have q2 := q2.below hb2 (by omega)
    have hB := hB.trans (hb2.mono (by omega))
    clear HIl q0 q1
    have f0 : w2.frozen? ⟨w.heap.size + 1 + 1, 0, none⟩ = false := q2.frozen 0
    have f1 : w2.frozen? ⟨w.heap.size + 1 + 1, 1, none⟩ = false := q2.frozen 1
    have z0 : w2.cell? ⟨w.heap.size + 1 + 1, 0, none⟩ = some (.slice none 0 0) := q2.cell 0
    have z1 : w2.cell? ⟨w.heap.size + 1 + 1, 1, none⟩ = some (.int .i64 0) := q2.cell 1
    have HE2 : Hid _ := And.intro ((q2.set 0 (.slice none 0 0)).set 1 (.int .i64 1)) (And.intro ((hB.setCell (p := ⟨w.heap.size + 1 + 1, 0, none⟩) (by show w.heap.size ≤ w.heap.size + 1 + 1; omega) (.slice none 0 0)).setCell (p := ⟨w.heap.size + 1 + 1, 1, none⟩) (by show w.heap.size ≤ w.heap.size + 1 + 1; omega) (.int .i64 1)) trivial)
    clear q2 hB hb2
    go_wp2_with fail
    obtain ⟨h1, h2, h3⟩ := HE2.out
    clear HE2 f0 f1 z0 z1
    generalize (w2.setCell ⟨w.heap.size + 1 + 1, 0, none⟩ (.slice none 0 0)).setCell ⟨w.heap.size + 1 + 1, 1, none⟩ (.int .i64 1) = Z at *
    have e0 : Z.cell? ⟨w.heap.size + 1 + 1, 0, none⟩ = some (.slice none 0 0) := h1.cell 0
    have e1 : Z.cell? ⟨w.heap.size + 1 + 1, 1, none⟩ = some (.int .i64 1) := h1.cell 1
    exact bodyPost_ret (v := .agg #[.slice none 0 0, .int .i64 1]) (by simp [results, Try.results10, go_sem, e0, e1]) rfl ⟨⟨_, _, rfl, World.ownsRow_nil _ _ _ 9⟩, h2⟩
  · rw [h1] at HB
    have HO : Hid _ := HO.out h1
    cases h2 : rightB a l
    · rw [h2] at HR
      simp only [Bool.true_and, Bool.false_and, Bool.false_eq_true, if_false]
      clear HO h1 h2
      obtain ⟨W, hW, q0, q1, q2, hB, hS, -⟩ := rows3 w [.slice p N cap] [.int .i64 a, .int .i64 l] [.slice none 0 0, .int .i64 0] 30 35 32
      have HW : Hid _ := hW
      have HQ : Hid _ := And.intro q0 (And.intro q1 (And.intro q2 hB))
      have x0 : W.cell? ⟨w.heap.size, 0, none⟩ = some (.slice p N cap) := q0.cell 0
      clear q0 q1 q2 hB
      unfold ribV netV
      go_enter Try.func10, Try.ntmps10
      rw [hW] at x0
      clear hW
      go_wp2_with fail
      rw [← HW.out]
      obtain ⟨q0, q1, q2, hB⟩ := HQ.out
      clear x0
      refine (HB.out _ ((HX.out).below hB)).mono ?_
      rintro e w1 ⟨rfl, hb1⟩
      have q0 := q0.below hb1 (by omega)
      have q1 := q1.below hb1 (by omega)
      have q2 := q2.below hb1 (by omega)
      have hB := hB.trans (hb1.mono (by omega))
      have hs1 := hb1.size
      clear HB HW HQ hb1
      have y0 : w1.cell? ⟨w.heap.size + 1, 0, none⟩ = some (.int .i64 a) := q1.cell 0
      have y1 : w1.cell? ⟨w.heap.size + 1, 1, none⟩ = some (.int .i64 l) := q1.cell 1
      go_wp2_with fail
      refine (HR.out _).mono ?_
      rintro e w2 ⟨rfl, hb2⟩
      have q0 := q0.below hb2 (by omega)
      have q1 := q1.below hb2 (by omega)
      have q2 := q2.below hb2 (by omega)
      have hB := hB.trans (hb2.mono (by omega))
      have hs2 := hb2.size
      clear HR hb2 y0 y1
      go_wp2_with fail
      refine (HIl.out 1 _).mono ?_
      rintro e w3 ⟨rfl, hb3⟩
      have q2 := q2.below hb3 (by omega)
      have hB := hB.trans (hb3.mono (by omega))
      clear HIl q0 q1
      have f0 : w3.frozen? ⟨w.heap.size + 1 + 1, 0, none⟩ = false := q2.frozen 0
      have f1 : w3.frozen? ⟨w.heap.size + 1 + 1, 1, none⟩ = false := q2.frozen 1
      have z0 : w3.cell? ⟨w.heap.size + 1 + 1, 0, none⟩ = some (.slice none 0 0) := q2.cell 0
      have z1 : w3.cell? ⟨w.heap.size + 1 + 1, 1, none⟩ = some (.int .i64 0) := q2.cell 1
      have HE2 : Hid _ := And.intro ((q2.set 0 (.slice none 0 0)).set 1 (.int .i64 1)) (And.intro ((hB.setCell (p := ⟨w.heap.size + 1 + 1, 0, none⟩) (by show w.heap.size ≤ w.heap.size + 1 + 1; omega) (.slice none 0 0)).setCell (p := ⟨w.heap.size + 1 + 1, 1, none⟩) (by show w.heap.size ≤ w.heap.size + 1 + 1; omega) (.int .i64 1)) trivial)
      clear q2 hB hb3
      go_wp2_with fail
      obtain ⟨h1, h2, h3⟩ := HE2.out
      clear HE2 f0 f1 z0 z1
      generalize (w3.setCell ⟨w.heap.size + 1 + 1, 0, none⟩ (.slice none 0 0)).setCell ⟨w.heap.size + 1 + 1, 1, none⟩ (.int .i64 1) = Z at *
      have e0 : Z.cell? ⟨w.heap.size + 1 + 1, 0, none⟩ = some (.slice none 0 0) := h1.cell 0
      have e1 : Z.cell? ⟨w.heap.size + 1 + 1, 1, none⟩ = some (.int .i64 1) := h1.cell 1
      exact bodyPost_ret (v := .agg #[.slice none 0 0, .int .i64 1]) (by simp [results, Try.results10, go_sem, e0, e1]) rfl ⟨⟨_, _, rfl, World.ownsRow_nil _ _ _ 9⟩, h2⟩
    · rw [h2] at HR
      cases h3 : inIf i
      · rw [h3] at HI
        simp only [Bool.true_and, Bool.false_eq_true, if_false]
        clear HO h1 h2 h3
        obtain ⟨W, hW, q0, q1, q2, hB, hS, -⟩ := rows3 w [.slice p N cap] [.int .i64 a, .int .i64 l] [.slice none 0 0, .int .i64 0] 30 35 32
        have HW : Hid _ := hW
        have HQ : Hid _ := And.intro q0 (And.intro q1 (And.intro q2 hB))
        have x0 : W.cell? ⟨w.heap.size, 0, none⟩ = some (.slice p N cap) := q0.cell 0
        clear q0 q1 q2 hB
        unfold ribV netV
        go_enter Try.func10, Try.ntmps10
        rw [hW] at x0
        clear hW
        go_wp2_with fail
        rw [← HW.out]
        obtain ⟨q0, q1, q2, hB⟩ := HQ.out
        clear x0
        refine (HB.out _ ((HX.out).below hB)).mono ?_
        rintro e w1 ⟨rfl, hb1⟩
        have q0 := q0.below hb1 (by omega)
        have q1 := q1.below hb1 (by omega)
        have q2 := q2.below hb1 (by omega)
        have hB := hB.trans (hb1.mono (by omega))
        have hs1 := hb1.size
        clear HB HW HQ hb1
        have y0 : w1.cell? ⟨w.heap.size + 1, 0, none⟩ = some (.int .i64 a) := q1.cell 0
        have y1 : w1.cell? ⟨w.heap.size + 1, 1, none⟩ = some (.int .i64 l) := q1.cell 1
        go_wp2_with fail
        refine (HR.out _).mono ?_
        rintro e w2 ⟨rfl, hb2⟩
        have q0 := q0.below hb2 (by omega)
        have q1 := q1.below hb2 (by omega)
        have q2 := q2.below hb2 (by omega)
        have hB := hB.trans (hb2.mono (by omega))
        have hs2 := hb2.size
        clear HR hb2 y0 y1
        go_wp2_with fail
        refine (HI.out _).mono ?_
        rintro e w3 ⟨rfl, rfl⟩
        clear HI
        go_wp2_with fail
        refine (HIl.out 1 _).mono ?_
        rintro e w3 ⟨rfl, hb3⟩
        have q2 := q2.below hb3 (by omega)
        have hB := hB.trans (hb3.mono (by omega))
        clear HIl q0 q1
        have f0 : w3.frozen? ⟨w.heap.size + 1 + 1, 0, none⟩ = false := q2.frozen 0
        have f1 : w3.frozen? ⟨w.heap.size + 1 + 1, 1, none⟩ = false := q2.frozen 1
        have z0 : w3.cell? ⟨w.heap.size + 1 + 1, 0, none⟩ = some (.slice none 0 0) := q2.cell 0
        have z1 : w3.cell? ⟨w.heap.size + 1 + 1, 1, none⟩ = some (.int .i64 0) := q2.cell 1
        have HE2 : Hid _ := And.intro ((q2.set 0 (.slice none 0 0)).set 1 (.int .i64 1)) (And.intro ((hB.setCell (p := ⟨w.heap.size + 1 + 1, 0, none⟩) (by show w.heap.size ≤ w.heap.size + 1 + 1; omega) (.slice none 0 0)).setCell (p := ⟨w.heap.size + 1 + 1, 1, none⟩) (by show w.heap.size ≤ w.heap.size + 1 + 1; omega) (.int .i64 1)) trivial)
        clear q2 hB hb3
        go_wp2_with fail
        obtain ⟨h1, h2, h3⟩ := HE2.out
        clear HE2 f0 f1 z0 z1
        generalize (w3.setCell ⟨w.heap.size + 1 + 1, 0, none⟩ (.slice none 0 0)).setCell ⟨w.heap.size + 1 + 1, 1, none⟩ (.int .i64 1) = Z at *
        have e0 : Z.cell? ⟨w.heap.size + 1 + 1, 0, none⟩ = some (.slice none 0 0) := h1.cell 0
        have e1 : Z.cell? ⟨w.heap.size + 1 + 1, 1, none⟩ = some (.int .i64 1) := h1.cell 1
        exact bodyPost_ret (v := .agg #[.slice none 0 0, .int .i64 1]) (by simp [results, Try.results10, go_sem, e0, e1]) rfl ⟨⟨_, _, rfl, World.ownsRow_nil _ _ _ 9⟩, h2⟩
      · rw [h3] at HI
        simp only [Bool.true_and, if_true]
        clear h1 h2 h3
        obtain ⟨W, hW, q0, q1, q2, hB, hS, -⟩ := rows3 w [.slice p N cap] [.int .i64 a, .int .i64 l] [.slice none 0 0, .int .i64 0] 30 35 32
        have HW : Hid _ := hW
        have HQ : Hid _ := And.intro q0 (And.intro q1 (And.intro q2 hB))
        have x0 : W.cell? ⟨w.heap.size, 0, none⟩ = some (.slice p N cap) := q0.cell 0
        clear q0 q1 q2 hB
        unfold ribV netV
        go_enter Try.func10, Try.ntmps10
        rw [hW] at x0
        clear hW
        go_wp2_with fail
        rw [← HW.out]
        obtain ⟨q0, q1, q2, hB⟩ := HQ.out
        clear x0
        refine (HB.out _ ((HX.out).below hB)).mono ?_
        rintro e w1 ⟨rfl, hb1⟩
        have q0 := q0.below hb1 (by omega)
        have q1 := q1.below hb1 (by omega)
        have q2 := q2.below hb1 (by omega)
        have hB := hB.trans (hb1.mono (by omega))
        have hs1 := hb1.size
        clear HB HW HQ hb1
        have y0 : w1.cell? ⟨w.heap.size + 1, 0, none⟩ = some (.int .i64 a) := q1.cell 0
        have y1 : w1.cell? ⟨w.heap.size + 1, 1, none⟩ = some (.int .i64 l) := q1.cell 1
        go_wp2_with fail
        refine (HR.out _).mono ?_
        rintro e w2 ⟨rfl, hb2⟩
        have q0 := q0.below hb2 (by omega)
        have q1 := q1.below hb2 (by omega)
        have q2 := q2.below hb2 (by omega)
        have hB := hB.trans (hb2.mono (by omega))
        have hs2 := hb2.size
        clear HR hb2 y0 y1
        go_wp2_with fail
        refine (HI.out _).mono ?_
        rintro e w3 ⟨rfl, rfl⟩
        clear HI
        have x0 : w2.cell? ⟨w.heap.size, 0, none⟩ = some (.slice p N cap) := q0.cell 0
        have y0 : w2.cell? ⟨w.heap.size + 1, 0, none⟩ = some (.int .i64 a) := q1.cell 0
        have y1 : w2.cell? ⟨w.heap.size + 1, 1, none⟩ = some (.int .i64 l) := q1.cell 1
        clear HIl
        go_wp2_with fail
        refine (HO.out _ ((HX.out).below hB)).mono ?_
        rintro e w3 ⟨⟨q, c, rfl, ho⟩, hb3⟩
        have q2 := q2.below hb3 (by omega)
        have hB := hB.trans (hb3.mono (by omega))
        clear HO q0 q1 x0 y0 y1
        have f0 : w3.frozen? ⟨w.heap.size + 1 + 1, 0, none⟩ = false := q2.frozen 0
        have f1 : w3.frozen? ⟨w.heap.size + 1 + 1, 1, none⟩ = false := q2.frozen 1
        have z0 : w3.cell? ⟨w.heap.size + 1 + 1, 0, none⟩ = some (.slice none 0 0) := q2.cell 0
        have z1 : w3.cell? ⟨w.heap.size + 1 + 1, 1, none⟩ = some (.int .i64 0) := q2.cell 1
        have HE2 : Hid _ := And.intro ((q2.set 0 (.slice q QS.length c)).set 1 (.int .i64 CC)) (And.intro ((hB.setCell (p := ⟨w.heap.size + 1 + 1, 0, none⟩) (by show w.heap.size ≤ w.heap.size + 1 + 1; omega) (.slice q QS.length c)).setCell (p := ⟨w.heap.size + 1 + 1, 1, none⟩) (by show w.heap.size ≤ w.heap.size + 1 + 1; omega) (.int .i64 CC)) (ownR_set (base' := w.heap.size) (ownR_set (base' := w.heap.size + 1 + 1 + 1) ho ⟨w.heap.size + 1 + 1, 0, none⟩ (by show w.heap.size + 1 + 1 < _; omega) (.slice q QS.length c) (by omega)) ⟨w.heap.size + 1 + 1, 1, none⟩ (by show w.heap.size + 1 + 1 < _; omega) (.int .i64 CC) (by omega)))
        clear q2 hB ho hb3
        go_wp2_with fail
        obtain ⟨h1, h2, h3⟩ := HE2.out
        clear HE2 f0 f1 z0 z1
        generalize (w3.setCell ⟨w.heap.size + 1 + 1, 0, none⟩ (.slice q QS.length c)).setCell ⟨w.heap.size + 1 + 1, 1, none⟩ (.int .i64 CC) = Z at *
        have e0 : Z.cell? ⟨w.heap.size + 1 + 1, 0, none⟩ = some (.slice q QS.length c) := h1.cell 0
        have e1 : Z.cell? ⟨w.heap.size + 1 + 1, 1, none⟩ = some (.int .i64 CC) := h1.cell 1
        exact bodyPost_ret (v := .agg #[.slice q QS.length c, .int .i64 CC]) (by simp [results, Try.results10, go_sem, e0, e1]) rfl ⟨⟨_, _, rfl, h3⟩, h2⟩
theorem implOwn_any (p : Option Addr) (cap : Nat) (rs : List Rt) (a l i : Int) (w : World) (h : RtsIn w p rs) (hn : rs.length ≤ 100000000) :
    Calls Try.prog 13 #[ribV p rs.length cap, netV a l, .int .i64 i] w fun e w' => OutR w.heap.size (ownO rs a l i).1 (ownO rs a l i).2 e w' ∧ Below w.heap.size w w' := by
  unfold ownO
  by_cases hc : (ribB rs && (rightB a l && inIf i)) = true
  · rw [if_pos hc]
    simp only [Bool.and_eq_true] at hc
    refine (implOwn_right p cap rs a l i w h hc.1 hc.2.1 hc.2.2).mono ?_
    rintro e w' ⟨hO, hb⟩
    refine ⟨?_, hb⟩
    rcases hO with ⟨h8, hO⟩ | ⟨h8, hO⟩
    · rw [if_neg (by omega)]; exact hO
    · rw [if_pos h8]; exact hO
  · rw [if_neg hc]
    exact implOwn_wrong p cap rs a l i w h hn (by simpa using hc)
end Go.Proofs.Ytaledidomgelcaa
/- The laws' own look: a net is as itself. -/
namespace Go.Proofs.Ytaledidomgelcaa
open Go.RowKit Go.Sort

set_option maxRecDepth 100000 in
theorem eqNet_same (a l : Int) (w : World) : Calls Try.prog 104 #[netV a l, netV a l] w fun e w' => e = .returned (.bool true) ∧ Below w.heap.size w w' := by
  have h1 : (a != a) = false := by simp
  have h2 : (l != l) = false := by simp
  unfold netV
  go_enter Try.func104, Try.ntmps104
  go_wp2
  go_ret
  exact ⟨rfl, ((Below.refl _ _).alloc (Nat.le_refl _) _).alloc (by simp) _⟩
end Go.Proofs.Ytaledidomgelcaa
/- The laws' own look: routes, lists of them and tables are as themselves. (Written by gen_rts.py.) -/
namespace Go.Proofs.Ytaledidomgelcaa
open Go.RowKit Go.Sort

/-- Two boxes of nine cells, one behind the other: what they hold behind a later call. -/
theorem boxes9 {w w1 : World} {xs ys : List Value} {t u : TypeId} (h : Below ((w.alloc (.cells xs.toArray t)).alloc (.cells ys.toArray u)).heap.size ((w.alloc (.cells xs.toArray t)).alloc (.cells ys.toArray u)) w1) :
    (∀ k v, xs[k]? = some v → w1.cell? ⟨w.heap.size, k, none⟩ = some v) ∧ (∀ k v, ys[k]? = some v → w1.cell? ⟨w.heap.size + 1, k, none⟩ = some v) ∧ Below w.heap.size w w1 := by
  have q0 := (Row.new w t xs).alloc (.cells ys.toArray u)
  have q1 := Row.new (w.alloc (.cells xs.toArray t)) u ys
  have p0 := q0.below h q0.lt
  have p1 := q1.below h q1.lt
  have e1 : (w.alloc (.cells xs.toArray t)).heap.size = w.heap.size + 1 := by simp
  rw [e1] at p1
  exact ⟨fun k v hv => (p0.cell k).trans hv, fun k v hv => (p1.cell k).trans hv, ((ent_new0 w _).alloc (by simp) _).trans (h.mono (by simp; omega))⟩
set_option maxRecDepth 100000 in
theorem eqRoute_same (e : Rt) (w : World) : Calls Try.prog 83 #[rtV e, rtV e] w fun r w' => r = .returned (.bool true) ∧ Below w.heap.size w w' := by
  obtain ⟨a, l, m, n, i, t, u, b, c⟩ := e
  unfold rtV rtA
  have HN : Hid (∀ w, Calls Try.prog 104 #[.agg #[.int .i64 a, .int .i64 l], .agg #[.int .i64 a, .int .i64 l]] w fun e w' => e = .returned (.bool true) ∧ Below w.heap.size w w') := eqNet_same a l
  have em : (m != m) = false := by simp
  have en : (n != n) = false := by simp
  have ei : (i != i) = false := by simp
  have et : (t != t) = false := by simp
  have eu : (u != u) = false := by simp
  have eb : (b != b) = false := by simp
  have ec : (c != c) = false := by simp
  go_enter Try.func83, Try.ntmps83
  go_wp2_with fail
  refine (HN.out _).mono ?_
  rintro e w1 ⟨rfl, hb1⟩
  obtain ⟨k0, k1, hB⟩ := boxes9 (xs := [.int .i64 a, .int .i64 l, .int .i64 m, .int .i64 n, .int .i64 i, .int .i64 t, .int .i64 u, .int .i64 b, .bool c]) (ys := [.int .i64 a, .int .i64 l, .int .i64 m, .int .i64 n, .int .i64 i, .int .i64 t, .int .i64 u, .int .i64 b, .bool c]) hb1
  have c2 := k0 2 _ rfl
  have d2 := k1 2 _ rfl
  have c3 := k0 3 _ rfl
  have d3 := k1 3 _ rfl
  have c4 := k0 4 _ rfl
  have d4 := k1 4 _ rfl
  have c5 := k0 5 _ rfl
  have d5 := k1 5 _ rfl
  have c6 := k0 6 _ rfl
  have d6 := k1 6 _ rfl
  have c7 := k0 7 _ rfl
  have d7 := k1 7 _ rfl
  have c8 := k0 8 _ rfl
  have d8 := k1 8 _ rfl
  clear k0 k1 hb1 HN
  go_wp2
  go_ret
  exact ⟨rfl, hB⟩
set_option maxRecDepth 100000 in
theorem eqRouteS_any (p q : Option Addr) (c d : Nat) (es : List Rt) (w : World) (hp : RtsIn w p es) (hq : RtsIn w q es) (hn : es.length ≤ 100000000) : Calls Try.prog 47 #[.slice p es.length c, .slice q es.length d] w fun r w' => r = .returned (.bool true) ∧ Below w.heap.size w w' := by
  have HE : Hid (∀ e w, Calls Try.prog 83 #[rtV e, rtV e] w fun r w' => r = .returned (.bool true) ∧ Below w.heap.size w w') := eqRoute_same
  have HX : Hid (RtsIn w p es ∧ RtsIn w q es) := ⟨hp, hq⟩
  have h0 : ((es.length : Int) != (es.length : Int)) = false := by simp
  clear hp hq
  go_enter Try.func47, Try.ntmps47
  go_wp2_with fail
  go_loopw [5] (fun i wr => ∃ k : Nat, k ≤ es.length ∧ i = .int .i64 k ∧ Below w.heap.size w wr) (fun i _ => es.length - (intOf i).toNat)
  case atStart => exact ⟨0, Nat.zero_le _, rfl, Below.refl _ _⟩
  case round =>
    obtain ⟨k, hk, rfl, hb⟩ := hrel
    by_cases hlt : k < es.length
    · obtain ⟨g, a, l, m, n, ii, t, u, b, cc, rfl, hg, hek, c0, c1, c2, c3, c4, c5, c6, c7, c8⟩ := (HX.out.1.below hb).at k hlt
      obtain ⟨g', a', l', m', n', ii', t', u', b', cc', rfl, hg', hek', d0, d1, d2, d3, d4, d5, d6, d7, d8⟩ := (HX.out.2.below hb).at k hlt
      rw [hek] at hek'
      simp only [Rt.mk.injEq] at hek'
      obtain ⟨rfl, rfl, rfl, rfl, rfl, rfl, rfl, rfl, rfl⟩ := hek'
      have HEk : Hid (∀ w, Calls Try.prog 83 #[.agg #[.int .i64 a, .int .i64 l, .int .i64 m, .int .i64 n, .int .i64 ii, .int .i64 t, .int .i64 u, .int .i64 b, .bool cc], .agg #[.int .i64 a, .int .i64 l, .int .i64 m, .int .i64 n, .int .i64 ii, .int .i64 t, .int .i64 u, .int .i64 b, .bool cc]] w fun r w' => r = .returned (.bool true) ∧ Below w.heap.size w w') := HE.out ⟨a, l, m, n, ii, t, u, b, cc⟩
      clear HE hek HX
      replace c0 := cell_regrown c0
      replace d0 := cell_regrown d0
      replace c1 := cell_regrown c1
      replace d1 := cell_regrown d1
      replace c2 := cell_regrown c2
      replace d2 := cell_regrown d2
      replace c3 := cell_regrown c3
      replace d3 := cell_regrown d3
      replace c4 := cell_regrown c4
      replace d4 := cell_regrown d4
      replace c5 := cell_regrown c5
      replace d5 := cell_regrown d5
      replace c6 := cell_regrown c6
      replace d6 := cell_regrown d6
      replace c7 := cell_regrown c7
      replace d7 := cell_regrown d7
      replace c8 := cell_regrown c8
      replace d8 := cell_regrown d8
      go_wp2_with fail
      refine wp_region_quiet_below (by kernel_rfl) (by kernel_rfl) ?_
      repeat (go_big_quiet_step ((go_at_call 83; exact Calls.regrown_of (HEk.out _))))
      refine wpQuiet_nil ?_
      intro w1 hw'
      obtain ⟨⟨dq, osq⟩, hw''⟩ := hw'
      have hbq := below_regrown wr dq osq
      rw [← hw''] at hbq
      clear hw'' osq dq c0 c1 c2 c3 c4 c5 c6 c7 c8 d0 d1 d2 d3 d4 d5 d6 d7 d8 HEk
      have hb2 := hb.trans (hbq.mono hb.size)
      clear hbq
      go_wp2
      go_roundw
      case rel => exact ⟨k + 1, hlt, by go_num, hb2⟩
      case measure => simp [intOf]; omega
    · obtain rfl : k = es.length := by omega
      clear hlt hk
      go_wp2
      go_ret
      exact ⟨rfl, hb⟩
set_option maxRecDepth 100000 in
theorem eqRib_any (p q : Option Addr) (c d : Nat) (es : List Rt) (w : World) (hp : RtsIn w p es) (hq : RtsIn w q es) (hn : es.length ≤ 100000000) : Calls Try.prog 15 #[ribV p es.length c, ribV q es.length d] w fun r w' => r = .returned (.bool true) ∧ Below w.heap.size w w' := by
  have HE : Hid (∀ w, RtsIn w p es → RtsIn w q es → Calls Try.prog 47 #[.slice p es.length c, .slice q es.length d] w fun r w' => r = .returned (.bool true) ∧ Below w.heap.size w w') := fun w h1 h2 => eqRouteS_any p q c d es w h1 h2 hn
  have HX : Hid (RtsIn w p es ∧ RtsIn w q es) := ⟨hp, hq⟩
  unfold ribV
  clear hp hq
  go_enter Try.func15, Try.ntmps15
  go_wp2_with fail
  refine (HE.out _ ((HX.out.1.alloc _).alloc _) ((HX.out.2.alloc _).alloc _)).mono ?_
  rintro e w1 ⟨rfl, hb1⟩
  have hB : Below w.heap.size w w1 := ((ent_new0 w _).alloc (by simp) _).trans (hb1.mono (by simp; omega))
  clear hb1 HE HX
  go_wp2
  go_ret
  exact ⟨rfl, hB⟩
end Go.Proofs.Ytaledidomgelcaa
/- The laws' own marks in a list of routes: written, and looked for. (Written by gen_markr.py.) -/
namespace Go.Proofs.Ytaledidomgelcaa
open Go.RowKit Go.Sort

def m3 (x : Int) : Bool := x.tmod 3 == 0
def markR (K i : Nat) : Rt := ⟨(K : Int) + 9 * (i : Int) + 0, (K : Int) + 9 * (i : Int) + 1, (K : Int) + 9 * (i : Int) + 2, (K : Int) + 9 * (i : Int) + 3, (K : Int) + 9 * (i : Int) + 4, (K : Int) + 9 * (i : Int) + 5, (K : Int) + 9 * (i : Int) + 6, (K : Int) + 9 * (i : Int) + 7, m3 ((K : Int) + 9 * (i : Int) + 8)⟩
def marksR (K n : Nat) : List Rt := (List.range n).map (markR K)
theorem marksR_length (K n : Nat) : (marksR K n).length = n := by simp [marksR]
theorem ownsR_opened {w : World} {base : Nat} {p : Option Addr} {cv : Nat} {es : List Rt} (h : w.ownsRow base 46 9 (.slice p es.length cv) es.length (rowR es)) : es = [] ∨ ∃ g rest, p = some ⟨g, 0, none⟩ ∧ base ≤ g ∧ es.length ≤ cv ∧ cv ≤ maxLen ∧ Row w g 46 (rowR es ++ rest) ∧ (rowR es ++ rest).length = cv * 9 := by
  rcases h.2 with ⟨h1, h2⟩ | ⟨g, cap, cur, h1, h2, h3, h4, h5, h6, h7⟩
  · exact .inl (List.length_eq_zero_iff.1 h2)
  · simp only [Value.slice.injEq] at h1
    obtain ⟨rfl, _, rfl⟩ := h1
    refine .inr ⟨g, cur.toList.drop (es.length * 9), rfl, h2, h4, h5, ?_, ?_⟩
    · unfold Row
      rw [← h7, List.take_append_drop]
      exact h3
    · rw [← h7, List.take_append_drop]; simpa using h6
theorem ownsR_shut {w : World} {base g n cv : Nat} {es : List Rt} {rest : List Value} (hn : n = es.length) (hb : base ≤ g) (h4 : n ≤ cv) (h5 : cv ≤ maxLen) (hr : Row w g 46 (rowR es ++ rest)) (hl : (rowR es ++ rest).length = cv * 9) : w.ownsRow base 46 9 (.slice (some ⟨g, 0, none⟩) n cv) n (rowR es) := by
  subst hn
  exact ⟨by rw [rowR_length]; omega, .inr ⟨g, cv, _, rfl, hb, hr, h4, h5, by simpa using hl, by
    have : (rowR es).length = es.length * 9 := by rw [rowR_length]; omega
    simp only
    rw [← this]; simp⟩⟩
theorem marksR_set (K : Nat) (es : List Rt) (rest : List Value) (k : Nat) (hk : k < es.length) :
    (((((((((rowR (marksR K k ++ es.drop k) ++ rest).set (k * 9) (.int .i64 ((K : Int) + 9 * (k : Int) + 0))).set (k * 9 + 1) (.int .i64 ((K : Int) + 9 * (k : Int) + 1))).set (k * 9 + 2) (.int .i64 ((K : Int) + 9 * (k : Int) + 2))).set (k * 9 + 3) (.int .i64 ((K : Int) + 9 * (k : Int) + 3))).set (k * 9 + 4) (.int .i64 ((K : Int) + 9 * (k : Int) + 4))).set (k * 9 + 5) (.int .i64 ((K : Int) + 9 * (k : Int) + 5))).set (k * 9 + 6) (.int .i64 ((K : Int) + 9 * (k : Int) + 6))).set (k * 9 + 7) (.int .i64 ((K : Int) + 9 * (k : Int) + 7))).set (k * 9 + 8) (.bool (m3 ((K : Int) + 9 * (k : Int) + 8))) = rowR (marksR K (k + 1) ++ es.drop (k + 1)) ++ rest := by
  have e1 : marksR K (k + 1) = marksR K k ++ [markR K k] := by simp [marksR, List.range_succ]
  rw [List.drop_eq_getElem_cons hk, e1, rowR_append, rowR_cons, List.append_assoc (marksR K k), rowR_append, List.singleton_append, rowR_cons, List.append_assoc, List.append_assoc, List.append_assoc, List.append_assoc]
  exact set9 _ _ k (by rw [rowR_length, marksR_length]; omega) _ _ _ _ _ _ _ _ _ _ _ _ _ _ _ _ _ _
theorem rtsIn_rest {w : World} {g : Nat} {t : TypeId} {es : List Rt} {rest : List Value} (h : Row w g t (rowR es ++ rest)) : RtsIn w (some ⟨g, 0, none⟩) es := .inr ⟨g, rfl, h.lt, fun j u hj => by rw [h.cell, List.getElem?_append_left (List.getElem?_eq_some_iff.1 hj).1]; exact hj⟩
set_option maxRecDepth 100000 in
set_option maxHeartbeats 2000000 in
theorem markRouteS_in (K g n cv : Nat) (es : List Rt) (rest : List Value) (w : World) (hn : n = es.length) (hK : K ≤ 100000000) (h8 : n ≤ 100000000) (hr : Row w g 46 (rowR es ++ rest)) :
    Calls Try.prog 48 #[.slice (some ⟨g, 0, none⟩) n cv, .int .i64 K] w fun e w' => e = .returned (.int .i64 ((K : Int) + 9 * (n : Int))) ∧ Row w' g 46 (rowR (marksR K n) ++ rest) ∧ Below g w w' ∧ ∀ b t l, b ≠ g → Row w b t l → Row w' b t l := by
  have HN : Hid (n = es.length) := hn
  have hr0 : Row w g 46 (rowR (marksR K 0 ++ es.drop 0) ++ rest) := hr
  clear hn hr
  go_enter Try.func48, Try.ntmps48
  go_wp2_with fail
  go_loopw [5, 1] (fun i m wr => ∃ k : Nat, k ≤ n ∧ i = .int .i64 k ∧ m = .int .i64 ((K : Int) + 9 * (k : Int)) ∧ Row wr g 46 (rowR (marksR K k ++ es.drop k) ++ rest) ∧ Below g w wr ∧ ∀ b t l, b ≠ g → Row w b t l → Row wr b t l) (fun i _ _ => n - (intOf i).toNat)
  case atStart => exact ⟨0, Nat.zero_le _, rfl, by go_num, hr0, Below.refl _ _, fun _ _ _ _ h => h⟩
  case round =>
    obtain ⟨k, hk, rfl, rfl, hr, hb, hoth⟩ := hrel
    have HOT : Hid (∀ b t l, b ≠ g → Row w b t l → Row wr b t l) := hoth
    clear hr0 hoth
    by_cases hlt : k < n
    · have hlen : (marksR K k ++ es.drop k).length = n := by rw [List.length_append, marksR_length, List.length_drop, ← HN.out]; omega
      have hlr : k * 9 + 8 < (rowR (marksR K k ++ es.drop k) ++ rest).length := by rw [List.length_append, rowR_length, hlen]; omega
      obtain ⟨z0, c0⟩ := Row.someR hr (k * 9) (by omega)
      obtain ⟨z1, c1⟩ := Row.someR hr (k * 9 + 1) (by omega)
      obtain ⟨z2, c2⟩ := Row.someR hr (k * 9 + 2) (by omega)
      obtain ⟨z3, c3⟩ := Row.someR hr (k * 9 + 3) (by omega)
      obtain ⟨z4, c4⟩ := Row.someR hr (k * 9 + 4) (by omega)
      obtain ⟨z5, c5⟩ := Row.someR hr (k * 9 + 5) (by omega)
      obtain ⟨z6, c6⟩ := Row.someR hr (k * 9 + 6) (by omega)
      obtain ⟨z7, c7⟩ := Row.someR hr (k * 9 + 7) (by omega)
      obtain ⟨z8, c8⟩ := Row.someR hr (k * 9 + 8) (by omega)
      have f0 := hr.frozen (k * 9)
      have f1 := hr.frozen (k * 9 + 1)
      have f2 := hr.frozen (k * 9 + 2)
      have f3 := hr.frozen (k * 9 + 3)
      have f4 := hr.frozen (k * 9 + 4)
      have f5 := hr.frozen (k * 9 + 5)
      have f6 := hr.frozen (k * 9 + 6)
      have f7 := hr.frozen (k * 9 + 7)
      have f8 := hr.frozen (k * 9 + 8)
      have hr2 := nine_row hr (k * 9) (.int .i64 ((K : Int) + 9 * (k : Int) + 0)) (.int .i64 ((K : Int) + 9 * (k : Int) + 1)) (.int .i64 ((K : Int) + 9 * (k : Int) + 2)) (.int .i64 ((K : Int) + 9 * (k : Int) + 3)) (.int .i64 ((K : Int) + 9 * (k : Int) + 4)) (.int .i64 ((K : Int) + 9 * (k : Int) + 5)) (.int .i64 ((K : Int) + 9 * (k : Int) + 6)) (.int .i64 ((K : Int) + 9 * (k : Int) + 7)) (.bool (m3 ((K : Int) + 9 * (k : Int) + 8)))
      rw [marksR_set K es rest k (by rw [← HN.out]; exact hlt)] at hr2
      have hB2 := nine_below hb g (k * 9) (Nat.le_refl _) (.int .i64 ((K : Int) + 9 * (k : Int) + 0)) (.int .i64 ((K : Int) + 9 * (k : Int) + 1)) (.int .i64 ((K : Int) + 9 * (k : Int) + 2)) (.int .i64 ((K : Int) + 9 * (k : Int) + 3)) (.int .i64 ((K : Int) + 9 * (k : Int) + 4)) (.int .i64 ((K : Int) + 9 * (k : Int) + 5)) (.int .i64 ((K : Int) + 9 * (k : Int) + 6)) (.int .i64 ((K : Int) + 9 * (k : Int) + 7)) (.bool (m3 ((K : Int) + 9 * (k : Int) + 8)))
      have hO2 := fun b t l (hne : b ≠ g) (h : Row w b t l) => nine_other (HOT.out b t l hne h) hne (k * 9) (.int .i64 ((K : Int) + 9 * (k : Int) + 0)) (.int .i64 ((K : Int) + 9 * (k : Int) + 1)) (.int .i64 ((K : Int) + 9 * (k : Int) + 2)) (.int .i64 ((K : Int) + 9 * (k : Int) + 3)) (.int .i64 ((K : Int) + 9 * (k : Int) + 4)) (.int .i64 ((K : Int) + 9 * (k : Int) + 5)) (.int .i64 ((K : Int) + 9 * (k : Int) + 6)) (.int .i64 ((K : Int) + 9 * (k : Int) + 7)) (.bool (m3 ((K : Int) + 9 * (k : Int) + 8)))
      unfold nine at hr2 hB2 hO2
      have HH : Hid _ := And.intro hr2 (And.intro hB2 hO2)
      clear hr hb hr2 hB2 hlen hlr hO2 HOT
      go_wp2_with fail
      have E : ∀ x : Int, x = (K : Int) + 9 * (k : Int) → x + 1 = x + 1 := fun _ _ => rfl
      clear E
      rw [show (K : Int) + 9 * (k : Int) + 1 + 1 + 1 + 1 + 1 + 1 + 1 + 1 + 1 = (K : Int) + 9 * ((k + 1 : Nat) : Int) by omega, show (K : Int) + 9 * (k : Int) + 1 + 1 + 1 + 1 + 1 + 1 + 1 + 1 = (K : Int) + 9 * (k : Int) + 8 by omega, show (K : Int) + 9 * (k : Int) + 1 + 1 + 1 + 1 + 1 + 1 + 1 = (K : Int) + 9 * (k : Int) + 7 by omega, show (K : Int) + 9 * (k : Int) + 1 + 1 + 1 + 1 + 1 + 1 = (K : Int) + 9 * (k : Int) + 6 by omega, show (K : Int) + 9 * (k : Int) + 1 + 1 + 1 + 1 + 1 = (K : Int) + 9 * (k : Int) + 5 by omega, show (K : Int) + 9 * (k : Int) + 1 + 1 + 1 + 1 = (K : Int) + 9 * (k : Int) + 4 by omega, show (K : Int) + 9 * (k : Int) + 1 + 1 + 1 = (K : Int) + 9 * (k : Int) + 3 by omega, show (K : Int) + 9 * (k : Int) + 1 + 1 = (K : Int) + 9 * (k : Int) + 2 by omega]
      refine ⟨⟨k + 1, hlt, by go_num, rfl, HH.out.1, HH.out.2.1, HH.out.2.2⟩, ?_⟩
      simp [intOf]
      omega
    · obtain rfl : k = n := by omega
      have hre : marksR K k ++ es.drop k = marksR K k := by rw [HN.out, List.drop_length, List.append_nil]
      rw [hre] at hr
      clear hlt hk hre
      go_wp2
      go_ret
      exact ⟨rfl, hr, hb, HOT.out⟩
set_option maxRecDepth 100000 in
set_option maxHeartbeats 2000000 in
theorem heldRouteS_in (K : Nat) (p : Option Addr) (n cv : Nat) (w : World) (hK : K ≤ 100000000) (h8 : n ≤ 100000000) (hE : RtsIn w p (marksR K n)) :
    Calls Try.prog 65 #[.slice p n cv, .int .i64 K] w fun e w' => e = .returned (.int .i64 ((K : Int) + 9 * (n : Int))) ∧ w = w' := by
  have HX : Hid (RtsIn w p (marksR K n)) := hE
  clear hE
  go_enter Try.func65, Try.ntmps65
  go_wp2_with fail
  go_loop [5, 1] (fun i m => ∃ k : Nat, k ≤ n ∧ i = .int .i64 k ∧ m = .int .i64 ((K : Int) + 9 * (k : Int))) (fun i _ => n - (intOf i).toNat)
  case atStart => exact ⟨0, Nat.zero_le _, rfl, by go_num⟩
  case round =>
    obtain ⟨k, hk, rfl, rfl⟩ := hrel
    by_cases hlt : k < n
    · obtain ⟨g, y0, y1, y2, y3, y4, y5, y6, y7, y8, rfl, hg, hek, c0, c1, c2, c3, c4, c5, c6, c7, c8⟩ := HX.out.at k (by rw [marksR_length]; exact hlt)
      have hmk : (marksR K n)[k]'(by rw [marksR_length]; exact hlt) = markR K k := by simp [marksR]
      rw [hmk] at hek
      simp only [markR, Rt.mk.injEq] at hek
      obtain ⟨rfl, rfl, rfl, rfl, rfl, rfl, rfl, rfl, rfl⟩ := hek
      rw [Int.add_zero] at c0
      rw [show (K : Int) + 9 * (k : Int) + 1 = (K : Int) + 9 * (k : Int) + 1 by omega] at c1
      rw [show (K : Int) + 9 * (k : Int) + 2 = (K : Int) + 9 * (k : Int) + 1 + 1 by omega] at c2
      rw [show (K : Int) + 9 * (k : Int) + 3 = (K : Int) + 9 * (k : Int) + 1 + 1 + 1 by omega] at c3
      rw [show (K : Int) + 9 * (k : Int) + 4 = (K : Int) + 9 * (k : Int) + 1 + 1 + 1 + 1 by omega] at c4
      rw [show (K : Int) + 9 * (k : Int) + 5 = (K : Int) + 9 * (k : Int) + 1 + 1 + 1 + 1 + 1 by omega] at c5
      rw [show (K : Int) + 9 * (k : Int) + 6 = (K : Int) + 9 * (k : Int) + 1 + 1 + 1 + 1 + 1 + 1 by omega] at c6
      rw [show (K : Int) + 9 * (k : Int) + 7 = (K : Int) + 9 * (k : Int) + 1 + 1 + 1 + 1 + 1 + 1 + 1 by omega] at c7
      rw [show (K : Int) + 9 * (k : Int) + 8 = (K : Int) + 9 * (k : Int) + 1 + 1 + 1 + 1 + 1 + 1 + 1 + 1 by omega] at c8
      clear hmk
      unfold m3 at c8
      have hx : ((((K : Int) + 9 * (k : Int) + 1 + 1 + 1 + 1 + 1 + 1 + 1 + 1).tmod 3 == 0) != (((K : Int) + 9 * (k : Int) + 1 + 1 + 1 + 1 + 1 + 1 + 1 + 1).tmod 3 == 0)) = false := by simp
      go_wp2_with fail
      refine ⟨⟨k + 1, hlt, by go_num, by go_num⟩, ?_⟩
      simp [intOf]
      omega
    · obtain rfl : k = n := by omega
      clear hlt hk
      go_wp2
      go_ret
      exact ⟨rfl, rfl⟩
end Go.Proofs.Ytaledidomgelcaa
/- The laws' own looks at tables that are handed back: alike, marked, held. (Written by gen_markr.py.) -/
namespace Go.Proofs.Ytaledidomgelcaa
open Go.RowKit Go.Sort

theorem ownsR_in {w : World} {base : Nat} {p : Option Addr} {n cv : Nat} {es : List Rt} (hn : n = es.length) (h : w.ownsRow base 46 9 (.slice p n cv) n (rowR es)) : RtsIn w p es := by
  subst hn
  rcases ownsR_opened h with h0 | ⟨g, rest, rfl, -, -, -, hr, -⟩
  · exact .inl h0
  · exact rtsIn_rest hr
theorem ownsR_row {w : World} {g n : Nat} {es : List Rt} (hn : n = es.length) (h8 : n ≤ 100000000) (h : Row w g 46 (rowR es)) : w.ownsRow g 46 9 (.slice (some ⟨g, 0, none⟩) n n) n (rowR es) := ownsR_shut (rest := []) hn (Nat.le_refl _) (Nat.le_refl _) (by unfold maxLen; omega) (by rw [List.append_nil]; exact h) (by rw [List.append_nil, rowR_length, hn]; omega)
theorem ownsR_kept {w w' : World} {base : Nat} {p : Option Addr} {n cv : Nat} {es : List Rt} (hn : n = es.length) (h : w.ownsRow base 46 9 (.slice p n cv) n (rowR es)) (hk : ∀ b t l, p = some ⟨b, 0, none⟩ → Row w b t l → Row w' b t l) : w'.ownsRow base 46 9 (.slice p n cv) n (rowR es) := by
  subst hn
  rcases ownsR_opened h with h0 | ⟨g, rest, rfl, h1, h2, h3, hr, hl⟩
  · subst h0
    rcases h.2 with ⟨e1, e2⟩ | ⟨g, cap, cur, e1, e2, e3, e4, e5, e6, e7⟩
    · exact ⟨rfl, .inl ⟨e1, e2⟩⟩
    · simp only [Value.slice.injEq] at e1
      obtain ⟨rfl, -, rfl⟩ := e1
      have := hk g 46 cur.toList rfl (by unfold Row; simpa using e3)
      exact ⟨rfl, .inr ⟨g, _, cur, rfl, e2, by unfold Row at this; simpa using this, e4, e5, e6, e7⟩⟩
  · exact ownsR_shut rfl h1 h2 h3 (hk _ _ _ rfl hr) hl
theorem ownsR_below {w w' : World} {base n : Nat} {v : Value} {xs : List Value} (h : w.ownsRow base 46 9 v n xs) (hb : Below w.heap.size w w') : w'.ownsRow base 46 9 v n xs :=
  World.ownsRow.kept h (row := none) ⟨hb.os, hb.tape, hb.output, hb.size, fun k hk _ => hb.block k hk⟩ (by cases v.ownBlock <;> simp)
theorem ownsR_mono {w : World} {base base' n : Nat} {v : Value} {xs : List Value} (h : w.ownsRow base 46 9 v n xs) (hb : base' ≤ base) : w.ownsRow base' 46 9 v n xs := by
  rcases h.2 with ⟨h1, h2⟩ | ⟨g, cap, cur, h1, h2, h3, h4, h5, h6, h7⟩
  · exact ⟨h.1, .inl ⟨h1, h2⟩⟩
  · exact ⟨h.1, .inr ⟨g, cap, cur, h1, by omega, h3, h4, h5, h6, h7⟩⟩
theorem ownsR_ne {w : World} {base n cv g : Nat} {p : Option Addr} {xs l : List Value} {t : TypeId} (h : w.ownsRow base 46 9 (.slice p n cv) n xs) (hr : Row w g t l) (ht : t ≠ 46) : p ≠ some ⟨g, 0, none⟩ := by
  rintro rfl
  rcases h.2 with ⟨h1, _⟩ | ⟨g', cap, cur, h1, _, h3, _⟩
  · simp at h1
  · simp only [Value.slice.injEq, Option.some.injEq, Addr.mk.injEq, and_true] at h1
    obtain ⟨rfl, _⟩ := h1
    unfold Row at hr
    rw [h3] at hr
    simp only [Option.some.injEq, Obj.cells.injEq] at hr
    exact ht hr.2.1.symm
theorem ownsR_base {w : World} {base n cv g : Nat} {p : Option Addr} {xs : List Value} (h : w.ownsRow base 46 9 (.slice p n cv) n xs) (hg : g < base) : p ≠ some ⟨g, 0, none⟩ := by
  rintro rfl
  have := (World.ownsRow.lt h g rfl).1
  omega
theorem ownsR_size {w : World} {base n cv g : Nat} {p : Option Addr} {xs : List Value} (h : w.ownsRow base 46 9 (.slice p n cv) n xs) (hg : w.heap.size ≤ g) : p ≠ some ⟨g, 0, none⟩ := by
  rintro rfl
  have := (World.ownsRow.lt h g rfl).2
  omega
theorem row_ne {w : World} {g k : Nat} {l m : List Value} {t u : TypeId} (h : Row w g t l) (hk : Row w k u m) (ht : t ≠ u) : g ≠ k := by
  rintro rfl
  unfold Row at h hk
  rw [h] at hk
  simp only [Option.some.injEq, Obj.cells.injEq] at hk
  exact ht hk.2.1
set_option maxRecDepth 100000 in
theorem markRouteS_0 (K : Nat) (p : Option Addr) (cv : Nat) (w : World) : Calls Try.prog 48 #[.slice p 0 cv, .int .i64 K] w fun e w' => e = .returned (.int .i64 K) ∧ w = w' := by
  go_enter Try.func48, Try.ntmps48
  go_wp2_with fail
  go_loop [5, 1] (fun i k => i = .int .i64 0 ∧ k = .int .i64 K) (fun _ _ => 0)
  case atStart => exact ⟨rfl, rfl⟩
  case round =>
    obtain ⟨rfl, rfl⟩ := hrel
    go_wp2
    go_ret
    exact ⟨rfl, rfl⟩
set_option maxHeartbeats 1000000 in
theorem markRouteS_any (K : Nat) (p : Option Addr) (n cv base : Nat) (es : List Rt) (w : World) (hn : n = es.length) (hK : K ≤ 100000000) (h8 : n ≤ 100000000) (h : w.ownsRow base 46 9 (.slice p n cv) n (rowR es)) :
    Calls Try.prog 48 #[.slice p n cv, .int .i64 K] w fun e w' => e = .returned (.int .i64 ((K : Int) + 9 * (n : Int))) ∧ w'.ownsRow base 46 9 (.slice p n cv) n (rowR (marksR K n)) ∧ Below base w w' ∧ ∀ b t l, p ≠ some ⟨b, 0, none⟩ → Row w b t l → Row w' b t l := by
  subst hn
  rcases ownsR_opened h with h0 | ⟨g, rest, rfl, hb, h1, h2, hr, hl⟩
  · subst h0
    exact (markRouteS_0 K p cv w).mono fun e w' ⟨he, hw⟩ => ⟨by rw [he]; simp, hw ▸ h, hw ▸ Below.refl _ _, fun _ _ _ _ h => hw ▸ h⟩
  · refine (markRouteS_in K g _ cv es rest w rfl hK h8 hr).mono fun e w' ⟨he, hr', hb', ho'⟩ => ⟨he, ownsR_shut (marksR_length K _).symm hb h1 h2 hr' ?_, hb'.mono hb, fun b t l hp h => ho' b t l (fun e => hp (by rw [e])) h⟩
    rw [List.length_append, rowR_length, marksR_length]
    rw [List.length_append, rowR_length] at hl
    exact hl
set_option maxRecDepth 100000 in
set_option maxHeartbeats 1000000 in
theorem markRib_any (K : Nat) (p : Option Addr) (n cv base : Nat) (es : List Rt) (w : World) (hn : n = es.length) (hK : K ≤ 100000000) (h8 : n ≤ 100000000) (h : w.ownsRow base 46 9 (.slice p n cv) n (rowR es)) (hbs : base ≤ w.heap.size) :
    Calls Try.prog 16 #[.agg #[.slice p n cv], .int .i64 K] w fun e w' => e = .returned (.int .i64 ((K : Int) + 9 * (n : Int))) ∧ w'.ownsRow base 46 9 (.slice p n cv) n (rowR (marksR K n)) ∧ Below base w w' ∧ ∀ b t l, p ≠ some ⟨b, 0, none⟩ → Row w b t l → Row w' b t l := by
  have HM : Hid (Calls Try.prog 48 #[.slice p n cv, .int .i64 K] (w.alloc (.cells #[.slice p n cv] 30)) fun e w' => e = .returned (.int .i64 ((K : Int) + 9 * (n : Int))) ∧ w'.ownsRow base 46 9 (.slice p n cv) n (rowR (marksR K n)) ∧ Below base (w.alloc (.cells #[.slice p n cv] 30)) w' ∧ ∀ b t l, p ≠ some ⟨b, 0, none⟩ → Row (w.alloc (.cells #[.slice p n cv] 30)) b t l → Row w' b t l) := markRouteS_any K p n cv base es _ hn hK h8 (World.ownsRow.alloc h _)
  clear h hn hK h8
  go_enter Try.func16, Try.ntmps16
  go_wp2_with fail
  refine (HM.out).mono ?_
  rintro e w1 ⟨rfl, ho, hb, hot⟩
  have hB : Below base w w1 := ((Below.refl base w).alloc hbs _).trans hb
  have HOT : Hid (∀ b t l, p ≠ some ⟨b, 0, none⟩ → Row w b t l → Row w1 b t l) := fun b t l hp h => hot b t l hp (h.alloc _)
  clear hb hot
  go_wp2
  go_ret
  exact ⟨rfl, ho, hB, HOT.out⟩
set_option maxRecDepth 100000 in
set_option maxHeartbeats 1000000 in
theorem heldRib_any (K : Nat) (p : Option Addr) (n cv : Nat) (w : World) (hK : K ≤ 100000000) (h8 : n ≤ 100000000) (h : RtsIn w p (marksR K n)) :
    Calls Try.prog 26 #[.agg #[.slice p n cv], .int .i64 K] w fun e w' => e = .returned (.int .i64 ((K : Int) + 9 * (n : Int))) ∧ Below w.heap.size w w' := by
  have HM : Hid (Calls Try.prog 65 #[.slice p n cv, .int .i64 K] (w.alloc (.cells #[.slice p n cv] 30)) fun e w' => e = .returned (.int .i64 ((K : Int) + 9 * (n : Int))) ∧ (w.alloc (.cells #[.slice p n cv] 30)) = w') := heldRouteS_in K p n cv _ hK h8 (h.alloc _)
  have d : decide ((K : Int) + 9 * (n : Int) < 0) = false := by simp; omega
  clear h hK h8
  go_enter Try.func26, Try.ntmps26
  go_wp2_with fail
  refine (HM.out).mono ?_
  rintro e w1 ⟨rfl, hb⟩
  have hB : Below w.heap.size w w1 := by rw [← hb]; exact ent_new0 w _
  clear hb
  go_wp2
  go_ret
  exact ⟨rfl, hB⟩
end Go.Proofs.Ytaledidomgelcaa
/- The laws' own looks at a RibOut. (Written by gen_markr.py.) -/
namespace Go.Proofs.Ytaledidomgelcaa
open Go.RowKit Go.Sort

set_option maxRecDepth 100000 in
set_option maxHeartbeats 1000000 in
theorem markRibOut_any (K : Nat) (c : Int) (p : Option Addr) (n cv base : Nat) (es : List Rt) (w : World) (hn : n = es.length) (hK : K ≤ 100000000) (h8 : n ≤ 100000000) (h : w.ownsRow base 46 9 (.slice p n cv) n (rowR es)) (hbs : base ≤ w.heap.size) :
    Calls Try.prog 17 #[.agg #[.slice p n cv, .int .i64 c], .int .i64 K] w fun e w' => e = .returned (.int .i64 ((K : Int) + 9 * (n : Int))) ∧ w'.ownsRow base 46 9 (.slice p n cv) n (rowR (marksR K n)) ∧ Below base w w' ∧ ∀ b t l, p ≠ some ⟨b, 0, none⟩ → Row w b t l → Row w' b t l := by
  have HM : Hid (Calls Try.prog 16 #[.agg #[.slice p n cv], .int .i64 K] (w.alloc (.cells #[.slice p n cv, .int .i64 c] 32)) fun e w' => e = .returned (.int .i64 ((K : Int) + 9 * (n : Int))) ∧ w'.ownsRow base 46 9 (.slice p n cv) n (rowR (marksR K n)) ∧ Below base (w.alloc (.cells #[.slice p n cv, .int .i64 c] 32)) w' ∧ ∀ b t l, p ≠ some ⟨b, 0, none⟩ → Row (w.alloc (.cells #[.slice p n cv, .int .i64 c] 32)) b t l → Row w' b t l) := markRib_any K p n cv base es _ hn hK h8 (World.ownsRow.alloc h _) (by simp; omega)
  clear h hn hK h8
  go_enter Try.func17, Try.ntmps17
  go_wp2_with fail
  refine (HM.out).mono ?_
  rintro e w1 ⟨rfl, ho, hb, hot⟩
  have hB : Below base w w1 := ((Below.refl base w).alloc hbs _).trans hb
  have HOT : Hid (∀ b t l, p ≠ some ⟨b, 0, none⟩ → Row w b t l → Row w1 b t l) := fun b t l hp h => hot b t l hp (h.alloc _)
  clear hb hot
  go_wp2
  go_ret
  exact ⟨rfl, ho, hB, HOT.out⟩
set_option maxRecDepth 100000 in
set_option maxHeartbeats 1000000 in
theorem heldRibOut_any (K : Nat) (c : Int) (p : Option Addr) (n cv : Nat) (w : World) (hK : K ≤ 100000000) (h8 : n ≤ 100000000) (h : RtsIn w p (marksR K n)) :
    Calls Try.prog 18 #[.agg #[.slice p n cv, .int .i64 c], .int .i64 K] w fun e w' => e = .returned (.int .i64 ((K : Int) + 9 * (n : Int))) ∧ Below w.heap.size w w' := by
  have HM : Hid (Calls Try.prog 26 #[.agg #[.slice p n cv], .int .i64 K] (w.alloc (.cells #[.slice p n cv, .int .i64 c] 32)) fun e w' => e = .returned (.int .i64 ((K : Int) + 9 * (n : Int))) ∧ Below (w.alloc (.cells #[.slice p n cv, .int .i64 c] 32)).heap.size (w.alloc (.cells #[.slice p n cv, .int .i64 c] 32)) w') := heldRib_any K p n cv _ hK h8 (h.alloc _)
  have d : decide ((K : Int) + 9 * (n : Int) < 0) = false := by simp; omega
  clear h hK h8
  go_enter Try.func18, Try.ntmps18
  go_wp2_with fail
  refine (HM.out).mono ?_
  rintro e w1 ⟨rfl, hb⟩
  have hB : Below w.heap.size w w1 := (ent_new0 w _).trans (hb.mono (by simp))
  clear hb
  go_wp2
  go_ret
  exact ⟨rfl, hB⟩
set_option maxRecDepth 100000 in
set_option maxHeartbeats 1000000 in
theorem eqRibOut_any (c : Int) (p p' : Option Addr) (n cv cv' : Nat) (es : List Rt) (w : World) (hn : n = es.length) (h8 : n ≤ 100000000) (h : RtsIn w p es) (h' : RtsIn w p' es) :
    Calls Try.prog 14 #[.agg #[.slice p n cv, .int .i64 c], .agg #[.slice p' n cv', .int .i64 c]] w fun e w' => e = .returned (.bool true) ∧ Below w.heap.size w w' := by
  have HE : Hid (∀ w, RtsIn w p es → RtsIn w p' es → Calls Try.prog 15 #[.agg #[.slice p n cv], .agg #[.slice p' n cv']] w fun r w' => r = .returned (.bool true) ∧ Below w.heap.size w w') := fun w h1 h2 => by
    subst hn; exact eqRib_any p p' cv cv' es w h1 h2 h8
  have HX : Hid (RtsIn w p es ∧ RtsIn w p' es) := ⟨h, h'⟩
  have q0 := (Row.new w 32 [.slice p n cv, .int .i64 c]).alloc (.cells #[.slice p' n cv', .int .i64 c] 32)
  have q1 := Row.new (w.alloc (.cells #[.slice p n cv, .int .i64 c] 32)) 32 [.slice p' n cv', .int .i64 c]
  clear h h' hn h8
  go_enter Try.func14, Try.ntmps14
  go_wp2_with fail
  refine (HE.out _ ((HX.out.1.alloc _).alloc _) ((HX.out.2.alloc _).alloc _)).mono ?_
  rintro e w1 ⟨rfl, hb1⟩
  have p0 := q0.below hb1 q0.lt
  have p1 := q1.below hb1 q1.lt
  rw [show (w.alloc (.cells #[.slice p n cv, .int .i64 c] 32)).heap.size = w.heap.size + 1 by simp] at p1
  have hB : Below w.heap.size w w1 := ((ent_new0 w _).alloc (by simp) _).trans (hb1.mono (by simp; omega))
  have c1 : w1.cell? ⟨w.heap.size, 1, none⟩ = some (.int .i64 c) := p0.cell 1
  have d1 : w1.cell? ⟨w.heap.size + 1, 1, none⟩ = some (.int .i64 c) := p1.cell 1
  clear hb1 HE HX q0 q1 p0 p1
  go_wp2
  go_ret
  exact ⟨rfl, hB⟩
end Go.Proofs.Ytaledidomgelcaa
/- What the laws on tables have in common. -/
namespace Go.Proofs.Ytaledidomgelcaa
open Go.RowKit Go.Sort

theorem one_later {w1 w2 : World} {b : Nat} {x : Value} (h : w1.cell? ⟨b, 0, none⟩ = some x) (hb : Below w1.heap.size w1 w2) : w2.cell? ⟨b, 0, none⟩ = some x := by rw [hb.cell (World.block_lt_of_cell? w1 _ h)]; exact h
theorem stab_ribRow {N : Nat} {t : TypeId} (l : List Value) : ∀ (x : Value) (w1 w2 : World), (∃ g, x = .agg #[.slice (some ⟨g, 0, none⟩) N N] ∧ Row w1 g t l) → Below w1.heap.size w1 w2 → ∃ g, x = .agg #[.slice (some ⟨g, 0, none⟩) N N] ∧ Row w2 g t l := by
  rintro x w1 w2 ⟨g, e, h⟩ hb
  exact ⟨g, e, h.below hb h.lt⟩
end Go.Proofs.Ytaledidomgelcaa
/- What the laws on RibOuts have in common. -/
namespace Go.Proofs.Ytaledidomgelcaa
open Go.RowKit Go.Sort

theorem stab_out (B M : Nat) (cc : Int) (qs : List Rt) : ∀ (x : Value) (w1 w2 : World), (∃ q c, x = .agg #[.slice q M c, .int .i64 cc] ∧ w1.ownsRow B 46 9 (.slice q M c) M (rowR qs)) → Below w1.heap.size w1 w2 → ∃ q c, x = .agg #[.slice q M c, .int .i64 cc] ∧ w2.ownsRow B 46 9 (.slice q M c) M (rowR qs) := by
  rintro x w1 w2 ⟨q, c, e, h⟩ hb
  exact ⟨q, c, e, ownsR_below h hb⟩
theorem ownsR_lt' {w : World} {base n cv : Nat} {p : Option Addr} {xs : List Value} (h : w.ownsRow base 46 9 (.slice p n cv) n xs) : ∀ b, p = some ⟨b, 0, none⟩ → b < w.heap.size := fun b e => by
  subst e
  exact (World.ownsRow.lt h b rfl).2
theorem ownsR_base5 {w : World} {base n cv g : Nat} {p : Option Addr} {xs : List Value} (_h : w.ownsRow base 46 9 (.slice p n cv) n xs) (hl : ∀ b, p = some ⟨b, 0, none⟩ → b < g) : p ≠ some ⟨g, 0, none⟩ := fun e => by
  have := hl g e
  omega
theorem ownsR_lt0 {w : World} {base n cv cv' b n7 : Nat} {p q : Option Addr} {xs ys : List Value} (_h : w.ownsRow base 46 9 (.slice p n cv) n xs) (h' : w.ownsRow n7 46 9 (.slice q n cv') n ys) (hl : ∀ b, p = some ⟨b, 0, none⟩ → b < n7) (e : p = some ⟨b, 0, none⟩) (e' : q = some ⟨b, 0, none⟩) : False := by
  have h1 := hl b e
  exact ownsR_base h' h1 e'
theorem two_boxes (w : World) (x y : List Value) (t1 t2 : TypeId) {w1 : World} (h : Below ((w.alloc (.cells x.toArray t1)).alloc (.cells y.toArray t2)).heap.size ((w.alloc (.cells x.toArray t1)).alloc (.cells y.toArray t2)) w1) : Row w1 w.heap.size t1 x ∧ Row w1 (w.heap.size + 1) t2 y ∧ Below w.heap.size w w1 := by
  have q0 := (Row.new w t1 x).alloc (.cells y.toArray t2)
  have q1 := Row.new (w.alloc (.cells x.toArray t1)) t2 y
  rw [show (w.alloc (.cells x.toArray t1)).heap.size = w.heap.size + 1 by simp] at q1
  exact ⟨q0.below h q0.lt, q1.below h q1.lt, ((ent_new0 w _).alloc (by simp) _).trans (h.mono (by simp; omega))⟩
theorem one_box (w : World) (x : List Value) (t1 : TypeId) {w1 : World} (h : Below (w.alloc (.cells x.toArray t1)).heap.size (w.alloc (.cells x.toArray t1)) w1) : Row w1 w.heap.size t1 x ∧ Below w.heap.size w w1 := by
  have q0 := Row.new w t1 x
  exact ⟨q0.below h q0.lt, (ent_new0 w _).trans (h.mono (by simp))⟩
end Go.Proofs.Ytaledidomgelcaa
