/- Texts that stand on each other, in one file: RLearnT, FreshI, AgainI. -/
import Derived.Test.YtaledidomgelcaaPack6
import Derived.Test.YtaledidomgelcaaPack2
/- RibLearn of the model. (Written by gen_rlearns.py.) -/
namespace Go.Proofs.Ytaledidomgelcaa
open Go.RowKit Go.Sort

def inNx (n : Int) : Bool := decide (1 ≤ n ∧ n ≤ 4294967295)
theorem told_all (r : Rt) (now : Int) : toldB r now = (rightB r.a r.l && (inMet r.m && (inNx r.n && (inIf r.i && (inTag r.t && inNow now))))) := by
  have e : toldB r now = ((rightB r.a r.l && inAddr r.n && inMet r.m && inTag r.t) && inIf r.i && (!decide (r.n = 0) && inNow now)) := rfl
  have h : (inAddr r.n && !decide (r.n = 0)) = inNx r.n := by
    unfold inAddr inNx
    rw [Bool.eq_iff_iff]
    simp only [Bool.and_eq_true, Bool.not_eq_true', decide_eq_true_eq, decide_eq_false_iff_not]
    omega
  rw [e, ← h]
  cases rightB r.a r.l <;> cases inAddr r.n <;> cases inMet r.m <;> cases inTag r.t <;> cases inIf r.i <;> cases decide (r.n = 0) <;> cases inNow now <;> rfl
/-- What RibLearn answers of what is right. -/
def learnK (rs : List Rt) (r : Rt) (now : Int) : Int × List Rt :=
  match lookN rs r.a r.l with
  | some old => (0, insR rs (heardR old r now))
  | none => if r.m = 16 then (0, rs) else if (insR rs (freshR r now)).length ≤ 8 then (0, insR rs (freshR r now)) else (9, [])
theorem l06Learn_any (p : Option Addr) (cap : Nat) (rs : List Rt) (r : Rt) (now : Int) (w : World) (h : RtsIn w p rs) (hc : p = none → cap = 0) (hcl : rs.length ≤ cap) (hr : ribB rs = true) (h0 : 0 ≤ now) (h1 : now ≤ 999900) :
    Calls Try.prog 50 #[ribV p rs.length cap, rtV r, .int .i64 now] w fun e w' => OutR w.heap.size (learnK rs r now).1 (learnK rs r now).2 e w' ∧ Below w.heap.size w w' := by
  unfold learnK
  cases hk : lookN rs r.a r.l with
  | some old =>
    obtain ⟨hmem, e1, e2⟩ := look_mem hk
    have hself := insR_self (rib_rising hr) hmem
    unfold heardR
    by_cases c1 : old.n = 0
    · simp only [if_pos c1, hself]
      exact learnS_own p cap rs r now w h hc hcl hr h0 h1 old hk c1
    · simp only [if_neg c1]
      by_cases c2 : old.n = r.n ∧ old.i = r.i
      · simp only [if_pos c2]
        exact learnS_again p cap rs r now w h hc hcl hr h0 h1 old hk c1 c2
      · simp only [if_neg c2]
        by_cases c3 : r.m < old.m
        · simp only [if_pos c3]
          exact learnS_near p cap rs r now w h hc hcl hr h0 h1 old hk c1 c2 c3
        · simp only [if_neg c3, hself]
          exact learnS_stay p cap rs r now w h hc hcl hr h0 h1 old hk c1 c2 c3
  | none =>
    by_cases hm : r.m = 16
    · simp only [if_pos hm]
      exact learnS_gone p cap rs r now w h hc hcl hr h0 h1 hk hm
    · simp only [if_neg hm]
      have hl : (insR rs (freshR r now)).length = rs.length + 1 := insR_len_new hr hk
      by_cases hf : rs.length < 8
      · rw [if_pos (by omega)]
        exact learnS_new p cap rs r now w h hc hcl hr h0 h1 hk hm hf
      · rw [if_neg (by omega)]
        exact learnS_full p cap rs r now w h hc hcl hr h0 h1 hk hm (by omega)
set_option maxRecDepth 100000 in
set_option maxHeartbeats 4000000 in
theorem specLearn_wrong (p : Option Addr) (cap : Nat) (rs : List Rt) (r : Rt) (now : Int) (w : World) (h : RtsIn w p rs) (hn : rs.length ≤ 100000000) (hc : (ribB rs && (rightB r.a r.l && (inMet r.m && (inNx r.n && (inIf r.i && (inTag r.t && inNow now)))))) = false) :
    Calls Try.prog 19 #[ribV p rs.length cap, rtV r, .int .i64 now] w fun e w' => OutR w.heap.size 1 [] e w' ∧ Below w.heap.size w w' := by
  have HB : Hid (∀ w, RtsIn w p rs → Calls Try.prog 36 #[.agg #[.slice p rs.length cap]] w fun e w' => e = .returned (.bool (ribB rs)) ∧ Below w.heap.size w w') := fun w h => specRib_any p cap rs w h hn
  have HR : Hid (∀ w, Calls Try.prog 37 #[.agg #[.int .i64 r.a, .int .i64 r.l]] w fun e w' => e = .returned (.bool (rightB r.a r.l)) ∧ Below w.heap.size w w') := specRight_any r.a r.l
  have HM : Hid (∀ w, Calls Try.prog 38 #[.int .i64 r.m, .int .i64 1, .int .i64 16] w fun e w' => e = .returned (.bool (inMet r.m)) ∧ w = w') := fun w => l03Is_any r.m 1 16 w
  have HNx : Hid (∀ w, Calls Try.prog 38 #[.int .i64 r.n, .int .i64 1, .int .i64 4294967295] w fun e w' => e = .returned (.bool (inNx r.n)) ∧ w = w') := fun w => l03Is_any r.n 1 4294967295 w
  have HIf : Hid (∀ w, Calls Try.prog 38 #[.int .i64 r.i, .int .i64 0, .int .i64 3] w fun e w' => e = .returned (.bool (inIf r.i)) ∧ w = w') := fun w => l03Is_any r.i 0 3 w
  have HTg : Hid (∀ w, Calls Try.prog 38 #[.int .i64 r.t, .int .i64 0, .int .i64 65535] w fun e w' => e = .returned (.bool (inTag r.t)) ∧ w = w') := fun w => l03Is_any r.t 0 65535 w
  have HNw : Hid (∀ w, Calls Try.prog 49 #[.int .i64 now] w fun e w' => e = .returned (.bool (inNow now)) ∧ w = w') := l06Now_any now
  have HIl : Hid (∀ c w, Calls Try.prog 39 #[.int .i64 c] w fun e w' => e = .returned (.agg #[.slice none 0 0, .int .i64 c]) ∧ Below w.heap.size w w') := l06Ill_any
  have HX : Hid (RtsIn w p rs) := h
  have HLr : True := trivial
  clear h hn
  cases k1 : ribB rs
  · rw [k1] at HB
    clear HLr HR HM HNx HIf HTg HNw k1 hc
    obtain ⟨a, l, m, n, ii, t, u, b, c⟩ := r
    generalize rs.length = N at *
    unfold ribV rtV rtA at *
    simp only at HB ⊢
    obtain ⟨W, hW, q0, q1, q2, hB, hS, -⟩ := rows3 w [.slice p N cap] [.int .i64 a, .int .i64 l, .int .i64 m, .int .i64 n, .int .i64 ii, .int .i64 t, .int .i64 u, .int .i64 b, .bool c] [.slice none 0 0, .int .i64 0] 30 46 32
    have HW : Hid _ := hW
    have HQ : Hid _ := And.intro q0 (And.intro q1 (And.intro q2 hB))
    have x0 : W.cell? ⟨w.heap.size, 0, none⟩ = some (.slice p N cap) := q0.cell 0
    have y0 : W.cell? ⟨w.heap.size + 1, 0, none⟩ = some (.int .i64 a) := q1.cell 0
    have y1 : W.cell? ⟨w.heap.size + 1, 1, none⟩ = some (.int .i64 l) := q1.cell 1
    rw [hW] at x0 y0 y1
    clear hW q0 q1 q2 hB
    go_enter Try.func19, Try.ntmps19
    go_wp2_with fail
    rw [← HW.out]
    obtain ⟨q0, q1, q2, hB⟩ := HQ.out
    clear HQ x0 y0 y1
    refine (HB.out _ ((HX.out).below hB)).mono ?_
    rintro e w1 ⟨rfl, hb1⟩
    have q0 := q0.below hb1 (by omega)
    have q1 := q1.below hb1 (by omega)
    have q2 := q2.below hb1 (by omega)
    have hB := hB.trans (hb1.mono (by omega))
    have hs1 := hb1.size
    clear hb1
    clear HB HW
    go_wp2_with fail
    refine (HIl.out 1 _).mono ?_
    rintro e w9 ⟨rfl, hb9⟩
    have qr := q2.below hb9 q2.lt
    have hB := hB.trans (hb9.mono hB.size)
    clear HIl q0 q1 q2
    have f0 : w9.frozen? ⟨w.heap.size + 1 + 1, 0, none⟩ = false := qr.frozen 0
    have f1 : w9.frozen? ⟨w.heap.size + 1 + 1, 1, none⟩ = false := qr.frozen 1
    have z0 : w9.cell? ⟨w.heap.size + 1 + 1, 0, none⟩ = some (.slice none 0 0) := qr.cell 0
    have z1 : w9.cell? ⟨w.heap.size + 1 + 1, 1, none⟩ = some (.int .i64 0) := qr.cell 1
    have HE2 : Hid _ := And.intro ((qr.set 0 (.slice none 0 0)).set 1 (.int .i64 1)) (And.intro ((hB.setCell (p := ⟨w.heap.size + 1 + 1, 0, none⟩) (by show w.heap.size ≤ w.heap.size + 1 + 1; omega) (.slice none 0 0)).setCell (p := ⟨w.heap.size + 1 + 1, 1, none⟩) (by show w.heap.size ≤ w.heap.size + 1 + 1; omega) (.int .i64 1)) trivial)
    clear qr hB hb9
    go_wp2_with fail
    obtain ⟨h1, h2, h3⟩ := HE2.out
    clear HE2 f0 f1 z0 z1
    generalize (w9.setCell ⟨w.heap.size + 1 + 1, 0, none⟩ (.slice none 0 0)).setCell ⟨w.heap.size + 1 + 1, 1, none⟩ (.int .i64 1) = Z at *
    have e0 : Z.cell? ⟨w.heap.size + 1 + 1, 0, none⟩ = some (.slice none 0 0) := h1.cell 0
    have e1 : Z.cell? ⟨w.heap.size + 1 + 1, 1, none⟩ = some (.int .i64 1) := h1.cell 1
    exact bodyPost_ret (v := .agg #[.slice none 0 0, .int .i64 1]) (by simp [results, Try.results19, go_sem, e0, e1]) rfl ⟨⟨_, _, rfl, World.ownsRow_nil _ _ _ 9⟩, h2⟩
  · rw [k1] at HB
    rw [k1] at hc
    cases k2 : rightB r.a r.l
    · rw [k2] at HR
      clear HLr HM HNx HIf HTg HNw k1 k2 hc
      obtain ⟨a, l, m, n, ii, t, u, b, c⟩ := r
      generalize rs.length = N at *
      unfold ribV rtV rtA at *
      simp only at HB HR ⊢
      obtain ⟨W, hW, q0, q1, q2, hB, hS, -⟩ := rows3 w [.slice p N cap] [.int .i64 a, .int .i64 l, .int .i64 m, .int .i64 n, .int .i64 ii, .int .i64 t, .int .i64 u, .int .i64 b, .bool c] [.slice none 0 0, .int .i64 0] 30 46 32
      have HW : Hid _ := hW
      have HQ : Hid _ := And.intro q0 (And.intro q1 (And.intro q2 hB))
      have x0 : W.cell? ⟨w.heap.size, 0, none⟩ = some (.slice p N cap) := q0.cell 0
      have y0 : W.cell? ⟨w.heap.size + 1, 0, none⟩ = some (.int .i64 a) := q1.cell 0
      have y1 : W.cell? ⟨w.heap.size + 1, 1, none⟩ = some (.int .i64 l) := q1.cell 1
      rw [hW] at x0 y0 y1
      clear hW q0 q1 q2 hB
      go_enter Try.func19, Try.ntmps19
      go_wp2_with fail
      rw [← HW.out]
      obtain ⟨q0, q1, q2, hB⟩ := HQ.out
      clear HQ x0 y0 y1
      refine (HB.out _ ((HX.out).below hB)).mono ?_
      rintro e w1 ⟨rfl, hb1⟩
      have q0 := q0.below hb1 (by omega)
      have q1 := q1.below hb1 (by omega)
      have q2 := q2.below hb1 (by omega)
      have hB := hB.trans (hb1.mono (by omega))
      have hs1 := hb1.size
      clear hb1
      clear HB HW
      have y0 : w1.cell? ⟨w.heap.size + 1, 0, none⟩ = some (.int .i64 a) := q1.cell 0
      have y1 : w1.cell? ⟨w.heap.size + 1, 1, none⟩ = some (.int .i64 l) := q1.cell 1
      go_wp2_with fail
      refine (HR.out _).mono ?_
      rintro e w2 ⟨rfl, hb2⟩
      have q0 := q0.below hb2 (by omega)
      have q1 := q1.below hb2 (by omega)
      have q2 := q2.below hb2 (by omega)
      have hB := hB.trans (hb2.mono (by omega))
      have hs2 := hb2.size
      clear hb2
      clear y0 y1
      clear HR
      go_wp2_with fail
      refine (HIl.out 1 _).mono ?_
      rintro e w9 ⟨rfl, hb9⟩
      have qr := q2.below hb9 q2.lt
      have hB := hB.trans (hb9.mono hB.size)
      clear HIl q0 q1 q2
      have f0 : w9.frozen? ⟨w.heap.size + 1 + 1, 0, none⟩ = false := qr.frozen 0
      have f1 : w9.frozen? ⟨w.heap.size + 1 + 1, 1, none⟩ = false := qr.frozen 1
      have z0 : w9.cell? ⟨w.heap.size + 1 + 1, 0, none⟩ = some (.slice none 0 0) := qr.cell 0
      have z1 : w9.cell? ⟨w.heap.size + 1 + 1, 1, none⟩ = some (.int .i64 0) := qr.cell 1
      have HE2 : Hid _ := And.intro ((qr.set 0 (.slice none 0 0)).set 1 (.int .i64 1)) (And.intro ((hB.setCell (p := ⟨w.heap.size + 1 + 1, 0, none⟩) (by show w.heap.size ≤ w.heap.size + 1 + 1; omega) (.slice none 0 0)).setCell (p := ⟨w.heap.size + 1 + 1, 1, none⟩) (by show w.heap.size ≤ w.heap.size + 1 + 1; omega) (.int .i64 1)) trivial)
      clear qr hB hb9
      go_wp2_with fail
      obtain ⟨h1, h2, h3⟩ := HE2.out
      clear HE2 f0 f1 z0 z1
      generalize (w9.setCell ⟨w.heap.size + 1 + 1, 0, none⟩ (.slice none 0 0)).setCell ⟨w.heap.size + 1 + 1, 1, none⟩ (.int .i64 1) = Z at *
      have e0 : Z.cell? ⟨w.heap.size + 1 + 1, 0, none⟩ = some (.slice none 0 0) := h1.cell 0
      have e1 : Z.cell? ⟨w.heap.size + 1 + 1, 1, none⟩ = some (.int .i64 1) := h1.cell 1
      exact bodyPost_ret (v := .agg #[.slice none 0 0, .int .i64 1]) (by simp [results, Try.results19, go_sem, e0, e1]) rfl ⟨⟨_, _, rfl, World.ownsRow_nil _ _ _ 9⟩, h2⟩
    · rw [k2] at HR
      rw [k2] at hc
      cases k3 : inMet r.m
      · rw [k3] at HM
        clear HLr HNx HIf HTg HNw k1 k2 k3 hc
        obtain ⟨a, l, m, n, ii, t, u, b, c⟩ := r
        generalize rs.length = N at *
        unfold ribV rtV rtA at *
        simp only at HB HR HM ⊢
        obtain ⟨W, hW, q0, q1, q2, hB, hS, -⟩ := rows3 w [.slice p N cap] [.int .i64 a, .int .i64 l, .int .i64 m, .int .i64 n, .int .i64 ii, .int .i64 t, .int .i64 u, .int .i64 b, .bool c] [.slice none 0 0, .int .i64 0] 30 46 32
        have HW : Hid _ := hW
        have HQ : Hid _ := And.intro q0 (And.intro q1 (And.intro q2 hB))
        have x0 : W.cell? ⟨w.heap.size, 0, none⟩ = some (.slice p N cap) := q0.cell 0
        have y0 : W.cell? ⟨w.heap.size + 1, 0, none⟩ = some (.int .i64 a) := q1.cell 0
        have y1 : W.cell? ⟨w.heap.size + 1, 1, none⟩ = some (.int .i64 l) := q1.cell 1
        rw [hW] at x0 y0 y1
        clear hW q0 q1 q2 hB
        go_enter Try.func19, Try.ntmps19
        go_wp2_with fail
        rw [← HW.out]
        obtain ⟨q0, q1, q2, hB⟩ := HQ.out
        clear HQ x0 y0 y1
        refine (HB.out _ ((HX.out).below hB)).mono ?_
        rintro e w1 ⟨rfl, hb1⟩
        have q0 := q0.below hb1 (by omega)
        have q1 := q1.below hb1 (by omega)
        have q2 := q2.below hb1 (by omega)
        have hB := hB.trans (hb1.mono (by omega))
        have hs1 := hb1.size
        clear hb1
        clear HB HW
        have y0 : w1.cell? ⟨w.heap.size + 1, 0, none⟩ = some (.int .i64 a) := q1.cell 0
        have y1 : w1.cell? ⟨w.heap.size + 1, 1, none⟩ = some (.int .i64 l) := q1.cell 1
        go_wp2_with fail
        refine (HR.out _).mono ?_
        rintro e w2 ⟨rfl, hb2⟩
        have q0 := q0.below hb2 (by omega)
        have q1 := q1.below hb2 (by omega)
        have q2 := q2.below hb2 (by omega)
        have hB := hB.trans (hb2.mono (by omega))
        have hs2 := hb2.size
        clear hb2
        clear y0 y1
        clear HR
        have y2 : w2.cell? ⟨w.heap.size + 1, 2, none⟩ = some (.int .i64 m) := q1.cell 2
        go_wp2_with fail
        refine (HM.out _).mono ?_
        rintro e w3x ⟨rfl, rfl⟩
        clear y2
        clear HM
        go_wp2_with fail
        refine (HIl.out 1 _).mono ?_
        rintro e w9 ⟨rfl, hb9⟩
        have qr := q2.below hb9 q2.lt
        have hB := hB.trans (hb9.mono hB.size)
        clear HIl q0 q1 q2
        have f0 : w9.frozen? ⟨w.heap.size + 1 + 1, 0, none⟩ = false := qr.frozen 0
        have f1 : w9.frozen? ⟨w.heap.size + 1 + 1, 1, none⟩ = false := qr.frozen 1
        have z0 : w9.cell? ⟨w.heap.size + 1 + 1, 0, none⟩ = some (.slice none 0 0) := qr.cell 0
        have z1 : w9.cell? ⟨w.heap.size + 1 + 1, 1, none⟩ = some (.int .i64 0) := qr.cell 1
        have HE2 : Hid _ := And.intro ((qr.set 0 (.slice none 0 0)).set 1 (.int .i64 1)) (And.intro ((hB.setCell (p := ⟨w.heap.size + 1 + 1, 0, none⟩) (by show w.heap.size ≤ w.heap.size + 1 + 1; omega) (.slice none 0 0)).setCell (p := ⟨w.heap.size + 1 + 1, 1, none⟩) (by show w.heap.size ≤ w.heap.size + 1 + 1; omega) (.int .i64 1)) trivial)
        clear qr hB hb9
        go_wp2_with fail
        obtain ⟨h1, h2, h3⟩ := HE2.out
        clear HE2 f0 f1 z0 z1
        generalize (w9.setCell ⟨w.heap.size + 1 + 1, 0, none⟩ (.slice none 0 0)).setCell ⟨w.heap.size + 1 + 1, 1, none⟩ (.int .i64 1) = Z at *
        have e0 : Z.cell? ⟨w.heap.size + 1 + 1, 0, none⟩ = some (.slice none 0 0) := h1.cell 0
        have e1 : Z.cell? ⟨w.heap.size + 1 + 1, 1, none⟩ = some (.int .i64 1) := h1.cell 1
        exact bodyPost_ret (v := .agg #[.slice none 0 0, .int .i64 1]) (by simp [results, Try.results19, go_sem, e0, e1]) rfl ⟨⟨_, _, rfl, World.ownsRow_nil _ _ _ 9⟩, h2⟩
      · rw [k3] at HM
        rw [k3] at hc
        cases k4 : inNx r.n
        · rw [k4] at HNx
          clear HLr HIf HTg HNw k1 k2 k3 k4 hc
          obtain ⟨a, l, m, n, ii, t, u, b, c⟩ := r
          generalize rs.length = N at *
          unfold ribV rtV rtA at *
          simp only at HB HR HM HNx ⊢
          obtain ⟨W, hW, q0, q1, q2, hB, hS, -⟩ := rows3 w [.slice p N cap] [.int .i64 a, .int .i64 l, .int .i64 m, .int .i64 n, .int .i64 ii, .int .i64 t, .int .i64 u, .int .i64 b, .bool c] [.slice none 0 0, .int .i64 0] 30 46 32
          have HW : Hid _ := hW
          have HQ : Hid _ := And.intro q0 (And.intro q1 (And.intro q2 hB))
          have x0 : W.cell? ⟨w.heap.size, 0, none⟩ = some (.slice p N cap) := q0.cell 0
          have y0 : W.cell? ⟨w.heap.size + 1, 0, none⟩ = some (.int .i64 a) := q1.cell 0
          have y1 : W.cell? ⟨w.heap.size + 1, 1, none⟩ = some (.int .i64 l) := q1.cell 1
          rw [hW] at x0 y0 y1
          clear hW q0 q1 q2 hB
          go_enter Try.func19, Try.ntmps19
          go_wp2_with fail
          rw [← HW.out]
          obtain ⟨q0, q1, q2, hB⟩ := HQ.out
          clear HQ x0 y0 y1
          refine (HB.out _ ((HX.out).below hB)).mono ?_
          rintro e w1 ⟨rfl, hb1⟩
          have q0 := q0.below hb1 (by omega)
          have q1 := q1.below hb1 (by omega)
          have q2 := q2.below hb1 (by omega)
          have hB := hB.trans (hb1.mono (by omega))
          have hs1 := hb1.size
          clear hb1
          clear HB HW
          have y0 : w1.cell? ⟨w.heap.size + 1, 0, none⟩ = some (.int .i64 a) := q1.cell 0
          have y1 : w1.cell? ⟨w.heap.size + 1, 1, none⟩ = some (.int .i64 l) := q1.cell 1
          go_wp2_with fail
          refine (HR.out _).mono ?_
          rintro e w2 ⟨rfl, hb2⟩
          have q0 := q0.below hb2 (by omega)
          have q1 := q1.below hb2 (by omega)
          have q2 := q2.below hb2 (by omega)
          have hB := hB.trans (hb2.mono (by omega))
          have hs2 := hb2.size
          clear hb2
          clear y0 y1
          clear HR
          have y2 : w2.cell? ⟨w.heap.size + 1, 2, none⟩ = some (.int .i64 m) := q1.cell 2
          go_wp2_with fail
          refine (HM.out _).mono ?_
          rintro e w3x ⟨rfl, rfl⟩
          clear y2
          clear HM
          have y3 : w2.cell? ⟨w.heap.size + 1, 3, none⟩ = some (.int .i64 n) := q1.cell 3
          go_wp2_with fail
          refine (HNx.out _).mono ?_
          rintro e w4x ⟨rfl, rfl⟩
          clear y3
          clear HNx
          go_wp2_with fail
          refine (HIl.out 1 _).mono ?_
          rintro e w9 ⟨rfl, hb9⟩
          have qr := q2.below hb9 q2.lt
          have hB := hB.trans (hb9.mono hB.size)
          clear HIl q0 q1 q2
          have f0 : w9.frozen? ⟨w.heap.size + 1 + 1, 0, none⟩ = false := qr.frozen 0
          have f1 : w9.frozen? ⟨w.heap.size + 1 + 1, 1, none⟩ = false := qr.frozen 1
          have z0 : w9.cell? ⟨w.heap.size + 1 + 1, 0, none⟩ = some (.slice none 0 0) := qr.cell 0
          have z1 : w9.cell? ⟨w.heap.size + 1 + 1, 1, none⟩ = some (.int .i64 0) := qr.cell 1
          have HE2 : Hid _ := And.intro ((qr.set 0 (.slice none 0 0)).set 1 (.int .i64 1)) (And.intro ((hB.setCell (p := ⟨w.heap.size + 1 + 1, 0, none⟩) (by show w.heap.size ≤ w.heap.size + 1 + 1; omega) (.slice none 0 0)).setCell (p := ⟨w.heap.size + 1 + 1, 1, none⟩) (by show w.heap.size ≤ w.heap.size + 1 + 1; omega) (.int .i64 1)) trivial)
          clear qr hB hb9
          go_wp2_with fail
          obtain ⟨h1, h2, h3⟩ := HE2.out
          clear HE2 f0 f1 z0 z1
          generalize (w9.setCell ⟨w.heap.size + 1 + 1, 0, none⟩ (.slice none 0 0)).setCell ⟨w.heap.size + 1 + 1, 1, none⟩ (.int .i64 1) = Z at *
          have e0 : Z.cell? ⟨w.heap.size + 1 + 1, 0, none⟩ = some (.slice none 0 0) := h1.cell 0
          have e1 : Z.cell? ⟨w.heap.size + 1 + 1, 1, none⟩ = some (.int .i64 1) := h1.cell 1
          exact bodyPost_ret (v := .agg #[.slice none 0 0, .int .i64 1]) (by simp [results, Try.results19, go_sem, e0, e1]) rfl ⟨⟨_, _, rfl, World.ownsRow_nil _ _ _ 9⟩, h2⟩
        · rw [k4] at HNx
          rw [k4] at hc
          cases k5 : inIf r.i
          · rw [k5] at HIf
            clear HLr HTg HNw k1 k2 k3 k4 k5 hc
            obtain ⟨a, l, m, n, ii, t, u, b, c⟩ := r
            generalize rs.length = N at *
            unfold ribV rtV rtA at *
            simp only at HB HR HM HNx HIf ⊢
            obtain ⟨W, hW, q0, q1, q2, hB, hS, -⟩ := rows3 w [.slice p N cap] [.int .i64 a, .int .i64 l, .int .i64 m, .int .i64 n, .int .i64 ii, .int .i64 t, .int .i64 u, .int .i64 b, .bool c] [.slice none 0 0, .int .i64 0] 30 46 32
            have HW : Hid _ := hW
            have HQ : Hid _ := And.intro q0 (And.intro q1 (And.intro q2 hB))
            have x0 : W.cell? ⟨w.heap.size, 0, none⟩ = some (.slice p N cap) := q0.cell 0
            have y0 : W.cell? ⟨w.heap.size + 1, 0, none⟩ = some (.int .i64 a) := q1.cell 0
            have y1 : W.cell? ⟨w.heap.size + 1, 1, none⟩ = some (.int .i64 l) := q1.cell 1
            rw [hW] at x0 y0 y1
            clear hW q0 q1 q2 hB
            go_enter Try.func19, Try.ntmps19
            go_wp2_with fail
            rw [← HW.out]
            obtain ⟨q0, q1, q2, hB⟩ := HQ.out
            clear HQ x0 y0 y1
            refine (HB.out _ ((HX.out).below hB)).mono ?_
            rintro e w1 ⟨rfl, hb1⟩
            have q0 := q0.below hb1 (by omega)
            have q1 := q1.below hb1 (by omega)
            have q2 := q2.below hb1 (by omega)
            have hB := hB.trans (hb1.mono (by omega))
            have hs1 := hb1.size
            clear hb1
            clear HB HW
            have y0 : w1.cell? ⟨w.heap.size + 1, 0, none⟩ = some (.int .i64 a) := q1.cell 0
            have y1 : w1.cell? ⟨w.heap.size + 1, 1, none⟩ = some (.int .i64 l) := q1.cell 1
            go_wp2_with fail
            refine (HR.out _).mono ?_
            rintro e w2 ⟨rfl, hb2⟩
            have q0 := q0.below hb2 (by omega)
            have q1 := q1.below hb2 (by omega)
            have q2 := q2.below hb2 (by omega)
            have hB := hB.trans (hb2.mono (by omega))
            have hs2 := hb2.size
            clear hb2
            clear y0 y1
            clear HR
            have y2 : w2.cell? ⟨w.heap.size + 1, 2, none⟩ = some (.int .i64 m) := q1.cell 2
            go_wp2_with fail
            refine (HM.out _).mono ?_
            rintro e w3x ⟨rfl, rfl⟩
            clear y2
            clear HM
            have y3 : w2.cell? ⟨w.heap.size + 1, 3, none⟩ = some (.int .i64 n) := q1.cell 3
            go_wp2_with fail
            refine (HNx.out _).mono ?_
            rintro e w4x ⟨rfl, rfl⟩
            clear y3
            clear HNx
            have y4 : w2.cell? ⟨w.heap.size + 1, 4, none⟩ = some (.int .i64 ii) := q1.cell 4
            go_wp2_with fail
            refine (HIf.out _).mono ?_
            rintro e w5x ⟨rfl, rfl⟩
            clear y4
            clear HIf
            go_wp2_with fail
            refine (HIl.out 1 _).mono ?_
            rintro e w9 ⟨rfl, hb9⟩
            have qr := q2.below hb9 q2.lt
            have hB := hB.trans (hb9.mono hB.size)
            clear HIl q0 q1 q2
            have f0 : w9.frozen? ⟨w.heap.size + 1 + 1, 0, none⟩ = false := qr.frozen 0
            have f1 : w9.frozen? ⟨w.heap.size + 1 + 1, 1, none⟩ = false := qr.frozen 1
            have z0 : w9.cell? ⟨w.heap.size + 1 + 1, 0, none⟩ = some (.slice none 0 0) := qr.cell 0
            have z1 : w9.cell? ⟨w.heap.size + 1 + 1, 1, none⟩ = some (.int .i64 0) := qr.cell 1
            have HE2 : Hid _ := And.intro ((qr.set 0 (.slice none 0 0)).set 1 (.int .i64 1)) (And.intro ((hB.setCell (p := ⟨w.heap.size + 1 + 1, 0, none⟩) (by show w.heap.size ≤ w.heap.size + 1 + 1; omega) (.slice none 0 0)).setCell (p := ⟨w.heap.size + 1 + 1, 1, none⟩) (by show w.heap.size ≤ w.heap.size + 1 + 1; omega) (.int .i64 1)) trivial)
            clear qr hB hb9
            go_wp2_with fail
            obtain ⟨h1, h2, h3⟩ := HE2.out
            clear HE2 f0 f1 z0 z1
            generalize (w9.setCell ⟨w.heap.size + 1 + 1, 0, none⟩ (.slice none 0 0)).setCell ⟨w.heap.size + 1 + 1, 1, none⟩ (.int .i64 1) = Z at *
            have e0 : Z.cell? ⟨w.heap.size + 1 + 1, 0, none⟩ = some (.slice none 0 0) := h1.cell 0
            have e1 : Z.cell? ⟨w.heap.size + 1 + 1, 1, none⟩ = some (.int .i64 1) := h1.cell 1
            exact bodyPost_ret (v := .agg #[.slice none 0 0, .int .i64 1]) (by simp [results, Try.results19, go_sem, e0, e1]) rfl ⟨⟨_, _, rfl, World.ownsRow_nil _ _ _ 9⟩, h2⟩
          · rw [k5] at HIf
            rw [k5] at hc
            cases k6 : inTag r.t
            · rw [k6] at HTg
              clear HLr HNw k1 k2 k3 k4 k5 k6 hc
              obtain ⟨a, l, m, n, ii, t, u, b, c⟩ := r
              generalize rs.length = N at *
              unfold ribV rtV rtA at *
              simp only at HB HR HM HNx HIf HTg ⊢
              obtain ⟨W, hW, q0, q1, q2, hB, hS, -⟩ := rows3 w [.slice p N cap] [.int .i64 a, .int .i64 l, .int .i64 m, .int .i64 n, .int .i64 ii, .int .i64 t, .int .i64 u, .int .i64 b, .bool c] [.slice none 0 0, .int .i64 0] 30 46 32
              have HW : Hid _ := hW
              have HQ : Hid _ := And.intro q0 (And.intro q1 (And.intro q2 hB))
              have x0 : W.cell? ⟨w.heap.size, 0, none⟩ = some (.slice p N cap) := q0.cell 0
              have y0 : W.cell? ⟨w.heap.size + 1, 0, none⟩ = some (.int .i64 a) := q1.cell 0
              have y1 : W.cell? ⟨w.heap.size + 1, 1, none⟩ = some (.int .i64 l) := q1.cell 1
              rw [hW] at x0 y0 y1
              clear hW q0 q1 q2 hB
              go_enter Try.func19, Try.ntmps19
              go_wp2_with fail
              rw [← HW.out]
              obtain ⟨q0, q1, q2, hB⟩ := HQ.out
              clear HQ x0 y0 y1
              refine (HB.out _ ((HX.out).below hB)).mono ?_
              rintro e w1 ⟨rfl, hb1⟩
              have q0 := q0.below hb1 (by omega)
              have q1 := q1.below hb1 (by omega)
              have q2 := q2.below hb1 (by omega)
              have hB := hB.trans (hb1.mono (by omega))
              have hs1 := hb1.size
              clear hb1
              clear HB HW
              have y0 : w1.cell? ⟨w.heap.size + 1, 0, none⟩ = some (.int .i64 a) := q1.cell 0
              have y1 : w1.cell? ⟨w.heap.size + 1, 1, none⟩ = some (.int .i64 l) := q1.cell 1
              go_wp2_with fail
              refine (HR.out _).mono ?_
              rintro e w2 ⟨rfl, hb2⟩
              have q0 := q0.below hb2 (by omega)
              have q1 := q1.below hb2 (by omega)
              have q2 := q2.below hb2 (by omega)
              have hB := hB.trans (hb2.mono (by omega))
              have hs2 := hb2.size
              clear hb2
              clear y0 y1
              clear HR
              have y2 : w2.cell? ⟨w.heap.size + 1, 2, none⟩ = some (.int .i64 m) := q1.cell 2
              go_wp2_with fail
              refine (HM.out _).mono ?_
              rintro e w3x ⟨rfl, rfl⟩
              clear y2
              clear HM
              have y3 : w2.cell? ⟨w.heap.size + 1, 3, none⟩ = some (.int .i64 n) := q1.cell 3
              go_wp2_with fail
              refine (HNx.out _).mono ?_
              rintro e w4x ⟨rfl, rfl⟩
              clear y3
              clear HNx
              have y4 : w2.cell? ⟨w.heap.size + 1, 4, none⟩ = some (.int .i64 ii) := q1.cell 4
              go_wp2_with fail
              refine (HIf.out _).mono ?_
              rintro e w5x ⟨rfl, rfl⟩
              clear y4
              clear HIf
              have y5 : w2.cell? ⟨w.heap.size + 1, 5, none⟩ = some (.int .i64 t) := q1.cell 5
              go_wp2_with fail
              refine (HTg.out _).mono ?_
              rintro e w6x ⟨rfl, rfl⟩
              clear y5
              clear HTg
              go_wp2_with fail
              refine (HIl.out 1 _).mono ?_
              rintro e w9 ⟨rfl, hb9⟩
              have qr := q2.below hb9 q2.lt
              have hB := hB.trans (hb9.mono hB.size)
              clear HIl q0 q1 q2
              have f0 : w9.frozen? ⟨w.heap.size + 1 + 1, 0, none⟩ = false := qr.frozen 0
              have f1 : w9.frozen? ⟨w.heap.size + 1 + 1, 1, none⟩ = false := qr.frozen 1
              have z0 : w9.cell? ⟨w.heap.size + 1 + 1, 0, none⟩ = some (.slice none 0 0) := qr.cell 0
              have z1 : w9.cell? ⟨w.heap.size + 1 + 1, 1, none⟩ = some (.int .i64 0) := qr.cell 1
              have HE2 : Hid _ := And.intro ((qr.set 0 (.slice none 0 0)).set 1 (.int .i64 1)) (And.intro ((hB.setCell (p := ⟨w.heap.size + 1 + 1, 0, none⟩) (by show w.heap.size ≤ w.heap.size + 1 + 1; omega) (.slice none 0 0)).setCell (p := ⟨w.heap.size + 1 + 1, 1, none⟩) (by show w.heap.size ≤ w.heap.size + 1 + 1; omega) (.int .i64 1)) trivial)
              clear qr hB hb9
              go_wp2_with fail
              obtain ⟨h1, h2, h3⟩ := HE2.out
              clear HE2 f0 f1 z0 z1
              generalize (w9.setCell ⟨w.heap.size + 1 + 1, 0, none⟩ (.slice none 0 0)).setCell ⟨w.heap.size + 1 + 1, 1, none⟩ (.int .i64 1) = Z at *
              have e0 : Z.cell? ⟨w.heap.size + 1 + 1, 0, none⟩ = some (.slice none 0 0) := h1.cell 0
              have e1 : Z.cell? ⟨w.heap.size + 1 + 1, 1, none⟩ = some (.int .i64 1) := h1.cell 1
              exact bodyPost_ret (v := .agg #[.slice none 0 0, .int .i64 1]) (by simp [results, Try.results19, go_sem, e0, e1]) rfl ⟨⟨_, _, rfl, World.ownsRow_nil _ _ _ 9⟩, h2⟩
            · rw [k6] at HTg
              rw [k6] at hc
              cases k7 : inNow now
              · rw [k7] at HNw
                clear HLr  k1 k2 k3 k4 k5 k6 k7 hc
                obtain ⟨a, l, m, n, ii, t, u, b, c⟩ := r
                generalize rs.length = N at *
                unfold ribV rtV rtA at *
                simp only at HB HR HM HNx HIf HTg HNw ⊢
                obtain ⟨W, hW, q0, q1, q2, hB, hS, -⟩ := rows3 w [.slice p N cap] [.int .i64 a, .int .i64 l, .int .i64 m, .int .i64 n, .int .i64 ii, .int .i64 t, .int .i64 u, .int .i64 b, .bool c] [.slice none 0 0, .int .i64 0] 30 46 32
                have HW : Hid _ := hW
                have HQ : Hid _ := And.intro q0 (And.intro q1 (And.intro q2 hB))
                have x0 : W.cell? ⟨w.heap.size, 0, none⟩ = some (.slice p N cap) := q0.cell 0
                have y0 : W.cell? ⟨w.heap.size + 1, 0, none⟩ = some (.int .i64 a) := q1.cell 0
                have y1 : W.cell? ⟨w.heap.size + 1, 1, none⟩ = some (.int .i64 l) := q1.cell 1
                rw [hW] at x0 y0 y1
                clear hW q0 q1 q2 hB
                go_enter Try.func19, Try.ntmps19
                go_wp2_with fail
                rw [← HW.out]
                obtain ⟨q0, q1, q2, hB⟩ := HQ.out
                clear HQ x0 y0 y1
                refine (HB.out _ ((HX.out).below hB)).mono ?_
                rintro e w1 ⟨rfl, hb1⟩
                have q0 := q0.below hb1 (by omega)
                have q1 := q1.below hb1 (by omega)
                have q2 := q2.below hb1 (by omega)
                have hB := hB.trans (hb1.mono (by omega))
                have hs1 := hb1.size
                clear hb1
                clear HB HW
                have y0 : w1.cell? ⟨w.heap.size + 1, 0, none⟩ = some (.int .i64 a) := q1.cell 0
                have y1 : w1.cell? ⟨w.heap.size + 1, 1, none⟩ = some (.int .i64 l) := q1.cell 1
                go_wp2_with fail
                refine (HR.out _).mono ?_
                rintro e w2 ⟨rfl, hb2⟩
                have q0 := q0.below hb2 (by omega)
                have q1 := q1.below hb2 (by omega)
                have q2 := q2.below hb2 (by omega)
                have hB := hB.trans (hb2.mono (by omega))
                have hs2 := hb2.size
                clear hb2
                clear y0 y1
                clear HR
                have y2 : w2.cell? ⟨w.heap.size + 1, 2, none⟩ = some (.int .i64 m) := q1.cell 2
                go_wp2_with fail
                refine (HM.out _).mono ?_
                rintro e w3x ⟨rfl, rfl⟩
                clear y2
                clear HM
                have y3 : w2.cell? ⟨w.heap.size + 1, 3, none⟩ = some (.int .i64 n) := q1.cell 3
                go_wp2_with fail
                refine (HNx.out _).mono ?_
                rintro e w4x ⟨rfl, rfl⟩
                clear y3
                clear HNx
                have y4 : w2.cell? ⟨w.heap.size + 1, 4, none⟩ = some (.int .i64 ii) := q1.cell 4
                go_wp2_with fail
                refine (HIf.out _).mono ?_
                rintro e w5x ⟨rfl, rfl⟩
                clear y4
                clear HIf
                have y5 : w2.cell? ⟨w.heap.size + 1, 5, none⟩ = some (.int .i64 t) := q1.cell 5
                go_wp2_with fail
                refine (HTg.out _).mono ?_
                rintro e w6x ⟨rfl, rfl⟩
                clear y5
                clear HTg
                go_wp2_with fail
                refine (HNw.out _).mono ?_
                rintro e w7x ⟨rfl, rfl⟩
                clear HNw
                go_wp2_with fail
                refine (HIl.out 1 _).mono ?_
                rintro e w9 ⟨rfl, hb9⟩
                have qr := q2.below hb9 q2.lt
                have hB := hB.trans (hb9.mono hB.size)
                clear HIl q0 q1 q2
                have f0 : w9.frozen? ⟨w.heap.size + 1 + 1, 0, none⟩ = false := qr.frozen 0
                have f1 : w9.frozen? ⟨w.heap.size + 1 + 1, 1, none⟩ = false := qr.frozen 1
                have z0 : w9.cell? ⟨w.heap.size + 1 + 1, 0, none⟩ = some (.slice none 0 0) := qr.cell 0
                have z1 : w9.cell? ⟨w.heap.size + 1 + 1, 1, none⟩ = some (.int .i64 0) := qr.cell 1
                have HE2 : Hid _ := And.intro ((qr.set 0 (.slice none 0 0)).set 1 (.int .i64 1)) (And.intro ((hB.setCell (p := ⟨w.heap.size + 1 + 1, 0, none⟩) (by show w.heap.size ≤ w.heap.size + 1 + 1; omega) (.slice none 0 0)).setCell (p := ⟨w.heap.size + 1 + 1, 1, none⟩) (by show w.heap.size ≤ w.heap.size + 1 + 1; omega) (.int .i64 1)) trivial)
                clear qr hB hb9
                go_wp2_with fail
                obtain ⟨h1, h2, h3⟩ := HE2.out
                clear HE2 f0 f1 z0 z1
                generalize (w9.setCell ⟨w.heap.size + 1 + 1, 0, none⟩ (.slice none 0 0)).setCell ⟨w.heap.size + 1 + 1, 1, none⟩ (.int .i64 1) = Z at *
                have e0 : Z.cell? ⟨w.heap.size + 1 + 1, 0, none⟩ = some (.slice none 0 0) := h1.cell 0
                have e1 : Z.cell? ⟨w.heap.size + 1 + 1, 1, none⟩ = some (.int .i64 1) := h1.cell 1
                exact bodyPost_ret (v := .agg #[.slice none 0 0, .int .i64 1]) (by simp [results, Try.results19, go_sem, e0, e1]) rfl ⟨⟨_, _, rfl, World.ownsRow_nil _ _ _ 9⟩, h2⟩
              · rw [k7] at HNw
                rw [k7] at hc
                simp at hc
set_option maxRecDepth 100000 in
set_option maxHeartbeats 4000000 in
theorem specLearn_right (p : Option Addr) (cap : Nat) (rs : List Rt) (r : Rt) (now : Int) (w : World) (h : RtsIn w p rs) (hn : rs.length ≤ 100000000) (hc0 : p = none → cap = 0) (hcl : rs.length ≤ cap) (k1 : ribB rs = true) (k2 : rightB r.a r.l = true) (k3 : inMet r.m = true) (k4 : inNx r.n = true) (k5 : inIf r.i = true) (k6 : inTag r.t = true) (k7 : inNow now = true) :
    Calls Try.prog 19 #[ribV p rs.length cap, rtV r, .int .i64 now] w fun e w' => OutR w.heap.size (learnK rs r now).1 (learnK rs r now).2 e w' ∧ Below w.heap.size w w' := by
  have HB : Hid (∀ w, RtsIn w p rs → Calls Try.prog 36 #[.agg #[.slice p rs.length cap]] w fun e w' => e = .returned (.bool (ribB rs)) ∧ Below w.heap.size w w') := fun w h => specRib_any p cap rs w h hn
  have HR : Hid (∀ w, Calls Try.prog 37 #[.agg #[.int .i64 r.a, .int .i64 r.l]] w fun e w' => e = .returned (.bool (rightB r.a r.l)) ∧ Below w.heap.size w w') := specRight_any r.a r.l
  have HM : Hid (∀ w, Calls Try.prog 38 #[.int .i64 r.m, .int .i64 1, .int .i64 16] w fun e w' => e = .returned (.bool (inMet r.m)) ∧ w = w') := fun w => l03Is_any r.m 1 16 w
  have HNx : Hid (∀ w, Calls Try.prog 38 #[.int .i64 r.n, .int .i64 1, .int .i64 4294967295] w fun e w' => e = .returned (.bool (inNx r.n)) ∧ w = w') := fun w => l03Is_any r.n 1 4294967295 w
  have HIf : Hid (∀ w, Calls Try.prog 38 #[.int .i64 r.i, .int .i64 0, .int .i64 3] w fun e w' => e = .returned (.bool (inIf r.i)) ∧ w = w') := fun w => l03Is_any r.i 0 3 w
  have HTg : Hid (∀ w, Calls Try.prog 38 #[.int .i64 r.t, .int .i64 0, .int .i64 65535] w fun e w' => e = .returned (.bool (inTag r.t)) ∧ w = w') := fun w => l03Is_any r.t 0 65535 w
  have HNw : Hid (∀ w, Calls Try.prog 49 #[.int .i64 now] w fun e w' => e = .returned (.bool (inNow now)) ∧ w = w') := l06Now_any now
  have HIl : Hid (∀ c w, Calls Try.prog 39 #[.int .i64 c] w fun e w' => e = .returned (.agg #[.slice none 0 0, .int .i64 c]) ∧ Below w.heap.size w w') := l06Ill_any
  have HX : Hid (RtsIn w p rs) := h
  have hnw := k7
  simp only [inNow, Bool.and_eq_true, decide_eq_true_eq] at hnw
  have HLr : Hid (∀ w, RtsIn w p rs → Calls Try.prog 50 #[.agg #[.slice p rs.length cap], rtV r, .int .i64 now] w fun e w' => OutR w.heap.size (learnK rs r now).1 (learnK rs r now).2 e w' ∧ Below w.heap.size w w') := fun w h => l06Learn_any p cap rs r now w h hc0 hcl k1 hnw.1 hnw.2
  rw [k1] at HB
  rw [k2] at HR
  rw [k3] at HM
  rw [k4] at HNx
  rw [k5] at HIf
  rw [k6] at HTg
  rw [k7] at HNw
  clear h hn hc0 hcl k1 k2 k3 k4 k5 k6 k7 hnw HIl
  generalize learnK rs r now = RR at *
  obtain ⟨cc, qs⟩ := RR
  simp only at HLr ⊢
  unfold OutR at HLr ⊢
  obtain ⟨a, l, m, n, ii, t, u, b, c⟩ := r
  generalize rs.length = N at *
  unfold ribV rtV rtA at *
  simp only at HB HR HM HNx HIf HTg HNw HLr ⊢
  obtain ⟨W, hW, q0, q1, q2, hB, hS, -⟩ := rows3 w [.slice p N cap] [.int .i64 a, .int .i64 l, .int .i64 m, .int .i64 n, .int .i64 ii, .int .i64 t, .int .i64 u, .int .i64 b, .bool c] [.slice none 0 0, .int .i64 0] 30 46 32
  have HW : Hid _ := hW
  have HQ : Hid _ := And.intro q0 (And.intro q1 (And.intro q2 hB))
  have x0 : W.cell? ⟨w.heap.size, 0, none⟩ = some (.slice p N cap) := q0.cell 0
  have y0 : W.cell? ⟨w.heap.size + 1, 0, none⟩ = some (.int .i64 a) := q1.cell 0
  have y1 : W.cell? ⟨w.heap.size + 1, 1, none⟩ = some (.int .i64 l) := q1.cell 1
  rw [hW] at x0 y0 y1
  clear hW q0 q1 q2 hB
  go_enter Try.func19, Try.ntmps19
  go_wp2_with fail
  rw [← HW.out]
  obtain ⟨q0, q1, q2, hB⟩ := HQ.out
  clear HQ x0 y0 y1
  refine (HB.out _ ((HX.out).below hB)).mono ?_
  rintro e w1 ⟨rfl, hb1⟩
  have q0 := q0.below hb1 (by omega)
  have q1 := q1.below hb1 (by omega)
  have q2 := q2.below hb1 (by omega)
  have hB := hB.trans (hb1.mono (by omega))
  have hs1 := hb1.size
  clear hb1
  clear HB HW
  have y0 : w1.cell? ⟨w.heap.size + 1, 0, none⟩ = some (.int .i64 a) := q1.cell 0
  have y1 : w1.cell? ⟨w.heap.size + 1, 1, none⟩ = some (.int .i64 l) := q1.cell 1
  go_wp2_with fail
  refine (HR.out _).mono ?_
  rintro e w2 ⟨rfl, hb2⟩
  have q0 := q0.below hb2 (by omega)
  have q1 := q1.below hb2 (by omega)
  have q2 := q2.below hb2 (by omega)
  have hB := hB.trans (hb2.mono (by omega))
  have hs2 := hb2.size
  clear hb2
  clear y0 y1
  clear HR
  have y2 : w2.cell? ⟨w.heap.size + 1, 2, none⟩ = some (.int .i64 m) := q1.cell 2
  go_wp2_with fail
  refine (HM.out _).mono ?_
  rintro e w3x ⟨rfl, rfl⟩
  clear y2
  clear HM
  have y3 : w2.cell? ⟨w.heap.size + 1, 3, none⟩ = some (.int .i64 n) := q1.cell 3
  go_wp2_with fail
  refine (HNx.out _).mono ?_
  rintro e w4x ⟨rfl, rfl⟩
  clear y3
  clear HNx
  have y4 : w2.cell? ⟨w.heap.size + 1, 4, none⟩ = some (.int .i64 ii) := q1.cell 4
  go_wp2_with fail
  refine (HIf.out _).mono ?_
  rintro e w5x ⟨rfl, rfl⟩
  clear y4
  clear HIf
  have y5 : w2.cell? ⟨w.heap.size + 1, 5, none⟩ = some (.int .i64 t) := q1.cell 5
  go_wp2_with fail
  refine (HTg.out _).mono ?_
  rintro e w6x ⟨rfl, rfl⟩
  clear y5
  clear HTg
  go_wp2_with fail
  refine (HNw.out _).mono ?_
  rintro e w7x ⟨rfl, rfl⟩
  clear HNw
  have x0 : w2.cell? ⟨w.heap.size, 0, none⟩ = some (.slice p N cap) := q0.cell 0
  have y0 : w2.cell? ⟨w.heap.size + 1, 0, none⟩ = some (.int .i64 a) := q1.cell 0
  have y1 : w2.cell? ⟨w.heap.size + 1, 1, none⟩ = some (.int .i64 l) := q1.cell 1
  have y2 : w2.cell? ⟨w.heap.size + 1, 2, none⟩ = some (.int .i64 m) := q1.cell 2
  have y3 : w2.cell? ⟨w.heap.size + 1, 3, none⟩ = some (.int .i64 n) := q1.cell 3
  have y4 : w2.cell? ⟨w.heap.size + 1, 4, none⟩ = some (.int .i64 ii) := q1.cell 4
  have y5 : w2.cell? ⟨w.heap.size + 1, 5, none⟩ = some (.int .i64 t) := q1.cell 5
  have y6 : w2.cell? ⟨w.heap.size + 1, 6, none⟩ = some (.int .i64 u) := q1.cell 6
  have y7 : w2.cell? ⟨w.heap.size + 1, 7, none⟩ = some (.int .i64 b) := q1.cell 7
  have y8 : w2.cell? ⟨w.heap.size + 1, 8, none⟩ = some (.bool c) := q1.cell 8
  go_wp2_with fail
  refine (HLr.out _ ((HX.out).below hB)).mono ?_
  rintro e w9 ⟨⟨q, cq, rfl, ho⟩, hb9⟩
  have l2 := q2.lt
  have qr := q2.below hb9 q2.lt
  have hB := hB.trans (hb9.mono hB.size)
  clear HLr q0 q1 q2 x0 y0 y1 y2 y3 y4 y5 y6 y7 y8
  have f0 : w9.frozen? ⟨w.heap.size + 1 + 1, 0, none⟩ = false := qr.frozen 0
  have f1 : w9.frozen? ⟨w.heap.size + 1 + 1, 1, none⟩ = false := qr.frozen 1
  have z0 : w9.cell? ⟨w.heap.size + 1 + 1, 0, none⟩ = some (.slice none 0 0) := qr.cell 0
  have z1 : w9.cell? ⟨w.heap.size + 1 + 1, 1, none⟩ = some (.int .i64 0) := qr.cell 1
  have HE2 : Hid _ := And.intro ((qr.set 0 (.slice q qs.length cq)).set 1 (.int .i64 cc)) (And.intro ((hB.setCell (p := ⟨w.heap.size + 1 + 1, 0, none⟩) (by show w.heap.size ≤ w.heap.size + 1 + 1; omega) (.slice q qs.length cq)).setCell (p := ⟨w.heap.size + 1 + 1, 1, none⟩) (by show w.heap.size ≤ w.heap.size + 1 + 1; omega) (.int .i64 cc)) (ownR_set (base' := w.heap.size) (ownR_set (base' := w.heap.size + 1 + 1 + 1) ho ⟨w.heap.size + 1 + 1, 0, none⟩ (by show w.heap.size + 1 + 1 < _; omega) (.slice q qs.length cq) (by omega)) ⟨w.heap.size + 1 + 1, 1, none⟩ (by show w.heap.size + 1 + 1 < _; omega) (.int .i64 cc) (by omega)))
  clear qr hB ho hb9
  go_wp2_with fail
  obtain ⟨h1, h2, h3⟩ := HE2.out
  clear HE2 f0 f1 z0 z1
  generalize (w9.setCell ⟨w.heap.size + 1 + 1, 0, none⟩ (.slice q qs.length cq)).setCell ⟨w.heap.size + 1 + 1, 1, none⟩ (.int .i64 cc) = Z at *
  have e0 : Z.cell? ⟨w.heap.size + 1 + 1, 0, none⟩ = some (.slice q qs.length cq) := h1.cell 0
  have e1 : Z.cell? ⟨w.heap.size + 1 + 1, 1, none⟩ = some (.int .i64 cc) := h1.cell 1
  exact bodyPost_ret (v := .agg #[.slice q qs.length cq, .int .i64 cc]) (by simp [results, Try.results19, go_sem, e0, e1]) rfl ⟨⟨_, _, rfl, h3⟩, h2⟩
theorem specLearn_any (p : Option Addr) (cap : Nat) (rs : List Rt) (r : Rt) (now : Int) (w : World) (h : RtsIn w p rs) (hc0 : p = none → cap = 0) (hcl : rs.length ≤ cap) (hn : rs.length ≤ 100000000) :
    Calls Try.prog 19 #[ribV p rs.length cap, rtV r, .int .i64 now] w fun e w' => OutR w.heap.size (learnO rs r now).1 (learnO rs r now).2 e w' ∧ Below w.heap.size w w' := by
  unfold learnO
  rw [told_all]
  by_cases hc : (ribB rs && (rightB r.a r.l && (inMet r.m && (inNx r.n && (inIf r.i && (inTag r.t && inNow now)))))) = true
  · rw [if_pos hc]
    simp only [Bool.and_eq_true] at hc
    obtain ⟨k1, k2, k3, k4, k5, k6, k7⟩ := hc
    exact specLearn_right p cap rs r now w h hn hc0 hcl k1 k2 k3 k4 k5 k6 k7
  · rw [if_neg hc]
    exact specLearn_wrong p cap rs r now w h hn (by simpa using hc)
end Go.Proofs.Ytaledidomgelcaa
/- Routes that are told just now, and routes that go: by the program. -/
namespace Go.Proofs.Ytaledidomgelcaa
open Go.RowKit Go.Sort

theorem two_new (w : World) (a b : Obj) : Below w.heap.size w ((w.alloc a).alloc b) := ((ent_new0 w a).alloc (by simp) b)
set_option maxRecDepth 100000 in
theorem outOfReach_any (r : Rt) (now : Int) (w : World) (h0 : 0 ≤ now) (h1 : now ≤ 999900) : Calls Try.prog 63 #[rtV r, .int .i64 now] w fun e w' => e = .returned (rtV (reachR r now)) ∧ Below w.heap.size w w' := by
  obtain ⟨A, L, M, O, I, T, U, E, C⟩ := r
  unfold rtV rtA reachR deadR
  simp only
  by_cases hm : M = 16
  · subst hm
    rw [if_pos rfl]
    simp only
    go_enter Try.func63, Try.ntmps63
    go_wp2_with fail
    exact bodyPost_ret (v := .agg #[.int .i64 A, .int .i64 L, .int .i64 16, .int .i64 O, .int .i64 I, .int .i64 T, .int .i64 U, .int .i64 E, .bool C]) (by simp [results, Try.results63, go_sem]) rfl ⟨rfl, two_new _ _ _⟩
  · rw [if_neg hm]
    simp only
    go_enter Try.func63, Try.ntmps63
    go_wp2_with fail
    exact bodyPost_ret (v := .agg #[.int .i64 A, .int .i64 L, .int .i64 16, .int .i64 O, .int .i64 I, .int .i64 T, .int .i64 0, .int .i64 (now + 4), .bool true]) (by simp [results, Try.results63, go_sem]) rfl ⟨rfl, two_new _ _ _⟩
set_option maxRecDepth 100000 in
theorem isDue_any (a now : Int) (w : World) : Calls Try.prog 60 #[.int .i64 a, .int .i64 now] w fun e w' => e = .returned (.bool (dueB a now)) ∧ w = w' := by
  unfold dueB
  by_cases h1 : 0 < a
  · by_cases h2 : a ≤ now
    · go_enter Try.func60, Try.ntmps60
      go_wp2
      go_ret
      exact ⟨ret_bool (by simp [h1, h2]), rfl⟩
    · go_enter Try.func60, Try.ntmps60
      go_wp2
      go_ret
      exact ⟨ret_bool (by simp; omega), rfl⟩
  · go_enter Try.func60, Try.ntmps60
    go_wp2
    go_ret
    exact ⟨ret_bool (by simp; omega), rfl⟩
set_option maxRecDepth 100000 in
theorem isNow_any (now : Int) (w : World) : Calls Try.prog 53 #[.int .i64 now] w fun e w' => e = .returned (.bool (inNow now)) ∧ w = w' := by
  unfold inNow
  by_cases h1 : 0 ≤ now
  · by_cases h2 : now ≤ 999900
    · go_enter Try.func53, Try.ntmps53
      go_wp2
      go_ret
      exact ⟨ret_bool (by simp [h1, h2]), rfl⟩
    · go_enter Try.func53, Try.ntmps53
      go_wp2
      go_ret
      exact ⟨ret_bool (by simp; omega), rfl⟩
  · go_enter Try.func53, Try.ntmps53
    go_wp2
    go_ret
    exact ⟨ret_bool (by simp; omega), rfl⟩
end Go.Proofs.Ytaledidomgelcaa
/- Routes that are told: by the program. (Written by gen_learn.py.) -/
namespace Go.Proofs.Ytaledidomgelcaa
open Go.RowKit Go.Sort

theorem two_newL (w : World) (a b : Obj) : Below w.heap.size w ((w.alloc a).alloc b) := ((ent_new0 w a).alloc (by simp) b)
set_option maxRecDepth 100000 in
theorem fresh_any (r : Rt) (now : Int) (w : World) (h0 : 0 ≤ now) (h1 : now ≤ 999900) : Calls Try.prog 57 #[rtV r, .int .i64 now] w fun e w' => e = .returned (rtV (freshR r now)) ∧ Below w.heap.size w w' := by
  obtain ⟨a, l, m, n, ii, t, u, b, c⟩ := r
  unfold rtV rtA freshR
  simp only
  go_enter Try.func57, Try.ntmps57
  go_wp2_with fail
  exact bodyPost_ret (v := .agg #[.int .i64 a, .int .i64 l, .int .i64 m, .int .i64 n, .int .i64 ii, .int .i64 t, .int .i64 (now + 6), .int .i64 0, .bool true]) (by simp [results, Try.results57, go_sem]) rfl ⟨rfl, two_newL _ _ _⟩
set_option maxRecDepth 100000 in
set_option maxHeartbeats 4000000 in
theorem again_any (old r : Rt) (now : Int) (w : World) (h0 : 0 ≤ now) (h1 : now ≤ 999900) : Calls Try.prog 88 #[rtV old, rtV r, .int .i64 now] w fun e w' => e = .returned (rtV (againR old r now)) ∧ Below w.heap.size w w' := by
  have HF : Hid (∀ w, Calls Try.prog 57 #[rtV r, .int .i64 now] w fun e w' => e = .returned (rtV (freshR r now)) ∧ Below w.heap.size w w') := fun w => fresh_any r now w h0 h1
  have HD : Hid (∀ w, Calls Try.prog 63 #[rtV old, .int .i64 now] w fun e w' => e = .returned (rtV (reachR old now)) ∧ Below w.heap.size w w') := fun w => outOfReach_any old now w h0 h1
  clear h0 h1
  unfold againR
  by_cases hm : r.m = 16
  · rw [if_pos hm]
    clear HF
    generalize reachR old now = RR at *
    obtain ⟨A, L, M, O, I, T, U, E, C⟩ := old
    obtain ⟨a, l, m, n, ii, t, u, b, c⟩ := r
    obtain ⟨V0, V1, V2, V3, V4, V5, V6, V7, V8⟩ := RR
    unfold rtV rtA at *
    simp only at HD hm ⊢
    subst hm
    obtain ⟨W, hW, q0, q1, q2, hB, hS, -⟩ := rows3 w [.int .i64 A, .int .i64 L, .int .i64 M, .int .i64 O, .int .i64 I, .int .i64 T, .int .i64 U, .int .i64 E, .bool C] [.int .i64 a, .int .i64 l, .int .i64 16, .int .i64 n, .int .i64 ii, .int .i64 t, .int .i64 u, .int .i64 b, .bool c] [.int .i64 0, .int .i64 0, .int .i64 0, .int .i64 0, .int .i64 0, .int .i64 0, .int .i64 0, .int .i64 0, .bool false] 46 46 46
    have HW : Hid _ := hW
    have HQ : Hid _ := And.intro q0 (And.intro q1 (And.intro q2 hB))
    have x0 : W.cell? ⟨w.heap.size, 0, none⟩ = some (.int .i64 A) := q0.cell 0
    have x1 : W.cell? ⟨w.heap.size, 1, none⟩ = some (.int .i64 L) := q0.cell 1
    have x2 : W.cell? ⟨w.heap.size, 2, none⟩ = some (.int .i64 M) := q0.cell 2
    have x3 : W.cell? ⟨w.heap.size, 3, none⟩ = some (.int .i64 O) := q0.cell 3
    have x4 : W.cell? ⟨w.heap.size, 4, none⟩ = some (.int .i64 I) := q0.cell 4
    have x5 : W.cell? ⟨w.heap.size, 5, none⟩ = some (.int .i64 T) := q0.cell 5
    have x6 : W.cell? ⟨w.heap.size, 6, none⟩ = some (.int .i64 U) := q0.cell 6
    have x7 : W.cell? ⟨w.heap.size, 7, none⟩ = some (.int .i64 E) := q0.cell 7
    have x8 : W.cell? ⟨w.heap.size, 8, none⟩ = some (.bool C) := q0.cell 8
    have y0 : W.cell? ⟨w.heap.size + 1, 0, none⟩ = some (.int .i64 a) := q1.cell 0
    have y1 : W.cell? ⟨w.heap.size + 1, 1, none⟩ = some (.int .i64 l) := q1.cell 1
    have y2 : W.cell? ⟨w.heap.size + 1, 2, none⟩ = some (.int .i64 16) := q1.cell 2
    have y3 : W.cell? ⟨w.heap.size + 1, 3, none⟩ = some (.int .i64 n) := q1.cell 3
    have y4 : W.cell? ⟨w.heap.size + 1, 4, none⟩ = some (.int .i64 ii) := q1.cell 4
    have y5 : W.cell? ⟨w.heap.size + 1, 5, none⟩ = some (.int .i64 t) := q1.cell 5
    have y6 : W.cell? ⟨w.heap.size + 1, 6, none⟩ = some (.int .i64 u) := q1.cell 6
    have y7 : W.cell? ⟨w.heap.size + 1, 7, none⟩ = some (.int .i64 b) := q1.cell 7
    have y8 : W.cell? ⟨w.heap.size + 1, 8, none⟩ = some (.bool c) := q1.cell 8
    rw [hW] at x0 x1 x2 x3 x4 x5 x6 x7 x8 y0 y1 y2 y3 y4 y5 y6 y7 y8
    clear hW q0 q1 q2 hB
    go_enter Try.func88, Try.ntmps88
    go_wp2_with fail
    rw [← HW.out]
    obtain ⟨q0, q1, q2, hB⟩ := HQ.out
    clear HQ x0 x1 x2 x3 x4 x5 x6 x7 x8 y0 y1 y2 y3 y4 y5 y6 y7 y8
    refine (HD.out _).mono ?_
    rintro e w1 ⟨rfl, hb1⟩
    have q0 := q0.below hb1 (by omega)
    have q1 := q1.below hb1 (by omega)
    have q2 := q2.below hb1 (by omega)
    have hB := hB.trans (hb1.mono (by omega))
    have hs1 := hb1.size
    clear hb1
    have z0 : w1.cell? ⟨w.heap.size + 1 + 1, 0, none⟩ = some (.int .i64 0) := q2.cell 0
    have z1 : w1.cell? ⟨w.heap.size + 1 + 1, 1, none⟩ = some (.int .i64 0) := q2.cell 1
    have z2 : w1.cell? ⟨w.heap.size + 1 + 1, 2, none⟩ = some (.int .i64 0) := q2.cell 2
    have z3 : w1.cell? ⟨w.heap.size + 1 + 1, 3, none⟩ = some (.int .i64 0) := q2.cell 3
    have z4 : w1.cell? ⟨w.heap.size + 1 + 1, 4, none⟩ = some (.int .i64 0) := q2.cell 4
    have z5 : w1.cell? ⟨w.heap.size + 1 + 1, 5, none⟩ = some (.int .i64 0) := q2.cell 5
    have z6 : w1.cell? ⟨w.heap.size + 1 + 1, 6, none⟩ = some (.int .i64 0) := q2.cell 6
    have z7 : w1.cell? ⟨w.heap.size + 1 + 1, 7, none⟩ = some (.int .i64 0) := q2.cell 7
    have z8 : w1.cell? ⟨w.heap.size + 1 + 1, 8, none⟩ = some (.bool false) := q2.cell 8
    have f0 : w1.frozen? ⟨w.heap.size + 1 + 1, 0, none⟩ = false := q2.frozen 0
    have f1 : w1.frozen? ⟨w.heap.size + 1 + 1, 1, none⟩ = false := q2.frozen 1
    have f2 : w1.frozen? ⟨w.heap.size + 1 + 1, 2, none⟩ = false := q2.frozen 2
    have f3 : w1.frozen? ⟨w.heap.size + 1 + 1, 3, none⟩ = false := q2.frozen 3
    have f4 : w1.frozen? ⟨w.heap.size + 1 + 1, 4, none⟩ = false := q2.frozen 4
    have f5 : w1.frozen? ⟨w.heap.size + 1 + 1, 5, none⟩ = false := q2.frozen 5
    have f6 : w1.frozen? ⟨w.heap.size + 1 + 1, 6, none⟩ = false := q2.frozen 6
    have f7 : w1.frozen? ⟨w.heap.size + 1 + 1, 7, none⟩ = false := q2.frozen 7
    have f8 : w1.frozen? ⟨w.heap.size + 1 + 1, 8, none⟩ = false := q2.frozen 8
    have HE : Hid _ := And.intro (nine0_row q2 (.int .i64 V0) (.int .i64 V1) (.int .i64 V2) (.int .i64 V3) (.int .i64 V4) (.int .i64 V5) (.int .i64 V6) (.int .i64 V7) (.bool V8)) (nine0_below hB (w.heap.size + 1 + 1) (by omega) (.int .i64 V0) (.int .i64 V1) (.int .i64 V2) (.int .i64 V3) (.int .i64 V4) (.int .i64 V5) (.int .i64 V6) (.int .i64 V7) (.bool V8))
    clear q2 hB q0 q1 HD HW
    go_wp2_with fail
    have hF := HE.out
    clear HE z0 z1 z2 z3 z4 z5 z6 z7 z8 f0 f1 f2 f3 f4 f5 f6 f7 f8
    unfold nine0 at hF
    generalize (((((((((w1.setCell ⟨w.heap.size + 1 + 1, 0, none⟩ (.int .i64 V0)).setCell ⟨w.heap.size + 1 + 1, 1, none⟩ (.int .i64 V1)).setCell ⟨w.heap.size + 1 + 1, 2, none⟩ (.int .i64 V2)).setCell ⟨w.heap.size + 1 + 1, 3, none⟩ (.int .i64 V3)).setCell ⟨w.heap.size + 1 + 1, 4, none⟩ (.int .i64 V4)).setCell ⟨w.heap.size + 1 + 1, 5, none⟩ (.int .i64 V5)).setCell ⟨w.heap.size + 1 + 1, 6, none⟩ (.int .i64 V6)).setCell ⟨w.heap.size + 1 + 1, 7, none⟩ (.int .i64 V7)).setCell ⟨w.heap.size + 1 + 1, 8, none⟩ (.bool V8)) = Z at *
    obtain ⟨h1, h2⟩ := hF
    have e0 : Z.cell? ⟨w.heap.size + 1 + 1, 0, none⟩ = some (.int .i64 V0) := h1.cell 0
    have e1 : Z.cell? ⟨w.heap.size + 1 + 1, 1, none⟩ = some (.int .i64 V1) := h1.cell 1
    have e2 : Z.cell? ⟨w.heap.size + 1 + 1, 2, none⟩ = some (.int .i64 V2) := h1.cell 2
    have e3 : Z.cell? ⟨w.heap.size + 1 + 1, 3, none⟩ = some (.int .i64 V3) := h1.cell 3
    have e4 : Z.cell? ⟨w.heap.size + 1 + 1, 4, none⟩ = some (.int .i64 V4) := h1.cell 4
    have e5 : Z.cell? ⟨w.heap.size + 1 + 1, 5, none⟩ = some (.int .i64 V5) := h1.cell 5
    have e6 : Z.cell? ⟨w.heap.size + 1 + 1, 6, none⟩ = some (.int .i64 V6) := h1.cell 6
    have e7 : Z.cell? ⟨w.heap.size + 1 + 1, 7, none⟩ = some (.int .i64 V7) := h1.cell 7
    have e8 : Z.cell? ⟨w.heap.size + 1 + 1, 8, none⟩ = some (.bool V8) := h1.cell 8
    exact bodyPost_ret (v := .agg #[.int .i64 V0, .int .i64 V1, .int .i64 V2, .int .i64 V3, .int .i64 V4, .int .i64 V5, .int .i64 V6, .int .i64 V7, .bool V8]) (by simp [results, Try.results88, go_sem, e0, e1, e2, e3, e4, e5, e6, e7, e8]) rfl ⟨rfl, h2⟩
  · rw [if_neg hm]
    clear HD
    have d16 : decide (r.m = 16) = false := by simpa using hm
    unfold freshR at HF
    have hmk : markB old r = (old.c || (old.m != r.m || old.t != r.t)) := rfl
    generalize markB old r = MB at *
    obtain ⟨A, L, M, O, I, T, U, E, C⟩ := old
    obtain ⟨a, l, m, n, ii, t, u, b, c⟩ := r
    unfold rtV rtA at *
    simp only at HF hm hmk d16 ⊢
    have HMK : Hid _ := hmk
    clear hmk
    obtain ⟨W, hW, q0, q1, q2, hB, hS, -⟩ := rows3 w [.int .i64 A, .int .i64 L, .int .i64 M, .int .i64 O, .int .i64 I, .int .i64 T, .int .i64 U, .int .i64 E, .bool C] [.int .i64 a, .int .i64 l, .int .i64 m, .int .i64 n, .int .i64 ii, .int .i64 t, .int .i64 u, .int .i64 b, .bool c] [.int .i64 0, .int .i64 0, .int .i64 0, .int .i64 0, .int .i64 0, .int .i64 0, .int .i64 0, .int .i64 0, .bool false] 46 46 46
    have HW : Hid _ := hW
    have HQ : Hid _ := And.intro q0 (And.intro q1 (And.intro q2 hB))
    have x0 : W.cell? ⟨w.heap.size, 0, none⟩ = some (.int .i64 A) := q0.cell 0
    have x1 : W.cell? ⟨w.heap.size, 1, none⟩ = some (.int .i64 L) := q0.cell 1
    have x2 : W.cell? ⟨w.heap.size, 2, none⟩ = some (.int .i64 M) := q0.cell 2
    have x3 : W.cell? ⟨w.heap.size, 3, none⟩ = some (.int .i64 O) := q0.cell 3
    have x4 : W.cell? ⟨w.heap.size, 4, none⟩ = some (.int .i64 I) := q0.cell 4
    have x5 : W.cell? ⟨w.heap.size, 5, none⟩ = some (.int .i64 T) := q0.cell 5
    have x6 : W.cell? ⟨w.heap.size, 6, none⟩ = some (.int .i64 U) := q0.cell 6
    have x7 : W.cell? ⟨w.heap.size, 7, none⟩ = some (.int .i64 E) := q0.cell 7
    have x8 : W.cell? ⟨w.heap.size, 8, none⟩ = some (.bool C) := q0.cell 8
    have y0 : W.cell? ⟨w.heap.size + 1, 0, none⟩ = some (.int .i64 a) := q1.cell 0
    have y1 : W.cell? ⟨w.heap.size + 1, 1, none⟩ = some (.int .i64 l) := q1.cell 1
    have y2 : W.cell? ⟨w.heap.size + 1, 2, none⟩ = some (.int .i64 m) := q1.cell 2
    have y3 : W.cell? ⟨w.heap.size + 1, 3, none⟩ = some (.int .i64 n) := q1.cell 3
    have y4 : W.cell? ⟨w.heap.size + 1, 4, none⟩ = some (.int .i64 ii) := q1.cell 4
    have y5 : W.cell? ⟨w.heap.size + 1, 5, none⟩ = some (.int .i64 t) := q1.cell 5
    have y6 : W.cell? ⟨w.heap.size + 1, 6, none⟩ = some (.int .i64 u) := q1.cell 6
    have y7 : W.cell? ⟨w.heap.size + 1, 7, none⟩ = some (.int .i64 b) := q1.cell 7
    have y8 : W.cell? ⟨w.heap.size + 1, 8, none⟩ = some (.bool c) := q1.cell 8
    rw [hW] at x0 x1 x2 x3 x4 x5 x6 x7 x8 y0 y1 y2 y3 y4 y5 y6 y7 y8
    clear hW q0 q1 q2 hB
    go_enter Try.func88, Try.ntmps88
    go_wp2_with fail
    rw [← HW.out]
    obtain ⟨q0, q1, q2, hB⟩ := HQ.out
    clear HQ x0 x1 x2 x3 x4 x5 x6 x7 x8 y0 y1 y2 y3 y4 y5 y6 y7 y8
    refine (HF.out _).mono ?_
    rintro e w1 ⟨rfl, hb1⟩
    have q0 := q0.below hb1 (by omega)
    have q1 := q1.below hb1 (by omega)
    have q2 := q2.below hb1 (by omega)
    have hB := hB.trans (hb1.mono (by omega))
    have hs1 := hb1.size
    clear hb1
    have hMB := HMK.out
    clear HMK
    cases C
    · by_cases hM : M = m
      · subst hM
        by_cases hT : T = t
        · subst hT
          obtain rfl : MB = false := by rw [hMB]; simp
          have d1 : (M != M) = false := by simp
          have d2 : (T != T) = false := by simp
          clear hMB
          have p0 := q0.alloc (.cells #[.int .i64 a, .int .i64 l, .int .i64 M, .int .i64 n, .int .i64 ii, .int .i64 T, .int .i64 (now + 6), .int .i64 0, .bool true] 46)
          have p1 := q1.alloc (.cells #[.int .i64 a, .int .i64 l, .int .i64 M, .int .i64 n, .int .i64 ii, .int .i64 T, .int .i64 (now + 6), .int .i64 0, .bool true] 46)
          have q2 := q2.alloc (.cells #[.int .i64 a, .int .i64 l, .int .i64 M, .int .i64 n, .int .i64 ii, .int .i64 T, .int .i64 (now + 6), .int .i64 0, .bool false] 46)
          have hB := hB.alloc hB.size (.cells #[.int .i64 a, .int .i64 l, .int .i64 M, .int .i64 n, .int .i64 ii, .int .i64 T, .int .i64 (now + 6), .int .i64 0, .bool false] 46)
          have x2 : (w1.alloc (.cells #[.int .i64 a, .int .i64 l, .int .i64 M, .int .i64 n, .int .i64 ii, .int .i64 T, .int .i64 (now + 6), .int .i64 0, .bool true] 46)).cell? ⟨w.heap.size, 2, none⟩ = some (.int .i64 M) := p0.cell 2
          have x5 : (w1.alloc (.cells #[.int .i64 a, .int .i64 l, .int .i64 M, .int .i64 n, .int .i64 ii, .int .i64 T, .int .i64 (now + 6), .int .i64 0, .bool true] 46)).cell? ⟨w.heap.size, 5, none⟩ = some (.int .i64 T) := p0.cell 5
          have x8 : (w1.alloc (.cells #[.int .i64 a, .int .i64 l, .int .i64 M, .int .i64 n, .int .i64 ii, .int .i64 T, .int .i64 (now + 6), .int .i64 0, .bool true] 46)).cell? ⟨w.heap.size, 8, none⟩ = some (.bool false) := p0.cell 8
          have y2 : (w1.alloc (.cells #[.int .i64 a, .int .i64 l, .int .i64 M, .int .i64 n, .int .i64 ii, .int .i64 T, .int .i64 (now + 6), .int .i64 0, .bool true] 46)).cell? ⟨w.heap.size + 1, 2, none⟩ = some (.int .i64 M) := p1.cell 2
          have y5 : (w1.alloc (.cells #[.int .i64 a, .int .i64 l, .int .i64 M, .int .i64 n, .int .i64 ii, .int .i64 T, .int .i64 (now + 6), .int .i64 0, .bool true] 46)).cell? ⟨w.heap.size + 1, 5, none⟩ = some (.int .i64 T) := p1.cell 5
          clear p0 p1
          have z0 : (w1.alloc (.cells #[.int .i64 a, .int .i64 l, .int .i64 M, .int .i64 n, .int .i64 ii, .int .i64 T, .int .i64 (now + 6), .int .i64 0, .bool false] 46)).cell? ⟨w.heap.size + 1 + 1, 0, none⟩ = some (.int .i64 0) := q2.cell 0
          have z1 : (w1.alloc (.cells #[.int .i64 a, .int .i64 l, .int .i64 M, .int .i64 n, .int .i64 ii, .int .i64 T, .int .i64 (now + 6), .int .i64 0, .bool false] 46)).cell? ⟨w.heap.size + 1 + 1, 1, none⟩ = some (.int .i64 0) := q2.cell 1
          have z2 : (w1.alloc (.cells #[.int .i64 a, .int .i64 l, .int .i64 M, .int .i64 n, .int .i64 ii, .int .i64 T, .int .i64 (now + 6), .int .i64 0, .bool false] 46)).cell? ⟨w.heap.size + 1 + 1, 2, none⟩ = some (.int .i64 0) := q2.cell 2
          have z3 : (w1.alloc (.cells #[.int .i64 a, .int .i64 l, .int .i64 M, .int .i64 n, .int .i64 ii, .int .i64 T, .int .i64 (now + 6), .int .i64 0, .bool false] 46)).cell? ⟨w.heap.size + 1 + 1, 3, none⟩ = some (.int .i64 0) := q2.cell 3
          have z4 : (w1.alloc (.cells #[.int .i64 a, .int .i64 l, .int .i64 M, .int .i64 n, .int .i64 ii, .int .i64 T, .int .i64 (now + 6), .int .i64 0, .bool false] 46)).cell? ⟨w.heap.size + 1 + 1, 4, none⟩ = some (.int .i64 0) := q2.cell 4
          have z5 : (w1.alloc (.cells #[.int .i64 a, .int .i64 l, .int .i64 M, .int .i64 n, .int .i64 ii, .int .i64 T, .int .i64 (now + 6), .int .i64 0, .bool false] 46)).cell? ⟨w.heap.size + 1 + 1, 5, none⟩ = some (.int .i64 0) := q2.cell 5
          have z6 : (w1.alloc (.cells #[.int .i64 a, .int .i64 l, .int .i64 M, .int .i64 n, .int .i64 ii, .int .i64 T, .int .i64 (now + 6), .int .i64 0, .bool false] 46)).cell? ⟨w.heap.size + 1 + 1, 6, none⟩ = some (.int .i64 0) := q2.cell 6
          have z7 : (w1.alloc (.cells #[.int .i64 a, .int .i64 l, .int .i64 M, .int .i64 n, .int .i64 ii, .int .i64 T, .int .i64 (now + 6), .int .i64 0, .bool false] 46)).cell? ⟨w.heap.size + 1 + 1, 7, none⟩ = some (.int .i64 0) := q2.cell 7
          have z8 : (w1.alloc (.cells #[.int .i64 a, .int .i64 l, .int .i64 M, .int .i64 n, .int .i64 ii, .int .i64 T, .int .i64 (now + 6), .int .i64 0, .bool false] 46)).cell? ⟨w.heap.size + 1 + 1, 8, none⟩ = some (.bool false) := q2.cell 8
          have f0 : (w1.alloc (.cells #[.int .i64 a, .int .i64 l, .int .i64 M, .int .i64 n, .int .i64 ii, .int .i64 T, .int .i64 (now + 6), .int .i64 0, .bool false] 46)).frozen? ⟨w.heap.size + 1 + 1, 0, none⟩ = false := q2.frozen 0
          have f1 : (w1.alloc (.cells #[.int .i64 a, .int .i64 l, .int .i64 M, .int .i64 n, .int .i64 ii, .int .i64 T, .int .i64 (now + 6), .int .i64 0, .bool false] 46)).frozen? ⟨w.heap.size + 1 + 1, 1, none⟩ = false := q2.frozen 1
          have f2 : (w1.alloc (.cells #[.int .i64 a, .int .i64 l, .int .i64 M, .int .i64 n, .int .i64 ii, .int .i64 T, .int .i64 (now + 6), .int .i64 0, .bool false] 46)).frozen? ⟨w.heap.size + 1 + 1, 2, none⟩ = false := q2.frozen 2
          have f3 : (w1.alloc (.cells #[.int .i64 a, .int .i64 l, .int .i64 M, .int .i64 n, .int .i64 ii, .int .i64 T, .int .i64 (now + 6), .int .i64 0, .bool false] 46)).frozen? ⟨w.heap.size + 1 + 1, 3, none⟩ = false := q2.frozen 3
          have f4 : (w1.alloc (.cells #[.int .i64 a, .int .i64 l, .int .i64 M, .int .i64 n, .int .i64 ii, .int .i64 T, .int .i64 (now + 6), .int .i64 0, .bool false] 46)).frozen? ⟨w.heap.size + 1 + 1, 4, none⟩ = false := q2.frozen 4
          have f5 : (w1.alloc (.cells #[.int .i64 a, .int .i64 l, .int .i64 M, .int .i64 n, .int .i64 ii, .int .i64 T, .int .i64 (now + 6), .int .i64 0, .bool false] 46)).frozen? ⟨w.heap.size + 1 + 1, 5, none⟩ = false := q2.frozen 5
          have f6 : (w1.alloc (.cells #[.int .i64 a, .int .i64 l, .int .i64 M, .int .i64 n, .int .i64 ii, .int .i64 T, .int .i64 (now + 6), .int .i64 0, .bool false] 46)).frozen? ⟨w.heap.size + 1 + 1, 6, none⟩ = false := q2.frozen 6
          have f7 : (w1.alloc (.cells #[.int .i64 a, .int .i64 l, .int .i64 M, .int .i64 n, .int .i64 ii, .int .i64 T, .int .i64 (now + 6), .int .i64 0, .bool false] 46)).frozen? ⟨w.heap.size + 1 + 1, 7, none⟩ = false := q2.frozen 7
          have f8 : (w1.alloc (.cells #[.int .i64 a, .int .i64 l, .int .i64 M, .int .i64 n, .int .i64 ii, .int .i64 T, .int .i64 (now + 6), .int .i64 0, .bool false] 46)).frozen? ⟨w.heap.size + 1 + 1, 8, none⟩ = false := q2.frozen 8
          have HE : Hid _ := And.intro (nine0_row q2 (.int .i64 a) (.int .i64 l) (.int .i64 M) (.int .i64 n) (.int .i64 ii) (.int .i64 T) (.int .i64 (now + 6)) (.int .i64 0) (.bool false)) (nine0_below hB (w.heap.size + 1 + 1) (by omega) (.int .i64 a) (.int .i64 l) (.int .i64 M) (.int .i64 n) (.int .i64 ii) (.int .i64 T) (.int .i64 (now + 6)) (.int .i64 0) (.bool false))
          clear q2 hB q0 q1 HW HF
          go_wp2_with fail
          have hF := HE.out
          clear HE z0 z1 z2 z3 z4 z5 z6 z7 z8 f0 f1 f2 f3 f4 f5 f6 f7 f8
          unfold nine0 at hF
          generalize ((((((((((w1.alloc (.cells #[.int .i64 a, .int .i64 l, .int .i64 M, .int .i64 n, .int .i64 ii, .int .i64 T, .int .i64 (now + 6), .int .i64 0, .bool false] 46)).setCell ⟨w.heap.size + 1 + 1, 0, none⟩ (.int .i64 a)).setCell ⟨w.heap.size + 1 + 1, 1, none⟩ (.int .i64 l)).setCell ⟨w.heap.size + 1 + 1, 2, none⟩ (.int .i64 M)).setCell ⟨w.heap.size + 1 + 1, 3, none⟩ (.int .i64 n)).setCell ⟨w.heap.size + 1 + 1, 4, none⟩ (.int .i64 ii)).setCell ⟨w.heap.size + 1 + 1, 5, none⟩ (.int .i64 T)).setCell ⟨w.heap.size + 1 + 1, 6, none⟩ (.int .i64 (now + 6))).setCell ⟨w.heap.size + 1 + 1, 7, none⟩ (.int .i64 0)).setCell ⟨w.heap.size + 1 + 1, 8, none⟩ (.bool false)) = Z at *
          obtain ⟨h1, h2⟩ := hF
          have e0 : Z.cell? ⟨w.heap.size + 1 + 1, 0, none⟩ = some (.int .i64 a) := h1.cell 0
          have e1 : Z.cell? ⟨w.heap.size + 1 + 1, 1, none⟩ = some (.int .i64 l) := h1.cell 1
          have e2 : Z.cell? ⟨w.heap.size + 1 + 1, 2, none⟩ = some (.int .i64 M) := h1.cell 2
          have e3 : Z.cell? ⟨w.heap.size + 1 + 1, 3, none⟩ = some (.int .i64 n) := h1.cell 3
          have e4 : Z.cell? ⟨w.heap.size + 1 + 1, 4, none⟩ = some (.int .i64 ii) := h1.cell 4
          have e5 : Z.cell? ⟨w.heap.size + 1 + 1, 5, none⟩ = some (.int .i64 T) := h1.cell 5
          have e6 : Z.cell? ⟨w.heap.size + 1 + 1, 6, none⟩ = some (.int .i64 (now + 6)) := h1.cell 6
          have e7 : Z.cell? ⟨w.heap.size + 1 + 1, 7, none⟩ = some (.int .i64 0) := h1.cell 7
          have e8 : Z.cell? ⟨w.heap.size + 1 + 1, 8, none⟩ = some (.bool false) := h1.cell 8
          exact bodyPost_ret (v := .agg #[.int .i64 a, .int .i64 l, .int .i64 M, .int .i64 n, .int .i64 ii, .int .i64 T, .int .i64 (now + 6), .int .i64 0, .bool false]) (by simp [results, Try.results88, go_sem, e0, e1, e2, e3, e4, e5, e6, e7, e8]) rfl ⟨rfl, h2⟩
        · obtain rfl : MB = true := by rw [hMB]; simp [hT]
          have d1 : (M != M) = false := by simp
          have d2 : (T != t) = true := by simpa using hT
          clear hMB hT
          have p0 := q0.alloc (.cells #[.int .i64 a, .int .i64 l, .int .i64 M, .int .i64 n, .int .i64 ii, .int .i64 t, .int .i64 (now + 6), .int .i64 0, .bool true] 46)
          have p1 := q1.alloc (.cells #[.int .i64 a, .int .i64 l, .int .i64 M, .int .i64 n, .int .i64 ii, .int .i64 t, .int .i64 (now + 6), .int .i64 0, .bool true] 46)
          have q2 := q2.alloc (.cells #[.int .i64 a, .int .i64 l, .int .i64 M, .int .i64 n, .int .i64 ii, .int .i64 t, .int .i64 (now + 6), .int .i64 0, .bool true] 46)
          have hB := hB.alloc hB.size (.cells #[.int .i64 a, .int .i64 l, .int .i64 M, .int .i64 n, .int .i64 ii, .int .i64 t, .int .i64 (now + 6), .int .i64 0, .bool true] 46)
          have x2 : (w1.alloc (.cells #[.int .i64 a, .int .i64 l, .int .i64 M, .int .i64 n, .int .i64 ii, .int .i64 t, .int .i64 (now + 6), .int .i64 0, .bool true] 46)).cell? ⟨w.heap.size, 2, none⟩ = some (.int .i64 M) := p0.cell 2
          have x5 : (w1.alloc (.cells #[.int .i64 a, .int .i64 l, .int .i64 M, .int .i64 n, .int .i64 ii, .int .i64 t, .int .i64 (now + 6), .int .i64 0, .bool true] 46)).cell? ⟨w.heap.size, 5, none⟩ = some (.int .i64 T) := p0.cell 5
          have x8 : (w1.alloc (.cells #[.int .i64 a, .int .i64 l, .int .i64 M, .int .i64 n, .int .i64 ii, .int .i64 t, .int .i64 (now + 6), .int .i64 0, .bool true] 46)).cell? ⟨w.heap.size, 8, none⟩ = some (.bool false) := p0.cell 8
          have y2 : (w1.alloc (.cells #[.int .i64 a, .int .i64 l, .int .i64 M, .int .i64 n, .int .i64 ii, .int .i64 t, .int .i64 (now + 6), .int .i64 0, .bool true] 46)).cell? ⟨w.heap.size + 1, 2, none⟩ = some (.int .i64 M) := p1.cell 2
          have y5 : (w1.alloc (.cells #[.int .i64 a, .int .i64 l, .int .i64 M, .int .i64 n, .int .i64 ii, .int .i64 t, .int .i64 (now + 6), .int .i64 0, .bool true] 46)).cell? ⟨w.heap.size + 1, 5, none⟩ = some (.int .i64 t) := p1.cell 5
          clear p0 p1
          have z0 : (w1.alloc (.cells #[.int .i64 a, .int .i64 l, .int .i64 M, .int .i64 n, .int .i64 ii, .int .i64 t, .int .i64 (now + 6), .int .i64 0, .bool true] 46)).cell? ⟨w.heap.size + 1 + 1, 0, none⟩ = some (.int .i64 0) := q2.cell 0
          have z1 : (w1.alloc (.cells #[.int .i64 a, .int .i64 l, .int .i64 M, .int .i64 n, .int .i64 ii, .int .i64 t, .int .i64 (now + 6), .int .i64 0, .bool true] 46)).cell? ⟨w.heap.size + 1 + 1, 1, none⟩ = some (.int .i64 0) := q2.cell 1
          have z2 : (w1.alloc (.cells #[.int .i64 a, .int .i64 l, .int .i64 M, .int .i64 n, .int .i64 ii, .int .i64 t, .int .i64 (now + 6), .int .i64 0, .bool true] 46)).cell? ⟨w.heap.size + 1 + 1, 2, none⟩ = some (.int .i64 0) := q2.cell 2
          have z3 : (w1.alloc (.cells #[.int .i64 a, .int .i64 l, .int .i64 M, .int .i64 n, .int .i64 ii, .int .i64 t, .int .i64 (now + 6), .int .i64 0, .bool true] 46)).cell? ⟨w.heap.size + 1 + 1, 3, none⟩ = some (.int .i64 0) := q2.cell 3
          have z4 : (w1.alloc (.cells #[.int .i64 a, .int .i64 l, .int .i64 M, .int .i64 n, .int .i64 ii, .int .i64 t, .int .i64 (now + 6), .int .i64 0, .bool true] 46)).cell? ⟨w.heap.size + 1 + 1, 4, none⟩ = some (.int .i64 0) := q2.cell 4
          have z5 : (w1.alloc (.cells #[.int .i64 a, .int .i64 l, .int .i64 M, .int .i64 n, .int .i64 ii, .int .i64 t, .int .i64 (now + 6), .int .i64 0, .bool true] 46)).cell? ⟨w.heap.size + 1 + 1, 5, none⟩ = some (.int .i64 0) := q2.cell 5
          have z6 : (w1.alloc (.cells #[.int .i64 a, .int .i64 l, .int .i64 M, .int .i64 n, .int .i64 ii, .int .i64 t, .int .i64 (now + 6), .int .i64 0, .bool true] 46)).cell? ⟨w.heap.size + 1 + 1, 6, none⟩ = some (.int .i64 0) := q2.cell 6
          have z7 : (w1.alloc (.cells #[.int .i64 a, .int .i64 l, .int .i64 M, .int .i64 n, .int .i64 ii, .int .i64 t, .int .i64 (now + 6), .int .i64 0, .bool true] 46)).cell? ⟨w.heap.size + 1 + 1, 7, none⟩ = some (.int .i64 0) := q2.cell 7
          have z8 : (w1.alloc (.cells #[.int .i64 a, .int .i64 l, .int .i64 M, .int .i64 n, .int .i64 ii, .int .i64 t, .int .i64 (now + 6), .int .i64 0, .bool true] 46)).cell? ⟨w.heap.size + 1 + 1, 8, none⟩ = some (.bool false) := q2.cell 8
          have f0 : (w1.alloc (.cells #[.int .i64 a, .int .i64 l, .int .i64 M, .int .i64 n, .int .i64 ii, .int .i64 t, .int .i64 (now + 6), .int .i64 0, .bool true] 46)).frozen? ⟨w.heap.size + 1 + 1, 0, none⟩ = false := q2.frozen 0
          have f1 : (w1.alloc (.cells #[.int .i64 a, .int .i64 l, .int .i64 M, .int .i64 n, .int .i64 ii, .int .i64 t, .int .i64 (now + 6), .int .i64 0, .bool true] 46)).frozen? ⟨w.heap.size + 1 + 1, 1, none⟩ = false := q2.frozen 1
          have f2 : (w1.alloc (.cells #[.int .i64 a, .int .i64 l, .int .i64 M, .int .i64 n, .int .i64 ii, .int .i64 t, .int .i64 (now + 6), .int .i64 0, .bool true] 46)).frozen? ⟨w.heap.size + 1 + 1, 2, none⟩ = false := q2.frozen 2
          have f3 : (w1.alloc (.cells #[.int .i64 a, .int .i64 l, .int .i64 M, .int .i64 n, .int .i64 ii, .int .i64 t, .int .i64 (now + 6), .int .i64 0, .bool true] 46)).frozen? ⟨w.heap.size + 1 + 1, 3, none⟩ = false := q2.frozen 3
          have f4 : (w1.alloc (.cells #[.int .i64 a, .int .i64 l, .int .i64 M, .int .i64 n, .int .i64 ii, .int .i64 t, .int .i64 (now + 6), .int .i64 0, .bool true] 46)).frozen? ⟨w.heap.size + 1 + 1, 4, none⟩ = false := q2.frozen 4
          have f5 : (w1.alloc (.cells #[.int .i64 a, .int .i64 l, .int .i64 M, .int .i64 n, .int .i64 ii, .int .i64 t, .int .i64 (now + 6), .int .i64 0, .bool true] 46)).frozen? ⟨w.heap.size + 1 + 1, 5, none⟩ = false := q2.frozen 5
          have f6 : (w1.alloc (.cells #[.int .i64 a, .int .i64 l, .int .i64 M, .int .i64 n, .int .i64 ii, .int .i64 t, .int .i64 (now + 6), .int .i64 0, .bool true] 46)).frozen? ⟨w.heap.size + 1 + 1, 6, none⟩ = false := q2.frozen 6
          have f7 : (w1.alloc (.cells #[.int .i64 a, .int .i64 l, .int .i64 M, .int .i64 n, .int .i64 ii, .int .i64 t, .int .i64 (now + 6), .int .i64 0, .bool true] 46)).frozen? ⟨w.heap.size + 1 + 1, 7, none⟩ = false := q2.frozen 7
          have f8 : (w1.alloc (.cells #[.int .i64 a, .int .i64 l, .int .i64 M, .int .i64 n, .int .i64 ii, .int .i64 t, .int .i64 (now + 6), .int .i64 0, .bool true] 46)).frozen? ⟨w.heap.size + 1 + 1, 8, none⟩ = false := q2.frozen 8
          have HE : Hid _ := And.intro (nine0_row q2 (.int .i64 a) (.int .i64 l) (.int .i64 M) (.int .i64 n) (.int .i64 ii) (.int .i64 t) (.int .i64 (now + 6)) (.int .i64 0) (.bool true)) (nine0_below hB (w.heap.size + 1 + 1) (by omega) (.int .i64 a) (.int .i64 l) (.int .i64 M) (.int .i64 n) (.int .i64 ii) (.int .i64 t) (.int .i64 (now + 6)) (.int .i64 0) (.bool true))
          clear q2 hB q0 q1 HW HF
          go_wp2_with fail
          have hF := HE.out
          clear HE z0 z1 z2 z3 z4 z5 z6 z7 z8 f0 f1 f2 f3 f4 f5 f6 f7 f8
          unfold nine0 at hF
          generalize ((((((((((w1.alloc (.cells #[.int .i64 a, .int .i64 l, .int .i64 M, .int .i64 n, .int .i64 ii, .int .i64 t, .int .i64 (now + 6), .int .i64 0, .bool true] 46)).setCell ⟨w.heap.size + 1 + 1, 0, none⟩ (.int .i64 a)).setCell ⟨w.heap.size + 1 + 1, 1, none⟩ (.int .i64 l)).setCell ⟨w.heap.size + 1 + 1, 2, none⟩ (.int .i64 M)).setCell ⟨w.heap.size + 1 + 1, 3, none⟩ (.int .i64 n)).setCell ⟨w.heap.size + 1 + 1, 4, none⟩ (.int .i64 ii)).setCell ⟨w.heap.size + 1 + 1, 5, none⟩ (.int .i64 t)).setCell ⟨w.heap.size + 1 + 1, 6, none⟩ (.int .i64 (now + 6))).setCell ⟨w.heap.size + 1 + 1, 7, none⟩ (.int .i64 0)).setCell ⟨w.heap.size + 1 + 1, 8, none⟩ (.bool true)) = Z at *
          obtain ⟨h1, h2⟩ := hF
          have e0 : Z.cell? ⟨w.heap.size + 1 + 1, 0, none⟩ = some (.int .i64 a) := h1.cell 0
          have e1 : Z.cell? ⟨w.heap.size + 1 + 1, 1, none⟩ = some (.int .i64 l) := h1.cell 1
          have e2 : Z.cell? ⟨w.heap.size + 1 + 1, 2, none⟩ = some (.int .i64 M) := h1.cell 2
          have e3 : Z.cell? ⟨w.heap.size + 1 + 1, 3, none⟩ = some (.int .i64 n) := h1.cell 3
          have e4 : Z.cell? ⟨w.heap.size + 1 + 1, 4, none⟩ = some (.int .i64 ii) := h1.cell 4
          have e5 : Z.cell? ⟨w.heap.size + 1 + 1, 5, none⟩ = some (.int .i64 t) := h1.cell 5
          have e6 : Z.cell? ⟨w.heap.size + 1 + 1, 6, none⟩ = some (.int .i64 (now + 6)) := h1.cell 6
          have e7 : Z.cell? ⟨w.heap.size + 1 + 1, 7, none⟩ = some (.int .i64 0) := h1.cell 7
          have e8 : Z.cell? ⟨w.heap.size + 1 + 1, 8, none⟩ = some (.bool true) := h1.cell 8
          exact bodyPost_ret (v := .agg #[.int .i64 a, .int .i64 l, .int .i64 M, .int .i64 n, .int .i64 ii, .int .i64 t, .int .i64 (now + 6), .int .i64 0, .bool true]) (by simp [results, Try.results88, go_sem, e0, e1, e2, e3, e4, e5, e6, e7, e8]) rfl ⟨rfl, h2⟩
      · obtain rfl : MB = true := by rw [hMB]; simp [hM]
        have d1 : (M != m) = true := by simpa using hM
        clear hMB hM
        have p0 := q0.alloc (.cells #[.int .i64 a, .int .i64 l, .int .i64 m, .int .i64 n, .int .i64 ii, .int .i64 t, .int .i64 (now + 6), .int .i64 0, .bool true] 46)
        have p1 := q1.alloc (.cells #[.int .i64 a, .int .i64 l, .int .i64 m, .int .i64 n, .int .i64 ii, .int .i64 t, .int .i64 (now + 6), .int .i64 0, .bool true] 46)
        have q2 := q2.alloc (.cells #[.int .i64 a, .int .i64 l, .int .i64 m, .int .i64 n, .int .i64 ii, .int .i64 t, .int .i64 (now + 6), .int .i64 0, .bool true] 46)
        have hB := hB.alloc hB.size (.cells #[.int .i64 a, .int .i64 l, .int .i64 m, .int .i64 n, .int .i64 ii, .int .i64 t, .int .i64 (now + 6), .int .i64 0, .bool true] 46)
        have x2 : (w1.alloc (.cells #[.int .i64 a, .int .i64 l, .int .i64 m, .int .i64 n, .int .i64 ii, .int .i64 t, .int .i64 (now + 6), .int .i64 0, .bool true] 46)).cell? ⟨w.heap.size, 2, none⟩ = some (.int .i64 M) := p0.cell 2
        have x5 : (w1.alloc (.cells #[.int .i64 a, .int .i64 l, .int .i64 m, .int .i64 n, .int .i64 ii, .int .i64 t, .int .i64 (now + 6), .int .i64 0, .bool true] 46)).cell? ⟨w.heap.size, 5, none⟩ = some (.int .i64 T) := p0.cell 5
        have x8 : (w1.alloc (.cells #[.int .i64 a, .int .i64 l, .int .i64 m, .int .i64 n, .int .i64 ii, .int .i64 t, .int .i64 (now + 6), .int .i64 0, .bool true] 46)).cell? ⟨w.heap.size, 8, none⟩ = some (.bool false) := p0.cell 8
        have y2 : (w1.alloc (.cells #[.int .i64 a, .int .i64 l, .int .i64 m, .int .i64 n, .int .i64 ii, .int .i64 t, .int .i64 (now + 6), .int .i64 0, .bool true] 46)).cell? ⟨w.heap.size + 1, 2, none⟩ = some (.int .i64 m) := p1.cell 2
        have y5 : (w1.alloc (.cells #[.int .i64 a, .int .i64 l, .int .i64 m, .int .i64 n, .int .i64 ii, .int .i64 t, .int .i64 (now + 6), .int .i64 0, .bool true] 46)).cell? ⟨w.heap.size + 1, 5, none⟩ = some (.int .i64 t) := p1.cell 5
        clear p0 p1
        have z0 : (w1.alloc (.cells #[.int .i64 a, .int .i64 l, .int .i64 m, .int .i64 n, .int .i64 ii, .int .i64 t, .int .i64 (now + 6), .int .i64 0, .bool true] 46)).cell? ⟨w.heap.size + 1 + 1, 0, none⟩ = some (.int .i64 0) := q2.cell 0
        have z1 : (w1.alloc (.cells #[.int .i64 a, .int .i64 l, .int .i64 m, .int .i64 n, .int .i64 ii, .int .i64 t, .int .i64 (now + 6), .int .i64 0, .bool true] 46)).cell? ⟨w.heap.size + 1 + 1, 1, none⟩ = some (.int .i64 0) := q2.cell 1
        have z2 : (w1.alloc (.cells #[.int .i64 a, .int .i64 l, .int .i64 m, .int .i64 n, .int .i64 ii, .int .i64 t, .int .i64 (now + 6), .int .i64 0, .bool true] 46)).cell? ⟨w.heap.size + 1 + 1, 2, none⟩ = some (.int .i64 0) := q2.cell 2
        have z3 : (w1.alloc (.cells #[.int .i64 a, .int .i64 l, .int .i64 m, .int .i64 n, .int .i64 ii, .int .i64 t, .int .i64 (now + 6), .int .i64 0, .bool true] 46)).cell? ⟨w.heap.size + 1 + 1, 3, none⟩ = some (.int .i64 0) := q2.cell 3
        have z4 : (w1.alloc (.cells #[.int .i64 a, .int .i64 l, .int .i64 m, .int .i64 n, .int .i64 ii, .int .i64 t, .int .i64 (now + 6), .int .i64 0, .bool true] 46)).cell? ⟨w.heap.size + 1 + 1, 4, none⟩ = some (.int .i64 0) := q2.cell 4
        have z5 : (w1.alloc (.cells #[.int .i64 a, .int .i64 l, .int .i64 m, .int .i64 n, .int .i64 ii, .int .i64 t, .int .i64 (now + 6), .int .i64 0, .bool true] 46)).cell? ⟨w.heap.size + 1 + 1, 5, none⟩ = some (.int .i64 0) := q2.cell 5
        have z6 : (w1.alloc (.cells #[.int .i64 a, .int .i64 l, .int .i64 m, .int .i64 n, .int .i64 ii, .int .i64 t, .int .i64 (now + 6), .int .i64 0, .bool true] 46)).cell? ⟨w.heap.size + 1 + 1, 6, none⟩ = some (.int .i64 0) := q2.cell 6
        have z7 : (w1.alloc (.cells #[.int .i64 a, .int .i64 l, .int .i64 m, .int .i64 n, .int .i64 ii, .int .i64 t, .int .i64 (now + 6), .int .i64 0, .bool true] 46)).cell? ⟨w.heap.size + 1 + 1, 7, none⟩ = some (.int .i64 0) := q2.cell 7
        have z8 : (w1.alloc (.cells #[.int .i64 a, .int .i64 l, .int .i64 m, .int .i64 n, .int .i64 ii, .int .i64 t, .int .i64 (now + 6), .int .i64 0, .bool true] 46)).cell? ⟨w.heap.size + 1 + 1, 8, none⟩ = some (.bool false) := q2.cell 8
        have f0 : (w1.alloc (.cells #[.int .i64 a, .int .i64 l, .int .i64 m, .int .i64 n, .int .i64 ii, .int .i64 t, .int .i64 (now + 6), .int .i64 0, .bool true] 46)).frozen? ⟨w.heap.size + 1 + 1, 0, none⟩ = false := q2.frozen 0
        have f1 : (w1.alloc (.cells #[.int .i64 a, .int .i64 l, .int .i64 m, .int .i64 n, .int .i64 ii, .int .i64 t, .int .i64 (now + 6), .int .i64 0, .bool true] 46)).frozen? ⟨w.heap.size + 1 + 1, 1, none⟩ = false := q2.frozen 1
        have f2 : (w1.alloc (.cells #[.int .i64 a, .int .i64 l, .int .i64 m, .int .i64 n, .int .i64 ii, .int .i64 t, .int .i64 (now + 6), .int .i64 0, .bool true] 46)).frozen? ⟨w.heap.size + 1 + 1, 2, none⟩ = false := q2.frozen 2
        have f3 : (w1.alloc (.cells #[.int .i64 a, .int .i64 l, .int .i64 m, .int .i64 n, .int .i64 ii, .int .i64 t, .int .i64 (now + 6), .int .i64 0, .bool true] 46)).frozen? ⟨w.heap.size + 1 + 1, 3, none⟩ = false := q2.frozen 3
        have f4 : (w1.alloc (.cells #[.int .i64 a, .int .i64 l, .int .i64 m, .int .i64 n, .int .i64 ii, .int .i64 t, .int .i64 (now + 6), .int .i64 0, .bool true] 46)).frozen? ⟨w.heap.size + 1 + 1, 4, none⟩ = false := q2.frozen 4
        have f5 : (w1.alloc (.cells #[.int .i64 a, .int .i64 l, .int .i64 m, .int .i64 n, .int .i64 ii, .int .i64 t, .int .i64 (now + 6), .int .i64 0, .bool true] 46)).frozen? ⟨w.heap.size + 1 + 1, 5, none⟩ = false := q2.frozen 5
        have f6 : (w1.alloc (.cells #[.int .i64 a, .int .i64 l, .int .i64 m, .int .i64 n, .int .i64 ii, .int .i64 t, .int .i64 (now + 6), .int .i64 0, .bool true] 46)).frozen? ⟨w.heap.size + 1 + 1, 6, none⟩ = false := q2.frozen 6
        have f7 : (w1.alloc (.cells #[.int .i64 a, .int .i64 l, .int .i64 m, .int .i64 n, .int .i64 ii, .int .i64 t, .int .i64 (now + 6), .int .i64 0, .bool true] 46)).frozen? ⟨w.heap.size + 1 + 1, 7, none⟩ = false := q2.frozen 7
        have f8 : (w1.alloc (.cells #[.int .i64 a, .int .i64 l, .int .i64 m, .int .i64 n, .int .i64 ii, .int .i64 t, .int .i64 (now + 6), .int .i64 0, .bool true] 46)).frozen? ⟨w.heap.size + 1 + 1, 8, none⟩ = false := q2.frozen 8
        have HE : Hid _ := And.intro (nine0_row q2 (.int .i64 a) (.int .i64 l) (.int .i64 m) (.int .i64 n) (.int .i64 ii) (.int .i64 t) (.int .i64 (now + 6)) (.int .i64 0) (.bool true)) (nine0_below hB (w.heap.size + 1 + 1) (by omega) (.int .i64 a) (.int .i64 l) (.int .i64 m) (.int .i64 n) (.int .i64 ii) (.int .i64 t) (.int .i64 (now + 6)) (.int .i64 0) (.bool true))
        clear q2 hB q0 q1 HW HF
        go_wp2_with fail
        have hF := HE.out
        clear HE z0 z1 z2 z3 z4 z5 z6 z7 z8 f0 f1 f2 f3 f4 f5 f6 f7 f8
        unfold nine0 at hF
        generalize ((((((((((w1.alloc (.cells #[.int .i64 a, .int .i64 l, .int .i64 m, .int .i64 n, .int .i64 ii, .int .i64 t, .int .i64 (now + 6), .int .i64 0, .bool true] 46)).setCell ⟨w.heap.size + 1 + 1, 0, none⟩ (.int .i64 a)).setCell ⟨w.heap.size + 1 + 1, 1, none⟩ (.int .i64 l)).setCell ⟨w.heap.size + 1 + 1, 2, none⟩ (.int .i64 m)).setCell ⟨w.heap.size + 1 + 1, 3, none⟩ (.int .i64 n)).setCell ⟨w.heap.size + 1 + 1, 4, none⟩ (.int .i64 ii)).setCell ⟨w.heap.size + 1 + 1, 5, none⟩ (.int .i64 t)).setCell ⟨w.heap.size + 1 + 1, 6, none⟩ (.int .i64 (now + 6))).setCell ⟨w.heap.size + 1 + 1, 7, none⟩ (.int .i64 0)).setCell ⟨w.heap.size + 1 + 1, 8, none⟩ (.bool true)) = Z at *
        obtain ⟨h1, h2⟩ := hF
        have e0 : Z.cell? ⟨w.heap.size + 1 + 1, 0, none⟩ = some (.int .i64 a) := h1.cell 0
        have e1 : Z.cell? ⟨w.heap.size + 1 + 1, 1, none⟩ = some (.int .i64 l) := h1.cell 1
        have e2 : Z.cell? ⟨w.heap.size + 1 + 1, 2, none⟩ = some (.int .i64 m) := h1.cell 2
        have e3 : Z.cell? ⟨w.heap.size + 1 + 1, 3, none⟩ = some (.int .i64 n) := h1.cell 3
        have e4 : Z.cell? ⟨w.heap.size + 1 + 1, 4, none⟩ = some (.int .i64 ii) := h1.cell 4
        have e5 : Z.cell? ⟨w.heap.size + 1 + 1, 5, none⟩ = some (.int .i64 t) := h1.cell 5
        have e6 : Z.cell? ⟨w.heap.size + 1 + 1, 6, none⟩ = some (.int .i64 (now + 6)) := h1.cell 6
        have e7 : Z.cell? ⟨w.heap.size + 1 + 1, 7, none⟩ = some (.int .i64 0) := h1.cell 7
        have e8 : Z.cell? ⟨w.heap.size + 1 + 1, 8, none⟩ = some (.bool true) := h1.cell 8
        exact bodyPost_ret (v := .agg #[.int .i64 a, .int .i64 l, .int .i64 m, .int .i64 n, .int .i64 ii, .int .i64 t, .int .i64 (now + 6), .int .i64 0, .bool true]) (by simp [results, Try.results88, go_sem, e0, e1, e2, e3, e4, e5, e6, e7, e8]) rfl ⟨rfl, h2⟩
    · obtain rfl : MB = true := by rw [hMB]; simp
      clear hMB
      have p0 := q0.alloc (.cells #[.int .i64 a, .int .i64 l, .int .i64 m, .int .i64 n, .int .i64 ii, .int .i64 t, .int .i64 (now + 6), .int .i64 0, .bool true] 46)
      have p1 := q1.alloc (.cells #[.int .i64 a, .int .i64 l, .int .i64 m, .int .i64 n, .int .i64 ii, .int .i64 t, .int .i64 (now + 6), .int .i64 0, .bool true] 46)
      have q2 := q2.alloc (.cells #[.int .i64 a, .int .i64 l, .int .i64 m, .int .i64 n, .int .i64 ii, .int .i64 t, .int .i64 (now + 6), .int .i64 0, .bool true] 46)
      have hB := hB.alloc hB.size (.cells #[.int .i64 a, .int .i64 l, .int .i64 m, .int .i64 n, .int .i64 ii, .int .i64 t, .int .i64 (now + 6), .int .i64 0, .bool true] 46)
      have x2 : (w1.alloc (.cells #[.int .i64 a, .int .i64 l, .int .i64 m, .int .i64 n, .int .i64 ii, .int .i64 t, .int .i64 (now + 6), .int .i64 0, .bool true] 46)).cell? ⟨w.heap.size, 2, none⟩ = some (.int .i64 M) := p0.cell 2
      have x5 : (w1.alloc (.cells #[.int .i64 a, .int .i64 l, .int .i64 m, .int .i64 n, .int .i64 ii, .int .i64 t, .int .i64 (now + 6), .int .i64 0, .bool true] 46)).cell? ⟨w.heap.size, 5, none⟩ = some (.int .i64 T) := p0.cell 5
      have x8 : (w1.alloc (.cells #[.int .i64 a, .int .i64 l, .int .i64 m, .int .i64 n, .int .i64 ii, .int .i64 t, .int .i64 (now + 6), .int .i64 0, .bool true] 46)).cell? ⟨w.heap.size, 8, none⟩ = some (.bool true) := p0.cell 8
      have y2 : (w1.alloc (.cells #[.int .i64 a, .int .i64 l, .int .i64 m, .int .i64 n, .int .i64 ii, .int .i64 t, .int .i64 (now + 6), .int .i64 0, .bool true] 46)).cell? ⟨w.heap.size + 1, 2, none⟩ = some (.int .i64 m) := p1.cell 2
      have y5 : (w1.alloc (.cells #[.int .i64 a, .int .i64 l, .int .i64 m, .int .i64 n, .int .i64 ii, .int .i64 t, .int .i64 (now + 6), .int .i64 0, .bool true] 46)).cell? ⟨w.heap.size + 1, 5, none⟩ = some (.int .i64 t) := p1.cell 5
      clear p0 p1
      have z0 : (w1.alloc (.cells #[.int .i64 a, .int .i64 l, .int .i64 m, .int .i64 n, .int .i64 ii, .int .i64 t, .int .i64 (now + 6), .int .i64 0, .bool true] 46)).cell? ⟨w.heap.size + 1 + 1, 0, none⟩ = some (.int .i64 0) := q2.cell 0
      have z1 : (w1.alloc (.cells #[.int .i64 a, .int .i64 l, .int .i64 m, .int .i64 n, .int .i64 ii, .int .i64 t, .int .i64 (now + 6), .int .i64 0, .bool true] 46)).cell? ⟨w.heap.size + 1 + 1, 1, none⟩ = some (.int .i64 0) := q2.cell 1
      have z2 : (w1.alloc (.cells #[.int .i64 a, .int .i64 l, .int .i64 m, .int .i64 n, .int .i64 ii, .int .i64 t, .int .i64 (now + 6), .int .i64 0, .bool true] 46)).cell? ⟨w.heap.size + 1 + 1, 2, none⟩ = some (.int .i64 0) := q2.cell 2
      have z3 : (w1.alloc (.cells #[.int .i64 a, .int .i64 l, .int .i64 m, .int .i64 n, .int .i64 ii, .int .i64 t, .int .i64 (now + 6), .int .i64 0, .bool true] 46)).cell? ⟨w.heap.size + 1 + 1, 3, none⟩ = some (.int .i64 0) := q2.cell 3
      have z4 : (w1.alloc (.cells #[.int .i64 a, .int .i64 l, .int .i64 m, .int .i64 n, .int .i64 ii, .int .i64 t, .int .i64 (now + 6), .int .i64 0, .bool true] 46)).cell? ⟨w.heap.size + 1 + 1, 4, none⟩ = some (.int .i64 0) := q2.cell 4
      have z5 : (w1.alloc (.cells #[.int .i64 a, .int .i64 l, .int .i64 m, .int .i64 n, .int .i64 ii, .int .i64 t, .int .i64 (now + 6), .int .i64 0, .bool true] 46)).cell? ⟨w.heap.size + 1 + 1, 5, none⟩ = some (.int .i64 0) := q2.cell 5
      have z6 : (w1.alloc (.cells #[.int .i64 a, .int .i64 l, .int .i64 m, .int .i64 n, .int .i64 ii, .int .i64 t, .int .i64 (now + 6), .int .i64 0, .bool true] 46)).cell? ⟨w.heap.size + 1 + 1, 6, none⟩ = some (.int .i64 0) := q2.cell 6
      have z7 : (w1.alloc (.cells #[.int .i64 a, .int .i64 l, .int .i64 m, .int .i64 n, .int .i64 ii, .int .i64 t, .int .i64 (now + 6), .int .i64 0, .bool true] 46)).cell? ⟨w.heap.size + 1 + 1, 7, none⟩ = some (.int .i64 0) := q2.cell 7
      have z8 : (w1.alloc (.cells #[.int .i64 a, .int .i64 l, .int .i64 m, .int .i64 n, .int .i64 ii, .int .i64 t, .int .i64 (now + 6), .int .i64 0, .bool true] 46)).cell? ⟨w.heap.size + 1 + 1, 8, none⟩ = some (.bool false) := q2.cell 8
      have f0 : (w1.alloc (.cells #[.int .i64 a, .int .i64 l, .int .i64 m, .int .i64 n, .int .i64 ii, .int .i64 t, .int .i64 (now + 6), .int .i64 0, .bool true] 46)).frozen? ⟨w.heap.size + 1 + 1, 0, none⟩ = false := q2.frozen 0
      have f1 : (w1.alloc (.cells #[.int .i64 a, .int .i64 l, .int .i64 m, .int .i64 n, .int .i64 ii, .int .i64 t, .int .i64 (now + 6), .int .i64 0, .bool true] 46)).frozen? ⟨w.heap.size + 1 + 1, 1, none⟩ = false := q2.frozen 1
      have f2 : (w1.alloc (.cells #[.int .i64 a, .int .i64 l, .int .i64 m, .int .i64 n, .int .i64 ii, .int .i64 t, .int .i64 (now + 6), .int .i64 0, .bool true] 46)).frozen? ⟨w.heap.size + 1 + 1, 2, none⟩ = false := q2.frozen 2
      have f3 : (w1.alloc (.cells #[.int .i64 a, .int .i64 l, .int .i64 m, .int .i64 n, .int .i64 ii, .int .i64 t, .int .i64 (now + 6), .int .i64 0, .bool true] 46)).frozen? ⟨w.heap.size + 1 + 1, 3, none⟩ = false := q2.frozen 3
      have f4 : (w1.alloc (.cells #[.int .i64 a, .int .i64 l, .int .i64 m, .int .i64 n, .int .i64 ii, .int .i64 t, .int .i64 (now + 6), .int .i64 0, .bool true] 46)).frozen? ⟨w.heap.size + 1 + 1, 4, none⟩ = false := q2.frozen 4
      have f5 : (w1.alloc (.cells #[.int .i64 a, .int .i64 l, .int .i64 m, .int .i64 n, .int .i64 ii, .int .i64 t, .int .i64 (now + 6), .int .i64 0, .bool true] 46)).frozen? ⟨w.heap.size + 1 + 1, 5, none⟩ = false := q2.frozen 5
      have f6 : (w1.alloc (.cells #[.int .i64 a, .int .i64 l, .int .i64 m, .int .i64 n, .int .i64 ii, .int .i64 t, .int .i64 (now + 6), .int .i64 0, .bool true] 46)).frozen? ⟨w.heap.size + 1 + 1, 6, none⟩ = false := q2.frozen 6
      have f7 : (w1.alloc (.cells #[.int .i64 a, .int .i64 l, .int .i64 m, .int .i64 n, .int .i64 ii, .int .i64 t, .int .i64 (now + 6), .int .i64 0, .bool true] 46)).frozen? ⟨w.heap.size + 1 + 1, 7, none⟩ = false := q2.frozen 7
      have f8 : (w1.alloc (.cells #[.int .i64 a, .int .i64 l, .int .i64 m, .int .i64 n, .int .i64 ii, .int .i64 t, .int .i64 (now + 6), .int .i64 0, .bool true] 46)).frozen? ⟨w.heap.size + 1 + 1, 8, none⟩ = false := q2.frozen 8
      have HE : Hid _ := And.intro (nine0_row q2 (.int .i64 a) (.int .i64 l) (.int .i64 m) (.int .i64 n) (.int .i64 ii) (.int .i64 t) (.int .i64 (now + 6)) (.int .i64 0) (.bool true)) (nine0_below hB (w.heap.size + 1 + 1) (by omega) (.int .i64 a) (.int .i64 l) (.int .i64 m) (.int .i64 n) (.int .i64 ii) (.int .i64 t) (.int .i64 (now + 6)) (.int .i64 0) (.bool true))
      clear q2 hB q0 q1 HW HF
      go_wp2_with fail
      have hF := HE.out
      clear HE z0 z1 z2 z3 z4 z5 z6 z7 z8 f0 f1 f2 f3 f4 f5 f6 f7 f8
      unfold nine0 at hF
      generalize ((((((((((w1.alloc (.cells #[.int .i64 a, .int .i64 l, .int .i64 m, .int .i64 n, .int .i64 ii, .int .i64 t, .int .i64 (now + 6), .int .i64 0, .bool true] 46)).setCell ⟨w.heap.size + 1 + 1, 0, none⟩ (.int .i64 a)).setCell ⟨w.heap.size + 1 + 1, 1, none⟩ (.int .i64 l)).setCell ⟨w.heap.size + 1 + 1, 2, none⟩ (.int .i64 m)).setCell ⟨w.heap.size + 1 + 1, 3, none⟩ (.int .i64 n)).setCell ⟨w.heap.size + 1 + 1, 4, none⟩ (.int .i64 ii)).setCell ⟨w.heap.size + 1 + 1, 5, none⟩ (.int .i64 t)).setCell ⟨w.heap.size + 1 + 1, 6, none⟩ (.int .i64 (now + 6))).setCell ⟨w.heap.size + 1 + 1, 7, none⟩ (.int .i64 0)).setCell ⟨w.heap.size + 1 + 1, 8, none⟩ (.bool true)) = Z at *
      obtain ⟨h1, h2⟩ := hF
      have e0 : Z.cell? ⟨w.heap.size + 1 + 1, 0, none⟩ = some (.int .i64 a) := h1.cell 0
      have e1 : Z.cell? ⟨w.heap.size + 1 + 1, 1, none⟩ = some (.int .i64 l) := h1.cell 1
      have e2 : Z.cell? ⟨w.heap.size + 1 + 1, 2, none⟩ = some (.int .i64 m) := h1.cell 2
      have e3 : Z.cell? ⟨w.heap.size + 1 + 1, 3, none⟩ = some (.int .i64 n) := h1.cell 3
      have e4 : Z.cell? ⟨w.heap.size + 1 + 1, 4, none⟩ = some (.int .i64 ii) := h1.cell 4
      have e5 : Z.cell? ⟨w.heap.size + 1 + 1, 5, none⟩ = some (.int .i64 t) := h1.cell 5
      have e6 : Z.cell? ⟨w.heap.size + 1 + 1, 6, none⟩ = some (.int .i64 (now + 6)) := h1.cell 6
      have e7 : Z.cell? ⟨w.heap.size + 1 + 1, 7, none⟩ = some (.int .i64 0) := h1.cell 7
      have e8 : Z.cell? ⟨w.heap.size + 1 + 1, 8, none⟩ = some (.bool true) := h1.cell 8
      exact bodyPost_ret (v := .agg #[.int .i64 a, .int .i64 l, .int .i64 m, .int .i64 n, .int .i64 ii, .int .i64 t, .int .i64 (now + 6), .int .i64 0, .bool true]) (by simp [results, Try.results88, go_sem, e0, e1, e2, e3, e4, e5, e6, e7, e8]) rfl ⟨rfl, h2⟩
end Go.Proofs.Ytaledidomgelcaa
