/- RibFind of the program. (Written by gen_find.py.) -/
import Derived.Test.YtkkhjeigndcmaabFindG
namespace Go.Proofs.Ytkkhjeigndcmaab
open Go.RowKit Go.Sort

set_option maxRecDepth 100000 in
set_option maxHeartbeats 2000000 in
theorem implFind_any (p : Option Addr) (cap : Nat) (rs : List Rt) (a l : Int) (w : World) (h : RtsIn w p rs) (hn : rs.length ≤ 100000000) :
    Calls Try.prog 12 #[ribV p rs.length cap, netV a l] w fun e w' => e = .returned (rtV (findR rs a l)) ∧ Below w.heap.size w w' := by
  have HB : Hid (∀ w, RtsIn w p rs → Calls Try.prog 32 #[ribV p rs.length cap] w fun e w' => e = .returned (.bool (ribB rs)) ∧ Below w.heap.size w w') := fun w h => implRib_any p cap rs w h hn
  have HX : Hid (RtsIn w p rs) := h
  clear h
  cases hR : ribB rs with
  | false =>
    have HR : Hid (findR rs a l = zeroR) := findR_bad hR
    rw [hR] at HB
    clear hR
    unfold ribV netV at *
    go_enter Try.func12, Try.ntmps12
    go_wp2_with fail
    refine (HB.out _ (((HX.out.alloc _).alloc _).alloc _)).mono ?_
    rintro e w1 ⟨rfl, hb1⟩
    obtain ⟨q0, q1, q2, hB, hs⟩ := boxes3 w [.slice p rs.length cap] [.int .i64 a, .int .i64 l] [.int .i64 0, .int .i64 0, .int .i64 0, .int .i64 0, .int .i64 0, .int .i64 0, .int .i64 0, .int .i64 0, .bool false] 34 28 30 hb1
    clear hb1
    have e0 : w1.cell? ⟨w.heap.size + 1 + 1, 0, none⟩ = some (.int .i64 0) := q2.cell 0
    have f0 : w1.frozen? ⟨w.heap.size + 1 + 1, 0, none⟩ = false := q2.frozen 0
    have e1 : w1.cell? ⟨w.heap.size + 1 + 1, 1, none⟩ = some (.int .i64 0) := q2.cell 1
    have f1 : w1.frozen? ⟨w.heap.size + 1 + 1, 1, none⟩ = false := q2.frozen 1
    have e2 : w1.cell? ⟨w.heap.size + 1 + 1, 2, none⟩ = some (.int .i64 0) := q2.cell 2
    have f2 : w1.frozen? ⟨w.heap.size + 1 + 1, 2, none⟩ = false := q2.frozen 2
    have e3 : w1.cell? ⟨w.heap.size + 1 + 1, 3, none⟩ = some (.int .i64 0) := q2.cell 3
    have f3 : w1.frozen? ⟨w.heap.size + 1 + 1, 3, none⟩ = false := q2.frozen 3
    have e4 : w1.cell? ⟨w.heap.size + 1 + 1, 4, none⟩ = some (.int .i64 0) := q2.cell 4
    have f4 : w1.frozen? ⟨w.heap.size + 1 + 1, 4, none⟩ = false := q2.frozen 4
    have e5 : w1.cell? ⟨w.heap.size + 1 + 1, 5, none⟩ = some (.int .i64 0) := q2.cell 5
    have f5 : w1.frozen? ⟨w.heap.size + 1 + 1, 5, none⟩ = false := q2.frozen 5
    have e6 : w1.cell? ⟨w.heap.size + 1 + 1, 6, none⟩ = some (.int .i64 0) := q2.cell 6
    have f6 : w1.frozen? ⟨w.heap.size + 1 + 1, 6, none⟩ = false := q2.frozen 6
    have e7 : w1.cell? ⟨w.heap.size + 1 + 1, 7, none⟩ = some (.int .i64 0) := q2.cell 7
    have f7 : w1.frozen? ⟨w.heap.size + 1 + 1, 7, none⟩ = false := q2.frozen 7
    have e8 : w1.cell? ⟨w.heap.size + 1 + 1, 8, none⟩ = some (.bool false) := q2.cell 8
    have f8 : w1.frozen? ⟨w.heap.size + 1 + 1, 8, none⟩ = false := q2.frozen 8
    have HH : Hid _ := And.intro ((((((((((q2.set 0 (.int .i64 0)).set 1 (.int .i64 0)).set 2 (.int .i64 0)).set 3 (.int .i64 0)).set 4 (.int .i64 0)).set 5 (.int .i64 0)).set 6 (.int .i64 0)).set 7 (.int .i64 0)).set 8 (.bool false))) ((((((((((hB.setCell (p := ⟨w.heap.size + 1 + 1, 0, none⟩) (by show w.heap.size ≤ w.heap.size + 1 + 1; omega) (.int .i64 0)).setCell (p := ⟨w.heap.size + 1 + 1, 1, none⟩) (by show w.heap.size ≤ w.heap.size + 1 + 1; omega) (.int .i64 0)).setCell (p := ⟨w.heap.size + 1 + 1, 2, none⟩) (by show w.heap.size ≤ w.heap.size + 1 + 1; omega) (.int .i64 0)).setCell (p := ⟨w.heap.size + 1 + 1, 3, none⟩) (by show w.heap.size ≤ w.heap.size + 1 + 1; omega) (.int .i64 0)).setCell (p := ⟨w.heap.size + 1 + 1, 4, none⟩) (by show w.heap.size ≤ w.heap.size + 1 + 1; omega) (.int .i64 0)).setCell (p := ⟨w.heap.size + 1 + 1, 5, none⟩) (by show w.heap.size ≤ w.heap.size + 1 + 1; omega) (.int .i64 0)).setCell (p := ⟨w.heap.size + 1 + 1, 6, none⟩) (by show w.heap.size ≤ w.heap.size + 1 + 1; omega) (.int .i64 0)).setCell (p := ⟨w.heap.size + 1 + 1, 7, none⟩) (by show w.heap.size ≤ w.heap.size + 1 + 1; omega) (.int .i64 0)).setCell (p := ⟨w.heap.size + 1 + 1, 8, none⟩) (by show w.heap.size ≤ w.heap.size + 1 + 1; omega) (.bool false)))
    clear q0 q1 q2 hB HB HX
    go_wp2_with fail
    have HH2 := HH.out
    clear HH e0 f0 e1 f1 e2 f2 e3 f3 e4 f4 e5 f5 e6 f6 e7 f7 e8 f8
    generalize (((((((((w1.setCell ⟨w.heap.size + 1 + 1, 0, none⟩ (.int .i64 0)).setCell ⟨w.heap.size + 1 + 1, 1, none⟩ (.int .i64 0)).setCell ⟨w.heap.size + 1 + 1, 2, none⟩ (.int .i64 0)).setCell ⟨w.heap.size + 1 + 1, 3, none⟩ (.int .i64 0)).setCell ⟨w.heap.size + 1 + 1, 4, none⟩ (.int .i64 0)).setCell ⟨w.heap.size + 1 + 1, 5, none⟩ (.int .i64 0)).setCell ⟨w.heap.size + 1 + 1, 6, none⟩ (.int .i64 0)).setCell ⟨w.heap.size + 1 + 1, 7, none⟩ (.int .i64 0)).setCell ⟨w.heap.size + 1 + 1, 8, none⟩ (.bool false)) = Z at *
    obtain ⟨h1, h2⟩ := HH2
    have e0 : Z.cell? ⟨w.heap.size + 1 + 1, 0, none⟩ = some (.int .i64 0) := h1.cell 0
    have e1 : Z.cell? ⟨w.heap.size + 1 + 1, 1, none⟩ = some (.int .i64 0) := h1.cell 1
    have e2 : Z.cell? ⟨w.heap.size + 1 + 1, 2, none⟩ = some (.int .i64 0) := h1.cell 2
    have e3 : Z.cell? ⟨w.heap.size + 1 + 1, 3, none⟩ = some (.int .i64 0) := h1.cell 3
    have e4 : Z.cell? ⟨w.heap.size + 1 + 1, 4, none⟩ = some (.int .i64 0) := h1.cell 4
    have e5 : Z.cell? ⟨w.heap.size + 1 + 1, 5, none⟩ = some (.int .i64 0) := h1.cell 5
    have e6 : Z.cell? ⟨w.heap.size + 1 + 1, 6, none⟩ = some (.int .i64 0) := h1.cell 6
    have e7 : Z.cell? ⟨w.heap.size + 1 + 1, 7, none⟩ = some (.int .i64 0) := h1.cell 7
    have e8 : Z.cell? ⟨w.heap.size + 1 + 1, 8, none⟩ = some (.bool false) := h1.cell 8
    refine bodyPost_ret (v := .agg #[.int .i64 0, .int .i64 0, .int .i64 0, .int .i64 0, .int .i64 0, .int .i64 0, .int .i64 0, .int .i64 0, .bool false]) (by simp [results, Try.results12, go_sem, e0, e1, e2, e3, e4, e5, e6, e7, e8]) rfl ⟨by rw [HR.out]; rfl, h2⟩
  | true =>
    have HR : Hid (findR rs a l = (lookN rs a l).getD zeroR) := findR_right hR
    rw [hR] at HB
    have HL : Hid (∀ w, RtsIn w p rs → Calls Try.prog 33 #[ribV p rs.length cap] w fun e w' => ∃ B, e = .returned (tabV B) ∧ w.heap.size ≤ B ∧ MapIs w' B rs ∧ Below w.heap.size w w') := fun w h => by have := laidOut_any p cap rs w h hn; rw [laidN_right hR] at this; exact this
    have HF : Hid (∀ B w, MapIs w B rs → Calls Try.prog 34 #[.agg #[.map (some B), .func (.func 67) #[] #[]], .agg #[.int .i64 a, .int .i64 l]] w fun e w' => e = .returned (.tuple #[rtV ((lookN rs a l).getD zeroR), .bool (lookN rs a l).isSome]) ∧ Below w.heap.size w w') := fun B w h => find_any B rs a l w h
    clear hR
    generalize (lookN rs a l).isSome = S at *
    generalize (lookN rs a l).getD zeroR = V at *
    obtain ⟨A, L, M, N, I, T, U, E, C⟩ := V
    unfold ribV netV at *
    unfold rtV rtA at HF
    simp only at HF
    generalize rs.length = K at *
    go_enter Try.func12, Try.ntmps12
    go_wp2_with fail
    refine (HB.out _ (((HX.out.alloc _).alloc _).alloc _)).mono ?_
    rintro e w1 ⟨rfl, hb1⟩
    obtain ⟨q0, q1, q2, hB, hs⟩ := boxes3 w [.slice p K cap] [.int .i64 a, .int .i64 l] [.int .i64 0, .int .i64 0, .int .i64 0, .int .i64 0, .int .i64 0, .int .i64 0, .int .i64 0, .int .i64 0, .bool false] 34 28 30 hb1
    clear hb1 HB
    go_wp2_with fail
    refine wp_region_drawn (R := FR w1.heap.size ⟨A, L, M, N, I, T, U, E, C⟩) (J := Below w1.heap.size w1) (G := FG w1.heap.size (.agg #[.slice p K cap]) (.agg #[.int .i64 a, .int .i64 l]) rs ⟨A, L, M, N, I, T, U, E, C⟩ S) (by kernel_rfl) (by kernel_rfl) ?_ ((Below.refl _ w1).drew) ?_ (fun i f u1 u2 _ h hr => FG_stab i f u1 u2 h hr) ?_ ?_
    · intro i o f f' W hi h1 h2 h3
      match i, hi with
      | 0, _ => exact h1.symm.trans h3
      | 1, _ => obtain ⟨B, e, h⟩ := h3; exact ⟨B, h1.symm.trans e, h⟩
      | 2, _ => exact h1.symm.trans h3
      | 3, _ => exact h1.symm.trans h3
      | 4, _ => exact h1.symm.trans h3
      | 5, _ => exact h1.symm.trans h3
      | 6, _ => exact h1.symm.trans h3
      | 7, _ => obtain ⟨g, e, h⟩ := h3; exact ⟨g, h1.symm.trans e, h⟩
      | 8, hi =>
        cases hi
        obtain ⟨g, e, h⟩ := h3
        exact ⟨g, (h2 7 (by decide +kernel)).symm.trans e, h⟩
      | 9, _ => exact h1.symm.trans h3
      | _ + 10, _ => trivial
    · rintro u1 u2 hu (hb | ⟨g, hg, _, rfl⟩)
      · exact hu.trans (hb.mono hu.size)
      · exact nineV_below hu g hg _
    · intro i o hi a' w' hb ha hdep
      match i, hi with
      | 0, hi =>
        cases hi
        have d2 : a'.tmps.getD 2 undef = .pointer (some ⟨w.heap.size, 0, none⟩) := ha.at 2 (by kernel_rfl)
        have x0 : w'.cell? ⟨w.heap.size, 0, none⟩ = some (.slice p K cap) := (q0.below hb q0.lt).cell 0
        clear ha hdep
        go_simp
        exact ⟨_, rfl, .inl (Below.refl _ _), rfl⟩
      | 1, hi =>
        cases hi
        have d12 : a'.tmps.getD 12 undef = .agg #[.slice p K cap] := hdep 0 (by decide +kernel)
        clear ha hdep
        go_simp
        refine (HL.out _ (HX.out.below (hB.trans (hb.mono hB.size)))).mono ?_
        rintro e w2 ⟨B, rfl, _, hm, hb2⟩
        exact ⟨_, rfl, .inl hb2, B, rfl, hm⟩
      | 2, hi =>
        cases hi
        have d3 : a'.tmps.getD 3 undef = .pointer (some ⟨w.heap.size + 1, 0, none⟩) := ha.at 3 (by kernel_rfl)
        have x0 : w'.cell? ⟨w.heap.size + 1, 0, none⟩ = some (.int .i64 a) := (q1.below hb q1.lt).cell 0
        have x1 : w'.cell? ⟨w.heap.size + 1, 1, none⟩ = some (.int .i64 l) := (q1.below hb q1.lt).cell 1
        clear ha hdep
        go_simp
        exact ⟨_, rfl, .inl (Below.refl _ _), rfl⟩
      | 3, hi =>
        cases hi
        obtain ⟨B, d13, hm⟩ : ∃ B, a'.tmps.getD 13 undef = tabV B ∧ MapIs w' B rs := hdep 1 (by decide +kernel)
        have d14 : a'.tmps.getD 14 undef = .agg #[.int .i64 a, .int .i64 l] := hdep 2 (by decide +kernel)
        unfold tabV at d13
        clear ha hdep
        go_simp
        refine (HF.out _ _ hm).mono ?_
        rintro e w2 ⟨rfl, hb2⟩
        exact ⟨_, rfl, .inl hb2, rfl⟩
      | 4, hi =>
        cases hi
        have d15 : a'.tmps.getD 15 undef = .tuple #[.agg #[.int .i64 A, .int .i64 L, .int .i64 M, .int .i64 N, .int .i64 I, .int .i64 T, .int .i64 U, .int .i64 E, .bool C], .bool S] := hdep 3 (by decide +kernel)
        clear ha hdep
        go_simp
        exact ⟨_, rfl, .inl (Below.refl _ _), rfl⟩
      | 5, hi =>
        cases hi
        have d11 : a'.tmps.getD 11 undef = .tuple #[.agg #[.int .i64 A, .int .i64 L, .int .i64 M, .int .i64 N, .int .i64 I, .int .i64 T, .int .i64 U, .int .i64 E, .bool C], .bool S] := hdep 4 (by decide +kernel)
        clear ha hdep
        go_simp
        exact ⟨_, rfl, .inl (Below.refl _ _), rfl⟩
      | 6, hi =>
        cases hi
        have d11 : a'.tmps.getD 11 undef = .tuple #[.agg #[.int .i64 A, .int .i64 L, .int .i64 M, .int .i64 N, .int .i64 I, .int .i64 T, .int .i64 U, .int .i64 E, .bool C], .bool S] := hdep 4 (by decide +kernel)
        clear ha hdep
        go_simp
        exact ⟨_, rfl, .inl (Below.refl _ _), rfl⟩
      | 7, hi =>
        cases hi
        clear ha hdep
        go_simp
        exact ⟨_, rfl, .inl (ent_new0 _ _), w'.heap.size, rfl, hb.size, .inl (Row.new w' 30 [.int .i64 0, .int .i64 0, .int .i64 0, .int .i64 0, .int .i64 0, .int .i64 0, .int .i64 0, .int .i64 0, .bool false])⟩
      | 8, hi =>
        cases hi
        obtain ⟨g, d5, hg, hrow⟩ : ∃ g, a'.tmps.getD 5 undef = .pointer (some ⟨g, 0, none⟩) ∧ w1.heap.size ≤ g ∧ (Row w' g 30 (rtL zeroR) ∨ Row w' g 30 (rtL ⟨A, L, M, N, I, T, U, E, C⟩)) := hdep 7 (by decide +kernel)
        have d16 : a'.tmps.getD 16 undef = .agg #[.int .i64 A, .int .i64 L, .int .i64 M, .int .i64 N, .int .i64 I, .int .i64 T, .int .i64 U, .int .i64 E, .bool C] := hdep 5 (by decide +kernel)
        have hr0 : ∃ Z : Rt, Row w' g 30 (rtL Z) := by rcases hrow with h | h <;> exact ⟨_, h⟩
        obtain ⟨Z, hz⟩ := hr0
        have e0 : w'.cell? ⟨g, 0, none⟩ = some (.int .i64 Z.a) := hz.cell 0
        have f0 : w'.frozen? ⟨g, 0, none⟩ = false := hz.frozen 0
        have e1 : w'.cell? ⟨g, 1, none⟩ = some (.int .i64 Z.l) := hz.cell 1
        have f1 : w'.frozen? ⟨g, 1, none⟩ = false := hz.frozen 1
        have e2 : w'.cell? ⟨g, 2, none⟩ = some (.int .i64 Z.m) := hz.cell 2
        have f2 : w'.frozen? ⟨g, 2, none⟩ = false := hz.frozen 2
        have e3 : w'.cell? ⟨g, 3, none⟩ = some (.int .i64 Z.n) := hz.cell 3
        have f3 : w'.frozen? ⟨g, 3, none⟩ = false := hz.frozen 3
        have e4 : w'.cell? ⟨g, 4, none⟩ = some (.int .i64 Z.i) := hz.cell 4
        have f4 : w'.frozen? ⟨g, 4, none⟩ = false := hz.frozen 4
        have e5 : w'.cell? ⟨g, 5, none⟩ = some (.int .i64 Z.t) := hz.cell 5
        have f5 : w'.frozen? ⟨g, 5, none⟩ = false := hz.frozen 5
        have e6 : w'.cell? ⟨g, 6, none⟩ = some (.int .i64 Z.u) := hz.cell 6
        have f6 : w'.frozen? ⟨g, 6, none⟩ = false := hz.frozen 6
        have e7 : w'.cell? ⟨g, 7, none⟩ = some (.int .i64 Z.b) := hz.cell 7
        have f7 : w'.frozen? ⟨g, 7, none⟩ = false := hz.frozen 7
        have e8 : w'.cell? ⟨g, 8, none⟩ = some (.bool Z.c) := hz.cell 8
        have f8 : w'.frozen? ⟨g, 8, none⟩ = false := hz.frozen 8
        have hv := nineV_row ⟨A, L, M, N, I, T, U, E, C⟩ Z hz
        have HV : Hid _ := And.intro hv (And.intro hrow d5)
        clear ha hdep hv hrow hz
        go_simp
        exact ⟨.inr ⟨g, hg, HV.out.2.1, rfl⟩, g, HV.out.2.2, hg, HV.out.1⟩
      | 9, hi =>
        cases hi
        have d17 : a'.tmps.getD 17 undef = .bool S := hdep 6 (by decide +kernel)
        clear ha hdep
        go_simp
        exact ⟨_, rfl, .inl (Below.refl _ _), rfl⟩
      | _ + 10, hi => exact absurd hi (by simp)
    · intro a' w' hb ha hG
      obtain ⟨g, d5, hgl, hrg⟩ : ∃ g, a'.tmps.getD 5 undef = .pointer (some ⟨g, 0, none⟩) ∧ w1.heap.size ≤ g ∧ Row w' g 30 (rtL ⟨A, L, M, N, I, T, U, E, C⟩) := hG 8 _ rfl
      have d4 : a'.tmps.getD 4 undef = .pointer (some ⟨w.heap.size + 1 + 1, 0, none⟩) := ha.at 4 (by kernel_rfl)
      have e2 : a' = ⟨#[a'.tmps.getD 0 undef, a'.tmps.getD 1 undef, a'.tmps.getD 2 undef, a'.tmps.getD 3 undef, a'.tmps.getD 4 undef, a'.tmps.getD 5 undef, a'.tmps.getD 6 undef, a'.tmps.getD 7 undef, a'.tmps.getD 8 undef, a'.tmps.getD 9 undef, a'.tmps.getD 10 undef, a'.tmps.getD 11 undef, a'.tmps.getD 12 undef, a'.tmps.getD 13 undef, a'.tmps.getD 14 undef, a'.tmps.getD 15 undef, a'.tmps.getD 16 undef, a'.tmps.getD 17 undef, a'.tmps.getD 18 undef], []⟩ := by rw [← (show a'.defers = [] from ha.2.1)]; exact act_eq a' 19 ha.1
      rw [d5, d4] at e2
      clear hG ha d5 d4
      generalize a'.tmps.getD 0 undef = x0 at *
      generalize a'.tmps.getD 1 undef = x1 at *
      generalize a'.tmps.getD 2 undef = x2 at *
      generalize a'.tmps.getD 3 undef = x3 at *
      generalize a'.tmps.getD 6 undef = x6 at *
      generalize a'.tmps.getD 7 undef = x7 at *
      generalize a'.tmps.getD 8 undef = x8 at *
      generalize a'.tmps.getD 9 undef = x9 at *
      generalize a'.tmps.getD 10 undef = x10 at *
      generalize a'.tmps.getD 11 undef = x11 at *
      generalize a'.tmps.getD 12 undef = x12 at *
      generalize a'.tmps.getD 13 undef = x13 at *
      generalize a'.tmps.getD 14 undef = x14 at *
      generalize a'.tmps.getD 15 undef = x15 at *
      generalize a'.tmps.getD 16 undef = x16 at *
      generalize a'.tmps.getD 17 undef = x17 at *
      generalize a'.tmps.getD 18 undef = x18 at *
      subst e2
      have q2' := (q2.below hb q2.lt)
      have hB' := hB.trans (hb.mono hB.size)
      have hgn : ¬ g = w.heap.size + 1 + 1 := by omega
      have hgn' : ¬ w.heap.size + 1 + 1 = g := fun h => hgn h.symm
      have e0 : w'.cell? ⟨w.heap.size + 1 + 1, 0, none⟩ = some (.int .i64 0) := q2'.cell 0
      have f0 : w'.frozen? ⟨w.heap.size + 1 + 1, 0, none⟩ = false := q2'.frozen 0
      have i0 : w'.cell? ⟨g, 0, none⟩ = some (.int .i64 A) := hrg.cell 0
      have e1 : w'.cell? ⟨w.heap.size + 1 + 1, 1, none⟩ = some (.int .i64 0) := q2'.cell 1
      have f1 : w'.frozen? ⟨w.heap.size + 1 + 1, 1, none⟩ = false := q2'.frozen 1
      have i1 : w'.cell? ⟨g, 1, none⟩ = some (.int .i64 L) := hrg.cell 1
      have e2 : w'.cell? ⟨w.heap.size + 1 + 1, 2, none⟩ = some (.int .i64 0) := q2'.cell 2
      have f2 : w'.frozen? ⟨w.heap.size + 1 + 1, 2, none⟩ = false := q2'.frozen 2
      have i2 : w'.cell? ⟨g, 2, none⟩ = some (.int .i64 M) := hrg.cell 2
      have e3 : w'.cell? ⟨w.heap.size + 1 + 1, 3, none⟩ = some (.int .i64 0) := q2'.cell 3
      have f3 : w'.frozen? ⟨w.heap.size + 1 + 1, 3, none⟩ = false := q2'.frozen 3
      have i3 : w'.cell? ⟨g, 3, none⟩ = some (.int .i64 N) := hrg.cell 3
      have e4 : w'.cell? ⟨w.heap.size + 1 + 1, 4, none⟩ = some (.int .i64 0) := q2'.cell 4
      have f4 : w'.frozen? ⟨w.heap.size + 1 + 1, 4, none⟩ = false := q2'.frozen 4
      have i4 : w'.cell? ⟨g, 4, none⟩ = some (.int .i64 I) := hrg.cell 4
      have e5 : w'.cell? ⟨w.heap.size + 1 + 1, 5, none⟩ = some (.int .i64 0) := q2'.cell 5
      have f5 : w'.frozen? ⟨w.heap.size + 1 + 1, 5, none⟩ = false := q2'.frozen 5
      have i5 : w'.cell? ⟨g, 5, none⟩ = some (.int .i64 T) := hrg.cell 5
      have e6 : w'.cell? ⟨w.heap.size + 1 + 1, 6, none⟩ = some (.int .i64 0) := q2'.cell 6
      have f6 : w'.frozen? ⟨w.heap.size + 1 + 1, 6, none⟩ = false := q2'.frozen 6
      have i6 : w'.cell? ⟨g, 6, none⟩ = some (.int .i64 U) := hrg.cell 6
      have e7 : w'.cell? ⟨w.heap.size + 1 + 1, 7, none⟩ = some (.int .i64 0) := q2'.cell 7
      have f7 : w'.frozen? ⟨w.heap.size + 1 + 1, 7, none⟩ = false := q2'.frozen 7
      have i7 : w'.cell? ⟨g, 7, none⟩ = some (.int .i64 E) := hrg.cell 7
      have e8 : w'.cell? ⟨w.heap.size + 1 + 1, 8, none⟩ = some (.bool false) := q2'.cell 8
      have f8 : w'.frozen? ⟨w.heap.size + 1 + 1, 8, none⟩ = false := q2'.frozen 8
      have i8 : w'.cell? ⟨g, 8, none⟩ = some (.bool C) := hrg.cell 8
      have HH : Hid _ := And.intro ((((((((((q2'.set 0 (.int .i64 A)).set 1 (.int .i64 L)).set 2 (.int .i64 M)).set 3 (.int .i64 N)).set 4 (.int .i64 I)).set 5 (.int .i64 T)).set 6 (.int .i64 U)).set 7 (.int .i64 E)).set 8 (.bool C))) ((((((((((hB'.setCell (p := ⟨w.heap.size + 1 + 1, 0, none⟩) (by show w.heap.size ≤ w.heap.size + 1 + 1; omega) (.int .i64 A)).setCell (p := ⟨w.heap.size + 1 + 1, 1, none⟩) (by show w.heap.size ≤ w.heap.size + 1 + 1; omega) (.int .i64 L)).setCell (p := ⟨w.heap.size + 1 + 1, 2, none⟩) (by show w.heap.size ≤ w.heap.size + 1 + 1; omega) (.int .i64 M)).setCell (p := ⟨w.heap.size + 1 + 1, 3, none⟩) (by show w.heap.size ≤ w.heap.size + 1 + 1; omega) (.int .i64 N)).setCell (p := ⟨w.heap.size + 1 + 1, 4, none⟩) (by show w.heap.size ≤ w.heap.size + 1 + 1; omega) (.int .i64 I)).setCell (p := ⟨w.heap.size + 1 + 1, 5, none⟩) (by show w.heap.size ≤ w.heap.size + 1 + 1; omega) (.int .i64 T)).setCell (p := ⟨w.heap.size + 1 + 1, 6, none⟩) (by show w.heap.size ≤ w.heap.size + 1 + 1; omega) (.int .i64 U)).setCell (p := ⟨w.heap.size + 1 + 1, 7, none⟩) (by show w.heap.size ≤ w.heap.size + 1 + 1; omega) (.int .i64 E)).setCell (p := ⟨w.heap.size + 1 + 1, 8, none⟩) (by show w.heap.size ≤ w.heap.size + 1 + 1; omega) (.bool C)))
      clear hb q0 q1 q2 hB HL HF HX q2' hB' hrg
      go_wp2_with fail
      have HH2 := HH.out
      clear HH e0 f0 i0 e1 f1 i1 e2 f2 i2 e3 f3 i3 e4 f4 i4 e5 f5 i5 e6 f6 i6 e7 f7 i7 e8 f8 i8
      generalize (((((((((w'.setCell ⟨w.heap.size + 1 + 1, 0, none⟩ (.int .i64 A)).setCell ⟨w.heap.size + 1 + 1, 1, none⟩ (.int .i64 L)).setCell ⟨w.heap.size + 1 + 1, 2, none⟩ (.int .i64 M)).setCell ⟨w.heap.size + 1 + 1, 3, none⟩ (.int .i64 N)).setCell ⟨w.heap.size + 1 + 1, 4, none⟩ (.int .i64 I)).setCell ⟨w.heap.size + 1 + 1, 5, none⟩ (.int .i64 T)).setCell ⟨w.heap.size + 1 + 1, 6, none⟩ (.int .i64 U)).setCell ⟨w.heap.size + 1 + 1, 7, none⟩ (.int .i64 E)).setCell ⟨w.heap.size + 1 + 1, 8, none⟩ (.bool C)) = Z at *
      obtain ⟨h1, h2⟩ := HH2
      have e0 : Z.cell? ⟨w.heap.size + 1 + 1, 0, none⟩ = some (.int .i64 A) := h1.cell 0
      have e1 : Z.cell? ⟨w.heap.size + 1 + 1, 1, none⟩ = some (.int .i64 L) := h1.cell 1
      have e2 : Z.cell? ⟨w.heap.size + 1 + 1, 2, none⟩ = some (.int .i64 M) := h1.cell 2
      have e3 : Z.cell? ⟨w.heap.size + 1 + 1, 3, none⟩ = some (.int .i64 N) := h1.cell 3
      have e4 : Z.cell? ⟨w.heap.size + 1 + 1, 4, none⟩ = some (.int .i64 I) := h1.cell 4
      have e5 : Z.cell? ⟨w.heap.size + 1 + 1, 5, none⟩ = some (.int .i64 T) := h1.cell 5
      have e6 : Z.cell? ⟨w.heap.size + 1 + 1, 6, none⟩ = some (.int .i64 U) := h1.cell 6
      have e7 : Z.cell? ⟨w.heap.size + 1 + 1, 7, none⟩ = some (.int .i64 E) := h1.cell 7
      have e8 : Z.cell? ⟨w.heap.size + 1 + 1, 8, none⟩ = some (.bool C) := h1.cell 8
      refine bodyPost_ret (v := .agg #[.int .i64 A, .int .i64 L, .int .i64 M, .int .i64 N, .int .i64 I, .int .i64 T, .int .i64 U, .int .i64 E, .bool C]) (by simp [results, Try.results12, go_sem, e0, e1, e2, e3, e4, e5, e6, e7, e8]) rfl ⟨by rw [HR.out]; rfl, h2⟩
end Go.Proofs.Ytkkhjeigndcmaab
