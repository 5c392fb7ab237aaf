/- Texts that stand on each other, in one file: LnkI, MshI, MeshS. -/
import Derived.Test.YtcnadobnihbldaaGreatPack19
import Derived.Test.YtcnadobnihbldaaGreatPack13
import Derived.Test.YtcnadobnihbldaaGreatPack27
import Derived.Maps.AppendAt
import Derived.Test.YtcnadobnihbldaaGreatTail
import Derived.Lib.QuietBelow
import Derived.BigQuiet
/- linksRight of the program. (Written by gen_lnki.py.) -/
namespace Go.Proofs.YtcnadobnihbldaaGreat
open Go.RowKit Go.Sort Go.Shelf

attribute [local go_sem] Oper.semAt_some

theorem Tryz.infoEnd : (Tryz.prog.info? 135).map (fun i => (i.zero, i.size, i.bytes)) = some (some (.agg #[.int .i64 0, .int .i64 0]), 2, 16) := by kernel_rfl
theorem cell_new_many (W : World) (xs : List Value) (t : TypeId) : ∀ j u, xs[j]? = some u → (W.alloc (.cells xs.toArray t)).cell? ((⟨W.heap.size, 0, none⟩ : Addr).add j) = some u := by
  intro j u hj
  have := (Row.new W t xs).cell j
  rw [hj] at this
  have e : (⟨W.heap.size, 0, none⟩ : Addr).add j = ⟨W.heap.size, j, none⟩ := by
    unfold Addr.add
    by_cases h : j = 0
    · subst h; rfl
    · rw [if_neg h]; simp
  rw [e]
  exact this
theorem KpW.alloc (W : World) (o : Obj) : KpW W (W.alloc o) := KpW.below (ent_new0 W o)
theorem KpW.set {W : World} {g : Nat} {t : TypeId} {l : List Value} (k : Nat) (v : Value) (h : Row W g t l) (h1 : t ≠ 56) (h2 : t ≠ 146) : KpW W (W.setCell ⟨g, k, none⟩ v) := by
  refine KpW.mk (by simp) (fun i cur t' hi ht => Below.heap_setCell _ _ _ _ (fun e => ?_))
  have e : i = g := e
  subst e
  rw [show W.heap[i]? = _ from h] at hi
  simp only [Option.some.injEq, Obj.cells.injEq] at hi
  obtain ⟨_, ht', _⟩ := hi
  rcases ht with rfl | rfl
  · exact h1 ht'
  · exact h2 ht'
theorem kpw_appended {W w1 : World} {n₀ B : Nat} {v v' : Value} {k : Nat} {xs : List Value} {tmp : Obj} {tb te : TypeId} {sz : Nat} (h1 : tb ≠ 56) (h2 : tb ≠ 146) (h3 : te ≠ 56) (h4 : te ≠ 146) (hv : Boxed W B tb v) (hrow : W.ownsRow n₀ te sz v k xs) (hgrow : (W.alloc tmp).grownBy w1 v.ownBlock) (hk : KeepsOthers W (w1.setCell ⟨B, 0, none⟩ v')) : KpW W (w1.setCell ⟨B, 0, none⟩ v') := by
  refine KpW.mk hk.size (fun i cur t hi ht => ?_)
  have hlt : i < W.heap.size := (Array.getElem?_eq_some_iff.1 hi).1
  have hne : i ≠ B := by
    intro e
    subst e
    have h' : W.heap[i]? = some (.cells #[v] tb (0, 0)) := hv
    rw [h'] at hi
    simp only [Option.some.injEq, Obj.cells.injEq] at hi
    obtain ⟨_, ht', _⟩ := hi
    rcases ht with rfl | rfl
    · exact h1 ht'
    · exact h2 ht'
  have hnr : some i ≠ v.ownBlock := by
    intro e
    rcases hrow.2 with ⟨rfl, _⟩ | ⟨g, cap, cur', rfl, _, hg, _⟩
    · simp [Value.ownBlock] at e
    · obtain rfl : i = g := by simpa [Value.ownBlock] using e
      rw [hg] at hi
      simp only [Option.some.injEq, Obj.cells.injEq] at hi
      obtain ⟨_, ht', _⟩ := hi
      rcases ht with rfl | rfl
      · exact h3 ht'
      · exact h4 ht'
  rw [Below.heap_setCell w1 ⟨B, 0, none⟩ v' i (fun e => hne e), hgrow.block i (by simp; omega) hnr, Below.heap_alloc W tmp i hlt]
theorem row_appended {W w1 : World} {n₀ B g : Nat} {v v' : Value} {k : Nat} {xs l : List Value} {tmp : Obj} {t te : TypeId} {sz : Nat} (hne : g ≠ B) (ht : t ≠ te) (hr : Row W g t l) (hrow : W.ownsRow n₀ te sz v k xs) (hgrow : (W.alloc tmp).grownBy w1 v.ownBlock) : Row (w1.setCell ⟨B, 0, none⟩ v') g t l := by
  have hnr : some g ≠ v.ownBlock := by
    intro e
    rcases hrow.2 with ⟨rfl, _⟩ | ⟨g', cap, cur', rfl, _, hg, _⟩
    · simp [Value.ownBlock] at e
    · obtain rfl : g = g' := by simpa [Value.ownBlock] using e
      rw [show W.heap[g]? = _ from hr] at hg
      simp only [Option.some.injEq, Obj.cells.injEq] at hg
      exact ht hg.2.1
  have h1 : w1.heap[g]? = W.heap[g]? := (hgrow.block g (by have := hr.lt; simp; omega) hnr).trans (Below.heap_alloc W tmp g hr.lt)
  exact (Below.heap_setCell w1 ⟨B, 0, none⟩ v' g (fun e => hne e)).trans (h1.trans hr)
theorem row_ownL {β : Type} (B : Nat) (t : TypeId) (f : β → List Value) : Own (fun s W => Row W B t (f s)) := fun s X Y row hs hg hrow => by
  refine (hg.block B hs.lt (fun e => ?_)).trans hs
  obtain ⟨o, ho, hc⟩ := hrow B e.symm
  rw [show X.heap[B]? = _ from hs] at ho
  cases ho
  cases hc
theorem keeps_belowL {W W' : World} (h : Below W.heap.size W W') : KeepsOthers W W' := ⟨h.size, fun k o hk _ => by rw [h.block k (Array.getElem?_eq_some_iff.1 hk).1]; exact hk⟩
/-- All ways so far were let by. -/
def goodE (ts : List Iv) (ys : List Wy) : Prop := ∀ j y, ys[j]? = some y → stepB ts (ys.take j) y = true
theorem goodE_next {ts : List Iv} {ys : List Wy} {y : Wy} (h : goodE ts ys) (hy : stepB ts ys y = true) : goodE ts (ys ++ [y]) := by
  intro j z hj
  rcases Nat.lt_or_ge j ys.length with h1 | h1
  · rw [List.getElem?_append_left h1] at hj
    rw [List.take_append_of_le_length (by omega)]
    exact h j z hj
  · rw [List.getElem?_append_right h1] at hj
    have h0 : j - ys.length = 0 := by
      rcases Nat.eq_zero_or_pos (j - ys.length) with h2 | h2
      · exact h2
      · rw [List.getElem?_eq_none (by simp; omega)] at hj; cases hj
    rw [h0] at hj
    simp only [List.getElem?_cons_zero, Option.some.injEq] at hj
    subst hj
    rw [show j = ys.length by omega, List.take_append_of_le_length (Nat.le_refl _), List.take_length]
    exact hy
theorem takenE_snoc (ys : List Wy) (y : Wy) : takenE (ys ++ [y]) = takenE ys ++ [y.1] := by simp [takenE]
theorem pre_next {ls : List Li} {pre : List (WyS ls)} {x : WyS ls} (h : (pre ++ [x]) <+: wayS ls) : (wayL ls)[pre.length]? = some x.1 ∧ (wayL ls).take pre.length = pre.map (·.1) := by
  obtain ⟨r, hr⟩ := h
  have e : wayL ls = pre.map (·.1) ++ ([x.1] ++ r.map (·.1)) := (wayS_map ls).symm.trans (by rw [← hr]; simp)
  have k : ∀ W : List Wy, W = pre.map (·.1) ++ ([x.1] ++ r.map (·.1)) → W[pre.length]? = some x.1 ∧ W.take pre.length = pre.map (·.1) := by
    rintro W rfl
    constructor
    · rw [List.getElem?_append_right (by simp)]
      simp
    · rw [List.take_append_of_le_length (by simp), List.take_of_length_le (by simp)]
  exact k _ e
theorem boxed_below {W W' : World} {B : Nat} {t : TypeId} {v : Value} (h : Boxed W B t v) (hb : Below W.heap.size W W') : Boxed W' B t v := (show Row W B t [v] from h).below hb h.lt
theorem ownsRow_below {W W' : World} {n0 : Nat} {t : TypeId} {sz : Nat} {v : Value} {n : Nat} {xs : List Value} (h : W.ownsRow n0 t sz v n xs) (hb : Below W.heap.size W W') : W'.ownsRow n0 t sz v n xs := by
  obtain ⟨h1, h2⟩ := h
  refine ⟨h1, ?_⟩
  rcases h2 with h2 | ⟨g, cap, cur, e, hbg, hg, rest⟩
  · exact .inl h2
  · exact .inr ⟨g, cap, cur, e, hbg, (hb.block g (Array.getElem?_eq_some_iff.1 hg).1).trans hg, rest⟩
set_option maxRecDepth 100000 in
set_option maxHeartbeats 4000000 in
theorem linksRight_any (p : Option Addr) (c1 : Nat) (ps : List IvP) (q : Option Addr) (c2 : Nat) (ls : List Li) (w : World) (h : IvsIn w p ps) (hL : LisAt w q ls) (hn : ps.length ≤ 100000000) (hm : ls.length ≤ 100000000) :
    Calls Tryz.prog 76 #[.agg #[.slice p ps.length c1, .slice q ls.length c2]] w fun e w' => e = .returned (.bool (linksB (ps.map (·.2)) ls)) ∧ Below w.heap.size w w' := by
  have HX : Hid (IvsIn w p ps) := h
  have HL : Hid (LisAt w q ls) := hL
  have HEnd : Hid (∀ e0 e1 w, IvsIn w p ps → Calls Tryz.prog 117 #[.agg #[.slice p ps.length c1, .slice q ls.length c2], .agg #[.int .i64 e0, .int .i64 e1]] w fun e w' => e = .returned (.bool (endB (ps.map (·.2)) (e0, e1))) ∧ Below w.heap.size w w') := fun e0 e1 w h => hasEnd_any p c1 ps q ls.length c2 e0 e1 w h hn
  have HFit : Hid (∀ (r i s j : Nat), r < ps.length → i < ((ps.map (fun x : IvP => x.2))[r]!).is.length → s < ps.length → j < ((ps.map (fun x : IvP => x.2))[s]!).is.length → ∀ w, IvsIn w p ps → Calls Tryz.prog 118 #[.agg #[.slice p ps.length c1, .slice q ls.length c2], .agg #[.int .i64 (r : Int), .int .i64 (i : Int)], .agg #[.int .i64 (s : Int), .int .i64 (j : Int)]] w fun e w' => e = .returned (.bool (fitB (ps.map (·.2)) ((r : Int), (i : Int)) ((s : Int), (j : Int)))) ∧ Below w.heap.size w w') := fun r i s j a b c d w h => fitting_any p c1 ps q ls.length c2 r i s j w h a b c d hn
  have HM : Hid (∀ w, Calls Tryz.prog 116 #[.slice q ls.length c2] w fun e w' => e = .returned (.func (.func 147) #[] #[.pointer (some ⟨w.heap.size, 0, none⟩)]) ∧ w.alloc (.cells #[.slice q ls.length c2] 24) = w') := fun w => ways_make q ls.length c2 w
  clear h hL
  by_cases h4 : ls.length ≤ 4
  case neg =>
    rw [linksB_long h4]
    have d4 : decide (4 < (ls.length : Int)) = true := by simp; omega
    have HB : Hid (Below w.heap.size w ((w.alloc (.cells #[.slice p ps.length c1, .slice q ls.length c2] 26)).alloc (.cells #[.bool false] 4))) := (ent_new0 w _).alloc (by simp) _
    clear HX HL HEnd HFit HM
    go_enter Tryz.func76, Tryz.ntmps76
    go_wp2
    refine bodyPost_ret (v := .bool false) (by simp [results, Tryz.results76, go_sem]) rfl ⟨rfl, ?_⟩
    exact HB.out
  have d4 : decide (4 < (ls.length : Int)) = false := by simp; omega
  obtain ⟨W, hW, q0, q1, q2, hB, hS⟩ := three_new w [.slice p ps.length c1, .slice q ls.length c2] [.bool false] [.slice none 0 0] 26 4 170
  have HW : Hid _ := hW
  have HQ : Hid _ := And.intro q0 (And.intro q1 (And.intro q2 (And.intro hB hS)))
  clear hW q0 q1 q2 hB hS
  refine (callsIn_wide (n := 9)).1 ?_
  refine callsIn_of_wp_marks Tryz.func76 rfl trivial ?_ rfl
  simp only [Tryz.ntmps76, List.size_toArray, List.length_cons, List.length_nil, Nat.reduceAdd, Nat.reduceSub, Array.replicate_succ, Array.replicate_zero, List.push_toArray, List.append_toArray, List.nil_append, List.cons_append]
  gi_wp2_with fail
  rw [← HW.out]
  refine ⟨trivial, ?_⟩
  refine (callsIn_wide.2 (HM.out _)).mono ?_
  rintro e Z ⟨rfl, hZ⟩
  gi_wp2_with fail
  obtain ⟨q0, q1, q2, hB, hS⟩ := HQ.out
  have hb3 : Below W.heap.size W Z := hZ ▸ ent_new0 W _
  have hq3 : Row Z W.heap.size 24 [.slice q ls.length c2] := hZ ▸ Row.new W 24 [.slice q ls.length c2]
  have hsZ : Z.heap.size = w.heap.size + 1 + 1 + 1 + 1 := by rw [← hZ]; simp [hS]
  have q0 := q0.below hb3 q0.lt
  have q1 := q1.below hb3 q1.lt
  have q2 : Boxed Z (w.heap.size + 1 + 1) 170 (.slice none 0 0) := q2.below hb3 q2.lt
  have hB := hB.trans (hb3.mono hB.size)
  have hLZ := HL.out.below hB
  generalize W.heap.size = b3 at *
  clear hb3 hZ HW HM HQ hS d4
  refine wpIn_rangeFunc_ownH rfl (by omega) (gf := 147) (lb := #[.pointer (some ⟨b3, 0, none⟩)]) rfl trivial (enters_of Tryz.func147 (by kernel_rfl) rfl)
    (ways_stops (9 - 1) (by omega) b3 q c2 ls hm Z hq3 hLZ) KpW.t KpW.b (Below.refl _ _) (fun _ => rfl)
    (fun pre W => (∃ v, Boxed W (w.heap.size + 1 + 1) 170 v ∧ W.ownsRow w.heap.size 135 2 v pre.length (rowEn (takenE (pre.map (·.1)))) ∧ goodE (ps.map (·.2)) (pre.map (·.1))) ∧ Row W w.heap.size 26 [.slice p ps.length c1, .slice q ls.length c2] ∧ Row W (w.heap.size + 1) 4 [.bool false] ∧ Below w.heap.size w W)
    (fun c pre W => c = .ret ∧ (∃ pre0 y, pre = pre0 ++ [y] ∧ stepB (ps.map (·.2)) (pre0.map (·.1)) y.1 = false) ∧ Row W (w.heap.size + 1) 4 [.bool false] ∧ Below w.heap.size w W)
    (OwnFrom.and (Own.from (holdsRow_own w.heap.size (w.heap.size + 1 + 1) 170 135 2 (fun pre : List (WyS ls) => pre.length) (fun pre => rowEn (takenE (pre.map (·.1)))) (fun pre _ => goodE (ps.map (·.2)) (pre.map (·.1)))) _) (OwnFrom.and (Own.from (row_ownL _ _ (fun _ : List (WyS ls) => [.slice p ps.length c1, .slice q ls.length c2])) _) (OwnFrom.and (Own.from (row_ownL _ _ (fun _ : List (WyS ls) => [Value.bool false])) _) (ownFrom_below (Nat.le_refl _) (by omega)))))
    (fun c => OwnFrom.and (ownFrom_pure _ (fun _ : List (WyS ls) => c = .ret)) (OwnFrom.and (ownFrom_pure _ (fun pre : List (WyS ls) => ∃ pre0 y, pre = pre0 ++ [y] ∧ stepB (ps.map (·.2)) (pre0.map (·.1)) y.1 = false)) (OwnFrom.and (Own.from (row_ownL _ _ (fun _ : List (WyS ls) => [Value.bool false])) _) (ownFrom_below (Nat.le_refl _) (by omega)))))
    ⟨⟨_, q2, World.ownsRow_nil Z _ _ 2, fun j y hj => by simp at hj⟩, q0, q1, hB⟩
    (fun y a' W => ∃ Bf Bt, w.heap.size + 1 + 1 < Bf ∧ Bf < Bt ∧ Row W Bf 135 [.int .i64 y.1.1.1, .int .i64 y.1.1.2] ∧ Row W Bt 135 [.int .i64 y.1.2.1, .int .i64 y.1.2.2] ∧ a' = { tmps := #[.agg #[.slice p ps.length c1, .slice q ls.length c2], .pointer (some ⟨w.heap.size, 0, none⟩), .pointer (some ⟨w.heap.size + 1, 0, none⟩), .pointer (some ⟨w.heap.size + 1 + 1, 0, none⟩), .pointer (some ⟨Bf, 0, none⟩), .pointer (some ⟨Bt, 0, none⟩), .pointer (some ⟨w.heap.size, 1, none⟩), .slice q ls.length c2, .int .i64 (ls.length : Int), .bool false, .pointer (some ⟨w.heap.size, 1, none⟩), .slice q ls.length c2, .func (.func 147) #[] #[.pointer (some ⟨b3, 0, none⟩)], .agg #[.int .i64 y.1.1.1, .int .i64 y.1.1.2], .agg #[.int .i64 y.1.2.1, .int .i64 y.1.2.2], undef, undef, undef, undef, undef, undef, undef, undef, undef, undef, undef, undef, undef, undef, undef, undef, undef, undef, undef, undef, undef, undef, undef, undef, undef, undef], defers := [] })
    (fun y a' _ X Y row hs hg hr => by
      obtain ⟨Bf, Bt, h1, h2, h3, h4, h5⟩ := hs
      refine ⟨Bf, Bt, h1, h2, (hg.block Bf h3.lt (fun e => ?_)).trans h3, (hg.block Bt h4.lt (fun e => ?_)).trans h4, h5⟩
      · obtain ⟨_, o, ho, hc⟩ := hr Bf e.symm
        rw [show X.heap[Bf]? = _ from h3] at ho
        cases ho
        cases hc
      · obtain ⟨_, o, ho, hc⟩ := hr Bt e.symm
        rw [show X.heap[Bt]? = _ from h4] at ho
        cases ho
        cases hc)
    ?assign ?body ?done ?stop
  case assign =>
    rintro l pre y W K ⟨⟨v, bv, hv, hgd⟩, rm, rr, hB⟩ hK
    unfold wyA at hK ⊢
    gi_wp2
    exact hK _ _ (((KeepsOthers.alloc _ _).trans (KeepsOthers.alloc _ _)).from _) ((KpW.alloc _ _).t (KpW.alloc _ _)) ⟨⟨v, (bv.alloc _).alloc _, (hv.alloc _).alloc _, hgd⟩, (rm.alloc _).alloc _, (rr.alloc _).alloc _, (hB.alloc hB.size _).alloc (by have := hB.size; simp; omega) _⟩ ⟨W.heap.size, W.heap.size + 1, by have := bv.lt; omega, by omega, (Row.new W 135 [.int .i64 y.1.1.1, .int .i64 y.1.1.2]).alloc _, (by have := Row.new (W.alloc (.cells #[.int .i64 y.1.1.1, .int .i64 y.1.1.2] 135)) 135 [.int .i64 y.1.2.1, .int .i64 y.1.2.2]; rw [show (W.alloc (.cells #[.int .i64 y.1.1.1, .int .i64 y.1.1.2] 135)).heap.size = W.heap.size + 1 by simp] at this; exact this), rfl⟩
  case body =>
    rintro l pre y a' Wa hl ⟨r, hr⟩ ⟨⟨v, bv, hv, hgd⟩, rm, rr, hB⟩ ⟨Bf, Bt, hBf, hBt, rf, rt, rfl⟩ hlt
    obtain ⟨⟨⟨a0, a1⟩, ⟨b0, b1⟩⟩, hmem⟩ := y
    simp only at rf rt ⊢
    have hgd : Hid _ := hgd
    obtain ⟨pv, cv, rfl, hE0⟩ := ensIn_own hv (by rw [takenE, List.length_map, List.length_map])
    have hkk : KpW Wa Wa := KpW.below (Below.refl _ _)
    have hko : KeepsOthers Wa Wa := KeepsOthers.refl _
    clear hE0 hr
    have m0 : Wa.cell? ⟨w.heap.size, 0, none⟩ = some (.slice p ps.length c1) := rm.cell 0
    have m1 : Wa.cell? ⟨w.heap.size, 1, none⟩ = some (.slice q ls.length c2) := rm.cell 1
    have f0 : Wa.cell? ⟨Bf, 0, none⟩ = some (.int .i64 a0) := rf.cell 0
    have f1 : Wa.cell? ⟨Bf, 1, none⟩ = some (.int .i64 a1) := rf.cell 1
    have t0 : Wa.cell? ⟨Bt, 0, none⟩ = some (.int .i64 b0) := rt.cell 0
    have t1 : Wa.cell? ⟨Bt, 1, none⟩ = some (.int .i64 b1) := rt.cell 1
    have v0 : Wa.cell? ⟨w.heap.size + 1 + 1, 0, none⟩ = some (.slice pv (takenE (pre.map (·.1))).length cv) := bv.cell
    gi_wp2_with fail
    clear m0 m1 f0 f1 t0 t1 v0
    refine ⟨trivial, (CallsIn.inRound l (callsIn_wide.2 (HEnd.out a0 a1 _ (HX.out.below hB)))).mono ?_⟩
    rintro e W1 ⟨rfl, hb⟩
    have rm := rm.below hb rm.lt
    have rr := rr.below hb rr.lt
    have rf := rf.below hb rf.lt
    have rt := rt.below hb rt.lt
    have bv := boxed_below bv hb
    have hv := ownsRow_below hv hb
    have hB := hB.trans (hb.mono hB.size)
    have hkk := hkk.t (KpW.below hb)
    have hko := hko.trans (keeps_belowL hb)
    clear hb
    cases hA : endB (ps.map (·.2)) (a0, a1)
    · have hst : stepB (ps.map (·.2)) (pre.map (·.1)) ((a0, a1), (b0, b1)) = false := by unfold stepB wayB; rw [hA]; rfl
      clear hA
      have r0 : W1.cell? ⟨w.heap.size + 1, 0, none⟩ = some (.bool false) := rr.cell 0
      have rz : W1.frozen? ⟨w.heap.size + 1, 0, none⟩ = false := rr.frozen 0
      have HF : Hid (KeepsFrom Z.heap.size Wa (W1.setCell ⟨w.heap.size + 1, 0, none⟩ (.bool false)) ∧ Row (W1.setCell ⟨w.heap.size + 1, 0, none⟩ (.bool false)) (w.heap.size + 1) 4 [.bool false] ∧ Below w.heap.size w (W1.setCell ⟨w.heap.size + 1, 0, none⟩ (.bool false))) := ⟨(hko.trans (KeepsOthers.setCell _ _ _)).from _, rr.set 0 (.bool false), hB.setCell (p := ⟨w.heap.size + 1, 0, none⟩) (by show w.heap.size ≤ w.heap.size + 1; omega) (.bool false)⟩
      have hbb : Hid _ := hst
      clear hst rm rr rf rt bv hv hB hkk hko
      gi_wp2
      repeat (refine ⟨trivial, ?_⟩; gi_wp2)
      exact ⟨HF.out.1, rfl, ⟨_, _, rfl, hbb.out⟩, HF.out.2.1, HF.out.2.2⟩
    have m0 : W1.cell? ⟨w.heap.size, 0, none⟩ = some (.slice p ps.length c1) := rm.cell 0
    have m1 : W1.cell? ⟨w.heap.size, 1, none⟩ = some (.slice q ls.length c2) := rm.cell 1
    have f0 : W1.cell? ⟨Bf, 0, none⟩ = some (.int .i64 a0) := rf.cell 0
    have f1 : W1.cell? ⟨Bf, 1, none⟩ = some (.int .i64 a1) := rf.cell 1
    have t0 : W1.cell? ⟨Bt, 0, none⟩ = some (.int .i64 b0) := rt.cell 0
    have t1 : W1.cell? ⟨Bt, 1, none⟩ = some (.int .i64 b1) := rt.cell 1
    have v0 : W1.cell? ⟨w.heap.size + 1 + 1, 0, none⟩ = some (.slice pv (takenE (pre.map (·.1))).length cv) := bv.cell
    have hA' : Hid _ := hA
    clear hA
    gi_wp2_with fail
    clear m0 m1 f0 f1 t0 t1 v0
    refine ⟨trivial, (CallsIn.inRound l (callsIn_wide.2 (HEnd.out b0 b1 _ (HX.out.below hB)))).mono ?_⟩
    rintro e W2 ⟨rfl, hb⟩
    have rm := rm.below hb rm.lt
    have rr := rr.below hb rr.lt
    have rf := rf.below hb rf.lt
    have rt := rt.below hb rt.lt
    have bv := boxed_below bv hb
    have hv := ownsRow_below hv hb
    have hB := hB.trans (hb.mono hB.size)
    have hkk := hkk.t (KpW.below hb)
    have hko := hko.trans (keeps_belowL hb)
    clear hb
    cases hC : endB (ps.map (·.2)) (b0, b1)
    · have hst : stepB (ps.map (·.2)) (pre.map (·.1)) ((a0, a1), (b0, b1)) = false := by unfold stepB wayB; rw [hA'.out, hC]; rfl
      clear hC
      have r0 : W2.cell? ⟨w.heap.size + 1, 0, none⟩ = some (.bool false) := rr.cell 0
      have rz : W2.frozen? ⟨w.heap.size + 1, 0, none⟩ = false := rr.frozen 0
      have HF : Hid (KeepsFrom Z.heap.size Wa (W2.setCell ⟨w.heap.size + 1, 0, none⟩ (.bool false)) ∧ Row (W2.setCell ⟨w.heap.size + 1, 0, none⟩ (.bool false)) (w.heap.size + 1) 4 [.bool false] ∧ Below w.heap.size w (W2.setCell ⟨w.heap.size + 1, 0, none⟩ (.bool false))) := ⟨(hko.trans (KeepsOthers.setCell _ _ _)).from _, rr.set 0 (.bool false), hB.setCell (p := ⟨w.heap.size + 1, 0, none⟩) (by show w.heap.size ≤ w.heap.size + 1; omega) (.bool false)⟩
      have hbb : Hid _ := hst
      clear hst rm rr rf rt bv hv hB hkk hko
      gi_wp2
      repeat (refine ⟨trivial, ?_⟩; gi_wp2)
      exact ⟨HF.out.1, rfl, ⟨_, _, rfl, hbb.out⟩, HF.out.2.1, HF.out.2.2⟩
    have m0 : W2.cell? ⟨w.heap.size, 0, none⟩ = some (.slice p ps.length c1) := rm.cell 0
    have m1 : W2.cell? ⟨w.heap.size, 1, none⟩ = some (.slice q ls.length c2) := rm.cell 1
    have f0 : W2.cell? ⟨Bf, 0, none⟩ = some (.int .i64 a0) := rf.cell 0
    have f1 : W2.cell? ⟨Bf, 1, none⟩ = some (.int .i64 a1) := rf.cell 1
    have t0 : W2.cell? ⟨Bt, 0, none⟩ = some (.int .i64 b0) := rt.cell 0
    have t1 : W2.cell? ⟨Bt, 1, none⟩ = some (.int .i64 b1) := rt.cell 1
    have v0 : W2.cell? ⟨w.heap.size + 1 + 1, 0, none⟩ = some (.slice pv (takenE (pre.map (·.1))).length cv) := bv.cell
    have hC' : Hid _ := hC
    clear hC
    obtain ⟨r1, i1, e1, hr1, hi1⟩ := endB_spec hA'.out
    obtain ⟨s1, j1, e2, hs1, hj1⟩ := endB_spec hC'.out
    simp only [Prod.mk.injEq] at e1 e2
    obtain ⟨rfl, rfl⟩ := e1
    obtain ⟨rfl, rfl⟩ := e2
    rw [List.length_map] at hr1 hs1
    have HFk : Hid _ := HFit.out r1 i1 s1 j1 hr1 hi1 hs1 hj1
    clear hr1 hi1 hs1 hj1
    gi_wp2_with fail
    clear m0 m1 f0 f1 t0 t1 v0
    refine ⟨trivial, (CallsIn.inRound l (callsIn_wide.2 (HFk.out _ (HX.out.below hB)))).mono ?_⟩
    rintro e W3 ⟨rfl, hb⟩
    have rm := rm.below hb rm.lt
    have rr := rr.below hb rr.lt
    have rf := rf.below hb rf.lt
    have rt := rt.below hb rt.lt
    have bv := boxed_below bv hb
    have hv := ownsRow_below hv hb
    have hB := hB.trans (hb.mono hB.size)
    have hkk := hkk.t (KpW.below hb)
    have hko := hko.trans (keeps_belowL hb)
    clear hb
    cases hD : fitB (ps.map (·.2)) ((r1 : Int), (i1 : Int)) ((s1 : Int), (j1 : Int))
    · have hst : stepB (ps.map (·.2)) (pre.map (·.1)) (((r1 : Int), (i1 : Int)), ((s1 : Int), (j1 : Int))) = false := by unfold stepB wayB; rw [hA'.out, hC'.out, hD]; rfl
      clear hD
      have r0 : W3.cell? ⟨w.heap.size + 1, 0, none⟩ = some (.bool false) := rr.cell 0
      have rz : W3.frozen? ⟨w.heap.size + 1, 0, none⟩ = false := rr.frozen 0
      have HF : Hid (KeepsFrom Z.heap.size Wa (W3.setCell ⟨w.heap.size + 1, 0, none⟩ (.bool false)) ∧ Row (W3.setCell ⟨w.heap.size + 1, 0, none⟩ (.bool false)) (w.heap.size + 1) 4 [.bool false] ∧ Below w.heap.size w (W3.setCell ⟨w.heap.size + 1, 0, none⟩ (.bool false))) := ⟨(hko.trans (KeepsOthers.setCell _ _ _)).from _, rr.set 0 (.bool false), hB.setCell (p := ⟨w.heap.size + 1, 0, none⟩) (by show w.heap.size ≤ w.heap.size + 1; omega) (.bool false)⟩
      have hbb : Hid _ := hst
      clear hst rm rr rf rt bv hv hB hkk hko
      gi_wp2
      repeat (refine ⟨trivial, ?_⟩; gi_wp2)
      exact ⟨HF.out.1, rfl, ⟨_, _, rfl, hbb.out⟩, HF.out.2.1, HF.out.2.2⟩
    have m0 : W3.cell? ⟨w.heap.size, 0, none⟩ = some (.slice p ps.length c1) := rm.cell 0
    have m1 : W3.cell? ⟨w.heap.size, 1, none⟩ = some (.slice q ls.length c2) := rm.cell 1
    have f0 : W3.cell? ⟨Bf, 0, none⟩ = some (.int .i64 (r1 : Int)) := rf.cell 0
    have f1 : W3.cell? ⟨Bf, 1, none⟩ = some (.int .i64 (i1 : Int)) := rf.cell 1
    have t0 : W3.cell? ⟨Bt, 0, none⟩ = some (.int .i64 (s1 : Int)) := rt.cell 0
    have t1 : W3.cell? ⟨Bt, 1, none⟩ = some (.int .i64 (j1 : Int)) := rt.cell 1
    have v0 : W3.cell? ⟨w.heap.size + 1 + 1, 0, none⟩ = some (.slice pv (takenE (pre.map (·.1))).length cv) := bv.cell
    have hD' : Hid _ := hD
    clear hD
    have hlw : (takenE (pre.map (·.1))).length ≤ 100000000 := by rw [takenE, List.length_map, List.length_map]; omega
    obtain ⟨pv2, cv2, he2, hE0⟩ := ensIn_own hv (by rw [takenE, List.length_map, List.length_map])
    simp only [Value.slice.injEq] at he2
    obtain ⟨rfl, -, rfl⟩ := he2
    have HCk : Hid _ := contains_any pv cv (takenE (pre.map (·.1))) (r1 : Int) (i1 : Int) W3 hE0 hlw
    clear hE0 hlw
    gi_wp2_with fail
    clear m0 m1 f0 f1 t0 t1 v0
    refine ⟨trivial, (CallsIn.inRound l (callsIn_wide.2 (HCk.out))).mono ?_⟩
    rintro e W4 ⟨rfl, hb⟩
    have rm := rm.below hb rm.lt
    have rr := rr.below hb rr.lt
    have rf := rf.below hb rf.lt
    have rt := rt.below hb rt.lt
    have bv := boxed_below bv hb
    have hv := ownsRow_below hv hb
    have hB := hB.trans (hb.mono hB.size)
    have hkk := hkk.t (KpW.below hb)
    have hko := hko.trans (keeps_belowL hb)
    clear hb
    cases hF : (takenE (pre.map (·.1))).contains ((r1 : Int), (i1 : Int))
    rotate_left
    · have hst : stepB (ps.map (·.2)) (pre.map (·.1)) (((r1 : Int), (i1 : Int)), ((s1 : Int), (j1 : Int))) = false := by unfold stepB wayB; rw [hA'.out, hC'.out, hD'.out, hF]; rfl
      clear hF
      have r0 : W4.cell? ⟨w.heap.size + 1, 0, none⟩ = some (.bool false) := rr.cell 0
      have rz : W4.frozen? ⟨w.heap.size + 1, 0, none⟩ = false := rr.frozen 0
      have HF : Hid (KeepsFrom Z.heap.size Wa (W4.setCell ⟨w.heap.size + 1, 0, none⟩ (.bool false)) ∧ Row (W4.setCell ⟨w.heap.size + 1, 0, none⟩ (.bool false)) (w.heap.size + 1) 4 [.bool false] ∧ Below w.heap.size w (W4.setCell ⟨w.heap.size + 1, 0, none⟩ (.bool false))) := ⟨(hko.trans (KeepsOthers.setCell _ _ _)).from _, rr.set 0 (.bool false), hB.setCell (p := ⟨w.heap.size + 1, 0, none⟩) (by show w.heap.size ≤ w.heap.size + 1; omega) (.bool false)⟩
      have hbb : Hid _ := hst
      clear hst rm rr rf rt bv hv hB hkk hko
      gi_wp2
      repeat (refine ⟨trivial, ?_⟩; gi_wp2)
      exact ⟨HF.out.1, rfl, ⟨_, _, rfl, hbb.out⟩, HF.out.2.1, HF.out.2.2⟩
    have hst : stepB (ps.map (·.2)) (pre.map (·.1)) (((r1 : Int), (i1 : Int)), ((s1 : Int), (j1 : Int))) = true := by unfold stepB wayB; rw [hA'.out, hC'.out, hD'.out, hF]; rfl
    have hgn : Hid _ := goodE_next hgd.out hst
    clear hst hF HCk HFk
    have f0 : W4.cell? ⟨Bf, 0, none⟩ = some (.int .i64 (r1 : Int)) := rf.cell 0
    have f1 : W4.cell? ⟨Bf, 1, none⟩ = some (.int .i64 (i1 : Int)) := rf.cell 1
    have v0 : W4.cell? ⟨w.heap.size + 1 + 1, 0, none⟩ = some (.slice pv (takenE (pre.map (·.1))).length cv) := bv.cell
    obtain ⟨i0, hi0, hz0, hz1, hz2⟩ := info_parts Tryz.infoEnd
    have hlen : pre.length ≤ 8 := by omega
    have HKK : Hid _ := And.intro hkk (And.intro hko (And.intro rm (And.intro rr hB)))
    clear hkk hko rr rt
    gi_wp2_with (gi_at_builtin; refine wpListIn_append_own _ rfl _ _ 170 rfl w.heap.size 135 i0 (.agg #[.int .i64 0, .int .i64 0]) 2 16 Tryz.underlying170 hi0 hz0 hz1 hz2 rfl (by decide) _ _ _ rfl (hv.alloc _) ⟨W4.heap.size, 0, none⟩ 1 1 [.int .i64 (r1 : Int), .int .i64 (i1 : Int)] rfl rfl (cell_new_many W4 _ _) (by simp [Value.oneCell']) (by unfold maxLen; omega) (by omega) (by have := hB.size; simp; omega) ?_; intro v' w1 hown' hgrow _; obtain ⟨g', cap', rfl⟩ := ownsRow_succ hown'; obtain ⟨hv1, hv2, hr2, hk2, hb2⟩ := bv.appended (by decide) hv hB.size (Nat.le_add_right_of_le (Nat.le_add_right _ _)) hown' hgrow; have hc1 := hv1.cell; have hf1 := hv1.frozen)
    obtain ⟨hkk, hko, rm, rr, hB⟩ := HKK.out
    refine ⟨(hko.trans hk2).from _, hkk.t (kpw_appended (by decide) (by decide) (by decide) (by decide) bv hv hgrow hk2), ⟨⟨_, hv2, ?_, ?_⟩, row_appended (by omega) (by decide) rm hv hgrow, row_appended (by omega) (by decide) rr hv hgrow, hB.trans hb2⟩⟩
    · rw [List.map_append, List.map_singleton, takenE_snoc, rowEn_append, List.length_append]
      exact hr2
    · rw [List.map_append, List.map_singleton]
      exact hgn.out
  case done =>
    rintro D xs W hD rfl ⟨⟨v, bv, hv, hgd⟩, rm, rr, hB⟩ hK
    have hR : linksB (ps.map (·.2)) ls = true := linksB_steps h4 (by rw [wayS_map] at hgd; exact hgd)
    have hRR : Hid _ := hR
    have r0 : W.cell? ⟨w.heap.size + 1, 0, none⟩ = some (.bool false) := rr.cell 0
    have rz : W.frozen? ⟨w.heap.size + 1, 0, none⟩ = false := rr.frozen 0
    have HF : Hid ((W.setCell ⟨w.heap.size + 1, 0, none⟩ (.bool true)).heap[D]? = some (.deferred (some [])) ∧ Row (W.setCell ⟨w.heap.size + 1, 0, none⟩ (.bool true)) (w.heap.size + 1) 4 [.bool true] ∧ Below w.heap.size w (W.setCell ⟨w.heap.size + 1, 0, none⟩ (.bool true))) := ⟨(Below.heap_setCell _ _ _ _ (by show D ≠ w.heap.size + 1; omega)).trans hK, rr.set 0 (.bool true), hB.setCell (p := ⟨w.heap.size + 1, 0, none⟩) (by show w.heap.size ≤ w.heap.size + 1; omega) (.bool true)⟩
    clear hR hgd bv hv rm rr hB hK hLZ hq3
    gi_wp2_with fail
    have hF := HF.out
    clear HF r0 rz
    generalize W.setCell ⟨w.heap.size + 1, 0, none⟩ (.bool true) = V at *
    obtain ⟨h1, h2, h3⟩ := hF
    refine ⟨by simp, .inl ⟨_, _, rfl, run_takeDeferred h1, ?_⟩⟩
    have h4 : Below w.heap.size V (V.putObj D (.deferred none)) := belowK_b (w := w) (Nat.le_refl _) V D _ _ (by omega) h1 rfl rfl
    have h5 : Row (V.putObj D (.deferred none)) (w.heap.size + 1) 4 [.bool true] := (World.putObj_heap_other (by omega)).trans h2
    have h6 := h3.trans h4
    have e0 : (V.putObj D (.deferred none)).cell? ⟨w.heap.size + 1, 0, none⟩ = some (.bool true) := h5.cell 0
    refine ⟨.bool true, by simp [results, Tryz.results76, go_sem, e0], ?_⟩
    exact ⟨by rw [hRR.out], h6⟩
  case stop =>
    rintro D c pre V hD hpre ⟨rfl, ⟨pre0, y, rfl, hst⟩, h2, h3⟩ h1
    obtain ⟨ha, hb⟩ := pre_next hpre
    have hR : linksB (ps.map (·.2)) ls = false := linksB_step ha (by rw [hb]; exact hst)
    have hRR : Hid _ := hR
    clear hR ha hb hst hLZ hq3 hpre
    gi_wp2_with fail
    refine ⟨by simp, .inl ⟨_, _, rfl, run_takeDeferred h1, ?_⟩⟩
    have h4 : Below w.heap.size V (V.putObj D (.deferred none)) := belowK_b (w := w) (Nat.le_refl _) V D _ _ (by omega) h1 rfl rfl
    have h5 : Row (V.putObj D (.deferred none)) (w.heap.size + 1) 4 [.bool false] := (World.putObj_heap_other (by omega)).trans h2
    have h6 := h3.trans h4
    have e0 : (V.putObj D (.deferred none)).cell? ⟨w.heap.size + 1, 0, none⟩ = some (.bool false) := h5.cell 0
    refine ⟨.bool false, by simp [results, Tryz.results76, go_sem, e0], ?_⟩
    exact ⟨by rw [hRR.out], h6⟩
end Go.Proofs.YtcnadobnihbldaaGreat
/- routersRight and MeshRight of the program. (Written by gen_meshs.py.) -/
namespace Go.Proofs.YtcnadobnihbldaaGreat
open Go.RowKit Go.Sort

/-- An Inst whose lists are not too long, and reach as far as they say. -/
def IvM (a : Ip) (t : Iv) : Prop := t.is.length ≤ 100000000 ∧ t.rs.length ≤ 100000000 ∧ t.is.length ≤ a.c1
set_option maxRecDepth 100000 in
set_option maxHeartbeats 4000000 in
theorem routersRight_any (p : Option Addr) (c1 : Nat) (ps : List IvP) (w : World) (h : IvsIn w p ps) (hn : ps.length ≤ 100000000) (hm : ∀ e ∈ ps, IvM e.1 e.2) :
    Calls Tryz.prog 75 #[.slice p ps.length c1] w fun e w' => e = .returned (.bool (routersB (ps.map (·.2)))) ∧ Below w.heap.size w w' := by
  have HX : Hid (IvsIn w p ps) := h
  have HM : Hid (∀ e ∈ ps, IvM e.1 e.2) := hm
  have HF : Hid (¬ (1 ≤ ps.length ∧ ps.length ≤ 4) → routersB (ps.map (·.2)) = false) := fun h => routersB_few (by rw [List.length_map]; exact h)
  have HB1 : Hid (∀ k (hk : k < (ps.map (·.2)).length), ivB (ps.map (·.2))[k] = false → routersB (ps.map (·.2)) = false) := fun k hk h => routersB_bad hk h
  have HG : Hid (1 ≤ ps.length → ps.length ≤ 4 → (∀ j (hj : j < (ps.map (·.2)).length), ivB (ps.map (·.2))[j] = true) → routersB (ps.map (·.2)) = true) := fun a b c => routersB_good (by rw [List.length_map]; exact a) (by rw [List.length_map]; exact b) c
  clear h hm
  generalize routersB (ps.map (·.2)) = RES at *
  by_cases h1 : 1 ≤ ps.length
  case neg =>
    have d1 : decide ((ps.length : Int) < 1) = true := by simp; omega
    have hR := HF.out (fun h => h1 h.1)
    clear HX HM HF HB1 HG
    go_enter Tryz.func75, Tryz.ntmps75
    go_wp2
    go_ret
    exact ⟨by first | rfl | (rw [hR]; rfl), Below.refl _ _⟩
  have d1 : decide ((ps.length : Int) < 1) = false := by simp; omega
  by_cases h4 : ps.length ≤ 4
  case neg =>
    have d4 : decide (4 < (ps.length : Int)) = true := by simp; omega
    have hR := HF.out (fun h => h4 h.2)
    clear HX HM HF HB1 HG
    go_enter Tryz.func75, Tryz.ntmps75
    go_wp2
    go_ret
    exact ⟨by first | rfl | (rw [hR]; rfl), Below.refl _ _⟩
  have d4 : decide (4 < (ps.length : Int)) = false := by simp; omega
  go_enter Tryz.func75, Tryz.ntmps75
  go_wp2_with fail
  clear d1 d4
  go_loopw [15] (fun i wr => ∃ k : Nat, k ≤ ps.length ∧ i = .int .i64 k ∧ (∀ j (hj : j < (ps.map (·.2)).length), j < k → ivB (ps.map (·.2))[j] = true) ∧ Below w.heap.size w wr) (fun i _ => ps.length - (intOf i).toNat)
  case atStart => exact ⟨0, Nat.zero_le _, rfl, fun j _ hj => absurd hj (by omega), Below.refl _ _⟩
  case round =>
    obtain ⟨k, hk, rfl, ha, hB⟩ := hrel
    by_cases hlt : k < ps.length
    · have dk : decide ((k : Int) < (ps.length : Int)) = true := by simpa using hlt
      obtain ⟨g, a, t, rfl, hg, hek, hI, c0, c1', c2'⟩ := (HX.out.below hB).at k hlt
      have hM := HM.out _ (List.getElem_mem hlt)
      rw [hek] at hM
      have hlm : k < (ps.map (·.2)).length := by simpa using hlt
      have HBad : Hid (ivB t = false → RES = false) := fun h => HB1.out k hlm (by rw [iv_at' hlt hek]; exact h)
      have HNx : Hid (ivB t = true → ∀ j (hj : j < (ps.map (·.2)).length), j < k + 1 → ivB (ps.map (·.2))[j] = true) := fun h j hj hjk => by
        rcases Nat.lt_or_ge j k with h' | h'
        · exact ha j hj h'
        · obtain rfl : j = k := by omega
          rw [iv_at' hlt hek]; exact h
      have HC : Hid (Calls Tryz.prog 115 #[.agg #[.slice a.x t.is.length a.c1, .slice a.y t.rs.length a.c2, .int .i64 t.now]] (wr.alloc (.cells #[.slice a.x t.is.length a.c1, .slice a.y t.rs.length a.c2, .int .i64 t.now] 61)) fun e w'' => e = .returned (.bool (ivB t)) ∧ Below (wr.alloc (.cells #[.slice a.x t.is.length a.c1, .slice a.y t.rs.length a.c2, .int .i64 t.now] 61)).heap.size (wr.alloc (.cells #[.slice a.x t.is.length a.c1, .slice a.y t.rs.length a.c2, .int .i64 t.now] 61)) w'') := implInst_any a.x a.c1 a.y a.c2 t.is t.rs t.now _ (hI.alloc _).1 hM.2.2 (hI.alloc _).2 hM.1 hM.2.1
      have hBa := hB.alloc hB.size (.cells #[.slice a.x t.is.length a.c1, .slice a.y t.rs.length a.c2, .int .i64 t.now] 61)
      clear HB1 HG HF ha hek hI hM HX HM hlm
      generalize ivB t = IB at *
      generalize a.x = ax at *
      generalize a.y = ay at *
      generalize a.c1 = ac1 at *
      generalize a.c2 = ac2 at *
      generalize t.is.length = tn1 at *
      generalize t.rs.length = tn2 at *
      generalize t.now = tw at *
      have y0 : (wr.alloc (.cells #[.slice ax tn1 ac1, .slice ay tn2 ac2, .int .i64 tw] 61)).cell? ⟨wr.heap.size, 0, none⟩ = some (.slice ax tn1 ac1) := (Row.new wr 61 [.slice ax tn1 ac1, .slice ay tn2 ac2, .int .i64 tw]).cell 0
      have y1 : (wr.alloc (.cells #[.slice ax tn1 ac1, .slice ay tn2 ac2, .int .i64 tw] 61)).cell? ⟨wr.heap.size, 1, none⟩ = some (.slice ay tn2 ac2) := (Row.new wr 61 [.slice ax tn1 ac1, .slice ay tn2 ac2, .int .i64 tw]).cell 1
      have y2 : (wr.alloc (.cells #[.slice ax tn1 ac1, .slice ay tn2 ac2, .int .i64 tw] 61)).cell? ⟨wr.heap.size, 2, none⟩ = some (.int .i64 tw) := (Row.new wr 61 [.slice ax tn1 ac1, .slice ay tn2 ac2, .int .i64 tw]).cell 2
      have HBa : Hid _ := hBa
      clear hBa hB
      go_wp2_with fail
      refine HC.out.mono ?_
      rintro e w1 ⟨rfl, hb1⟩
      have hB := HBa.out.trans (hb1.mono HBa.out.size)
      clear hb1 HBa HC c0 c1' c2' y0 y1 y2
      cases IB
      · have hR := HBad.out rfl
        clear HBad HNx
        go_wp2
        go_ret
        exact ⟨by first | rfl | (rw [hR]; rfl), hB⟩
      have HN : Hid _ := HNx.out rfl
      have HZ : Hid _ := hB
      clear HBad HNx hB
      go_wp2
      go_roundw
      case rel => exact ⟨k + 1, hlt, by go_num, HN.out, HZ.out⟩
      case measure => simp [intOf]; omega
    · have dk : decide ((k : Int) < (ps.length : Int)) = false := by simpa using hlt
      have hR := HG.out h1 h4 (fun j hj => ha j hj (by rw [List.length_map] at hj; omega))
      clear HX HM HF HB1 HG ha
      go_wp2
      go_ret
      exact ⟨by first | rfl | (rw [hR]; rfl), hB⟩
set_option maxRecDepth 100000 in
set_option maxHeartbeats 4000000 in
theorem implMesh_any (p : Option Addr) (c1 : Nat) (ps : List IvP) (q : Option Addr) (c2 : Nat) (ls : List Li) (w : World) (h : IvsIn w p ps) (hL : LisAt w q ls) (hn : ps.length ≤ 100000000) (hl : ls.length ≤ 100000000) (hm : ∀ e ∈ ps, IvM e.1 e.2) :
    Calls Tryz.prog 41 #[.agg #[.slice p ps.length c1, .slice q ls.length c2]] w fun e w' => e = .returned (.bool (meshB (ps.map (·.2)) ls)) ∧ Below w.heap.size w w' := by
  have HA : Hid (∀ w, IvsIn w p ps → Calls Tryz.prog 75 #[.slice p ps.length c1] w fun e w' => e = .returned (.bool (routersB (ps.map (·.2)))) ∧ Below w.heap.size w w') := fun w h => routersRight_any p c1 ps w h hn hm
  have HL : Hid (∀ w, IvsIn w p ps → LisAt w q ls → Calls Tryz.prog 76 #[.agg #[.slice p ps.length c1, .slice q ls.length c2]] w fun e w' => e = .returned (.bool (linksB (ps.map (·.2)) ls)) ∧ Below w.heap.size w w') := fun w a b => linksRight_any p c1 ps q c2 ls w a b hn hl
  have HX : Hid (IvsIn w p ps ∧ LisAt w q ls) := ⟨h, hL⟩
  have HR : Hid (meshB (ps.map (·.2)) ls = (routersB (ps.map (·.2)) && linksB (ps.map (·.2)) ls)) := rfl
  have HQ : Hid _ := And.intro (Row.new w 26 [.slice p ps.length c1, .slice q ls.length c2]) (ent_new0 w (.cells #[.slice p ps.length c1, .slice q ls.length c2] 26))
  clear h hL hm
  generalize meshB (ps.map (·.2)) ls = RES at *
  generalize routersB (ps.map (·.2)) = A at *
  generalize linksB (ps.map (·.2)) ls = B at *
  go_enter Tryz.func41, Tryz.ntmps41
  go_wp2_with fail
  obtain ⟨r0, hB⟩ := HQ.out
  refine (HA.out _ (HX.out.1.below hB)).mono ?_
  rintro e w1 ⟨rfl, hb1⟩
  have r0 := r0.below hb1 r0.lt
  have hB := hB.trans (hb1.mono hB.size)
  have hR := HR.out
  clear hb1 HA HQ HR
  cases A
  · rw [Bool.false_and] at hR
    go_wp2
    go_ret
    exact ⟨by first | rfl | (rw [hR]; rfl), hB⟩
  rw [Bool.true_and] at hR
  have s0 : w1.cell? ⟨w.heap.size, 0, none⟩ = some (.slice p ps.length c1) := r0.cell 0
  have s1 : w1.cell? ⟨w.heap.size, 1, none⟩ = some (.slice q ls.length c2) := r0.cell 1
  go_wp2_with fail
  refine (HL.out _ (HX.out.1.below hB) (HX.out.2.below hB)).mono ?_
  rintro e w2 ⟨rfl, hb2⟩
  have hB := hB.trans (hb2.mono hB.size)
  clear hb2 HL s0 s1 r0
  go_wp2
  go_ret
  exact ⟨by first | rfl | (rw [hR]; rfl), hB⟩
end Go.Proofs.YtcnadobnihbldaaGreat
/- l10End and MeshRight of the model. (Written by gen_meshs.py.) -/
namespace Go.Proofs.YtcnadobnihbldaaGreat
open Go.RowKit Go.Sort

set_option maxRecDepth 100000 in
set_option maxHeartbeats 4000000 in
theorem l10End_any (p : Option Addr) (c1 : Nat) (ps : List IvP) (q : Option Addr) (m1 c2 : Nat) (r i : Int) (w : World) (h : IvsIn w p ps) (hn : ps.length ≤ 100000000) (hm : ∀ e ∈ ps, e.2.is.length ≤ 100000000) :
    Calls Tryz.prog 67 #[.agg #[.slice p ps.length c1, .slice q m1 c2], .int .i64 r, .int .i64 i] w fun e w' => e = .returned (.bool (endB (ps.map (·.2)) (r, i))) ∧ Below w.heap.size w w' := by
  have HC : Hid (∀ w, Calls Tryz.prog 26 #[.int .i64 r, .int .i64 0, .int .i64 ((ps.length : Int) - 1)] w fun e w' => e = .returned (.bool (decide (0 ≤ r ∧ r ≤ (ps.length : Int) - 1))) ∧ w = w') := fun w => l03Is_any r 0 ((ps.length : Int) - 1) w
  have HX : Hid (IvsIn w p ps) := h
  have HMM : Hid (∀ e ∈ ps, e.2.is.length ≤ 100000000) := hm
  have HR : Hid (endB (ps.map (·.2)) (r, i) = (hasR ps.length r && (decide (0 ≤ i) && decide (i < (((ps.map (fun x : IvP => x.2))[r.toNat]!).is.length : Int))))) := by show _ = _; unfold endB; rw [List.length_map]
  generalize endB (ps.map (·.2)) (r, i) = RES at *
  have HQ : Hid _ := And.intro (Row.new w 26 [.slice p ps.length c1, .slice q m1 c2]) (ent_new0 w (.cells #[.slice p ps.length c1, .slice q m1 c2] 26))
  have z : IntKind.i64.wrap ((ps.length : Int) - 1) = (ps.length : Int) - 1 := wrap_i64_in _ (by omega) (by omega)
  clear h hm
  go_enter Tryz.func67, Tryz.ntmps67
  go_wp2_with fail
  obtain ⟨r0, hB⟩ := HQ.out
  clear HQ
  refine (HC.out _).mono ?_
  rintro e w1 ⟨rfl, rfl⟩
  have hR := HR.out
  clear HC HR z
  by_cases h1 : 0 ≤ r ∧ r ≤ (ps.length : Int) - 1
  case neg =>
    rw [decide_eq_false h1]
    have hn0 : hasR ps.length r = false := by unfold hasR; rw [← Bool.decide_and]; exact decide_eq_false (by omega)
    rw [hn0, Bool.false_and] at hR
    clear h1 hn0
    go_wp2
    go_ret
    exact ⟨by first | rfl | (rw [hR]; rfl), hB⟩
  rw [decide_eq_true h1]
  have hn0 : hasR ps.length r = true := by unfold hasR; rw [← Bool.decide_and]; exact decide_eq_true (by omega)
  rw [hn0, Bool.true_and] at hR
  obtain ⟨m, rfl⟩ : ∃ m : Nat, r = (m : Int) := ⟨r.toNat, by omega⟩
  have hm : m < ps.length := by omega
  have dm : decide ((m : Int) < (ps.length : Int)) = true := by simpa using hm
  obtain ⟨g, a, t, rfl, hg, hek, -, y0, y1, y2⟩ := (HX.out.below hB).at m hm
  have hml := HMM.out _ (List.getElem_mem hm)
  rw [hek] at hml
  rw [Int.toNat_natCast, iv_at hm hek] at hR
  have HT : Hid (∀ w, Calls Tryz.prog 109 #[.agg #[.slice a.x t.is.length a.c1, .slice a.y t.rs.length a.c2, .int .i64 t.now], .int .i64 i] w fun e w' => e = .returned (.bool (decide (0 ≤ i ∧ i ≤ (t.is.length : Int) - 1))) ∧ Below w.heap.size w w') := fun w => l07There_any _ _ _ _ _ _ _ _ w hml
  have hR2 : RES = decide (0 ≤ i ∧ i ≤ (t.is.length : Int) - 1) := by rw [hR, ← Bool.decide_and]; exact decide_eq_decide.2 (by omega)
  have HRR : Hid _ := hR2
  clear h1 hn0 hR hR2 hek hml HX HMM
  generalize decide (0 ≤ i ∧ i ≤ (t.is.length : Int) - 1) = D at *
  generalize a.x = ax at *
  generalize a.y = ay at *
  generalize a.c1 = ac1 at *
  generalize a.c2 = ac2 at *
  generalize t.is.length = tn1 at *
  generalize t.rs.length = tn2 at *
  generalize t.now = tw at *
  have s0 : (w.alloc (.cells #[.slice (some ⟨g, 0, none⟩) ps.length c1, .slice q m1 c2] 26)).cell? ⟨w.heap.size, 0, none⟩ = some (.slice (some ⟨g, 0, none⟩) ps.length c1) := r0.cell 0
  have HB : Hid _ := hB
  clear r0 hB
  go_wp2_with fail
  refine (HT.out _).mono ?_
  rintro e w2 ⟨rfl, hb2⟩
  have hB := HB.out.trans (hb2.mono HB.out.size)
  have hR := HRR.out
  clear hb2 HT HB HRR s0 y0 y1 y2
  go_wp2
  go_ret
  exact ⟨by first | rfl | (rw [hR]; rfl), hB⟩
set_option maxRecDepth 100000 in
set_option maxHeartbeats 4000000 in
theorem specMesh_any (p : Option Addr) (c1 : Nat) (ps : List IvP) (q : Option Addr) (c2 : Nat) (ls : List Li) (w : World) (h : IvsIn w p ps) (hL : LisIn w q ls) (hn : ps.length ≤ 100000000) (hl : ls.length ≤ 100000000) (hm : ∀ e ∈ ps, IvM e.1 e.2) :
    Calls Tryz.prog 36 #[.agg #[.slice p ps.length c1, .slice q ls.length c2]] w fun e w' => e = .returned (.bool (meshB (ps.map (·.2)) ls)) ∧ Below w.heap.size w w' := by
  have HX : Hid (IvsIn w p ps ∧ LisIn w q ls) := ⟨h, hL⟩
  have HM : Hid (∀ e ∈ ps, IvM e.1 e.2) := hm
  have HM2 : Hid (∀ e ∈ ps, e.2.is.length ≤ 100000000) := fun e he => (hm e he).1
  have HRE : Hid (meshB (ps.map (·.2)) ls = (routersB (ps.map (·.2)) && linksB (ps.map (·.2)) ls)) := rfl
  have HF : Hid (¬ (1 ≤ ps.length ∧ ps.length ≤ 4) → meshB (ps.map (·.2)) ls = false) := fun h => by unfold meshB; rw [routersB_few (by rw [List.length_map]; exact h), Bool.false_and]
  have HF4 : Hid (¬ ls.length ≤ 4 → meshB (ps.map (·.2)) ls = false) := fun h => by unfold meshB; rw [linksB_long h, Bool.and_false]
  have HB1 : Hid (∀ k (hk : k < (ps.map (·.2)).length), ivB (ps.map (·.2))[k] = false → routersB (ps.map (·.2)) = false) := fun k hk h => routersB_bad hk h
  have HG : Hid (1 ≤ ps.length → ps.length ≤ 4 → (∀ j (hj : j < (ps.map (·.2)).length), ivB (ps.map (·.2))[j] = true) → routersB (ps.map (·.2)) = true) := fun a b c => routersB_good (by rw [List.length_map]; exact a) (by rw [List.length_map]; exact b) c
  have HB2 : Hid (∀ k, k < ls.length → linkAt (ps.map (·.2)) ls k = false → linksB (ps.map (·.2)) ls = false) := fun k hk h => linksB_bad hk h
  have HLG : Hid (ls.length ≤ 4 → (∀ k, k < ls.length → linkAt (ps.map (·.2)) ls k = true) → linksB (ps.map (·.2)) ls = true) := fun a b => linksB_good a b
  have HEn : Hid (∀ r i w, IvsIn w p ps → Calls Tryz.prog 67 #[.agg #[.slice p ps.length c1, .slice q ls.length c2], .int .i64 r, .int .i64 i] w fun e w' => e = .returned (.bool (endB (ps.map (·.2)) (r, i))) ∧ Below w.heap.size w w') := fun r i w h => l10End_any p c1 ps q ls.length c2 r i w h hn (fun e he => (hm e he).1)
  have HAp : Hid (∀ (x y : Li) w, Calls Tryz.prog 68 #[.agg #[.int .i64 x.la, .int .i64 x.lx, .int .i64 x.lb, .int .i64 x.ly], .agg #[.int .i64 y.la, .int .i64 y.lx, .int .i64 y.lb, .int .i64 y.ly]] w fun e w' => e = .returned (.bool (apartB x y)) ∧ Below w.heap.size w w') := fun x y w => l10Apart_any _ _ _ _ _ _ _ _ w
  have HQ : Hid _ := And.intro (Row.new w 26 [.slice p ps.length c1, .slice q ls.length c2]) (ent_new0 w (.cells #[.slice p ps.length c1, .slice q ls.length c2] 26))
  clear h hL hm
  generalize meshB (ps.map (·.2)) ls = RES at *
  generalize routersB (ps.map (·.2)) = TB at *
  generalize hLL : linksB (ps.map (·.2)) ls = LB at *
  clear hLL
  by_cases h1 : 1 ≤ ps.length
  case neg =>
    have d1 : decide ((ps.length : Int) < 1) = true := by simp; omega
    have hR := HF.out (fun h => h1 h.1)
    have hB := HQ.out.2
    clear HX HM HM2 HRE HF HF4 HB1 HG HB2 HLG HEn HAp HQ
    go_enter Tryz.func36, Tryz.ntmps36
    go_wp2
    go_ret
    exact ⟨by first | rfl | (rw [hR]; rfl), hB⟩
  have d1 : decide ((ps.length : Int) < 1) = false := by simp; omega
  by_cases h4 : ps.length ≤ 4
  case neg =>
    have d4 : decide (4 < (ps.length : Int)) = true := by simp; omega
    have hR := HF.out (fun h => h4 h.2)
    have hB := HQ.out.2
    clear HX HM HM2 HRE HF HF4 HB1 HG HB2 HLG HEn HAp HQ
    go_enter Tryz.func36, Tryz.ntmps36
    go_wp2
    go_ret
    exact ⟨by first | rfl | (rw [hR]; rfl), hB⟩
  have d4 : decide (4 < (ps.length : Int)) = false := by simp; omega
  by_cases h5 : ls.length ≤ 4
  case neg =>
    have d5 : decide (4 < (ls.length : Int)) = true := by simp; omega
    have hR := HF4.out h5
    have hB := HQ.out.2
    clear HX HM HM2 HRE HF HF4 HB1 HG HB2 HLG HEn HAp HQ
    go_enter Tryz.func36, Tryz.ntmps36
    go_wp2
    go_ret
    exact ⟨by first | rfl | (rw [hR]; rfl), hB⟩
  have d5 : decide (4 < (ls.length : Int)) = false := by simp; omega
  go_enter Tryz.func36, Tryz.ntmps36
  go_wp2_with fail
  clear d1 d4 d5
  go_loopw [3] (fun i wr => ∃ k : Nat, k ≤ ps.length ∧ i = .int .i64 k ∧ (∀ j (hj : j < (ps.map (·.2)).length), j < k → ivB (ps.map (·.2))[j] = true) ∧ Row wr w.heap.size 26 [.slice p ps.length c1, .slice q ls.length c2] ∧ Below w.heap.size w wr) (fun i _ => ps.length - (intOf i).toNat)
  case atStart => exact ⟨0, Nat.zero_le _, rfl, fun j _ hj => absurd hj (by omega), HQ.out.1, HQ.out.2⟩
  case round =>
    clear HQ HF HF4
    obtain ⟨k, hk, rfl, ha, rk, hB⟩ := hrel
    have s0 : wr.cell? ⟨w.heap.size, 0, none⟩ = some (.slice p ps.length c1) := rk.cell 0
    have s1 : wr.cell? ⟨w.heap.size, 1, none⟩ = some (.slice q ls.length c2) := rk.cell 1
    by_cases hlt : k < ps.length
    · have dk : decide ((k : Int) < (ps.length : Int)) = true := by simpa using hlt
      obtain ⟨g, a, t, rfl, hg, hek, hI, c0, c1', c2'⟩ := (HX.out.1.below hB).at k hlt
      have hM := HM.out _ (List.getElem_mem hlt)
      rw [hek] at hM
      have hlm : k < (ps.map (·.2)).length := by simpa using hlt
      have HBad : Hid (ivB t = false → TB = false) := fun h => HB1.out k hlm (by rw [iv_at' hlt hek]; exact h)
      have HNx : Hid (ivB t = true → ∀ j (hj : j < (ps.map (·.2)).length), j < k + 1 → ivB (ps.map (·.2))[j] = true) := fun h j hj hjk => by
        rcases Nat.lt_or_ge j k with h' | h'
        · exact ha j hj h'
        · obtain rfl : j = k := by omega
          rw [iv_at' hlt hek]; exact h
      have HC : Hid (Calls Tryz.prog 66 #[.agg #[.slice a.x t.is.length a.c1, .slice a.y t.rs.length a.c2, .int .i64 t.now]] wr fun e w'' => e = .returned (.bool (ivB t)) ∧ Below wr.heap.size wr w'') := specInst_any a.x a.c1 a.y a.c2 t.is t.rs t.now _ (hI).1 hM.2.2 (hI).2 hM.1 hM.2.1
      have HBa : Hid _ := And.intro rk hB
      clear rk hB
      clear HB1 HG ha hek hI hM HX HM hlm
      generalize ivB t = IB at *
      generalize a.x = ax at *
      generalize a.y = ay at *
      generalize a.c1 = ac1 at *
      generalize a.c2 = ac2 at *
      generalize t.is.length = tn1 at *
      generalize t.rs.length = tn2 at *
      generalize t.now = tw at *
      go_wp2_with fail
      refine HC.out.mono ?_
      rintro e w1 ⟨rfl, hb1⟩
      obtain ⟨rk, hB⟩ := HBa.out
      have rk := rk.below hb1 rk.lt
      have hB := hB.trans (hb1.mono hB.size)
      clear hb1 HBa HC c0 c1' c2' s0 s1
      cases IB
      · have hT := HBad.out rfl
        clear HBad HNx
        have hR := HRE.out
        rw [hT, Bool.false_and] at hR
        clear HRE
        go_wp2
        go_ret
        exact ⟨by first | rfl | (rw [hR]; rfl), hB⟩
      have HN : Hid _ := HNx.out rfl
      have HZ : Hid _ := And.intro rk hB
      clear HBad HNx hB rk
      go_wp2
      go_roundw
      case rel => exact ⟨k + 1, hlt, by go_num, HN.out, HZ.out.1, HZ.out.2⟩
      case measure => simp [intOf]; omega
    · have dk : decide ((k : Int) < (ps.length : Int)) = false := by simpa using hlt
      have hT := HG.out h1 h4 (fun j hj => ha j hj (by rw [List.length_map] at hj; omega))
      have HRE2 : Hid (RES = LB) := by show _ = _; rw [HRE.out, hT, Bool.true_and]
      have HZ0 : Hid _ := And.intro rk hB
      clear HB1 HG ha HM HRE hT rk hB
      go_wp2_with fail
      clear s0 s1 dk
      go_loopw [4] (fun i wr => ∃ k : Nat, k ≤ ls.length ∧ i = .int .i64 k ∧ (∀ j, j < k → linkAt (ps.map (·.2)) ls j = true) ∧ Row wr w.heap.size 26 [.slice p ps.length c1, .slice q ls.length c2] ∧ Below w.heap.size w wr) (fun i _ => ls.length - (intOf i).toNat)
      case atStart => exact ⟨0, Nat.zero_le _, rfl, fun j hj => absurd hj (by omega), HZ0.out.1, HZ0.out.2⟩
      case round =>
        clear HZ0 hlt hk
        obtain ⟨k, hk, rfl, ha, rk, hB⟩ := hrel
        have s0 : wr.cell? ⟨w.heap.size, 0, none⟩ = some (.slice p ps.length c1) := rk.cell 0
        have s1 : wr.cell? ⟨w.heap.size, 1, none⟩ = some (.slice q ls.length c2) := rk.cell 1
        by_cases hlt : k < ls.length
        · have dk : decide ((k : Int) < (ls.length : Int)) = true := by simpa using hlt
          obtain ⟨gq, la, lx, lb, ly, rfl, hgq, hlk, z0, z1, z2, z3⟩ := (HX.out.2.below hB).at k hlt
          have HLK : Hid (ls[k] = ⟨la, lx, lb, ly⟩) := hlk
          have HLb : Hid (linkAt (ps.map (·.2)) ls k = false → LB = false) := fun h => HB2.out k hlt h
          have HA2 : Hid (∀ j, j < k → linkAt (ps.map (·.2)) ls j = true) := ha
          have HEA : Hid (∀ d os, Calls Tryz.prog 67 #[.agg #[.slice p ps.length c1, .slice (some ⟨gq, 0, none⟩) ls.length c2], .int .i64 la, .int .i64 lx] (grow (redrawn (wr.alloc (.cells #[.int .i64 la, .int .i64 lx, .int .i64 lb, .int .i64 ly] 56)) d) os) fun e w'' => e = .returned (.bool (endB (ps.map (·.2)) (la, lx))) ∧ ∃ p : Regrown, w'' = grow (redrawn (wr.alloc (.cells #[.int .i64 la, .int .i64 lx, .int .i64 lb, .int .i64 ly] 56)) p.d) p.os) := fun d os => Calls.regrown_of (HEn.out la lx _ (((HX.out.1.below hB).below (ent_new0 wr (.cells #[.int .i64 la, .int .i64 lx, .int .i64 lb, .int .i64 ly] 56))).below (below_regrown _ d os)))
          have HEC : Hid (∀ d os, Calls Tryz.prog 67 #[.agg #[.slice p ps.length c1, .slice (some ⟨gq, 0, none⟩) ls.length c2], .int .i64 lb, .int .i64 ly] (grow (redrawn (wr.alloc (.cells #[.int .i64 la, .int .i64 lx, .int .i64 lb, .int .i64 ly] 56)) d) os) fun e w'' => e = .returned (.bool (endB (ps.map (·.2)) (lb, ly))) ∧ ∃ p : Regrown, w'' = grow (redrawn (wr.alloc (.cells #[.int .i64 la, .int .i64 lx, .int .i64 lb, .int .i64 ly] 56)) p.d) p.os) := fun d os => Calls.regrown_of (HEn.out lb ly _ (((HX.out.1.below hB).below (ent_new0 wr (.cells #[.int .i64 la, .int .i64 lx, .int .i64 lb, .int .i64 ly] 56))).below (below_regrown _ d os)))
          have hIv := (HX.out.1.below hB).below (ent_new0 wr (.cells #[.int .i64 la, .int .i64 lx, .int .i64 lb, .int .i64 ly] 56))
          have HZ : Hid _ := And.intro (rk.alloc (.cells #[.int .i64 la, .int .i64 lx, .int .i64 lb, .int .i64 ly] 56)) (And.intro (Row.new wr 56 [.int .i64 la, .int .i64 lx, .int .i64 lb, .int .i64 ly]) (hB.alloc hB.size (.cells #[.int .i64 la, .int .i64 lx, .int .i64 lb, .int .i64 ly] 56)))
          have HIV : Hid (IvsIn (wr.alloc (.cells #[.int .i64 la, .int .i64 lx, .int .i64 lb, .int .i64 ly] 56)) p ps) := hIv
          clear hIv HB2 HEn ha hlk rk hB
          go_wp2_with fail
          clear s0 s1 z0 z1 z2 z3
          generalize hbx : wr.heap.size = bx at *
          generalize wr.alloc (.cells #[.int .i64 la, .int .i64 lx, .int .i64 lb, .int .i64 ly] 56) = W at *
          clear hbx
          have s0 : W.cell? ⟨w.heap.size, 0, none⟩ = some (.slice p ps.length c1) := HZ.out.1.cell 0
          have s1 : W.cell? ⟨w.heap.size, 1, none⟩ = some (.slice (some ⟨gq, 0, none⟩) ls.length c2) := HZ.out.1.cell 1
          have x0 : W.cell? ⟨bx, 0, none⟩ = some (.int .i64 la) := HZ.out.2.1.cell 0
          have x1 : W.cell? ⟨bx, 1, none⟩ = some (.int .i64 lx) := HZ.out.2.1.cell 1
          have x2 : W.cell? ⟨bx, 2, none⟩ = some (.int .i64 lb) := HZ.out.2.1.cell 2
          have x3 : W.cell? ⟨bx, 3, none⟩ = some (.int .i64 ly) := HZ.out.2.1.cell 3
          replace s0 := cell_regrown s0
          replace s1 := cell_regrown s1
          replace x0 := cell_regrown x0
          replace x1 := cell_regrown x1
          replace x2 := cell_regrown x2
          replace x3 := cell_regrown x3
          by_cases k1 : la = lb
          · have d1 : (la == lb) = true := by simpa using k1
            have hbad : linkAt (ps.map (·.2)) ls k = false := by unfold linkAt linkB; rw [getElem!_pos ls k hlt, HLK.out]; rw [decide_eq_false (fun h => h k1)]; rfl
            have hR : RES = false := HRE2.out.trans (HLb.out hbad)
            clear hbad HLb HRE2 HLG HAp HX HM2 HLK HA2 HIV
            refine wp_region_quiet_below (by kernel_rfl) (by kernel_rfl) ?_
            repeat (go_big_quiet_step (fail))
            refine wpQuiet_nil ?_
            intro w9 hw'
            obtain ⟨⟨dq, osq⟩, hw''⟩ := hw'
            have hbq := below_regrown W dq osq
            rw [← hw''] at hbq
            clear hw'' osq dq s0 s1 x0 x1 x2 x3 HEA HEC k1
            obtain ⟨rk, rx, hB⟩ := HZ.out
            have hB := hB.trans (hbq.mono hB.size)
            clear hbq HZ rk rx
            go_wp2
            go_ret
            exact ⟨by first | rfl | (rw [hR]; rfl), hB⟩
          have d1 : (la == lb) = false := by simpa using k1
          cases hE1 : endB (ps.map (·.2)) (la, lx)
          · rw [hE1] at HEA
            have hbad : linkAt (ps.map (·.2)) ls k = false := by unfold linkAt linkB; rw [getElem!_pos ls k hlt, HLK.out]; rw [hE1, Bool.false_and, Bool.and_false]; rfl
            have hR : RES = false := HRE2.out.trans (HLb.out hbad)
            clear hbad HLb HRE2 HLG HAp HX HM2 HLK HA2 HIV
            refine wp_region_quiet_below (by kernel_rfl) (by kernel_rfl) ?_
            repeat (go_big_quiet_step (first | (go_at_call_of 67 (#[Value.agg #[Value.slice p ps.length c1, Value.slice (some ⟨gq, 0, none⟩) ls.length c2], Value.int IntKind.i64 la, Value.int IntKind.i64 lx]); exact HEA.out _ _) | (go_at_call_of 67 (#[Value.agg #[Value.slice p ps.length c1, Value.slice (some ⟨gq, 0, none⟩) ls.length c2], Value.int IntKind.i64 lb, Value.int IntKind.i64 ly]); exact HEC.out _ _)))
            refine wpQuiet_nil ?_
            intro w9 hw'
            obtain ⟨⟨dq, osq⟩, hw''⟩ := hw'
            have hbq := below_regrown W dq osq
            rw [← hw''] at hbq
            clear hw'' osq dq s0 s1 x0 x1 x2 x3 HEA HEC hE1 k1
            obtain ⟨rk, rx, hB⟩ := HZ.out
            have hB := hB.trans (hbq.mono hB.size)
            clear hbq HZ rk rx
            go_wp2
            go_ret
            exact ⟨by first | rfl | (rw [hR]; rfl), hB⟩
          rw [hE1] at HEA
          cases hE2 : endB (ps.map (·.2)) (lb, ly)
          · rw [hE2] at HEC
            have hbad : linkAt (ps.map (·.2)) ls k = false := by unfold linkAt linkB; rw [getElem!_pos ls k hlt, HLK.out]; rw [hE2, Bool.false_and, Bool.and_false, Bool.and_false]; rfl
            have hR : RES = false := HRE2.out.trans (HLb.out hbad)
            clear hbad HLb HRE2 HLG HAp HX HM2 HLK HA2 HIV
            refine wp_region_quiet_below (by kernel_rfl) (by kernel_rfl) ?_
            repeat (go_big_quiet_step (first | (go_at_call_of 67 (#[Value.agg #[Value.slice p ps.length c1, Value.slice (some ⟨gq, 0, none⟩) ls.length c2], Value.int IntKind.i64 la, Value.int IntKind.i64 lx]); exact HEA.out _ _) | (go_at_call_of 67 (#[Value.agg #[Value.slice p ps.length c1, Value.slice (some ⟨gq, 0, none⟩) ls.length c2], Value.int IntKind.i64 lb, Value.int IntKind.i64 ly]); exact HEC.out _ _)))
            refine wpQuiet_nil ?_
            intro w9 hw'
            obtain ⟨⟨dq, osq⟩, hw''⟩ := hw'
            have hbq := below_regrown W dq osq
            rw [← hw''] at hbq
            clear hw'' osq dq s0 s1 x0 x1 x2 x3 HEA HEC hE1 hE2 k1
            obtain ⟨rk, rx, hB⟩ := HZ.out
            have hB := hB.trans (hbq.mono hB.size)
            clear hbq HZ rk rx
            go_wp2
            go_ret
            exact ⟨by first | rfl | (rw [hR]; rfl), hB⟩
          rw [hE2] at HEC
          obtain ⟨r1, i1, e1, hr1, hi1⟩ := endB_spec hE1
          obtain ⟨r2, i2, e2, hr2, hi2⟩ := endB_spec hE2
          simp only [Prod.mk.injEq] at e1 e2
          obtain ⟨rfl, rfl⟩ := e1
          obtain ⟨rfl, rfl⟩ := e2
          rw [List.length_map] at hr1 hr2
          obtain ⟨g, a1, t1, rfl, hg, hek1, hI1, u0, -, -⟩ := HIV.out.at r1 hr1
          obtain ⟨g', a2, t2, eg, hg', hek2, hI2, u1, -, -⟩ := HIV.out.at r2 hr2
          cases eg
          rw [iv_at hr1 hek1] at hi1
          rw [iv_at hr2 hek2] at hi2
          obtain ⟨b1, fd, fa, fl, fc, fu, hbx1, hb1, hfk1, -, v1, v2, -, -⟩ := hI1.1.at i1 hi1
          obtain ⟨b2, gd, ga, gl, gc, gu, hbx2, hb2, hfk2, -, v3, v4, -, -⟩ := hI2.1.at i2 hi2
          rw [hbx1] at u0
          rw [hbx2] at u1
          have HFA : Hid (ifAtE (ps.map (·.2)) ((r1 : Int), (i1 : Int)) = ⟨fd, fa, fl, fc, fu⟩) := by
            show _ = _
            unfold ifAtE
            rw [Int.toNat_natCast, Int.toNat_natCast, iv_at hr1 hek1, getElem!_pos t1.is i1 hi1, hfk1]
          have HFC : Hid (ifAtE (ps.map (·.2)) ((r2 : Int), (i2 : Int)) = ⟨gd, ga, gl, gc, gu⟩) := by
            show _ = _
            unfold ifAtE
            rw [Int.toNat_natCast, Int.toNat_natCast, iv_at hr2 hek2, getElem!_pos t2.is i2 hi2, hfk2]
          have hE1 : Hid _ := hE1
          have hE2 : Hid _ := hE2
          have k1 : Hid _ := k1
          have dr1 : decide ((r1 : Int) < (ps.length : Int)) = true := by simpa using hr1
          have dr2 : decide ((r2 : Int) < (ps.length : Int)) = true := by simpa using hr2
          have di1 : decide ((i1 : Int) < (t1.is.length : Int)) = true := by simpa using hi1
          have di2 : decide ((i2 : Int) < (t2.is.length : Int)) = true := by simpa using hi2
          clear hek1 hek2 hI1 hI2 hbx1 hbx2 hfk1 hfk2 HIV
          generalize t1.is.length = tn1 at *
          generalize t2.is.length = tn2 at *
          generalize a1.c1 = ac1 at *
          generalize a2.c1 = ac2 at *
          replace u0 := cell_regrown u0
          replace u1 := cell_regrown u1
          replace v1 := cell_regrown v1
          replace v2 := cell_regrown v2
          replace v3 := cell_regrown v3
          replace v4 := cell_regrown v4
          by_cases k2 : fa = ga
          case neg =>
            have d2 : (fa == ga) = false := by simpa using k2
            have hbad : linkAt (ps.map (·.2)) ls k = false := by unfold linkAt linkB; rw [getElem!_pos ls k hlt, HLK.out]; rw [HFA.out, HFC.out]; simp only; rw [decide_eq_false k2]; simp
            have hR : RES = false := HRE2.out.trans (HLb.out hbad)
            clear hbad HLb HRE2 HLG HAp HX HM2 HLK HA2 HFA HFC
            refine wp_region_quiet_below (by kernel_rfl) (by kernel_rfl) ?_
            repeat (go_big_quiet_step (first | (go_at_call_of 67 (#[Value.agg #[Value.slice (some ⟨g, 0, none⟩) ps.length c1, Value.slice (some ⟨gq, 0, none⟩) ls.length c2], Value.int IntKind.i64 (r1 : Int), Value.int IntKind.i64 (i1 : Int)]); exact HEA.out _ _) | (go_at_call_of 67 (#[Value.agg #[Value.slice (some ⟨g, 0, none⟩) ps.length c1, Value.slice (some ⟨gq, 0, none⟩) ls.length c2], Value.int IntKind.i64 (r2 : Int), Value.int IntKind.i64 (i2 : Int)]); exact HEC.out _ _)))
            refine wpQuiet_nil ?_
            intro w9 hw'
            obtain ⟨⟨dq, osq⟩, hw''⟩ := hw'
            have hbq := below_regrown W dq osq
            rw [← hw''] at hbq
            clear hw'' osq dq s0 s1 x0 x1 x2 x3 HEA HEC u0 u1 v1 v2 v3 v4
            obtain ⟨rk, rx, hB⟩ := HZ.out
            have hB := hB.trans (hbq.mono hB.size)
            clear hbq HZ rk rx
            go_wp2
            go_ret
            exact ⟨by first | rfl | (rw [hR]; rfl), hB⟩
          have d2 : (fa == ga) = true := by simpa using k2
          have k2 : Hid _ := k2
          by_cases k3 : fl = gl
          case neg =>
            have d3 : (fl == gl) = false := by simpa using k3
            have hbad : linkAt (ps.map (·.2)) ls k = false := by unfold linkAt linkB; rw [getElem!_pos ls k hlt, HLK.out]; rw [HFA.out, HFC.out]; simp only; rw [decide_eq_false k3]; simp
            have hR : RES = false := HRE2.out.trans (HLb.out hbad)
            clear hbad HLb HRE2 HLG HAp HX HM2 HLK HA2 HFA HFC
            refine wp_region_quiet_below (by kernel_rfl) (by kernel_rfl) ?_
            repeat (go_big_quiet_step (first | (go_at_call_of 67 (#[Value.agg #[Value.slice (some ⟨g, 0, none⟩) ps.length c1, Value.slice (some ⟨gq, 0, none⟩) ls.length c2], Value.int IntKind.i64 (r1 : Int), Value.int IntKind.i64 (i1 : Int)]); exact HEA.out _ _) | (go_at_call_of 67 (#[Value.agg #[Value.slice (some ⟨g, 0, none⟩) ps.length c1, Value.slice (some ⟨gq, 0, none⟩) ls.length c2], Value.int IntKind.i64 (r2 : Int), Value.int IntKind.i64 (i2 : Int)]); exact HEC.out _ _)))
            refine wpQuiet_nil ?_
            intro w9 hw'
            obtain ⟨⟨dq, osq⟩, hw''⟩ := hw'
            have hbq := below_regrown W dq osq
            rw [← hw''] at hbq
            clear hw'' osq dq s0 s1 x0 x1 x2 x3 HEA HEC u0 u1 v1 v2 v3 v4
            obtain ⟨rk, rx, hB⟩ := HZ.out
            have hB := hB.trans (hbq.mono hB.size)
            clear hbq HZ rk rx
            go_wp2
            go_ret
            exact ⟨by first | rfl | (rw [hR]; rfl), hB⟩
          have d3 : (fl == gl) = true := by simpa using k3
          have HLN : Hid (linkB (ps.map (·.2)) ⟨(r1 : Int), (i1 : Int), (r2 : Int), (i2 : Int)⟩ = true) := by
            show _ = _
            unfold linkB
            rw [HFA.out, HFC.out]
            simp only
            rw [decide_eq_true (show ((r1 : Nat) : Int) ≠ ((r2 : Nat) : Int) from k1.out), hE1.out, hE2.out, decide_eq_true k2.out, decide_eq_true k3]
            rfl
          clear k3 HFA HFC
          refine wp_region_quiet_below (by kernel_rfl) (by kernel_rfl) ?_
          repeat (go_big_quiet_step (first | (go_at_call_of 67 (#[Value.agg #[Value.slice (some ⟨g, 0, none⟩) ps.length c1, Value.slice (some ⟨gq, 0, none⟩) ls.length c2], Value.int IntKind.i64 (r1 : Int), Value.int IntKind.i64 (i1 : Int)]); exact HEA.out _ _) | (go_at_call_of 67 (#[Value.agg #[Value.slice (some ⟨g, 0, none⟩) ps.length c1, Value.slice (some ⟨gq, 0, none⟩) ls.length c2], Value.int IntKind.i64 (r2 : Int), Value.int IntKind.i64 (i2 : Int)]); exact HEC.out _ _)))
          refine wpQuiet_nil ?_
          intro w9 hw'
          obtain ⟨⟨dq, osq⟩, hw''⟩ := hw'
          have hbq := below_regrown W dq osq
          rw [← hw''] at hbq
          clear hw'' osq dq s0 s1 x0 x1 x2 x3 HEA HEC u0 u1 v1 v2 v3 v4
          obtain ⟨rk, rx, hB⟩ := HZ.out
          have rk := rk.below hbq rk.lt
          have rx := rx.below hbq rx.lt
          have hB := hB.trans (hbq.mono hB.size)
          clear hbq HZ
          have HZ : Hid _ := And.intro rk (And.intro rx hB)
          clear rk rx hB
          go_wp2_with fail
          go_loopw [6] (fun i wr => ∃ m : Nat, m ≤ k ∧ i = .int .i64 m ∧ (∀ j, j < m → apartB ls[j]! ls[k]! = true) ∧ Row wr w.heap.size 26 [.slice (some ⟨g, 0, none⟩) ps.length c1, .slice (some ⟨gq, 0, none⟩) ls.length c2] ∧ Row wr bx 56 [.int .i64 (r1 : Int), .int .i64 (i1 : Int), .int .i64 (r2 : Int), .int .i64 (i2 : Int)] ∧ Below w.heap.size w wr) (fun i _ => k - (intOf i).toNat)
          case atStart => exact ⟨0, Nat.zero_le _, rfl, fun j hj => absurd hj (by omega), HZ.out.1, HZ.out.2.1, HZ.out.2.2⟩
          case round =>
            clear HZ
            obtain ⟨m, hm, rfl, hap, rk, rx, hB⟩ := hrel
            by_cases hmk : m < k
            · have dm : decide ((m : Int) < (k : Int)) = true := by simpa using hmk
              obtain ⟨gq', ma, mx, mb, my, eq, hgq', hlm, z0, z1, z2, z3⟩ := (HX.out.2.below hB).at m (by omega)
              cases eq
              have dml : decide ((m : Int) < (ls.length : Int)) = true := by simp; omega
              have hAB : apartB ls[m]! ls[k]! = apartB ⟨ma, mx, mb, my⟩ ⟨(r1 : Int), (i1 : Int), (r2 : Int), (i2 : Int)⟩ := by rw [getElem!_pos ls m (by omega), getElem!_pos ls k hlt, hlm, HLK.out]
              have HAr : Hid (∀ d os, Calls Tryz.prog 68 #[.agg #[.int .i64 ma, .int .i64 mx, .int .i64 mb, .int .i64 my], .agg #[.int .i64 (r1 : Int), .int .i64 (i1 : Int), .int .i64 (r2 : Int), .int .i64 (i2 : Int)]] (grow (redrawn wr d) os) fun e w'' => e = .returned (.bool (apartB ls[m]! ls[k]!)) ∧ ∃ p : Regrown, w'' = grow (redrawn wr p.d) p.os) := fun d os => Calls.regrown_of (by rw [hAB]; exact HAp.out ⟨ma, mx, mb, my⟩ ⟨(r1 : Int), (i1 : Int), (r2 : Int), (i2 : Int)⟩ _)
              have HBm : Hid (apartB ls[m]! ls[k]! = false → LB = false) := fun h => HLb.out (by
                unfold linkAt
                rw [Bool.and_eq_false_iff]
                right
                rw [List.all_eq_false]
                refine ⟨ls[m], ?_, ?_⟩
                · rw [List.mem_iff_getElem]
                  exact ⟨m, by rw [List.length_take]; omega, by simp⟩
                · rw [getElem!_pos ls m (by omega)] at h
                  rw [h]; exact Bool.false_ne_true)
              have HNx : Hid (apartB ls[m]! ls[k]! = true → ∀ j, j < m + 1 → apartB ls[j]! ls[k]! = true) := fun h j hj => by
                rcases Nat.lt_or_ge j m with h' | h'
                · exact hap j h'
                · obtain rfl : j = m := by omega
                  exact h
              clear hap hlm hAB HX HAp
              generalize apartB ls[m]! ls[k]! = AP at *
              have s0 : wr.cell? ⟨w.heap.size, 0, none⟩ = some (.slice (some ⟨g, 0, none⟩) ps.length c1) := rk.cell 0
              have s1 : wr.cell? ⟨w.heap.size, 1, none⟩ = some (.slice (some ⟨gq, 0, none⟩) ls.length c2) := rk.cell 1
              have x0 : wr.cell? ⟨bx, 0, none⟩ = some (.int .i64 (r1 : Int)) := rx.cell 0
              have x1 : wr.cell? ⟨bx, 1, none⟩ = some (.int .i64 (i1 : Int)) := rx.cell 1
              have x2 : wr.cell? ⟨bx, 2, none⟩ = some (.int .i64 (r2 : Int)) := rx.cell 2
              have x3 : wr.cell? ⟨bx, 3, none⟩ = some (.int .i64 (i2 : Int)) := rx.cell 3
              replace s0 := cell_regrown s0
              replace s1 := cell_regrown s1
              replace x0 := cell_regrown x0
              replace x1 := cell_regrown x1
              replace x2 := cell_regrown x2
              replace x3 := cell_regrown x3
              replace z0 := cell_regrown z0
              replace z1 := cell_regrown z1
              replace z2 := cell_regrown z2
              replace z3 := cell_regrown z3
              have HZ2 : Hid _ := And.intro rk (And.intro rx hB)
              clear rk rx hB
              go_wp2_with fail
              refine wp_region_quiet_below (by kernel_rfl) (by kernel_rfl) ?_
              repeat (go_big_quiet_step ((go_at_call 68; exact HAr.out _ _)))
              refine wpQuiet_nil ?_
              intro w9 hw'
              obtain ⟨⟨dq, osq⟩, hw''⟩ := hw'
              have hbq := below_regrown wr dq osq
              rw [← hw''] at hbq
              clear hw'' osq dq s0 s1 x0 x1 x2 x3 z0 z1 z2 z3 HAr
              obtain ⟨rk, rx, hB⟩ := HZ2.out
              have rk := rk.below hbq rk.lt
              have rx := rx.below hbq rx.lt
              have hB := hB.trans (hbq.mono hB.size)
              clear hbq HZ2
              cases AP
              · have hR : RES = false := HRE2.out.trans (HBm.out rfl)
                clear HBm HNx HLb HRE2 HLG HM2 HLK HA2 HLN rk rx
                go_wp2
                go_ret
                exact ⟨by first | rfl | (rw [hR]; rfl), hB⟩
              · have HN : Hid _ := HNx.out rfl
                have HZ3 : Hid _ := And.intro rk (And.intro rx hB)
                clear HBm HNx rk rx hB
                go_wp2
                go_roundw
                case rel => exact ⟨m + 1, hmk, by go_num, HN.out, HZ3.out.1, HZ3.out.2.1, HZ3.out.2.2⟩
                case measure => simp [intOf]; omega
            · obtain rfl : m = k := by omega
              have dm : decide ((m : Int) < (m : Int)) = false := by simp
              have hok : linkAt (ps.map (·.2)) ls m = true := by
                unfold linkAt
                rw [Bool.and_eq_true, List.all_eq_true]
                refine ⟨by rw [getElem!_pos ls m hlt, HLK.out]; exact HLN.out, fun z hz => ?_⟩
                obtain ⟨j, hj, rfl⟩ := List.mem_iff_getElem.1 hz
                rw [List.length_take] at hj
                have := hap j (by omega)
                rw [getElem!_pos ls j (by omega)] at this
                rw [List.getElem_take]
                exact this
              have HN : Hid (∀ j, j < m + 1 → linkAt (ps.map (·.2)) ls j = true) := fun j hj => by
                rcases Nat.lt_or_ge j m with h' | h'
                · exact HA2.out j h'
                · obtain rfl : j = m := by omega
                  exact hok
              have HZ3 : Hid _ := And.intro rk hB
              clear hok hap HLN HA2 HLb rk rx hB
              go_wp2
              go_roundw
              case rel => exact ⟨m + 1, hlt, by go_num, HN.out, HZ3.out.1, HZ3.out.2⟩
              case measure => simp [intOf]; omega
        · obtain rfl : k = ls.length := by omega
          have dk : decide ((ls.length : Int) < (ls.length : Int)) = false := by simp
          have hR : RES = true := HRE2.out.trans (HLG.out h5 (fun j hj => ha j hj))
          clear HLG HRE2 ha HX HM2 HB2 HEn HAp rk
          go_wp2
          go_ret
          exact ⟨by first | rfl | (rw [hR]; rfl), hB⟩
end Go.Proofs.YtcnadobnihbldaaGreat
