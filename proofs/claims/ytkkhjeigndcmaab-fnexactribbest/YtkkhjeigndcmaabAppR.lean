/- slices.AppendSeq and Collect at routes, over the table's iterator. (Written by gen_appr.py.) -/
import Derived.Test.YtkkhjeigndcmaabAllI
import Derived.Maps.AppendAt
namespace Go.Proofs.Ytkkhjeigndcmaab
open Go.RowKit Go.Sort Go.Shelf
attribute [local go_sem] Oper.semAt_some

theorem cell_nine_new (W : World) (xs : List Value) (t : TypeId) : ∀ j u, xs[j]? = some u → (W.alloc (.cells xs.toArray t)).cell? ((⟨W.heap.size, 0, none⟩ : Addr).add j) = some u := by
  intro j u hj
  have := (Row.new W t xs).cell j
  rw [hj] at this
  have e : (⟨W.heap.size, 0, none⟩ : Addr).add j = ⟨W.heap.size, j, none⟩ := by
    unfold Addr.add
    by_cases h : j = 0
    · subst h; rfl
    · rw [if_neg h]; simp
  rw [e]
  exact this
theorem Try.infoRoute : (Try.prog.info? 30).map (fun i => (i.zero, i.size, i.bytes)) = some (some (.agg #[.int .i64 0, .int .i64 0, .int .i64 0, .int .i64 0, .int .i64 0, .int .i64 0, .int .i64 0, .int .i64 0, .bool false]), 9, 72) := by kernel_rfl
theorem KpN.alloc (W : World) (o : Obj) : KpN W (W.alloc o) := KpN.mk (by simp) (fun i _ _ hi _ => Below.heap_alloc W o i (Array.getElem?_eq_some_iff.1 hi).1) (KeepsWalks.alloc W o)
theorem kpn_appended {W w1 : World} {n₀ B : Nat} {v v' : Value} {k : Nat} {xs : List Value} {tmp : Obj} (hv : Boxed W B 32 v) (hrow : W.ownsRow n₀ 30 9 v k xs) (hgrow : (W.alloc tmp).grownBy w1 v.ownBlock) (hk : KeepsOthers W (w1.setCell ⟨B, 0, none⟩ v')) : KpN W (w1.setCell ⟨B, 0, none⟩ v') := by
  refine KpN.mk hk.size (fun i cur t hi ht => ?_) hk.walks
  have hlt : i < W.heap.size := (Array.getElem?_eq_some_iff.1 hi).1
  have hne : i ≠ B := by
    intro e
    subst e
    have h' : W.heap[i]? = some (.cells #[v] 32 (0, 0)) := hv
    rw [h'] at hi
    simp only [Option.some.injEq, Obj.cells.injEq] at hi
    obtain ⟨_, ht', _⟩ := hi
    rcases ht with rfl | rfl <;> cases ht'
  have hnr : some i ≠ v.ownBlock := by
    intro e
    rcases hrow.2 with ⟨rfl, _⟩ | ⟨g, cap, cur', rfl, _, hg, _⟩
    · simp [Value.ownBlock] at e
    · obtain rfl : i = g := by simpa [Value.ownBlock] using e
      rw [hg] at hi
      simp only [Option.some.injEq, Obj.cells.injEq] at hi
      obtain ⟨_, ht', _⟩ := hi
      rcases ht with rfl | rfl <;> cases ht'
  rw [Below.heap_setCell w1 ⟨B, 0, none⟩ v' i (fun e => hne e), hgrow.block i (by simp; omega) hnr, Below.heap_alloc W tmp i hlt]
set_option maxRecDepth 100000 in
set_option maxHeartbeats 2000000 in
theorem appendSeqR (Bm b : Nat) (ms rs : List Rt) (hp : ms.Perm rs) (w : World) (hr : ribB rs = true) (hm : Row w Bm 63 [.map (some b), .func (.func 67) #[] #[]]) (hM : MapIs w b ms) :
    Calls Try.prog 93 #[.slice none 0 0, .func (.func 69) #[] #[.pointer (some ⟨Bm, 0, none⟩)]] w fun e w' => ∃ v, e = .returned v ∧ w'.ownsRow w.heap.size 30 9 v rs.length (rowR rs) ∧ Below w.heap.size w w' := by
  refine (callsIn_wide (n := 9)).1 ?_
  refine callsIn_of_wp_marks Try.func93 rfl trivial ?_ rfl
  simp only [Try.ntmps93, List.size_toArray, List.length_cons, List.length_nil, Nat.reduceAdd, Nat.reduceSub, Array.replicate_succ, Array.replicate_zero, List.push_toArray, List.append_toArray, List.nil_append, List.cons_append]
  gi_wp2
  have bS := Boxed.new w 32 (.slice none 0 0)
  have hB0 : Below w.heap.size w (w.alloc (.cells #[.slice none 0 0] 32)) := ent_new0 w _
  have hm0 := hm.alloc (.cells #[.slice none 0 0] 32)
  have h8 := (ribB_spec hr).1
  have hM0 := hM.below hB0 hM.lt
  have hs0 : (w.alloc (.cells #[.slice none 0 0] 32)).heap.size = w.heap.size + 1 := by simp
  obtain ⟨Z, hZ⟩ : ∃ Z, (w.alloc (.cells #[.slice none 0 0] 32)) = Z := ⟨_, rfl⟩
  rw [hZ] at bS hB0 hm0 hM0 hs0 ⊢
  clear hZ hm hM
  refine wpIn_rangeFunc_ownH rfl (by omega) (gf := 69) (lb := #[.pointer (some ⟨Bm, 0, none⟩)]) rfl trivial (enters_of Try.func69 (by kernel_rfl) rfl)
    (all_stops (9 - 1) (by omega) Bm b ms rs hp hr Z hm0 hM0) KpN.t KpN.b (Below.refl _ _) (fun _ => rfl)
    (fun pre W => (∃ v, Boxed W w.heap.size 32 v ∧ W.ownsRow w.heap.size 30 9 v pre.length (rowR pre) ∧ True) ∧ Below w.heap.size w W)
    (fun _ _ _ => False)
    (OwnFrom.and (Own.from (holdsRow_own w.heap.size w.heap.size 32 30 9 (fun pre : List Rt => pre.length) rowR (fun _ _ => True)) _) (ownFrom_below (Nat.le_refl _) (by omega)))
    (fun _ _ _ _ _ hs _ _ => hs)
    ⟨⟨_, bS, World.ownsRow_nil Z _ _ 9, trivial⟩, hB0⟩
    (fun x a' W => ∃ Bx, w.heap.size < Bx ∧ Row W Bx 30 (rtL x) ∧ a' = { tmps := #[.slice none 0 0, .func (.func 69) #[] #[.pointer (some ⟨Bm, 0, none⟩)], .pointer (some ⟨w.heap.size, 0, none⟩), undef, .slice none 0 0, .pointer (some ⟨Bx, 0, none⟩), .func (.func 69) #[] #[.pointer (some ⟨Bm, 0, none⟩)], rtV x, undef, undef, undef, undef, undef], defers := [] })
    (fun x a' _ X Y row hs hg hr => by
      obtain ⟨Bx, h1, h2, h3⟩ := hs
      refine ⟨Bx, h1, (hg.block Bx h2.lt (fun e => ?_)).trans h2, h3⟩
      obtain ⟨_, o, ho, hc⟩ := hr Bx e.symm
      rw [show X.heap[Bx]? = _ from h2] at ho
      cases ho
      cases hc)
    ?assign ?body ?done ?stop
  case assign =>
    rintro l pre x W K ⟨⟨v, bv, hv, -⟩, hB1⟩ hK
    obtain ⟨A, L, M, O, I, T, U, E, C⟩ := x
    unfold rtV rtA at hK ⊢
    simp only at hK ⊢
    gi_wp2
    exact hK _ _ ((KeepsOthers.alloc _ _).from _) (KpN.alloc _ _) ⟨⟨v, bv.alloc _, hv.alloc _, trivial⟩, hB1.alloc hB1.size _⟩ ⟨W.heap.size, bv.lt, Row.new W 30 [.int .i64 A, .int .i64 L, .int .i64 M, .int .i64 O, .int .i64 I, .int .i64 T, .int .i64 U, .int .i64 E, .bool C], rfl⟩
  case body =>
    rintro l pre x a' W hl ⟨r, hr⟩ ⟨⟨v, bv, hv, -⟩, hB1⟩ ⟨Bx, hBx, hRx, rfl⟩ hlt
    obtain ⟨A, L, M, O, I, T, U, E, C⟩ := x
    unfold rtV rtA
    simp only [rtL] at hRx ⊢
    have c0 := bv.cell
    have x0 : W.cell? ⟨Bx, 0, none⟩ = some (.int .i64 A) := hRx.cell 0
    have x1 : W.cell? ⟨Bx, 1, none⟩ = some (.int .i64 L) := hRx.cell 1
    have x2 : W.cell? ⟨Bx, 2, none⟩ = some (.int .i64 M) := hRx.cell 2
    have x3 : W.cell? ⟨Bx, 3, none⟩ = some (.int .i64 O) := hRx.cell 3
    have x4 : W.cell? ⟨Bx, 4, none⟩ = some (.int .i64 I) := hRx.cell 4
    have x5 : W.cell? ⟨Bx, 5, none⟩ = some (.int .i64 T) := hRx.cell 5
    have x6 : W.cell? ⟨Bx, 6, none⟩ = some (.int .i64 U) := hRx.cell 6
    have x7 : W.cell? ⟨Bx, 7, none⟩ = some (.int .i64 E) := hRx.cell 7
    have x8 : W.cell? ⟨Bx, 8, none⟩ = some (.bool C) := hRx.cell 8
    obtain ⟨i0, hi0, hz0, hz1, hz2⟩ := info_parts Try.infoRoute
    gi_wp2_with (gi_at_builtin; refine wpListIn_append_own _ rfl _ _ 32 rfl w.heap.size 30 i0 (.agg #[.int .i64 0, .int .i64 0, .int .i64 0, .int .i64 0, .int .i64 0, .int .i64 0, .int .i64 0, .int .i64 0, .bool false]) 9 72 Try.underlying32 hi0 hz0 hz1 hz2 rfl (by decide) _ _ _ rfl (hv.alloc _) ⟨W.heap.size, 0, none⟩ 1 1 [.int .i64 A, .int .i64 L, .int .i64 M, .int .i64 O, .int .i64 I, .int .i64 T, .int .i64 U, .int .i64 E, .bool C] rfl rfl (cell_nine_new W _ _) (by simp [Value.oneCell']) (by unfold maxLen; omega) (by omega) (by have := hB1.size; simp; omega) ?_; intro v' w1 hown' hgrow _; obtain ⟨g', cap', rfl⟩ := ownsRow_succ hown'; obtain ⟨hv1, hv2, hr2, hk2, hb2⟩ := bv.appended (by decide) hv hB1.size (Nat.le_refl _) hown' hgrow; have hc1 := hv1.cell; have hf1 := hv1.frozen)
    refine ⟨hk2.from _, kpn_appended bv hv hgrow hk2, ⟨_, hv2, ?_, trivial⟩, hB1.trans hb2⟩
    rw [List.length_append, rowR_append]
    exact hr2
  case done =>
    rintro D xs W hD rfl ⟨⟨v, bv, hv, -⟩, hB1⟩ hK
    have c0 := bv.cell
    gi_wp2
    refine ⟨by simp, .inl ⟨_, _, rfl, run_takeDeferred hK, ?_⟩⟩
    refine ⟨_, results_tmp rfl _ _ _, v, rfl, ownsRow_putObj hv _ hK rfl, ?_⟩
    exact hB1.trans (belowK_b (w := w) (Nat.le_refl _) W D _ _ (by omega) hK rfl rfl)
  case stop =>
    rintro D c pre W _ _ h _
    exact h.elim
set_option maxRecDepth 100000 in
theorem collectR (Bm b : Nat) (ms rs : List Rt) (hp : ms.Perm rs) (w : World) (hr : ribB rs = true) (hm : Row w Bm 63 [.map (some b), .func (.func 67) #[] #[]]) (hM : MapIs w b ms) :
    Calls Try.prog 81 #[.func (.func 69) #[] #[.pointer (some ⟨Bm, 0, none⟩)]] w fun e w' => ∃ v, e = .returned v ∧ w'.ownsRow w.heap.size 30 9 v rs.length (rowR rs) ∧ Below w.heap.size w w' := by
  have HA : Hid (Calls Try.prog 93 #[.slice none 0 0, .func (.func 69) #[] #[.pointer (some ⟨Bm, 0, none⟩)]] w fun e w' => ∃ v, e = .returned v ∧ w'.ownsRow w.heap.size 30 9 v rs.length (rowR rs) ∧ Below w.heap.size w w') := appendSeqR Bm b ms rs hp w hr hm hM
  clear hm hM
  go_enter Try.func81, Try.ntmps81
  go_wp2_with fail
  refine (HA.out).mono ?_
  rintro e w1 ⟨v, rfl, h2, h3⟩
  go_wp2
  go_ret
  exact ⟨v, rfl, h2, h3⟩
theorem ownR_set {w : World} {base base' : Nat} {v : Value} {n : Nat} {xs : List Value} (h : w.ownsRow base 30 9 v n xs) (p : Addr) (hp : p.block < base) (u : Value) (hb : base' ≤ base) : (w.setCell p u).ownsRow base' 30 9 v n xs := by
  obtain ⟨h1, h2⟩ := h
  refine ⟨h1, ?_⟩
  rcases h2 with h2 | ⟨g, cap, cur, e, hbg, hg, rest⟩
  · exact .inl h2
  · refine .inr ⟨g, cap, cur, e, by omega, ?_, rest⟩
    rw [Below.heap_setCell w p u g (by omega)]
    exact hg
theorem rows2 (w : World) (x y : List Value) (t1 t2 : TypeId) : ∃ W, W = (w.alloc (.cells x.toArray t1)).alloc (.cells y.toArray t2) ∧ Row W w.heap.size t1 x ∧ Row W (w.heap.size + 1) t2 y ∧ Below w.heap.size w W ∧ W.heap.size = w.heap.size + 1 + 1 := by
  have q0 := (Row.new w t1 x).alloc (.cells y.toArray t2)
  have q1 := Row.new (w.alloc (.cells x.toArray t1)) t2 y
  rw [show (w.alloc (.cells x.toArray t1)).heap.size = w.heap.size + 1 by simp] at q1
  exact ⟨_, rfl, q0, q1, (ent_new0 w _).alloc (by simp) _, by simp⟩
set_option maxRecDepth 100000 in
set_option maxHeartbeats 1000000 in
/-- ribOf: the routes of a table in the order of their nets, in memory of its own. -/
theorem ribOf_any (B : Nat) (ms rs : List Rt) (hp : ms.Perm rs) (hr : ribB rs = true) (w : World) (hM : MapIs w B ms) :
    Calls Try.prog 56 #[tabV B] w fun e w' => ∃ p cap, e = .returned (ribV p rs.length cap) ∧ w'.ownsRow w.heap.size 30 9 (.slice p rs.length cap) rs.length (rowR rs) ∧ Below w.heap.size w w' := by
  have HA : Hid (∀ w, Calls Try.prog 39 #[.agg #[.map (some B), .func (.func 67) #[] #[]]] w fun e w' => e = .returned (.func (.func 69) #[] #[.pointer (some ⟨w.heap.size, 0, none⟩)]) ∧ w.alloc (.cells #[.map (some B), .func (.func 67) #[] #[]] 63) = w') := fun w => all_make B w
  obtain ⟨W, hW, q0, q1, hB, hS⟩ := rows2 w [.map (some B), .func (.func 67) #[] #[]] [.slice none 0 0] 63 34
  have HC : Hid (Calls Try.prog 81 #[.func (.func 69) #[] #[.pointer (some ⟨w.heap.size + 1 + 1, 0, none⟩)]] (W.alloc (.cells #[.map (some B), .func (.func 67) #[] #[]] 63)) fun e w' => ∃ v, e = .returned v ∧ w'.ownsRow (W.alloc (.cells #[.map (some B), .func (.func 67) #[] #[]] 63)).heap.size 30 9 v rs.length (rowR rs) ∧ Below (W.alloc (.cells #[.map (some B), .func (.func 67) #[] #[]] 63)).heap.size (W.alloc (.cells #[.map (some B), .func (.func 67) #[] #[]] 63)) w') := by
    rw [← hS]
    exact collectR W.heap.size B ms rs hp _ hr (Row.new W 63 [.map (some B), .func (.func 67) #[] #[]]) ((hM.below hB hM.lt).below (ent_new0 W _) (hM.below hB hM.lt).lt)
  have c0 : W.cell? ⟨w.heap.size, 0, none⟩ = some (.map (some B)) := q0.cell 0
  have c1 : W.cell? ⟨w.heap.size, 1, none⟩ = some (.func (.func 67) #[] #[]) := q0.cell 1
  have HW : Hid _ := hW
  have HQ : Hid _ := And.intro q1 (And.intro hB hS)
  clear hW q0 q1 hB hM
  unfold tabV
  go_enter Try.func56, Try.ntmps56
  go_wp2_with fail
  rw [← HW.out]
  refine (HA.out _).mono ?_
  rintro e w1 ⟨rfl, rfl⟩
  clear HA HW
  go_wp2_with fail
  refine (HC.out).mono ?_
  rintro e w2 ⟨v, rfl, hv, hb2⟩
  obtain ⟨q1, hB, hS'⟩ := HQ.out
  have hs1 : (W.alloc (.cells #[.map (some B), .func (.func 67) #[] #[]] 63)).heap.size = w.heap.size + 1 + 1 + 1 := by simp; omega
  rw [hs1] at hv hb2
  have q2 := (q1.alloc (.cells #[.map (some B), .func (.func 67) #[] #[]] 63)).below hb2 (by omega)
  have hB2 : Below w.heap.size w w2 := (hB.alloc hB.size _).trans (hb2.mono (by omega))
  obtain ⟨p, cap, rfl⟩ : ∃ p cap, v = .slice p rs.length cap := by
    rcases hv.2 with ⟨rfl, h0⟩ | ⟨g, cap, cur, rfl, _⟩
    · exact ⟨none, 0, by rw [h0]⟩
    · exact ⟨_, cap, rfl⟩
  have d0 : w2.cell? ⟨w.heap.size + 1, 0, none⟩ = some (.slice none 0 0) := q2.cell 0
  have f0 : w2.frozen? ⟨w.heap.size + 1, 0, none⟩ = false := q2.frozen 0
  have hrow := q2.set 0 (.slice p rs.length cap)
  have hbel := hB2.setCell (p := ⟨w.heap.size + 1, 0, none⟩) (by show w.heap.size ≤ w.heap.size + 1; omega) (.slice p rs.length cap)
  have hown : (w2.setCell ⟨w.heap.size + 1, 0, none⟩ (.slice p rs.length cap)).ownsRow w.heap.size 30 9 (.slice p rs.length cap) rs.length (rowR rs) := ownR_set hv _ (by show w.heap.size + 1 < w.heap.size + 1 + 1 + 1; omega) _ (by omega)
  have HZ : Hid _ := And.intro hrow (And.intro hbel hown)
  clear hrow hbel hown q1 q2 hB hB2 hv hb2 HC HQ hs1
  generalize hN : rs.length = N at *
  have HN : Hid (rs.length = N) := hN
  clear hN
  go_wp2_with fail
  have HZ2 := HZ.out
  clear HZ d0 f0 c0 c1
  generalize w2.setCell ⟨w.heap.size + 1, 0, none⟩ (.slice p N cap) = Z at *
  obtain ⟨h1, h2, h3⟩ := HZ2
  have d0 : Z.cell? ⟨w.heap.size + 1, 0, none⟩ = some (.slice p N cap) := h1.cell 0
  refine bodyPost_ret (v := .agg #[.slice p N cap]) (by simp [results, Try.results56, go_sem, d0]) rfl ⟨p, cap, by rw [HN.out]; rfl, by rw [HN.out]; exact h3, h2⟩
end Go.Proofs.Ytkkhjeigndcmaab
