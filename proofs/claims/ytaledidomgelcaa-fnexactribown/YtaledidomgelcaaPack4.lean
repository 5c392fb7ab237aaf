/- Texts that stand on each other, in one file: AppR, PutS, AtS, WithI, ROwnI. -/
import Derived.Test.YtaledidomgelcaaPack3
import Derived.Maps.AppendAt
import Derived.Test.YtaledidomgelcaaPack2
import Derived.Test.YtaledidomgelcaaPack1
import Derived.WideLaws
/- slices.AppendSeq and Collect at routes, over the table's iterator. (Written by gen_appr.py.) -/
namespace Go.Proofs.Ytaledidomgelcaa
open Go.RowKit Go.Sort Go.Shelf
attribute [local go_sem] Oper.semAt_some

theorem cell_nine_new (W : World) (xs : List Value) (t : TypeId) : ∀ j u, xs[j]? = some u → (W.alloc (.cells xs.toArray t)).cell? ((⟨W.heap.size, 0, none⟩ : Addr).add j) = some u := by
  intro j u hj
  have := (Row.new W t xs).cell j
  rw [hj] at this
  have e : (⟨W.heap.size, 0, none⟩ : Addr).add j = ⟨W.heap.size, j, none⟩ := by
    unfold Addr.add
    by_cases h : j = 0
    · subst h; rfl
    · rw [if_neg h]; simp
  rw [e]
  exact this
theorem Try.infoRoute : (Try.prog.info? 46).map (fun i => (i.zero, i.size, i.bytes)) = some (some (.agg #[.int .i64 0, .int .i64 0, .int .i64 0, .int .i64 0, .int .i64 0, .int .i64 0, .int .i64 0, .int .i64 0, .bool false]), 9, 72) := by kernel_rfl
theorem KpN.alloc (W : World) (o : Obj) : KpN W (W.alloc o) := KpN.mk (by simp) (fun i _ _ hi _ => Below.heap_alloc W o i (Array.getElem?_eq_some_iff.1 hi).1) (KeepsWalks.alloc W o)
theorem kpn_appended {W w1 : World} {n₀ B : Nat} {v v' : Value} {k : Nat} {xs : List Value} {tmp : Obj} (hv : Boxed W B 28 v) (hrow : W.ownsRow n₀ 46 9 v k xs) (hgrow : (W.alloc tmp).grownBy w1 v.ownBlock) (hk : KeepsOthers W (w1.setCell ⟨B, 0, none⟩ v')) : KpN W (w1.setCell ⟨B, 0, none⟩ v') := by
  refine KpN.mk hk.size (fun i cur t hi ht => ?_) hk.walks
  have hlt : i < W.heap.size := (Array.getElem?_eq_some_iff.1 hi).1
  have hne : i ≠ B := by
    intro e
    subst e
    have h' : W.heap[i]? = some (.cells #[v] 28 (0, 0)) := hv
    rw [h'] at hi
    simp only [Option.some.injEq, Obj.cells.injEq] at hi
    obtain ⟨_, ht', _⟩ := hi
    rcases ht with rfl | rfl <;> cases ht'
  have hnr : some i ≠ v.ownBlock := by
    intro e
    rcases hrow.2 with ⟨rfl, _⟩ | ⟨g, cap, cur', rfl, _, hg, _⟩
    · simp [Value.ownBlock] at e
    · obtain rfl : i = g := by simpa [Value.ownBlock] using e
      rw [hg] at hi
      simp only [Option.some.injEq, Obj.cells.injEq] at hi
      obtain ⟨_, ht', _⟩ := hi
      rcases ht with rfl | rfl <;> cases ht'
  rw [Below.heap_setCell w1 ⟨B, 0, none⟩ v' i (fun e => hne e), hgrow.block i (by simp; omega) hnr, Below.heap_alloc W tmp i hlt]
set_option maxRecDepth 100000 in
set_option maxHeartbeats 2000000 in
theorem appendSeqR (Bm b : Nat) (ms rs : List Rt) (hp : ms.Perm rs) (w : World) (hr : ribB rs = true) (hm : Row w Bm 82 [.map (some b), .func (.func 82) #[] #[]]) (hM : MapIs w b ms) :
    Calls Try.prog 106 #[.slice none 0 0, .func (.func 91) #[] #[.pointer (some ⟨Bm, 0, none⟩)]] w fun e w' => ∃ v, e = .returned v ∧ w'.ownsRow w.heap.size 46 9 v rs.length (rowR rs) ∧ Below w.heap.size w w' := by
  refine (callsIn_wide (n := 9)).1 ?_
  refine callsIn_of_wp_marks Try.func106 rfl trivial ?_ rfl
  simp only [Try.ntmps106, List.size_toArray, List.length_cons, List.length_nil, Nat.reduceAdd, Nat.reduceSub, Array.replicate_succ, Array.replicate_zero, List.push_toArray, List.append_toArray, List.nil_append, List.cons_append]
  gi_wp2
  have bS := Boxed.new w 28 (.slice none 0 0)
  have hB0 : Below w.heap.size w (w.alloc (.cells #[.slice none 0 0] 28)) := ent_new0 w _
  have hm0 := hm.alloc (.cells #[.slice none 0 0] 28)
  have h8 := (ribB_spec hr).1
  have hM0 := hM.below hB0 hM.lt
  have hs0 : (w.alloc (.cells #[.slice none 0 0] 28)).heap.size = w.heap.size + 1 := by simp
  obtain ⟨Z, hZ⟩ : ∃ Z, (w.alloc (.cells #[.slice none 0 0] 28)) = Z := ⟨_, rfl⟩
  rw [hZ] at bS hB0 hm0 hM0 hs0 ⊢
  clear hZ hm hM
  refine wpIn_rangeFunc_ownH rfl (by omega) (gf := 91) (lb := #[.pointer (some ⟨Bm, 0, none⟩)]) rfl trivial (enters_of Try.func91 (by kernel_rfl) rfl)
    (all_stops (9 - 1) (by omega) Bm b ms rs hp hr Z hm0 hM0) KpN.t KpN.b (Below.refl _ _) (fun _ => rfl)
    (fun pre W => (∃ v, Boxed W w.heap.size 28 v ∧ W.ownsRow w.heap.size 46 9 v pre.length (rowR pre) ∧ True) ∧ Below w.heap.size w W)
    (fun _ _ _ => False)
    (OwnFrom.and (Own.from (holdsRow_own w.heap.size w.heap.size 28 46 9 (fun pre : List Rt => pre.length) rowR (fun _ _ => True)) _) (ownFrom_below (Nat.le_refl _) (by omega)))
    (fun _ _ _ _ _ hs _ _ => hs)
    ⟨⟨_, bS, World.ownsRow_nil Z _ _ 9, trivial⟩, hB0⟩
    (fun x a' W => ∃ Bx, w.heap.size < Bx ∧ Row W Bx 46 (rtL x) ∧ a' = { tmps := #[.slice none 0 0, .func (.func 91) #[] #[.pointer (some ⟨Bm, 0, none⟩)], .pointer (some ⟨w.heap.size, 0, none⟩), undef, .slice none 0 0, .pointer (some ⟨Bx, 0, none⟩), .func (.func 91) #[] #[.pointer (some ⟨Bm, 0, none⟩)], rtV x, undef, undef, undef, undef, undef], defers := [] })
    (fun x a' _ X Y row hs hg hr => by
      obtain ⟨Bx, h1, h2, h3⟩ := hs
      refine ⟨Bx, h1, (hg.block Bx h2.lt (fun e => ?_)).trans h2, h3⟩
      obtain ⟨_, o, ho, hc⟩ := hr Bx e.symm
      rw [show X.heap[Bx]? = _ from h2] at ho
      cases ho
      cases hc)
    ?assign ?body ?done ?stop
  case assign =>
    rintro l pre x W K ⟨⟨v, bv, hv, -⟩, hB1⟩ hK
    obtain ⟨A, L, M, O, I, T, U, E, C⟩ := x
    unfold rtV rtA at hK ⊢
    simp only at hK ⊢
    gi_wp2
    exact hK _ _ ((KeepsOthers.alloc _ _).from _) (KpN.alloc _ _) ⟨⟨v, bv.alloc _, hv.alloc _, trivial⟩, hB1.alloc hB1.size _⟩ ⟨W.heap.size, bv.lt, Row.new W 46 [.int .i64 A, .int .i64 L, .int .i64 M, .int .i64 O, .int .i64 I, .int .i64 T, .int .i64 U, .int .i64 E, .bool C], rfl⟩
  case body =>
    rintro l pre x a' W hl ⟨r, hr⟩ ⟨⟨v, bv, hv, -⟩, hB1⟩ ⟨Bx, hBx, hRx, rfl⟩ hlt
    obtain ⟨A, L, M, O, I, T, U, E, C⟩ := x
    unfold rtV rtA
    simp only [rtL] at hRx ⊢
    have c0 := bv.cell
    have x0 : W.cell? ⟨Bx, 0, none⟩ = some (.int .i64 A) := hRx.cell 0
    have x1 : W.cell? ⟨Bx, 1, none⟩ = some (.int .i64 L) := hRx.cell 1
    have x2 : W.cell? ⟨Bx, 2, none⟩ = some (.int .i64 M) := hRx.cell 2
    have x3 : W.cell? ⟨Bx, 3, none⟩ = some (.int .i64 O) := hRx.cell 3
    have x4 : W.cell? ⟨Bx, 4, none⟩ = some (.int .i64 I) := hRx.cell 4
    have x5 : W.cell? ⟨Bx, 5, none⟩ = some (.int .i64 T) := hRx.cell 5
    have x6 : W.cell? ⟨Bx, 6, none⟩ = some (.int .i64 U) := hRx.cell 6
    have x7 : W.cell? ⟨Bx, 7, none⟩ = some (.int .i64 E) := hRx.cell 7
    have x8 : W.cell? ⟨Bx, 8, none⟩ = some (.bool C) := hRx.cell 8
    obtain ⟨i0, hi0, hz0, hz1, hz2⟩ := info_parts Try.infoRoute
    gi_wp2_with (gi_at_builtin; refine wpListIn_append_own _ rfl _ _ 28 rfl w.heap.size 46 i0 (.agg #[.int .i64 0, .int .i64 0, .int .i64 0, .int .i64 0, .int .i64 0, .int .i64 0, .int .i64 0, .int .i64 0, .bool false]) 9 72 Try.underlying28 hi0 hz0 hz1 hz2 rfl (by decide) _ _ _ rfl (hv.alloc _) ⟨W.heap.size, 0, none⟩ 1 1 [.int .i64 A, .int .i64 L, .int .i64 M, .int .i64 O, .int .i64 I, .int .i64 T, .int .i64 U, .int .i64 E, .bool C] rfl rfl (cell_nine_new W _ _) (by simp [Value.oneCell']) (by unfold maxLen; omega) (by omega) (by have := hB1.size; simp; omega) ?_; intro v' w1 hown' hgrow _; obtain ⟨g', cap', rfl⟩ := ownsRow_succ hown'; obtain ⟨hv1, hv2, hr2, hk2, hb2⟩ := bv.appended (by decide) hv hB1.size (Nat.le_refl _) hown' hgrow; have hc1 := hv1.cell; have hf1 := hv1.frozen)
    refine ⟨hk2.from _, kpn_appended bv hv hgrow hk2, ⟨_, hv2, ?_, trivial⟩, hB1.trans hb2⟩
    rw [List.length_append, rowR_append]
    exact hr2
  case done =>
    rintro D xs W hD rfl ⟨⟨v, bv, hv, -⟩, hB1⟩ hK
    have c0 := bv.cell
    gi_wp2
    refine ⟨by simp, .inl ⟨_, _, rfl, run_takeDeferred hK, ?_⟩⟩
    refine ⟨_, results_tmp rfl _ _ _, v, rfl, ownsRow_putObj hv _ hK rfl, ?_⟩
    exact hB1.trans (belowK_b (w := w) (Nat.le_refl _) W D _ _ (by omega) hK rfl rfl)
  case stop =>
    rintro D c pre W _ _ h _
    exact h.elim
set_option maxRecDepth 100000 in
theorem collectR (Bm b : Nat) (ms rs : List Rt) (hp : ms.Perm rs) (w : World) (hr : ribB rs = true) (hm : Row w Bm 82 [.map (some b), .func (.func 82) #[] #[]]) (hM : MapIs w b ms) :
    Calls Try.prog 89 #[.func (.func 91) #[] #[.pointer (some ⟨Bm, 0, none⟩)]] w fun e w' => ∃ v, e = .returned v ∧ w'.ownsRow w.heap.size 46 9 v rs.length (rowR rs) ∧ Below w.heap.size w w' := by
  have HA : Hid (Calls Try.prog 106 #[.slice none 0 0, .func (.func 91) #[] #[.pointer (some ⟨Bm, 0, none⟩)]] w fun e w' => ∃ v, e = .returned v ∧ w'.ownsRow w.heap.size 46 9 v rs.length (rowR rs) ∧ Below w.heap.size w w') := appendSeqR Bm b ms rs hp w hr hm hM
  clear hm hM
  go_enter Try.func89, Try.ntmps89
  go_wp2_with fail
  refine (HA.out).mono ?_
  rintro e w1 ⟨v, rfl, h2, h3⟩
  go_wp2
  go_ret
  exact ⟨v, rfl, h2, h3⟩
theorem ownR_set {w : World} {base base' : Nat} {v : Value} {n : Nat} {xs : List Value} (h : w.ownsRow base 46 9 v n xs) (p : Addr) (hp : p.block < base) (u : Value) (hb : base' ≤ base) : (w.setCell p u).ownsRow base' 46 9 v n xs := by
  obtain ⟨h1, h2⟩ := h
  refine ⟨h1, ?_⟩
  rcases h2 with h2 | ⟨g, cap, cur, e, hbg, hg, rest⟩
  · exact .inl h2
  · refine .inr ⟨g, cap, cur, e, by omega, ?_, rest⟩
    rw [Below.heap_setCell w p u g (by omega)]
    exact hg
theorem rows2 (w : World) (x y : List Value) (t1 t2 : TypeId) : ∃ W, W = (w.alloc (.cells x.toArray t1)).alloc (.cells y.toArray t2) ∧ Row W w.heap.size t1 x ∧ Row W (w.heap.size + 1) t2 y ∧ Below w.heap.size w W ∧ W.heap.size = w.heap.size + 1 + 1 := by
  have q0 := (Row.new w t1 x).alloc (.cells y.toArray t2)
  have q1 := Row.new (w.alloc (.cells x.toArray t1)) t2 y
  rw [show (w.alloc (.cells x.toArray t1)).heap.size = w.heap.size + 1 by simp] at q1
  exact ⟨_, rfl, q0, q1, (ent_new0 w _).alloc (by simp) _, by simp⟩
set_option maxRecDepth 100000 in
set_option maxHeartbeats 1000000 in
/-- ribOf: the routes of a table in the order of their nets, in memory of its own. -/
theorem ribOf_any (B : Nat) (ms rs : List Rt) (hp : ms.Perm rs) (hr : ribB rs = true) (w : World) (hM : MapIs w B ms) :
    Calls Try.prog 56 #[tabV B] w fun e w' => ∃ p cap, e = .returned (ribV p rs.length cap) ∧ w'.ownsRow w.heap.size 46 9 (.slice p rs.length cap) rs.length (rowR rs) ∧ Below w.heap.size w w' := by
  have HA : Hid (∀ w, Calls Try.prog 59 #[.agg #[.map (some B), .func (.func 82) #[] #[]]] w fun e w' => e = .returned (.func (.func 91) #[] #[.pointer (some ⟨w.heap.size, 0, none⟩)]) ∧ w.alloc (.cells #[.map (some B), .func (.func 82) #[] #[]] 82) = w') := fun w => all_make B w
  obtain ⟨W, hW, q0, q1, hB, hS⟩ := rows2 w [.map (some B), .func (.func 82) #[] #[]] [.slice none 0 0] 82 30
  have HC : Hid (Calls Try.prog 89 #[.func (.func 91) #[] #[.pointer (some ⟨w.heap.size + 1 + 1, 0, none⟩)]] (W.alloc (.cells #[.map (some B), .func (.func 82) #[] #[]] 82)) fun e w' => ∃ v, e = .returned v ∧ w'.ownsRow (W.alloc (.cells #[.map (some B), .func (.func 82) #[] #[]] 82)).heap.size 46 9 v rs.length (rowR rs) ∧ Below (W.alloc (.cells #[.map (some B), .func (.func 82) #[] #[]] 82)).heap.size (W.alloc (.cells #[.map (some B), .func (.func 82) #[] #[]] 82)) w') := by
    rw [← hS]
    exact collectR W.heap.size B ms rs hp _ hr (Row.new W 82 [.map (some B), .func (.func 82) #[] #[]]) ((hM.below hB hM.lt).below (ent_new0 W _) (hM.below hB hM.lt).lt)
  have c0 : W.cell? ⟨w.heap.size, 0, none⟩ = some (.map (some B)) := q0.cell 0
  have c1 : W.cell? ⟨w.heap.size, 1, none⟩ = some (.func (.func 82) #[] #[]) := q0.cell 1
  have HW : Hid _ := hW
  have HQ : Hid _ := And.intro q1 (And.intro hB hS)
  clear hW q0 q1 hB hM
  unfold tabV
  go_enter Try.func56, Try.ntmps56
  go_wp2_with fail
  rw [← HW.out]
  refine (HA.out _).mono ?_
  rintro e w1 ⟨rfl, rfl⟩
  clear HA HW
  go_wp2_with fail
  refine (HC.out).mono ?_
  rintro e w2 ⟨v, rfl, hv, hb2⟩
  obtain ⟨q1, hB, hS'⟩ := HQ.out
  have hs1 : (W.alloc (.cells #[.map (some B), .func (.func 82) #[] #[]] 82)).heap.size = w.heap.size + 1 + 1 + 1 := by simp; omega
  rw [hs1] at hv hb2
  have q2 := (q1.alloc (.cells #[.map (some B), .func (.func 82) #[] #[]] 82)).below hb2 (by omega)
  have hB2 : Below w.heap.size w w2 := (hB.alloc hB.size _).trans (hb2.mono (by omega))
  obtain ⟨p, cap, rfl⟩ : ∃ p cap, v = .slice p rs.length cap := by
    rcases hv.2 with ⟨rfl, h0⟩ | ⟨g, cap, cur, rfl, _⟩
    · exact ⟨none, 0, by rw [h0]⟩
    · exact ⟨_, cap, rfl⟩
  have d0 : w2.cell? ⟨w.heap.size + 1, 0, none⟩ = some (.slice none 0 0) := q2.cell 0
  have f0 : w2.frozen? ⟨w.heap.size + 1, 0, none⟩ = false := q2.frozen 0
  have hrow := q2.set 0 (.slice p rs.length cap)
  have hbel := hB2.setCell (p := ⟨w.heap.size + 1, 0, none⟩) (by show w.heap.size ≤ w.heap.size + 1; omega) (.slice p rs.length cap)
  have hown : (w2.setCell ⟨w.heap.size + 1, 0, none⟩ (.slice p rs.length cap)).ownsRow w.heap.size 46 9 (.slice p rs.length cap) rs.length (rowR rs) := ownR_set hv _ (by show w.heap.size + 1 < w.heap.size + 1 + 1 + 1; omega) _ (by omega)
  have HZ : Hid _ := And.intro hrow (And.intro hbel hown)
  clear hrow hbel hown q1 q2 hB hB2 hv hb2 HC HQ hs1
  generalize hN : rs.length = N at *
  have HN : Hid (rs.length = N) := hN
  clear hN
  go_wp2_with fail
  have HZ2 := HZ.out
  clear HZ d0 f0 c0 c1
  generalize w2.setCell ⟨w.heap.size + 1, 0, none⟩ (.slice p N cap) = Z at *
  obtain ⟨h1, h2, h3⟩ := HZ2
  have d0 : Z.cell? ⟨w.heap.size + 1, 0, none⟩ = some (.slice p N cap) := h1.cell 0
  refine bodyPost_ret (v := .agg #[.slice p N cap]) (by simp [results, Try.results56, go_sem, d0]) rfl ⟨p, cap, by rw [HN.out]; rfl, by rw [HN.out]; exact h3, h2⟩
end Go.Proofs.Ytaledidomgelcaa
/- A route put in its place, by the model. (Written by gen_puts.py.) -/
namespace Go.Proofs.Ytaledidomgelcaa
open Go.RowKit Go.Sort

theorem insR_cut : ∀ (rs : List Rt) (r : Rt) (k : Nat), k ≤ rs.length → (∀ j, j < k → ltR rs[j]! r = true) → (∀ h : k < rs.length, ltR rs[k] r = false) →
    insR rs r = rs.take k ++ r :: rs.drop (if h : k < rs.length then (if isN r.a r.l rs[k] = true then k + 1 else k) else k)
  | [], r, k, hk, _, _ => by
    obtain rfl : k = 0 := by simpa using hk
    rfl
  | s :: rs, r, 0, _, _, h2 => by
    have h0 := h2 (by simp)
    simp only [List.getElem_cons_zero] at h0
    unfold insR
    rw [h0]
    simp only [List.length_cons, Nat.zero_lt_succ, dite_true, List.getElem_cons_zero, List.take_zero, List.nil_append, Bool.false_eq_true, if_false]
    split <;> rfl
  | s :: rs, r, k + 1, hk, h1, h2 => by
    have h0 := h1 0 (by omega)
    simp only [List.getElem!_cons_zero] at h0
    have ih := insR_cut rs r k (by simpa using hk) (fun j hj => by have := h1 (j + 1) (by omega); simpa using this) (fun h => by have := h2 (by simpa using h); simpa using this)
    unfold insR
    rw [if_pos h0, ih]
    simp only [List.length_cons, Nat.add_lt_add_iff_right, List.getElem_cons_succ, List.take_succ_cons, List.cons_append]
    congr 2
    split
    · split <;> rfl
    · rfl
theorem RtsIn.net {w : World} {g : Nat} {rs : List Rt} (h : RtsIn w (some ⟨g, 0, none⟩) rs) (k : Nat) (hk : k < rs.length) : w.cell? ⟨g, k * 9, none⟩ = some (.int .i64 rs[k].a) ∧ w.cell? ⟨g, k * 9 + 1, none⟩ = some (.int .i64 rs[k].l) := by
  rcases h with rfl | ⟨g', e, hg, hc⟩
  · simp at hk
  · cases e
    exact ⟨hc _ _ (rowR_get rs k 0 hk (by omega)), hc _ _ (rowR_get rs k 1 hk (by omega))⟩
theorem ownsR_shape {w : World} {base n : Nat} {v : Value} {xs : List Value} (h : w.ownsRow base 46 9 v n xs) : ∃ q c, v = .slice q n c := by
  rcases h.2 with ⟨h1, h2⟩ | ⟨g, cap, cur, h1, _⟩
  · exact ⟨none, 0, by rw [h1, h2]⟩
  · exact ⟨_, _, h1⟩
theorem insR_cut2 (rs : List Rt) (r : Rt) (k : Nat) (hk : k ≤ rs.length) (h1 : ∀ j, j < k → ltR rs[j]! r = true) (h2 : k < rs.length → ltR rs[k]! r = false) :
    insR rs r = rs.take k ++ r :: rs.drop (if k < rs.length ∧ isN r.a r.l rs[k]! = true then k + 1 else k) := by
  rw [insR_cut rs r k hk h1 (fun h => by have := h2 h; rwa [get_bang h] at this)]
  congr 3
  by_cases h : k < rs.length
  · rw [dif_pos h, get_bang h]
    simp [h]
  · rw [dif_neg h, if_neg (fun e => h e.1)]
set_option maxRecDepth 100000 in
set_option maxHeartbeats 4000000 in
theorem l06Put_any (p : Option Addr) (cap : Nat) (rs : List Rt) (r : Rt) (w : World) (h : RtsIn w p rs) (hc : p = none → cap = 0) (hcl : rs.length ≤ cap) (hn : rs.length ≤ 100000000) :
    Calls Try.prog 78 #[ribV p rs.length cap, rtV r] w fun e w' => ∃ q c, e = .returned (ribV q (insR rs r).length c) ∧ w'.ownsRow w.heap.size 46 9 (.slice q (insR rs r).length c) (insR rs r).length (rowR (insR rs r)) ∧ Below w.heap.size w w' := by
  have HX : Hid (RtsIn w p rs) := h
  have HC : Hid ((p = none → cap = 0) ∧ rs.length ≤ cap) := ⟨hc, hcl⟩
  have HL : Hid (∀ a l b m w, Calls Try.prog 74 #[.agg #[.int .i64 a, .int .i64 l], .agg #[.int .i64 b, .int .i64 m]] w fun e w' => e = .returned (.bool (decide (a < b) || (a == b && decide (l < m)))) ∧ Below w.heap.size w w') := fun a l b m w => l03Less_any a l b m w
  have HI : Hid (∀ k, k ≤ rs.length → (∀ j, j < k → ltR rs[j]! r = true) → (k < rs.length → ltR rs[k]! r = false) → insR rs r = rs.take k ++ r :: rs.drop (if k < rs.length ∧ isN r.a r.l rs[k]! = true then k + 1 else k)) := insR_cut2 rs r
  clear h hc hcl
  generalize insR rs r = qs at *
  generalize hN : rs.length = N at *
  have HN : Hid (rs.length = N) := hN
  obtain ⟨A, L, M, O, I, T, U, E, C⟩ := r
  unfold ribV rtV rtA
  simp only
  obtain ⟨W, hW, q0, q1, q2, hB, hS, -⟩ := rows3 w [.slice p N cap] [.int .i64 A, .int .i64 L, .int .i64 M, .int .i64 O, .int .i64 I, .int .i64 T, .int .i64 U, .int .i64 E, .bool C] [.slice none 0 0] 30 46 30
  have HW : Hid _ := hW
  have HQ : Hid _ := And.intro q0 (And.intro q1 (And.intro q2 hB))
  clear hW q0 q1 q2 hB hN
  go_enter Try.func78, Try.ntmps78
  go_wp2_with fail
  rw [← HW.out]
  go_loopw [5] (fun i wr => ∃ k : Nat, k ≤ N ∧ i = .int .i64 k ∧ (∀ j, j < k → ltR rs[j]! ⟨A, L, M, O, I, T, U, E, C⟩ = true) ∧ Below W.heap.size W wr) (fun i _ => N - (intOf i).toNat)
  case atStart => exact ⟨0, Nat.zero_le _, rfl, fun j hj => absurd hj (by omega), Below.refl _ _⟩
  case round =>
    obtain ⟨k, hk, rfl, ha, hb⟩ := hrel
    obtain ⟨q0, q1, q2, hB⟩ := HQ.out
    clear HW HQ
    have x0 : wr.cell? ⟨w.heap.size, 0, none⟩ = some (.slice p N cap) := (q0.below hb q0.lt).cell 0
    by_cases hlt : k < N
    · have d1 : decide ((k : Int) < (N : Int)) = true := by simpa using hlt
      have hlr : k < rs.length := by rw [HN.out]; exact hlt
      obtain ⟨g, a, l, m, n, ii, t, u, b, c, rfl, hg, hek, c0, c1, c2, c3, c4, c5, c6, c7, c8⟩ := ((HX.out).below (hB.trans (hb.mono hB.size))).at k hlr
      clear c2 c3 c4 c5 c6 c7 c8
      have y0 : wr.cell? ⟨w.heap.size + 1, 0, none⟩ = some (.int .i64 A) := (q1.below hb q1.lt).cell 0
      have y1 : wr.cell? ⟨w.heap.size + 1, 1, none⟩ = some (.int .i64 L) := (q1.below hb q1.lt).cell 1
      have HLk : Hid (∀ w, Calls Try.prog 74 #[.agg #[.int .i64 a, .int .i64 l], .agg #[.int .i64 A, .int .i64 L]] w fun e w' => e = .returned (.bool (decide (a < A) || (a == A && decide (l < L)))) ∧ Below w.heap.size w w') := HL.out a l A L
      have hlk : ltR rs[k] ⟨A, L, M, O, I, T, U, E, C⟩ = (decide (a < A) || (a == A && decide (l < L))) := by rw [hek]; rfl
      cases hless : (decide (a < A) || (a == A && decide (l < L)))
      · rw [hless] at HLk hlk
        have HR0 : Hid _ := HI.out k hk ha (fun _ => by rw [get_bang hlr]; exact hlk)
        clear HL HI ha hless hlk
        go_wp2_with fail
        replace x0 := cell_regrown x0
        replace c0 := cell_regrown c0
        replace c1 := cell_regrown c1
        replace y0 := cell_regrown y0
        replace y1 := cell_regrown y1
        refine wp_region_quiet_below (by kernel_rfl) (by kernel_rfl) ?_
        repeat (go_big_quiet_step (first | (go_at_call 74; exact Calls.regrown_of (HLk.out _))))
        refine wpQuiet_nil ?_
        intro w1 hw'
        obtain ⟨⟨dq, osq⟩, hw''⟩ := hw'
        have hbq := below_regrown wr dq osq
        rw [← hw''] at hbq
        clear hw'' osq dq x0 c0 c1 y0 y1
        have hb := hb.trans (hbq.mono hb.size)
        clear hbq HLk
        by_cases hit : isN A L rs[k] = true
        · have HR : qs = rs.take k ++ ⟨A, L, M, O, I, T, U, E, C⟩ :: rs.drop (k + 1) := by rw [HR0.out, if_pos ⟨hlt, by rw [get_bang hlr]; exact hit⟩]
          rw [hek] at hit
          obtain ⟨z1, z2⟩ := isN_eq hit
          simp only at z1 z2
          subst z1 z2
          have z1 : (a == a) = true := by simp
          have z2 : (l == l) = true := by simp
          clear hit
          have q0 := (q0.below hb (by omega)).alloc (.cells #[] 46)
          have q1 := (q1.below hb (by omega)).alloc (.cells #[] 46)
          have q2 := (q2.below hb (by omega)).alloc (.cells #[] 46)
          have hB1 := hB.trans (hb.mono hB.size)
          have hB := hB1.alloc hB1.size (.cells #[] 46)
          have hk8 : k ≤ cap := by have := HC.out.2; omega
          have x0 : (w1.alloc (.cells #[] 46)).cell? ⟨w.heap.size, 0, none⟩ = some (.slice (some ⟨g, 0, none⟩) N cap) := q0.cell 0
          have hX1 := (HX.out).below hB
          have hsw := hb.size
          have ho := World.ownsRow_lit (base := W.heap.size) (e := 46) (size := 9) w1 #[] 0 hsw (Nat.zero_le _) (by simp)
          have hlk : (rs.take k).length = k := by rw [List.length_take, HN.out]; omega
          obtain ⟨v4, w4, happ, hown4, hb4⟩ := run_append_rts (w1.alloc (.cells #[] 46)) W.heap.size (.slice (some ⟨w1.heap.size, 0, none⟩) 0 0) [] (rs.take k) (fromR (some ⟨g, 0, none⟩) cap 0) cap 28 (by simpa [rowR] using ho) (fun e => by
            obtain ⟨h1, h2⟩ := fromR_none (k := 0) HC.out.1 (rtsIn_none hX1) e
            rw [List.drop_zero] at h1
            exact ⟨by rw [h1]; simp, by omega⟩) (fromR_upto hX1) (by simp [List.length_take]; omega) (by simp; omega)
          rw [hlk] at happ
          rw [List.nil_append] at hown4
          have hsl := sliceR_upto (some ⟨g, 0, none⟩) N cap k (k : Int) rfl hk8
          have hsw : W.heap.size ≤ (w1.alloc (.cells #[] 46)).heap.size := by simp; omega
          clear hX1 hb hB1 ho
          have q0 := q0.below hb4 (by omega)
          have q1 := q1.below hb4 (by omega)
          have q2 := q2.below hb4 (by omega)
          have hB := hB.trans (hb4.mono (by omega))
          have hsw := Nat.le_trans hsw hb4.size
          have y0 : w4.cell? ⟨w.heap.size + 1, 0, none⟩ = some (.int .i64 a) := q1.cell 0
          have y1 : w4.cell? ⟨w.heap.size + 1, 1, none⟩ = some (.int .i64 l) := q1.cell 1
          have y2 : w4.cell? ⟨w.heap.size + 1, 2, none⟩ = some (.int .i64 M) := q1.cell 2
          have y3 : w4.cell? ⟨w.heap.size + 1, 3, none⟩ = some (.int .i64 O) := q1.cell 3
          have y4 : w4.cell? ⟨w.heap.size + 1, 4, none⟩ = some (.int .i64 I) := q1.cell 4
          have y5 : w4.cell? ⟨w.heap.size + 1, 5, none⟩ = some (.int .i64 T) := q1.cell 5
          have y6 : w4.cell? ⟨w.heap.size + 1, 6, none⟩ = some (.int .i64 U) := q1.cell 6
          have y7 : w4.cell? ⟨w.heap.size + 1, 7, none⟩ = some (.int .i64 E) := q1.cell 7
          have y8 : w4.cell? ⟨w.heap.size + 1, 8, none⟩ = some (.bool C) := q1.cell 8
          have q0 := q0.alloc (.cells #[.int .i64 a, .int .i64 l, .int .i64 M, .int .i64 O, .int .i64 I, .int .i64 T, .int .i64 U, .int .i64 E, .bool C] 46)
          have q1 := q1.alloc (.cells #[.int .i64 a, .int .i64 l, .int .i64 M, .int .i64 O, .int .i64 I, .int .i64 T, .int .i64 U, .int .i64 E, .bool C] 46)
          have q2 := q2.alloc (.cells #[.int .i64 a, .int .i64 l, .int .i64 M, .int .i64 O, .int .i64 I, .int .i64 T, .int .i64 U, .int .i64 E, .bool C] 46)
          have hB := hB.alloc (by omega) (.cells #[.int .i64 a, .int .i64 l, .int .i64 M, .int .i64 O, .int .i64 I, .int .i64 T, .int .i64 U, .int .i64 E, .bool C] 46)
          have qn := Row.new w4 46 [.int .i64 a, .int .i64 l, .int .i64 M, .int .i64 O, .int .i64 I, .int .i64 T, .int .i64 U, .int .i64 E, .bool C]
          obtain ⟨v5, w5, happ5, hown5, hb5⟩ := run_append_rts (w4.alloc (.cells #[.int .i64 a, .int .i64 l, .int .i64 M, .int .i64 O, .int .i64 I, .int .i64 T, .int .i64 U, .int .i64 E, .bool C] 46)) W.heap.size v4 (rs.take k) [(⟨a, l, M, O, I, T, U, E, C⟩ : Rt)] (some ⟨w4.heap.size, 0, none⟩) 1 28 (World.ownsRow.alloc hown4 _) (fun e => by cases e) (fun ad e j u hj => by
            cases e
            rw [addR, Nat.zero_add, qn.cell]
            exact hj) (by simp [List.length_take]; omega) (by simp; omega)
          rw [List.length_singleton] at happ5
          have HE5 : Hid _ := And.intro q0 (And.intro q1 (And.intro q2 (And.intro hB (And.intro hown5 (And.intro hb5 (show W.heap.size ≤ (w4.alloc (.cells #[.int .i64 a, .int .i64 l, .int .i64 M, .int .i64 O, .int .i64 I, .int .i64 T, .int .i64 U, .int .i64 E, .bool C] 46)).heap.size by simp; omega))))))
          clear q0 q1 q2 hB hown4 hb4 hown5 hb5 hsw qn
          go_wp2_with (at_builtin; first | refine wpList_append_runs rfl _ _ 28 rfl _ _ rfl rfl happ ?_ | refine wpList_append_runs rfl _ _ 28 rfl _ _ rfl rfl happ5 ?_)
          clear happ x0 hsl
          obtain ⟨q0, q1, q2, hB, hown5, hb5, hsw⟩ := HE5.out
          have q0 := q0.below hb5 (by omega)
          have q1 := q1.below hb5 (by omega)
          have q2 := q2.below hb5 (by omega)
          have hB := hB.trans (hb5.mono (by omega))
          have hsw := Nat.le_trans hsw hb5.size
          have x0 : w5.cell? ⟨w.heap.size, 0, none⟩ = some (.slice (some ⟨g, 0, none⟩) N cap) := q0.cell 0
          clear happ5 HE5 hb5 y0 y1 y2 y3 y4 y5 y6 y7 y8
          obtain ⟨c0, c1⟩ := ((HX.out).below hB).net k hlr
          rw [hek] at c0 c1
          have y0 : w5.cell? ⟨w.heap.size + 1, 0, none⟩ = some (.int .i64 a) := q1.cell 0
          have y1 : w5.cell? ⟨w.heap.size + 1, 1, none⟩ = some (.int .i64 l) := q1.cell 1
          simp only at c0 c1
          go_wp2_with fail
          replace x0 := cell_regrown x0
          replace c0 := cell_regrown c0
          replace c1 := cell_regrown c1
          replace y0 := cell_regrown y0
          replace y1 := cell_regrown y1
          refine wp_region_quiet_below (by kernel_rfl) (by kernel_rfl) ?_
          repeat (go_big_quiet_step (fail))
          refine wpQuiet_nil ?_
          intro w6 hw'
          obtain ⟨⟨dq, osq⟩, hw''⟩ := hw'
          have hbq := below_regrown w5 dq osq
          rw [← hw''] at hbq
          clear hw'' osq dq x0 c0 c1 y0 y1
          have q0 := q0.below hbq q0.lt
          have q2 := q2.below hbq q2.lt
          have hB := hB.trans (hbq.mono hB.size)
          have hX6 := (HX.out).below hB
          have hsw := Nat.le_trans hsw hbq.size
          have hown6 : w6.ownsRow W.heap.size 46 9 v5 (rs.take k ++ [(⟨a, l, M, O, I, T, U, E, C⟩ : Rt)]).length (rowR (rs.take k ++ [(⟨a, l, M, O, I, T, U, E, C⟩ : Rt)])) := World.ownsRow.kept hown5 (row := none) ⟨hbq.os, hbq.tape, hbq.output, hbq.size, fun k hk _ => hbq.block k hk⟩ (by cases v5.ownBlock <;> simp)
          have x0 : w6.cell? ⟨w.heap.size, 0, none⟩ = some (.slice (some ⟨g, 0, none⟩) N cap) := q0.cell 0
          obtain ⟨v8, w8, happ8, hown8, hb8⟩ := run_append_rts w6 W.heap.size v5 (rs.take k ++ [(⟨a, l, M, O, I, T, U, E, C⟩ : Rt)]) (rs.drop (k + 1)) (fromR (some ⟨g, 0, none⟩) cap (k + 1)) (cap - (k + 1)) 28 hown6 (fun e => fromR_none HC.out.1 (rtsIn_none hX6) e) (fromR_cells hX6 (by rw [HN.out]; exact HC.out.2)) (by have := HN.out; simp [List.length_take]; omega) hsw
          rw [List.length_drop, HN.out] at happ8
          have hsl := sliceR_from (some ⟨g, 0, none⟩) N cap (k + 1) ((k : Int) + 1) (by omega) (by omega)
          generalize hQS : rs.take k ++ [(⟨a, l, M, O, I, T, U, E, C⟩ : Rt)] ++ rs.drop (k + 1) = QS at hown8
          have hq : qs = QS := by rw [HR, ← hQS, List.append_assoc]; rfl
          subst hq
          clear hQS
          obtain ⟨q8, c8, rfl⟩ := ownsR_shape hown8
          have q2 := q2.below hb8 (by omega)
          have hB := hB.trans (hb8.mono (by omega))
          have f0 : w8.frozen? ⟨w.heap.size + 1 + 1, 0, none⟩ = false := q2.frozen 0
          have z0 : w8.cell? ⟨w.heap.size + 1 + 1, 0, none⟩ = some (.slice none 0 0) := q2.cell 0
          have HE9 : Hid _ := And.intro (q2.set 0 (.slice q8 qs.length c8)) (And.intro (hB.setCell (p := ⟨w.heap.size + 1 + 1, 0, none⟩) (by show w.heap.size ≤ w.heap.size + 1 + 1; omega) (.slice q8 qs.length c8)) (ownR_set (base' := w.heap.size) hown8 ⟨w.heap.size + 1 + 1, 0, none⟩ (by show w.heap.size + 1 + 1 < W.heap.size; omega) (.slice q8 qs.length c8) (by omega)))
          clear q0 q1 q2 hB hown5 hown6 hown8 hb8 hbq hX6 hsw HR
          go_wp2_with (at_builtin; refine wpList_append_runs rfl _ _ 28 rfl _ _ rfl rfl happ8 ?_)
          obtain ⟨h1, h2, h3⟩ := HE9.out
          clear HE9 f0 z0
          generalize (w8.setCell ⟨w.heap.size + 1 + 1, 0, none⟩ (.slice q8 qs.length c8)) = Z at *
          have e0 : Z.cell? ⟨w.heap.size + 1 + 1, 0, none⟩ = some (.slice q8 qs.length c8) := h1.cell 0
          exact bodyPost_ret (v := .agg #[.slice q8 qs.length c8]) (by simp [results, Try.results78, go_sem, e0]) rfl ⟨q8, c8, rfl, h3, h2⟩
        · have HR : qs = rs.take k ++ ⟨A, L, M, O, I, T, U, E, C⟩ :: rs.drop k := by rw [HR0.out, if_neg (fun e => hit (by rw [← get_bang hlr]; exact e.2))]
          rw [hek] at hit
          by_cases hA : a = A
          · have z1 : (a == A) = true := by simpa using hA
            have z2 : (l == L) = false := by
              rw [beq_eq_false_iff_ne]
              intro hL
              exact hit (by simp [isN, hA, hL])
            clear hit hA
            have q0 := (q0.below hb (by omega)).alloc (.cells #[] 46)
            have q1 := (q1.below hb (by omega)).alloc (.cells #[] 46)
            have q2 := (q2.below hb (by omega)).alloc (.cells #[] 46)
            have hB1 := hB.trans (hb.mono hB.size)
            have hB := hB1.alloc hB1.size (.cells #[] 46)
            have hk8 : k ≤ cap := by have := HC.out.2; omega
            have x0 : (w1.alloc (.cells #[] 46)).cell? ⟨w.heap.size, 0, none⟩ = some (.slice (some ⟨g, 0, none⟩) N cap) := q0.cell 0
            have hX1 := (HX.out).below hB
            have hsw := hb.size
            have ho := World.ownsRow_lit (base := W.heap.size) (e := 46) (size := 9) w1 #[] 0 hsw (Nat.zero_le _) (by simp)
            have hlk : (rs.take k).length = k := by rw [List.length_take, HN.out]; omega
            obtain ⟨v4, w4, happ, hown4, hb4⟩ := run_append_rts (w1.alloc (.cells #[] 46)) W.heap.size (.slice (some ⟨w1.heap.size, 0, none⟩) 0 0) [] (rs.take k) (fromR (some ⟨g, 0, none⟩) cap 0) cap 28 (by simpa [rowR] using ho) (fun e => by
              obtain ⟨h1, h2⟩ := fromR_none (k := 0) HC.out.1 (rtsIn_none hX1) e
              rw [List.drop_zero] at h1
              exact ⟨by rw [h1]; simp, by omega⟩) (fromR_upto hX1) (by simp [List.length_take]; omega) (by simp; omega)
            rw [hlk] at happ
            rw [List.nil_append] at hown4
            have hsl := sliceR_upto (some ⟨g, 0, none⟩) N cap k (k : Int) rfl hk8
            have hsw : W.heap.size ≤ (w1.alloc (.cells #[] 46)).heap.size := by simp; omega
            clear hX1 hb hB1 ho
            have q0 := q0.below hb4 (by omega)
            have q1 := q1.below hb4 (by omega)
            have q2 := q2.below hb4 (by omega)
            have hB := hB.trans (hb4.mono (by omega))
            have hsw := Nat.le_trans hsw hb4.size
            have y0 : w4.cell? ⟨w.heap.size + 1, 0, none⟩ = some (.int .i64 A) := q1.cell 0
            have y1 : w4.cell? ⟨w.heap.size + 1, 1, none⟩ = some (.int .i64 L) := q1.cell 1
            have y2 : w4.cell? ⟨w.heap.size + 1, 2, none⟩ = some (.int .i64 M) := q1.cell 2
            have y3 : w4.cell? ⟨w.heap.size + 1, 3, none⟩ = some (.int .i64 O) := q1.cell 3
            have y4 : w4.cell? ⟨w.heap.size + 1, 4, none⟩ = some (.int .i64 I) := q1.cell 4
            have y5 : w4.cell? ⟨w.heap.size + 1, 5, none⟩ = some (.int .i64 T) := q1.cell 5
            have y6 : w4.cell? ⟨w.heap.size + 1, 6, none⟩ = some (.int .i64 U) := q1.cell 6
            have y7 : w4.cell? ⟨w.heap.size + 1, 7, none⟩ = some (.int .i64 E) := q1.cell 7
            have y8 : w4.cell? ⟨w.heap.size + 1, 8, none⟩ = some (.bool C) := q1.cell 8
            have q0 := q0.alloc (.cells #[.int .i64 A, .int .i64 L, .int .i64 M, .int .i64 O, .int .i64 I, .int .i64 T, .int .i64 U, .int .i64 E, .bool C] 46)
            have q1 := q1.alloc (.cells #[.int .i64 A, .int .i64 L, .int .i64 M, .int .i64 O, .int .i64 I, .int .i64 T, .int .i64 U, .int .i64 E, .bool C] 46)
            have q2 := q2.alloc (.cells #[.int .i64 A, .int .i64 L, .int .i64 M, .int .i64 O, .int .i64 I, .int .i64 T, .int .i64 U, .int .i64 E, .bool C] 46)
            have hB := hB.alloc (by omega) (.cells #[.int .i64 A, .int .i64 L, .int .i64 M, .int .i64 O, .int .i64 I, .int .i64 T, .int .i64 U, .int .i64 E, .bool C] 46)
            have qn := Row.new w4 46 [.int .i64 A, .int .i64 L, .int .i64 M, .int .i64 O, .int .i64 I, .int .i64 T, .int .i64 U, .int .i64 E, .bool C]
            obtain ⟨v5, w5, happ5, hown5, hb5⟩ := run_append_rts (w4.alloc (.cells #[.int .i64 A, .int .i64 L, .int .i64 M, .int .i64 O, .int .i64 I, .int .i64 T, .int .i64 U, .int .i64 E, .bool C] 46)) W.heap.size v4 (rs.take k) [(⟨A, L, M, O, I, T, U, E, C⟩ : Rt)] (some ⟨w4.heap.size, 0, none⟩) 1 28 (World.ownsRow.alloc hown4 _) (fun e => by cases e) (fun ad e j u hj => by
              cases e
              rw [addR, Nat.zero_add, qn.cell]
              exact hj) (by simp [List.length_take]; omega) (by simp; omega)
            rw [List.length_singleton] at happ5
            have HE5 : Hid _ := And.intro q0 (And.intro q1 (And.intro q2 (And.intro hB (And.intro hown5 (And.intro hb5 (show W.heap.size ≤ (w4.alloc (.cells #[.int .i64 A, .int .i64 L, .int .i64 M, .int .i64 O, .int .i64 I, .int .i64 T, .int .i64 U, .int .i64 E, .bool C] 46)).heap.size by simp; omega))))))
            clear q0 q1 q2 hB hown4 hb4 hown5 hb5 hsw qn
            go_wp2_with (at_builtin; first | refine wpList_append_runs rfl _ _ 28 rfl _ _ rfl rfl happ ?_ | refine wpList_append_runs rfl _ _ 28 rfl _ _ rfl rfl happ5 ?_)
            clear happ x0 hsl
            obtain ⟨q0, q1, q2, hB, hown5, hb5, hsw⟩ := HE5.out
            have q0 := q0.below hb5 (by omega)
            have q1 := q1.below hb5 (by omega)
            have q2 := q2.below hb5 (by omega)
            have hB := hB.trans (hb5.mono (by omega))
            have hsw := Nat.le_trans hsw hb5.size
            have x0 : w5.cell? ⟨w.heap.size, 0, none⟩ = some (.slice (some ⟨g, 0, none⟩) N cap) := q0.cell 0
            clear happ5 HE5 hb5 y0 y1 y2 y3 y4 y5 y6 y7 y8
            obtain ⟨c0, c1⟩ := ((HX.out).below hB).net k hlr
            rw [hek] at c0 c1
            have y0 : w5.cell? ⟨w.heap.size + 1, 0, none⟩ = some (.int .i64 A) := q1.cell 0
            have y1 : w5.cell? ⟨w.heap.size + 1, 1, none⟩ = some (.int .i64 L) := q1.cell 1
            simp only at c0 c1
            go_wp2_with fail
            replace x0 := cell_regrown x0
            replace c0 := cell_regrown c0
            replace c1 := cell_regrown c1
            replace y0 := cell_regrown y0
            replace y1 := cell_regrown y1
            refine wp_region_quiet_below (by kernel_rfl) (by kernel_rfl) ?_
            repeat (go_big_quiet_step (fail))
            refine wpQuiet_nil ?_
            intro w6 hw'
            obtain ⟨⟨dq, osq⟩, hw''⟩ := hw'
            have hbq := below_regrown w5 dq osq
            rw [← hw''] at hbq
            clear hw'' osq dq x0 c0 c1 y0 y1
            have q0 := q0.below hbq q0.lt
            have q2 := q2.below hbq q2.lt
            have hB := hB.trans (hbq.mono hB.size)
            have hX6 := (HX.out).below hB
            have hsw := Nat.le_trans hsw hbq.size
            have hown6 : w6.ownsRow W.heap.size 46 9 v5 (rs.take k ++ [(⟨A, L, M, O, I, T, U, E, C⟩ : Rt)]).length (rowR (rs.take k ++ [(⟨A, L, M, O, I, T, U, E, C⟩ : Rt)])) := World.ownsRow.kept hown5 (row := none) ⟨hbq.os, hbq.tape, hbq.output, hbq.size, fun k hk _ => hbq.block k hk⟩ (by cases v5.ownBlock <;> simp)
            have x0 : w6.cell? ⟨w.heap.size, 0, none⟩ = some (.slice (some ⟨g, 0, none⟩) N cap) := q0.cell 0
            obtain ⟨v8, w8, happ8, hown8, hb8⟩ := run_append_rts w6 W.heap.size v5 (rs.take k ++ [(⟨A, L, M, O, I, T, U, E, C⟩ : Rt)]) (rs.drop (k)) (fromR (some ⟨g, 0, none⟩) cap (k)) (cap - (k)) 28 hown6 (fun e => fromR_none HC.out.1 (rtsIn_none hX6) e) (fromR_cells hX6 (by rw [HN.out]; exact HC.out.2)) (by have := HN.out; simp [List.length_take]; omega) hsw
            rw [List.length_drop, HN.out] at happ8
            have hsl := sliceR_from (some ⟨g, 0, none⟩) N cap (k) ((k : Int)) (by omega) (by omega)
            generalize hQS : rs.take k ++ [(⟨A, L, M, O, I, T, U, E, C⟩ : Rt)] ++ rs.drop (k) = QS at hown8
            have hq : qs = QS := by rw [HR, ← hQS, List.append_assoc]; rfl
            subst hq
            clear hQS
            obtain ⟨q8, c8, rfl⟩ := ownsR_shape hown8
            have q2 := q2.below hb8 (by omega)
            have hB := hB.trans (hb8.mono (by omega))
            have f0 : w8.frozen? ⟨w.heap.size + 1 + 1, 0, none⟩ = false := q2.frozen 0
            have z0 : w8.cell? ⟨w.heap.size + 1 + 1, 0, none⟩ = some (.slice none 0 0) := q2.cell 0
            have HE9 : Hid _ := And.intro (q2.set 0 (.slice q8 qs.length c8)) (And.intro (hB.setCell (p := ⟨w.heap.size + 1 + 1, 0, none⟩) (by show w.heap.size ≤ w.heap.size + 1 + 1; omega) (.slice q8 qs.length c8)) (ownR_set (base' := w.heap.size) hown8 ⟨w.heap.size + 1 + 1, 0, none⟩ (by show w.heap.size + 1 + 1 < W.heap.size; omega) (.slice q8 qs.length c8) (by omega)))
            clear q0 q1 q2 hB hown5 hown6 hown8 hb8 hbq hX6 hsw HR
            go_wp2_with (at_builtin; refine wpList_append_runs rfl _ _ 28 rfl _ _ rfl rfl happ8 ?_)
            obtain ⟨h1, h2, h3⟩ := HE9.out
            clear HE9 f0 z0
            generalize (w8.setCell ⟨w.heap.size + 1 + 1, 0, none⟩ (.slice q8 qs.length c8)) = Z at *
            have e0 : Z.cell? ⟨w.heap.size + 1 + 1, 0, none⟩ = some (.slice q8 qs.length c8) := h1.cell 0
            exact bodyPost_ret (v := .agg #[.slice q8 qs.length c8]) (by simp [results, Try.results78, go_sem, e0]) rfl ⟨q8, c8, rfl, h3, h2⟩
          · have z1 : (a == A) = false := by simpa using hA
            clear hit hA
            have q0 := (q0.below hb (by omega)).alloc (.cells #[] 46)
            have q1 := (q1.below hb (by omega)).alloc (.cells #[] 46)
            have q2 := (q2.below hb (by omega)).alloc (.cells #[] 46)
            have hB1 := hB.trans (hb.mono hB.size)
            have hB := hB1.alloc hB1.size (.cells #[] 46)
            have hk8 : k ≤ cap := by have := HC.out.2; omega
            have x0 : (w1.alloc (.cells #[] 46)).cell? ⟨w.heap.size, 0, none⟩ = some (.slice (some ⟨g, 0, none⟩) N cap) := q0.cell 0
            have hX1 := (HX.out).below hB
            have hsw := hb.size
            have ho := World.ownsRow_lit (base := W.heap.size) (e := 46) (size := 9) w1 #[] 0 hsw (Nat.zero_le _) (by simp)
            have hlk : (rs.take k).length = k := by rw [List.length_take, HN.out]; omega
            obtain ⟨v4, w4, happ, hown4, hb4⟩ := run_append_rts (w1.alloc (.cells #[] 46)) W.heap.size (.slice (some ⟨w1.heap.size, 0, none⟩) 0 0) [] (rs.take k) (fromR (some ⟨g, 0, none⟩) cap 0) cap 28 (by simpa [rowR] using ho) (fun e => by
              obtain ⟨h1, h2⟩ := fromR_none (k := 0) HC.out.1 (rtsIn_none hX1) e
              rw [List.drop_zero] at h1
              exact ⟨by rw [h1]; simp, by omega⟩) (fromR_upto hX1) (by simp [List.length_take]; omega) (by simp; omega)
            rw [hlk] at happ
            rw [List.nil_append] at hown4
            have hsl := sliceR_upto (some ⟨g, 0, none⟩) N cap k (k : Int) rfl hk8
            have hsw : W.heap.size ≤ (w1.alloc (.cells #[] 46)).heap.size := by simp; omega
            clear hX1 hb hB1 ho
            have q0 := q0.below hb4 (by omega)
            have q1 := q1.below hb4 (by omega)
            have q2 := q2.below hb4 (by omega)
            have hB := hB.trans (hb4.mono (by omega))
            have hsw := Nat.le_trans hsw hb4.size
            have y0 : w4.cell? ⟨w.heap.size + 1, 0, none⟩ = some (.int .i64 A) := q1.cell 0
            have y1 : w4.cell? ⟨w.heap.size + 1, 1, none⟩ = some (.int .i64 L) := q1.cell 1
            have y2 : w4.cell? ⟨w.heap.size + 1, 2, none⟩ = some (.int .i64 M) := q1.cell 2
            have y3 : w4.cell? ⟨w.heap.size + 1, 3, none⟩ = some (.int .i64 O) := q1.cell 3
            have y4 : w4.cell? ⟨w.heap.size + 1, 4, none⟩ = some (.int .i64 I) := q1.cell 4
            have y5 : w4.cell? ⟨w.heap.size + 1, 5, none⟩ = some (.int .i64 T) := q1.cell 5
            have y6 : w4.cell? ⟨w.heap.size + 1, 6, none⟩ = some (.int .i64 U) := q1.cell 6
            have y7 : w4.cell? ⟨w.heap.size + 1, 7, none⟩ = some (.int .i64 E) := q1.cell 7
            have y8 : w4.cell? ⟨w.heap.size + 1, 8, none⟩ = some (.bool C) := q1.cell 8
            have q0 := q0.alloc (.cells #[.int .i64 A, .int .i64 L, .int .i64 M, .int .i64 O, .int .i64 I, .int .i64 T, .int .i64 U, .int .i64 E, .bool C] 46)
            have q1 := q1.alloc (.cells #[.int .i64 A, .int .i64 L, .int .i64 M, .int .i64 O, .int .i64 I, .int .i64 T, .int .i64 U, .int .i64 E, .bool C] 46)
            have q2 := q2.alloc (.cells #[.int .i64 A, .int .i64 L, .int .i64 M, .int .i64 O, .int .i64 I, .int .i64 T, .int .i64 U, .int .i64 E, .bool C] 46)
            have hB := hB.alloc (by omega) (.cells #[.int .i64 A, .int .i64 L, .int .i64 M, .int .i64 O, .int .i64 I, .int .i64 T, .int .i64 U, .int .i64 E, .bool C] 46)
            have qn := Row.new w4 46 [.int .i64 A, .int .i64 L, .int .i64 M, .int .i64 O, .int .i64 I, .int .i64 T, .int .i64 U, .int .i64 E, .bool C]
            obtain ⟨v5, w5, happ5, hown5, hb5⟩ := run_append_rts (w4.alloc (.cells #[.int .i64 A, .int .i64 L, .int .i64 M, .int .i64 O, .int .i64 I, .int .i64 T, .int .i64 U, .int .i64 E, .bool C] 46)) W.heap.size v4 (rs.take k) [(⟨A, L, M, O, I, T, U, E, C⟩ : Rt)] (some ⟨w4.heap.size, 0, none⟩) 1 28 (World.ownsRow.alloc hown4 _) (fun e => by cases e) (fun ad e j u hj => by
              cases e
              rw [addR, Nat.zero_add, qn.cell]
              exact hj) (by simp [List.length_take]; omega) (by simp; omega)
            rw [List.length_singleton] at happ5
            have HE5 : Hid _ := And.intro q0 (And.intro q1 (And.intro q2 (And.intro hB (And.intro hown5 (And.intro hb5 (show W.heap.size ≤ (w4.alloc (.cells #[.int .i64 A, .int .i64 L, .int .i64 M, .int .i64 O, .int .i64 I, .int .i64 T, .int .i64 U, .int .i64 E, .bool C] 46)).heap.size by simp; omega))))))
            clear q0 q1 q2 hB hown4 hb4 hown5 hb5 hsw qn
            go_wp2_with (at_builtin; first | refine wpList_append_runs rfl _ _ 28 rfl _ _ rfl rfl happ ?_ | refine wpList_append_runs rfl _ _ 28 rfl _ _ rfl rfl happ5 ?_)
            clear happ x0 hsl
            obtain ⟨q0, q1, q2, hB, hown5, hb5, hsw⟩ := HE5.out
            have q0 := q0.below hb5 (by omega)
            have q1 := q1.below hb5 (by omega)
            have q2 := q2.below hb5 (by omega)
            have hB := hB.trans (hb5.mono (by omega))
            have hsw := Nat.le_trans hsw hb5.size
            have x0 : w5.cell? ⟨w.heap.size, 0, none⟩ = some (.slice (some ⟨g, 0, none⟩) N cap) := q0.cell 0
            clear happ5 HE5 hb5 y0 y1 y2 y3 y4 y5 y6 y7 y8
            obtain ⟨c0, c1⟩ := ((HX.out).below hB).net k hlr
            rw [hek] at c0 c1
            have y0 : w5.cell? ⟨w.heap.size + 1, 0, none⟩ = some (.int .i64 A) := q1.cell 0
            have y1 : w5.cell? ⟨w.heap.size + 1, 1, none⟩ = some (.int .i64 L) := q1.cell 1
            simp only at c0 c1
            go_wp2_with fail
            replace x0 := cell_regrown x0
            replace c0 := cell_regrown c0
            replace c1 := cell_regrown c1
            replace y0 := cell_regrown y0
            replace y1 := cell_regrown y1
            refine wp_region_quiet_below (by kernel_rfl) (by kernel_rfl) ?_
            repeat (go_big_quiet_step (fail))
            refine wpQuiet_nil ?_
            intro w6 hw'
            obtain ⟨⟨dq, osq⟩, hw''⟩ := hw'
            have hbq := below_regrown w5 dq osq
            rw [← hw''] at hbq
            clear hw'' osq dq x0 c0 c1 y0 y1
            have q0 := q0.below hbq q0.lt
            have q2 := q2.below hbq q2.lt
            have hB := hB.trans (hbq.mono hB.size)
            have hX6 := (HX.out).below hB
            have hsw := Nat.le_trans hsw hbq.size
            have hown6 : w6.ownsRow W.heap.size 46 9 v5 (rs.take k ++ [(⟨A, L, M, O, I, T, U, E, C⟩ : Rt)]).length (rowR (rs.take k ++ [(⟨A, L, M, O, I, T, U, E, C⟩ : Rt)])) := World.ownsRow.kept hown5 (row := none) ⟨hbq.os, hbq.tape, hbq.output, hbq.size, fun k hk _ => hbq.block k hk⟩ (by cases v5.ownBlock <;> simp)
            have x0 : w6.cell? ⟨w.heap.size, 0, none⟩ = some (.slice (some ⟨g, 0, none⟩) N cap) := q0.cell 0
            obtain ⟨v8, w8, happ8, hown8, hb8⟩ := run_append_rts w6 W.heap.size v5 (rs.take k ++ [(⟨A, L, M, O, I, T, U, E, C⟩ : Rt)]) (rs.drop (k)) (fromR (some ⟨g, 0, none⟩) cap (k)) (cap - (k)) 28 hown6 (fun e => fromR_none HC.out.1 (rtsIn_none hX6) e) (fromR_cells hX6 (by rw [HN.out]; exact HC.out.2)) (by have := HN.out; simp [List.length_take]; omega) hsw
            rw [List.length_drop, HN.out] at happ8
            have hsl := sliceR_from (some ⟨g, 0, none⟩) N cap (k) ((k : Int)) (by omega) (by omega)
            generalize hQS : rs.take k ++ [(⟨A, L, M, O, I, T, U, E, C⟩ : Rt)] ++ rs.drop (k) = QS at hown8
            have hq : qs = QS := by rw [HR, ← hQS, List.append_assoc]; rfl
            subst hq
            clear hQS
            obtain ⟨q8, c8, rfl⟩ := ownsR_shape hown8
            have q2 := q2.below hb8 (by omega)
            have hB := hB.trans (hb8.mono (by omega))
            have f0 : w8.frozen? ⟨w.heap.size + 1 + 1, 0, none⟩ = false := q2.frozen 0
            have z0 : w8.cell? ⟨w.heap.size + 1 + 1, 0, none⟩ = some (.slice none 0 0) := q2.cell 0
            have HE9 : Hid _ := And.intro (q2.set 0 (.slice q8 qs.length c8)) (And.intro (hB.setCell (p := ⟨w.heap.size + 1 + 1, 0, none⟩) (by show w.heap.size ≤ w.heap.size + 1 + 1; omega) (.slice q8 qs.length c8)) (ownR_set (base' := w.heap.size) hown8 ⟨w.heap.size + 1 + 1, 0, none⟩ (by show w.heap.size + 1 + 1 < W.heap.size; omega) (.slice q8 qs.length c8) (by omega)))
            clear q0 q1 q2 hB hown5 hown6 hown8 hb8 hbq hX6 hsw HR
            go_wp2_with (at_builtin; refine wpList_append_runs rfl _ _ 28 rfl _ _ rfl rfl happ8 ?_)
            obtain ⟨h1, h2, h3⟩ := HE9.out
            clear HE9 f0 z0
            generalize (w8.setCell ⟨w.heap.size + 1 + 1, 0, none⟩ (.slice q8 qs.length c8)) = Z at *
            have e0 : Z.cell? ⟨w.heap.size + 1 + 1, 0, none⟩ = some (.slice q8 qs.length c8) := h1.cell 0
            exact bodyPost_ret (v := .agg #[.slice q8 qs.length c8]) (by simp [results, Try.results78, go_sem, e0]) rfl ⟨q8, c8, rfl, h3, h2⟩
      · rw [hless] at HLk hlk
        have HNx : Hid (∀ j, j < k + 1 → ltR rs[j]! ⟨A, L, M, O, I, T, U, E, C⟩ = true) := fun j hj => by
          rcases Nat.lt_or_ge j k with h' | h'
          · exact ha j h'
          · obtain rfl : j = k := by omega
            rw [get_bang hlr]; exact hlk
        clear HL HI ha hless hlk hek
        go_wp2_with fail
        replace x0 := cell_regrown x0
        replace c0 := cell_regrown c0
        replace c1 := cell_regrown c1
        replace y0 := cell_regrown y0
        replace y1 := cell_regrown y1
        refine wp_region_quiet_below (by kernel_rfl) (by kernel_rfl) ?_
        repeat (go_big_quiet_step (first | (go_at_call 74; exact Calls.regrown_of (HLk.out _))))
        refine wpQuiet_nil ?_
        intro w1 hw'
        obtain ⟨⟨dq, osq⟩, hw''⟩ := hw'
        have hbq := below_regrown wr dq osq
        rw [← hw''] at hbq
        clear hw'' osq dq x0 c0 c1 y0 y1
        have hb := hb.trans (hbq.mono hb.size)
        clear hbq HLk
        go_wp2
        go_roundw
        case rel => exact ⟨k + 1, hlt, by go_num, HNx.out, hb⟩
        case measure => simp [intOf]; omega
    · obtain rfl : k = N := by omega
      have d1 : decide ((k : Int) < (k : Int)) = false := by simp
      have HR := HI.out k hk ha (fun h => absurd h (by omega))
      rw [if_neg (fun e => hlt e.1)] at HR
      clear HL HI ha hlt
      go_wp2_with fail
      replace x0 := cell_regrown x0
      refine wp_region_quiet_below (by kernel_rfl) (by kernel_rfl) ?_
      repeat (go_big_quiet_step (fail))
      refine wpQuiet_nil ?_
      intro w1 hw'
      obtain ⟨⟨dq, osq⟩, hw''⟩ := hw'
      have hbq := below_regrown wr dq osq
      rw [← hw''] at hbq
      clear hw'' osq dq x0
      have hb := hb.trans (hbq.mono hb.size)
      clear hbq
      have q0 := (q0.below hb (by omega)).alloc (.cells #[] 46)
      have q1 := (q1.below hb (by omega)).alloc (.cells #[] 46)
      have q2 := (q2.below hb (by omega)).alloc (.cells #[] 46)
      have hB1 := hB.trans (hb.mono hB.size)
      have hB := hB1.alloc hB1.size (.cells #[] 46)
      have hk8 : k ≤ cap := by have := HC.out.2; omega
      have x0 : (w1.alloc (.cells #[] 46)).cell? ⟨w.heap.size, 0, none⟩ = some (.slice p k cap) := q0.cell 0
      have hX1 := (HX.out).below hB
      have hsw := hb.size
      have ho := World.ownsRow_lit (base := W.heap.size) (e := 46) (size := 9) w1 #[] 0 hsw (Nat.zero_le _) (by simp)
      have hlk : (rs.take k).length = k := by rw [List.length_take, HN.out]; omega
      obtain ⟨v4, w4, happ, hown4, hb4⟩ := run_append_rts (w1.alloc (.cells #[] 46)) W.heap.size (.slice (some ⟨w1.heap.size, 0, none⟩) 0 0) [] (rs.take k) (fromR p cap 0) cap 28 (by simpa [rowR] using ho) (fun e => by
        obtain ⟨h1, h2⟩ := fromR_none (k := 0) HC.out.1 (rtsIn_none hX1) e
        rw [List.drop_zero] at h1
        exact ⟨by rw [h1]; simp, by omega⟩) (fromR_upto hX1) (by simp [List.length_take]; omega) (by simp; omega)
      rw [hlk] at happ
      rw [List.nil_append] at hown4
      have hsl := sliceR_upto p k cap k (k : Int) rfl hk8
      have hsw : W.heap.size ≤ (w1.alloc (.cells #[] 46)).heap.size := by simp; omega
      clear hX1 hb hB1 ho
      have q0 := q0.below hb4 (by omega)
      have q1 := q1.below hb4 (by omega)
      have q2 := q2.below hb4 (by omega)
      have hB := hB.trans (hb4.mono (by omega))
      have hsw := Nat.le_trans hsw hb4.size
      have y0 : w4.cell? ⟨w.heap.size + 1, 0, none⟩ = some (.int .i64 A) := q1.cell 0
      have y1 : w4.cell? ⟨w.heap.size + 1, 1, none⟩ = some (.int .i64 L) := q1.cell 1
      have y2 : w4.cell? ⟨w.heap.size + 1, 2, none⟩ = some (.int .i64 M) := q1.cell 2
      have y3 : w4.cell? ⟨w.heap.size + 1, 3, none⟩ = some (.int .i64 O) := q1.cell 3
      have y4 : w4.cell? ⟨w.heap.size + 1, 4, none⟩ = some (.int .i64 I) := q1.cell 4
      have y5 : w4.cell? ⟨w.heap.size + 1, 5, none⟩ = some (.int .i64 T) := q1.cell 5
      have y6 : w4.cell? ⟨w.heap.size + 1, 6, none⟩ = some (.int .i64 U) := q1.cell 6
      have y7 : w4.cell? ⟨w.heap.size + 1, 7, none⟩ = some (.int .i64 E) := q1.cell 7
      have y8 : w4.cell? ⟨w.heap.size + 1, 8, none⟩ = some (.bool C) := q1.cell 8
      have q0 := q0.alloc (.cells #[.int .i64 A, .int .i64 L, .int .i64 M, .int .i64 O, .int .i64 I, .int .i64 T, .int .i64 U, .int .i64 E, .bool C] 46)
      have q1 := q1.alloc (.cells #[.int .i64 A, .int .i64 L, .int .i64 M, .int .i64 O, .int .i64 I, .int .i64 T, .int .i64 U, .int .i64 E, .bool C] 46)
      have q2 := q2.alloc (.cells #[.int .i64 A, .int .i64 L, .int .i64 M, .int .i64 O, .int .i64 I, .int .i64 T, .int .i64 U, .int .i64 E, .bool C] 46)
      have hB := hB.alloc (by omega) (.cells #[.int .i64 A, .int .i64 L, .int .i64 M, .int .i64 O, .int .i64 I, .int .i64 T, .int .i64 U, .int .i64 E, .bool C] 46)
      have qn := Row.new w4 46 [.int .i64 A, .int .i64 L, .int .i64 M, .int .i64 O, .int .i64 I, .int .i64 T, .int .i64 U, .int .i64 E, .bool C]
      obtain ⟨v5, w5, happ5, hown5, hb5⟩ := run_append_rts (w4.alloc (.cells #[.int .i64 A, .int .i64 L, .int .i64 M, .int .i64 O, .int .i64 I, .int .i64 T, .int .i64 U, .int .i64 E, .bool C] 46)) W.heap.size v4 (rs.take k) [(⟨A, L, M, O, I, T, U, E, C⟩ : Rt)] (some ⟨w4.heap.size, 0, none⟩) 1 28 (World.ownsRow.alloc hown4 _) (fun e => by cases e) (fun ad e j u hj => by
        cases e
        rw [addR, Nat.zero_add, qn.cell]
        exact hj) (by simp [List.length_take]; omega) (by simp; omega)
      rw [List.length_singleton] at happ5
      have HE5 : Hid _ := And.intro q0 (And.intro q1 (And.intro q2 (And.intro hB (And.intro hown5 (And.intro hb5 (show W.heap.size ≤ (w4.alloc (.cells #[.int .i64 A, .int .i64 L, .int .i64 M, .int .i64 O, .int .i64 I, .int .i64 T, .int .i64 U, .int .i64 E, .bool C] 46)).heap.size by simp; omega))))))
      clear q0 q1 q2 hB hown4 hb4 hown5 hb5 hsw qn
      go_wp2_with (at_builtin; first | refine wpList_append_runs rfl _ _ 28 rfl _ _ rfl rfl happ ?_ | refine wpList_append_runs rfl _ _ 28 rfl _ _ rfl rfl happ5 ?_)
      clear happ x0 hsl
      obtain ⟨q0, q1, q2, hB, hown5, hb5, hsw⟩ := HE5.out
      have q0 := q0.below hb5 (by omega)
      have q1 := q1.below hb5 (by omega)
      have q2 := q2.below hb5 (by omega)
      have hB := hB.trans (hb5.mono (by omega))
      have hsw := Nat.le_trans hsw hb5.size
      have x0 : w5.cell? ⟨w.heap.size, 0, none⟩ = some (.slice p k cap) := q0.cell 0
      clear happ5 HE5 hb5 y0 y1 y2 y3 y4 y5 y6 y7 y8
      have d2 : decide ((k : Int) < (k : Int)) = false := by simp
      go_wp2_with fail
      replace x0 := cell_regrown x0
      refine wp_region_quiet_below (by kernel_rfl) (by kernel_rfl) ?_
      repeat (go_big_quiet_step (fail))
      refine wpQuiet_nil ?_
      intro w6 hw'
      obtain ⟨⟨dq, osq⟩, hw''⟩ := hw'
      have hbq := below_regrown w5 dq osq
      rw [← hw''] at hbq
      clear hw'' osq dq x0
      have q0 := q0.below hbq q0.lt
      have q2 := q2.below hbq q2.lt
      have hB := hB.trans (hbq.mono hB.size)
      have hX6 := (HX.out).below hB
      have hsw := Nat.le_trans hsw hbq.size
      have hown6 : w6.ownsRow W.heap.size 46 9 v5 (rs.take k ++ [(⟨A, L, M, O, I, T, U, E, C⟩ : Rt)]).length (rowR (rs.take k ++ [(⟨A, L, M, O, I, T, U, E, C⟩ : Rt)])) := World.ownsRow.kept hown5 (row := none) ⟨hbq.os, hbq.tape, hbq.output, hbq.size, fun k hk _ => hbq.block k hk⟩ (by cases v5.ownBlock <;> simp)
      have x0 : w6.cell? ⟨w.heap.size, 0, none⟩ = some (.slice p k cap) := q0.cell 0
      obtain ⟨v8, w8, happ8, hown8, hb8⟩ := run_append_rts w6 W.heap.size v5 (rs.take k ++ [(⟨A, L, M, O, I, T, U, E, C⟩ : Rt)]) (rs.drop (k)) (fromR p cap (k)) (cap - (k)) 28 hown6 (fun e => fromR_none HC.out.1 (rtsIn_none hX6) e) (fromR_cells hX6 (by rw [HN.out]; exact HC.out.2)) (by have := HN.out; simp [List.length_take]; omega) hsw
      rw [List.length_drop, HN.out, Nat.sub_self] at happ8
      have hsl := sliceR_from p k cap (k) ((k : Int)) (by omega) (by omega)
      simp only [Nat.sub_self] at hsl
      generalize hQS : rs.take k ++ [(⟨A, L, M, O, I, T, U, E, C⟩ : Rt)] ++ rs.drop (k) = QS at hown8
      have hq : qs = QS := by rw [HR, ← hQS, List.append_assoc]; rfl
      subst hq
      clear hQS
      obtain ⟨q8, c8, rfl⟩ := ownsR_shape hown8
      have q2 := q2.below hb8 (by omega)
      have hB := hB.trans (hb8.mono (by omega))
      have f0 : w8.frozen? ⟨w.heap.size + 1 + 1, 0, none⟩ = false := q2.frozen 0
      have z0 : w8.cell? ⟨w.heap.size + 1 + 1, 0, none⟩ = some (.slice none 0 0) := q2.cell 0
      have HE9 : Hid _ := And.intro (q2.set 0 (.slice q8 qs.length c8)) (And.intro (hB.setCell (p := ⟨w.heap.size + 1 + 1, 0, none⟩) (by show w.heap.size ≤ w.heap.size + 1 + 1; omega) (.slice q8 qs.length c8)) (ownR_set (base' := w.heap.size) hown8 ⟨w.heap.size + 1 + 1, 0, none⟩ (by show w.heap.size + 1 + 1 < W.heap.size; omega) (.slice q8 qs.length c8) (by omega)))
      clear q0 q1 q2 hB hown5 hown6 hown8 hb8 hbq hX6 hsw HR
      go_wp2_with (at_builtin; refine wpList_append_runs rfl _ _ 28 rfl _ _ rfl rfl happ8 ?_)
      obtain ⟨h1, h2, h3⟩ := HE9.out
      clear HE9 f0 z0
      generalize (w8.setCell ⟨w.heap.size + 1 + 1, 0, none⟩ (.slice q8 qs.length c8)) = Z at *
      have e0 : Z.cell? ⟨w.heap.size + 1 + 1, 0, none⟩ = some (.slice q8 qs.length c8) := h1.cell 0
      exact bodyPost_ret (v := .agg #[.slice q8 qs.length c8]) (by simp [results, Try.results78, go_sem, e0]) rfl ⟨q8, c8, rfl, h3, h2⟩
end Go.Proofs.Ytaledidomgelcaa
/- The place of a net in a table, as the model looks for it. (Cut out of FindS.lean.) -/
namespace Go.Proofs.Ytaledidomgelcaa
open Go.RowKit Go.Sort

/-- The place of a net, or -1. -/
def atV (rs : List Rt) (a l : Int) : Int := match idxN rs a l with | some k => (k : Int) | none => -1
theorem atV_hit {rs : List Rt} {a l : Int} {k : Nat} (hk : k < rs.length) (h : ∀ j, j < k → isN a l rs[j]! = false) (hit : isN a l rs[k] = true) : idxN rs a l = some k := by
  unfold idxN
  rw [List.findIdx?_eq_some_iff_getElem]
  refine ⟨hk, hit, fun j hj => ?_⟩
  have := h j hj
  rw [get_bang (by omega)] at this
  simp [this]
theorem atV_none {rs : List Rt} {a l : Int} (h : ∀ j, j < rs.length → isN a l rs[j]! = false) : idxN rs a l = none := by
  unfold idxN
  rw [List.findIdx?_eq_none_iff]
  intro x hx
  obtain ⟨j, hj, rfl⟩ := List.mem_iff_getElem.1 hx
  have := h j hj
  rwa [get_bang hj] at this
set_option maxRecDepth 100000 in
set_option maxHeartbeats 1000000 in
theorem l06At_any (p : Option Addr) (cap : Nat) (rs : List Rt) (a l : Int) (w : World) (h : RtsIn w p rs) (hn : rs.length ≤ 100000000) :
    Calls Try.prog 77 #[ribV p rs.length cap, netV a l] w fun e w' => e = .returned (.int .i64 (atV rs a l)) ∧ Below w.heap.size w w' := by
  have HX : Hid (RtsIn w p rs) := h
  have HH1 : Hid (∀ k (hk : k < rs.length), (∀ j, j < k → isN a l rs[j]! = false) → isN a l rs[k] = true → atV rs a l = (k : Int)) := fun k hk h1 h2 => by unfold atV; rw [atV_hit hk h1 h2]
  have HH2 : Hid ((∀ j, j < rs.length → isN a l rs[j]! = false) → atV rs a l = -1) := fun h1 => by unfold atV; rw [atV_none h1]
  clear h
  generalize atV rs a l = R at *
  unfold ribV netV
  go_enter Try.func77, Try.ntmps77
  go_wp2_with fail
  go_loopw [5] (fun i wr => ∃ k : Nat, k ≤ rs.length ∧ i = .int .i64 k ∧ (∀ j, j < k → isN a l rs[j]! = false) ∧ Below ((w.alloc (.cells #[.slice p rs.length cap] 30)).alloc (.cells #[.int .i64 a, .int .i64 l] 35)).heap.size ((w.alloc (.cells #[.slice p rs.length cap] 30)).alloc (.cells #[.int .i64 a, .int .i64 l] 35)) wr) (fun i _ => rs.length - (intOf i).toNat)
  case atStart => exact ⟨0, Nat.zero_le _, rfl, fun j hj => absurd hj (by omega), Below.refl _ _⟩
  case round =>
    obtain ⟨k, hk, rfl, ha, hb0⟩ := hrel
    have q0 := (Row.new w 30 [.slice p rs.length cap]).alloc (.cells #[.int .i64 a, .int .i64 l] 35)
    have q1 := Row.new (w.alloc (.cells #[.slice p rs.length cap] 30)) 35 [.int .i64 a, .int .i64 l]
    rw [show (w.alloc (.cells #[.slice p rs.length cap] 30)).heap.size = w.heap.size + 1 by simp] at q1
    have x0 : wr.cell? ⟨w.heap.size, 0, none⟩ = some (.slice p rs.length cap) := (q0.below hb0 q0.lt).cell 0
    have y0 : wr.cell? ⟨w.heap.size + 1, 0, none⟩ = some (.int .i64 a) := (q1.below hb0 q1.lt).cell 0
    have y1 : wr.cell? ⟨w.heap.size + 1, 1, none⟩ = some (.int .i64 l) := (q1.below hb0 q1.lt).cell 1
    have hb : Below w.heap.size w wr := ((ent_new0 w _).alloc (by simp) _).trans (hb0.mono (by simp; omega))
    clear q0 q1
    by_cases hlt : k < rs.length
    · have d1 : decide ((k : Int) < (rs.length : Int)) = true := by simpa using hlt
      obtain ⟨g, A, L, M, N, I, T, U, E, C, rfl, hg, hek, c0, c1, c2, c3, c4, c5, c6, c7, c8⟩ := (HX.out.below hb).at k hlt
      clear c2 c3 c4 c5 c6 c7 c8
      by_cases hit : isN a l rs[k] = true
      · have HR : Hid (R = (k : Int)) := HH1.out k hlt ha hit
        rw [hek] at hit
        obtain ⟨rfl, rfl⟩ := isN_eq hit
        clear HH1 HH2 hit hek ha
        have z1 : (A == A) = true := by simp
        have z2 : (L == L) = true := by simp
        go_wp2_with fail
        go_quiet (fail)
        go_wp2
        go_ret
        refine ⟨?_, below_drewN hb _⟩
        rw [HR.out]; rfl
      · have HN : Hid (∀ j, j < k + 1 → isN a l rs[j]! = false) := fun j hj => by
          rcases Nat.lt_or_ge j k with h' | h'
          · exact ha j h'
          · obtain rfl : j = k := by omega
            rw [get_bang hlt]; simpa using hit
        rw [hek] at hit
        clear HH1 HH2 hek ha
        by_cases hA : A = a
        · have z1 : (A == a) = true := by simpa using hA
          have z2 : (L == l) = false := by
            rw [beq_eq_false_iff_ne]
            intro hL
            exact hit (by simp [isN, hA, hL])
          clear hit hA
          go_wp2_with fail
          go_quiet (fail)
          go_wp2
          go_roundw
          case rel => exact ⟨k + 1, hlt, by go_num, HN.out, below_drewN hb0 _⟩
          case measure => simp [intOf]; omega
        · have z1 : (A == a) = false := by simpa using hA
          clear hit hA
          go_wp2_with fail
          go_quiet (fail)
          go_wp2
          go_roundw
          case rel => exact ⟨k + 1, hlt, by go_num, HN.out, below_drewN hb0 _⟩
          case measure => simp [intOf]; omega
    · obtain rfl : k = rs.length := by omega
      have d1 : decide ((rs.length : Int) < (rs.length : Int)) = false := by simp
      have hR := HH2.out ha
      clear hlt hk HH1 HH2 ha
      go_wp2
      go_ret
      exact ⟨by rw [hR]; rfl, hb⟩
end Go.Proofs.Ytaledidomgelcaa
/- withRoute. (Written by gen_with.py.) -/
namespace Go.Proofs.Ytaledidomgelcaa
open Go.RowKit Go.Sort

theorem MapIs.size {w : World} {b : Nat} {rs : List Rt} (h : MapIs w b rs) : ∃ es clock, w.heap[b]? = some (.map es clock) ∧ es.size = rs.length := by
  obtain ⟨es, clock, hb, hh, _⟩ := h
  exact ⟨es, clock, hb, by have := hh.nil_iff; simpa using this⟩
set_option maxRecDepth 100000 in
set_option maxHeartbeats 1000000 in
theorem withRoute_any (B : Nat) (ms rs : List Rt) (r : Rt) (w : World) (hM : MapIs w B ms) (hp : (putN ms r).Perm rs) (hr : rs.length ≤ 8 → ribB rs = true) :
    Calls Try.prog 45 #[tabV B, rtV r] w fun e w' => (8 < rs.length ∧ e = .returned (.agg #[.slice none 0 0, .int .i64 9]) ∨ rs.length ≤ 8 ∧ ∃ p cap, e = .returned (.agg #[.slice p rs.length cap, .int .i64 0]) ∧ w'.ownsRow w.heap.size 46 9 (.slice p rs.length cap) rs.length (rowR rs)) ∧ Below B w w' := by
  have HP : Hid (∀ w, MapIs w B ms → Calls Try.prog 62 #[tabV B, netV r.a r.l, rtV r] w fun e w' => e = .returned (.tuple #[]) ∧ MapIs w' B (putN ms r) ∧ w.grownBy w' (some B)) := fun w h => put_any B ms r w h
  have HO : Hid (∀ w, rs.length ≤ 8 → MapIs w B (putN ms r) → Calls Try.prog 56 #[tabV B] w fun e w' => ∃ p cap, e = .returned (ribV p rs.length cap) ∧ w'.ownsRow w.heap.size 46 9 (.slice p rs.length cap) rs.length (rowR rs) ∧ Below w.heap.size w w') := fun w h8 h => ribOf_any B (putN ms r) rs hp (hr h8) w h
  have HL : Hid ((putN ms r).length = rs.length) := hp.length_eq
  have HM : Hid (MapIs w B ms) := hM
  clear hp hr hM
  generalize putN ms r = qs at *
  obtain ⟨A, L, M, O, I, T, U, E, C⟩ := r
  unfold tabV netV rtV rtA at *
  simp only at HP
  have HK : Hid (B < w.heap.size) := (HM.out).lt
  obtain ⟨W, hW, q0, q1, q2, hB, hS, -⟩ := rows3 w [.map (some B), .func (.func 82) #[] #[]] [.int .i64 A, .int .i64 L, .int .i64 M, .int .i64 O, .int .i64 I, .int .i64 T, .int .i64 U, .int .i64 E, .bool C] [.slice none 0 0, .int .i64 0] 82 46 32
  have HW : Hid _ := hW
  have HQ : Hid _ := And.intro q0 (And.intro q2 (And.intro hB hS))
  clear hW q0 q1 q2 hB hS
  go_enter Try.func45, Try.ntmps45
  go_wp2_with fail
  rw [← HW.out]
  obtain ⟨q0, q2, hB, hS⟩ := HQ.out
  have hlt := HK.out
  refine (HP.out _ ((HM.out).below hB hlt)).mono ?_
  rintro e w1 ⟨rfl, hM1, hg1⟩
  have q0 : Row w1 w.heap.size 82 [.map (some B), .func (.func 82) #[] #[]] := (hg1.block _ q0.lt (by intro e; cases e; omega)).trans q0
  have q2 : Row w1 (w.heap.size + 1 + 1) 32 [.slice none 0 0, .int .i64 0] := (hg1.block _ q2.lt (by intro e; cases e; omega)).trans q2
  have hB1 : Below B w w1 := (hB.mono (by omega)).trans ((Below.refl B W).grown hg1 (by omega) (fun k e => by cases e; omega))
  have hsz : w.heap.size + 1 + 1 + 1 ≤ w1.heap.size := by have := q2.lt; omega
  clear HP HM HW HQ hg1 hB hS
  obtain ⟨es, clock, hb, hes⟩ := hM1.size
  have x0 : w1.cell? ⟨w.heap.size, 0, none⟩ = some (.map (some B)) := q0.cell 0
  have x1 : w1.cell? ⟨w.heap.size, 1, none⟩ = some (.func (.func 82) #[] #[]) := q0.cell 1
  have hlen := run_len_map (P := Try.prog) (w := w1) 79 3 B es clock (by kernel_rfl) hb
  rw [hes, HL.out] at hlen
  have HE : Hid _ := And.intro q2 (And.intro hB1 (And.intro hM1 (And.intro hlt hsz)))
  have f0 : w1.frozen? ⟨w.heap.size + 1 + 1, 0, none⟩ = false := q2.frozen 0
  have f1 : w1.frozen? ⟨w.heap.size + 1 + 1, 1, none⟩ = false := q2.frozen 1
  have z0 : w1.cell? ⟨w.heap.size + 1 + 1, 0, none⟩ = some (.slice none 0 0) := q2.cell 0
  have z1 : w1.cell? ⟨w.heap.size + 1 + 1, 1, none⟩ = some (.int .i64 0) := q2.cell 1
  clear q0 q2 hB1 hM1 hlt hsz hb hes HL
  by_cases h8 : rs.length ≤ 8
  · have d8 : decide (8 < (rs.length : Int)) = false := by simp; omega
    go_wp2_with fail
    refine (HO.out _ h8 (HE.out).2.2.1).mono ?_
    rintro e w2 ⟨p, cap, rfl, hown, hb2⟩
    obtain ⟨q2, hB1, -, hlt, hsz⟩ := HE.out
    have q2 := q2.below hb2 q2.lt
    have hB2 := hB1.trans (hb2.mono (by omega))
    have HE2 : Hid _ := And.intro ((q2.set 0 (.slice p rs.length cap)).set 1 (.int .i64 0)) (And.intro ((hB2.setCell (p := ⟨w.heap.size + 1 + 1, 0, none⟩) (by show B ≤ w.heap.size + 1 + 1; omega) (.slice p rs.length cap)).setCell (p := ⟨w.heap.size + 1 + 1, 1, none⟩) (by show B ≤ w.heap.size + 1 + 1; omega) (.int .i64 0)) (ownR_set (base' := w.heap.size) (ownR_set (base' := w.heap.size + 1 + 1 + 1) hown ⟨w.heap.size + 1 + 1, 0, none⟩ (by show w.heap.size + 1 + 1 < _; omega) (.slice p rs.length cap) hsz) ⟨w.heap.size + 1 + 1, 1, none⟩ (by show w.heap.size + 1 + 1 < _; omega) (.int .i64 0) (by omega)))
    have f0 : w2.frozen? ⟨w.heap.size + 1 + 1, 0, none⟩ = false := q2.frozen 0
    have f1 : w2.frozen? ⟨w.heap.size + 1 + 1, 1, none⟩ = false := q2.frozen 1
    have z0 : w2.cell? ⟨w.heap.size + 1 + 1, 0, none⟩ = some (.slice none 0 0) := q2.cell 0
    have z1 : w2.cell? ⟨w.heap.size + 1 + 1, 1, none⟩ = some (.int .i64 0) := q2.cell 1
    clear HE HO q2 hB1 hB2 hown hb2 hlen d8
    unfold ribV
    go_wp2_with fail
    have h2 := HE2.out
    clear HE2 f0 f1 z0 z1
    generalize (w2.setCell ⟨w.heap.size + 1 + 1, 0, none⟩ (.slice p rs.length cap)).setCell ⟨w.heap.size + 1 + 1, 1, none⟩ (.int .i64 0) = Z at *
    obtain ⟨h1, h2, h3⟩ := h2
    have e0 : Z.cell? ⟨w.heap.size + 1 + 1, 0, none⟩ = some (.slice p rs.length cap) := h1.cell 0
    have e1 : Z.cell? ⟨w.heap.size + 1 + 1, 1, none⟩ = some (.int .i64 0) := h1.cell 1
    refine bodyPost_ret (v := .agg #[.slice p rs.length cap, .int .i64 0]) (by simp [results, Try.results45, go_sem, e0, e1]) rfl ⟨.inr ⟨h8, p, cap, rfl, h3⟩, h2⟩
  · have d8 : decide (8 < (rs.length : Int)) = true := by simp; omega
    obtain ⟨q2, hB1, -, hlt, hsz⟩ := HE.out
    have HE2 : Hid _ := And.intro ((q2.set 0 (.slice none 0 0)).set 1 (.int .i64 9)) ((hB1.setCell (p := ⟨w.heap.size + 1 + 1, 0, none⟩) (by show B ≤ w.heap.size + 1 + 1; omega) (.slice none 0 0)).setCell (p := ⟨w.heap.size + 1 + 1, 1, none⟩) (by show B ≤ w.heap.size + 1 + 1; omega) (.int .i64 9))
    clear HE HO q2 hB1
    go_wp2_with fail
    have h2 := HE2.out
    clear HE2 f0 f1 z0 z1 x0 x1 hlen
    generalize (w1.setCell ⟨w.heap.size + 1 + 1, 0, none⟩ (.slice none 0 0)).setCell ⟨w.heap.size + 1 + 1, 1, none⟩ (.int .i64 9) = Z at *
    obtain ⟨h1, h2⟩ := h2
    have e0 : Z.cell? ⟨w.heap.size + 1 + 1, 0, none⟩ = some (.slice none 0 0) := h1.cell 0
    have e1 : Z.cell? ⟨w.heap.size + 1 + 1, 1, none⟩ = some (.int .i64 9) := h1.cell 1
    refine bodyPost_ret (v := .agg #[.slice none 0 0, .int .i64 9]) (by simp [results, Try.results45, go_sem, e0, e1]) rfl ⟨.inl ⟨by omega, rfl⟩, h2⟩
end Go.Proofs.Ytaledidomgelcaa
/- RibOwn of the program. (Written by gen_own.py.) -/
namespace Go.Proofs.Ytaledidomgelcaa
open Go.RowKit Go.Sort

/-- An answer of RibOut: its code, its routes in memory of its own. -/
def OutR (base : Nat) (c : Int) (qs : List Rt) (e : Ending) (w : World) : Prop := ∃ p cap, e = .returned (.agg #[.slice p qs.length cap, .int .i64 c]) ∧ w.ownsRow base 46 9 (.slice p qs.length cap) qs.length (rowR qs)
def ownRt (a l i : Int) : Rt := ⟨a, l, 1, 0, i, 0, 0, 0, true⟩
theorem ownRt_right {a l i : Int} (h : rightB a l = true) (hi : inIf i = true) : routeB (ownRt a l i) = true := by
  simp [routeB, saidB, entB, rtE, ownRt, h, hi, inTime, timesB]
  decide
set_option maxRecDepth 100000 in
set_option maxHeartbeats 1000000 in
theorem implOwn_wrong (p : Option Addr) (cap : Nat) (rs : List Rt) (a l i : Int) (w : World) (h : RtsIn w p rs) (hn : rs.length ≤ 100000000) (hc : (ribB rs && (rightB a l && inIf i)) = false) :
    Calls Try.prog 13 #[ribV p rs.length cap, netV a l, .int .i64 i] w fun e w' => OutR w.heap.size 1 [] e w' ∧ Below w.heap.size w w' := by
  have HB : Hid (∀ w, RtsIn w p rs → Calls Try.prog 42 #[.agg #[.slice p rs.length cap]] w fun e w' => e = .returned (.bool (ribB rs)) ∧ Below w.heap.size w w') := fun w h => implRib_any p cap rs w h hn
  have HR : Hid (∀ w, Calls Try.prog 43 #[.agg #[.int .i64 a, .int .i64 l]] w fun e w' => e = .returned (.bool (rightB a l)) ∧ Below w.heap.size w w') := implRight_any a l
  have HI : Hid (∀ w, Calls Try.prog 44 #[.int .i64 i] w fun e w' => e = .returned (.bool (inIf i)) ∧ w = w') := isIface_any i
  have HX : Hid (RtsIn w p rs) := h
  clear h
  obtain ⟨W, hW, q0, q1, q2, hB, hS, -⟩ := rows3 w [.slice p rs.length cap] [.int .i64 a, .int .i64 l] [.slice none 0 0, .int .i64 0] 30 35 32
  have HW : Hid _ := hW
  have HQ : Hid _ := And.intro q1 (And.intro q2 hB)
  clear hW q0 q1 q2 hB hS
  unfold ribV netV
  go_enter Try.func13, Try.ntmps13
  go_wp2_with fail
  rw [← HW.out]
  obtain ⟨q1, q2, hB⟩ := HQ.out
  refine (HB.out _ ((HX.out).below hB)).mono ?_
  rintro e w1 ⟨rfl, hbx⟩
  clear HB HX HW HQ
  have y0 : w1.cell? ⟨w.heap.size + 1, 0, none⟩ = some (.int .i64 a) := (q1.below hbx q1.lt).cell 0
  have y1 : w1.cell? ⟨w.heap.size + 1, 1, none⟩ = some (.int .i64 l) := (q1.below hbx q1.lt).cell 1
  clear q1
  cases h1 : ribB rs
  · clear HR HI hc h1
    have q2 := (q2.below hbx q2.lt)
    have hB := hB.trans (hbx.mono hB.size)
    have f0 : w1.frozen? ⟨w.heap.size + 1 + 1, 0, none⟩ = false := q2.frozen 0
    have f1 : w1.frozen? ⟨w.heap.size + 1 + 1, 1, none⟩ = false := q2.frozen 1
    have z0 : w1.cell? ⟨w.heap.size + 1 + 1, 0, none⟩ = some (.slice none 0 0) := q2.cell 0
    have z1 : w1.cell? ⟨w.heap.size + 1 + 1, 1, none⟩ = some (.int .i64 0) := q2.cell 1
    have HE2 : Hid _ := And.intro ((q2.set 0 (.slice none 0 0)).set 1 (.int .i64 1)) ((hB.setCell (p := ⟨w.heap.size + 1 + 1, 0, none⟩) (by show w.heap.size ≤ w.heap.size + 1 + 1; omega) (.slice none 0 0)).setCell (p := ⟨w.heap.size + 1 + 1, 1, none⟩) (by show w.heap.size ≤ w.heap.size + 1 + 1; omega) (.int .i64 1))
    clear q2 hB hbx
    go_wp2_with fail
    have h2 := HE2.out
    clear HE2 f0 f1 z0 z1
    generalize (w1.setCell ⟨w.heap.size + 1 + 1, 0, none⟩ (.slice none 0 0)).setCell ⟨w.heap.size + 1 + 1, 1, none⟩ (.int .i64 1) = Z at *
    obtain ⟨h1, h2⟩ := h2
    have e0 : Z.cell? ⟨w.heap.size + 1 + 1, 0, none⟩ = some (.slice none 0 0) := h1.cell 0
    have e1 : Z.cell? ⟨w.heap.size + 1 + 1, 1, none⟩ = some (.int .i64 1) := h1.cell 1
    refine bodyPost_ret (v := .agg #[.slice none 0 0, .int .i64 1]) (by simp [results, Try.results13, go_sem, e0, e1]) rfl ⟨⟨none, 0, rfl, World.ownsRow_nil _ _ _ 9⟩, h2⟩
  · rw [h1] at hc
    go_wp2_with fail
    refine (HR.out _).mono ?_
    rintro e w2 ⟨rfl, hby⟩
    have hbx : Below W.heap.size W w2 := hbx.trans (hby.mono hbx.size)
    clear HR hby y0 y1
    cases h2 : rightB a l
    · clear HI hc h1 h2
      have q2 := (q2.below hbx q2.lt)
      have hB := hB.trans (hbx.mono hB.size)
      have f0 : w2.frozen? ⟨w.heap.size + 1 + 1, 0, none⟩ = false := q2.frozen 0
      have f1 : w2.frozen? ⟨w.heap.size + 1 + 1, 1, none⟩ = false := q2.frozen 1
      have z0 : w2.cell? ⟨w.heap.size + 1 + 1, 0, none⟩ = some (.slice none 0 0) := q2.cell 0
      have z1 : w2.cell? ⟨w.heap.size + 1 + 1, 1, none⟩ = some (.int .i64 0) := q2.cell 1
      have HE2 : Hid _ := And.intro ((q2.set 0 (.slice none 0 0)).set 1 (.int .i64 1)) ((hB.setCell (p := ⟨w.heap.size + 1 + 1, 0, none⟩) (by show w.heap.size ≤ w.heap.size + 1 + 1; omega) (.slice none 0 0)).setCell (p := ⟨w.heap.size + 1 + 1, 1, none⟩) (by show w.heap.size ≤ w.heap.size + 1 + 1; omega) (.int .i64 1))
      clear q2 hB hbx
      go_wp2_with fail
      have h2 := HE2.out
      clear HE2 f0 f1 z0 z1
      generalize (w2.setCell ⟨w.heap.size + 1 + 1, 0, none⟩ (.slice none 0 0)).setCell ⟨w.heap.size + 1 + 1, 1, none⟩ (.int .i64 1) = Z at *
      obtain ⟨h1, h2⟩ := h2
      have e0 : Z.cell? ⟨w.heap.size + 1 + 1, 0, none⟩ = some (.slice none 0 0) := h1.cell 0
      have e1 : Z.cell? ⟨w.heap.size + 1 + 1, 1, none⟩ = some (.int .i64 1) := h1.cell 1
      refine bodyPost_ret (v := .agg #[.slice none 0 0, .int .i64 1]) (by simp [results, Try.results13, go_sem, e0, e1]) rfl ⟨⟨none, 0, rfl, World.ownsRow_nil _ _ _ 9⟩, h2⟩
    · rw [h2] at hc
      have hi : inIf i = false := by simpa using hc
      rw [hi] at HI
      clear hc h1 h2 hi
      go_wp2_with fail
      refine (HI.out _).mono ?_
      rintro e w3 ⟨rfl, rfl⟩
      clear HI
      have q2 := (q2.below hbx q2.lt)
      have hB := hB.trans (hbx.mono hB.size)
      have f0 : w2.frozen? ⟨w.heap.size + 1 + 1, 0, none⟩ = false := q2.frozen 0
      have f1 : w2.frozen? ⟨w.heap.size + 1 + 1, 1, none⟩ = false := q2.frozen 1
      have z0 : w2.cell? ⟨w.heap.size + 1 + 1, 0, none⟩ = some (.slice none 0 0) := q2.cell 0
      have z1 : w2.cell? ⟨w.heap.size + 1 + 1, 1, none⟩ = some (.int .i64 0) := q2.cell 1
      have HE2 : Hid _ := And.intro ((q2.set 0 (.slice none 0 0)).set 1 (.int .i64 1)) ((hB.setCell (p := ⟨w.heap.size + 1 + 1, 0, none⟩) (by show w.heap.size ≤ w.heap.size + 1 + 1; omega) (.slice none 0 0)).setCell (p := ⟨w.heap.size + 1 + 1, 1, none⟩) (by show w.heap.size ≤ w.heap.size + 1 + 1; omega) (.int .i64 1))
      clear q2 hB hbx
      go_wp2_with fail
      have h2 := HE2.out
      clear HE2 f0 f1 z0 z1
      generalize (w2.setCell ⟨w.heap.size + 1 + 1, 0, none⟩ (.slice none 0 0)).setCell ⟨w.heap.size + 1 + 1, 1, none⟩ (.int .i64 1) = Z at *
      obtain ⟨h1, h2⟩ := h2
      have e0 : Z.cell? ⟨w.heap.size + 1 + 1, 0, none⟩ = some (.slice none 0 0) := h1.cell 0
      have e1 : Z.cell? ⟨w.heap.size + 1 + 1, 1, none⟩ = some (.int .i64 1) := h1.cell 1
      refine bodyPost_ret (v := .agg #[.slice none 0 0, .int .i64 1]) (by simp [results, Try.results13, go_sem, e0, e1]) rfl ⟨⟨none, 0, rfl, World.ownsRow_nil _ _ _ 9⟩, h2⟩
theorem stab_tabB (n : Nat) (rs : List Rt) : ∀ (x : Value) (w1 w2 : World), (∃ B, x = .agg #[.map (some B), .func (.func 82) #[] #[]] ∧ n ≤ B ∧ MapIs w1 B rs) → Below w1.heap.size w1 w2 → ∃ B, x = .agg #[.map (some B), .func (.func 82) #[] #[]] ∧ n ≤ B ∧ MapIs w2 B rs := by
  rintro x w1 w2 ⟨B, e, hn, h⟩ hb
  exact ⟨B, e, hn, h.below hb h.lt⟩
set_option maxRecDepth 100000 in
set_option maxHeartbeats 1000000 in
theorem implOwn_right (p : Option Addr) (cap : Nat) (rs : List Rt) (a l i : Int) (w : World) (h : RtsIn w p rs) (hr : ribB rs = true) (hl : rightB a l = true) (hi : inIf i = true) :
    Calls Try.prog 13 #[ribV p rs.length cap, netV a l, .int .i64 i] w fun e w' => (8 < (insR rs (ownRt a l i)).length ∧ OutR w.heap.size 9 [] e w' ∨ (insR rs (ownRt a l i)).length ≤ 8 ∧ OutR w.heap.size 0 (insR rs (ownRt a l i)) e w') ∧ Below w.heap.size w w' := by
  have h8 := (ribB_spec hr).1
  have HB : Hid (∀ w, RtsIn w p rs → Calls Try.prog 42 #[.agg #[.slice p rs.length cap]] w fun e w' => e = .returned (.bool true) ∧ Below w.heap.size w w') := fun w h => by have := implRib_any p cap rs w h (by omega); rw [hr] at this; exact this
  have HR : Hid (∀ w, Calls Try.prog 43 #[.agg #[.int .i64 a, .int .i64 l]] w fun e w' => e = .returned (.bool true) ∧ Below w.heap.size w w') := fun w => by have := implRight_any a l w; rw [hl] at this; exact this
  have HI : Hid (∀ w, Calls Try.prog 44 #[.int .i64 i] w fun e w' => e = .returned (.bool true) ∧ w = w') := fun w => by have := isIface_any i w; rw [hi] at this; exact this
  have HL : Hid (∀ w, RtsIn w p rs → Calls Try.prog 46 #[.agg #[.slice p rs.length cap]] w fun e w' => ∃ B, e = .returned (.agg #[.map (some B), .func (.func 82) #[] #[]]) ∧ w.heap.size ≤ B ∧ MapIs w' B rs ∧ Below w.heap.size w w') := fun w h => (laidOut_any p cap rs w h (by omega)).mono fun e w' h => by
    obtain ⟨B, e1, hB, hm, hb⟩ := h
    rw [laidN_right hr] at hm
    exact ⟨B, e1, hB, hm, hb⟩
  have HT : Hid (∀ B w, MapIs w B rs → Calls Try.prog 45 #[.agg #[.map (some B), .func (.func 82) #[] #[]], .agg #[.int .i64 a, .int .i64 l, .int .i64 1, .int .i64 0, .int .i64 i, .int .i64 0, .int .i64 0, .int .i64 0, .bool true]] w fun e w' => (8 < (insR rs (ownRt a l i)).length ∧ e = .returned (.agg #[.slice none 0 0, .int .i64 9]) ∨ (insR rs (ownRt a l i)).length ≤ 8 ∧ ∃ p cap, e = .returned (.agg #[.slice p (insR rs (ownRt a l i)).length cap, .int .i64 0]) ∧ w'.ownsRow w.heap.size 46 9 (.slice p (insR rs (ownRt a l i)).length cap) (insR rs (ownRt a l i)).length (rowR (insR rs (ownRt a l i)))) ∧ Below B w w') :=
    fun B w hM => withRoute_any B rs (insR rs (ownRt a l i)) (ownRt a l i) w hM (insR_perm rs _ (rib_rising hr)) (fun h => insR_right hr (ownRt_right hl hi) h)
  have HX : Hid (RtsIn w p rs) := h
  clear h h8 hr hl hi
  generalize insR rs (ownRt a l i) = qs at *
  generalize rs.length = N at *
  obtain ⟨W, hW, q0, q1, q2, hB, hS, -⟩ := rows3 w [.slice p N cap] [.int .i64 a, .int .i64 l] [.slice none 0 0, .int .i64 0] 30 35 32
  have HW : Hid _ := hW
  have HQ : Hid _ := And.intro q0 (And.intro q1 (And.intro q2 hB))
  clear hW q0 q1 q2 hB hS
  unfold ribV netV
  go_enter Try.func13, Try.ntmps13
  go_wp2_with fail
  rw [← HW.out]
  obtain ⟨q0, q1, q2, hB⟩ := HQ.out
  refine (HB.out _ ((HX.out).below hB)).mono ?_
  rintro e w1 ⟨rfl, hbx⟩
  clear HB HW HQ
  have y0 : w1.cell? ⟨w.heap.size + 1, 0, none⟩ = some (.int .i64 a) := (q1.below hbx q1.lt).cell 0
  have y1 : w1.cell? ⟨w.heap.size + 1, 1, none⟩ = some (.int .i64 l) := (q1.below hbx q1.lt).cell 1
  go_wp2_with fail
  refine (HR.out _).mono ?_
  rintro e w2 ⟨rfl, hby⟩
  have hbx : Below W.heap.size W w2 := hbx.trans (hby.mono hbx.size)
  clear HR hby y0 y1
  go_wp2_with fail
  refine (HI.out _).mono ?_
  rintro e w3 ⟨rfl, rfl⟩
  clear HI
  have q0 := (q0.below hbx q0.lt).alloc (.cells #[.int .i64 a, .int .i64 l, .int .i64 1, .int .i64 0, .int .i64 i, .int .i64 0, .int .i64 0, .int .i64 0, .bool true] 46)
  have q1 := q1.below hbx q1.lt
  have q2 := (q2.below hbx q2.lt).alloc (.cells #[.int .i64 a, .int .i64 l, .int .i64 1, .int .i64 0, .int .i64 i, .int .i64 0, .int .i64 0, .int .i64 0, .bool true] 46)
  have q7 := Row.new w2 46 [.int .i64 a, .int .i64 l, .int .i64 1, .int .i64 0, .int .i64 i, .int .i64 0, .int .i64 0, .int .i64 0, .bool true]
  have hB := (hB.trans (hbx.mono hB.size)).alloc (by have := hbx.size; have := hB.size; omega) (.cells #[.int .i64 a, .int .i64 l, .int .i64 1, .int .i64 0, .int .i64 i, .int .i64 0, .int .i64 0, .int .i64 0, .bool true] 46)
  have y0 : w2.cell? ⟨w.heap.size + 1, 0, none⟩ = some (.int .i64 a) := q1.cell 0
  have y1 : w2.cell? ⟨w.heap.size + 1, 1, none⟩ = some (.int .i64 l) := q1.cell 1
  have HE : Hid _ := And.intro q0 (And.intro q2 (And.intro q7 hB))
  clear q0 q1 q2 q7 hB hbx
  go_wp2_with fail
  clear y0 y1
  generalize hb7 : w2.heap.size = b7 at *
  generalize w2.alloc (.cells #[.int .i64 a, .int .i64 l, .int .i64 1, .int .i64 0, .int .i64 i, .int .i64 0, .int .i64 0, .int .i64 0, .bool true] 46) = W4 at *
  clear hb7
  obtain ⟨q0, q2, q7, hB⟩ := HE.out
  clear HE
  have hGN : (([(25, Is (.agg #[.slice p N cap])), (26, fun v W => ∃ B, v = .agg #[.map (some B), .func (.func 82) #[] #[]] ∧ W4.heap.size ≤ B ∧ MapIs W B rs), (27, Is (.agg #[.int .i64 a, .int .i64 l, .int .i64 1, .int .i64 0, .int .i64 i, .int .i64 0, .int .i64 0, .int .i64 0, .bool true]))] : List (Nat × (Value → World → Prop))).map (·.1)).Nodup := by simp
  refine wp_region_steady 3 (SlotG [(25, Is (.agg #[.slice p N cap])), (26, fun v W => ∃ B, v = .agg #[.map (some B), .func (.func 82) #[] #[]] ∧ W4.heap.size ≤ B ∧ MapIs W B rs), (27, Is (.agg #[.int .i64 a, .int .i64 l, .int .i64 1, .int .i64 0, .int .i64 i, .int .i64 0, .int .i64 0, .int .i64 0, .bool true]))]) (by kernel_rfl) (by kernel_rfl) (Stabs.all ⟨stab_is _, stab_tabB _ _, stab_is _, trivial⟩) ?_ ?_
  · intro o ho
    simp only [List.take_succ_cons, List.take_zero, List.mem_cons, List.not_mem_nil, or_false] at ho
    rcases ho with rfl | rfl | rfl
    · intro a' w' hb ha hdep
      have d3 : a'.tmps.getD 3 undef = .pointer (some ⟨w.heap.size, 0, none⟩) := ha.at 3 (by kernel_rfl)
      have hmk := fun (x : Value) (W : World) => SlotG.mk (x := x) (w := W) 0 rfl hGN
      clear hGN ha hdep
      have y0 : w'.cell? ⟨w.heap.size, 0, none⟩ = some (.slice p N cap) := (q0.below hb q0.lt).cell 0
      go_simp
      exact ⟨_, rfl, Below.refl _ _, hmk _ _ rfl⟩
    · intro a' w' hb ha hdep
      have d25 : a'.tmps.getD 25 undef = .agg #[.slice p N cap] := (hdep 25 (of_decide_eq_true (by kernel_rfl))).is 0 rfl
      have hmk := fun (x : Value) (W : World) => SlotG.mk (x := x) (w := W) 1 rfl hGN
      clear hGN ha hdep
      go_simp
      refine (HL.out _ (HX.out.below (hB.trans (hb.mono hB.size)))).mono ?_
      rintro e w2 ⟨B, rfl, hBB, hm, hb2⟩
      exact ⟨_, rfl, hb2, hmk _ _ ⟨B, rfl, by have := hb.size; omega, hm⟩⟩
    · intro a' w' hb ha hdep
      have d7 : a'.tmps.getD 7 undef = .pointer (some ⟨b7, 0, none⟩) := ha.at 7 (by kernel_rfl)
      have hmk := fun (x : Value) (W : World) => SlotG.mk (x := x) (w := W) 2 rfl hGN
      clear hGN ha hdep
      have y0 : w'.cell? ⟨b7, 0, none⟩ = some (.int .i64 a) := (q7.below hb q7.lt).cell 0
      have y1 : w'.cell? ⟨b7, 1, none⟩ = some (.int .i64 l) := (q7.below hb q7.lt).cell 1
      have y2 : w'.cell? ⟨b7, 2, none⟩ = some (.int .i64 1) := (q7.below hb q7.lt).cell 2
      have y3 : w'.cell? ⟨b7, 3, none⟩ = some (.int .i64 0) := (q7.below hb q7.lt).cell 3
      have y4 : w'.cell? ⟨b7, 4, none⟩ = some (.int .i64 i) := (q7.below hb q7.lt).cell 4
      have y5 : w'.cell? ⟨b7, 5, none⟩ = some (.int .i64 0) := (q7.below hb q7.lt).cell 5
      have y6 : w'.cell? ⟨b7, 6, none⟩ = some (.int .i64 0) := (q7.below hb q7.lt).cell 6
      have y7 : w'.cell? ⟨b7, 7, none⟩ = some (.int .i64 0) := (q7.below hb q7.lt).cell 7
      have y8 : w'.cell? ⟨b7, 8, none⟩ = some (.bool true) := (q7.below hb q7.lt).cell 8
      go_simp
      exact ⟨_, rfl, Below.refl _ _, hmk _ _ rfl⟩
  · intro a' w' hb ha hG
    clear hGN
    have D26 := (hG _ (List.mem_of_getElem? (i := 1) rfl) 26 rfl).get 1 rfl
    have d27 : a'.tmps.getD 27 undef = .agg #[.int .i64 a, .int .i64 l, .int .i64 1, .int .i64 0, .int .i64 i, .int .i64 0, .int .i64 0, .int .i64 0, .bool true] := (hG _ (List.mem_of_getElem? (i := 2) rfl) 27 rfl).is 2 rfl
    have d6 : a'.tmps.getD 6 undef = .pointer (some ⟨w.heap.size + 1 + 1, 0, none⟩) := ha.at 6 (by kernel_rfl)
    have e2 : a' = ⟨#[a'.tmps.getD 0 undef, a'.tmps.getD 1 undef, a'.tmps.getD 2 undef, a'.tmps.getD 3 undef, a'.tmps.getD 4 undef, a'.tmps.getD 5 undef, a'.tmps.getD 6 undef, a'.tmps.getD 7 undef, a'.tmps.getD 8 undef, a'.tmps.getD 9 undef, a'.tmps.getD 10 undef, a'.tmps.getD 11 undef, a'.tmps.getD 12 undef, a'.tmps.getD 13 undef, a'.tmps.getD 14 undef, a'.tmps.getD 15 undef, a'.tmps.getD 16 undef, a'.tmps.getD 17 undef, a'.tmps.getD 18 undef, a'.tmps.getD 19 undef, a'.tmps.getD 20 undef, a'.tmps.getD 21 undef, a'.tmps.getD 22 undef, a'.tmps.getD 23 undef, a'.tmps.getD 24 undef, a'.tmps.getD 25 undef, a'.tmps.getD 26 undef, a'.tmps.getD 27 undef, a'.tmps.getD 28 undef], []⟩ := by rw [← (show a'.defers = [] from ha.2.1)]; exact act_eq a' 29 ha.1
    rw [d27, d6] at e2
    clear hG ha d27 d6
    generalize a'.tmps.getD 0 undef = x0 at *
    generalize a'.tmps.getD 1 undef = x1 at *
    generalize a'.tmps.getD 2 undef = x2 at *
    generalize a'.tmps.getD 3 undef = x3 at *
    generalize a'.tmps.getD 4 undef = x4 at *
    generalize a'.tmps.getD 5 undef = x5 at *
    generalize a'.tmps.getD 7 undef = x7 at *
    generalize a'.tmps.getD 8 undef = x8 at *
    generalize a'.tmps.getD 9 undef = x9 at *
    generalize a'.tmps.getD 10 undef = x10 at *
    generalize a'.tmps.getD 11 undef = x11 at *
    generalize a'.tmps.getD 12 undef = x12 at *
    generalize a'.tmps.getD 13 undef = x13 at *
    generalize a'.tmps.getD 14 undef = x14 at *
    generalize a'.tmps.getD 15 undef = x15 at *
    generalize a'.tmps.getD 16 undef = x16 at *
    generalize a'.tmps.getD 17 undef = x17 at *
    generalize a'.tmps.getD 18 undef = x18 at *
    generalize a'.tmps.getD 19 undef = x19 at *
    generalize a'.tmps.getD 20 undef = x20 at *
    generalize a'.tmps.getD 21 undef = x21 at *
    generalize a'.tmps.getD 22 undef = x22 at *
    generalize a'.tmps.getD 23 undef = x23 at *
    generalize a'.tmps.getD 24 undef = x24 at *
    generalize a'.tmps.getD 25 undef = x25 at *
    generalize a'.tmps.getD 26 undef = x26 at *
    generalize a'.tmps.getD 28 undef = x28 at *
    subst e2
    simp only [List.drop_succ_cons, List.drop_zero]
    obtain ⟨B, rfl, hBB, hm⟩ := D26
    have hlt2 := q2.lt
    have q2 := q2.below hb q2.lt
    have hsz := hB.size
    have hB := hB.trans (hb.mono hB.size)
    have hsz2 := hb.size
    go_wp2_with fail
    refine (HT.out B _ hm).mono ?_
    rintro e w4 ⟨h4, hb4⟩
    have q2 := q2.below hb4 (by omega)
    have hB := hB.trans (hb4.mono (by omega))
    rcases h4 with ⟨h8, rfl⟩ | ⟨h8, p2, cap2, rfl, hown⟩
    · have f0 : w4.frozen? ⟨w.heap.size + 1 + 1, 0, none⟩ = false := q2.frozen 0
      have f1 : w4.frozen? ⟨w.heap.size + 1 + 1, 1, none⟩ = false := q2.frozen 1
      have z0 : w4.cell? ⟨w.heap.size + 1 + 1, 0, none⟩ = some (.slice none 0 0) := q2.cell 0
      have z1 : w4.cell? ⟨w.heap.size + 1 + 1, 1, none⟩ = some (.int .i64 0) := q2.cell 1
      have HE2 : Hid _ := And.intro ((q2.set 0 (.slice none 0 0)).set 1 (.int .i64 9)) (And.intro ((hB.setCell (p := ⟨w.heap.size + 1 + 1, 0, none⟩) (by show w.heap.size ≤ w.heap.size + 1 + 1; omega) (.slice none 0 0)).setCell (p := ⟨w.heap.size + 1 + 1, 1, none⟩) (by show w.heap.size ≤ w.heap.size + 1 + 1; omega) (.int .i64 9)) (trivial))
      clear q2 hB hb hm HL HT HX q0 q7
      go_wp2_with fail
      have h2 := HE2.out
      clear HE2 f0 f1 z0 z1
      generalize (w4.setCell ⟨w.heap.size + 1 + 1, 0, none⟩ (.slice none 0 0)).setCell ⟨w.heap.size + 1 + 1, 1, none⟩ (.int .i64 9) = Z at *
      obtain ⟨h1, h2, h3⟩ := h2
      have e0 : Z.cell? ⟨w.heap.size + 1 + 1, 0, none⟩ = some (.slice none 0 0) := h1.cell 0
      have e1 : Z.cell? ⟨w.heap.size + 1 + 1, 1, none⟩ = some (.int .i64 9) := h1.cell 1
      refine bodyPost_ret (v := .agg #[.slice none 0 0, .int .i64 9]) (by simp [results, Try.results13, go_sem, e0, e1]) rfl ⟨.inl ⟨h8, none, 0, rfl, World.ownsRow_nil _ _ _ 9⟩, h2⟩
    · have f0 : w4.frozen? ⟨w.heap.size + 1 + 1, 0, none⟩ = false := q2.frozen 0
      have f1 : w4.frozen? ⟨w.heap.size + 1 + 1, 1, none⟩ = false := q2.frozen 1
      have z0 : w4.cell? ⟨w.heap.size + 1 + 1, 0, none⟩ = some (.slice none 0 0) := q2.cell 0
      have z1 : w4.cell? ⟨w.heap.size + 1 + 1, 1, none⟩ = some (.int .i64 0) := q2.cell 1
      have HE2 : Hid _ := And.intro ((q2.set 0 (.slice p2 qs.length cap2)).set 1 (.int .i64 0)) (And.intro ((hB.setCell (p := ⟨w.heap.size + 1 + 1, 0, none⟩) (by show w.heap.size ≤ w.heap.size + 1 + 1; omega) (.slice p2 qs.length cap2)).setCell (p := ⟨w.heap.size + 1 + 1, 1, none⟩) (by show w.heap.size ≤ w.heap.size + 1 + 1; omega) (.int .i64 0)) (ownR_set (base' := w.heap.size) (ownR_set (base' := W4.heap.size) hown ⟨w.heap.size + 1 + 1, 0, none⟩ (by show w.heap.size + 1 + 1 < _; omega) (.slice p2 qs.length cap2) hsz2) ⟨w.heap.size + 1 + 1, 1, none⟩ (by show w.heap.size + 1 + 1 < _; omega) (.int .i64 0) hsz))
      clear q2 hB hb hm HL HT HX q0 q7
      go_wp2_with fail
      have h2 := HE2.out
      clear HE2 f0 f1 z0 z1
      generalize (w4.setCell ⟨w.heap.size + 1 + 1, 0, none⟩ (.slice p2 qs.length cap2)).setCell ⟨w.heap.size + 1 + 1, 1, none⟩ (.int .i64 0) = Z at *
      obtain ⟨h1, h2, h3⟩ := h2
      have e0 : Z.cell? ⟨w.heap.size + 1 + 1, 0, none⟩ = some (.slice p2 qs.length cap2) := h1.cell 0
      have e1 : Z.cell? ⟨w.heap.size + 1 + 1, 1, none⟩ = some (.int .i64 0) := h1.cell 1
      refine bodyPost_ret (v := .agg #[.slice p2 qs.length cap2, .int .i64 0]) (by simp [results, Try.results13, go_sem, e0, e1]) rfl ⟨.inr ⟨h8, p2, cap2, rfl, h3⟩, h2⟩
end Go.Proofs.Ytaledidomgelcaa
