/- Texts that stand on each other, in one file: AppR, EqNet, EqRts, MarkR, RibMarks, QuietS, AllM, MapD, LoopT, OutD, QuietI, QuietT, RibOutL, RibLaw, OutLaw. -/
import Derived.Test.YtaledidomgelcaaPack3
import Derived.Maps.AppendAt
import Derived.Test.YtaledidomgelcaaPack1
import Derived.Lib.QuietBelow
import Derived.BigQuiet
import Derived.Test.YtaledidomgelcaaPack2
import Derived.RangeFuncNested
/- slices.AppendSeq and Collect at routes, over the table's iterator. (Written by gen_appr.py.) -/
namespace Go.Proofs.Ytaledidomgelcaa
open Go.RowKit Go.Sort Go.Shelf
attribute [local go_sem] Oper.semAt_some

theorem cell_nine_new (W : World) (xs : List Value) (t : TypeId) : ∀ j u, xs[j]? = some u → (W.alloc (.cells xs.toArray t)).cell? ((⟨W.heap.size, 0, none⟩ : Addr).add j) = some u := by
  intro j u hj
  have := (Row.new W t xs).cell j
  rw [hj] at this
  have e : (⟨W.heap.size, 0, none⟩ : Addr).add j = ⟨W.heap.size, j, none⟩ := by
    unfold Addr.add
    by_cases h : j = 0
    · subst h; rfl
    · rw [if_neg h]; simp
  rw [e]
  exact this
theorem Try.infoRoute : (Try.prog.info? 46).map (fun i => (i.zero, i.size, i.bytes)) = some (some (.agg #[.int .i64 0, .int .i64 0, .int .i64 0, .int .i64 0, .int .i64 0, .int .i64 0, .int .i64 0, .int .i64 0, .bool false]), 9, 72) := by kernel_rfl
theorem KpN.alloc (W : World) (o : Obj) : KpN W (W.alloc o) := KpN.mk (by simp) (fun i _ _ hi _ => Below.heap_alloc W o i (Array.getElem?_eq_some_iff.1 hi).1) (KeepsWalks.alloc W o)
theorem kpn_appended {W w1 : World} {n₀ B : Nat} {v v' : Value} {k : Nat} {xs : List Value} {tmp : Obj} (hv : Boxed W B 28 v) (hrow : W.ownsRow n₀ 46 9 v k xs) (hgrow : (W.alloc tmp).grownBy w1 v.ownBlock) (hk : KeepsOthers W (w1.setCell ⟨B, 0, none⟩ v')) : KpN W (w1.setCell ⟨B, 0, none⟩ v') := by
  refine KpN.mk hk.size (fun i cur t hi ht => ?_) hk.walks
  have hlt : i < W.heap.size := (Array.getElem?_eq_some_iff.1 hi).1
  have hne : i ≠ B := by
    intro e
    subst e
    have h' : W.heap[i]? = some (.cells #[v] 28 (0, 0)) := hv
    rw [h'] at hi
    simp only [Option.some.injEq, Obj.cells.injEq] at hi
    obtain ⟨_, ht', _⟩ := hi
    rcases ht with rfl | rfl <;> cases ht'
  have hnr : some i ≠ v.ownBlock := by
    intro e
    rcases hrow.2 with ⟨rfl, _⟩ | ⟨g, cap, cur', rfl, _, hg, _⟩
    · simp [Value.ownBlock] at e
    · obtain rfl : i = g := by simpa [Value.ownBlock] using e
      rw [hg] at hi
      simp only [Option.some.injEq, Obj.cells.injEq] at hi
      obtain ⟨_, ht', _⟩ := hi
      rcases ht with rfl | rfl <;> cases ht'
  rw [Below.heap_setCell w1 ⟨B, 0, none⟩ v' i (fun e => hne e), hgrow.block i (by simp; omega) hnr, Below.heap_alloc W tmp i hlt]
set_option maxRecDepth 100000 in
set_option maxHeartbeats 2000000 in
theorem appendSeqR (Bm b : Nat) (ms rs : List Rt) (hp : ms.Perm rs) (w : World) (hr : ribB rs = true) (hm : Row w Bm 82 [.map (some b), .func (.func 82) #[] #[]]) (hM : MapIs w b ms) :
    Calls Try.prog 106 #[.slice none 0 0, .func (.func 91) #[] #[.pointer (some ⟨Bm, 0, none⟩)]] w fun e w' => ∃ v, e = .returned v ∧ w'.ownsRow w.heap.size 46 9 v rs.length (rowR rs) ∧ Below w.heap.size w w' := by
  refine (callsIn_wide (n := 9)).1 ?_
  refine callsIn_of_wp_marks Try.func106 rfl trivial ?_ rfl
  simp only [Try.ntmps106, List.size_toArray, List.length_cons, List.length_nil, Nat.reduceAdd, Nat.reduceSub, Array.replicate_succ, Array.replicate_zero, List.push_toArray, List.append_toArray, List.nil_append, List.cons_append]
  gi_wp2
  have bS := Boxed.new w 28 (.slice none 0 0)
  have hB0 : Below w.heap.size w (w.alloc (.cells #[.slice none 0 0] 28)) := ent_new0 w _
  have hm0 := hm.alloc (.cells #[.slice none 0 0] 28)
  have h8 := (ribB_spec hr).1
  have hM0 := hM.below hB0 hM.lt
  have hs0 : (w.alloc (.cells #[.slice none 0 0] 28)).heap.size = w.heap.size + 1 := by simp
  obtain ⟨Z, hZ⟩ : ∃ Z, (w.alloc (.cells #[.slice none 0 0] 28)) = Z := ⟨_, rfl⟩
  rw [hZ] at bS hB0 hm0 hM0 hs0 ⊢
  clear hZ hm hM
  refine wpIn_rangeFunc_ownH rfl (by omega) (gf := 91) (lb := #[.pointer (some ⟨Bm, 0, none⟩)]) rfl trivial (enters_of Try.func91 (by kernel_rfl) rfl)
    (all_stops (9 - 1) (by omega) Bm b ms rs hp hr Z hm0 hM0) KpN.t KpN.b (Below.refl _ _) (fun _ => rfl)
    (fun pre W => (∃ v, Boxed W w.heap.size 28 v ∧ W.ownsRow w.heap.size 46 9 v pre.length (rowR pre) ∧ True) ∧ Below w.heap.size w W)
    (fun _ _ _ => False)
    (OwnFrom.and (Own.from (holdsRow_own w.heap.size w.heap.size 28 46 9 (fun pre : List Rt => pre.length) rowR (fun _ _ => True)) _) (ownFrom_below (Nat.le_refl _) (by omega)))
    (fun _ _ _ _ _ hs _ _ => hs)
    ⟨⟨_, bS, World.ownsRow_nil Z _ _ 9, trivial⟩, hB0⟩
    (fun x a' W => ∃ Bx, w.heap.size < Bx ∧ Row W Bx 46 (rtL x) ∧ a' = { tmps := #[.slice none 0 0, .func (.func 91) #[] #[.pointer (some ⟨Bm, 0, none⟩)], .pointer (some ⟨w.heap.size, 0, none⟩), undef, .slice none 0 0, .pointer (some ⟨Bx, 0, none⟩), .func (.func 91) #[] #[.pointer (some ⟨Bm, 0, none⟩)], rtV x, undef, undef, undef, undef, undef], defers := [] })
    (fun x a' _ X Y row hs hg hr => by
      obtain ⟨Bx, h1, h2, h3⟩ := hs
      refine ⟨Bx, h1, (hg.block Bx h2.lt (fun e => ?_)).trans h2, h3⟩
      obtain ⟨_, o, ho, hc⟩ := hr Bx e.symm
      rw [show X.heap[Bx]? = _ from h2] at ho
      cases ho
      cases hc)
    ?assign ?body ?done ?stop
  case assign =>
    rintro l pre x W K ⟨⟨v, bv, hv, -⟩, hB1⟩ hK
    obtain ⟨A, L, M, O, I, T, U, E, C⟩ := x
    unfold rtV rtA at hK ⊢
    simp only at hK ⊢
    gi_wp2
    exact hK _ _ ((KeepsOthers.alloc _ _).from _) (KpN.alloc _ _) ⟨⟨v, bv.alloc _, hv.alloc _, trivial⟩, hB1.alloc hB1.size _⟩ ⟨W.heap.size, bv.lt, Row.new W 46 [.int .i64 A, .int .i64 L, .int .i64 M, .int .i64 O, .int .i64 I, .int .i64 T, .int .i64 U, .int .i64 E, .bool C], rfl⟩
  case body =>
    rintro l pre x a' W hl ⟨r, hr⟩ ⟨⟨v, bv, hv, -⟩, hB1⟩ ⟨Bx, hBx, hRx, rfl⟩ hlt
    obtain ⟨A, L, M, O, I, T, U, E, C⟩ := x
    unfold rtV rtA
    simp only [rtL] at hRx ⊢
    have c0 := bv.cell
    have x0 : W.cell? ⟨Bx, 0, none⟩ = some (.int .i64 A) := hRx.cell 0
    have x1 : W.cell? ⟨Bx, 1, none⟩ = some (.int .i64 L) := hRx.cell 1
    have x2 : W.cell? ⟨Bx, 2, none⟩ = some (.int .i64 M) := hRx.cell 2
    have x3 : W.cell? ⟨Bx, 3, none⟩ = some (.int .i64 O) := hRx.cell 3
    have x4 : W.cell? ⟨Bx, 4, none⟩ = some (.int .i64 I) := hRx.cell 4
    have x5 : W.cell? ⟨Bx, 5, none⟩ = some (.int .i64 T) := hRx.cell 5
    have x6 : W.cell? ⟨Bx, 6, none⟩ = some (.int .i64 U) := hRx.cell 6
    have x7 : W.cell? ⟨Bx, 7, none⟩ = some (.int .i64 E) := hRx.cell 7
    have x8 : W.cell? ⟨Bx, 8, none⟩ = some (.bool C) := hRx.cell 8
    obtain ⟨i0, hi0, hz0, hz1, hz2⟩ := info_parts Try.infoRoute
    gi_wp2_with (gi_at_builtin; refine wpListIn_append_own _ rfl _ _ 28 rfl w.heap.size 46 i0 (.agg #[.int .i64 0, .int .i64 0, .int .i64 0, .int .i64 0, .int .i64 0, .int .i64 0, .int .i64 0, .int .i64 0, .bool false]) 9 72 Try.underlying28 hi0 hz0 hz1 hz2 rfl (by decide) _ _ _ rfl (hv.alloc _) ⟨W.heap.size, 0, none⟩ 1 1 [.int .i64 A, .int .i64 L, .int .i64 M, .int .i64 O, .int .i64 I, .int .i64 T, .int .i64 U, .int .i64 E, .bool C] rfl rfl (cell_nine_new W _ _) (by simp [Value.oneCell']) (by unfold maxLen; omega) (by omega) (by have := hB1.size; simp; omega) ?_; intro v' w1 hown' hgrow _; obtain ⟨g', cap', rfl⟩ := ownsRow_succ hown'; obtain ⟨hv1, hv2, hr2, hk2, hb2⟩ := bv.appended (by decide) hv hB1.size (Nat.le_refl _) hown' hgrow; have hc1 := hv1.cell; have hf1 := hv1.frozen)
    refine ⟨hk2.from _, kpn_appended bv hv hgrow hk2, ⟨_, hv2, ?_, trivial⟩, hB1.trans hb2⟩
    rw [List.length_append, rowR_append]
    exact hr2
  case done =>
    rintro D xs W hD rfl ⟨⟨v, bv, hv, -⟩, hB1⟩ hK
    have c0 := bv.cell
    gi_wp2
    refine ⟨by simp, .inl ⟨_, _, rfl, run_takeDeferred hK, ?_⟩⟩
    refine ⟨_, results_tmp rfl _ _ _, v, rfl, ownsRow_putObj hv _ hK rfl, ?_⟩
    exact hB1.trans (belowK_b (w := w) (Nat.le_refl _) W D _ _ (by omega) hK rfl rfl)
  case stop =>
    rintro D c pre W _ _ h _
    exact h.elim
set_option maxRecDepth 100000 in
theorem collectR (Bm b : Nat) (ms rs : List Rt) (hp : ms.Perm rs) (w : World) (hr : ribB rs = true) (hm : Row w Bm 82 [.map (some b), .func (.func 82) #[] #[]]) (hM : MapIs w b ms) :
    Calls Try.prog 89 #[.func (.func 91) #[] #[.pointer (some ⟨Bm, 0, none⟩)]] w fun e w' => ∃ v, e = .returned v ∧ w'.ownsRow w.heap.size 46 9 v rs.length (rowR rs) ∧ Below w.heap.size w w' := by
  have HA : Hid (Calls Try.prog 106 #[.slice none 0 0, .func (.func 91) #[] #[.pointer (some ⟨Bm, 0, none⟩)]] w fun e w' => ∃ v, e = .returned v ∧ w'.ownsRow w.heap.size 46 9 v rs.length (rowR rs) ∧ Below w.heap.size w w') := appendSeqR Bm b ms rs hp w hr hm hM
  clear hm hM
  go_enter Try.func89, Try.ntmps89
  go_wp2_with fail
  refine (HA.out).mono ?_
  rintro e w1 ⟨v, rfl, h2, h3⟩
  go_wp2
  go_ret
  exact ⟨v, rfl, h2, h3⟩
theorem ownR_set {w : World} {base base' : Nat} {v : Value} {n : Nat} {xs : List Value} (h : w.ownsRow base 46 9 v n xs) (p : Addr) (hp : p.block < base) (u : Value) (hb : base' ≤ base) : (w.setCell p u).ownsRow base' 46 9 v n xs := by
  obtain ⟨h1, h2⟩ := h
  refine ⟨h1, ?_⟩
  rcases h2 with h2 | ⟨g, cap, cur, e, hbg, hg, rest⟩
  · exact .inl h2
  · refine .inr ⟨g, cap, cur, e, by omega, ?_, rest⟩
    rw [Below.heap_setCell w p u g (by omega)]
    exact hg
theorem rows2 (w : World) (x y : List Value) (t1 t2 : TypeId) : ∃ W, W = (w.alloc (.cells x.toArray t1)).alloc (.cells y.toArray t2) ∧ Row W w.heap.size t1 x ∧ Row W (w.heap.size + 1) t2 y ∧ Below w.heap.size w W ∧ W.heap.size = w.heap.size + 1 + 1 := by
  have q0 := (Row.new w t1 x).alloc (.cells y.toArray t2)
  have q1 := Row.new (w.alloc (.cells x.toArray t1)) t2 y
  rw [show (w.alloc (.cells x.toArray t1)).heap.size = w.heap.size + 1 by simp] at q1
  exact ⟨_, rfl, q0, q1, (ent_new0 w _).alloc (by simp) _, by simp⟩
set_option maxRecDepth 100000 in
set_option maxHeartbeats 1000000 in
/-- ribOf: the routes of a table in the order of their nets, in memory of its own. -/
theorem ribOf_any (B : Nat) (ms rs : List Rt) (hp : ms.Perm rs) (hr : ribB rs = true) (w : World) (hM : MapIs w B ms) :
    Calls Try.prog 56 #[tabV B] w fun e w' => ∃ p cap, e = .returned (ribV p rs.length cap) ∧ w'.ownsRow w.heap.size 46 9 (.slice p rs.length cap) rs.length (rowR rs) ∧ Below w.heap.size w w' := by
  have HA : Hid (∀ w, Calls Try.prog 59 #[.agg #[.map (some B), .func (.func 82) #[] #[]]] w fun e w' => e = .returned (.func (.func 91) #[] #[.pointer (some ⟨w.heap.size, 0, none⟩)]) ∧ w.alloc (.cells #[.map (some B), .func (.func 82) #[] #[]] 82) = w') := fun w => all_make B w
  obtain ⟨W, hW, q0, q1, hB, hS⟩ := rows2 w [.map (some B), .func (.func 82) #[] #[]] [.slice none 0 0] 82 30
  have HC : Hid (Calls Try.prog 89 #[.func (.func 91) #[] #[.pointer (some ⟨w.heap.size + 1 + 1, 0, none⟩)]] (W.alloc (.cells #[.map (some B), .func (.func 82) #[] #[]] 82)) fun e w' => ∃ v, e = .returned v ∧ w'.ownsRow (W.alloc (.cells #[.map (some B), .func (.func 82) #[] #[]] 82)).heap.size 46 9 v rs.length (rowR rs) ∧ Below (W.alloc (.cells #[.map (some B), .func (.func 82) #[] #[]] 82)).heap.size (W.alloc (.cells #[.map (some B), .func (.func 82) #[] #[]] 82)) w') := by
    rw [← hS]
    exact collectR W.heap.size B ms rs hp _ hr (Row.new W 82 [.map (some B), .func (.func 82) #[] #[]]) ((hM.below hB hM.lt).below (ent_new0 W _) (hM.below hB hM.lt).lt)
  have c0 : W.cell? ⟨w.heap.size, 0, none⟩ = some (.map (some B)) := q0.cell 0
  have c1 : W.cell? ⟨w.heap.size, 1, none⟩ = some (.func (.func 82) #[] #[]) := q0.cell 1
  have HW : Hid _ := hW
  have HQ : Hid _ := And.intro q1 (And.intro hB hS)
  clear hW q0 q1 hB hM
  unfold tabV
  go_enter Try.func56, Try.ntmps56
  go_wp2_with fail
  rw [← HW.out]
  refine (HA.out _).mono ?_
  rintro e w1 ⟨rfl, rfl⟩
  clear HA HW
  go_wp2_with fail
  refine (HC.out).mono ?_
  rintro e w2 ⟨v, rfl, hv, hb2⟩
  obtain ⟨q1, hB, hS'⟩ := HQ.out
  have hs1 : (W.alloc (.cells #[.map (some B), .func (.func 82) #[] #[]] 82)).heap.size = w.heap.size + 1 + 1 + 1 := by simp; omega
  rw [hs1] at hv hb2
  have q2 := (q1.alloc (.cells #[.map (some B), .func (.func 82) #[] #[]] 82)).below hb2 (by omega)
  have hB2 : Below w.heap.size w w2 := (hB.alloc hB.size _).trans (hb2.mono (by omega))
  obtain ⟨p, cap, rfl⟩ : ∃ p cap, v = .slice p rs.length cap := by
    rcases hv.2 with ⟨rfl, h0⟩ | ⟨g, cap, cur, rfl, _⟩
    · exact ⟨none, 0, by rw [h0]⟩
    · exact ⟨_, cap, rfl⟩
  have d0 : w2.cell? ⟨w.heap.size + 1, 0, none⟩ = some (.slice none 0 0) := q2.cell 0
  have f0 : w2.frozen? ⟨w.heap.size + 1, 0, none⟩ = false := q2.frozen 0
  have hrow := q2.set 0 (.slice p rs.length cap)
  have hbel := hB2.setCell (p := ⟨w.heap.size + 1, 0, none⟩) (by show w.heap.size ≤ w.heap.size + 1; omega) (.slice p rs.length cap)
  have hown : (w2.setCell ⟨w.heap.size + 1, 0, none⟩ (.slice p rs.length cap)).ownsRow w.heap.size 46 9 (.slice p rs.length cap) rs.length (rowR rs) := ownR_set hv _ (by show w.heap.size + 1 < w.heap.size + 1 + 1 + 1; omega) _ (by omega)
  have HZ : Hid _ := And.intro hrow (And.intro hbel hown)
  clear hrow hbel hown q1 q2 hB hB2 hv hb2 HC HQ hs1
  generalize hN : rs.length = N at *
  have HN : Hid (rs.length = N) := hN
  clear hN
  go_wp2_with fail
  have HZ2 := HZ.out
  clear HZ d0 f0 c0 c1
  generalize w2.setCell ⟨w.heap.size + 1, 0, none⟩ (.slice p N cap) = Z at *
  obtain ⟨h1, h2, h3⟩ := HZ2
  have d0 : Z.cell? ⟨w.heap.size + 1, 0, none⟩ = some (.slice p N cap) := h1.cell 0
  refine bodyPost_ret (v := .agg #[.slice p N cap]) (by simp [results, Try.results56, go_sem, d0]) rfl ⟨p, cap, by rw [HN.out]; rfl, by rw [HN.out]; exact h3, h2⟩
end Go.Proofs.Ytaledidomgelcaa
/- The laws' own look: a net is as itself. -/
namespace Go.Proofs.Ytaledidomgelcaa
open Go.RowKit Go.Sort

set_option maxRecDepth 100000 in
theorem eqNet_same (a l : Int) (w : World) : Calls Try.prog 104 #[netV a l, netV a l] w fun e w' => e = .returned (.bool true) ∧ Below w.heap.size w w' := by
  have h1 : (a != a) = false := by simp
  have h2 : (l != l) = false := by simp
  unfold netV
  go_enter Try.func104, Try.ntmps104
  go_wp2
  go_ret
  exact ⟨rfl, ((Below.refl _ _).alloc (Nat.le_refl _) _).alloc (by simp) _⟩
end Go.Proofs.Ytaledidomgelcaa
/- The laws' own look: routes, lists of them and tables are as themselves. (Written by gen_rts.py.) -/
namespace Go.Proofs.Ytaledidomgelcaa
open Go.RowKit Go.Sort

/-- Two boxes of nine cells, one behind the other: what they hold behind a later call. -/
theorem boxes9 {w w1 : World} {xs ys : List Value} {t u : TypeId} (h : Below ((w.alloc (.cells xs.toArray t)).alloc (.cells ys.toArray u)).heap.size ((w.alloc (.cells xs.toArray t)).alloc (.cells ys.toArray u)) w1) :
    (∀ k v, xs[k]? = some v → w1.cell? ⟨w.heap.size, k, none⟩ = some v) ∧ (∀ k v, ys[k]? = some v → w1.cell? ⟨w.heap.size + 1, k, none⟩ = some v) ∧ Below w.heap.size w w1 := by
  have q0 := (Row.new w t xs).alloc (.cells ys.toArray u)
  have q1 := Row.new (w.alloc (.cells xs.toArray t)) u ys
  have p0 := q0.below h q0.lt
  have p1 := q1.below h q1.lt
  have e1 : (w.alloc (.cells xs.toArray t)).heap.size = w.heap.size + 1 := by simp
  rw [e1] at p1
  exact ⟨fun k v hv => (p0.cell k).trans hv, fun k v hv => (p1.cell k).trans hv, ((ent_new0 w _).alloc (by simp) _).trans (h.mono (by simp; omega))⟩
set_option maxRecDepth 100000 in
theorem eqRoute_same (e : Rt) (w : World) : Calls Try.prog 83 #[rtV e, rtV e] w fun r w' => r = .returned (.bool true) ∧ Below w.heap.size w w' := by
  obtain ⟨a, l, m, n, i, t, u, b, c⟩ := e
  unfold rtV rtA
  have HN : Hid (∀ w, Calls Try.prog 104 #[.agg #[.int .i64 a, .int .i64 l], .agg #[.int .i64 a, .int .i64 l]] w fun e w' => e = .returned (.bool true) ∧ Below w.heap.size w w') := eqNet_same a l
  have em : (m != m) = false := by simp
  have en : (n != n) = false := by simp
  have ei : (i != i) = false := by simp
  have et : (t != t) = false := by simp
  have eu : (u != u) = false := by simp
  have eb : (b != b) = false := by simp
  have ec : (c != c) = false := by simp
  go_enter Try.func83, Try.ntmps83
  go_wp2_with fail
  refine (HN.out _).mono ?_
  rintro e w1 ⟨rfl, hb1⟩
  obtain ⟨k0, k1, hB⟩ := boxes9 (xs := [.int .i64 a, .int .i64 l, .int .i64 m, .int .i64 n, .int .i64 i, .int .i64 t, .int .i64 u, .int .i64 b, .bool c]) (ys := [.int .i64 a, .int .i64 l, .int .i64 m, .int .i64 n, .int .i64 i, .int .i64 t, .int .i64 u, .int .i64 b, .bool c]) hb1
  have c2 := k0 2 _ rfl
  have d2 := k1 2 _ rfl
  have c3 := k0 3 _ rfl
  have d3 := k1 3 _ rfl
  have c4 := k0 4 _ rfl
  have d4 := k1 4 _ rfl
  have c5 := k0 5 _ rfl
  have d5 := k1 5 _ rfl
  have c6 := k0 6 _ rfl
  have d6 := k1 6 _ rfl
  have c7 := k0 7 _ rfl
  have d7 := k1 7 _ rfl
  have c8 := k0 8 _ rfl
  have d8 := k1 8 _ rfl
  clear k0 k1 hb1 HN
  go_wp2
  go_ret
  exact ⟨rfl, hB⟩
set_option maxRecDepth 100000 in
theorem eqRouteS_any (p q : Option Addr) (c d : Nat) (es : List Rt) (w : World) (hp : RtsIn w p es) (hq : RtsIn w q es) (hn : es.length ≤ 100000000) : Calls Try.prog 47 #[.slice p es.length c, .slice q es.length d] w fun r w' => r = .returned (.bool true) ∧ Below w.heap.size w w' := by
  have HE : Hid (∀ e w, Calls Try.prog 83 #[rtV e, rtV e] w fun r w' => r = .returned (.bool true) ∧ Below w.heap.size w w') := eqRoute_same
  have HX : Hid (RtsIn w p es ∧ RtsIn w q es) := ⟨hp, hq⟩
  have h0 : ((es.length : Int) != (es.length : Int)) = false := by simp
  clear hp hq
  go_enter Try.func47, Try.ntmps47
  go_wp2_with fail
  go_loopw [5] (fun i wr => ∃ k : Nat, k ≤ es.length ∧ i = .int .i64 k ∧ Below w.heap.size w wr) (fun i _ => es.length - (intOf i).toNat)
  case atStart => exact ⟨0, Nat.zero_le _, rfl, Below.refl _ _⟩
  case round =>
    obtain ⟨k, hk, rfl, hb⟩ := hrel
    by_cases hlt : k < es.length
    · obtain ⟨g, a, l, m, n, ii, t, u, b, cc, rfl, hg, hek, c0, c1, c2, c3, c4, c5, c6, c7, c8⟩ := (HX.out.1.below hb).at k hlt
      obtain ⟨g', a', l', m', n', ii', t', u', b', cc', rfl, hg', hek', d0, d1, d2, d3, d4, d5, d6, d7, d8⟩ := (HX.out.2.below hb).at k hlt
      rw [hek] at hek'
      simp only [Rt.mk.injEq] at hek'
      obtain ⟨rfl, rfl, rfl, rfl, rfl, rfl, rfl, rfl, rfl⟩ := hek'
      have HEk : Hid (∀ w, Calls Try.prog 83 #[.agg #[.int .i64 a, .int .i64 l, .int .i64 m, .int .i64 n, .int .i64 ii, .int .i64 t, .int .i64 u, .int .i64 b, .bool cc], .agg #[.int .i64 a, .int .i64 l, .int .i64 m, .int .i64 n, .int .i64 ii, .int .i64 t, .int .i64 u, .int .i64 b, .bool cc]] w fun r w' => r = .returned (.bool true) ∧ Below w.heap.size w w') := HE.out ⟨a, l, m, n, ii, t, u, b, cc⟩
      clear HE hek HX
      replace c0 := cell_regrown c0
      replace d0 := cell_regrown d0
      replace c1 := cell_regrown c1
      replace d1 := cell_regrown d1
      replace c2 := cell_regrown c2
      replace d2 := cell_regrown d2
      replace c3 := cell_regrown c3
      replace d3 := cell_regrown d3
      replace c4 := cell_regrown c4
      replace d4 := cell_regrown d4
      replace c5 := cell_regrown c5
      replace d5 := cell_regrown d5
      replace c6 := cell_regrown c6
      replace d6 := cell_regrown d6
      replace c7 := cell_regrown c7
      replace d7 := cell_regrown d7
      replace c8 := cell_regrown c8
      replace d8 := cell_regrown d8
      go_wp2_with fail
      refine wp_region_quiet_below (by kernel_rfl) (by kernel_rfl) ?_
      repeat (go_big_quiet_step ((go_at_call 83; exact Calls.regrown_of (HEk.out _))))
      refine wpQuiet_nil ?_
      intro w1 hw'
      obtain ⟨⟨dq, osq⟩, hw''⟩ := hw'
      have hbq := below_regrown wr dq osq
      rw [← hw''] at hbq
      clear hw'' osq dq c0 c1 c2 c3 c4 c5 c6 c7 c8 d0 d1 d2 d3 d4 d5 d6 d7 d8 HEk
      have hb2 := hb.trans (hbq.mono hb.size)
      clear hbq
      go_wp2
      go_roundw
      case rel => exact ⟨k + 1, hlt, by go_num, hb2⟩
      case measure => simp [intOf]; omega
    · obtain rfl : k = es.length := by omega
      clear hlt hk
      go_wp2
      go_ret
      exact ⟨rfl, hb⟩
set_option maxRecDepth 100000 in
theorem eqRib_any (p q : Option Addr) (c d : Nat) (es : List Rt) (w : World) (hp : RtsIn w p es) (hq : RtsIn w q es) (hn : es.length ≤ 100000000) : Calls Try.prog 15 #[ribV p es.length c, ribV q es.length d] w fun r w' => r = .returned (.bool true) ∧ Below w.heap.size w w' := by
  have HE : Hid (∀ w, RtsIn w p es → RtsIn w q es → Calls Try.prog 47 #[.slice p es.length c, .slice q es.length d] w fun r w' => r = .returned (.bool true) ∧ Below w.heap.size w w') := fun w h1 h2 => eqRouteS_any p q c d es w h1 h2 hn
  have HX : Hid (RtsIn w p es ∧ RtsIn w q es) := ⟨hp, hq⟩
  unfold ribV
  clear hp hq
  go_enter Try.func15, Try.ntmps15
  go_wp2_with fail
  refine (HE.out _ ((HX.out.1.alloc _).alloc _) ((HX.out.2.alloc _).alloc _)).mono ?_
  rintro e w1 ⟨rfl, hb1⟩
  have hB : Below w.heap.size w w1 := ((ent_new0 w _).alloc (by simp) _).trans (hb1.mono (by simp; omega))
  clear hb1 HE HX
  go_wp2
  go_ret
  exact ⟨rfl, hB⟩
end Go.Proofs.Ytaledidomgelcaa
/- The laws' own marks in a list of routes: written, and looked for. (Written by gen_markr.py.) -/
namespace Go.Proofs.Ytaledidomgelcaa
open Go.RowKit Go.Sort

def m3 (x : Int) : Bool := x.tmod 3 == 0
def markR (K i : Nat) : Rt := ⟨(K : Int) + 9 * (i : Int) + 0, (K : Int) + 9 * (i : Int) + 1, (K : Int) + 9 * (i : Int) + 2, (K : Int) + 9 * (i : Int) + 3, (K : Int) + 9 * (i : Int) + 4, (K : Int) + 9 * (i : Int) + 5, (K : Int) + 9 * (i : Int) + 6, (K : Int) + 9 * (i : Int) + 7, m3 ((K : Int) + 9 * (i : Int) + 8)⟩
def marksR (K n : Nat) : List Rt := (List.range n).map (markR K)
theorem marksR_length (K n : Nat) : (marksR K n).length = n := by simp [marksR]
theorem ownsR_opened {w : World} {base : Nat} {p : Option Addr} {cv : Nat} {es : List Rt} (h : w.ownsRow base 46 9 (.slice p es.length cv) es.length (rowR es)) : es = [] ∨ ∃ g rest, p = some ⟨g, 0, none⟩ ∧ base ≤ g ∧ es.length ≤ cv ∧ cv ≤ maxLen ∧ Row w g 46 (rowR es ++ rest) ∧ (rowR es ++ rest).length = cv * 9 := by
  rcases h.2 with ⟨h1, h2⟩ | ⟨g, cap, cur, h1, h2, h3, h4, h5, h6, h7⟩
  · exact .inl (List.length_eq_zero_iff.1 h2)
  · simp only [Value.slice.injEq] at h1
    obtain ⟨rfl, _, rfl⟩ := h1
    refine .inr ⟨g, cur.toList.drop (es.length * 9), rfl, h2, h4, h5, ?_, ?_⟩
    · unfold Row
      rw [← h7, List.take_append_drop]
      exact h3
    · rw [← h7, List.take_append_drop]; simpa using h6
theorem ownsR_shut {w : World} {base g n cv : Nat} {es : List Rt} {rest : List Value} (hn : n = es.length) (hb : base ≤ g) (h4 : n ≤ cv) (h5 : cv ≤ maxLen) (hr : Row w g 46 (rowR es ++ rest)) (hl : (rowR es ++ rest).length = cv * 9) : w.ownsRow base 46 9 (.slice (some ⟨g, 0, none⟩) n cv) n (rowR es) := by
  subst hn
  exact ⟨by rw [rowR_length]; omega, .inr ⟨g, cv, _, rfl, hb, hr, h4, h5, by simpa using hl, by
    have : (rowR es).length = es.length * 9 := by rw [rowR_length]; omega
    simp only
    rw [← this]; simp⟩⟩
theorem marksR_set (K : Nat) (es : List Rt) (rest : List Value) (k : Nat) (hk : k < es.length) :
    (((((((((rowR (marksR K k ++ es.drop k) ++ rest).set (k * 9) (.int .i64 ((K : Int) + 9 * (k : Int) + 0))).set (k * 9 + 1) (.int .i64 ((K : Int) + 9 * (k : Int) + 1))).set (k * 9 + 2) (.int .i64 ((K : Int) + 9 * (k : Int) + 2))).set (k * 9 + 3) (.int .i64 ((K : Int) + 9 * (k : Int) + 3))).set (k * 9 + 4) (.int .i64 ((K : Int) + 9 * (k : Int) + 4))).set (k * 9 + 5) (.int .i64 ((K : Int) + 9 * (k : Int) + 5))).set (k * 9 + 6) (.int .i64 ((K : Int) + 9 * (k : Int) + 6))).set (k * 9 + 7) (.int .i64 ((K : Int) + 9 * (k : Int) + 7))).set (k * 9 + 8) (.bool (m3 ((K : Int) + 9 * (k : Int) + 8))) = rowR (marksR K (k + 1) ++ es.drop (k + 1)) ++ rest := by
  have e1 : marksR K (k + 1) = marksR K k ++ [markR K k] := by simp [marksR, List.range_succ]
  rw [List.drop_eq_getElem_cons hk, e1, rowR_append, rowR_cons, List.append_assoc (marksR K k), rowR_append, List.singleton_append, rowR_cons, List.append_assoc, List.append_assoc, List.append_assoc, List.append_assoc]
  exact set9 _ _ k (by rw [rowR_length, marksR_length]; omega) _ _ _ _ _ _ _ _ _ _ _ _ _ _ _ _ _ _
theorem rtsIn_rest {w : World} {g : Nat} {t : TypeId} {es : List Rt} {rest : List Value} (h : Row w g t (rowR es ++ rest)) : RtsIn w (some ⟨g, 0, none⟩) es := .inr ⟨g, rfl, h.lt, fun j u hj => by rw [h.cell, List.getElem?_append_left (List.getElem?_eq_some_iff.1 hj).1]; exact hj⟩
set_option maxRecDepth 100000 in
set_option maxHeartbeats 2000000 in
theorem markRouteS_in (K g n cv : Nat) (es : List Rt) (rest : List Value) (w : World) (hn : n = es.length) (hK : K ≤ 100000000) (h8 : n ≤ 100000000) (hr : Row w g 46 (rowR es ++ rest)) :
    Calls Try.prog 48 #[.slice (some ⟨g, 0, none⟩) n cv, .int .i64 K] w fun e w' => e = .returned (.int .i64 ((K : Int) + 9 * (n : Int))) ∧ Row w' g 46 (rowR (marksR K n) ++ rest) ∧ Below g w w' ∧ ∀ b t l, b ≠ g → Row w b t l → Row w' b t l := by
  have HN : Hid (n = es.length) := hn
  have hr0 : Row w g 46 (rowR (marksR K 0 ++ es.drop 0) ++ rest) := hr
  clear hn hr
  go_enter Try.func48, Try.ntmps48
  go_wp2_with fail
  go_loopw [5, 1] (fun i m wr => ∃ k : Nat, k ≤ n ∧ i = .int .i64 k ∧ m = .int .i64 ((K : Int) + 9 * (k : Int)) ∧ Row wr g 46 (rowR (marksR K k ++ es.drop k) ++ rest) ∧ Below g w wr ∧ ∀ b t l, b ≠ g → Row w b t l → Row wr b t l) (fun i _ _ => n - (intOf i).toNat)
  case atStart => exact ⟨0, Nat.zero_le _, rfl, by go_num, hr0, Below.refl _ _, fun _ _ _ _ h => h⟩
  case round =>
    obtain ⟨k, hk, rfl, rfl, hr, hb, hoth⟩ := hrel
    have HOT : Hid (∀ b t l, b ≠ g → Row w b t l → Row wr b t l) := hoth
    clear hr0 hoth
    by_cases hlt : k < n
    · have hlen : (marksR K k ++ es.drop k).length = n := by rw [List.length_append, marksR_length, List.length_drop, ← HN.out]; omega
      have hlr : k * 9 + 8 < (rowR (marksR K k ++ es.drop k) ++ rest).length := by rw [List.length_append, rowR_length, hlen]; omega
      obtain ⟨z0, c0⟩ := Row.someR hr (k * 9) (by omega)
      obtain ⟨z1, c1⟩ := Row.someR hr (k * 9 + 1) (by omega)
      obtain ⟨z2, c2⟩ := Row.someR hr (k * 9 + 2) (by omega)
      obtain ⟨z3, c3⟩ := Row.someR hr (k * 9 + 3) (by omega)
      obtain ⟨z4, c4⟩ := Row.someR hr (k * 9 + 4) (by omega)
      obtain ⟨z5, c5⟩ := Row.someR hr (k * 9 + 5) (by omega)
      obtain ⟨z6, c6⟩ := Row.someR hr (k * 9 + 6) (by omega)
      obtain ⟨z7, c7⟩ := Row.someR hr (k * 9 + 7) (by omega)
      obtain ⟨z8, c8⟩ := Row.someR hr (k * 9 + 8) (by omega)
      have f0 := hr.frozen (k * 9)
      have f1 := hr.frozen (k * 9 + 1)
      have f2 := hr.frozen (k * 9 + 2)
      have f3 := hr.frozen (k * 9 + 3)
      have f4 := hr.frozen (k * 9 + 4)
      have f5 := hr.frozen (k * 9 + 5)
      have f6 := hr.frozen (k * 9 + 6)
      have f7 := hr.frozen (k * 9 + 7)
      have f8 := hr.frozen (k * 9 + 8)
      have hr2 := nine_row hr (k * 9) (.int .i64 ((K : Int) + 9 * (k : Int) + 0)) (.int .i64 ((K : Int) + 9 * (k : Int) + 1)) (.int .i64 ((K : Int) + 9 * (k : Int) + 2)) (.int .i64 ((K : Int) + 9 * (k : Int) + 3)) (.int .i64 ((K : Int) + 9 * (k : Int) + 4)) (.int .i64 ((K : Int) + 9 * (k : Int) + 5)) (.int .i64 ((K : Int) + 9 * (k : Int) + 6)) (.int .i64 ((K : Int) + 9 * (k : Int) + 7)) (.bool (m3 ((K : Int) + 9 * (k : Int) + 8)))
      rw [marksR_set K es rest k (by rw [← HN.out]; exact hlt)] at hr2
      have hB2 := nine_below hb g (k * 9) (Nat.le_refl _) (.int .i64 ((K : Int) + 9 * (k : Int) + 0)) (.int .i64 ((K : Int) + 9 * (k : Int) + 1)) (.int .i64 ((K : Int) + 9 * (k : Int) + 2)) (.int .i64 ((K : Int) + 9 * (k : Int) + 3)) (.int .i64 ((K : Int) + 9 * (k : Int) + 4)) (.int .i64 ((K : Int) + 9 * (k : Int) + 5)) (.int .i64 ((K : Int) + 9 * (k : Int) + 6)) (.int .i64 ((K : Int) + 9 * (k : Int) + 7)) (.bool (m3 ((K : Int) + 9 * (k : Int) + 8)))
      have hO2 := fun b t l (hne : b ≠ g) (h : Row w b t l) => nine_other (HOT.out b t l hne h) hne (k * 9) (.int .i64 ((K : Int) + 9 * (k : Int) + 0)) (.int .i64 ((K : Int) + 9 * (k : Int) + 1)) (.int .i64 ((K : Int) + 9 * (k : Int) + 2)) (.int .i64 ((K : Int) + 9 * (k : Int) + 3)) (.int .i64 ((K : Int) + 9 * (k : Int) + 4)) (.int .i64 ((K : Int) + 9 * (k : Int) + 5)) (.int .i64 ((K : Int) + 9 * (k : Int) + 6)) (.int .i64 ((K : Int) + 9 * (k : Int) + 7)) (.bool (m3 ((K : Int) + 9 * (k : Int) + 8)))
      unfold nine at hr2 hB2 hO2
      have HH : Hid _ := And.intro hr2 (And.intro hB2 hO2)
      clear hr hb hr2 hB2 hlen hlr hO2 HOT
      go_wp2_with fail
      have E : ∀ x : Int, x = (K : Int) + 9 * (k : Int) → x + 1 = x + 1 := fun _ _ => rfl
      clear E
      rw [show (K : Int) + 9 * (k : Int) + 1 + 1 + 1 + 1 + 1 + 1 + 1 + 1 + 1 = (K : Int) + 9 * ((k + 1 : Nat) : Int) by omega, show (K : Int) + 9 * (k : Int) + 1 + 1 + 1 + 1 + 1 + 1 + 1 + 1 = (K : Int) + 9 * (k : Int) + 8 by omega, show (K : Int) + 9 * (k : Int) + 1 + 1 + 1 + 1 + 1 + 1 + 1 = (K : Int) + 9 * (k : Int) + 7 by omega, show (K : Int) + 9 * (k : Int) + 1 + 1 + 1 + 1 + 1 + 1 = (K : Int) + 9 * (k : Int) + 6 by omega, show (K : Int) + 9 * (k : Int) + 1 + 1 + 1 + 1 + 1 = (K : Int) + 9 * (k : Int) + 5 by omega, show (K : Int) + 9 * (k : Int) + 1 + 1 + 1 + 1 = (K : Int) + 9 * (k : Int) + 4 by omega, show (K : Int) + 9 * (k : Int) + 1 + 1 + 1 = (K : Int) + 9 * (k : Int) + 3 by omega, show (K : Int) + 9 * (k : Int) + 1 + 1 = (K : Int) + 9 * (k : Int) + 2 by omega]
      refine ⟨⟨k + 1, hlt, by go_num, rfl, HH.out.1, HH.out.2.1, HH.out.2.2⟩, ?_⟩
      simp [intOf]
      omega
    · obtain rfl : k = n := by omega
      have hre : marksR K k ++ es.drop k = marksR K k := by rw [HN.out, List.drop_length, List.append_nil]
      rw [hre] at hr
      clear hlt hk hre
      go_wp2
      go_ret
      exact ⟨rfl, hr, hb, HOT.out⟩
set_option maxRecDepth 100000 in
set_option maxHeartbeats 2000000 in
theorem heldRouteS_in (K : Nat) (p : Option Addr) (n cv : Nat) (w : World) (hK : K ≤ 100000000) (h8 : n ≤ 100000000) (hE : RtsIn w p (marksR K n)) :
    Calls Try.prog 65 #[.slice p n cv, .int .i64 K] w fun e w' => e = .returned (.int .i64 ((K : Int) + 9 * (n : Int))) ∧ w = w' := by
  have HX : Hid (RtsIn w p (marksR K n)) := hE
  clear hE
  go_enter Try.func65, Try.ntmps65
  go_wp2_with fail
  go_loop [5, 1] (fun i m => ∃ k : Nat, k ≤ n ∧ i = .int .i64 k ∧ m = .int .i64 ((K : Int) + 9 * (k : Int))) (fun i _ => n - (intOf i).toNat)
  case atStart => exact ⟨0, Nat.zero_le _, rfl, by go_num⟩
  case round =>
    obtain ⟨k, hk, rfl, rfl⟩ := hrel
    by_cases hlt : k < n
    · obtain ⟨g, y0, y1, y2, y3, y4, y5, y6, y7, y8, rfl, hg, hek, c0, c1, c2, c3, c4, c5, c6, c7, c8⟩ := HX.out.at k (by rw [marksR_length]; exact hlt)
      have hmk : (marksR K n)[k]'(by rw [marksR_length]; exact hlt) = markR K k := by simp [marksR]
      rw [hmk] at hek
      simp only [markR, Rt.mk.injEq] at hek
      obtain ⟨rfl, rfl, rfl, rfl, rfl, rfl, rfl, rfl, rfl⟩ := hek
      rw [Int.add_zero] at c0
      rw [show (K : Int) + 9 * (k : Int) + 1 = (K : Int) + 9 * (k : Int) + 1 by omega] at c1
      rw [show (K : Int) + 9 * (k : Int) + 2 = (K : Int) + 9 * (k : Int) + 1 + 1 by omega] at c2
      rw [show (K : Int) + 9 * (k : Int) + 3 = (K : Int) + 9 * (k : Int) + 1 + 1 + 1 by omega] at c3
      rw [show (K : Int) + 9 * (k : Int) + 4 = (K : Int) + 9 * (k : Int) + 1 + 1 + 1 + 1 by omega] at c4
      rw [show (K : Int) + 9 * (k : Int) + 5 = (K : Int) + 9 * (k : Int) + 1 + 1 + 1 + 1 + 1 by omega] at c5
      rw [show (K : Int) + 9 * (k : Int) + 6 = (K : Int) + 9 * (k : Int) + 1 + 1 + 1 + 1 + 1 + 1 by omega] at c6
      rw [show (K : Int) + 9 * (k : Int) + 7 = (K : Int) + 9 * (k : Int) + 1 + 1 + 1 + 1 + 1 + 1 + 1 by omega] at c7
      rw [show (K : Int) + 9 * (k : Int) + 8 = (K : Int) + 9 * (k : Int) + 1 + 1 + 1 + 1 + 1 + 1 + 1 + 1 by omega] at c8
      clear hmk
      unfold m3 at c8
      have hx : ((((K : Int) + 9 * (k : Int) + 1 + 1 + 1 + 1 + 1 + 1 + 1 + 1).tmod 3 == 0) != (((K : Int) + 9 * (k : Int) + 1 + 1 + 1 + 1 + 1 + 1 + 1 + 1).tmod 3 == 0)) = false := by simp
      go_wp2_with fail
      refine ⟨⟨k + 1, hlt, by go_num, by go_num⟩, ?_⟩
      simp [intOf]
      omega
    · obtain rfl : k = n := by omega
      clear hlt hk
      go_wp2
      go_ret
      exact ⟨rfl, rfl⟩
end Go.Proofs.Ytaledidomgelcaa
/- The laws' own looks at tables that are handed back: alike, marked, held. (Written by gen_markr.py.) -/
namespace Go.Proofs.Ytaledidomgelcaa
open Go.RowKit Go.Sort

theorem ownsR_in {w : World} {base : Nat} {p : Option Addr} {n cv : Nat} {es : List Rt} (hn : n = es.length) (h : w.ownsRow base 46 9 (.slice p n cv) n (rowR es)) : RtsIn w p es := by
  subst hn
  rcases ownsR_opened h with h0 | ⟨g, rest, rfl, -, -, -, hr, -⟩
  · exact .inl h0
  · exact rtsIn_rest hr
theorem ownsR_row {w : World} {g n : Nat} {es : List Rt} (hn : n = es.length) (h8 : n ≤ 100000000) (h : Row w g 46 (rowR es)) : w.ownsRow g 46 9 (.slice (some ⟨g, 0, none⟩) n n) n (rowR es) := ownsR_shut (rest := []) hn (Nat.le_refl _) (Nat.le_refl _) (by unfold maxLen; omega) (by rw [List.append_nil]; exact h) (by rw [List.append_nil, rowR_length, hn]; omega)
theorem ownsR_kept {w w' : World} {base : Nat} {p : Option Addr} {n cv : Nat} {es : List Rt} (hn : n = es.length) (h : w.ownsRow base 46 9 (.slice p n cv) n (rowR es)) (hk : ∀ b t l, p = some ⟨b, 0, none⟩ → Row w b t l → Row w' b t l) : w'.ownsRow base 46 9 (.slice p n cv) n (rowR es) := by
  subst hn
  rcases ownsR_opened h with h0 | ⟨g, rest, rfl, h1, h2, h3, hr, hl⟩
  · subst h0
    rcases h.2 with ⟨e1, e2⟩ | ⟨g, cap, cur, e1, e2, e3, e4, e5, e6, e7⟩
    · exact ⟨rfl, .inl ⟨e1, e2⟩⟩
    · simp only [Value.slice.injEq] at e1
      obtain ⟨rfl, -, rfl⟩ := e1
      have := hk g 46 cur.toList rfl (by unfold Row; simpa using e3)
      exact ⟨rfl, .inr ⟨g, _, cur, rfl, e2, by unfold Row at this; simpa using this, e4, e5, e6, e7⟩⟩
  · exact ownsR_shut rfl h1 h2 h3 (hk _ _ _ rfl hr) hl
theorem ownsR_below {w w' : World} {base n : Nat} {v : Value} {xs : List Value} (h : w.ownsRow base 46 9 v n xs) (hb : Below w.heap.size w w') : w'.ownsRow base 46 9 v n xs :=
  World.ownsRow.kept h (row := none) ⟨hb.os, hb.tape, hb.output, hb.size, fun k hk _ => hb.block k hk⟩ (by cases v.ownBlock <;> simp)
theorem ownsR_mono {w : World} {base base' n : Nat} {v : Value} {xs : List Value} (h : w.ownsRow base 46 9 v n xs) (hb : base' ≤ base) : w.ownsRow base' 46 9 v n xs := by
  rcases h.2 with ⟨h1, h2⟩ | ⟨g, cap, cur, h1, h2, h3, h4, h5, h6, h7⟩
  · exact ⟨h.1, .inl ⟨h1, h2⟩⟩
  · exact ⟨h.1, .inr ⟨g, cap, cur, h1, by omega, h3, h4, h5, h6, h7⟩⟩
theorem ownsR_ne {w : World} {base n cv g : Nat} {p : Option Addr} {xs l : List Value} {t : TypeId} (h : w.ownsRow base 46 9 (.slice p n cv) n xs) (hr : Row w g t l) (ht : t ≠ 46) : p ≠ some ⟨g, 0, none⟩ := by
  rintro rfl
  rcases h.2 with ⟨h1, _⟩ | ⟨g', cap, cur, h1, _, h3, _⟩
  · simp at h1
  · simp only [Value.slice.injEq, Option.some.injEq, Addr.mk.injEq, and_true] at h1
    obtain ⟨rfl, _⟩ := h1
    unfold Row at hr
    rw [h3] at hr
    simp only [Option.some.injEq, Obj.cells.injEq] at hr
    exact ht hr.2.1.symm
theorem ownsR_base {w : World} {base n cv g : Nat} {p : Option Addr} {xs : List Value} (h : w.ownsRow base 46 9 (.slice p n cv) n xs) (hg : g < base) : p ≠ some ⟨g, 0, none⟩ := by
  rintro rfl
  have := (World.ownsRow.lt h g rfl).1
  omega
theorem ownsR_size {w : World} {base n cv g : Nat} {p : Option Addr} {xs : List Value} (h : w.ownsRow base 46 9 (.slice p n cv) n xs) (hg : w.heap.size ≤ g) : p ≠ some ⟨g, 0, none⟩ := by
  rintro rfl
  have := (World.ownsRow.lt h g rfl).2
  omega
theorem row_ne {w : World} {g k : Nat} {l m : List Value} {t u : TypeId} (h : Row w g t l) (hk : Row w k u m) (ht : t ≠ u) : g ≠ k := by
  rintro rfl
  unfold Row at h hk
  rw [h] at hk
  simp only [Option.some.injEq, Obj.cells.injEq] at hk
  exact ht hk.2.1
set_option maxRecDepth 100000 in
theorem markRouteS_0 (K : Nat) (p : Option Addr) (cv : Nat) (w : World) : Calls Try.prog 48 #[.slice p 0 cv, .int .i64 K] w fun e w' => e = .returned (.int .i64 K) ∧ w = w' := by
  go_enter Try.func48, Try.ntmps48
  go_wp2_with fail
  go_loop [5, 1] (fun i k => i = .int .i64 0 ∧ k = .int .i64 K) (fun _ _ => 0)
  case atStart => exact ⟨rfl, rfl⟩
  case round =>
    obtain ⟨rfl, rfl⟩ := hrel
    go_wp2
    go_ret
    exact ⟨rfl, rfl⟩
set_option maxHeartbeats 1000000 in
theorem markRouteS_any (K : Nat) (p : Option Addr) (n cv base : Nat) (es : List Rt) (w : World) (hn : n = es.length) (hK : K ≤ 100000000) (h8 : n ≤ 100000000) (h : w.ownsRow base 46 9 (.slice p n cv) n (rowR es)) :
    Calls Try.prog 48 #[.slice p n cv, .int .i64 K] w fun e w' => e = .returned (.int .i64 ((K : Int) + 9 * (n : Int))) ∧ w'.ownsRow base 46 9 (.slice p n cv) n (rowR (marksR K n)) ∧ Below base w w' ∧ ∀ b t l, p ≠ some ⟨b, 0, none⟩ → Row w b t l → Row w' b t l := by
  subst hn
  rcases ownsR_opened h with h0 | ⟨g, rest, rfl, hb, h1, h2, hr, hl⟩
  · subst h0
    exact (markRouteS_0 K p cv w).mono fun e w' ⟨he, hw⟩ => ⟨by rw [he]; simp, hw ▸ h, hw ▸ Below.refl _ _, fun _ _ _ _ h => hw ▸ h⟩
  · refine (markRouteS_in K g _ cv es rest w rfl hK h8 hr).mono fun e w' ⟨he, hr', hb', ho'⟩ => ⟨he, ownsR_shut (marksR_length K _).symm hb h1 h2 hr' ?_, hb'.mono hb, fun b t l hp h => ho' b t l (fun e => hp (by rw [e])) h⟩
    rw [List.length_append, rowR_length, marksR_length]
    rw [List.length_append, rowR_length] at hl
    exact hl
set_option maxRecDepth 100000 in
set_option maxHeartbeats 1000000 in
theorem markRib_any (K : Nat) (p : Option Addr) (n cv base : Nat) (es : List Rt) (w : World) (hn : n = es.length) (hK : K ≤ 100000000) (h8 : n ≤ 100000000) (h : w.ownsRow base 46 9 (.slice p n cv) n (rowR es)) (hbs : base ≤ w.heap.size) :
    Calls Try.prog 16 #[.agg #[.slice p n cv], .int .i64 K] w fun e w' => e = .returned (.int .i64 ((K : Int) + 9 * (n : Int))) ∧ w'.ownsRow base 46 9 (.slice p n cv) n (rowR (marksR K n)) ∧ Below base w w' ∧ ∀ b t l, p ≠ some ⟨b, 0, none⟩ → Row w b t l → Row w' b t l := by
  have HM : Hid (Calls Try.prog 48 #[.slice p n cv, .int .i64 K] (w.alloc (.cells #[.slice p n cv] 30)) fun e w' => e = .returned (.int .i64 ((K : Int) + 9 * (n : Int))) ∧ w'.ownsRow base 46 9 (.slice p n cv) n (rowR (marksR K n)) ∧ Below base (w.alloc (.cells #[.slice p n cv] 30)) w' ∧ ∀ b t l, p ≠ some ⟨b, 0, none⟩ → Row (w.alloc (.cells #[.slice p n cv] 30)) b t l → Row w' b t l) := markRouteS_any K p n cv base es _ hn hK h8 (World.ownsRow.alloc h _)
  clear h hn hK h8
  go_enter Try.func16, Try.ntmps16
  go_wp2_with fail
  refine (HM.out).mono ?_
  rintro e w1 ⟨rfl, ho, hb, hot⟩
  have hB : Below base w w1 := ((Below.refl base w).alloc hbs _).trans hb
  have HOT : Hid (∀ b t l, p ≠ some ⟨b, 0, none⟩ → Row w b t l → Row w1 b t l) := fun b t l hp h => hot b t l hp (h.alloc _)
  clear hb hot
  go_wp2
  go_ret
  exact ⟨rfl, ho, hB, HOT.out⟩
set_option maxRecDepth 100000 in
set_option maxHeartbeats 1000000 in
theorem heldRib_any (K : Nat) (p : Option Addr) (n cv : Nat) (w : World) (hK : K ≤ 100000000) (h8 : n ≤ 100000000) (h : RtsIn w p (marksR K n)) :
    Calls Try.prog 26 #[.agg #[.slice p n cv], .int .i64 K] w fun e w' => e = .returned (.int .i64 ((K : Int) + 9 * (n : Int))) ∧ Below w.heap.size w w' := by
  have HM : Hid (Calls Try.prog 65 #[.slice p n cv, .int .i64 K] (w.alloc (.cells #[.slice p n cv] 30)) fun e w' => e = .returned (.int .i64 ((K : Int) + 9 * (n : Int))) ∧ (w.alloc (.cells #[.slice p n cv] 30)) = w') := heldRouteS_in K p n cv _ hK h8 (h.alloc _)
  have d : decide ((K : Int) + 9 * (n : Int) < 0) = false := by simp; omega
  clear h hK h8
  go_enter Try.func26, Try.ntmps26
  go_wp2_with fail
  refine (HM.out).mono ?_
  rintro e w1 ⟨rfl, hb⟩
  have hB : Below w.heap.size w w1 := by rw [← hb]; exact ent_new0 w _
  clear hb
  go_wp2
  go_ret
  exact ⟨rfl, hB⟩
end Go.Proofs.Ytaledidomgelcaa
/- A table copied, and made quiet, by the model. (Written by gen_quiett.py.) -/
namespace Go.Proofs.Ytaledidomgelcaa
open Go.RowKit Go.Sort

theorem ownsR_shapeQ {w : World} {base n : Nat} {v : Value} {xs : List Value} (h : w.ownsRow base 46 9 v n xs) : ∃ q c, v = .slice q n c := by
  rcases h.2 with ⟨h1, h2⟩ | ⟨g, cap, cur, h1, _⟩
  · exact ⟨none, 0, by rw [h1, h2]⟩
  · exact ⟨_, _, h1⟩
set_option maxRecDepth 100000 in
set_option maxHeartbeats 1000000 in
theorem l06Copy_any (p : Option Addr) (cap : Nat) (rs : List Rt) (w : World) (h : RtsIn w p rs) (hc : p = none → cap = 0) (hcl : rs.length ≤ cap) (hn : rs.length ≤ 100000000) :
    Calls Try.prog 84 #[ribV p rs.length cap] w fun e w' => ∃ q c, e = .returned (ribV q rs.length c) ∧ w'.ownsRow w.heap.size 46 9 (.slice q rs.length c) rs.length (rowR rs) ∧ Below w.heap.size w w' := by
  obtain ⟨W, hW, q0, q1, hB, hS⟩ := rows2 w [.slice p rs.length cap] [.slice none 0 0] 30 30
  have HW : Hid _ := hW
  have hX := (h.below hB).alloc (.cells #[] 46)
  have ho := World.ownsRow_lit (base := W.heap.size) (e := 46) (size := 9) W #[] 0 (Nat.le_refl _) (Nat.zero_le _) (by simp)
  obtain ⟨v4, w4, happ, hown4, hb4⟩ := run_append_rts (W.alloc (.cells #[] 46)) W.heap.size (.slice (some ⟨W.heap.size, 0, none⟩) 0 0) [] rs p cap 28 (by simpa [rowR] using ho) (fun e => ⟨rtsIn_none h e, hc e⟩) (fun ad e j u hj => by
    rcases hX with rfl | ⟨g, rfl, _, hcell⟩
    · simp [rowR] at hj
    · cases e
      rw [addR, Nat.zero_add]
      exact hcell j u hj) (by simp; omega) (by simp)
  rw [List.nil_append] at hown4
  obtain ⟨q4, c4, rfl⟩ := ownsR_shapeQ hown4
  have q0 := q0.alloc (.cells #[] 46)
  have q1 := (q1.alloc (.cells #[] 46)).below hb4 (by omega)
  have hB := (hB.alloc (by omega) (.cells #[] 46)).trans (hb4.mono (by omega))
  have x0 : (W.alloc (.cells #[] 46)).cell? ⟨w.heap.size, 0, none⟩ = some (.slice p rs.length cap) := q0.cell 0
  have f0 : w4.frozen? ⟨w.heap.size + 1, 0, none⟩ = false := q1.frozen 0
  have z0 : w4.cell? ⟨w.heap.size + 1, 0, none⟩ = some (.slice none 0 0) := q1.cell 0
  have HE : Hid _ := And.intro (q1.set 0 (.slice q4 rs.length c4)) (And.intro (hB.setCell (p := ⟨w.heap.size + 1, 0, none⟩) (by show w.heap.size ≤ w.heap.size + 1; omega) (.slice q4 rs.length c4)) (ownR_set (base' := w.heap.size) hown4 ⟨w.heap.size + 1, 0, none⟩ (by show w.heap.size + 1 < W.heap.size; omega) (.slice q4 rs.length c4) (by omega)))
  rw [hS] at happ
  rw [hW] at x0 happ
  clear q0 q1 hB hown4 hb4 ho hX hW h hc hcl hS hn
  unfold ribV
  go_enter Try.func84, Try.ntmps84
  go_wp2_with (at_builtin; refine wpList_append_runs rfl _ _ 28 rfl _ _ rfl rfl happ ?_)
  obtain ⟨h1, h2, h3⟩ := HE.out
  clear HE f0 z0 x0 happ
  generalize w4.setCell ⟨w.heap.size + 1, 0, none⟩ (.slice q4 rs.length c4) = Z at *
  have e0 : Z.cell? ⟨w.heap.size + 1, 0, none⟩ = some (.slice q4 rs.length c4) := h1.cell 0
  exact bodyPost_ret (v := .agg #[.slice q4 rs.length c4]) (by simp [results, Try.results84, go_sem, e0]) rfl ⟨q4, c4, rfl, h3, h2⟩
/-- How far the model has come behind k rounds. -/
def hushK (rs : List Rt) (k : Nat) : List Rt := halfR hushF rs k
theorem hushK_len (rs : List Rt) (k : Nat) : (hushK rs k).length = rs.length := by
  unfold hushK halfR
  rw [List.length_append, List.length_drop]
  have : ((rs.take k).filterMap hushF).length = (rs.take k).length := by
    generalize rs.take k = l
    induction l with
    | nil => rfl
    | cons x l ih => simp [hushF] at ih ⊢
  rw [this, List.length_take]
  omega
theorem hushK_set (rs : List Rt) (rest : List Value) (k : Nat) (hk : k < rs.length) : (rowR (hushK rs k) ++ rest).set (k * 9 + 8) (.bool false) = rowR (hushK rs (k + 1)) ++ rest := by
  have hl : (rowR ((rs.take k).filterMap hushF)).length = k * 9 := by
    rw [rowR_length]
    have := hushK_len rs k
    unfold hushK halfR at this
    rw [List.length_append, List.length_drop] at this
    omega
  unfold hushK
  rw [halfR_at hushF hk]
  unfold halfR
  rw [take_turn hushF hk, show hushF rs[k] = some ⟨rs[k].a, rs[k].l, rs[k].m, rs[k].n, rs[k].i, rs[k].t, rs[k].u, rs[k].b, false⟩ from rfl]
  simp only [Option.toList_some, rowR_append, rowR_cons, List.append_assoc]
  rw [List.set_append, if_neg (by omega), hl, Nat.add_sub_cancel_left]
  rfl
set_option maxRecDepth 100000 in
set_option maxHeartbeats 2000000 in
theorem l06Quiet_any (p : Option Addr) (cap : Nat) (rs : List Rt) (w : World) (h : RtsIn w p rs) (hc : p = none → cap = 0) (hcl : rs.length ≤ cap) (hn : rs.length ≤ 100000000) :
    Calls Try.prog 64 #[ribV p rs.length cap] w fun e w' => ∃ q c, e = .returned (ribV q (rs.filterMap hushF).length c) ∧ w'.ownsRow w.heap.size 46 9 (.slice q (rs.filterMap hushF).length c) (rs.filterMap hushF).length (rowR (rs.filterMap hushF)) ∧ Below w.heap.size w w' := by
  have HC : Hid (∀ w, RtsIn w p rs → Calls Try.prog 84 #[.agg #[.slice p rs.length cap]] w fun e w' => ∃ q c, e = .returned (.agg #[.slice q rs.length c]) ∧ w'.ownsRow w.heap.size 46 9 (.slice q rs.length c) rs.length (rowR rs) ∧ Below w.heap.size w w') := fun w h => l06Copy_any p cap rs w h hc hcl hn
  have HX : Hid (RtsIn w p rs) := h
  have HF : Hid (hushK rs rs.length = rs.filterMap hushF) := halfR_end hushF rs
  have HF0 : Hid (hushK rs 0 = rs) := halfR_0 hushF rs
  clear h hc hcl
  obtain ⟨W, hW, q0, q1, hB, hS⟩ := rows2 w [.slice p rs.length cap] [.slice none 0 0] 30 30
  have HW : Hid _ := hW
  have x0 : W.cell? ⟨w.heap.size, 0, none⟩ = some (.slice p rs.length cap) := q0.cell 0
  have HQ : Hid _ := And.intro q1 hB
  rw [hW] at x0
  clear hW q0 q1 hB
  unfold ribV
  go_enter Try.func64, Try.ntmps64
  go_wp2_with fail
  rw [← HW.out]
  obtain ⟨q1, hB⟩ := HQ.out
  refine (HC.out _ ((HX.out).below hB)).mono ?_
  rintro e w1 ⟨q, cv, rfl, hown, hb1⟩
  have q1 := (q1.below hb1 q1.lt).alloc (.cells #[.slice q rs.length cv] 30)
  have q2 := Row.new w1 30 [.slice q rs.length cv]
  have hown := World.ownsRow.alloc hown (.cells #[.slice q rs.length cv] 30)
  have hB := (hB.trans (hb1.mono hB.size)).alloc (by have := hb1.size; omega) (.cells #[.slice q rs.length cv] 30)
  have HQ2 : Hid _ := And.intro q1 (And.intro q2 (And.intro hown hB))
  have hs1 := hb1.size
  clear q1 q2 hown hB hb1 HC HX HW HQ x0
  go_wp2_with fail
  generalize hbx : w1.heap.size = b3 at *
  generalize w1.alloc (.cells #[.slice q rs.length cv] 30) = W1 at *
  clear hbx
  obtain ⟨q1, q2, hown, hB⟩ := HQ2.out
  clear HQ2
  rcases ownsR_opened hown with h0 | ⟨g, rest, rfl, hbg, hcv, hmx, hr, hl⟩
  · subst h0
    have x3 : W1.cell? ⟨b3, 0, none⟩ = some (.slice q 0 cv) := q2.cell 0
    simp only [List.length_nil] at *
    go_loop [4] (fun i => i = .int .i64 0) (fun _ => 0)
    case atStart => exact rfl
    case round =>
      subst hrel
      have y0 : W1.cell? ⟨b3, 0, none⟩ = some (.slice q 0 cv) := q2.cell 0
      have f0 : W1.frozen? ⟨w.heap.size + 1, 0, none⟩ = false := q1.frozen 0
      have z0 : W1.cell? ⟨w.heap.size + 1, 0, none⟩ = some (.slice none 0 0) := q1.cell 0
      have HE : Hid _ := And.intro (q1.set 0 (.slice q 0 cv)) (And.intro (hB.setCell (p := ⟨w.heap.size + 1, 0, none⟩) (by show w.heap.size ≤ w.heap.size + 1; omega) (.slice q 0 cv)) (ownR_set (base' := w.heap.size) hown ⟨w.heap.size + 1, 0, none⟩ (by show w.heap.size + 1 < W.heap.size; omega) (.slice q 0 cv) (by omega)))
      clear q1 q2 hB hown
      go_wp2_with fail
      obtain ⟨h1, h2, h3⟩ := HE.out
      clear HE f0 z0 y0
      generalize W1.setCell ⟨w.heap.size + 1, 0, none⟩ (.slice q 0 cv) = Z at *
      have e0 : Z.cell? ⟨w.heap.size + 1, 0, none⟩ = some (.slice q 0 cv) := h1.cell 0
      exact bodyPost_ret (v := .agg #[.slice q 0 cv]) (by simp [results, Try.results64, go_sem, e0]) rfl ⟨q, cv, rfl, h3, h2⟩
  · have hg1 := row_ne q1 hr (by decide)
    have hg3 := row_ne q2 hr (by decide)
    have hr0 : Row W1 g 46 (rowR (hushK rs 0) ++ rest) := by rw [HF0.out]; exact hr
    have hgw : w.heap.size ≤ g := by omega
    have HI : Hid _ := And.intro q1 (And.intro q2 (And.intro hr0 hB))
    clear hr hown q1 q2 hr0 hB
    go_loopw [4] (fun i wr => ∃ k : Nat, k ≤ rs.length ∧ i = .int .i64 k ∧ Row wr (w.heap.size + 1) 30 [.slice none 0 0] ∧ Row wr b3 30 [.slice (some ⟨g, 0, none⟩) rs.length cv] ∧ Row wr g 46 (rowR (hushK rs k) ++ rest) ∧ Below w.heap.size w wr) (fun i _ => rs.length - (intOf i).toNat)
    case atStart => exact ⟨0, Nat.zero_le _, rfl, HI.out⟩
    case round =>
      obtain ⟨k, hk, rfl, q1, q2, hr, hB⟩ := hrel
      clear HI
      by_cases hlt : k < rs.length
      · have d1 : decide ((k : Int) < (rs.length : Int)) = true := by simpa using hlt
        have x3 : wr.cell? ⟨b3, 0, none⟩ = some (.slice (some ⟨g, 0, none⟩) rs.length cv) := q2.cell 0
        obtain ⟨z8, c8⟩ := Row.someR hr (k * 9 + 8) (by rw [List.length_append, rowR_length, hushK_len]; omega)
        have f8 := hr.frozen (k * 9 + 8)
        have hr2 := hr.set (k * 9 + 8) (.bool false)
        rw [hushK_set rs rest k hlt] at hr2
        have HZ : Hid _ := And.intro (q1.other (k * 9 + 8) (.bool false) hg1) (And.intro (q2.other (k * 9 + 8) (.bool false) hg3) (And.intro hr2 (hB.setCell (p := ⟨g, k * 9 + 8, none⟩) hgw (.bool false))))
        clear q1 q2 hr hr2 hB
        go_wp2_with fail
        refine ⟨⟨k + 1, hlt, by go_num, HZ.out⟩, ?_⟩
        simp [intOf]
        omega
      · obtain rfl : k = rs.length := by omega
        have d1 : decide ((rs.length : Int) < (rs.length : Int)) = false := by simp
        have hlen : rs.length = (rs.filterMap hushF).length := by rw [← HF.out, hushK_len]
        have hown : wr.ownsRow W.heap.size 46 9 (.slice (some ⟨g, 0, none⟩) rs.length cv) rs.length (rowR (rs.filterMap hushF)) := by
          rw [← HF.out]
          exact ownsR_shut (hushK_len rs _).symm hbg hcv hmx hr (by rw [List.length_append, rowR_length, hushK_len] at *; exact hl)
        have HL : Hid _ := hlen
        clear hlt hk hr hlen hl
        have y0 : wr.cell? ⟨b3, 0, none⟩ = some (.slice (some ⟨g, 0, none⟩) rs.length cv) := q2.cell 0
        have f0 : wr.frozen? ⟨w.heap.size + 1, 0, none⟩ = false := q1.frozen 0
        have z0 : wr.cell? ⟨w.heap.size + 1, 0, none⟩ = some (.slice none 0 0) := q1.cell 0
        have HE : Hid _ := And.intro (q1.set 0 (.slice (some ⟨g, 0, none⟩) rs.length cv)) (And.intro (hB.setCell (p := ⟨w.heap.size + 1, 0, none⟩) (by show w.heap.size ≤ w.heap.size + 1; omega) (.slice (some ⟨g, 0, none⟩) rs.length cv)) (ownR_set (base' := w.heap.size) hown ⟨w.heap.size + 1, 0, none⟩ (by show w.heap.size + 1 < W.heap.size; omega) (.slice (some ⟨g, 0, none⟩) rs.length cv) (by omega)))
        clear q1 q2 hB hown
        go_wp2_with fail
        obtain ⟨h1, h2, h3⟩ := HE.out
        clear HE f0 z0 y0
        generalize wr.setCell ⟨w.heap.size + 1, 0, none⟩ (.slice (some ⟨g, 0, none⟩) rs.length cv) = Z at *
        have e0 : Z.cell? ⟨w.heap.size + 1, 0, none⟩ = some (.slice (some ⟨g, 0, none⟩) rs.length cv) := h1.cell 0
        refine bodyPost_ret (v := .agg #[.slice (some ⟨g, 0, none⟩) rs.length cv]) (by simp [results, Try.results64, go_sem, e0]) rfl ?_
        have hlen := HL.out
        rw [← hlen]
        exact ⟨_, cv, rfl, h3, h2⟩
end Go.Proofs.Ytaledidomgelcaa
/- The table's iterator, where the rounds change the table: each net is looked up when its turn comes. (Written by gen_allm.py.) -/
namespace Go.Proofs.Ytaledidomgelcaa
open Go.RowKit Go.Sort Go.Shelf
attribute [local go_sem] Oper.semAt_some

/-- What a round that changes the table keeps: its nets, its tables. -/
structure KpM (W W' : World) : Prop where
  size : W.heap.size ≤ W'.heap.size
  rows : ∀ (k : Nat) (cur : Array Value) (t : TypeId), W.heap[k]? = some (Obj.cells cur t (0, 0)) → t = 35 ∨ t = 82 → W'.heap[k]? = W.heap[k]?
theorem KpM.t {A B C : World} (h : KpM A B) (k : KpM B C) : KpM A C :=
  ⟨Nat.le_trans h.size k.size, fun i cur t hi ht => (k.rows i cur t ((h.rows i cur t hi ht).trans hi) ht).trans (h.rows i cur t hi ht)⟩
theorem KpM.b {W : World} {l : Nat} {o : Obj} (o' : Obj) (h : W.heap[l]? = some o) (hc : o.isCells = false) : KpM W (W.putObj l o') :=
  KpM.mk (by simp) (fun i cur t hi _ => World.putObj_heap_other (fun e => by
    subst e
    rw [h] at hi
    cases hi
    cases hc))
theorem KpM.below {W W' : World} (h : Below W.heap.size W W') : KpM W W' := ⟨h.size, fun k _ _ hk _ => h.block k (Array.getElem?_eq_some_iff.1 hk).1⟩
theorem KpM.grown {W W' : World} {B : Nat} (h : W.grownBy W' (some B)) (hB : ∃ es c, W.heap[B]? = some (.map es c)) : KpM W W' := ⟨h.size, fun k cur t hk _ => h.block k (Array.getElem?_eq_some_iff.1 hk).1 (fun e => by
  cases e
  obtain ⟨es, c, hB⟩ := hB
  rw [hB] at hk
  cases hk)⟩
set_option maxRecDepth 100000 in
set_option maxHeartbeats 2000000 in
theorem all1_mut (n : Nat) (hn : 1 ≤ n) (l Bt b : Nat) (ms rs : List Rt) (hp : ms.Perm rs) (hr : ribB rs = true) (J : List Rt → World → Prop)
    (hJ : ∀ s X Y, J s X → X.grownBy Y none → J s Y)
    (hL : ∀ k (hk : k < rs.length) X, J (rs.take k) X → ∃ ns, MapIs X b ns ∧ lookN ns rs[k].a rs[k].l = some rs[k])
    (hY : ∀ k (hk : k < rs.length) X, J (rs.take k) X → YieldAt Fence.wide (n - 1) Try.prog l #[rtV rs[k]] X fun e Y => e = .returned (.bool true) ∧ J (rs.take (k + 1)) Y ∧ KpM X Y)
    (W0 : World) (hT : Row W0 Bt 82 [.map (some b), .func (.func 82) #[] #[]]) (hM : MapIs W0 b ms) (h0 : J [] W0) :
    CallsIn Fence.wide n Try.prog 91 #[.func (.yield l) #[] #[], .pointer (some ⟨Bt, 0, none⟩)] W0 fun e W' => (∃ v, e = .returned v) ∧ J rs W' := by
  have h8 := (ribB_spec hr).1
  have HS : Hid (∀ Bm w, w.cell? ⟨Bm, 0, none⟩ = some (.map (some b)) → MapIs w b ms → Calls Try.prog 92 #[.func (.func 109) #[] #[.pointer (some ⟨Bm, 0, none⟩)], .func (.func 82) #[] #[]] w fun e w' => ∃ v, e = .returned v ∧ HoldsN w' w.heap.size v (rs.map netOfR) ∧ Below w.heap.size w w') := fun Bm w h1 h2 =>
    (sortedN Bm b ms w (by rw [hp.length_eq]; omega) h1 h2).mono fun e w' h => by
      obtain ⟨v, xs, e, hq, hR, hH, hb⟩ := h
      rw [risen_nets hr (hq.trans (hp.map _)) hR] at hH
      exact ⟨v, e, hH, hb⟩
  refine callsIn_of_wp Try.func91 rfl trivial ?_ rfl
  simp only [Try.ntmps91, List.size_toArray, List.length_cons, List.length_nil, Nat.reduceAdd, Nat.reduceSub, Array.replicate_succ, Array.replicate_zero, List.push_toArray, List.append_toArray, List.nil_append, List.cons_append]
  refine wpIn_seq ?_
  refine wpIn_wide.2 ?_
  have hGN : (([(5, Is (.pointer (some ⟨Bt, 0, none⟩))), (6, Is (.map (some b))), (7, fun v W => ∃ Bm, v = .func (.func 109) #[] #[.pointer (some ⟨Bm, 0, none⟩)] ∧ Row W Bm 79 [.map (some b)]), (8, Is (.pointer (some ⟨Bt, 1, none⟩))), (9, Is (.func (.func 82) #[] #[])), (10, fun v W => ∃ B0, W0.heap.size ≤ B0 ∧ HoldsN W B0 v (rs.map netOfR)), (11, Is (.int .i64 (rs.length : Int))), (12, Is (.int .i64 0))] : List (Nat × (Value → World → Prop))).map (·.1)).Nodup := by simp
  refine wp_region_steady 8 (SlotG [(5, Is (.pointer (some ⟨Bt, 0, none⟩))), (6, Is (.map (some b))), (7, fun v W => ∃ Bm, v = .func (.func 109) #[] #[.pointer (some ⟨Bm, 0, none⟩)] ∧ Row W Bm 79 [.map (some b)]), (8, Is (.pointer (some ⟨Bt, 1, none⟩))), (9, Is (.func (.func 82) #[] #[])), (10, fun v W => ∃ B0, W0.heap.size ≤ B0 ∧ HoldsN W B0 v (rs.map netOfR)), (11, Is (.int .i64 (rs.length : Int))), (12, Is (.int .i64 0))]) (by kernel_rfl) (by kernel_rfl) (Stabs.all ⟨stab_is _, stab_is _, stab_seq b, stab_is _, stab_is _, stab_nets _ _, stab_is _, stab_is _, trivial⟩) ?_ ?_
  · intro o ho
    simp only [List.take_succ_cons, List.take_zero, List.mem_cons, List.not_mem_nil, or_false] at ho
    rcases ho with rfl | rfl | rfl | rfl | rfl | rfl | rfl | rfl
    · intro a' w' hb ha hdep
      have d1 : a'.tmps.getD 1 undef = .pointer (some ⟨Bt, 0, none⟩) := ha.at 1 (by kernel_rfl)
      have hmk := fun (x : Value) (W : World) => SlotG.mk (x := x) (w := W) 0 rfl hGN
      clear hGN ha hdep
      go_simp
      exact ⟨_, rfl, Below.refl _ _, hmk _ _ rfl⟩
    · intro a' w' hb ha hdep
      have d5 : a'.tmps.getD 5 undef = .pointer (some ⟨Bt, 0, none⟩) := (hdep 5 (of_decide_eq_true (by kernel_rfl))).is 0 rfl
      have hmk := fun (x : Value) (W : World) => SlotG.mk (x := x) (w := W) 1 rfl hGN
      clear hGN ha hdep
      have y0 : w'.cell? ⟨Bt, 0, none⟩ = some (.map (some b)) := (hT.below hb hT.lt).cell 0
      go_simp
      exact ⟨_, rfl, Below.refl _ _, hmk _ _ rfl⟩
    · intro a' w' hb ha hdep
      have d6 : a'.tmps.getD 6 undef = .map (some b) := (hdep 6 (of_decide_eq_true (by kernel_rfl))).is 1 rfl
      have hmk := fun (x : Value) (W : World) => SlotG.mk (x := x) (w := W) 2 rfl hGN
      clear hGN ha hdep
      go_simp
      refine (keys_make b _).mono ?_
      rintro e w2 ⟨rfl, rfl⟩
      exact ⟨_, rfl, ent_new0 _ _, hmk _ _ ⟨_, rfl, Row.new w' _ [.map (some b)]⟩⟩
    · intro a' w' hb ha hdep
      have d1 : a'.tmps.getD 1 undef = .pointer (some ⟨Bt, 0, none⟩) := ha.at 1 (by kernel_rfl)
      have hmk := fun (x : Value) (W : World) => SlotG.mk (x := x) (w := W) 3 rfl hGN
      clear hGN ha hdep
      go_simp
      exact ⟨_, rfl, Below.refl _ _, hmk _ _ rfl⟩
    · intro a' w' hb ha hdep
      have d8 : a'.tmps.getD 8 undef = .pointer (some ⟨Bt, 1, none⟩) := (hdep 8 (of_decide_eq_true (by kernel_rfl))).is 3 rfl
      have hmk := fun (x : Value) (W : World) => SlotG.mk (x := x) (w := W) 4 rfl hGN
      clear hGN ha hdep
      have y1 : w'.cell? ⟨Bt, 1, none⟩ = some (.func (.func 82) #[] #[]) := (hT.below hb hT.lt).cell 1
      go_simp
      exact ⟨_, rfl, Below.refl _ _, hmk _ _ rfl⟩
    · intro a' w' hb ha hdep
      have D7 := (hdep 7 (of_decide_eq_true (by kernel_rfl))).get 2 rfl
      have d9 : a'.tmps.getD 9 undef = .func (.func 82) #[] #[] := (hdep 9 (of_decide_eq_true (by kernel_rfl))).is 4 rfl
      have hmk := fun (x : Value) (W : World) => SlotG.mk (x := x) (w := W) 5 rfl hGN
      clear hGN ha hdep
      obtain ⟨Bm, d7, hRm⟩ := D7
      have hsz := hb.size
      go_simp
      refine (HS.out Bm _ (hRm.cell 0) (hM.below hb hM.lt)).mono ?_
      rintro e w2 ⟨v, rfl, hv, hb2⟩
      exact ⟨_, rfl, hb2, hmk _ _ ⟨_, hsz, hv⟩⟩
    · intro a' w' hb ha hdep
      have D10 := (hdep 10 (of_decide_eq_true (by kernel_rfl))).get 5 rfl
      have hmk := fun (x : Value) (W : World) => SlotG.mk (x := x) (w := W) 6 rfl hGN
      clear hGN ha hdep
      obtain ⟨B0, hB0, hv⟩ := D10
      obtain ⟨p, cap, d10⟩ := hv.form
      rw [List.length_map] at d10
      go_simp
      exact ⟨_, rfl, Below.refl _ _, hmk _ _ rfl⟩
    · intro a' w' hb ha hdep
      have hmk := fun (x : Value) (W : World) => SlotG.mk (x := x) (w := W) 7 rfl hGN
      clear hGN ha hdep
      go_simp
      exact ⟨_, rfl, Below.refl _ _, hmk _ _ rfl⟩
  · intro a' w' hb ha hG
    clear hGN
    have D10 := (hG _ (List.mem_of_getElem? (i := 5) rfl) 10 rfl).get 5 rfl
    have d11 : a'.tmps.getD 11 undef = .int .i64 (rs.length : Int) := (hG _ (List.mem_of_getElem? (i := 6) rfl) 11 rfl).is 6 rfl
    have d12 : a'.tmps.getD 12 undef = .int .i64 0 := (hG _ (List.mem_of_getElem? (i := 7) rfl) 12 rfl).is 7 rfl
    have d0 : a'.tmps.getD 0 undef = .func (.yield l) #[] #[] := ha.at 0 (by kernel_rfl)
    have d1 : a'.tmps.getD 1 undef = .pointer (some ⟨Bt, 0, none⟩) := ha.at 1 (by kernel_rfl)
    have e2 : a' = ⟨#[a'.tmps.getD 0 undef, a'.tmps.getD 1 undef, a'.tmps.getD 2 undef, a'.tmps.getD 3 undef, a'.tmps.getD 4 undef, a'.tmps.getD 5 undef, a'.tmps.getD 6 undef, a'.tmps.getD 7 undef, a'.tmps.getD 8 undef, a'.tmps.getD 9 undef, a'.tmps.getD 10 undef, a'.tmps.getD 11 undef, a'.tmps.getD 12 undef, a'.tmps.getD 13 undef, a'.tmps.getD 14 undef, a'.tmps.getD 15 undef, a'.tmps.getD 16 undef, a'.tmps.getD 17 undef, a'.tmps.getD 18 undef, a'.tmps.getD 19 undef, a'.tmps.getD 20 undef, a'.tmps.getD 21 undef, a'.tmps.getD 22 undef, a'.tmps.getD 23 undef], []⟩ := by rw [← (show a'.defers = [] from ha.2.1)]; exact act_eq a' 24 ha.1
    rw [d11, d12, d0, d1] at e2
    clear hG ha d11 d12 d0 d1
    generalize a'.tmps.getD 2 undef = x2 at *
    generalize a'.tmps.getD 3 undef = x3 at *
    generalize a'.tmps.getD 4 undef = x4 at *
    generalize a'.tmps.getD 5 undef = x5 at *
    generalize a'.tmps.getD 6 undef = x6 at *
    generalize a'.tmps.getD 7 undef = x7 at *
    generalize a'.tmps.getD 8 undef = x8 at *
    generalize a'.tmps.getD 9 undef = x9 at *
    generalize a'.tmps.getD 10 undef = x10 at *
    generalize a'.tmps.getD 13 undef = x13 at *
    generalize a'.tmps.getD 14 undef = x14 at *
    generalize a'.tmps.getD 15 undef = x15 at *
    generalize a'.tmps.getD 16 undef = x16 at *
    generalize a'.tmps.getD 17 undef = x17 at *
    generalize a'.tmps.getD 18 undef = x18 at *
    generalize a'.tmps.getD 19 undef = x19 at *
    generalize a'.tmps.getD 20 undef = x20 at *
    generalize a'.tmps.getD 21 undef = x21 at *
    generalize a'.tmps.getD 22 undef = x22 at *
    generalize a'.tmps.getD 23 undef = x23 at *
    subst e2
    simp only [List.drop_succ_cons, List.drop_zero]
    refine wpList_nil ?_
    obtain ⟨B0, hB0, hH⟩ := D10
    have hJ1 : J [] w' := hJ [] W0 w' h0 ⟨hb.os, hb.tape, hb.output, hb.size, fun k hk _ => hb.block k hk⟩
    have hT1 := hT.below hb hT.lt
    have hsz := hb.size
    clear hb HS h0 hT hM
    generalize x10 = v at *
    obtain ⟨p, cap, rfl⟩ := hH.form
    rw [List.length_map] at hH ⊢
    gi_wp2
    gi_loopw [12] (fun i wr => ∃ k : Nat, k ≤ rs.length ∧ i = .int .i64 k ∧ J (rs.take k) wr ∧ W0.heap.size ≤ wr.heap.size ∧ Row wr Bt 82 [.map (some b), .func (.func 82) #[] #[]] ∧ HoldsN wr B0 (.slice p rs.length cap) (rs.map netOfR)) (fun i _ => rs.length - (intOf i).toNat)
    case atStart => exact ⟨0, Nat.zero_le _, rfl, hJ1, hsz, hT1, hH⟩
    case round =>
      clear hJ1 hT1 hH hsz
      obtain ⟨k, hk, rfl, hJk, hsz, hTk, hHk⟩ := hrel
      by_cases hlt : k < rs.length
      · have d1 : decide ((k : Int) < (rs.length : Int)) = true := by simpa using hlt
        obtain ⟨g, rfl, hNk, hBg⟩ := hHk.at (by rw [List.length_map]; omega)
        obtain ⟨c0, c1, -, -⟩ := hNk.cell k (by rw [List.length_map]; exact hlt)
        rw [List.getElem_map] at c0 c1
        have hJa : J (rs.take k) (wr.alloc (.cells #[.int .i64 rs[k].a, .int .i64 rs[k].l] 35)) := hJ _ wr _ hJk (World.grownBy_alloc wr _ none)
        have hTa := hTk.alloc (.cells #[.int .i64 rs[k].a, .int .i64 rs[k].l] 35)
        obtain ⟨ns, hMa, hlk⟩ := hL k hlt _ hJa
        have hNa := hNk.below (ent_new0 wr (.cells #[.int .i64 rs[k].a, .int .i64 rs[k].l] 35)) hNk.lt
        have hrun := map_look1 hMa rs[k].a rs[k].l
        rw [hlk, Option.getD_some] at hrun
        obtain ⟨fn, tmps, assign, body, hy, hR⟩ := hY k hlt _ hJa
        have t0 : (wr.alloc (.cells #[.int .i64 rs[k].a, .int .i64 rs[k].l] 35)).cell? ⟨Bt, 0, none⟩ = some (.map (some b)) := hTa.cell 0
        have HA : Hid _ := And.intro hTa hNa
        have hbt : Bt < wr.heap.size := hTk.lt
        clear hJk hTk hNk hHk hJa hTa hMa hNa hlk
        generalize rs[k] = q at *
        obtain ⟨A, L, M, O, I, T, U, E, C⟩ := q
        unfold netV rtV rtA at hrun
        unfold rtV rtA at hy
        simp only [netOfR] at hrun hy c0 c1 t0
        gi_wp2
        refine hR.mono ?_
        rintro e W3 ⟨rfl, hJ3, hk3⟩
        obtain ⟨hTa, hNa⟩ := HA.out
        have hT3 : Row W3 Bt 82 [.map (some b), .func (.func 82) #[] #[]] := (hk3.rows Bt _ _ hTa (.inr rfl)).trans hTa
        have hN3 : NetsAt W3 g (rs.map netOfR) := by
          obtain ⟨cur, hc, e⟩ := hNa
          exact ⟨cur, (hk3.rows g _ _ hc (.inl rfl)).trans hc, e⟩
        have hs3 : W0.heap.size ≤ W3.heap.size := by have := hk3.size; simp at this; omega
        have HZ : Hid _ := And.intro hJ3 (And.intro hs3 (And.intro hT3 hN3))
        clear hJ3 hk3 hT3 hN3 hs3 HA hrun hy hTa hNa c0 c1 t0 hsz hR
        gi_wp2
        go_roundw
        case rel => exact ⟨k + 1, hlt, by go_num, HZ.out.1, HZ.out.2.1, HZ.out.2.2.1, .inr ⟨g, cap, by rw [List.length_map], HZ.out.2.2.2, hBg⟩⟩
        case measure => simp [intOf]; omega
      · obtain rfl : k = rs.length := by omega
        have d1 : decide ((rs.length : Int) < (rs.length : Int)) = false := by simp
        rw [List.take_length] at hJk
        clear hlt hk
        gi_wp2
        go_end0
        exact ⟨⟨_, rfl⟩, hJk⟩
end Go.Proofs.Ytaledidomgelcaa
/- A route dropped from a map of routes. -/
namespace Go.Proofs.Ytaledidomgelcaa
open Go.RowKit Go.Sort

theorem map_erase {α β : Type} (f : α → β) : ∀ (l : List α) (k : Nat), (l.eraseIdx k).map f = (l.map f).eraseIdx k
  | [], k => by simp
  | x :: l, 0 => by simp
  | x :: l, k + 1 => by simp [map_erase f l k]
theorem map_drop {w : World} {b : Nat} {rs : List Rt} (h : MapIs w b rs) (a l : Int) (ty : TypeId) :
    ∃ w', (Builtin.delete_ #[79, 35] ty #[.map (some b), netV a l]).run Try.prog w = .ok (.tuple #[]) w' ∧ MapIs w' b (dropN rs a l) ∧ w.grownBy w' (some b) := by
  have hlt := h.lt
  obtain ⟨es, clock, hb, hh, hp, hc⟩ := h
  unfold Builtin.delete_
  simp only [List.getElem?_toArray, List.getElem?_cons_zero, List.getElem?_cons_succ, Sem.run_bind, run_underlying mapUnd, Result.andThen_ok, MapKept.run_getObj_map hb, checkNet, findKey_run a l w es.toList rs hh]
  unfold dropN
  cases hi : idxN rs a l with
  | none =>
    rw [idx_none hi]
    have hs := MapKept.run_setObj_map (P := Try.prog) (.map es clock) hb
    refine ⟨setB w b (.map es clock), by simp only [Option.bind_none, Sem.run_bind]; rw [hs]; rfl, ⟨es, clock, setB_at hlt, hh, hp, hc⟩, setB_grown _⟩
  | some k =>
    obtain ⟨hk, hl, hn, _⟩ := idx_get hi
    rw [hl]
    have hs := MapKept.run_setObj_map (P := Try.prog) (.map (es.eraseIdxIfInBounds k) clock) hb
    have hke : k < es.size := by have := hh.nil_iff; simp at this; omega
    have he : (es.eraseIdxIfInBounds k).toList = es.toList.eraseIdx k := by
      unfold Array.eraseIdxIfInBounds
      rw [dif_pos hke, Array.toList_eraseIdx]
    refine ⟨setB w b (.map (es.eraseIdxIfInBounds k) clock), by simp only [Option.bind_some, Option.map_some, Sem.run_bind]; rw [hs]; rfl, ⟨_, _, setB_at hlt, ?_, ?_, ?_⟩, setB_grown _⟩
    · simp only [Holds] at hh ⊢
      rw [he, map_erase, map_erase, hh]
    · rw [he, map_erase]
      exact hp.sublist (List.eraseIdx_sublist _ _)
    · intro e h'
      rw [he] at h'
      exact hc e (List.mem_of_mem_eraseIdx h')
set_option maxRecDepth 100000 in
theorem drop_any (B : Nat) (rs : List Rt) (a l : Int) (w : World) (h : MapIs w B rs) :
    Calls Try.prog 61 #[tabV B, netV a l] w fun e w' => e = .returned (.tuple #[]) ∧ MapIs w' B (dropN rs a l) ∧ w.grownBy w' (some B) := by
  have hlt := h.lt
  obtain ⟨W, hW, q0, q1, hB, hS⟩ := rows2 w [.map (some B), .func (.func 82) #[] #[]] [.int .i64 a, .int .i64 l] 82 35
  have hg0 : w.grownBy W (some B) := by rw [hW]; exact grown_trans (World.grownBy_alloc w _ _) (World.grownBy_alloc _ _ _)
  obtain ⟨w2, hrun, hm2, hg2⟩ := map_drop (h.below hB hlt) a l 0
  have HH : Hid (MapIs w2 B (dropN rs a l) ∧ w.grownBy w2 (some B)) := ⟨hm2, grown_trans hg0 hg2⟩
  clear hm2 hg2 h hB hg0
  unfold tabV netV
  unfold netV at hrun
  rw [hW] at hrun
  have c0 : W.cell? ⟨w.heap.size, 0, none⟩ = some (.map (some B)) := q0.cell 0
  have c1 : W.cell? ⟨w.heap.size, 1, none⟩ = some (.func (.func 82) #[] #[]) := q0.cell 1
  have d0 : W.cell? ⟨w.heap.size + 1, 0, none⟩ = some (.int .i64 a) := q1.cell 0
  have d1 : W.cell? ⟨w.heap.size + 1, 1, none⟩ = some (.int .i64 l) := q1.cell 1
  have HW : Hid _ := hW
  clear hW q0 q1
  go_enter Try.func61, Try.ntmps61
  go_wp2
  refine bodyPost_end (v := .tuple #[]) (by simp [results, Try.results61, go_sem]) rfl ⟨rfl, HH.out.1, HH.out.2⟩
end Go.Proofs.Ytaledidomgelcaa
/- A range over a function whose rounds may change what that function reads. -/
namespace Go.Proofs.Ytaledidomgelcaa
open Go.RowKit

theorem wpIn_turns {α : Type} {n : Nat} {P : Program} {g : Operand} {ps : Array Tmp} {assign body : Code} {Q : Exit → Act → World → Prop} {a : Act} {w : World}
    (h1 : 1 ≤ n) {gf : Nat} {lb : Array Value} (hg : a.eval g = .func (.func gf) #[] lb) (eg : ∀ args w, (callFunc gf args).run P w = .ok (.enter gf args) w)
    (enc : α → Value) (xs : List α) (hps : ps.size = 1) (Kp : World → World → Prop) (hKt : ∀ {A B C : World}, Kp A B → Kp B C → Kp A C)
    (hKb : ∀ (W : World) (o o' : Obj), W.heap[w.heap.size + 1]? = some o → o.isCells = false → Kp W (W.putObj (w.heap.size + 1) o'))
    (I : List α → World → Prop) (hIg : ∀ s X Y, I s X → X.grownBy Y none → I s Y) (hIp : ∀ s X r o, I s X → X.heap[w.heap.size + 1]? = some (.loop r) → I s (X.putObj (w.heap.size + 1) o))
    (hseq : ∀ (l : Nat) (J : List α → World → Prop) (W : World), Below w.heap.size w W → (∀ s X Y, J s X → X.grownBy Y none → J s Y) → (∀ s X, J s X → I s X) →
      (∀ k (hk : k < xs.length) X, J (xs.take k) X → YieldAt Fence.wide (n - 1 - 1) P l #[enc xs[k]] X fun e Y => e = .returned (.bool true) ∧ J (xs.take (k + 1)) Y ∧ Kp X Y) → J [] W →
      CallsIn Fence.wide (n - 1) P gf (#[.func (.yield l) #[] #[]] ++ lb) W fun e Y => (∃ v, e = .returned v) ∧ J xs Y)
    (h0 : I [] w) (A : Nat → Act → World → Prop) (hAp : ∀ k a' X r o, A k a' X → X.heap[w.heap.size + 1]? = some (.loop r) → A k a' (X.putObj (w.heap.size + 1) o))
    (hassign : ∀ (l k : Nat) (hk : k < xs.length) (X : World) (K : Act → World → Prop), I (xs.take k) X → (∀ a' X', KeepsFrom w.heap.size X X' → Kp X X' → A k a' X' → K a' X') →
      assign.wpIn (Fence.wide.inRound l) (n - 1 - 1) P (Exit.then K (fun _ _ _ => False)) { tmps := (ps.zip #[enc xs[k]]).foldl (fun t (p, v) => t.setIfInBounds p v) a.tmps, defers := [] } X)
    (hbody : ∀ (l k : Nat) (_ : k < xs.length) (a' : Act) (X : World), A k a' X → body.wpIn (Fence.wide.inRound l) (n - 1 - 1) P (fun e _ X' => e = .normal ∧ KeepsFrom w.heap.size X X' ∧ Kp X X' ∧ I (xs.take (k + 1)) X') a' X)
    (hdone : ∀ W, I xs W → W.heap[w.heap.size]? = some (.deferred (some [])) → Q .normal { a with defers := { target := .collected w.heap.size, args := #[] } :: a.defers } W) :
    (Code.rangeFunc g ps assign body).wpIn Fence.wide n P Q a w := by
  refine wpIn_rangeFunc ?_
  intro fn hfn
  rw [show Fence.wide.round = none from rfl]
  obtain ⟨rd, hrd⟩ : ∃ rd : LoopState → Loop, rd = fun st => { state := st, pending := none, fn, tmps := a.tmps, params := ps, assign, body, defers := w.heap.size } := ⟨_, rfl⟩
  obtain ⟨V, hV⟩ : ∃ V, (w.alloc (.deferred (some []))).alloc (.loop (rd .ready)) = V := ⟨_, rfl⟩
  have hs : V.heap.size = w.heap.size + 1 + 1 := by rw [← hV]; simp
  have hbV : Below w.heap.size w V := by rw [← hV]; exact ((Below.refl _ w).alloc (Nat.le_refl _) _).alloc (by simp) _
  have hgV : w.grownBy V none := ⟨hbV.os, hbV.tape, hbV.output, hbV.size, fun k hk _ => hbV.block k hk⟩
  have hL : V.heap[w.heap.size + 1]? = some (.loop (rd .ready)) := by
    rw [← hV]; have := World.alloc_heap_new (w.alloc (.deferred (some []))) (.loop (rd .ready)); rwa [World.size_alloc] at this
  have hD : V.heap[w.heap.size]? = some (.deferred (some [])) := by
    rw [← hV]; exact (Below.heap_alloc _ _ _ (by simp)).trans (World.alloc_heap_new w _)
  refine ⟨w.heap.size + 1, [{ target := .collected w.heap.size, args := #[] }], V, { target := .fn (.func gf) lb, args := #[.func (.yield (w.heap.size + 1)) #[] #[]] }, V, gf,
    #[.func (.yield (w.heap.size + 1)) #[] #[]] ++ lb, V, by rw [← hV, hrd]; exact run_enterLoop_outer _ _ _ _ _, ?_, fun _ _ => trivial, ?_, fun _ => h1, ?_⟩
  · simp only [resolve, hg]
    simp [go_sem]
  · simp [invoke, go_sem, eg]
  refine (hseq (w.heap.size + 1) (fun s X => I s X ∧ X.heap[w.heap.size + 1]? = some (.loop (rd .ready)) ∧ X.heap[w.heap.size]? = some (.deferred (some []))) V hbV
    (fun s X Y h hXY => ⟨hIg s X Y h.1 hXY, (hXY.block _ (Array.getElem?_eq_some_iff.1 h.2.1).1 (by simp)).trans h.2.1, (hXY.block _ (Array.getElem?_eq_some_iff.1 h.2.2).1 (by simp)).trans h.2.2⟩)
    (fun s X h => h.1) ?_ ⟨hIg _ _ _ h0 hgV, hL, hD⟩).mono ?_
  · rintro k hk X ⟨hi, hl, hd⟩
    have hy := run_yield (P := P) (args := #[enc xs[k]]) hl (by rw [hrd]; exact hps.symm)
    rw [hrd] at hy
    refine ⟨fn, _, assign, body, hy, roundIn_of_wpIn hfn (hassign _ k hk X _ hi ?_)⟩
    intro a' X1 hk1 hp1 hA
    have l1 := hk1.same _ _ (by omega) hl rfl
    have d1 := hk1.same _ _ (Nat.le_refl _) hd rfl
    have lt1 : w.heap.size + 1 < X1.heap.size := (Array.getElem?_eq_some_iff.1 l1).1
    refine ⟨_, run_beginRound l1 (by rw [hrd]), ?_⟩
    have l2 : (X1.putObj (w.heap.size + 1) (.loop { rd .ready with state := .busy })).heap[w.heap.size + 1]? = some (.loop { rd .ready with state := .busy }) := World.putObj_heap_same lt1
    have d2 : (X1.putObj (w.heap.size + 1) (.loop { rd .ready with state := .busy })).heap[w.heap.size]? = some (.deferred (some [])) := (World.putObj_heap_other (by omega)).trans d1
    have p2 := hKb X1 _ (.loop { rd .ready with state := .busy }) l1 rfl
    refine wpIn_mono (hbody _ k hk a' _ (hAp k a' X1 _ _ hA l1)) ?_
    rintro e a3 X3 ⟨rfl, hk3, hp3, hi3⟩
    have l3 := hk3.same _ _ (by omega) l2 rfl
    have d3 := hk3.same _ _ (Nat.le_refl _) d2 rfl
    have hr := run_endRound (P := P) none l3
    have p4 := hKb X3 _ (.loop (rd .ready)) l3 rfl
    rw [hrd] at hr
    refine ⟨_, _, hr, rfl, ⟨hIp _ _ _ _ hi3 l3, ?_, (World.putObj_heap_other (by omega)).trans d3⟩, ?_⟩
    · rw [hrd]; exact World.putObj_heap_same (Array.getElem?_eq_some_iff.1 l3).1
    · rw [hrd] at p4 p2 hp3
      exact hKt hp1 (hKt p2 (hKt hp3 p4))
  · rintro e Y ⟨⟨v, rfl⟩, hi, hl, hd⟩
    have hr := run_endLoop (P := P) hl (by rw [hrd]; simp)
    rw [hrd] at hr
    exact ⟨none, _, hr, hdone _ (hIp _ _ _ _ hi hl) ((World.putObj_heap_other (by omega)).trans hd)⟩
end Go.Proofs.Ytaledidomgelcaa
/- An answer of RibOut. -/
namespace Go.Proofs.Ytaledidomgelcaa
open Go.RowKit Go.Sort

/-- An answer of RibOut: its code, its routes in memory of its own. -/
def OutR (base : Nat) (c : Int) (qs : List Rt) (e : Ending) (w : World) : Prop := ∃ p cap, e = .returned (.agg #[.slice p qs.length cap, .int .i64 c]) ∧ w.ownsRow base 46 9 (.slice p qs.length cap) qs.length (rowR qs)
end Go.Proofs.Ytaledidomgelcaa
/- RibQuiet of the program. (Written by gen_turn.py.) -/
namespace Go.Proofs.Ytaledidomgelcaa
open Go.RowKit Go.Sort Go.Shelf
attribute [local go_sem] Oper.semAt_some

theorem keepsFrom_grown {w X Y : World} {B : Nat} (h : X.grownBy Y (some B)) (hB : B < w.heap.size) : KeepsFrom w.heap.size X Y := ⟨h.size, fun k _ hk ho _ => (h.block k (Array.getElem?_eq_some_iff.1 ho).1 (by intro e; cases e; omega)).trans ho⟩
theorem grown_row {X Y : World} {B g : Nat} {t : TypeId} {l : List Value} (h : X.grownBy Y (some B)) (hr : Row X g t l) (hne : g ≠ B) : Row Y g t l := (h.block g hr.lt (by intro e; cases e; exact hne rfl)).trans hr
theorem map_row_ne {X : World} {B g : Nat} {t : TypeId} {l : List Value} {rs : List Rt} (h : MapIs X B rs) (hr : Row X g t l) : g ≠ B := by
  rintro rfl
  obtain ⟨es, c, hb, _⟩ := h
  unfold Row at hr
  rw [hr] at hb
  cases hb
theorem keepsFrom_trans {n : Nat} {X Y Z : World} (h : KeepsFrom n X Y) (k : KeepsFrom n Y Z) : KeepsFrom n X Z := ⟨Nat.le_trans h.size k.size, fun i _ hi ho hc => k.same i _ hi (h.same i _ hi ho hc) hc⟩
theorem kpm_set {W : World} {g : Nat} {l : List Value} (j : Nat) (v : Value) (hr : Row W g 46 l) : KpM W (W.setCell ⟨g, j, none⟩ v) := KpM.mk (by simp) (fun i cur t hi ht => Below.heap_setCell W ⟨g, j, none⟩ v i (fun e => by
  subst e
  rw [show W.heap[i]? = _ from hr] at hi
  simp only [Option.some.injEq, Obj.cells.injEq] at hi
  obtain ⟨_, ht', _⟩ := hi
  rcases ht with rfl | rfl <;> cases ht'))
theorem keepsFrom_below {n : Nat} {X Y : World} (h : Below X.heap.size X Y) : KeepsFrom n X Y := ⟨h.size, fun k _ _ ho _ => (h.block k (Array.getElem?_eq_some_iff.1 ho).1).trans ho⟩
theorem hdr_len2 {rs : List Rt} {k : Nat} (hk : k < rs.length) : (rs.take (k + 1)).length = k + 1 := by rw [List.length_take]; omega
theorem hdr_len {rs : List Rt} {k : Nat} (hk : k < rs.length) : (rs.take k).length = k := by rw [List.length_take]; omega
set_option maxRecDepth 100000 in
set_option maxHeartbeats 4000000 in
theorem implQuiet_right (p : Option Addr) (cap : Nat) (rs : List Rt) (w : World) (h : RtsIn w p rs) (hr : ribB rs = true) (hr2 : ribB (rs.filterMap hushF) = true) :
    Calls Try.prog 25 #[ribV p rs.length cap] w fun e w' => ∃ q c, e = .returned (ribV q (rs.filterMap hushF).length c) ∧ w'.ownsRow w.heap.size 46 9 (.slice q (rs.filterMap hushF).length c) (rs.filterMap hushF).length (rowR (rs.filterMap hushF)) ∧ Below w.heap.size w w' := by
  have h8 := (ribB_spec hr).1
  have HB : Hid (∀ w, RtsIn w p rs → Calls Try.prog 42 #[.agg #[.slice p rs.length cap]] w fun e w' => e = .returned (.bool true) ∧ Below w.heap.size w w') := fun w h => by have := implRib_any p cap rs w h (by omega); rw [hr] at this; exact this
  have HL : Hid (∀ w, RtsIn w p rs → Calls Try.prog 46 #[.agg #[.slice p rs.length cap]] w fun e w' => ∃ B, e = .returned (.agg #[.map (some B), .func (.func 82) #[] #[]]) ∧ w.heap.size ≤ B ∧ MapIs w' B rs ∧ Below w.heap.size w w') := fun w h => (laidOut_any p cap rs w h (by omega)).mono fun e w' h => by
    obtain ⟨B, e1, hB, hm, hb⟩ := h
    rw [laidN_right hr] at hm
    exact ⟨B, e1, hB, hm, hb⟩
  have HA : Hid (∀ B w, Calls Try.prog 59 #[.agg #[.map (some B), .func (.func 82) #[] #[]]] w fun e w' => e = .returned (.func (.func 91) #[] #[.pointer (some ⟨w.heap.size, 0, none⟩)]) ∧ w.alloc (.cells #[.map (some B), .func (.func 82) #[] #[]] 82) = w') := fun B w => all_make B w
  have HP : Hid (∀ B ms r w, MapIs w B ms → Calls Try.prog 62 #[tabV B, netV r.a r.l, rtV r] w fun e w' => e = .returned (.tuple #[]) ∧ MapIs w' B (putN ms r) ∧ w.grownBy w' (some B)) := put_any
  have HO : Hid (∀ B w, MapIs w B (rs.filterMap hushF) → Calls Try.prog 56 #[.agg #[.map (some B), .func (.func 82) #[] #[]]] w fun e w' => ∃ p cap, e = .returned (.agg #[.slice p (rs.filterMap hushF).length cap]) ∧ w'.ownsRow w.heap.size 46 9 (.slice p (rs.filterMap hushF).length cap) (rs.filterMap hushF).length (rowR (rs.filterMap hushF)) ∧ Below w.heap.size w w') := fun B w h => ribOf_any B _ _ (List.Perm.refl _) hr2 w h
  have hris := rib_rising hr
  have HX : Hid (RtsIn w p rs) := h
  clear h
  obtain ⟨W, hW, q0, q1, hB, hS⟩ := rows2 w [.slice p rs.length cap] [.slice none 0 0] 30 30
  have HW : Hid _ := hW
  have c0 : W.cell? ⟨w.heap.size, 0, none⟩ = some (.slice p rs.length cap) := q0.cell 0
  have HQ : Hid _ := And.intro q0 (And.intro q1 (And.intro hB hS))
  clear hW q0 q1 hB hS
  unfold ribV
  refine (callsIn_wide (n := 9)).1 ?_
  refine callsIn_of_wp_marks Try.func25 rfl trivial ?_ rfl
  simp only [Try.ntmps25, List.size_toArray, List.length_cons, List.length_nil, Nat.reduceAdd, Nat.reduceSub, Array.replicate_succ, Array.replicate_zero, List.push_toArray, List.append_toArray, List.nil_append, List.cons_append]
  gi_wp2_with fail
  refine ⟨trivial, ?_⟩
  rw [← HW.out]
  obtain ⟨q0, q1, hB, hS⟩ := HQ.out
  refine (callsIn_wide.2 (HB.out _ ((HX.out).below hB))).mono ?_
  rintro e w1 ⟨rfl, hb1⟩
  clear HB HW HQ c0
  have c1 : w1.cell? ⟨w.heap.size, 0, none⟩ = some (.slice p rs.length cap) := (q0.below hb1 q0.lt).cell 0
  have hX1 := ((HX.out).below hB).below hb1
  have HK1 : Hid _ := And.intro (q1.below hb1 q1.lt) (And.intro (hB.trans (hb1.mono (by omega))) (trivial))
  have hs1 : w.heap.size + 1 + 1 ≤ w1.heap.size := by have := hb1.size; omega
  clear q0 q1 hB hS hb1 HX
  gi_wp2_with fail
  refine ⟨trivial, ?_⟩
  refine (callsIn_wide.2 (HL.out _ hX1)).mono ?_
  rintro e w2 ⟨B, rfl, hBB, hM, hb2⟩
  clear HL hX1 c1
  gi_wp2_with fail
  refine ⟨trivial, ?_⟩
  refine (callsIn_wide.2 (HA.out B _)).mono ?_
  rintro e w3 ⟨rfl, hw3⟩
  obtain ⟨rr, hB, rn⟩ := HK1.out
  have hs2 := hb2.size
  have hBl := hM.lt
  obtain ⟨V, hV, rt, rt', hbV, hsV⟩ := rows2 w2 [.map (some B), .func (.func 82) #[] #[]] [.map (some B), .func (.func 82) #[] #[]] 82 82
  simp only [World.size_alloc] at hw3 ⊢
  rw [show w3 = V from hw3.symm.trans hV.symm]
  have rr := (rr.below hb2 rr.lt).below hbV (rr.below hb2 rr.lt).lt
  have hB := (hB.trans (hb2.mono (by omega))).trans (hbV.mono (by omega))
  have hM := hM.below hbV hM.lt
  generalize hb2n : w2.heap.size = b2 at *
  clear hw3 hb2 hV HK1 HA
  gi_wp2_with fail
  refine wpIn_turns (by omega) (gf := 91) (lb := #[.pointer (some ⟨b2 + 1, 0, none⟩)]) rfl (enters_of Try.func91 (by kernel_rfl) rfl) rtV rs rfl KpM KpM.t (fun W o o' h hc => KpM.b o' h hc)
    (fun pre X => MapIs X B (halfR hushF rs pre.length) ∧ Row X b2 82 [.map (some B), .func (.func 82) #[] #[]] ∧ Row X (w.heap.size + 1) 30 [.slice none 0 0] ∧ Below w.heap.size w X)
    ?ig ?ip ?seq ?start
    (fun k a' X => ∃ (hk : k < rs.length) (y : Rt) (Bx : Nat), y = rs[k] ∧ (b2 < Bx ∧ w.heap.size + 1 < Bx) ∧ Row X Bx 46 (rtL y) ∧ (MapIs X B (halfR hushF rs k) ∧ Row X b2 82 [.map (some B), .func (.func 82) #[] #[]] ∧ Row X (w.heap.size + 1) 30 [.slice none 0 0] ∧ Below w.heap.size w X) ∧ a' = { tmps := #[.agg #[.slice p rs.length cap], .pointer (some ⟨w.heap.size, 0, none⟩), .pointer (some ⟨w.heap.size + 1, 0, none⟩), .pointer (some ⟨b2, 0, none⟩), .pointer (some ⟨Bx, 0, none⟩), .agg #[.slice p rs.length cap], .bool true, .bool false, undef, .agg #[.slice p rs.length cap], .agg #[.map (some B), .func (.func 82) #[] #[]], .agg #[.map (some B), .func (.func 82) #[] #[]], .func (.func 91) #[] #[.pointer (some ⟨b2 + 1, 0, none⟩)], rtV y, undef, undef, undef, undef, undef, undef, undef, undef], defers := [] })
    ?ap ?assign ?body ?done
  case ig =>
    rintro s X Y ⟨hm, rt, rr, hb⟩ hg
    exact ⟨hm.kept (hg.block B hm.lt (by simp)), (hg.block _ rt.lt (by simp)).trans rt, (hg.block _ rr.lt (by simp)).trans rr, hb.grown hg hb.size (fun k e => by cases e)⟩
  case ip =>
    rintro s X r o ⟨hm, rt, rr, hb⟩ hl
    exact ⟨hm.kept (World.putObj_heap_other (by omega)), (World.putObj_heap_other (by omega)).trans rt, (World.putObj_heap_other (by omega)).trans rr, hb.trans (belowK_b (w := w) (Nat.le_refl _) X _ _ o (by omega) hl rfl rfl)⟩
  case seq =>
    intro l J W hbW hJ hJI hY h0
    exact all1_mut (9 - 1) (by omega) l (b2 + 1) B rs rs (List.Perm.refl _) hr J hJ (fun k hk X hj => by
      have := (hJI _ _ hj).1
      rw [hdr_len hk] at this
      exact ⟨_, this, halfR_look hushF_net hris hk⟩) hY W (rt'.below hbW rt'.lt) (hM.below hbW hM.lt) h0
  case start =>
    exact ⟨by simpa [halfR_0] using hM, rt, rr, hB⟩
  case ap =>
    rintro k a' X r o ⟨hk, y, Bx, hy, hBx, hRx, ⟨hm, rt, rr, hb⟩, rfl⟩ hl
    refine ⟨hk, y, Bx, hy, hBx, (World.putObj_heap_other (fun e => ?_)).trans hRx, ⟨hm.kept (World.putObj_heap_other (by omega)), (World.putObj_heap_other (by omega)).trans rt, (World.putObj_heap_other (by omega)).trans rr, hb.trans (belowK_b (w := w) (Nat.le_refl _) X _ _ o (by omega) hl rfl rfl)⟩, rfl⟩
    subst e
    rw [show X.heap[V.heap.size + 1]? = _ from hRx] at hl
    cases hl
  case assign =>
    rintro l k hk X K ⟨hm, rt, rr, hb⟩ hK
    rw [hdr_len hk] at hm
    obtain ⟨y, hy⟩ : ∃ y, y = rs[k] := ⟨_, rfl⟩
    rw [← hy]
    have hy' : Hid _ := hy
    clear hy
    obtain ⟨A, L, M, O, I, T, U, E, C⟩ := y
    unfold rtV rtA at hK ⊢
    simp only at hK ⊢
    have HE : Hid _ := And.intro hm (And.intro rt (And.intro rr (And.intro hb hBl)))
    clear hm rt rr hb
    gi_wp2
    obtain ⟨hm, rt, rr, hb, hBl⟩ := HE.out
    exact hK _ _ ((KeepsOthers.alloc _ _).from _) (KpM.below (ent_new0 _ _)) ⟨hk, ⟨A, L, M, O, I, T, U, E, C⟩, X.heap.size, hy'.out, ⟨rt.lt, rr.lt⟩, Row.new X 46 [.int .i64 A, .int .i64 L, .int .i64 M, .int .i64 O, .int .i64 I, .int .i64 T, .int .i64 U, .int .i64 E, .bool C], ⟨hm.below (ent_new0 X _) hm.lt, rt.alloc _, rr.alloc _, hb.alloc hb.size _⟩, rfl⟩
  case body =>
    rintro l k hk' a' X ⟨hk, y, Bx, hy, ⟨hBx, hBr⟩, hRx, ⟨hm, rt, rr, hb⟩, rfl⟩
    rw [hdr_len2 hk]
    have hne := map_row_ne hm hRx
    have hyy : Hid _ := hy
    clear hy
    obtain ⟨A, L, M, O, I, T, U, E, C⟩ := y
    unfold rtV rtA
    simp only [rtL] at hRx ⊢
    have x0 : X.cell? ⟨Bx, 0, none⟩ = some (.int .i64 A) := hRx.cell 0
    have x1 : X.cell? ⟨Bx, 1, none⟩ = some (.int .i64 L) := hRx.cell 1
    have x2 : X.cell? ⟨Bx, 2, none⟩ = some (.int .i64 M) := hRx.cell 2
    have x3 : X.cell? ⟨Bx, 3, none⟩ = some (.int .i64 O) := hRx.cell 3
    have x4 : X.cell? ⟨Bx, 4, none⟩ = some (.int .i64 I) := hRx.cell 4
    have x5 : X.cell? ⟨Bx, 5, none⟩ = some (.int .i64 T) := hRx.cell 5
    have x6 : X.cell? ⟨Bx, 6, none⟩ = some (.int .i64 U) := hRx.cell 6
    have x7 : X.cell? ⟨Bx, 7, none⟩ = some (.int .i64 E) := hRx.cell 7
    have x8 : X.cell? ⟨Bx, 8, none⟩ = some (.bool C) := hRx.cell 8
    have t0 : X.cell? ⟨b2, 0, none⟩ = some (.map (some B)) := rt.cell 0
    have t1 : X.cell? ⟨b2, 1, none⟩ = some (.func (.func 82) #[] #[]) := rt.cell 1
    have f8 : X.frozen? ⟨Bx, 8, none⟩ = false := hRx.frozen 8
    have hF : hushF rs[k] = some ⟨A, L, M, O, I, T, U, E, false⟩ := by rw [← hyy.out]; rfl
    have nb : ¬ Bx = b2 := by omega
    have nb' : ¬ b2 = Bx := by omega
    have nr : ¬ w.heap.size + 1 = Bx := by omega
    have HPk : Hid (∀ w, MapIs w B (halfR hushF rs k) → Calls Try.prog 62 #[.agg #[.map (some B), .func (.func 82) #[] #[]], .agg #[.int .i64 A, .int .i64 L], .agg #[.int .i64 A, .int .i64 L, .int .i64 M, .int .i64 O, .int .i64 I, .int .i64 T, .int .i64 U, .int .i64 E, .bool false]] w fun e w' => e = .returned (.tuple #[]) ∧ MapIs w' B (halfR hushF rs (k + 1)) ∧ w.grownBy w' (some B)) := fun w h => by
      have := HP.out B _ ⟨A, L, M, O, I, T, U, E, false⟩ w h
      rw [halfR_put hushF_net hris hk hF] at this
      exact this
    have HE : Hid _ := And.intro (hm.kept (Below.heap_setCell X ⟨Bx, 8, none⟩ (.bool false) B (fun e => hne e.symm))) (And.intro (rt.other 8 (.bool false) nb') (And.intro (rr.other 8 (.bool false) nr) (And.intro (hb.setCell (p := ⟨Bx, 8, none⟩) (by show w.heap.size ≤ Bx; omega) (.bool false)) (And.intro (kpm_set 8 (.bool false) hRx) ((KeepsOthers.setCell X ⟨Bx, 8, none⟩ (.bool false)).from V.heap.size)))))
    clear hm rt rr hb hRx hF
    gi_wp2_with fail
    obtain ⟨hm, rt, rr, hb, hkp, hkf⟩ := HE.out
    clear HE f8 t0 t1 nb nb' x0 x1 x2 x3 x4 x5 x6 x7 x8
    generalize X.setCell ⟨Bx, 8, none⟩ (.bool false) = X1 at *
    refine ⟨trivial, (CallsIn.inRound l (callsIn_wide.2 (HPk.out _ hm))).mono ?_⟩
    rintro e X2 ⟨rfl, hm2, hg2⟩
    have hmm : ∃ es c, X1.heap[B]? = some (.map es c) := by obtain ⟨es, c, h, _⟩ := hm; exact ⟨es, c, h⟩
    have HZ : Hid _ := And.intro (keepsFrom_trans hkf (keepsFrom_grown hg2 (by omega : B < V.heap.size))) (And.intro (hkp.t (KpM.grown hg2 hmm)) (And.intro hm2 (And.intro (grown_row hg2 rt (by omega)) (And.intro (grown_row hg2 rr (by omega)) (hb.grown hg2 hb.size (fun k e => by cases e; omega))))))
    clear hm hm2 hg2 hmm hkp hkf rt rr hb
    gi_wp2_with fail
    have hz := HZ.out
    rw [hsV] at hz
    exact hz
  case done =>
    rintro X ⟨hm, rt, rr, hb⟩ hK
    rw [halfR_end] at hm
    have t0 : X.cell? ⟨b2, 0, none⟩ = some (.map (some B)) := rt.cell 0
    have t1 : X.cell? ⟨b2, 1, none⟩ = some (.func (.func 82) #[] #[]) := rt.cell 1
    have HE : Hid _ := And.intro hm (And.intro rr (And.intro hb (And.intro hK hB.size)))
    clear hm rt rr hb hK rt' hM hB HP
    gi_wp2_with fail
    refine ⟨trivial, ?_⟩
    obtain ⟨hm, rr, hb, hK, hBs⟩ := HE.out
    refine (callsIn_wide.2 (HO.out B _ hm)).mono ?_
    rintro e X1 ⟨q, c, rfl, ho, hb1⟩
    have hsX := rr.lt
    have rr := rr.below hb1 rr.lt
    have hK : X1.heap[V.heap.size]? = _ := (hb1.block _ (Array.getElem?_eq_some_iff.1 hK).1).trans hK
    have hb := hb.trans (hb1.mono hb.size)
    clear t0 t1 HE HO hm
    have f0 : X1.frozen? ⟨w.heap.size + 1, 0, none⟩ = false := rr.frozen 0
    have z0 : X1.cell? ⟨w.heap.size + 1, 0, none⟩ = some (.slice none 0 0) := rr.cell 0
    have HF : Hid _ := And.intro (rr.set 0 (.slice q (rs.filterMap hushF).length c)) (And.intro (hb.setCell (p := ⟨w.heap.size + 1, 0, none⟩) (by show w.heap.size ≤ w.heap.size + 1; omega) (.slice q (rs.filterMap hushF).length c)) (And.intro (((Below.heap_setCell _ _ _ _ (by show V.heap.size ≠ w.heap.size + 1; omega)).trans hK) : (X1.setCell ⟨w.heap.size + 1, 0, none⟩ (.slice q (rs.filterMap hushF).length c)).heap[V.heap.size]? = some (.deferred (some []))) (ownR_set (base' := w.heap.size) ho ⟨w.heap.size + 1, 0, none⟩ (by show w.heap.size + 1 < _; omega) (.slice q (rs.filterMap hushF).length c) (by omega))))
    clear rr hb hK ho hb1
    gi_wp2_with fail
    have hF := HF.out
    clear HF f0 z0
    generalize X1.setCell ⟨w.heap.size + 1, 0, none⟩ (.slice q (rs.filterMap hushF).length c) = Z at *
    obtain ⟨h1, h2, h3, h7⟩ := hF
    rw [hsV] at h3
    refine ⟨by simp, .inl ⟨_, _, rfl, run_takeDeferred h3, ?_⟩⟩
    have h4 : Below w.heap.size Z (Z.putObj (b2 + 1 + 1) (.deferred none)) := belowK_b (w := w) (Nat.le_refl _) Z (b2 + 1 + 1) _ _ (by omega) h3 rfl rfl
    have h5 : Row (Z.putObj (b2 + 1 + 1) (.deferred none)) (w.heap.size + 1) 30 [.slice q (rs.filterMap hushF).length c] := (World.putObj_heap_other (by omega)).trans h1
    have h6 := h2.trans h4
    have h8 : (Z.putObj (b2 + 1 + 1) (.deferred none)).ownsRow w.heap.size 46 9 (.slice q (rs.filterMap hushF).length c) (rs.filterMap hushF).length (rowR (rs.filterMap hushF)) := World.ownsRow.kept h7 (row := some (b2 + 1 + 1)) (grownBy_putObj' Z (b2 + 1 + 1) (.deferred none)) (by
      rcases h7.2 with ⟨e, _⟩ | ⟨g, _, _, e, _, hg, _⟩
      · left; rw [e]; rfl
      · right
        rw [e]
        intro e'
        have e'' : g = (b2 + 1 + 1) := by simpa [Value.ownBlock] using e'
        rw [e'', h3] at hg
        cases hg)
    clear h1 h2 h3 h4 h7
    generalize Z.putObj (b2 + 1 + 1) (.deferred none) = Y at *
    have e0 : Y.cell? ⟨w.heap.size + 1, 0, none⟩ = some (.slice q (rs.filterMap hushF).length c) := h5.cell 0
    refine ⟨.agg #[.slice q (rs.filterMap hushF).length c], by simp [results, Try.results25, go_sem, e0], ?_⟩
    exact ⟨q, c, rfl, h8, h6⟩
end Go.Proofs.Ytaledidomgelcaa
/- RibQuiet of the model and of the program, at every argument. (Written by gen_quiett.py.) -/
namespace Go.Proofs.Ytaledidomgelcaa
open Go.RowKit Go.Sort

/-- What RibQuiet answers. -/
def quietO (rs : List Rt) : List Rt := if ribB rs = true then rs.filterMap hushF else []
theorem quietO_len (rs : List Rt) : (quietO rs).length ≤ 8 := by
  unfold quietO
  split
  · rename_i h
    exact Nat.le_trans (List.length_filterMap_le _ _) (ribB_spec h).1
  · simp
theorem quiet_ribs {rs : List Rt} (h : ribB rs = true) : ribB (rs.filterMap hushF) = true := by
  refine turned_right hushF_net h fun r hr s hs => ?_
  have hrr := rib_routes h r hr
  unfold hushF at hs
  cases hs
  exact hrr
set_option maxRecDepth 100000 in
set_option maxHeartbeats 2000000 in
theorem specQuiet_any (p : Option Addr) (cap : Nat) (rs : List Rt) (w : World) (h : RtsIn w p rs) (hc : p = none → cap = 0) (hcl : rs.length ≤ cap) (hn : rs.length ≤ 100000000) :
    Calls Try.prog 24 #[ribV p rs.length cap] w fun e w' => (∃ q c, e = .returned (ribV q (quietO rs).length c) ∧ w'.ownsRow w.heap.size 46 9 (.slice q (quietO rs).length c) (quietO rs).length (rowR (quietO rs))) ∧ Below w.heap.size w w' := by
  have HB : Hid (∀ w, RtsIn w p rs → Calls Try.prog 36 #[.agg #[.slice p rs.length cap]] w fun e w' => e = .returned (.bool (ribB rs)) ∧ Below w.heap.size w w') := fun w h => specRib_any p cap rs w h hn
  have HT : Hid (∀ w, RtsIn w p rs → Calls Try.prog 64 #[.agg #[.slice p rs.length cap]] w fun e w' => ∃ q c, e = .returned (.agg #[.slice q (rs.filterMap hushF).length c]) ∧ w'.ownsRow w.heap.size 46 9 (.slice q (rs.filterMap hushF).length c) (rs.filterMap hushF).length (rowR (rs.filterMap hushF)) ∧ Below w.heap.size w w') := fun w h => l06Quiet_any p cap rs w h hc hcl hn
  have HX : Hid (RtsIn w p rs) := h
  clear h hn hc hcl
  unfold quietO
  cases h1 : ribB rs
  · rw [h1] at HB
    simp only [Bool.false_eq_true, if_false]
    clear HT h1
    generalize rs.length = N at *
    obtain ⟨W, hW, q0, qr, hB, hS⟩ := rows2 w [.slice p N cap] [.slice none 0 0] 30 30
    have HW : Hid _ := hW
    have HQ : Hid _ := And.intro q0 (And.intro qr hB)
    have x0 : W.cell? ⟨w.heap.size, 0, none⟩ = some (.slice p N cap) := q0.cell 0
    clear q0 qr hB
    unfold ribV
    go_enter Try.func24, Try.ntmps24
    rw [hW] at x0
    clear hW
    go_wp2_with fail
    rw [← HW.out]
    obtain ⟨q0, qr, hB⟩ := HQ.out
    clear x0
    refine (HB.out _ ((HX.out).below hB)).mono ?_
    rintro e w1 ⟨rfl, hb1⟩
    have q0 := q0.below hb1 (by omega)
    have qr := qr.below hb1 (by omega)
    have hB := hB.trans (hb1.mono (by omega))
    have hs1 := hb1.size
    clear HB HW HQ hb1
    have f0 : w1.frozen? ⟨w.heap.size + 1, 0, none⟩ = false := qr.frozen 0
    have z0 : w1.cell? ⟨w.heap.size + 1, 0, none⟩ = some (.slice none 0 0) := qr.cell 0
    have HE2 : Hid _ := And.intro (qr.set 0 (.slice none 0 0)) (And.intro (hB.setCell (p := ⟨w.heap.size + 1, 0, none⟩) (by show w.heap.size ≤ w.heap.size + 1; omega) (.slice none 0 0)) trivial)
    clear qr hB q0
    go_wp2_with fail
    obtain ⟨h1, h2, h3⟩ := HE2.out
    clear HE2 f0 z0
    generalize w1.setCell ⟨w.heap.size + 1, 0, none⟩ (.slice none 0 0) = Z at *
    have e0 : Z.cell? ⟨w.heap.size + 1, 0, none⟩ = some (.slice none 0 0) := h1.cell 0
    exact bodyPost_ret (v := .agg #[.slice none 0 0]) (by simp [results, Try.results24, go_sem, e0]) rfl ⟨⟨_, _, rfl, World.ownsRow_nil _ _ _ 9⟩, h2⟩
  · rw [h1] at HB
    simp only [if_true]
    clear h1
    generalize rs.filterMap hushF = QS at *
    generalize rs.length = N at *
    obtain ⟨W, hW, q0, qr, hB, hS⟩ := rows2 w [.slice p N cap] [.slice none 0 0] 30 30
    have HW : Hid _ := hW
    have HQ : Hid _ := And.intro q0 (And.intro qr hB)
    have x0 : W.cell? ⟨w.heap.size, 0, none⟩ = some (.slice p N cap) := q0.cell 0
    clear q0 qr hB
    unfold ribV
    go_enter Try.func24, Try.ntmps24
    rw [hW] at x0
    clear hW
    go_wp2_with fail
    rw [← HW.out]
    obtain ⟨q0, qr, hB⟩ := HQ.out
    clear x0
    refine (HB.out _ ((HX.out).below hB)).mono ?_
    rintro e w1 ⟨rfl, hb1⟩
    have q0 := q0.below hb1 (by omega)
    have qr := qr.below hb1 (by omega)
    have hB := hB.trans (hb1.mono (by omega))
    have hs1 := hb1.size
    clear HB HW HQ hb1
    have x0 : w1.cell? ⟨w.heap.size, 0, none⟩ = some (.slice p N cap) := q0.cell 0
    go_wp2_with fail
    refine (HT.out _ ((HX.out).below hB)).mono ?_
    rintro e w2 ⟨q, c, rfl, ho, hb2⟩
    have qr := qr.below hb2 (by omega)
    have hB := hB.trans (hb2.mono (by omega))
    clear HT q0 x0
    have f0 : w2.frozen? ⟨w.heap.size + 1, 0, none⟩ = false := qr.frozen 0
    have z0 : w2.cell? ⟨w.heap.size + 1, 0, none⟩ = some (.slice none 0 0) := qr.cell 0
    have HE2 : Hid _ := And.intro (qr.set 0 (.slice q QS.length c)) (And.intro (hB.setCell (p := ⟨w.heap.size + 1, 0, none⟩) (by show w.heap.size ≤ w.heap.size + 1; omega) (.slice q QS.length c)) (ownR_set (base' := w.heap.size) ho ⟨w.heap.size + 1, 0, none⟩ (by show w.heap.size + 1 < _; omega) (.slice q QS.length c) (by omega)))
    clear qr hB ho hb2
    go_wp2_with fail
    obtain ⟨h1, h2, h3⟩ := HE2.out
    clear HE2 f0 z0
    generalize w2.setCell ⟨w.heap.size + 1, 0, none⟩ (.slice q QS.length c) = Z at *
    have e0 : Z.cell? ⟨w.heap.size + 1, 0, none⟩ = some (.slice q QS.length c) := h1.cell 0
    exact bodyPost_ret (v := .agg #[.slice q QS.length c]) (by simp [results, Try.results24, go_sem, e0]) rfl ⟨⟨_, _, rfl, h3⟩, h2⟩
set_option maxRecDepth 100000 in
set_option maxHeartbeats 2000000 in
theorem implQuiet_any (p : Option Addr) (cap : Nat) (rs : List Rt) (w : World) (h : RtsIn w p rs) (hn : rs.length ≤ 100000000) :
    Calls Try.prog 25 #[ribV p rs.length cap] w fun e w' => (∃ q c, e = .returned (ribV q (quietO rs).length c) ∧ w'.ownsRow w.heap.size 46 9 (.slice q (quietO rs).length c) (quietO rs).length (rowR (quietO rs))) ∧ Below w.heap.size w w' := by
  unfold quietO
  cases h1 : ribB rs
  · have HB : Hid (∀ w, RtsIn w p rs → Calls Try.prog 42 #[.agg #[.slice p rs.length cap]] w fun e w' => e = .returned (.bool false) ∧ Below w.heap.size w w') := fun w h => by have := implRib_any p cap rs w h hn; rw [h1] at this; exact this
    have HX : Hid (RtsIn w p rs) := h
    simp only [Bool.false_eq_true, if_false]
    clear h hn h1
    generalize rs.length = N at *
    obtain ⟨W, hW, q0, qr, hB, hS⟩ := rows2 w [.slice p N cap] [.slice none 0 0] 30 30
    have HW : Hid _ := hW
    have HQ : Hid _ := And.intro q0 (And.intro qr hB)
    have x0 : W.cell? ⟨w.heap.size, 0, none⟩ = some (.slice p N cap) := q0.cell 0
    clear q0 qr hB
    unfold ribV
    go_enter Try.func25, Try.ntmps25
    rw [hW] at x0
    clear hW
    go_wp2_with fail
    rw [← HW.out]
    obtain ⟨q0, qr, hB⟩ := HQ.out
    clear x0
    refine (HB.out _ ((HX.out).below hB)).mono ?_
    rintro e w1 ⟨rfl, hb1⟩
    have q0 := q0.below hb1 (by omega)
    have qr := qr.below hb1 (by omega)
    have hB := hB.trans (hb1.mono (by omega))
    have hs1 := hb1.size
    clear HB HW HQ hb1
    have f0 : w1.frozen? ⟨w.heap.size + 1, 0, none⟩ = false := qr.frozen 0
    have z0 : w1.cell? ⟨w.heap.size + 1, 0, none⟩ = some (.slice none 0 0) := qr.cell 0
    have HE2 : Hid _ := And.intro (qr.set 0 (.slice none 0 0)) (And.intro (hB.setCell (p := ⟨w.heap.size + 1, 0, none⟩) (by show w.heap.size ≤ w.heap.size + 1; omega) (.slice none 0 0)) trivial)
    clear qr hB q0
    go_wp2_with fail
    obtain ⟨h1, h2, h3⟩ := HE2.out
    clear HE2 f0 z0
    generalize w1.setCell ⟨w.heap.size + 1, 0, none⟩ (.slice none 0 0) = Z at *
    have e0 : Z.cell? ⟨w.heap.size + 1, 0, none⟩ = some (.slice none 0 0) := h1.cell 0
    exact bodyPost_ret (v := .agg #[.slice none 0 0]) (by simp [results, Try.results25, go_sem, e0]) rfl ⟨⟨_, _, rfl, World.ownsRow_nil _ _ _ 9⟩, h2⟩
  · simp only [if_true]
    refine (implQuiet_right p cap rs w h h1 (quiet_ribs h1)).mono ?_
    rintro e w' ⟨q, c, he, ho, hb⟩
    exact ⟨⟨q, c, he, ho⟩, hb⟩
end Go.Proofs.Ytaledidomgelcaa
/- The laws' own looks at a RibOut. (Written by gen_markr.py.) -/
namespace Go.Proofs.Ytaledidomgelcaa
open Go.RowKit Go.Sort

set_option maxRecDepth 100000 in
set_option maxHeartbeats 1000000 in
theorem markRibOut_any (K : Nat) (c : Int) (p : Option Addr) (n cv base : Nat) (es : List Rt) (w : World) (hn : n = es.length) (hK : K ≤ 100000000) (h8 : n ≤ 100000000) (h : w.ownsRow base 46 9 (.slice p n cv) n (rowR es)) (hbs : base ≤ w.heap.size) :
    Calls Try.prog 17 #[.agg #[.slice p n cv, .int .i64 c], .int .i64 K] w fun e w' => e = .returned (.int .i64 ((K : Int) + 9 * (n : Int))) ∧ w'.ownsRow base 46 9 (.slice p n cv) n (rowR (marksR K n)) ∧ Below base w w' ∧ ∀ b t l, p ≠ some ⟨b, 0, none⟩ → Row w b t l → Row w' b t l := by
  have HM : Hid (Calls Try.prog 16 #[.agg #[.slice p n cv], .int .i64 K] (w.alloc (.cells #[.slice p n cv, .int .i64 c] 32)) fun e w' => e = .returned (.int .i64 ((K : Int) + 9 * (n : Int))) ∧ w'.ownsRow base 46 9 (.slice p n cv) n (rowR (marksR K n)) ∧ Below base (w.alloc (.cells #[.slice p n cv, .int .i64 c] 32)) w' ∧ ∀ b t l, p ≠ some ⟨b, 0, none⟩ → Row (w.alloc (.cells #[.slice p n cv, .int .i64 c] 32)) b t l → Row w' b t l) := markRib_any K p n cv base es _ hn hK h8 (World.ownsRow.alloc h _) (by simp; omega)
  clear h hn hK h8
  go_enter Try.func17, Try.ntmps17
  go_wp2_with fail
  refine (HM.out).mono ?_
  rintro e w1 ⟨rfl, ho, hb, hot⟩
  have hB : Below base w w1 := ((Below.refl base w).alloc hbs _).trans hb
  have HOT : Hid (∀ b t l, p ≠ some ⟨b, 0, none⟩ → Row w b t l → Row w1 b t l) := fun b t l hp h => hot b t l hp (h.alloc _)
  clear hb hot
  go_wp2
  go_ret
  exact ⟨rfl, ho, hB, HOT.out⟩
set_option maxRecDepth 100000 in
set_option maxHeartbeats 1000000 in
theorem heldRibOut_any (K : Nat) (c : Int) (p : Option Addr) (n cv : Nat) (w : World) (hK : K ≤ 100000000) (h8 : n ≤ 100000000) (h : RtsIn w p (marksR K n)) :
    Calls Try.prog 18 #[.agg #[.slice p n cv, .int .i64 c], .int .i64 K] w fun e w' => e = .returned (.int .i64 ((K : Int) + 9 * (n : Int))) ∧ Below w.heap.size w w' := by
  have HM : Hid (Calls Try.prog 26 #[.agg #[.slice p n cv], .int .i64 K] (w.alloc (.cells #[.slice p n cv, .int .i64 c] 32)) fun e w' => e = .returned (.int .i64 ((K : Int) + 9 * (n : Int))) ∧ Below (w.alloc (.cells #[.slice p n cv, .int .i64 c] 32)).heap.size (w.alloc (.cells #[.slice p n cv, .int .i64 c] 32)) w') := heldRib_any K p n cv _ hK h8 (h.alloc _)
  have d : decide ((K : Int) + 9 * (n : Int) < 0) = false := by simp; omega
  clear h hK h8
  go_enter Try.func18, Try.ntmps18
  go_wp2_with fail
  refine (HM.out).mono ?_
  rintro e w1 ⟨rfl, hb⟩
  have hB : Below w.heap.size w w1 := (ent_new0 w _).trans (hb.mono (by simp))
  clear hb
  go_wp2
  go_ret
  exact ⟨rfl, hB⟩
set_option maxRecDepth 100000 in
set_option maxHeartbeats 1000000 in
theorem eqRibOut_any (c : Int) (p p' : Option Addr) (n cv cv' : Nat) (es : List Rt) (w : World) (hn : n = es.length) (h8 : n ≤ 100000000) (h : RtsIn w p es) (h' : RtsIn w p' es) :
    Calls Try.prog 14 #[.agg #[.slice p n cv, .int .i64 c], .agg #[.slice p' n cv', .int .i64 c]] w fun e w' => e = .returned (.bool true) ∧ Below w.heap.size w w' := by
  have HE : Hid (∀ w, RtsIn w p es → RtsIn w p' es → Calls Try.prog 15 #[.agg #[.slice p n cv], .agg #[.slice p' n cv']] w fun r w' => r = .returned (.bool true) ∧ Below w.heap.size w w') := fun w h1 h2 => by
    subst hn; exact eqRib_any p p' cv cv' es w h1 h2 h8
  have HX : Hid (RtsIn w p es ∧ RtsIn w p' es) := ⟨h, h'⟩
  have q0 := (Row.new w 32 [.slice p n cv, .int .i64 c]).alloc (.cells #[.slice p' n cv', .int .i64 c] 32)
  have q1 := Row.new (w.alloc (.cells #[.slice p n cv, .int .i64 c] 32)) 32 [.slice p' n cv', .int .i64 c]
  clear h h' hn h8
  go_enter Try.func14, Try.ntmps14
  go_wp2_with fail
  refine (HE.out _ ((HX.out.1.alloc _).alloc _) ((HX.out.2.alloc _).alloc _)).mono ?_
  rintro e w1 ⟨rfl, hb1⟩
  have p0 := q0.below hb1 q0.lt
  have p1 := q1.below hb1 q1.lt
  rw [show (w.alloc (.cells #[.slice p n cv, .int .i64 c] 32)).heap.size = w.heap.size + 1 by simp] at p1
  have hB : Below w.heap.size w w1 := ((ent_new0 w _).alloc (by simp) _).trans (hb1.mono (by simp; omega))
  have c1 : w1.cell? ⟨w.heap.size, 1, none⟩ = some (.int .i64 c) := p0.cell 1
  have d1 : w1.cell? ⟨w.heap.size + 1, 1, none⟩ = some (.int .i64 c) := p1.cell 1
  clear hb1 HE HX q0 q1 p0 p1
  go_wp2
  go_ret
  exact ⟨rfl, hB⟩
end Go.Proofs.Ytaledidomgelcaa
/- What the laws on tables have in common. -/
namespace Go.Proofs.Ytaledidomgelcaa
open Go.RowKit Go.Sort

theorem one_later {w1 w2 : World} {b : Nat} {x : Value} (h : w1.cell? ⟨b, 0, none⟩ = some x) (hb : Below w1.heap.size w1 w2) : w2.cell? ⟨b, 0, none⟩ = some x := by rw [hb.cell (World.block_lt_of_cell? w1 _ h)]; exact h
theorem stab_ribRow {N : Nat} {t : TypeId} (l : List Value) : ∀ (x : Value) (w1 w2 : World), (∃ g, x = .agg #[.slice (some ⟨g, 0, none⟩) N N] ∧ Row w1 g t l) → Below w1.heap.size w1 w2 → ∃ g, x = .agg #[.slice (some ⟨g, 0, none⟩) N N] ∧ Row w2 g t l := by
  rintro x w1 w2 ⟨g, e, h⟩ hb
  exact ⟨g, e, h.below hb h.lt⟩
end Go.Proofs.Ytaledidomgelcaa
/- What the laws on RibOuts have in common. -/
namespace Go.Proofs.Ytaledidomgelcaa
open Go.RowKit Go.Sort

theorem stab_out (B M : Nat) (cc : Int) (qs : List Rt) : ∀ (x : Value) (w1 w2 : World), (∃ q c, x = .agg #[.slice q M c, .int .i64 cc] ∧ w1.ownsRow B 46 9 (.slice q M c) M (rowR qs)) → Below w1.heap.size w1 w2 → ∃ q c, x = .agg #[.slice q M c, .int .i64 cc] ∧ w2.ownsRow B 46 9 (.slice q M c) M (rowR qs) := by
  rintro x w1 w2 ⟨q, c, e, h⟩ hb
  exact ⟨q, c, e, ownsR_below h hb⟩
theorem ownsR_lt' {w : World} {base n cv : Nat} {p : Option Addr} {xs : List Value} (h : w.ownsRow base 46 9 (.slice p n cv) n xs) : ∀ b, p = some ⟨b, 0, none⟩ → b < w.heap.size := fun b e => by
  subst e
  exact (World.ownsRow.lt h b rfl).2
theorem ownsR_base5 {w : World} {base n cv g : Nat} {p : Option Addr} {xs : List Value} (_h : w.ownsRow base 46 9 (.slice p n cv) n xs) (hl : ∀ b, p = some ⟨b, 0, none⟩ → b < g) : p ≠ some ⟨g, 0, none⟩ := fun e => by
  have := hl g e
  omega
theorem ownsR_lt0 {w : World} {base n cv cv' b n7 : Nat} {p q : Option Addr} {xs ys : List Value} (_h : w.ownsRow base 46 9 (.slice p n cv) n xs) (h' : w.ownsRow n7 46 9 (.slice q n cv') n ys) (hl : ∀ b, p = some ⟨b, 0, none⟩ → b < n7) (e : p = some ⟨b, 0, none⟩) (e' : q = some ⟨b, 0, none⟩) : False := by
  have h1 := hl b e
  exact ownsR_base h' h1 e'
theorem two_boxes (w : World) (x y : List Value) (t1 t2 : TypeId) {w1 : World} (h : Below ((w.alloc (.cells x.toArray t1)).alloc (.cells y.toArray t2)).heap.size ((w.alloc (.cells x.toArray t1)).alloc (.cells y.toArray t2)) w1) : Row w1 w.heap.size t1 x ∧ Row w1 (w.heap.size + 1) t2 y ∧ Below w.heap.size w w1 := by
  have q0 := (Row.new w t1 x).alloc (.cells y.toArray t2)
  have q1 := Row.new (w.alloc (.cells x.toArray t1)) t2 y
  rw [show (w.alloc (.cells x.toArray t1)).heap.size = w.heap.size + 1 by simp] at q1
  exact ⟨q0.below h q0.lt, q1.below h q1.lt, ((ent_new0 w _).alloc (by simp) _).trans (h.mono (by simp; omega))⟩
theorem one_box (w : World) (x : List Value) (t1 : TypeId) {w1 : World} (h : Below (w.alloc (.cells x.toArray t1)).heap.size (w.alloc (.cells x.toArray t1)) w1) : Row w1 w.heap.size t1 x ∧ Below w.heap.size w w1 := by
  have q0 := Row.new w t1 x
  exact ⟨q0.below h q0.lt, (ent_new0 w _).trans (h.mono (by simp))⟩
end Go.Proofs.Ytaledidomgelcaa
