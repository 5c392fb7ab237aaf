/- The table's iterator: routes in the order of their nets. (Written by gen_all.py.) -/
import Derived.Test.YtkkhjeigndcmaabSortedI
import Derived.Test.YtkkhjeigndcmaabSteady
namespace Go.Proofs.Ytkkhjeigndcmaab
open Go.RowKit Go.Sort Go.Shelf
attribute [local go_sem] Oper.semAt_some

set_option maxRecDepth 100000 in
theorem keys_make (b : Nat) (w : World) : Calls Try.prog 71 #[.map (some b)] w fun e w' => e = .returned (.func (.func 89) #[] #[.pointer (some ⟨w.heap.size, 0, none⟩)]) ∧ w.alloc (.cells #[.map (some b)] 60) = w' := by
  go_enter Try.func71, Try.ntmps71
  go_wp2
  go_ret
  exact ⟨rfl, rfl⟩
set_option maxRecDepth 100000 in
theorem all_make (B : Nat) (w : World) : Calls Try.prog 39 #[tabV B] w fun e w' => e = .returned (.func (.func 69) #[] #[.pointer (some ⟨w.heap.size, 0, none⟩)]) ∧ w.alloc (.cells #[.map (some B), .func (.func 67) #[] #[]] 63) = w' := by
  unfold tabV
  go_enter Try.func39, Try.ntmps39
  go_wp2
  go_ret
  exact ⟨rfl, rfl⟩
theorem HoldsN.form {w : World} {B : Nat} {v : Value} {xs : List NP} (h : HoldsN w B v xs) : ∃ p cap, v = .slice p xs.length cap := by
  rcases h with ⟨rfl, rfl⟩ | ⟨g, cap, rfl, _, _⟩
  · exact ⟨none, 0, rfl⟩
  · exact ⟨_, cap, rfl⟩
theorem HoldsN.below {w w' : World} {B : Nat} {v : Value} {xs : List NP} (h : HoldsN w B v xs) (hb : Below w.heap.size w w') : HoldsN w' B v xs := by
  rcases h with ⟨rfl, rfl⟩ | ⟨g, cap, rfl, hN, hg⟩
  · exact .inl ⟨rfl, rfl⟩
  · exact .inr ⟨g, cap, rfl, hN.below hb hN.lt, hg⟩
theorem stab_seq (b : Nat) : ∀ (x : Value) (w1 w2 : World), (∃ Bm, x = .func (.func 89) #[] #[.pointer (some ⟨Bm, 0, none⟩)] ∧ Row w1 Bm 60 [.map (some b)]) → Below w1.heap.size w1 w2 → ∃ Bm, x = .func (.func 89) #[] #[.pointer (some ⟨Bm, 0, none⟩)] ∧ Row w2 Bm 60 [.map (some b)] := by
  rintro x w1 w2 ⟨B, e, h⟩ hb
  exact ⟨B, e, h.below hb h.lt⟩
theorem stab_nets (n : Nat) (xs : List NP) : ∀ (x : Value) (w1 w2 : World), (∃ B0, n ≤ B0 ∧ HoldsN w1 B0 x xs) → Below w1.heap.size w1 w2 → ∃ B0, n ≤ B0 ∧ HoldsN w2 B0 x xs := by
  rintro x w1 w2 ⟨B, e, h⟩ hb
  exact ⟨B, e, h.below hb⟩
theorem HoldsN.at {w : World} {B : Nat} {p : Option Addr} {n cap : Nat} {xs : List NP} (h : HoldsN w B (.slice p n cap) xs) (hx : 0 < xs.length) : ∃ g, p = some ⟨g, 0, none⟩ ∧ NetsAt w g xs ∧ B ≤ g := by
  rcases h with ⟨rfl, _⟩ | ⟨g, cap', e, hN, hBg⟩
  · simp at hx
  · simp only [Value.slice.injEq] at e
    exact ⟨g, e.1, hN, hBg⟩
theorem lookN_at {rs : List Rt} (h : rs.Pairwise ltP) (k : Nat) (hk : k < rs.length) : lookN rs rs[k].a rs[k].l = some rs[k] := by
  unfold lookN
  rw [List.find?_eq_some_iff_getElem]
  refine ⟨by simp [isN], k, hk, rfl, fun j hj => ?_⟩
  have := ltP_ne ((List.pairwise_iff_getElem.1 h) j k (by omega) hk hj)
  simp [this]
theorem lookN_perm {ms rs : List Rt} (hp : ms.Perm rs) (h : rs.Pairwise ltP) (k : Nat) (hk : k < rs.length) : lookN ms rs[k].a rs[k].l = some rs[k] := by
  have hmem : rs[k] ∈ ms := hp.mem_iff.2 (List.getElem_mem hk)
  have hsome : (lookN ms rs[k].a rs[k].l).isSome = true := by
    unfold lookN
    rw [List.find?_isSome]
    exact ⟨rs[k], hmem, by simp [isN]⟩
  obtain ⟨r, hr⟩ := Option.isSome_iff_exists.1 hsome
  rw [hr]
  unfold lookN at hr
  have h1 := List.find?_some hr
  have h2 : r ∈ rs := hp.mem_iff.1 (List.mem_of_find?_eq_some hr)
  obtain ⟨j, hj, rfl⟩ := List.mem_iff_getElem.1 h2
  have hjk : j = k := by
    rcases Nat.lt_trichotomy j k with h' | h' | h'
    · have := ltP_ne ((List.pairwise_iff_getElem.1 h) j k hj hk h')
      rw [this] at h1; cases h1
    · exact h'
    · have h3 := (List.pairwise_iff_getElem.1 h) k j hk hj h'
      obtain ⟨e1, e2⟩ := isN_eq h1
      unfold ltP at h3
      omega
  subst hjk
  rfl
theorem map_look1 {w : World} {b : Nat} {rs : List Rt} (h : MapIs w b rs) (a l : Int) :
    (Instr.lookup 60 (.map (some b)) (netV a l) false).run Try.prog w = .ok (rtV ((lookN rs a l).getD zeroR)) w := by
  obtain ⟨es, clock, hb, hh, _, _⟩ := h
  unfold Instr.lookup
  simp only [Sem.run_bind, run_underlying mapUnd, Result.andThen_ok, MapKept.run_getObj_map hb, pure_bind, checkNet, findKey_run a l w es.toList rs hh]
  cases hi : idxN rs a l with
  | none =>
    rw [idx_none hi]
    simp
    rfl
  | some k =>
    obtain ⟨hk, hl, _⟩ := idx_get hi
    rw [hl]
    simp
/-- What a round of a loop over the table keeps: its nets, its tables, its maps. -/
structure KpN (W W' : World) : Prop where
  size : W.heap.size ≤ W'.heap.size
  rows : ∀ (k : Nat) (cur : Array Value) (t : TypeId), W.heap[k]? = some (Obj.cells cur t (0, 0)) → t = 28 ∨ t = 63 → W'.heap[k]? = W.heap[k]?
  walks : KeepsWalks W W'
set_option maxRecDepth 100000 in
set_option maxHeartbeats 2000000 in
theorem all1_in (n : Nat) (hn : 1 ≤ n) (l Bt b : Nat) (ms rs : List Rt) (hp : ms.Perm rs) (hr : ribB rs = true) (J Jx : List Rt → World → Prop)
    (hY : ∀ pre x W, J pre W → pre.length < rs.length → YieldAt Fence.wide (n - 1) Try.prog l #[rtV x] W fun e W' =>
      (e = .returned (.bool true) ∧ J (pre ++ [x]) W' ∧ KpN W W') ∨ (e = .returned (.bool false) ∧ Jx (pre ++ [x]) W'))
    (W0 : World) (hJ : AbidesFrom W0.heap.size J) (hT : Row W0 Bt 63 [.map (some b), .func (.func 67) #[] #[]]) (hM : MapIs W0 b ms) (h0 : J [] W0) :
    CallsIn Fence.wide n Try.prog 69 #[.func (.yield l) #[] #[], .pointer (some ⟨Bt, 0, none⟩)] W0 fun e W' => (∃ v, e = .returned v) ∧
      ((∃ xs : List Rt, xs = rs ∧ J xs W') ∨ (∃ pre : List Rt, pre <+: rs ∧ Jx pre W')) := by
  have h8 := (ribB_spec hr).1
  have HS : Hid (∀ Bm w, w.cell? ⟨Bm, 0, none⟩ = some (.map (some b)) → MapIs w b ms → Calls Try.prog 70 #[.func (.func 89) #[] #[.pointer (some ⟨Bm, 0, none⟩)], .func (.func 67) #[] #[]] w fun e w' => ∃ v, e = .returned v ∧ HoldsN w' w.heap.size v (rs.map netOfR) ∧ Below w.heap.size w w') := fun Bm w h1 h2 =>
    (sortedN Bm b ms w (by rw [hp.length_eq]; omega) h1 h2).mono fun e w' h => by
      obtain ⟨v, xs, e, hq, hR, hH, hb⟩ := h
      rw [risen_nets hr (hq.trans (hp.map _)) hR] at hH
      exact ⟨v, e, hH, hb⟩
  refine callsIn_of_wp Try.func69 rfl trivial ?_ rfl
  simp only [Try.ntmps69, List.size_toArray, List.length_cons, List.length_nil, Nat.reduceAdd, Nat.reduceSub, Array.replicate_succ, Array.replicate_zero, List.push_toArray, List.append_toArray, List.nil_append, List.cons_append]
  refine wpIn_seq ?_
  refine wpIn_wide.2 ?_
  have hGN : (([(5, Is (.pointer (some ⟨Bt, 0, none⟩))), (6, Is (.map (some b))), (7, fun v W => ∃ Bm, v = .func (.func 89) #[] #[.pointer (some ⟨Bm, 0, none⟩)] ∧ Row W Bm 60 [.map (some b)]), (8, Is (.pointer (some ⟨Bt, 1, none⟩))), (9, Is (.func (.func 67) #[] #[])), (10, fun v W => ∃ B0, W0.heap.size ≤ B0 ∧ HoldsN W B0 v (rs.map netOfR)), (11, Is (.int .i64 (rs.length : Int))), (12, Is (.int .i64 0))] : List (Nat × (Value → World → Prop))).map (·.1)).Nodup := by simp
  refine wp_region_steady 8 (SlotG [(5, Is (.pointer (some ⟨Bt, 0, none⟩))), (6, Is (.map (some b))), (7, fun v W => ∃ Bm, v = .func (.func 89) #[] #[.pointer (some ⟨Bm, 0, none⟩)] ∧ Row W Bm 60 [.map (some b)]), (8, Is (.pointer (some ⟨Bt, 1, none⟩))), (9, Is (.func (.func 67) #[] #[])), (10, fun v W => ∃ B0, W0.heap.size ≤ B0 ∧ HoldsN W B0 v (rs.map netOfR)), (11, Is (.int .i64 (rs.length : Int))), (12, Is (.int .i64 0))]) (by kernel_rfl) (by kernel_rfl) (Stabs.all ⟨stab_is _, stab_is _, stab_seq b, stab_is _, stab_is _, stab_nets _ _, stab_is _, stab_is _, trivial⟩) ?_ ?_
  · intro o ho
    simp only [List.take_succ_cons, List.take_zero, List.mem_cons, List.not_mem_nil, or_false] at ho
    rcases ho with rfl | rfl | rfl | rfl | rfl | rfl | rfl | rfl
    · intro a' w' hb ha hdep
      have d1 : a'.tmps.getD 1 undef = .pointer (some ⟨Bt, 0, none⟩) := ha.at 1 (by kernel_rfl)
      have hmk := fun (x : Value) (W : World) => SlotG.mk (x := x) (w := W) 0 rfl hGN
      clear hGN ha hdep
      go_simp
      exact ⟨_, rfl, Below.refl _ _, hmk _ _ rfl⟩
    · intro a' w' hb ha hdep
      have d5 : a'.tmps.getD 5 undef = .pointer (some ⟨Bt, 0, none⟩) := (hdep 5 (of_decide_eq_true (by kernel_rfl))).is 0 rfl
      have hmk := fun (x : Value) (W : World) => SlotG.mk (x := x) (w := W) 1 rfl hGN
      clear hGN ha hdep
      have y0 : w'.cell? ⟨Bt, 0, none⟩ = some (.map (some b)) := (hT.below hb hT.lt).cell 0
      go_simp
      exact ⟨_, rfl, Below.refl _ _, hmk _ _ rfl⟩
    · intro a' w' hb ha hdep
      have d6 : a'.tmps.getD 6 undef = .map (some b) := (hdep 6 (of_decide_eq_true (by kernel_rfl))).is 1 rfl
      have hmk := fun (x : Value) (W : World) => SlotG.mk (x := x) (w := W) 2 rfl hGN
      clear hGN ha hdep
      go_simp
      refine (keys_make b _).mono ?_
      rintro e w2 ⟨rfl, rfl⟩
      exact ⟨_, rfl, ent_new0 _ _, hmk _ _ ⟨_, rfl, Row.new w' _ [.map (some b)]⟩⟩
    · intro a' w' hb ha hdep
      have d1 : a'.tmps.getD 1 undef = .pointer (some ⟨Bt, 0, none⟩) := ha.at 1 (by kernel_rfl)
      have hmk := fun (x : Value) (W : World) => SlotG.mk (x := x) (w := W) 3 rfl hGN
      clear hGN ha hdep
      go_simp
      exact ⟨_, rfl, Below.refl _ _, hmk _ _ rfl⟩
    · intro a' w' hb ha hdep
      have d8 : a'.tmps.getD 8 undef = .pointer (some ⟨Bt, 1, none⟩) := (hdep 8 (of_decide_eq_true (by kernel_rfl))).is 3 rfl
      have hmk := fun (x : Value) (W : World) => SlotG.mk (x := x) (w := W) 4 rfl hGN
      clear hGN ha hdep
      have y1 : w'.cell? ⟨Bt, 1, none⟩ = some (.func (.func 67) #[] #[]) := (hT.below hb hT.lt).cell 1
      go_simp
      exact ⟨_, rfl, Below.refl _ _, hmk _ _ rfl⟩
    · intro a' w' hb ha hdep
      have D7 := (hdep 7 (of_decide_eq_true (by kernel_rfl))).get 2 rfl
      have d9 : a'.tmps.getD 9 undef = .func (.func 67) #[] #[] := (hdep 9 (of_decide_eq_true (by kernel_rfl))).is 4 rfl
      have hmk := fun (x : Value) (W : World) => SlotG.mk (x := x) (w := W) 5 rfl hGN
      clear hGN ha hdep
      obtain ⟨Bm, d7, hRm⟩ := D7
      have hsz := hb.size
      go_simp
      refine (HS.out Bm _ (hRm.cell 0) (hM.below hb hM.lt)).mono ?_
      rintro e w2 ⟨v, rfl, hv, hb2⟩
      exact ⟨_, rfl, hb2, hmk _ _ ⟨_, hsz, hv⟩⟩
    · intro a' w' hb ha hdep
      have D10 := (hdep 10 (of_decide_eq_true (by kernel_rfl))).get 5 rfl
      have hmk := fun (x : Value) (W : World) => SlotG.mk (x := x) (w := W) 6 rfl hGN
      clear hGN ha hdep
      obtain ⟨B0, hB0, hv⟩ := D10
      obtain ⟨p, cap, d10⟩ := hv.form
      rw [List.length_map] at d10
      go_simp
      exact ⟨_, rfl, Below.refl _ _, hmk _ _ rfl⟩
    · intro a' w' hb ha hdep
      have hmk := fun (x : Value) (W : World) => SlotG.mk (x := x) (w := W) 7 rfl hGN
      clear hGN ha hdep
      go_simp
      exact ⟨_, rfl, Below.refl _ _, hmk _ _ rfl⟩
  · intro a' w' hb ha hG
    clear hGN
    have D10 := (hG _ (List.mem_of_getElem? (i := 5) rfl) 10 rfl).get 5 rfl
    have d11 : a'.tmps.getD 11 undef = .int .i64 (rs.length : Int) := (hG _ (List.mem_of_getElem? (i := 6) rfl) 11 rfl).is 6 rfl
    have d12 : a'.tmps.getD 12 undef = .int .i64 0 := (hG _ (List.mem_of_getElem? (i := 7) rfl) 12 rfl).is 7 rfl
    have d0 : a'.tmps.getD 0 undef = .func (.yield l) #[] #[] := ha.at 0 (by kernel_rfl)
    have d1 : a'.tmps.getD 1 undef = .pointer (some ⟨Bt, 0, none⟩) := ha.at 1 (by kernel_rfl)
    have e2 : a' = ⟨#[a'.tmps.getD 0 undef, a'.tmps.getD 1 undef, a'.tmps.getD 2 undef, a'.tmps.getD 3 undef, a'.tmps.getD 4 undef, a'.tmps.getD 5 undef, a'.tmps.getD 6 undef, a'.tmps.getD 7 undef, a'.tmps.getD 8 undef, a'.tmps.getD 9 undef, a'.tmps.getD 10 undef, a'.tmps.getD 11 undef, a'.tmps.getD 12 undef, a'.tmps.getD 13 undef, a'.tmps.getD 14 undef, a'.tmps.getD 15 undef, a'.tmps.getD 16 undef, a'.tmps.getD 17 undef, a'.tmps.getD 18 undef, a'.tmps.getD 19 undef, a'.tmps.getD 20 undef, a'.tmps.getD 21 undef, a'.tmps.getD 22 undef, a'.tmps.getD 23 undef], []⟩ := by rw [← (show a'.defers = [] from ha.2.1)]; exact act_eq a' 24 ha.1
    rw [d11, d12, d0, d1] at e2
    clear hG ha d11 d12 d0 d1
    generalize a'.tmps.getD 2 undef = x2 at *
    generalize a'.tmps.getD 3 undef = x3 at *
    generalize a'.tmps.getD 4 undef = x4 at *
    generalize a'.tmps.getD 5 undef = x5 at *
    generalize a'.tmps.getD 6 undef = x6 at *
    generalize a'.tmps.getD 7 undef = x7 at *
    generalize a'.tmps.getD 8 undef = x8 at *
    generalize a'.tmps.getD 9 undef = x9 at *
    generalize a'.tmps.getD 10 undef = x10 at *
    generalize a'.tmps.getD 13 undef = x13 at *
    generalize a'.tmps.getD 14 undef = x14 at *
    generalize a'.tmps.getD 15 undef = x15 at *
    generalize a'.tmps.getD 16 undef = x16 at *
    generalize a'.tmps.getD 17 undef = x17 at *
    generalize a'.tmps.getD 18 undef = x18 at *
    generalize a'.tmps.getD 19 undef = x19 at *
    generalize a'.tmps.getD 20 undef = x20 at *
    generalize a'.tmps.getD 21 undef = x21 at *
    generalize a'.tmps.getD 22 undef = x22 at *
    generalize a'.tmps.getD 23 undef = x23 at *
    subst e2
    simp only [List.drop_succ_cons, List.drop_zero]
    refine wpList_nil ?_
    obtain ⟨B0, hB0, hH⟩ := D10
    have hJ1 : J [] w' := hJ [] W0 w' none h0 ⟨hb.os, hb.tape, hb.output, hb.size, fun k hk _ => hb.block k hk⟩ (fun r e => by cases e)
    have hT1 := hT.below hb hT.lt
    have hM1 := hM.below hb hM.lt
    have hsz := hb.size
    clear hb HS h0 hT hM
    generalize x10 = v at *
    obtain ⟨p, cap, rfl⟩ := hH.form
    rw [List.length_map] at hH ⊢
    gi_wp2
    gi_loopw [12] (fun i wr => ∃ k : Nat, k ≤ rs.length ∧ i = .int .i64 k ∧ J (rs.take k) wr ∧ W0.heap.size ≤ wr.heap.size ∧ Row wr Bt 63 [.map (some b), .func (.func 67) #[] #[]] ∧ MapIs wr b ms ∧ HoldsN wr B0 (.slice p rs.length cap) (rs.map netOfR)) (fun i _ => rs.length - (intOf i).toNat)
    case atStart => exact ⟨0, Nat.zero_le _, rfl, hJ1, hsz, hT1, hM1, hH⟩
    case round =>
      clear hJ1 hT1 hM1 hH hsz
      obtain ⟨k, hk, rfl, hJk, hsz, hTk, hMk, hHk⟩ := hrel
      by_cases hlt : k < rs.length
      · have d1 : decide ((k : Int) < (rs.length : Int)) = true := by simpa using hlt
        obtain ⟨g, rfl, hNk, hBg⟩ := hHk.at (by rw [List.length_map]; omega)
        obtain ⟨c0, c1, -, -⟩ := hNk.cell k (by rw [List.length_map]; exact hlt)
        rw [List.getElem_map] at c0 c1
        have hlk := lookN_perm hp (rib_rising hr) k hlt
        have hJa : J (rs.take k) (wr.alloc (.cells #[.int .i64 rs[k].a, .int .i64 rs[k].l] 28)) := hJ _ wr _ none hJk (World.grownBy_alloc wr _ none) (fun r e => by cases e)
        have hTa := hTk.alloc (.cells #[.int .i64 rs[k].a, .int .i64 rs[k].l] 28)
        have hMa := hMk.below (ent_new0 wr (.cells #[.int .i64 rs[k].a, .int .i64 rs[k].l] 28)) hMk.lt
        have hNa := hNk.below (ent_new0 wr (.cells #[.int .i64 rs[k].a, .int .i64 rs[k].l] 28)) hNk.lt
        have hrun := map_look1 hMa rs[k].a rs[k].l
        rw [hlk, Option.getD_some] at hrun
        obtain ⟨fn, tmps, assign, body, hy, hR⟩ := hY (rs.take k) rs[k] _ hJa (by rw [List.length_take]; omega)
        have t0 : (wr.alloc (.cells #[.int .i64 rs[k].a, .int .i64 rs[k].l] 28)).cell? ⟨Bt, 0, none⟩ = some (.map (some b)) := hTa.cell 0
        have HX : Hid (rs.take k ++ [rs[k]] = rs.take (k + 1)) := (List.take_succ_eq_append_getElem hlt).symm
        have HA : Hid _ := And.intro hTa (And.intro hMa hNa)
        have hbt : Bt < wr.heap.size := hTk.lt
        clear hJk hTk hMk hNk hHk hJa hTa hMa hNa hlk
        rw [HX.out] at hR
        generalize rs[k] = q at *
        obtain ⟨A, L, M, O, I, T, U, E, C⟩ := q
        unfold netV rtV rtA at hrun
        unfold rtV rtA at hy
        simp only [netOfR] at hrun hy c0 c1 t0
        gi_wp2
        refine hR.mono ?_
        rintro e W3 (⟨rfl, hJ3, hk3⟩ | ⟨rfl, hJx3⟩)
        · obtain ⟨hTa, hMa, hNa⟩ := HA.out
          have hT3 : Row W3 Bt 63 [.map (some b), .func (.func 67) #[] #[]] := (hk3.rows Bt _ _ hTa (.inr rfl)).trans hTa
          have hN3 : NetsAt W3 g (rs.map netOfR) := by
            obtain ⟨cur, hc, e⟩ := hNa
            exact ⟨cur, (hk3.rows g _ _ hc (.inl rfl)).trans hc, e⟩
          have hM3 : MapIs W3 b ms := by
            obtain ⟨es, cl, hb', h'⟩ := hMa
            exact ⟨es, cl, hk3.walks.same b _ hb' rfl, h'⟩
          have hs3 : W0.heap.size ≤ W3.heap.size := by have := hk3.size; simp at this; omega
          have HZ : Hid _ := And.intro hJ3 (And.intro hs3 (And.intro hT3 (And.intro hM3 hN3)))
          clear hJ3 hk3 hT3 hN3 hM3 hs3 HA hrun hy hTa hMa hNa c0 c1 t0 hsz hR
          gi_wp2
          go_roundw
          case rel => exact ⟨k + 1, hlt, by go_num, HZ.out.1, HZ.out.2.1, HZ.out.2.2.1, HZ.out.2.2.2.1, .inr ⟨g, cap, by rw [List.length_map], HZ.out.2.2.2.2, hBg⟩⟩
          case measure => simp [intOf]; omega
        · clear HA hrun hy c0 c1 t0 hR
          gi_wp2
          refine bodyPost_ret (results_none rfl _ _ _) rfl ?_
          exact ⟨⟨_, rfl⟩, .inr ⟨rs.take (k + 1), List.take_prefix _ _, hJx3⟩⟩
      · obtain rfl : k = rs.length := by omega
        have d1 : decide ((rs.length : Int) < (rs.length : Int)) = false := by simp
        rw [List.take_length] at hJk
        clear hlt hk
        gi_wp2
        go_end0
        exact ⟨⟨_, rfl⟩, .inl ⟨rs, rfl, hJk⟩⟩
theorem all_stops (n : Nat) (hn : 1 ≤ n) (Bt b : Nat) (ms rs : List Rt) (hp : ms.Perm rs) (hr : ribB rs = true) (w : World) (hT : Row w Bt 63 [.map (some b), .func (.func 67) #[] #[]]) (hM : MapIs w b ms) :
    SeqStopsK Fence.wide n Try.prog 69 #[.pointer (some ⟨Bt, 0, none⟩)] (fun x : Rt => #[rtV x]) KpN (fun xs => xs = rs) (fun pre => pre <+: rs) rs.length w := fun l J Jx W hW hJ _ hY h0 =>
  all1_in n hn l Bt b ms rs hp hr J Jx hY W hJ (hT.below hW hT.lt) (hM.below hW hM.lt) h0
theorem KpN.t {A B C : World} (h : KpN A B) (k : KpN B C) : KpN A C :=
  ⟨Nat.le_trans h.size k.size, fun i cur t hi ht => (k.rows i cur t ((h.rows i cur t hi ht).trans hi) ht).trans (h.rows i cur t hi ht), h.walks.trans k.walks⟩
theorem KpN.b {w : World} (W : World) (l : Nat) (o o' : Obj) (_ : w.heap.size ≤ l) (h : W.heap[l]? = some o) (hc : o.isCells = false) (hw : o.isWalk = false) : KpN W (W.putObj l o') :=
  KpN.mk (by simp) (fun i cur t hi _ => World.putObj_heap_other (fun e => by
    subst e
    rw [h] at hi
    cases hi
    cases hc)) (KeepsWalks.putObj _ h hw)
end Go.Proofs.Ytkkhjeigndcmaab
