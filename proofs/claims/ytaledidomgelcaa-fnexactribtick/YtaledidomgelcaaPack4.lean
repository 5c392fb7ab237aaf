/- Texts that stand on each other, in one file: AllI, AppR, OutD, TickS, AllM, MapD, LoopT. -/
import Derived.Test.YtaledidomgelcaaPack3
import Derived.Maps.AppendAt
import Derived.Test.YtaledidomgelcaaPack1
import Derived.Test.YtaledidomgelcaaPack2
import Derived.RangeFuncNested
/- The table's iterator: routes in the order of their nets. (Written by gen_all.py.) -/
namespace Go.Proofs.Ytaledidomgelcaa
open Go.RowKit Go.Sort Go.Shelf
attribute [local go_sem] Oper.semAt_some

set_option maxRecDepth 100000 in
theorem keys_make (b : Nat) (w : World) : Calls Try.prog 93 #[.map (some b)] w fun e w' => e = .returned (.func (.func 109) #[] #[.pointer (some ⟨w.heap.size, 0, none⟩)]) ∧ w.alloc (.cells #[.map (some b)] 79) = w' := by
  go_enter Try.func93, Try.ntmps93
  go_wp2
  go_ret
  exact ⟨rfl, rfl⟩
set_option maxRecDepth 100000 in
theorem all_make (B : Nat) (w : World) : Calls Try.prog 59 #[tabV B] w fun e w' => e = .returned (.func (.func 91) #[] #[.pointer (some ⟨w.heap.size, 0, none⟩)]) ∧ w.alloc (.cells #[.map (some B), .func (.func 82) #[] #[]] 82) = w' := by
  unfold tabV
  go_enter Try.func59, Try.ntmps59
  go_wp2
  go_ret
  exact ⟨rfl, rfl⟩
theorem HoldsN.form {w : World} {B : Nat} {v : Value} {xs : List NP} (h : HoldsN w B v xs) : ∃ p cap, v = .slice p xs.length cap := by
  rcases h with ⟨rfl, rfl⟩ | ⟨g, cap, rfl, _, _⟩
  · exact ⟨none, 0, rfl⟩
  · exact ⟨_, cap, rfl⟩
theorem HoldsN.below {w w' : World} {B : Nat} {v : Value} {xs : List NP} (h : HoldsN w B v xs) (hb : Below w.heap.size w w') : HoldsN w' B v xs := by
  rcases h with ⟨rfl, rfl⟩ | ⟨g, cap, rfl, hN, hg⟩
  · exact .inl ⟨rfl, rfl⟩
  · exact .inr ⟨g, cap, rfl, hN.below hb hN.lt, hg⟩
theorem stab_seq (b : Nat) : ∀ (x : Value) (w1 w2 : World), (∃ Bm, x = .func (.func 109) #[] #[.pointer (some ⟨Bm, 0, none⟩)] ∧ Row w1 Bm 79 [.map (some b)]) → Below w1.heap.size w1 w2 → ∃ Bm, x = .func (.func 109) #[] #[.pointer (some ⟨Bm, 0, none⟩)] ∧ Row w2 Bm 79 [.map (some b)] := by
  rintro x w1 w2 ⟨B, e, h⟩ hb
  exact ⟨B, e, h.below hb h.lt⟩
theorem stab_nets (n : Nat) (xs : List NP) : ∀ (x : Value) (w1 w2 : World), (∃ B0, n ≤ B0 ∧ HoldsN w1 B0 x xs) → Below w1.heap.size w1 w2 → ∃ B0, n ≤ B0 ∧ HoldsN w2 B0 x xs := by
  rintro x w1 w2 ⟨B, e, h⟩ hb
  exact ⟨B, e, h.below hb⟩
theorem HoldsN.at {w : World} {B : Nat} {p : Option Addr} {n cap : Nat} {xs : List NP} (h : HoldsN w B (.slice p n cap) xs) (hx : 0 < xs.length) : ∃ g, p = some ⟨g, 0, none⟩ ∧ NetsAt w g xs ∧ B ≤ g := by
  rcases h with ⟨rfl, _⟩ | ⟨g, cap', e, hN, hBg⟩
  · simp at hx
  · simp only [Value.slice.injEq] at e
    exact ⟨g, e.1, hN, hBg⟩
theorem lookN_at {rs : List Rt} (h : rs.Pairwise ltP) (k : Nat) (hk : k < rs.length) : lookN rs rs[k].a rs[k].l = some rs[k] := by
  unfold lookN
  rw [List.find?_eq_some_iff_getElem]
  refine ⟨by simp [isN], k, hk, rfl, fun j hj => ?_⟩
  have := ltP_ne ((List.pairwise_iff_getElem.1 h) j k (by omega) hk hj)
  simp [this]
theorem lookN_perm {ms rs : List Rt} (hp : ms.Perm rs) (h : rs.Pairwise ltP) (k : Nat) (hk : k < rs.length) : lookN ms rs[k].a rs[k].l = some rs[k] := by
  have hmem : rs[k] ∈ ms := hp.mem_iff.2 (List.getElem_mem hk)
  have hsome : (lookN ms rs[k].a rs[k].l).isSome = true := by
    unfold lookN
    rw [List.find?_isSome]
    exact ⟨rs[k], hmem, by simp [isN]⟩
  obtain ⟨r, hr⟩ := Option.isSome_iff_exists.1 hsome
  rw [hr]
  unfold lookN at hr
  have h1 := List.find?_some hr
  have h2 : r ∈ rs := hp.mem_iff.1 (List.mem_of_find?_eq_some hr)
  obtain ⟨j, hj, rfl⟩ := List.mem_iff_getElem.1 h2
  have hjk : j = k := by
    rcases Nat.lt_trichotomy j k with h' | h' | h'
    · have := ltP_ne ((List.pairwise_iff_getElem.1 h) j k hj hk h')
      rw [this] at h1; cases h1
    · exact h'
    · have h3 := (List.pairwise_iff_getElem.1 h) k j hk hj h'
      obtain ⟨e1, e2⟩ := isN_eq h1
      unfold ltP at h3
      omega
  subst hjk
  rfl
theorem map_look1 {w : World} {b : Nat} {rs : List Rt} (h : MapIs w b rs) (a l : Int) :
    (Instr.lookup 79 (.map (some b)) (netV a l) false).run Try.prog w = .ok (rtV ((lookN rs a l).getD zeroR)) w := by
  obtain ⟨es, clock, hb, hh, _, _⟩ := h
  unfold Instr.lookup
  simp only [Sem.run_bind, run_underlying mapUnd, Result.andThen_ok, MapKept.run_getObj_map hb, pure_bind, checkNet, findKey_run a l w es.toList rs hh]
  cases hi : idxN rs a l with
  | none =>
    rw [idx_none hi]
    simp
    rfl
  | some k =>
    obtain ⟨hk, hl, _⟩ := idx_get hi
    rw [hl]
    simp
/-- What a round of a loop over the table keeps: its nets, its tables, its maps. -/
structure KpN (W W' : World) : Prop where
  size : W.heap.size ≤ W'.heap.size
  rows : ∀ (k : Nat) (cur : Array Value) (t : TypeId), W.heap[k]? = some (Obj.cells cur t (0, 0)) → t = 35 ∨ t = 82 → W'.heap[k]? = W.heap[k]?
  walks : KeepsWalks W W'
set_option maxRecDepth 100000 in
set_option maxHeartbeats 2000000 in
theorem all1_in (n : Nat) (hn : 1 ≤ n) (l Bt b : Nat) (ms rs : List Rt) (hp : ms.Perm rs) (hr : ribB rs = true) (J Jx : List Rt → World → Prop)
    (hY : ∀ pre x W, J pre W → pre.length < rs.length → YieldAt Fence.wide (n - 1) Try.prog l #[rtV x] W fun e W' =>
      (e = .returned (.bool true) ∧ J (pre ++ [x]) W' ∧ KpN W W') ∨ (e = .returned (.bool false) ∧ Jx (pre ++ [x]) W'))
    (W0 : World) (hJ : AbidesFrom W0.heap.size J) (hT : Row W0 Bt 82 [.map (some b), .func (.func 82) #[] #[]]) (hM : MapIs W0 b ms) (h0 : J [] W0) :
    CallsIn Fence.wide n Try.prog 91 #[.func (.yield l) #[] #[], .pointer (some ⟨Bt, 0, none⟩)] W0 fun e W' => (∃ v, e = .returned v) ∧
      ((∃ xs : List Rt, xs = rs ∧ J xs W') ∨ (∃ pre : List Rt, pre <+: rs ∧ Jx pre W')) := by
  have h8 := (ribB_spec hr).1
  have HS : Hid (∀ Bm w, w.cell? ⟨Bm, 0, none⟩ = some (.map (some b)) → MapIs w b ms → Calls Try.prog 92 #[.func (.func 109) #[] #[.pointer (some ⟨Bm, 0, none⟩)], .func (.func 82) #[] #[]] w fun e w' => ∃ v, e = .returned v ∧ HoldsN w' w.heap.size v (rs.map netOfR) ∧ Below w.heap.size w w') := fun Bm w h1 h2 =>
    (sortedN Bm b ms w (by rw [hp.length_eq]; omega) h1 h2).mono fun e w' h => by
      obtain ⟨v, xs, e, hq, hR, hH, hb⟩ := h
      rw [risen_nets hr (hq.trans (hp.map _)) hR] at hH
      exact ⟨v, e, hH, hb⟩
  refine callsIn_of_wp Try.func91 rfl trivial ?_ rfl
  simp only [Try.ntmps91, List.size_toArray, List.length_cons, List.length_nil, Nat.reduceAdd, Nat.reduceSub, Array.replicate_succ, Array.replicate_zero, List.push_toArray, List.append_toArray, List.nil_append, List.cons_append]
  refine wpIn_seq ?_
  refine wpIn_wide.2 ?_
  have hGN : (([(5, Is (.pointer (some ⟨Bt, 0, none⟩))), (6, Is (.map (some b))), (7, fun v W => ∃ Bm, v = .func (.func 109) #[] #[.pointer (some ⟨Bm, 0, none⟩)] ∧ Row W Bm 79 [.map (some b)]), (8, Is (.pointer (some ⟨Bt, 1, none⟩))), (9, Is (.func (.func 82) #[] #[])), (10, fun v W => ∃ B0, W0.heap.size ≤ B0 ∧ HoldsN W B0 v (rs.map netOfR)), (11, Is (.int .i64 (rs.length : Int))), (12, Is (.int .i64 0))] : List (Nat × (Value → World → Prop))).map (·.1)).Nodup := by simp
  refine wp_region_steady 8 (SlotG [(5, Is (.pointer (some ⟨Bt, 0, none⟩))), (6, Is (.map (some b))), (7, fun v W => ∃ Bm, v = .func (.func 109) #[] #[.pointer (some ⟨Bm, 0, none⟩)] ∧ Row W Bm 79 [.map (some b)]), (8, Is (.pointer (some ⟨Bt, 1, none⟩))), (9, Is (.func (.func 82) #[] #[])), (10, fun v W => ∃ B0, W0.heap.size ≤ B0 ∧ HoldsN W B0 v (rs.map netOfR)), (11, Is (.int .i64 (rs.length : Int))), (12, Is (.int .i64 0))]) (by kernel_rfl) (by kernel_rfl) (Stabs.all ⟨stab_is _, stab_is _, stab_seq b, stab_is _, stab_is _, stab_nets _ _, stab_is _, stab_is _, trivial⟩) ?_ ?_
  · intro o ho
    simp only [List.take_succ_cons, List.take_zero, List.mem_cons, List.not_mem_nil, or_false] at ho
    rcases ho with rfl | rfl | rfl | rfl | rfl | rfl | rfl | rfl
    · intro a' w' hb ha hdep
      have d1 : a'.tmps.getD 1 undef = .pointer (some ⟨Bt, 0, none⟩) := ha.at 1 (by kernel_rfl)
      have hmk := fun (x : Value) (W : World) => SlotG.mk (x := x) (w := W) 0 rfl hGN
      clear hGN ha hdep
      go_simp
      exact ⟨_, rfl, Below.refl _ _, hmk _ _ rfl⟩
    · intro a' w' hb ha hdep
      have d5 : a'.tmps.getD 5 undef = .pointer (some ⟨Bt, 0, none⟩) := (hdep 5 (of_decide_eq_true (by kernel_rfl))).is 0 rfl
      have hmk := fun (x : Value) (W : World) => SlotG.mk (x := x) (w := W) 1 rfl hGN
      clear hGN ha hdep
      have y0 : w'.cell? ⟨Bt, 0, none⟩ = some (.map (some b)) := (hT.below hb hT.lt).cell 0
      go_simp
      exact ⟨_, rfl, Below.refl _ _, hmk _ _ rfl⟩
    · intro a' w' hb ha hdep
      have d6 : a'.tmps.getD 6 undef = .map (some b) := (hdep 6 (of_decide_eq_true (by kernel_rfl))).is 1 rfl
      have hmk := fun (x : Value) (W : World) => SlotG.mk (x := x) (w := W) 2 rfl hGN
      clear hGN ha hdep
      go_simp
      refine (keys_make b _).mono ?_
      rintro e w2 ⟨rfl, rfl⟩
      exact ⟨_, rfl, ent_new0 _ _, hmk _ _ ⟨_, rfl, Row.new w' _ [.map (some b)]⟩⟩
    · intro a' w' hb ha hdep
      have d1 : a'.tmps.getD 1 undef = .pointer (some ⟨Bt, 0, none⟩) := ha.at 1 (by kernel_rfl)
      have hmk := fun (x : Value) (W : World) => SlotG.mk (x := x) (w := W) 3 rfl hGN
      clear hGN ha hdep
      go_simp
      exact ⟨_, rfl, Below.refl _ _, hmk _ _ rfl⟩
    · intro a' w' hb ha hdep
      have d8 : a'.tmps.getD 8 undef = .pointer (some ⟨Bt, 1, none⟩) := (hdep 8 (of_decide_eq_true (by kernel_rfl))).is 3 rfl
      have hmk := fun (x : Value) (W : World) => SlotG.mk (x := x) (w := W) 4 rfl hGN
      clear hGN ha hdep
      have y1 : w'.cell? ⟨Bt, 1, none⟩ = some (.func (.func 82) #[] #[]) := (hT.below hb hT.lt).cell 1
      go_simp
      exact ⟨_, rfl, Below.refl _ _, hmk _ _ rfl⟩
    · intro a' w' hb ha hdep
      have D7 := (hdep 7 (of_decide_eq_true (by kernel_rfl))).get 2 rfl
      have d9 : a'.tmps.getD 9 undef = .func (.func 82) #[] #[] := (hdep 9 (of_decide_eq_true (by kernel_rfl))).is 4 rfl
      have hmk := fun (x : Value) (W : World) => SlotG.mk (x := x) (w := W) 5 rfl hGN
      clear hGN ha hdep
      obtain ⟨Bm, d7, hRm⟩ := D7
      have hsz := hb.size
      go_simp
      refine (HS.out Bm _ (hRm.cell 0) (hM.below hb hM.lt)).mono ?_
      rintro e w2 ⟨v, rfl, hv, hb2⟩
      exact ⟨_, rfl, hb2, hmk _ _ ⟨_, hsz, hv⟩⟩
    · intro a' w' hb ha hdep
      have D10 := (hdep 10 (of_decide_eq_true (by kernel_rfl))).get 5 rfl
      have hmk := fun (x : Value) (W : World) => SlotG.mk (x := x) (w := W) 6 rfl hGN
      clear hGN ha hdep
      obtain ⟨B0, hB0, hv⟩ := D10
      obtain ⟨p, cap, d10⟩ := hv.form
      rw [List.length_map] at d10
      go_simp
      exact ⟨_, rfl, Below.refl _ _, hmk _ _ rfl⟩
    · intro a' w' hb ha hdep
      have hmk := fun (x : Value) (W : World) => SlotG.mk (x := x) (w := W) 7 rfl hGN
      clear hGN ha hdep
      go_simp
      exact ⟨_, rfl, Below.refl _ _, hmk _ _ rfl⟩
  · intro a' w' hb ha hG
    clear hGN
    have D10 := (hG _ (List.mem_of_getElem? (i := 5) rfl) 10 rfl).get 5 rfl
    have d11 : a'.tmps.getD 11 undef = .int .i64 (rs.length : Int) := (hG _ (List.mem_of_getElem? (i := 6) rfl) 11 rfl).is 6 rfl
    have d12 : a'.tmps.getD 12 undef = .int .i64 0 := (hG _ (List.mem_of_getElem? (i := 7) rfl) 12 rfl).is 7 rfl
    have d0 : a'.tmps.getD 0 undef = .func (.yield l) #[] #[] := ha.at 0 (by kernel_rfl)
    have d1 : a'.tmps.getD 1 undef = .pointer (some ⟨Bt, 0, none⟩) := ha.at 1 (by kernel_rfl)
    have e2 : a' = ⟨#[a'.tmps.getD 0 undef, a'.tmps.getD 1 undef, a'.tmps.getD 2 undef, a'.tmps.getD 3 undef, a'.tmps.getD 4 undef, a'.tmps.getD 5 undef, a'.tmps.getD 6 undef, a'.tmps.getD 7 undef, a'.tmps.getD 8 undef, a'.tmps.getD 9 undef, a'.tmps.getD 10 undef, a'.tmps.getD 11 undef, a'.tmps.getD 12 undef, a'.tmps.getD 13 undef, a'.tmps.getD 14 undef, a'.tmps.getD 15 undef, a'.tmps.getD 16 undef, a'.tmps.getD 17 undef, a'.tmps.getD 18 undef, a'.tmps.getD 19 undef, a'.tmps.getD 20 undef, a'.tmps.getD 21 undef, a'.tmps.getD 22 undef, a'.tmps.getD 23 undef], []⟩ := by rw [← (show a'.defers = [] from ha.2.1)]; exact act_eq a' 24 ha.1
    rw [d11, d12, d0, d1] at e2
    clear hG ha d11 d12 d0 d1
    generalize a'.tmps.getD 2 undef = x2 at *
    generalize a'.tmps.getD 3 undef = x3 at *
    generalize a'.tmps.getD 4 undef = x4 at *
    generalize a'.tmps.getD 5 undef = x5 at *
    generalize a'.tmps.getD 6 undef = x6 at *
    generalize a'.tmps.getD 7 undef = x7 at *
    generalize a'.tmps.getD 8 undef = x8 at *
    generalize a'.tmps.getD 9 undef = x9 at *
    generalize a'.tmps.getD 10 undef = x10 at *
    generalize a'.tmps.getD 13 undef = x13 at *
    generalize a'.tmps.getD 14 undef = x14 at *
    generalize a'.tmps.getD 15 undef = x15 at *
    generalize a'.tmps.getD 16 undef = x16 at *
    generalize a'.tmps.getD 17 undef = x17 at *
    generalize a'.tmps.getD 18 undef = x18 at *
    generalize a'.tmps.getD 19 undef = x19 at *
    generalize a'.tmps.getD 20 undef = x20 at *
    generalize a'.tmps.getD 21 undef = x21 at *
    generalize a'.tmps.getD 22 undef = x22 at *
    generalize a'.tmps.getD 23 undef = x23 at *
    subst e2
    simp only [List.drop_succ_cons, List.drop_zero]
    refine wpList_nil ?_
    obtain ⟨B0, hB0, hH⟩ := D10
    have hJ1 : J [] w' := hJ [] W0 w' none h0 ⟨hb.os, hb.tape, hb.output, hb.size, fun k hk _ => hb.block k hk⟩ (fun r e => by cases e)
    have hT1 := hT.below hb hT.lt
    have hM1 := hM.below hb hM.lt
    have hsz := hb.size
    clear hb HS h0 hT hM
    generalize x10 = v at *
    obtain ⟨p, cap, rfl⟩ := hH.form
    rw [List.length_map] at hH ⊢
    gi_wp2
    gi_loopw [12] (fun i wr => ∃ k : Nat, k ≤ rs.length ∧ i = .int .i64 k ∧ J (rs.take k) wr ∧ W0.heap.size ≤ wr.heap.size ∧ Row wr Bt 82 [.map (some b), .func (.func 82) #[] #[]] ∧ MapIs wr b ms ∧ HoldsN wr B0 (.slice p rs.length cap) (rs.map netOfR)) (fun i _ => rs.length - (intOf i).toNat)
    case atStart => exact ⟨0, Nat.zero_le _, rfl, hJ1, hsz, hT1, hM1, hH⟩
    case round =>
      clear hJ1 hT1 hM1 hH hsz
      obtain ⟨k, hk, rfl, hJk, hsz, hTk, hMk, hHk⟩ := hrel
      by_cases hlt : k < rs.length
      · have d1 : decide ((k : Int) < (rs.length : Int)) = true := by simpa using hlt
        obtain ⟨g, rfl, hNk, hBg⟩ := hHk.at (by rw [List.length_map]; omega)
        obtain ⟨c0, c1, -, -⟩ := hNk.cell k (by rw [List.length_map]; exact hlt)
        rw [List.getElem_map] at c0 c1
        have hlk := lookN_perm hp (rib_rising hr) k hlt
        have hJa : J (rs.take k) (wr.alloc (.cells #[.int .i64 rs[k].a, .int .i64 rs[k].l] 35)) := hJ _ wr _ none hJk (World.grownBy_alloc wr _ none) (fun r e => by cases e)
        have hTa := hTk.alloc (.cells #[.int .i64 rs[k].a, .int .i64 rs[k].l] 35)
        have hMa := hMk.below (ent_new0 wr (.cells #[.int .i64 rs[k].a, .int .i64 rs[k].l] 35)) hMk.lt
        have hNa := hNk.below (ent_new0 wr (.cells #[.int .i64 rs[k].a, .int .i64 rs[k].l] 35)) hNk.lt
        have hrun := map_look1 hMa rs[k].a rs[k].l
        rw [hlk, Option.getD_some] at hrun
        obtain ⟨fn, tmps, assign, body, hy, hR⟩ := hY (rs.take k) rs[k] _ hJa (by rw [List.length_take]; omega)
        have t0 : (wr.alloc (.cells #[.int .i64 rs[k].a, .int .i64 rs[k].l] 35)).cell? ⟨Bt, 0, none⟩ = some (.map (some b)) := hTa.cell 0
        have HX : Hid (rs.take k ++ [rs[k]] = rs.take (k + 1)) := (List.take_succ_eq_append_getElem hlt).symm
        have HA : Hid _ := And.intro hTa (And.intro hMa hNa)
        have hbt : Bt < wr.heap.size := hTk.lt
        clear hJk hTk hMk hNk hHk hJa hTa hMa hNa hlk
        rw [HX.out] at hR
        generalize rs[k] = q at *
        obtain ⟨A, L, M, O, I, T, U, E, C⟩ := q
        unfold netV rtV rtA at hrun
        unfold rtV rtA at hy
        simp only [netOfR] at hrun hy c0 c1 t0
        gi_wp2
        refine hR.mono ?_
        rintro e W3 (⟨rfl, hJ3, hk3⟩ | ⟨rfl, hJx3⟩)
        · obtain ⟨hTa, hMa, hNa⟩ := HA.out
          have hT3 : Row W3 Bt 82 [.map (some b), .func (.func 82) #[] #[]] := (hk3.rows Bt _ _ hTa (.inr rfl)).trans hTa
          have hN3 : NetsAt W3 g (rs.map netOfR) := by
            obtain ⟨cur, hc, e⟩ := hNa
            exact ⟨cur, (hk3.rows g _ _ hc (.inl rfl)).trans hc, e⟩
          have hM3 : MapIs W3 b ms := by
            obtain ⟨es, cl, hb', h'⟩ := hMa
            exact ⟨es, cl, hk3.walks.same b _ hb' rfl, h'⟩
          have hs3 : W0.heap.size ≤ W3.heap.size := by have := hk3.size; simp at this; omega
          have HZ : Hid _ := And.intro hJ3 (And.intro hs3 (And.intro hT3 (And.intro hM3 hN3)))
          clear hJ3 hk3 hT3 hN3 hM3 hs3 HA hrun hy hTa hMa hNa c0 c1 t0 hsz hR
          gi_wp2
          go_roundw
          case rel => exact ⟨k + 1, hlt, by go_num, HZ.out.1, HZ.out.2.1, HZ.out.2.2.1, HZ.out.2.2.2.1, .inr ⟨g, cap, by rw [List.length_map], HZ.out.2.2.2.2, hBg⟩⟩
          case measure => simp [intOf]; omega
        · clear HA hrun hy c0 c1 t0 hR
          gi_wp2
          refine bodyPost_ret (results_none rfl _ _ _) rfl ?_
          exact ⟨⟨_, rfl⟩, .inr ⟨rs.take (k + 1), List.take_prefix _ _, hJx3⟩⟩
      · obtain rfl : k = rs.length := by omega
        have d1 : decide ((rs.length : Int) < (rs.length : Int)) = false := by simp
        rw [List.take_length] at hJk
        clear hlt hk
        gi_wp2
        go_end0
        exact ⟨⟨_, rfl⟩, .inl ⟨rs, rfl, hJk⟩⟩
theorem all_stops (n : Nat) (hn : 1 ≤ n) (Bt b : Nat) (ms rs : List Rt) (hp : ms.Perm rs) (hr : ribB rs = true) (w : World) (hT : Row w Bt 82 [.map (some b), .func (.func 82) #[] #[]]) (hM : MapIs w b ms) :
    SeqStopsK Fence.wide n Try.prog 91 #[.pointer (some ⟨Bt, 0, none⟩)] (fun x : Rt => #[rtV x]) KpN (fun xs => xs = rs) (fun pre => pre <+: rs) rs.length w := fun l J Jx W hW hJ _ hY h0 =>
  all1_in n hn l Bt b ms rs hp hr J Jx hY W hJ (hT.below hW hT.lt) (hM.below hW hM.lt) h0
theorem KpN.t {A B C : World} (h : KpN A B) (k : KpN B C) : KpN A C :=
  ⟨Nat.le_trans h.size k.size, fun i cur t hi ht => (k.rows i cur t ((h.rows i cur t hi ht).trans hi) ht).trans (h.rows i cur t hi ht), h.walks.trans k.walks⟩
theorem KpN.b {w : World} (W : World) (l : Nat) (o o' : Obj) (_ : w.heap.size ≤ l) (h : W.heap[l]? = some o) (hc : o.isCells = false) (hw : o.isWalk = false) : KpN W (W.putObj l o') :=
  KpN.mk (by simp) (fun i cur t hi _ => World.putObj_heap_other (fun e => by
    subst e
    rw [h] at hi
    cases hi
    cases hc)) (KeepsWalks.putObj _ h hw)
end Go.Proofs.Ytaledidomgelcaa
/- slices.AppendSeq and Collect at routes, over the table's iterator. (Written by gen_appr.py.) -/
namespace Go.Proofs.Ytaledidomgelcaa
open Go.RowKit Go.Sort Go.Shelf
attribute [local go_sem] Oper.semAt_some

theorem cell_nine_new (W : World) (xs : List Value) (t : TypeId) : ∀ j u, xs[j]? = some u → (W.alloc (.cells xs.toArray t)).cell? ((⟨W.heap.size, 0, none⟩ : Addr).add j) = some u := by
  intro j u hj
  have := (Row.new W t xs).cell j
  rw [hj] at this
  have e : (⟨W.heap.size, 0, none⟩ : Addr).add j = ⟨W.heap.size, j, none⟩ := by
    unfold Addr.add
    by_cases h : j = 0
    · subst h; rfl
    · rw [if_neg h]; simp
  rw [e]
  exact this
theorem Try.infoRoute : (Try.prog.info? 46).map (fun i => (i.zero, i.size, i.bytes)) = some (some (.agg #[.int .i64 0, .int .i64 0, .int .i64 0, .int .i64 0, .int .i64 0, .int .i64 0, .int .i64 0, .int .i64 0, .bool false]), 9, 72) := by kernel_rfl
theorem KpN.alloc (W : World) (o : Obj) : KpN W (W.alloc o) := KpN.mk (by simp) (fun i _ _ hi _ => Below.heap_alloc W o i (Array.getElem?_eq_some_iff.1 hi).1) (KeepsWalks.alloc W o)
theorem kpn_appended {W w1 : World} {n₀ B : Nat} {v v' : Value} {k : Nat} {xs : List Value} {tmp : Obj} (hv : Boxed W B 28 v) (hrow : W.ownsRow n₀ 46 9 v k xs) (hgrow : (W.alloc tmp).grownBy w1 v.ownBlock) (hk : KeepsOthers W (w1.setCell ⟨B, 0, none⟩ v')) : KpN W (w1.setCell ⟨B, 0, none⟩ v') := by
  refine KpN.mk hk.size (fun i cur t hi ht => ?_) hk.walks
  have hlt : i < W.heap.size := (Array.getElem?_eq_some_iff.1 hi).1
  have hne : i ≠ B := by
    intro e
    subst e
    have h' : W.heap[i]? = some (.cells #[v] 28 (0, 0)) := hv
    rw [h'] at hi
    simp only [Option.some.injEq, Obj.cells.injEq] at hi
    obtain ⟨_, ht', _⟩ := hi
    rcases ht with rfl | rfl <;> cases ht'
  have hnr : some i ≠ v.ownBlock := by
    intro e
    rcases hrow.2 with ⟨rfl, _⟩ | ⟨g, cap, cur', rfl, _, hg, _⟩
    · simp [Value.ownBlock] at e
    · obtain rfl : i = g := by simpa [Value.ownBlock] using e
      rw [hg] at hi
      simp only [Option.some.injEq, Obj.cells.injEq] at hi
      obtain ⟨_, ht', _⟩ := hi
      rcases ht with rfl | rfl <;> cases ht'
  rw [Below.heap_setCell w1 ⟨B, 0, none⟩ v' i (fun e => hne e), hgrow.block i (by simp; omega) hnr, Below.heap_alloc W tmp i hlt]
set_option maxRecDepth 100000 in
set_option maxHeartbeats 2000000 in
theorem appendSeqR (Bm b : Nat) (ms rs : List Rt) (hp : ms.Perm rs) (w : World) (hr : ribB rs = true) (hm : Row w Bm 82 [.map (some b), .func (.func 82) #[] #[]]) (hM : MapIs w b ms) :
    Calls Try.prog 106 #[.slice none 0 0, .func (.func 91) #[] #[.pointer (some ⟨Bm, 0, none⟩)]] w fun e w' => ∃ v, e = .returned v ∧ w'.ownsRow w.heap.size 46 9 v rs.length (rowR rs) ∧ Below w.heap.size w w' := by
  refine (callsIn_wide (n := 9)).1 ?_
  refine callsIn_of_wp_marks Try.func106 rfl trivial ?_ rfl
  simp only [Try.ntmps106, List.size_toArray, List.length_cons, List.length_nil, Nat.reduceAdd, Nat.reduceSub, Array.replicate_succ, Array.replicate_zero, List.push_toArray, List.append_toArray, List.nil_append, List.cons_append]
  gi_wp2
  have bS := Boxed.new w 28 (.slice none 0 0)
  have hB0 : Below w.heap.size w (w.alloc (.cells #[.slice none 0 0] 28)) := ent_new0 w _
  have hm0 := hm.alloc (.cells #[.slice none 0 0] 28)
  have h8 := (ribB_spec hr).1
  have hM0 := hM.below hB0 hM.lt
  have hs0 : (w.alloc (.cells #[.slice none 0 0] 28)).heap.size = w.heap.size + 1 := by simp
  obtain ⟨Z, hZ⟩ : ∃ Z, (w.alloc (.cells #[.slice none 0 0] 28)) = Z := ⟨_, rfl⟩
  rw [hZ] at bS hB0 hm0 hM0 hs0 ⊢
  clear hZ hm hM
  refine wpIn_rangeFunc_ownH rfl (by omega) (gf := 91) (lb := #[.pointer (some ⟨Bm, 0, none⟩)]) rfl trivial (enters_of Try.func91 (by kernel_rfl) rfl)
    (all_stops (9 - 1) (by omega) Bm b ms rs hp hr Z hm0 hM0) KpN.t KpN.b (Below.refl _ _) (fun _ => rfl)
    (fun pre W => (∃ v, Boxed W w.heap.size 28 v ∧ W.ownsRow w.heap.size 46 9 v pre.length (rowR pre) ∧ True) ∧ Below w.heap.size w W)
    (fun _ _ _ => False)
    (OwnFrom.and (Own.from (holdsRow_own w.heap.size w.heap.size 28 46 9 (fun pre : List Rt => pre.length) rowR (fun _ _ => True)) _) (ownFrom_below (Nat.le_refl _) (by omega)))
    (fun _ _ _ _ _ hs _ _ => hs)
    ⟨⟨_, bS, World.ownsRow_nil Z _ _ 9, trivial⟩, hB0⟩
    (fun x a' W => ∃ Bx, w.heap.size < Bx ∧ Row W Bx 46 (rtL x) ∧ a' = { tmps := #[.slice none 0 0, .func (.func 91) #[] #[.pointer (some ⟨Bm, 0, none⟩)], .pointer (some ⟨w.heap.size, 0, none⟩), undef, .slice none 0 0, .pointer (some ⟨Bx, 0, none⟩), .func (.func 91) #[] #[.pointer (some ⟨Bm, 0, none⟩)], rtV x, undef, undef, undef, undef, undef], defers := [] })
    (fun x a' _ X Y row hs hg hr => by
      obtain ⟨Bx, h1, h2, h3⟩ := hs
      refine ⟨Bx, h1, (hg.block Bx h2.lt (fun e => ?_)).trans h2, h3⟩
      obtain ⟨_, o, ho, hc⟩ := hr Bx e.symm
      rw [show X.heap[Bx]? = _ from h2] at ho
      cases ho
      cases hc)
    ?assign ?body ?done ?stop
  case assign =>
    rintro l pre x W K ⟨⟨v, bv, hv, -⟩, hB1⟩ hK
    obtain ⟨A, L, M, O, I, T, U, E, C⟩ := x
    unfold rtV rtA at hK ⊢
    simp only at hK ⊢
    gi_wp2
    exact hK _ _ ((KeepsOthers.alloc _ _).from _) (KpN.alloc _ _) ⟨⟨v, bv.alloc _, hv.alloc _, trivial⟩, hB1.alloc hB1.size _⟩ ⟨W.heap.size, bv.lt, Row.new W 46 [.int .i64 A, .int .i64 L, .int .i64 M, .int .i64 O, .int .i64 I, .int .i64 T, .int .i64 U, .int .i64 E, .bool C], rfl⟩
  case body =>
    rintro l pre x a' W hl ⟨r, hr⟩ ⟨⟨v, bv, hv, -⟩, hB1⟩ ⟨Bx, hBx, hRx, rfl⟩ hlt
    obtain ⟨A, L, M, O, I, T, U, E, C⟩ := x
    unfold rtV rtA
    simp only [rtL] at hRx ⊢
    have c0 := bv.cell
    have x0 : W.cell? ⟨Bx, 0, none⟩ = some (.int .i64 A) := hRx.cell 0
    have x1 : W.cell? ⟨Bx, 1, none⟩ = some (.int .i64 L) := hRx.cell 1
    have x2 : W.cell? ⟨Bx, 2, none⟩ = some (.int .i64 M) := hRx.cell 2
    have x3 : W.cell? ⟨Bx, 3, none⟩ = some (.int .i64 O) := hRx.cell 3
    have x4 : W.cell? ⟨Bx, 4, none⟩ = some (.int .i64 I) := hRx.cell 4
    have x5 : W.cell? ⟨Bx, 5, none⟩ = some (.int .i64 T) := hRx.cell 5
    have x6 : W.cell? ⟨Bx, 6, none⟩ = some (.int .i64 U) := hRx.cell 6
    have x7 : W.cell? ⟨Bx, 7, none⟩ = some (.int .i64 E) := hRx.cell 7
    have x8 : W.cell? ⟨Bx, 8, none⟩ = some (.bool C) := hRx.cell 8
    obtain ⟨i0, hi0, hz0, hz1, hz2⟩ := info_parts Try.infoRoute
    gi_wp2_with (gi_at_builtin; refine wpListIn_append_own _ rfl _ _ 28 rfl w.heap.size 46 i0 (.agg #[.int .i64 0, .int .i64 0, .int .i64 0, .int .i64 0, .int .i64 0, .int .i64 0, .int .i64 0, .int .i64 0, .bool false]) 9 72 Try.underlying28 hi0 hz0 hz1 hz2 rfl (by decide) _ _ _ rfl (hv.alloc _) ⟨W.heap.size, 0, none⟩ 1 1 [.int .i64 A, .int .i64 L, .int .i64 M, .int .i64 O, .int .i64 I, .int .i64 T, .int .i64 U, .int .i64 E, .bool C] rfl rfl (cell_nine_new W _ _) (by simp [Value.oneCell']) (by unfold maxLen; omega) (by omega) (by have := hB1.size; simp; omega) ?_; intro v' w1 hown' hgrow _; obtain ⟨g', cap', rfl⟩ := ownsRow_succ hown'; obtain ⟨hv1, hv2, hr2, hk2, hb2⟩ := bv.appended (by decide) hv hB1.size (Nat.le_refl _) hown' hgrow; have hc1 := hv1.cell; have hf1 := hv1.frozen)
    refine ⟨hk2.from _, kpn_appended bv hv hgrow hk2, ⟨_, hv2, ?_, trivial⟩, hB1.trans hb2⟩
    rw [List.length_append, rowR_append]
    exact hr2
  case done =>
    rintro D xs W hD rfl ⟨⟨v, bv, hv, -⟩, hB1⟩ hK
    have c0 := bv.cell
    gi_wp2
    refine ⟨by simp, .inl ⟨_, _, rfl, run_takeDeferred hK, ?_⟩⟩
    refine ⟨_, results_tmp rfl _ _ _, v, rfl, ownsRow_putObj hv _ hK rfl, ?_⟩
    exact hB1.trans (belowK_b (w := w) (Nat.le_refl _) W D _ _ (by omega) hK rfl rfl)
  case stop =>
    rintro D c pre W _ _ h _
    exact h.elim
set_option maxRecDepth 100000 in
theorem collectR (Bm b : Nat) (ms rs : List Rt) (hp : ms.Perm rs) (w : World) (hr : ribB rs = true) (hm : Row w Bm 82 [.map (some b), .func (.func 82) #[] #[]]) (hM : MapIs w b ms) :
    Calls Try.prog 89 #[.func (.func 91) #[] #[.pointer (some ⟨Bm, 0, none⟩)]] w fun e w' => ∃ v, e = .returned v ∧ w'.ownsRow w.heap.size 46 9 v rs.length (rowR rs) ∧ Below w.heap.size w w' := by
  have HA : Hid (Calls Try.prog 106 #[.slice none 0 0, .func (.func 91) #[] #[.pointer (some ⟨Bm, 0, none⟩)]] w fun e w' => ∃ v, e = .returned v ∧ w'.ownsRow w.heap.size 46 9 v rs.length (rowR rs) ∧ Below w.heap.size w w') := appendSeqR Bm b ms rs hp w hr hm hM
  clear hm hM
  go_enter Try.func89, Try.ntmps89
  go_wp2_with fail
  refine (HA.out).mono ?_
  rintro e w1 ⟨v, rfl, h2, h3⟩
  go_wp2
  go_ret
  exact ⟨v, rfl, h2, h3⟩
theorem ownR_set {w : World} {base base' : Nat} {v : Value} {n : Nat} {xs : List Value} (h : w.ownsRow base 46 9 v n xs) (p : Addr) (hp : p.block < base) (u : Value) (hb : base' ≤ base) : (w.setCell p u).ownsRow base' 46 9 v n xs := by
  obtain ⟨h1, h2⟩ := h
  refine ⟨h1, ?_⟩
  rcases h2 with h2 | ⟨g, cap, cur, e, hbg, hg, rest⟩
  · exact .inl h2
  · refine .inr ⟨g, cap, cur, e, by omega, ?_, rest⟩
    rw [Below.heap_setCell w p u g (by omega)]
    exact hg
theorem rows2 (w : World) (x y : List Value) (t1 t2 : TypeId) : ∃ W, W = (w.alloc (.cells x.toArray t1)).alloc (.cells y.toArray t2) ∧ Row W w.heap.size t1 x ∧ Row W (w.heap.size + 1) t2 y ∧ Below w.heap.size w W ∧ W.heap.size = w.heap.size + 1 + 1 := by
  have q0 := (Row.new w t1 x).alloc (.cells y.toArray t2)
  have q1 := Row.new (w.alloc (.cells x.toArray t1)) t2 y
  rw [show (w.alloc (.cells x.toArray t1)).heap.size = w.heap.size + 1 by simp] at q1
  exact ⟨_, rfl, q0, q1, (ent_new0 w _).alloc (by simp) _, by simp⟩
set_option maxRecDepth 100000 in
set_option maxHeartbeats 1000000 in
/-- ribOf: the routes of a table in the order of their nets, in memory of its own. -/
theorem ribOf_any (B : Nat) (ms rs : List Rt) (hp : ms.Perm rs) (hr : ribB rs = true) (w : World) (hM : MapIs w B ms) :
    Calls Try.prog 56 #[tabV B] w fun e w' => ∃ p cap, e = .returned (ribV p rs.length cap) ∧ w'.ownsRow w.heap.size 46 9 (.slice p rs.length cap) rs.length (rowR rs) ∧ Below w.heap.size w w' := by
  have HA : Hid (∀ w, Calls Try.prog 59 #[.agg #[.map (some B), .func (.func 82) #[] #[]]] w fun e w' => e = .returned (.func (.func 91) #[] #[.pointer (some ⟨w.heap.size, 0, none⟩)]) ∧ w.alloc (.cells #[.map (some B), .func (.func 82) #[] #[]] 82) = w') := fun w => all_make B w
  obtain ⟨W, hW, q0, q1, hB, hS⟩ := rows2 w [.map (some B), .func (.func 82) #[] #[]] [.slice none 0 0] 82 30
  have HC : Hid (Calls Try.prog 89 #[.func (.func 91) #[] #[.pointer (some ⟨w.heap.size + 1 + 1, 0, none⟩)]] (W.alloc (.cells #[.map (some B), .func (.func 82) #[] #[]] 82)) fun e w' => ∃ v, e = .returned v ∧ w'.ownsRow (W.alloc (.cells #[.map (some B), .func (.func 82) #[] #[]] 82)).heap.size 46 9 v rs.length (rowR rs) ∧ Below (W.alloc (.cells #[.map (some B), .func (.func 82) #[] #[]] 82)).heap.size (W.alloc (.cells #[.map (some B), .func (.func 82) #[] #[]] 82)) w') := by
    rw [← hS]
    exact collectR W.heap.size B ms rs hp _ hr (Row.new W 82 [.map (some B), .func (.func 82) #[] #[]]) ((hM.below hB hM.lt).below (ent_new0 W _) (hM.below hB hM.lt).lt)
  have c0 : W.cell? ⟨w.heap.size, 0, none⟩ = some (.map (some B)) := q0.cell 0
  have c1 : W.cell? ⟨w.heap.size, 1, none⟩ = some (.func (.func 82) #[] #[]) := q0.cell 1
  have HW : Hid _ := hW
  have HQ : Hid _ := And.intro q1 (And.intro hB hS)
  clear hW q0 q1 hB hM
  unfold tabV
  go_enter Try.func56, Try.ntmps56
  go_wp2_with fail
  rw [← HW.out]
  refine (HA.out _).mono ?_
  rintro e w1 ⟨rfl, rfl⟩
  clear HA HW
  go_wp2_with fail
  refine (HC.out).mono ?_
  rintro e w2 ⟨v, rfl, hv, hb2⟩
  obtain ⟨q1, hB, hS'⟩ := HQ.out
  have hs1 : (W.alloc (.cells #[.map (some B), .func (.func 82) #[] #[]] 82)).heap.size = w.heap.size + 1 + 1 + 1 := by simp; omega
  rw [hs1] at hv hb2
  have q2 := (q1.alloc (.cells #[.map (some B), .func (.func 82) #[] #[]] 82)).below hb2 (by omega)
  have hB2 : Below w.heap.size w w2 := (hB.alloc hB.size _).trans (hb2.mono (by omega))
  obtain ⟨p, cap, rfl⟩ : ∃ p cap, v = .slice p rs.length cap := by
    rcases hv.2 with ⟨rfl, h0⟩ | ⟨g, cap, cur, rfl, _⟩
    · exact ⟨none, 0, by rw [h0]⟩
    · exact ⟨_, cap, rfl⟩
  have d0 : w2.cell? ⟨w.heap.size + 1, 0, none⟩ = some (.slice none 0 0) := q2.cell 0
  have f0 : w2.frozen? ⟨w.heap.size + 1, 0, none⟩ = false := q2.frozen 0
  have hrow := q2.set 0 (.slice p rs.length cap)
  have hbel := hB2.setCell (p := ⟨w.heap.size + 1, 0, none⟩) (by show w.heap.size ≤ w.heap.size + 1; omega) (.slice p rs.length cap)
  have hown : (w2.setCell ⟨w.heap.size + 1, 0, none⟩ (.slice p rs.length cap)).ownsRow w.heap.size 46 9 (.slice p rs.length cap) rs.length (rowR rs) := ownR_set hv _ (by show w.heap.size + 1 < w.heap.size + 1 + 1 + 1; omega) _ (by omega)
  have HZ : Hid _ := And.intro hrow (And.intro hbel hown)
  clear hrow hbel hown q1 q2 hB hB2 hv hb2 HC HQ hs1
  generalize hN : rs.length = N at *
  have HN : Hid (rs.length = N) := hN
  clear hN
  go_wp2_with fail
  have HZ2 := HZ.out
  clear HZ d0 f0 c0 c1
  generalize w2.setCell ⟨w.heap.size + 1, 0, none⟩ (.slice p N cap) = Z at *
  obtain ⟨h1, h2, h3⟩ := HZ2
  have d0 : Z.cell? ⟨w.heap.size + 1, 0, none⟩ = some (.slice p N cap) := h1.cell 0
  refine bodyPost_ret (v := .agg #[.slice p N cap]) (by simp [results, Try.results56, go_sem, d0]) rfl ⟨p, cap, by rw [HN.out]; rfl, by rw [HN.out]; exact h3, h2⟩
end Go.Proofs.Ytaledidomgelcaa
/- An answer of RibOut. -/
namespace Go.Proofs.Ytaledidomgelcaa
open Go.RowKit Go.Sort

/-- An answer of RibOut: its code, its routes in memory of its own. -/
def OutR (base : Nat) (c : Int) (qs : List Rt) (e : Ending) (w : World) : Prop := ∃ p cap, e = .returned (.agg #[.slice p qs.length cap, .int .i64 c]) ∧ w.ownsRow base 46 9 (.slice p qs.length cap) qs.length (rowR qs)
end Go.Proofs.Ytaledidomgelcaa
/- RibTick of the model. (Written by gen_ticks.py.) -/
namespace Go.Proofs.Ytaledidomgelcaa
open Go.RowKit Go.Sort

theorem ownsR_shapeT {w : World} {base n : Nat} {v : Value} {xs : List Value} (h : w.ownsRow base 46 9 v n xs) : ∃ q c, v = .slice q n c := by
  rcases h.2 with ⟨h1, h2⟩ | ⟨g, cap, cur, h1, _⟩
  · exact ⟨none, 0, by rw [h1, h2]⟩
  · exact ⟨_, _, h1⟩
theorem ownsR_belowT {w w' : World} {base n : Nat} {v : Value} {xs : List Value} (h : w.ownsRow base 46 9 v n xs) (hb : Below w.heap.size w w') : w'.ownsRow base 46 9 v n xs :=
  World.ownsRow.kept h (row := none) ⟨hb.os, hb.tape, hb.output, hb.size, fun k hk _ => hb.block k hk⟩ (by cases v.ownBlock <;> simp)
theorem set_owns {w : World} {base n : Nat} {v : Value} {xs : List Value} (h : w.ownsRow base 46 9 v n xs) {g : Nat} (hg : ∀ b, v.ownBlock = some b → b ≠ g) (j : Nat) (x : Value) : (w.setCell ⟨g, j, none⟩ x).ownsRow base 46 9 v n xs := by
  rcases h.2 with ⟨h1, h2⟩ | ⟨k, cap, cur, h1, h2, h3, h4⟩
  · exact ⟨h.1, .inl ⟨h1, h2⟩⟩
  · refine ⟨h.1, .inr ⟨k, cap, cur, h1, h2, (Below.heap_setCell w ⟨g, j, none⟩ x k (fun e => hg k (by rw [h1]; rfl) e)).trans h3, h4⟩⟩
theorem nine0_owns {w : World} {base n : Nat} {v : Value} {xs : List Value} (h : w.ownsRow base 46 9 v n xs) {g : Nat} (hg : ∀ b, v.ownBlock = some b → b ≠ g) (x0 x1 x2 x3 x4 x5 x6 x7 x8 : Value) : (nine0 w g x0 x1 x2 x3 x4 x5 x6 x7 x8).ownsRow base 46 9 v n xs :=
  set_owns (set_owns (set_owns (set_owns (set_owns (set_owns (set_owns (set_owns (set_owns h hg 0 x0) hg 1 x1) hg 2 x2) hg 3 x3) hg 4 x4) hg 5 x5) hg 6 x6) hg 7 x7) hg 8 x8
theorem take_turnL (f : Rt → Option Rt) {rs : List Rt} {k : Nat} (hk : k < rs.length) : (rs.take (k + 1)).filterMap f = (rs.take k).filterMap f ++ (f rs[k]).toList := take_turn f hk
set_option maxRecDepth 100000 in
set_option maxHeartbeats 4000000 in
theorem l06Tick_any (p : Option Addr) (cap : Nat) (rs : List Rt) (now : Int) (w : World) (h : RtsIn w p rs) (hn : rs.length ≤ 100000000) (hn0 : 0 ≤ now) (hn1 : now ≤ 999900) :
    Calls Try.prog 58 #[ribV p rs.length cap, .int .i64 now] w fun e w' => ∃ q c, e = .returned (ribV q (rs.filterMap (tickD now)).length c) ∧ w'.ownsRow w.heap.size 46 9 (.slice q (rs.filterMap (tickD now)).length c) (rs.filterMap (tickD now)).length (rowR (rs.filterMap (tickD now))) ∧ Below w.heap.size w w' := by
  have HD : Hid (∀ r w, Calls Try.prog 90 #[rtV r, .int .i64 now] w fun e w' => e = .returned (rtV (deadR r now)) ∧ Below w.heap.size w w') := fun r w => l06Dead_any r now w hn0 hn1
  have HX : Hid (RtsIn w p rs) := h
  clear h
  obtain ⟨W, hW, q0, q1, q2, hB, hS, -⟩ := rows3 w [.slice p rs.length cap] [.slice none 0 0] [.slice none 0 0] 30 30 30
  have HW : Hid _ := hW
  have HQ : Hid _ := And.intro q0 (And.intro q1 (And.intro q2 hB))
  have nz0 : w.heap.size ≠ w.heap.size + 1 + 1 := by omega
  have nz1 : w.heap.size + 1 ≠ w.heap.size + 1 + 1 := by omega
  clear hW q0 q1 q2 hB
  unfold ribV
  go_enter Try.func58, Try.ntmps58
  go_wp2_with fail
  rw [← HW.out]
  go_loopw [6] (fun i wr => ∃ (k : Nat) (v : Value), k ≤ rs.length ∧ i = .int .i64 k ∧ Row wr w.heap.size 30 [.slice p rs.length cap] ∧ Row wr (w.heap.size + 1) 30 [.slice none 0 0] ∧ Row wr (w.heap.size + 1 + 1) 30 [v] ∧ wr.ownsRow W.heap.size 46 9 v ((rs.take k).filterMap (tickD now)).length (rowR ((rs.take k).filterMap (tickD now))) ∧ Below w.heap.size w wr ∧ W.heap.size ≤ wr.heap.size) (fun i _ => rs.length - (intOf i).toNat)
  case atStart => exact ⟨0, .slice none 0 0, Nat.zero_le _, rfl, HQ.out.1, HQ.out.2.1, HQ.out.2.2.1, World.ownsRow_nil _ _ _ 9, HQ.out.2.2.2, Nat.le_refl _⟩
  case round =>
    obtain ⟨k, v, hk, rfl, r0, r1, r2, hown, hB, hWs⟩ := hrel
    clear HW HQ
    have x0 : wr.cell? ⟨w.heap.size, 0, none⟩ = some (.slice p rs.length cap) := r0.cell 0
    obtain ⟨q, cv, rfl⟩ := ownsR_shapeT hown
    by_cases hlt : k < rs.length
    · have d1 : decide ((k : Int) < (rs.length : Int)) = true := by simpa using hlt
      obtain ⟨g, a, l, m, n, ii, t, u, b, c, rfl, hg, hek, c0, c1, c2, c3, c4, c5, c6, c7, c8⟩ := ((HX.out).below hB).at k hlt
      have hnx := take_turnL (tickD now) hlt
      rw [hek] at hnx
      by_cases hb : dueB b now = true
      · have HTK : Hid ((rs.take (k + 1)).filterMap (tickD now) = (rs.take k).filterMap (tickD now)) := by
          show _ = _
          rw [hnx, show tickD now (⟨a, l, m, n, ii, t, u, b, c⟩ : Rt) = none by simp [tickD, hb]]
          simp
        simp only [dueB, Bool.and_eq_true, decide_eq_true_eq] at hb
        have db1 : decide (0 < b) = true := by simpa using hb.1
        have db2 : decide (b ≤ now) = true := by simpa using hb.2
        have HZ : Hid _ := And.intro (r0.alloc (.cells #[.int .i64 a, .int .i64 l, .int .i64 m, .int .i64 n, .int .i64 ii, .int .i64 t, .int .i64 u, .int .i64 b, .bool c] 46)) (And.intro (r1.alloc (.cells #[.int .i64 a, .int .i64 l, .int .i64 m, .int .i64 n, .int .i64 ii, .int .i64 t, .int .i64 u, .int .i64 b, .bool c] 46)) (And.intro (r2.alloc (.cells #[.int .i64 a, .int .i64 l, .int .i64 m, .int .i64 n, .int .i64 ii, .int .i64 t, .int .i64 u, .int .i64 b, .bool c] 46)) (And.intro (World.ownsRow.alloc hown (.cells #[.int .i64 a, .int .i64 l, .int .i64 m, .int .i64 n, .int .i64 ii, .int .i64 t, .int .i64 u, .int .i64 b, .bool c] 46)) (hB.alloc hB.size (.cells #[.int .i64 a, .int .i64 l, .int .i64 m, .int .i64 n, .int .i64 ii, .int .i64 t, .int .i64 u, .int .i64 b, .bool c] 46)))))
        clear r0 r1 r2 hown hB hb hnx hek
        go_wp2_with fail
        go_roundw
        case rel => exact ⟨k + 1, _, hlt, by go_num, HZ.out.1, HZ.out.2.1, HZ.out.2.2.1, by rw [HTK.out]; exact HZ.out.2.2.2.1, HZ.out.2.2.2.2, by simp; omega⟩
        case measure => simp [intOf]; omega
      · have hb0 := hb
        simp only [dueB, Bool.and_eq_true, decide_eq_true_eq] at hb0
        by_cases hb1 : 0 < b
        · have db1 : decide (0 < b) = true := by simpa using hb1
          have db2 : decide (b ≤ now) = false := by simp; omega
          clear hb0 hb1
          by_cases hu : dueB u now = true
          · have HTK : Hid ((rs.take (k + 1)).filterMap (tickD now) = (rs.take k).filterMap (tickD now) ++ [(⟨a, l, 16, n, ii, t, 0, now + 4, true⟩ : Rt)]) := by
              show _ = _
              rw [hnx, show tickD now (⟨a, l, m, n, ii, t, u, b, c⟩ : Rt) = some (⟨a, l, 16, n, ii, t, 0, now + 4, true⟩ : Rt) by simp [tickD, hb, hu, deadR]]
              rfl
            have hob : Hid (∀ b, (Value.slice q ((rs.take k).filterMap (tickD now)).length cv).ownBlock = some b → b ≠ wr.heap.size) := fun b e h => by have := (World.ownsRow.lt hown b e).2; omega
            simp only [dueB, Bool.and_eq_true, decide_eq_true_eq] at hu
            have du1 : decide (0 < u) = true := by simpa using hu.1
            have du2 : decide (u ≤ now) = true := by simpa using hu.2
            clear hb hu hnx
            have r0 := r0.alloc (.cells #[.int .i64 a, .int .i64 l, .int .i64 m, .int .i64 n, .int .i64 ii, .int .i64 t, .int .i64 u, .int .i64 b, .bool c] 46)
            have r1 := r1.alloc (.cells #[.int .i64 a, .int .i64 l, .int .i64 m, .int .i64 n, .int .i64 ii, .int .i64 t, .int .i64 u, .int .i64 b, .bool c] 46)
            have r2 := r2.alloc (.cells #[.int .i64 a, .int .i64 l, .int .i64 m, .int .i64 n, .int .i64 ii, .int .i64 t, .int .i64 u, .int .i64 b, .bool c] 46)
            have hown := World.ownsRow.alloc hown (.cells #[.int .i64 a, .int .i64 l, .int .i64 m, .int .i64 n, .int .i64 ii, .int .i64 t, .int .i64 u, .int .i64 b, .bool c] 46)
            have hB := hB.alloc hB.size (.cells #[.int .i64 a, .int .i64 l, .int .i64 m, .int .i64 n, .int .i64 ii, .int .i64 t, .int .i64 u, .int .i64 b, .bool c] 46)
            have hWs0 : W.heap.size ≤ wr.heap.size := hWs
            have hWs : W.heap.size ≤ (wr.alloc (.cells #[.int .i64 a, .int .i64 l, .int .i64 m, .int .i64 n, .int .i64 ii, .int .i64 t, .int .i64 u, .int .i64 b, .bool c] 46)).heap.size := by simp; omega
            have y2 : (wr.alloc (.cells #[.int .i64 a, .int .i64 l, .int .i64 m, .int .i64 n, .int .i64 ii, .int .i64 t, .int .i64 u, .int .i64 b, .bool c] 46)).cell? ⟨w.heap.size + 1 + 1, 0, none⟩ = some (.slice q ((rs.take k).filterMap (tickD now)).length cv) := r2.cell 0
            have qb := Row.new wr 46 [.int .i64 a, .int .i64 l, .int .i64 m, .int .i64 n, .int .i64 ii, .int .i64 t, .int .i64 u, .int .i64 b, .bool c]
            have HE : Hid _ := And.intro r0 (And.intro r1 (And.intro r2 (And.intro hown (And.intro hB qb))))
            have HDk : Hid (∀ w, Calls Try.prog 90 #[.agg #[.int .i64 a, .int .i64 l, .int .i64 m, .int .i64 n, .int .i64 ii, .int .i64 t, .int .i64 u, .int .i64 b, .bool c], .int .i64 now] w fun e w' => e = .returned (.agg #[.int .i64 a, .int .i64 l, .int .i64 16, .int .i64 n, .int .i64 ii, .int .i64 t, .int .i64 0, .int .i64 (now + 4), .bool true]) ∧ Below w.heap.size w w') := HD.out (⟨a, l, m, n, ii, t, u, b, c⟩ : Rt)
            clear r0 r1 r2 hown hB qb y2 hek
            go_wp2_with fail
            refine (HDk.out _).mono ?_
            rintro e w2 ⟨rfl, hb2⟩
            obtain ⟨r0, r1, r2, hown, hB, qb⟩ := HE.out
            have r0 := r0.below hb2 r0.lt
            have r1 := r1.below hb2 r1.lt
            have r2 := r2.below hb2 r2.lt
            have qb := qb.below hb2 qb.lt
            have hown := ownsR_belowT hown hb2
            have hB := hB.trans (hb2.mono hB.size)
            have hWs : W.heap.size ≤ w2.heap.size := Nat.le_trans hWs hb2.size
            clear HE HDk hb2 c0 c1 c2 c3 c4 c5 c6 c7 c8 x0
            have e0 : w2.cell? ⟨wr.heap.size, 0, none⟩ = some (.int .i64 a) := qb.cell 0
            have g0 : w2.frozen? ⟨wr.heap.size, 0, none⟩ = false := qb.frozen 0
            have e1 : w2.cell? ⟨wr.heap.size, 1, none⟩ = some (.int .i64 l) := qb.cell 1
            have g1 : w2.frozen? ⟨wr.heap.size, 1, none⟩ = false := qb.frozen 1
            have e2 : w2.cell? ⟨wr.heap.size, 2, none⟩ = some (.int .i64 m) := qb.cell 2
            have g2 : w2.frozen? ⟨wr.heap.size, 2, none⟩ = false := qb.frozen 2
            have e3 : w2.cell? ⟨wr.heap.size, 3, none⟩ = some (.int .i64 n) := qb.cell 3
            have g3 : w2.frozen? ⟨wr.heap.size, 3, none⟩ = false := qb.frozen 3
            have e4 : w2.cell? ⟨wr.heap.size, 4, none⟩ = some (.int .i64 ii) := qb.cell 4
            have g4 : w2.frozen? ⟨wr.heap.size, 4, none⟩ = false := qb.frozen 4
            have e5 : w2.cell? ⟨wr.heap.size, 5, none⟩ = some (.int .i64 t) := qb.cell 5
            have g5 : w2.frozen? ⟨wr.heap.size, 5, none⟩ = false := qb.frozen 5
            have e6 : w2.cell? ⟨wr.heap.size, 6, none⟩ = some (.int .i64 u) := qb.cell 6
            have g6 : w2.frozen? ⟨wr.heap.size, 6, none⟩ = false := qb.frozen 6
            have e7 : w2.cell? ⟨wr.heap.size, 7, none⟩ = some (.int .i64 b) := qb.cell 7
            have g7 : w2.frozen? ⟨wr.heap.size, 7, none⟩ = false := qb.frozen 7
            have e8 : w2.cell? ⟨wr.heap.size, 8, none⟩ = some (.bool c) := qb.cell 8
            have g8 : w2.frozen? ⟨wr.heap.size, 8, none⟩ = false := qb.frozen 8
            have nx0 : w.heap.size ≠ wr.heap.size := by omega
            have nx1 : w.heap.size + 1 ≠ wr.heap.size := by omega
            have nx2 : w.heap.size + 1 + 1 ≠ wr.heap.size := by omega
            have m2 : ¬ wr.heap.size = w.heap.size + 1 + 1 := by omega
            have m2' : ¬ w.heap.size + 1 + 1 = wr.heap.size := by omega
            have y2 : w2.cell? ⟨w.heap.size + 1 + 1, 0, none⟩ = some (.slice q ((rs.take k).filterMap (tickD now)).length cv) := r2.cell 0
            have r0 := nine0_other r0 wr.heap.size nx0 (.int .i64 a) (.int .i64 l) (.int .i64 16) (.int .i64 n) (.int .i64 ii) (.int .i64 t) (.int .i64 0) (.int .i64 (now + 4)) (.bool true)
            have r1 := nine0_other r1 wr.heap.size nx1 (.int .i64 a) (.int .i64 l) (.int .i64 16) (.int .i64 n) (.int .i64 ii) (.int .i64 t) (.int .i64 0) (.int .i64 (now + 4)) (.bool true)
            have r2 := nine0_other r2 wr.heap.size nx2 (.int .i64 a) (.int .i64 l) (.int .i64 16) (.int .i64 n) (.int .i64 ii) (.int .i64 t) (.int .i64 0) (.int .i64 (now + 4)) (.bool true)
            have hB := nine0_below hB wr.heap.size (by have := hWs0; omega) (.int .i64 a) (.int .i64 l) (.int .i64 16) (.int .i64 n) (.int .i64 ii) (.int .i64 t) (.int .i64 0) (.int .i64 (now + 4)) (.bool true)
            have hown : (nine0 w2 wr.heap.size (.int .i64 a) (.int .i64 l) (.int .i64 16) (.int .i64 n) (.int .i64 ii) (.int .i64 t) (.int .i64 0) (.int .i64 (now + 4)) (.bool true)).ownsRow W.heap.size 46 9 (.slice q ((rs.take k).filterMap (tickD now)).length cv) ((rs.take k).filterMap (tickD now)).length (rowR ((rs.take k).filterMap (tickD now))) := nine0_owns hown (hob.out)  (.int .i64 a) (.int .i64 l) (.int .i64 16) (.int .i64 n) (.int .i64 ii) (.int .i64 t) (.int .i64 0) (.int .i64 (now + 4)) (.bool true)
            have hWs : W.heap.size ≤ (nine0 w2 wr.heap.size (.int .i64 a) (.int .i64 l) (.int .i64 16) (.int .i64 n) (.int .i64 ii) (.int .i64 t) (.int .i64 0) (.int .i64 (now + 4)) (.bool true)).heap.size := by unfold nine0; simpa using hWs
            generalize hY : nine0 w2 wr.heap.size (.int .i64 a) (.int .i64 l) (.int .i64 16) (.int .i64 n) (.int .i64 ii) (.int .i64 t) (.int .i64 0) (.int .i64 (now + 4)) (.bool true) = Y at r0 r1 r2 hB hown hWs
            have hn0' : Y.heap.size ≥ W.heap.size := hWs
            have qn := Row.new (Y) 46 [.int .i64 a, .int .i64 l, .int .i64 16, .int .i64 n, .int .i64 ii, .int .i64 t, .int .i64 0, .int .i64 (now + 4), .bool true]
            have r0 := r0.alloc (.cells #[.int .i64 a, .int .i64 l, .int .i64 16, .int .i64 n, .int .i64 ii, .int .i64 t, .int .i64 0, .int .i64 (now + 4), .bool true] 46)
            have r1 := r1.alloc (.cells #[.int .i64 a, .int .i64 l, .int .i64 16, .int .i64 n, .int .i64 ii, .int .i64 t, .int .i64 0, .int .i64 (now + 4), .bool true] 46)
            have r2 := r2.alloc (.cells #[.int .i64 a, .int .i64 l, .int .i64 16, .int .i64 n, .int .i64 ii, .int .i64 t, .int .i64 0, .int .i64 (now + 4), .bool true] 46)
            have hB := hB.alloc hB.size (.cells #[.int .i64 a, .int .i64 l, .int .i64 16, .int .i64 n, .int .i64 ii, .int .i64 t, .int .i64 0, .int .i64 (now + 4), .bool true] 46)
            obtain ⟨v5, w5, happ, hown5, hb5⟩ := run_append_rts (Y.alloc (.cells #[.int .i64 a, .int .i64 l, .int .i64 16, .int .i64 n, .int .i64 ii, .int .i64 t, .int .i64 0, .int .i64 (now + 4), .bool true] 46)) W.heap.size (.slice q ((rs.take k).filterMap (tickD now)).length cv) ((rs.take k).filterMap (tickD now)) [(⟨a, l, 16, n, ii, t, 0, now + 4, true⟩ : Rt)] (some ⟨(Y).heap.size, 0, none⟩) 1 28 (World.ownsRow.alloc hown _) (fun e => by cases e) (fun ad e j x hj => by
              cases e
              rw [addR, Nat.zero_add, qn.cell]
              exact hj) (by have := List.length_filterMap_le (tickD now) (rs.take k); rw [List.length_take] at this; simp only [List.length_singleton]; omega) (by simp; omega)
            rw [List.length_singleton] at happ
            have hsz : (Y).heap.size = w2.heap.size := by rw [← hY]; unfold nine0; simp
            rw [hsz] at happ
            generalize hq5 : (rs.take k).filterMap (tickD now) ++ [(⟨a, l, 16, n, ii, t, 0, now + 4, true⟩ : Rt)] = Q5 at hown5
            have HQ5 : Hid _ := hq5
            clear hq5
            obtain ⟨q5, c5, rfl⟩ := ownsR_shapeT hown5
            have r0 := r0.below hb5 (by omega)
            have r1 := r1.below hb5 (by omega)
            have r2 := r2.below hb5 (by omega)
            have hB := hB.trans (hb5.mono (by omega))
            have hs5 : W.heap.size ≤ w5.heap.size := by have := hb5.size; simp at this; omega
            have f0 : w5.frozen? ⟨w.heap.size + 1 + 1, 0, none⟩ = false := r2.frozen 0
            have z0 : w5.cell? ⟨w.heap.size + 1 + 1, 0, none⟩ = some (.slice q ((rs.take k).filterMap (tickD now)).length cv) := r2.cell 0
            have HZ : Hid _ := And.intro (r0.other 0 (.slice q5 Q5.length c5) nz0) (And.intro (r1.other 0 (.slice q5 Q5.length c5) nz1) (And.intro (r2.set 0 (.slice q5 Q5.length c5)) (And.intro (ownR_set (base' := W.heap.size) hown5 ⟨w.heap.size + 1 + 1, 0, none⟩ (by show w.heap.size + 1 + 1 < W.heap.size; omega) (.slice q5 Q5.length c5) (Nat.le_refl _)) (hB.setCell (p := ⟨w.heap.size + 1 + 1, 0, none⟩) (by show w.heap.size ≤ w.heap.size + 1 + 1; omega) (.slice q5 Q5.length c5)))))
            clear r0 r1 r2 hB hown hown5 hb5 qn qb nx0 nx1 nx2
            unfold nine0 at hY
            rw [← hY] at happ
            clear hY hsz
            go_wp2_with (at_builtin; refine wpList_append_runs rfl _ _ 28 rfl _ _ rfl rfl happ ?_)
            go_roundw
            case rel => exact ⟨k + 1, .slice q5 Q5.length c5, hlt, by go_num, HZ.out.1, HZ.out.2.1, HZ.out.2.2.1, by rw [HTK.out, HQ5.out]; exact HZ.out.2.2.2.1, HZ.out.2.2.2.2, by simpa using hs5⟩
            case measure => simp [intOf]; omega
          · have HTK : Hid ((rs.take (k + 1)).filterMap (tickD now) = (rs.take k).filterMap (tickD now) ++ [(⟨a, l, m, n, ii, t, u, b, c⟩ : Rt)]) := by
              show _ = _
              rw [hnx, show tickD now (⟨a, l, m, n, ii, t, u, b, c⟩ : Rt) = some (⟨a, l, m, n, ii, t, u, b, c⟩ : Rt) by simp [tickD, hb, hu]]
              rfl
            simp only [dueB, Bool.and_eq_true, decide_eq_true_eq] at hu
            by_cases hu1 : 0 < u
            · have du1 : decide (0 < u) = true := by simpa using hu1
              have du2 : decide (u ≤ now) = false := by simp; omega
              clear hb hu hnx hu1
              have r0 := r0.alloc (.cells #[.int .i64 a, .int .i64 l, .int .i64 m, .int .i64 n, .int .i64 ii, .int .i64 t, .int .i64 u, .int .i64 b, .bool c] 46)
              have r1 := r1.alloc (.cells #[.int .i64 a, .int .i64 l, .int .i64 m, .int .i64 n, .int .i64 ii, .int .i64 t, .int .i64 u, .int .i64 b, .bool c] 46)
              have r2 := r2.alloc (.cells #[.int .i64 a, .int .i64 l, .int .i64 m, .int .i64 n, .int .i64 ii, .int .i64 t, .int .i64 u, .int .i64 b, .bool c] 46)
              have hown := World.ownsRow.alloc hown (.cells #[.int .i64 a, .int .i64 l, .int .i64 m, .int .i64 n, .int .i64 ii, .int .i64 t, .int .i64 u, .int .i64 b, .bool c] 46)
              have hB := hB.alloc hB.size (.cells #[.int .i64 a, .int .i64 l, .int .i64 m, .int .i64 n, .int .i64 ii, .int .i64 t, .int .i64 u, .int .i64 b, .bool c] 46)
              have hWs0 : W.heap.size ≤ wr.heap.size := hWs
              have hWs : W.heap.size ≤ (wr.alloc (.cells #[.int .i64 a, .int .i64 l, .int .i64 m, .int .i64 n, .int .i64 ii, .int .i64 t, .int .i64 u, .int .i64 b, .bool c] 46)).heap.size := by simp; omega
              have y2 : (wr.alloc (.cells #[.int .i64 a, .int .i64 l, .int .i64 m, .int .i64 n, .int .i64 ii, .int .i64 t, .int .i64 u, .int .i64 b, .bool c] 46)).cell? ⟨w.heap.size + 1 + 1, 0, none⟩ = some (.slice q ((rs.take k).filterMap (tickD now)).length cv) := r2.cell 0
              have hn0' : (wr.alloc (.cells #[.int .i64 a, .int .i64 l, .int .i64 m, .int .i64 n, .int .i64 ii, .int .i64 t, .int .i64 u, .int .i64 b, .bool c] 46)).heap.size ≥ W.heap.size := hWs
              have qn := Row.new ((wr.alloc (.cells #[.int .i64 a, .int .i64 l, .int .i64 m, .int .i64 n, .int .i64 ii, .int .i64 t, .int .i64 u, .int .i64 b, .bool c] 46))) 46 [.int .i64 a, .int .i64 l, .int .i64 m, .int .i64 n, .int .i64 ii, .int .i64 t, .int .i64 u, .int .i64 b, .bool c]
              have r0 := r0.alloc (.cells #[.int .i64 a, .int .i64 l, .int .i64 m, .int .i64 n, .int .i64 ii, .int .i64 t, .int .i64 u, .int .i64 b, .bool c] 46)
              have r1 := r1.alloc (.cells #[.int .i64 a, .int .i64 l, .int .i64 m, .int .i64 n, .int .i64 ii, .int .i64 t, .int .i64 u, .int .i64 b, .bool c] 46)
              have r2 := r2.alloc (.cells #[.int .i64 a, .int .i64 l, .int .i64 m, .int .i64 n, .int .i64 ii, .int .i64 t, .int .i64 u, .int .i64 b, .bool c] 46)
              have hB := hB.alloc hB.size (.cells #[.int .i64 a, .int .i64 l, .int .i64 m, .int .i64 n, .int .i64 ii, .int .i64 t, .int .i64 u, .int .i64 b, .bool c] 46)
              obtain ⟨v5, w5, happ, hown5, hb5⟩ := run_append_rts ((wr.alloc (.cells #[.int .i64 a, .int .i64 l, .int .i64 m, .int .i64 n, .int .i64 ii, .int .i64 t, .int .i64 u, .int .i64 b, .bool c] 46)).alloc (.cells #[.int .i64 a, .int .i64 l, .int .i64 m, .int .i64 n, .int .i64 ii, .int .i64 t, .int .i64 u, .int .i64 b, .bool c] 46)) W.heap.size (.slice q ((rs.take k).filterMap (tickD now)).length cv) ((rs.take k).filterMap (tickD now)) [(⟨a, l, m, n, ii, t, u, b, c⟩ : Rt)] (some ⟨((wr.alloc (.cells #[.int .i64 a, .int .i64 l, .int .i64 m, .int .i64 n, .int .i64 ii, .int .i64 t, .int .i64 u, .int .i64 b, .bool c] 46))).heap.size, 0, none⟩) 1 28 (World.ownsRow.alloc hown _) (fun e => by cases e) (fun ad e j x hj => by
                cases e
                rw [addR, Nat.zero_add, qn.cell]
                exact hj) (by have := List.length_filterMap_le (tickD now) (rs.take k); rw [List.length_take] at this; simp only [List.length_singleton]; omega) (by simp; omega)
              rw [List.length_singleton] at happ
              have hsz : ((wr.alloc (.cells #[.int .i64 a, .int .i64 l, .int .i64 m, .int .i64 n, .int .i64 ii, .int .i64 t, .int .i64 u, .int .i64 b, .bool c] 46))).heap.size = wr.heap.size + 1 := by simp
              rw [hsz] at happ
              generalize hq5 : (rs.take k).filterMap (tickD now) ++ [(⟨a, l, m, n, ii, t, u, b, c⟩ : Rt)] = Q5 at hown5
              have HQ5 : Hid _ := hq5
              clear hq5
              obtain ⟨q5, c5, rfl⟩ := ownsR_shapeT hown5
              have r0 := r0.below hb5 (by omega)
              have r1 := r1.below hb5 (by omega)
              have r2 := r2.below hb5 (by omega)
              have hB := hB.trans (hb5.mono (by omega))
              have hs5 : W.heap.size ≤ w5.heap.size := by have := hb5.size; simp at this; omega
              have f0 : w5.frozen? ⟨w.heap.size + 1 + 1, 0, none⟩ = false := r2.frozen 0
              have z0 : w5.cell? ⟨w.heap.size + 1 + 1, 0, none⟩ = some (.slice q ((rs.take k).filterMap (tickD now)).length cv) := r2.cell 0
              have HZ : Hid _ := And.intro (r0.other 0 (.slice q5 Q5.length c5) nz0) (And.intro (r1.other 0 (.slice q5 Q5.length c5) nz1) (And.intro (r2.set 0 (.slice q5 Q5.length c5)) (And.intro (ownR_set (base' := W.heap.size) hown5 ⟨w.heap.size + 1 + 1, 0, none⟩ (by show w.heap.size + 1 + 1 < W.heap.size; omega) (.slice q5 Q5.length c5) (Nat.le_refl _)) (hB.setCell (p := ⟨w.heap.size + 1 + 1, 0, none⟩) (by show w.heap.size ≤ w.heap.size + 1 + 1; omega) (.slice q5 Q5.length c5)))))
              clear r0 r1 r2 hB hown hown5 hb5 qn 
              go_wp2_with (at_builtin; refine wpList_append_runs rfl _ _ 28 rfl _ _ rfl rfl happ ?_)
              go_roundw
              case rel => exact ⟨k + 1, .slice q5 Q5.length c5, hlt, by go_num, HZ.out.1, HZ.out.2.1, HZ.out.2.2.1, by rw [HTK.out, HQ5.out]; exact HZ.out.2.2.2.1, HZ.out.2.2.2.2, by simpa using hs5⟩
              case measure => simp [intOf]; omega
            · have du1 : decide (0 < u) = false := by simpa using hu1
              clear hb hu hnx hu1
              have r0 := r0.alloc (.cells #[.int .i64 a, .int .i64 l, .int .i64 m, .int .i64 n, .int .i64 ii, .int .i64 t, .int .i64 u, .int .i64 b, .bool c] 46)
              have r1 := r1.alloc (.cells #[.int .i64 a, .int .i64 l, .int .i64 m, .int .i64 n, .int .i64 ii, .int .i64 t, .int .i64 u, .int .i64 b, .bool c] 46)
              have r2 := r2.alloc (.cells #[.int .i64 a, .int .i64 l, .int .i64 m, .int .i64 n, .int .i64 ii, .int .i64 t, .int .i64 u, .int .i64 b, .bool c] 46)
              have hown := World.ownsRow.alloc hown (.cells #[.int .i64 a, .int .i64 l, .int .i64 m, .int .i64 n, .int .i64 ii, .int .i64 t, .int .i64 u, .int .i64 b, .bool c] 46)
              have hB := hB.alloc hB.size (.cells #[.int .i64 a, .int .i64 l, .int .i64 m, .int .i64 n, .int .i64 ii, .int .i64 t, .int .i64 u, .int .i64 b, .bool c] 46)
              have hWs0 : W.heap.size ≤ wr.heap.size := hWs
              have hWs : W.heap.size ≤ (wr.alloc (.cells #[.int .i64 a, .int .i64 l, .int .i64 m, .int .i64 n, .int .i64 ii, .int .i64 t, .int .i64 u, .int .i64 b, .bool c] 46)).heap.size := by simp; omega
              have y2 : (wr.alloc (.cells #[.int .i64 a, .int .i64 l, .int .i64 m, .int .i64 n, .int .i64 ii, .int .i64 t, .int .i64 u, .int .i64 b, .bool c] 46)).cell? ⟨w.heap.size + 1 + 1, 0, none⟩ = some (.slice q ((rs.take k).filterMap (tickD now)).length cv) := r2.cell 0
              have hn0' : (wr.alloc (.cells #[.int .i64 a, .int .i64 l, .int .i64 m, .int .i64 n, .int .i64 ii, .int .i64 t, .int .i64 u, .int .i64 b, .bool c] 46)).heap.size ≥ W.heap.size := hWs
              have qn := Row.new ((wr.alloc (.cells #[.int .i64 a, .int .i64 l, .int .i64 m, .int .i64 n, .int .i64 ii, .int .i64 t, .int .i64 u, .int .i64 b, .bool c] 46))) 46 [.int .i64 a, .int .i64 l, .int .i64 m, .int .i64 n, .int .i64 ii, .int .i64 t, .int .i64 u, .int .i64 b, .bool c]
              have r0 := r0.alloc (.cells #[.int .i64 a, .int .i64 l, .int .i64 m, .int .i64 n, .int .i64 ii, .int .i64 t, .int .i64 u, .int .i64 b, .bool c] 46)
              have r1 := r1.alloc (.cells #[.int .i64 a, .int .i64 l, .int .i64 m, .int .i64 n, .int .i64 ii, .int .i64 t, .int .i64 u, .int .i64 b, .bool c] 46)
              have r2 := r2.alloc (.cells #[.int .i64 a, .int .i64 l, .int .i64 m, .int .i64 n, .int .i64 ii, .int .i64 t, .int .i64 u, .int .i64 b, .bool c] 46)
              have hB := hB.alloc hB.size (.cells #[.int .i64 a, .int .i64 l, .int .i64 m, .int .i64 n, .int .i64 ii, .int .i64 t, .int .i64 u, .int .i64 b, .bool c] 46)
              obtain ⟨v5, w5, happ, hown5, hb5⟩ := run_append_rts ((wr.alloc (.cells #[.int .i64 a, .int .i64 l, .int .i64 m, .int .i64 n, .int .i64 ii, .int .i64 t, .int .i64 u, .int .i64 b, .bool c] 46)).alloc (.cells #[.int .i64 a, .int .i64 l, .int .i64 m, .int .i64 n, .int .i64 ii, .int .i64 t, .int .i64 u, .int .i64 b, .bool c] 46)) W.heap.size (.slice q ((rs.take k).filterMap (tickD now)).length cv) ((rs.take k).filterMap (tickD now)) [(⟨a, l, m, n, ii, t, u, b, c⟩ : Rt)] (some ⟨((wr.alloc (.cells #[.int .i64 a, .int .i64 l, .int .i64 m, .int .i64 n, .int .i64 ii, .int .i64 t, .int .i64 u, .int .i64 b, .bool c] 46))).heap.size, 0, none⟩) 1 28 (World.ownsRow.alloc hown _) (fun e => by cases e) (fun ad e j x hj => by
                cases e
                rw [addR, Nat.zero_add, qn.cell]
                exact hj) (by have := List.length_filterMap_le (tickD now) (rs.take k); rw [List.length_take] at this; simp only [List.length_singleton]; omega) (by simp; omega)
              rw [List.length_singleton] at happ
              have hsz : ((wr.alloc (.cells #[.int .i64 a, .int .i64 l, .int .i64 m, .int .i64 n, .int .i64 ii, .int .i64 t, .int .i64 u, .int .i64 b, .bool c] 46))).heap.size = wr.heap.size + 1 := by simp
              rw [hsz] at happ
              generalize hq5 : (rs.take k).filterMap (tickD now) ++ [(⟨a, l, m, n, ii, t, u, b, c⟩ : Rt)] = Q5 at hown5
              have HQ5 : Hid _ := hq5
              clear hq5
              obtain ⟨q5, c5, rfl⟩ := ownsR_shapeT hown5
              have r0 := r0.below hb5 (by omega)
              have r1 := r1.below hb5 (by omega)
              have r2 := r2.below hb5 (by omega)
              have hB := hB.trans (hb5.mono (by omega))
              have hs5 : W.heap.size ≤ w5.heap.size := by have := hb5.size; simp at this; omega
              have f0 : w5.frozen? ⟨w.heap.size + 1 + 1, 0, none⟩ = false := r2.frozen 0
              have z0 : w5.cell? ⟨w.heap.size + 1 + 1, 0, none⟩ = some (.slice q ((rs.take k).filterMap (tickD now)).length cv) := r2.cell 0
              have HZ : Hid _ := And.intro (r0.other 0 (.slice q5 Q5.length c5) nz0) (And.intro (r1.other 0 (.slice q5 Q5.length c5) nz1) (And.intro (r2.set 0 (.slice q5 Q5.length c5)) (And.intro (ownR_set (base' := W.heap.size) hown5 ⟨w.heap.size + 1 + 1, 0, none⟩ (by show w.heap.size + 1 + 1 < W.heap.size; omega) (.slice q5 Q5.length c5) (Nat.le_refl _)) (hB.setCell (p := ⟨w.heap.size + 1 + 1, 0, none⟩) (by show w.heap.size ≤ w.heap.size + 1 + 1; omega) (.slice q5 Q5.length c5)))))
              clear r0 r1 r2 hB hown hown5 hb5 qn 
              go_wp2_with (at_builtin; refine wpList_append_runs rfl _ _ 28 rfl _ _ rfl rfl happ ?_)
              go_roundw
              case rel => exact ⟨k + 1, .slice q5 Q5.length c5, hlt, by go_num, HZ.out.1, HZ.out.2.1, HZ.out.2.2.1, by rw [HTK.out, HQ5.out]; exact HZ.out.2.2.2.1, HZ.out.2.2.2.2, by simpa using hs5⟩
              case measure => simp [intOf]; omega
        · have db1 : decide (0 < b) = false := by simpa using hb1
          clear hb0 hb1
          by_cases hu : dueB u now = true
          · have HTK : Hid ((rs.take (k + 1)).filterMap (tickD now) = (rs.take k).filterMap (tickD now) ++ [(⟨a, l, 16, n, ii, t, 0, now + 4, true⟩ : Rt)]) := by
              show _ = _
              rw [hnx, show tickD now (⟨a, l, m, n, ii, t, u, b, c⟩ : Rt) = some (⟨a, l, 16, n, ii, t, 0, now + 4, true⟩ : Rt) by simp [tickD, hb, hu, deadR]]
              rfl
            have hob : Hid (∀ b, (Value.slice q ((rs.take k).filterMap (tickD now)).length cv).ownBlock = some b → b ≠ wr.heap.size) := fun b e h => by have := (World.ownsRow.lt hown b e).2; omega
            simp only [dueB, Bool.and_eq_true, decide_eq_true_eq] at hu
            have du1 : decide (0 < u) = true := by simpa using hu.1
            have du2 : decide (u ≤ now) = true := by simpa using hu.2
            clear hb hu hnx
            have r0 := r0.alloc (.cells #[.int .i64 a, .int .i64 l, .int .i64 m, .int .i64 n, .int .i64 ii, .int .i64 t, .int .i64 u, .int .i64 b, .bool c] 46)
            have r1 := r1.alloc (.cells #[.int .i64 a, .int .i64 l, .int .i64 m, .int .i64 n, .int .i64 ii, .int .i64 t, .int .i64 u, .int .i64 b, .bool c] 46)
            have r2 := r2.alloc (.cells #[.int .i64 a, .int .i64 l, .int .i64 m, .int .i64 n, .int .i64 ii, .int .i64 t, .int .i64 u, .int .i64 b, .bool c] 46)
            have hown := World.ownsRow.alloc hown (.cells #[.int .i64 a, .int .i64 l, .int .i64 m, .int .i64 n, .int .i64 ii, .int .i64 t, .int .i64 u, .int .i64 b, .bool c] 46)
            have hB := hB.alloc hB.size (.cells #[.int .i64 a, .int .i64 l, .int .i64 m, .int .i64 n, .int .i64 ii, .int .i64 t, .int .i64 u, .int .i64 b, .bool c] 46)
            have hWs0 : W.heap.size ≤ wr.heap.size := hWs
            have hWs : W.heap.size ≤ (wr.alloc (.cells #[.int .i64 a, .int .i64 l, .int .i64 m, .int .i64 n, .int .i64 ii, .int .i64 t, .int .i64 u, .int .i64 b, .bool c] 46)).heap.size := by simp; omega
            have y2 : (wr.alloc (.cells #[.int .i64 a, .int .i64 l, .int .i64 m, .int .i64 n, .int .i64 ii, .int .i64 t, .int .i64 u, .int .i64 b, .bool c] 46)).cell? ⟨w.heap.size + 1 + 1, 0, none⟩ = some (.slice q ((rs.take k).filterMap (tickD now)).length cv) := r2.cell 0
            have qb := Row.new wr 46 [.int .i64 a, .int .i64 l, .int .i64 m, .int .i64 n, .int .i64 ii, .int .i64 t, .int .i64 u, .int .i64 b, .bool c]
            have HE : Hid _ := And.intro r0 (And.intro r1 (And.intro r2 (And.intro hown (And.intro hB qb))))
            have HDk : Hid (∀ w, Calls Try.prog 90 #[.agg #[.int .i64 a, .int .i64 l, .int .i64 m, .int .i64 n, .int .i64 ii, .int .i64 t, .int .i64 u, .int .i64 b, .bool c], .int .i64 now] w fun e w' => e = .returned (.agg #[.int .i64 a, .int .i64 l, .int .i64 16, .int .i64 n, .int .i64 ii, .int .i64 t, .int .i64 0, .int .i64 (now + 4), .bool true]) ∧ Below w.heap.size w w') := HD.out (⟨a, l, m, n, ii, t, u, b, c⟩ : Rt)
            clear r0 r1 r2 hown hB qb y2 hek
            go_wp2_with fail
            refine (HDk.out _).mono ?_
            rintro e w2 ⟨rfl, hb2⟩
            obtain ⟨r0, r1, r2, hown, hB, qb⟩ := HE.out
            have r0 := r0.below hb2 r0.lt
            have r1 := r1.below hb2 r1.lt
            have r2 := r2.below hb2 r2.lt
            have qb := qb.below hb2 qb.lt
            have hown := ownsR_belowT hown hb2
            have hB := hB.trans (hb2.mono hB.size)
            have hWs : W.heap.size ≤ w2.heap.size := Nat.le_trans hWs hb2.size
            clear HE HDk hb2 c0 c1 c2 c3 c4 c5 c6 c7 c8 x0
            have e0 : w2.cell? ⟨wr.heap.size, 0, none⟩ = some (.int .i64 a) := qb.cell 0
            have g0 : w2.frozen? ⟨wr.heap.size, 0, none⟩ = false := qb.frozen 0
            have e1 : w2.cell? ⟨wr.heap.size, 1, none⟩ = some (.int .i64 l) := qb.cell 1
            have g1 : w2.frozen? ⟨wr.heap.size, 1, none⟩ = false := qb.frozen 1
            have e2 : w2.cell? ⟨wr.heap.size, 2, none⟩ = some (.int .i64 m) := qb.cell 2
            have g2 : w2.frozen? ⟨wr.heap.size, 2, none⟩ = false := qb.frozen 2
            have e3 : w2.cell? ⟨wr.heap.size, 3, none⟩ = some (.int .i64 n) := qb.cell 3
            have g3 : w2.frozen? ⟨wr.heap.size, 3, none⟩ = false := qb.frozen 3
            have e4 : w2.cell? ⟨wr.heap.size, 4, none⟩ = some (.int .i64 ii) := qb.cell 4
            have g4 : w2.frozen? ⟨wr.heap.size, 4, none⟩ = false := qb.frozen 4
            have e5 : w2.cell? ⟨wr.heap.size, 5, none⟩ = some (.int .i64 t) := qb.cell 5
            have g5 : w2.frozen? ⟨wr.heap.size, 5, none⟩ = false := qb.frozen 5
            have e6 : w2.cell? ⟨wr.heap.size, 6, none⟩ = some (.int .i64 u) := qb.cell 6
            have g6 : w2.frozen? ⟨wr.heap.size, 6, none⟩ = false := qb.frozen 6
            have e7 : w2.cell? ⟨wr.heap.size, 7, none⟩ = some (.int .i64 b) := qb.cell 7
            have g7 : w2.frozen? ⟨wr.heap.size, 7, none⟩ = false := qb.frozen 7
            have e8 : w2.cell? ⟨wr.heap.size, 8, none⟩ = some (.bool c) := qb.cell 8
            have g8 : w2.frozen? ⟨wr.heap.size, 8, none⟩ = false := qb.frozen 8
            have nx0 : w.heap.size ≠ wr.heap.size := by omega
            have nx1 : w.heap.size + 1 ≠ wr.heap.size := by omega
            have nx2 : w.heap.size + 1 + 1 ≠ wr.heap.size := by omega
            have m2 : ¬ wr.heap.size = w.heap.size + 1 + 1 := by omega
            have m2' : ¬ w.heap.size + 1 + 1 = wr.heap.size := by omega
            have y2 : w2.cell? ⟨w.heap.size + 1 + 1, 0, none⟩ = some (.slice q ((rs.take k).filterMap (tickD now)).length cv) := r2.cell 0
            have r0 := nine0_other r0 wr.heap.size nx0 (.int .i64 a) (.int .i64 l) (.int .i64 16) (.int .i64 n) (.int .i64 ii) (.int .i64 t) (.int .i64 0) (.int .i64 (now + 4)) (.bool true)
            have r1 := nine0_other r1 wr.heap.size nx1 (.int .i64 a) (.int .i64 l) (.int .i64 16) (.int .i64 n) (.int .i64 ii) (.int .i64 t) (.int .i64 0) (.int .i64 (now + 4)) (.bool true)
            have r2 := nine0_other r2 wr.heap.size nx2 (.int .i64 a) (.int .i64 l) (.int .i64 16) (.int .i64 n) (.int .i64 ii) (.int .i64 t) (.int .i64 0) (.int .i64 (now + 4)) (.bool true)
            have hB := nine0_below hB wr.heap.size (by have := hWs0; omega) (.int .i64 a) (.int .i64 l) (.int .i64 16) (.int .i64 n) (.int .i64 ii) (.int .i64 t) (.int .i64 0) (.int .i64 (now + 4)) (.bool true)
            have hown : (nine0 w2 wr.heap.size (.int .i64 a) (.int .i64 l) (.int .i64 16) (.int .i64 n) (.int .i64 ii) (.int .i64 t) (.int .i64 0) (.int .i64 (now + 4)) (.bool true)).ownsRow W.heap.size 46 9 (.slice q ((rs.take k).filterMap (tickD now)).length cv) ((rs.take k).filterMap (tickD now)).length (rowR ((rs.take k).filterMap (tickD now))) := nine0_owns hown (hob.out)  (.int .i64 a) (.int .i64 l) (.int .i64 16) (.int .i64 n) (.int .i64 ii) (.int .i64 t) (.int .i64 0) (.int .i64 (now + 4)) (.bool true)
            have hWs : W.heap.size ≤ (nine0 w2 wr.heap.size (.int .i64 a) (.int .i64 l) (.int .i64 16) (.int .i64 n) (.int .i64 ii) (.int .i64 t) (.int .i64 0) (.int .i64 (now + 4)) (.bool true)).heap.size := by unfold nine0; simpa using hWs
            generalize hY : nine0 w2 wr.heap.size (.int .i64 a) (.int .i64 l) (.int .i64 16) (.int .i64 n) (.int .i64 ii) (.int .i64 t) (.int .i64 0) (.int .i64 (now + 4)) (.bool true) = Y at r0 r1 r2 hB hown hWs
            have hn0' : Y.heap.size ≥ W.heap.size := hWs
            have qn := Row.new (Y) 46 [.int .i64 a, .int .i64 l, .int .i64 16, .int .i64 n, .int .i64 ii, .int .i64 t, .int .i64 0, .int .i64 (now + 4), .bool true]
            have r0 := r0.alloc (.cells #[.int .i64 a, .int .i64 l, .int .i64 16, .int .i64 n, .int .i64 ii, .int .i64 t, .int .i64 0, .int .i64 (now + 4), .bool true] 46)
            have r1 := r1.alloc (.cells #[.int .i64 a, .int .i64 l, .int .i64 16, .int .i64 n, .int .i64 ii, .int .i64 t, .int .i64 0, .int .i64 (now + 4), .bool true] 46)
            have r2 := r2.alloc (.cells #[.int .i64 a, .int .i64 l, .int .i64 16, .int .i64 n, .int .i64 ii, .int .i64 t, .int .i64 0, .int .i64 (now + 4), .bool true] 46)
            have hB := hB.alloc hB.size (.cells #[.int .i64 a, .int .i64 l, .int .i64 16, .int .i64 n, .int .i64 ii, .int .i64 t, .int .i64 0, .int .i64 (now + 4), .bool true] 46)
            obtain ⟨v5, w5, happ, hown5, hb5⟩ := run_append_rts (Y.alloc (.cells #[.int .i64 a, .int .i64 l, .int .i64 16, .int .i64 n, .int .i64 ii, .int .i64 t, .int .i64 0, .int .i64 (now + 4), .bool true] 46)) W.heap.size (.slice q ((rs.take k).filterMap (tickD now)).length cv) ((rs.take k).filterMap (tickD now)) [(⟨a, l, 16, n, ii, t, 0, now + 4, true⟩ : Rt)] (some ⟨(Y).heap.size, 0, none⟩) 1 28 (World.ownsRow.alloc hown _) (fun e => by cases e) (fun ad e j x hj => by
              cases e
              rw [addR, Nat.zero_add, qn.cell]
              exact hj) (by have := List.length_filterMap_le (tickD now) (rs.take k); rw [List.length_take] at this; simp only [List.length_singleton]; omega) (by simp; omega)
            rw [List.length_singleton] at happ
            have hsz : (Y).heap.size = w2.heap.size := by rw [← hY]; unfold nine0; simp
            rw [hsz] at happ
            generalize hq5 : (rs.take k).filterMap (tickD now) ++ [(⟨a, l, 16, n, ii, t, 0, now + 4, true⟩ : Rt)] = Q5 at hown5
            have HQ5 : Hid _ := hq5
            clear hq5
            obtain ⟨q5, c5, rfl⟩ := ownsR_shapeT hown5
            have r0 := r0.below hb5 (by omega)
            have r1 := r1.below hb5 (by omega)
            have r2 := r2.below hb5 (by omega)
            have hB := hB.trans (hb5.mono (by omega))
            have hs5 : W.heap.size ≤ w5.heap.size := by have := hb5.size; simp at this; omega
            have f0 : w5.frozen? ⟨w.heap.size + 1 + 1, 0, none⟩ = false := r2.frozen 0
            have z0 : w5.cell? ⟨w.heap.size + 1 + 1, 0, none⟩ = some (.slice q ((rs.take k).filterMap (tickD now)).length cv) := r2.cell 0
            have HZ : Hid _ := And.intro (r0.other 0 (.slice q5 Q5.length c5) nz0) (And.intro (r1.other 0 (.slice q5 Q5.length c5) nz1) (And.intro (r2.set 0 (.slice q5 Q5.length c5)) (And.intro (ownR_set (base' := W.heap.size) hown5 ⟨w.heap.size + 1 + 1, 0, none⟩ (by show w.heap.size + 1 + 1 < W.heap.size; omega) (.slice q5 Q5.length c5) (Nat.le_refl _)) (hB.setCell (p := ⟨w.heap.size + 1 + 1, 0, none⟩) (by show w.heap.size ≤ w.heap.size + 1 + 1; omega) (.slice q5 Q5.length c5)))))
            clear r0 r1 r2 hB hown hown5 hb5 qn qb nx0 nx1 nx2
            unfold nine0 at hY
            rw [← hY] at happ
            clear hY hsz
            go_wp2_with (at_builtin; refine wpList_append_runs rfl _ _ 28 rfl _ _ rfl rfl happ ?_)
            go_roundw
            case rel => exact ⟨k + 1, .slice q5 Q5.length c5, hlt, by go_num, HZ.out.1, HZ.out.2.1, HZ.out.2.2.1, by rw [HTK.out, HQ5.out]; exact HZ.out.2.2.2.1, HZ.out.2.2.2.2, by simpa using hs5⟩
            case measure => simp [intOf]; omega
          · have HTK : Hid ((rs.take (k + 1)).filterMap (tickD now) = (rs.take k).filterMap (tickD now) ++ [(⟨a, l, m, n, ii, t, u, b, c⟩ : Rt)]) := by
              show _ = _
              rw [hnx, show tickD now (⟨a, l, m, n, ii, t, u, b, c⟩ : Rt) = some (⟨a, l, m, n, ii, t, u, b, c⟩ : Rt) by simp [tickD, hb, hu]]
              rfl
            simp only [dueB, Bool.and_eq_true, decide_eq_true_eq] at hu
            by_cases hu1 : 0 < u
            · have du1 : decide (0 < u) = true := by simpa using hu1
              have du2 : decide (u ≤ now) = false := by simp; omega
              clear hb hu hnx hu1
              have r0 := r0.alloc (.cells #[.int .i64 a, .int .i64 l, .int .i64 m, .int .i64 n, .int .i64 ii, .int .i64 t, .int .i64 u, .int .i64 b, .bool c] 46)
              have r1 := r1.alloc (.cells #[.int .i64 a, .int .i64 l, .int .i64 m, .int .i64 n, .int .i64 ii, .int .i64 t, .int .i64 u, .int .i64 b, .bool c] 46)
              have r2 := r2.alloc (.cells #[.int .i64 a, .int .i64 l, .int .i64 m, .int .i64 n, .int .i64 ii, .int .i64 t, .int .i64 u, .int .i64 b, .bool c] 46)
              have hown := World.ownsRow.alloc hown (.cells #[.int .i64 a, .int .i64 l, .int .i64 m, .int .i64 n, .int .i64 ii, .int .i64 t, .int .i64 u, .int .i64 b, .bool c] 46)
              have hB := hB.alloc hB.size (.cells #[.int .i64 a, .int .i64 l, .int .i64 m, .int .i64 n, .int .i64 ii, .int .i64 t, .int .i64 u, .int .i64 b, .bool c] 46)
              have hWs0 : W.heap.size ≤ wr.heap.size := hWs
              have hWs : W.heap.size ≤ (wr.alloc (.cells #[.int .i64 a, .int .i64 l, .int .i64 m, .int .i64 n, .int .i64 ii, .int .i64 t, .int .i64 u, .int .i64 b, .bool c] 46)).heap.size := by simp; omega
              have y2 : (wr.alloc (.cells #[.int .i64 a, .int .i64 l, .int .i64 m, .int .i64 n, .int .i64 ii, .int .i64 t, .int .i64 u, .int .i64 b, .bool c] 46)).cell? ⟨w.heap.size + 1 + 1, 0, none⟩ = some (.slice q ((rs.take k).filterMap (tickD now)).length cv) := r2.cell 0
              have hn0' : (wr.alloc (.cells #[.int .i64 a, .int .i64 l, .int .i64 m, .int .i64 n, .int .i64 ii, .int .i64 t, .int .i64 u, .int .i64 b, .bool c] 46)).heap.size ≥ W.heap.size := hWs
              have qn := Row.new ((wr.alloc (.cells #[.int .i64 a, .int .i64 l, .int .i64 m, .int .i64 n, .int .i64 ii, .int .i64 t, .int .i64 u, .int .i64 b, .bool c] 46))) 46 [.int .i64 a, .int .i64 l, .int .i64 m, .int .i64 n, .int .i64 ii, .int .i64 t, .int .i64 u, .int .i64 b, .bool c]
              have r0 := r0.alloc (.cells #[.int .i64 a, .int .i64 l, .int .i64 m, .int .i64 n, .int .i64 ii, .int .i64 t, .int .i64 u, .int .i64 b, .bool c] 46)
              have r1 := r1.alloc (.cells #[.int .i64 a, .int .i64 l, .int .i64 m, .int .i64 n, .int .i64 ii, .int .i64 t, .int .i64 u, .int .i64 b, .bool c] 46)
              have r2 := r2.alloc (.cells #[.int .i64 a, .int .i64 l, .int .i64 m, .int .i64 n, .int .i64 ii, .int .i64 t, .int .i64 u, .int .i64 b, .bool c] 46)
              have hB := hB.alloc hB.size (.cells #[.int .i64 a, .int .i64 l, .int .i64 m, .int .i64 n, .int .i64 ii, .int .i64 t, .int .i64 u, .int .i64 b, .bool c] 46)
              obtain ⟨v5, w5, happ, hown5, hb5⟩ := run_append_rts ((wr.alloc (.cells #[.int .i64 a, .int .i64 l, .int .i64 m, .int .i64 n, .int .i64 ii, .int .i64 t, .int .i64 u, .int .i64 b, .bool c] 46)).alloc (.cells #[.int .i64 a, .int .i64 l, .int .i64 m, .int .i64 n, .int .i64 ii, .int .i64 t, .int .i64 u, .int .i64 b, .bool c] 46)) W.heap.size (.slice q ((rs.take k).filterMap (tickD now)).length cv) ((rs.take k).filterMap (tickD now)) [(⟨a, l, m, n, ii, t, u, b, c⟩ : Rt)] (some ⟨((wr.alloc (.cells #[.int .i64 a, .int .i64 l, .int .i64 m, .int .i64 n, .int .i64 ii, .int .i64 t, .int .i64 u, .int .i64 b, .bool c] 46))).heap.size, 0, none⟩) 1 28 (World.ownsRow.alloc hown _) (fun e => by cases e) (fun ad e j x hj => by
                cases e
                rw [addR, Nat.zero_add, qn.cell]
                exact hj) (by have := List.length_filterMap_le (tickD now) (rs.take k); rw [List.length_take] at this; simp only [List.length_singleton]; omega) (by simp; omega)
              rw [List.length_singleton] at happ
              have hsz : ((wr.alloc (.cells #[.int .i64 a, .int .i64 l, .int .i64 m, .int .i64 n, .int .i64 ii, .int .i64 t, .int .i64 u, .int .i64 b, .bool c] 46))).heap.size = wr.heap.size + 1 := by simp
              rw [hsz] at happ
              generalize hq5 : (rs.take k).filterMap (tickD now) ++ [(⟨a, l, m, n, ii, t, u, b, c⟩ : Rt)] = Q5 at hown5
              have HQ5 : Hid _ := hq5
              clear hq5
              obtain ⟨q5, c5, rfl⟩ := ownsR_shapeT hown5
              have r0 := r0.below hb5 (by omega)
              have r1 := r1.below hb5 (by omega)
              have r2 := r2.below hb5 (by omega)
              have hB := hB.trans (hb5.mono (by omega))
              have hs5 : W.heap.size ≤ w5.heap.size := by have := hb5.size; simp at this; omega
              have f0 : w5.frozen? ⟨w.heap.size + 1 + 1, 0, none⟩ = false := r2.frozen 0
              have z0 : w5.cell? ⟨w.heap.size + 1 + 1, 0, none⟩ = some (.slice q ((rs.take k).filterMap (tickD now)).length cv) := r2.cell 0
              have HZ : Hid _ := And.intro (r0.other 0 (.slice q5 Q5.length c5) nz0) (And.intro (r1.other 0 (.slice q5 Q5.length c5) nz1) (And.intro (r2.set 0 (.slice q5 Q5.length c5)) (And.intro (ownR_set (base' := W.heap.size) hown5 ⟨w.heap.size + 1 + 1, 0, none⟩ (by show w.heap.size + 1 + 1 < W.heap.size; omega) (.slice q5 Q5.length c5) (Nat.le_refl _)) (hB.setCell (p := ⟨w.heap.size + 1 + 1, 0, none⟩) (by show w.heap.size ≤ w.heap.size + 1 + 1; omega) (.slice q5 Q5.length c5)))))
              clear r0 r1 r2 hB hown hown5 hb5 qn 
              go_wp2_with (at_builtin; refine wpList_append_runs rfl _ _ 28 rfl _ _ rfl rfl happ ?_)
              go_roundw
              case rel => exact ⟨k + 1, .slice q5 Q5.length c5, hlt, by go_num, HZ.out.1, HZ.out.2.1, HZ.out.2.2.1, by rw [HTK.out, HQ5.out]; exact HZ.out.2.2.2.1, HZ.out.2.2.2.2, by simpa using hs5⟩
              case measure => simp [intOf]; omega
            · have du1 : decide (0 < u) = false := by simpa using hu1
              clear hb hu hnx hu1
              have r0 := r0.alloc (.cells #[.int .i64 a, .int .i64 l, .int .i64 m, .int .i64 n, .int .i64 ii, .int .i64 t, .int .i64 u, .int .i64 b, .bool c] 46)
              have r1 := r1.alloc (.cells #[.int .i64 a, .int .i64 l, .int .i64 m, .int .i64 n, .int .i64 ii, .int .i64 t, .int .i64 u, .int .i64 b, .bool c] 46)
              have r2 := r2.alloc (.cells #[.int .i64 a, .int .i64 l, .int .i64 m, .int .i64 n, .int .i64 ii, .int .i64 t, .int .i64 u, .int .i64 b, .bool c] 46)
              have hown := World.ownsRow.alloc hown (.cells #[.int .i64 a, .int .i64 l, .int .i64 m, .int .i64 n, .int .i64 ii, .int .i64 t, .int .i64 u, .int .i64 b, .bool c] 46)
              have hB := hB.alloc hB.size (.cells #[.int .i64 a, .int .i64 l, .int .i64 m, .int .i64 n, .int .i64 ii, .int .i64 t, .int .i64 u, .int .i64 b, .bool c] 46)
              have hWs0 : W.heap.size ≤ wr.heap.size := hWs
              have hWs : W.heap.size ≤ (wr.alloc (.cells #[.int .i64 a, .int .i64 l, .int .i64 m, .int .i64 n, .int .i64 ii, .int .i64 t, .int .i64 u, .int .i64 b, .bool c] 46)).heap.size := by simp; omega
              have y2 : (wr.alloc (.cells #[.int .i64 a, .int .i64 l, .int .i64 m, .int .i64 n, .int .i64 ii, .int .i64 t, .int .i64 u, .int .i64 b, .bool c] 46)).cell? ⟨w.heap.size + 1 + 1, 0, none⟩ = some (.slice q ((rs.take k).filterMap (tickD now)).length cv) := r2.cell 0
              have hn0' : (wr.alloc (.cells #[.int .i64 a, .int .i64 l, .int .i64 m, .int .i64 n, .int .i64 ii, .int .i64 t, .int .i64 u, .int .i64 b, .bool c] 46)).heap.size ≥ W.heap.size := hWs
              have qn := Row.new ((wr.alloc (.cells #[.int .i64 a, .int .i64 l, .int .i64 m, .int .i64 n, .int .i64 ii, .int .i64 t, .int .i64 u, .int .i64 b, .bool c] 46))) 46 [.int .i64 a, .int .i64 l, .int .i64 m, .int .i64 n, .int .i64 ii, .int .i64 t, .int .i64 u, .int .i64 b, .bool c]
              have r0 := r0.alloc (.cells #[.int .i64 a, .int .i64 l, .int .i64 m, .int .i64 n, .int .i64 ii, .int .i64 t, .int .i64 u, .int .i64 b, .bool c] 46)
              have r1 := r1.alloc (.cells #[.int .i64 a, .int .i64 l, .int .i64 m, .int .i64 n, .int .i64 ii, .int .i64 t, .int .i64 u, .int .i64 b, .bool c] 46)
              have r2 := r2.alloc (.cells #[.int .i64 a, .int .i64 l, .int .i64 m, .int .i64 n, .int .i64 ii, .int .i64 t, .int .i64 u, .int .i64 b, .bool c] 46)
              have hB := hB.alloc hB.size (.cells #[.int .i64 a, .int .i64 l, .int .i64 m, .int .i64 n, .int .i64 ii, .int .i64 t, .int .i64 u, .int .i64 b, .bool c] 46)
              obtain ⟨v5, w5, happ, hown5, hb5⟩ := run_append_rts ((wr.alloc (.cells #[.int .i64 a, .int .i64 l, .int .i64 m, .int .i64 n, .int .i64 ii, .int .i64 t, .int .i64 u, .int .i64 b, .bool c] 46)).alloc (.cells #[.int .i64 a, .int .i64 l, .int .i64 m, .int .i64 n, .int .i64 ii, .int .i64 t, .int .i64 u, .int .i64 b, .bool c] 46)) W.heap.size (.slice q ((rs.take k).filterMap (tickD now)).length cv) ((rs.take k).filterMap (tickD now)) [(⟨a, l, m, n, ii, t, u, b, c⟩ : Rt)] (some ⟨((wr.alloc (.cells #[.int .i64 a, .int .i64 l, .int .i64 m, .int .i64 n, .int .i64 ii, .int .i64 t, .int .i64 u, .int .i64 b, .bool c] 46))).heap.size, 0, none⟩) 1 28 (World.ownsRow.alloc hown _) (fun e => by cases e) (fun ad e j x hj => by
                cases e
                rw [addR, Nat.zero_add, qn.cell]
                exact hj) (by have := List.length_filterMap_le (tickD now) (rs.take k); rw [List.length_take] at this; simp only [List.length_singleton]; omega) (by simp; omega)
              rw [List.length_singleton] at happ
              have hsz : ((wr.alloc (.cells #[.int .i64 a, .int .i64 l, .int .i64 m, .int .i64 n, .int .i64 ii, .int .i64 t, .int .i64 u, .int .i64 b, .bool c] 46))).heap.size = wr.heap.size + 1 := by simp
              rw [hsz] at happ
              generalize hq5 : (rs.take k).filterMap (tickD now) ++ [(⟨a, l, m, n, ii, t, u, b, c⟩ : Rt)] = Q5 at hown5
              have HQ5 : Hid _ := hq5
              clear hq5
              obtain ⟨q5, c5, rfl⟩ := ownsR_shapeT hown5
              have r0 := r0.below hb5 (by omega)
              have r1 := r1.below hb5 (by omega)
              have r2 := r2.below hb5 (by omega)
              have hB := hB.trans (hb5.mono (by omega))
              have hs5 : W.heap.size ≤ w5.heap.size := by have := hb5.size; simp at this; omega
              have f0 : w5.frozen? ⟨w.heap.size + 1 + 1, 0, none⟩ = false := r2.frozen 0
              have z0 : w5.cell? ⟨w.heap.size + 1 + 1, 0, none⟩ = some (.slice q ((rs.take k).filterMap (tickD now)).length cv) := r2.cell 0
              have HZ : Hid _ := And.intro (r0.other 0 (.slice q5 Q5.length c5) nz0) (And.intro (r1.other 0 (.slice q5 Q5.length c5) nz1) (And.intro (r2.set 0 (.slice q5 Q5.length c5)) (And.intro (ownR_set (base' := W.heap.size) hown5 ⟨w.heap.size + 1 + 1, 0, none⟩ (by show w.heap.size + 1 + 1 < W.heap.size; omega) (.slice q5 Q5.length c5) (Nat.le_refl _)) (hB.setCell (p := ⟨w.heap.size + 1 + 1, 0, none⟩) (by show w.heap.size ≤ w.heap.size + 1 + 1; omega) (.slice q5 Q5.length c5)))))
              clear r0 r1 r2 hB hown hown5 hb5 qn 
              go_wp2_with (at_builtin; refine wpList_append_runs rfl _ _ 28 rfl _ _ rfl rfl happ ?_)
              go_roundw
              case rel => exact ⟨k + 1, .slice q5 Q5.length c5, hlt, by go_num, HZ.out.1, HZ.out.2.1, HZ.out.2.2.1, by rw [HTK.out, HQ5.out]; exact HZ.out.2.2.2.1, HZ.out.2.2.2.2, by simpa using hs5⟩
              case measure => simp [intOf]; omega
    · obtain rfl : k = rs.length := by omega
      have d1 : decide ((rs.length : Int) < (rs.length : Int)) = false := by simp
      rw [List.take_length] at hown r2
      have y2 : wr.cell? ⟨w.heap.size + 1 + 1, 0, none⟩ = some (.slice q (rs.filterMap (tickD now)).length cv) := r2.cell 0
      have f0 : wr.frozen? ⟨w.heap.size + 1, 0, none⟩ = false := r1.frozen 0
      have z0 : wr.cell? ⟨w.heap.size + 1, 0, none⟩ = some (.slice none 0 0) := r1.cell 0
      have HE : Hid _ := And.intro (r1.set 0 (.slice q (rs.filterMap (tickD now)).length cv)) (And.intro (hB.setCell (p := ⟨w.heap.size + 1, 0, none⟩) (by show w.heap.size ≤ w.heap.size + 1; omega) (.slice q (rs.filterMap (tickD now)).length cv)) (ownR_set (base' := w.heap.size) hown ⟨w.heap.size + 1, 0, none⟩ (by show w.heap.size + 1 < W.heap.size; omega) (.slice q (rs.filterMap (tickD now)).length cv) (by omega)))
      clear hlt hk r0 r1 r2 hown hB
      go_wp2_with fail
      obtain ⟨h1, h2, h3⟩ := HE.out
      clear HE f0 z0 y2
      generalize wr.setCell ⟨w.heap.size + 1, 0, none⟩ (.slice q (rs.filterMap (tickD now)).length cv) = Z at *
      have e0 : Z.cell? ⟨w.heap.size + 1, 0, none⟩ = some (.slice q (rs.filterMap (tickD now)).length cv) := h1.cell 0
      exact bodyPost_ret (v := .agg #[.slice q (rs.filterMap (tickD now)).length cv]) (by simp [results, Try.results58, go_sem, e0]) rfl ⟨q, cv, rfl, h3, h2⟩
end Go.Proofs.Ytaledidomgelcaa
/- The table's iterator, where the rounds change the table: each net is looked up when its turn comes. (Written by gen_allm.py.) -/
namespace Go.Proofs.Ytaledidomgelcaa
open Go.RowKit Go.Sort Go.Shelf
attribute [local go_sem] Oper.semAt_some

/-- What a round that changes the table keeps: its nets, its tables. -/
structure KpM (W W' : World) : Prop where
  size : W.heap.size ≤ W'.heap.size
  rows : ∀ (k : Nat) (cur : Array Value) (t : TypeId), W.heap[k]? = some (Obj.cells cur t (0, 0)) → t = 35 ∨ t = 82 → W'.heap[k]? = W.heap[k]?
theorem KpM.t {A B C : World} (h : KpM A B) (k : KpM B C) : KpM A C :=
  ⟨Nat.le_trans h.size k.size, fun i cur t hi ht => (k.rows i cur t ((h.rows i cur t hi ht).trans hi) ht).trans (h.rows i cur t hi ht)⟩
theorem KpM.b {W : World} {l : Nat} {o : Obj} (o' : Obj) (h : W.heap[l]? = some o) (hc : o.isCells = false) : KpM W (W.putObj l o') :=
  KpM.mk (by simp) (fun i cur t hi _ => World.putObj_heap_other (fun e => by
    subst e
    rw [h] at hi
    cases hi
    cases hc))
theorem KpM.below {W W' : World} (h : Below W.heap.size W W') : KpM W W' := ⟨h.size, fun k _ _ hk _ => h.block k (Array.getElem?_eq_some_iff.1 hk).1⟩
theorem KpM.grown {W W' : World} {B : Nat} (h : W.grownBy W' (some B)) (hB : ∃ es c, W.heap[B]? = some (.map es c)) : KpM W W' := ⟨h.size, fun k cur t hk _ => h.block k (Array.getElem?_eq_some_iff.1 hk).1 (fun e => by
  cases e
  obtain ⟨es, c, hB⟩ := hB
  rw [hB] at hk
  cases hk)⟩
set_option maxRecDepth 100000 in
set_option maxHeartbeats 2000000 in
theorem all1_mut (n : Nat) (hn : 1 ≤ n) (l Bt b : Nat) (ms rs : List Rt) (hp : ms.Perm rs) (hr : ribB rs = true) (J : List Rt → World → Prop)
    (hJ : ∀ s X Y, J s X → X.grownBy Y none → J s Y)
    (hL : ∀ k (hk : k < rs.length) X, J (rs.take k) X → ∃ ns, MapIs X b ns ∧ lookN ns rs[k].a rs[k].l = some rs[k])
    (hY : ∀ k (hk : k < rs.length) X, J (rs.take k) X → YieldAt Fence.wide (n - 1) Try.prog l #[rtV rs[k]] X fun e Y => e = .returned (.bool true) ∧ J (rs.take (k + 1)) Y ∧ KpM X Y)
    (W0 : World) (hT : Row W0 Bt 82 [.map (some b), .func (.func 82) #[] #[]]) (hM : MapIs W0 b ms) (h0 : J [] W0) :
    CallsIn Fence.wide n Try.prog 91 #[.func (.yield l) #[] #[], .pointer (some ⟨Bt, 0, none⟩)] W0 fun e W' => (∃ v, e = .returned v) ∧ J rs W' := by
  have h8 := (ribB_spec hr).1
  have HS : Hid (∀ Bm w, w.cell? ⟨Bm, 0, none⟩ = some (.map (some b)) → MapIs w b ms → Calls Try.prog 92 #[.func (.func 109) #[] #[.pointer (some ⟨Bm, 0, none⟩)], .func (.func 82) #[] #[]] w fun e w' => ∃ v, e = .returned v ∧ HoldsN w' w.heap.size v (rs.map netOfR) ∧ Below w.heap.size w w') := fun Bm w h1 h2 =>
    (sortedN Bm b ms w (by rw [hp.length_eq]; omega) h1 h2).mono fun e w' h => by
      obtain ⟨v, xs, e, hq, hR, hH, hb⟩ := h
      rw [risen_nets hr (hq.trans (hp.map _)) hR] at hH
      exact ⟨v, e, hH, hb⟩
  refine callsIn_of_wp Try.func91 rfl trivial ?_ rfl
  simp only [Try.ntmps91, List.size_toArray, List.length_cons, List.length_nil, Nat.reduceAdd, Nat.reduceSub, Array.replicate_succ, Array.replicate_zero, List.push_toArray, List.append_toArray, List.nil_append, List.cons_append]
  refine wpIn_seq ?_
  refine wpIn_wide.2 ?_
  have hGN : (([(5, Is (.pointer (some ⟨Bt, 0, none⟩))), (6, Is (.map (some b))), (7, fun v W => ∃ Bm, v = .func (.func 109) #[] #[.pointer (some ⟨Bm, 0, none⟩)] ∧ Row W Bm 79 [.map (some b)]), (8, Is (.pointer (some ⟨Bt, 1, none⟩))), (9, Is (.func (.func 82) #[] #[])), (10, fun v W => ∃ B0, W0.heap.size ≤ B0 ∧ HoldsN W B0 v (rs.map netOfR)), (11, Is (.int .i64 (rs.length : Int))), (12, Is (.int .i64 0))] : List (Nat × (Value → World → Prop))).map (·.1)).Nodup := by simp
  refine wp_region_steady 8 (SlotG [(5, Is (.pointer (some ⟨Bt, 0, none⟩))), (6, Is (.map (some b))), (7, fun v W => ∃ Bm, v = .func (.func 109) #[] #[.pointer (some ⟨Bm, 0, none⟩)] ∧ Row W Bm 79 [.map (some b)]), (8, Is (.pointer (some ⟨Bt, 1, none⟩))), (9, Is (.func (.func 82) #[] #[])), (10, fun v W => ∃ B0, W0.heap.size ≤ B0 ∧ HoldsN W B0 v (rs.map netOfR)), (11, Is (.int .i64 (rs.length : Int))), (12, Is (.int .i64 0))]) (by kernel_rfl) (by kernel_rfl) (Stabs.all ⟨stab_is _, stab_is _, stab_seq b, stab_is _, stab_is _, stab_nets _ _, stab_is _, stab_is _, trivial⟩) ?_ ?_
  · intro o ho
    simp only [List.take_succ_cons, List.take_zero, List.mem_cons, List.not_mem_nil, or_false] at ho
    rcases ho with rfl | rfl | rfl | rfl | rfl | rfl | rfl | rfl
    · intro a' w' hb ha hdep
      have d1 : a'.tmps.getD 1 undef = .pointer (some ⟨Bt, 0, none⟩) := ha.at 1 (by kernel_rfl)
      have hmk := fun (x : Value) (W : World) => SlotG.mk (x := x) (w := W) 0 rfl hGN
      clear hGN ha hdep
      go_simp
      exact ⟨_, rfl, Below.refl _ _, hmk _ _ rfl⟩
    · intro a' w' hb ha hdep
      have d5 : a'.tmps.getD 5 undef = .pointer (some ⟨Bt, 0, none⟩) := (hdep 5 (of_decide_eq_true (by kernel_rfl))).is 0 rfl
      have hmk := fun (x : Value) (W : World) => SlotG.mk (x := x) (w := W) 1 rfl hGN
      clear hGN ha hdep
      have y0 : w'.cell? ⟨Bt, 0, none⟩ = some (.map (some b)) := (hT.below hb hT.lt).cell 0
      go_simp
      exact ⟨_, rfl, Below.refl _ _, hmk _ _ rfl⟩
    · intro a' w' hb ha hdep
      have d6 : a'.tmps.getD 6 undef = .map (some b) := (hdep 6 (of_decide_eq_true (by kernel_rfl))).is 1 rfl
      have hmk := fun (x : Value) (W : World) => SlotG.mk (x := x) (w := W) 2 rfl hGN
      clear hGN ha hdep
      go_simp
      refine (keys_make b _).mono ?_
      rintro e w2 ⟨rfl, rfl⟩
      exact ⟨_, rfl, ent_new0 _ _, hmk _ _ ⟨_, rfl, Row.new w' _ [.map (some b)]⟩⟩
    · intro a' w' hb ha hdep
      have d1 : a'.tmps.getD 1 undef = .pointer (some ⟨Bt, 0, none⟩) := ha.at 1 (by kernel_rfl)
      have hmk := fun (x : Value) (W : World) => SlotG.mk (x := x) (w := W) 3 rfl hGN
      clear hGN ha hdep
      go_simp
      exact ⟨_, rfl, Below.refl _ _, hmk _ _ rfl⟩
    · intro a' w' hb ha hdep
      have d8 : a'.tmps.getD 8 undef = .pointer (some ⟨Bt, 1, none⟩) := (hdep 8 (of_decide_eq_true (by kernel_rfl))).is 3 rfl
      have hmk := fun (x : Value) (W : World) => SlotG.mk (x := x) (w := W) 4 rfl hGN
      clear hGN ha hdep
      have y1 : w'.cell? ⟨Bt, 1, none⟩ = some (.func (.func 82) #[] #[]) := (hT.below hb hT.lt).cell 1
      go_simp
      exact ⟨_, rfl, Below.refl _ _, hmk _ _ rfl⟩
    · intro a' w' hb ha hdep
      have D7 := (hdep 7 (of_decide_eq_true (by kernel_rfl))).get 2 rfl
      have d9 : a'.tmps.getD 9 undef = .func (.func 82) #[] #[] := (hdep 9 (of_decide_eq_true (by kernel_rfl))).is 4 rfl
      have hmk := fun (x : Value) (W : World) => SlotG.mk (x := x) (w := W) 5 rfl hGN
      clear hGN ha hdep
      obtain ⟨Bm, d7, hRm⟩ := D7
      have hsz := hb.size
      go_simp
      refine (HS.out Bm _ (hRm.cell 0) (hM.below hb hM.lt)).mono ?_
      rintro e w2 ⟨v, rfl, hv, hb2⟩
      exact ⟨_, rfl, hb2, hmk _ _ ⟨_, hsz, hv⟩⟩
    · intro a' w' hb ha hdep
      have D10 := (hdep 10 (of_decide_eq_true (by kernel_rfl))).get 5 rfl
      have hmk := fun (x : Value) (W : World) => SlotG.mk (x := x) (w := W) 6 rfl hGN
      clear hGN ha hdep
      obtain ⟨B0, hB0, hv⟩ := D10
      obtain ⟨p, cap, d10⟩ := hv.form
      rw [List.length_map] at d10
      go_simp
      exact ⟨_, rfl, Below.refl _ _, hmk _ _ rfl⟩
    · intro a' w' hb ha hdep
      have hmk := fun (x : Value) (W : World) => SlotG.mk (x := x) (w := W) 7 rfl hGN
      clear hGN ha hdep
      go_simp
      exact ⟨_, rfl, Below.refl _ _, hmk _ _ rfl⟩
  · intro a' w' hb ha hG
    clear hGN
    have D10 := (hG _ (List.mem_of_getElem? (i := 5) rfl) 10 rfl).get 5 rfl
    have d11 : a'.tmps.getD 11 undef = .int .i64 (rs.length : Int) := (hG _ (List.mem_of_getElem? (i := 6) rfl) 11 rfl).is 6 rfl
    have d12 : a'.tmps.getD 12 undef = .int .i64 0 := (hG _ (List.mem_of_getElem? (i := 7) rfl) 12 rfl).is 7 rfl
    have d0 : a'.tmps.getD 0 undef = .func (.yield l) #[] #[] := ha.at 0 (by kernel_rfl)
    have d1 : a'.tmps.getD 1 undef = .pointer (some ⟨Bt, 0, none⟩) := ha.at 1 (by kernel_rfl)
    have e2 : a' = ⟨#[a'.tmps.getD 0 undef, a'.tmps.getD 1 undef, a'.tmps.getD 2 undef, a'.tmps.getD 3 undef, a'.tmps.getD 4 undef, a'.tmps.getD 5 undef, a'.tmps.getD 6 undef, a'.tmps.getD 7 undef, a'.tmps.getD 8 undef, a'.tmps.getD 9 undef, a'.tmps.getD 10 undef, a'.tmps.getD 11 undef, a'.tmps.getD 12 undef, a'.tmps.getD 13 undef, a'.tmps.getD 14 undef, a'.tmps.getD 15 undef, a'.tmps.getD 16 undef, a'.tmps.getD 17 undef, a'.tmps.getD 18 undef, a'.tmps.getD 19 undef, a'.tmps.getD 20 undef, a'.tmps.getD 21 undef, a'.tmps.getD 22 undef, a'.tmps.getD 23 undef], []⟩ := by rw [← (show a'.defers = [] from ha.2.1)]; exact act_eq a' 24 ha.1
    rw [d11, d12, d0, d1] at e2
    clear hG ha d11 d12 d0 d1
    generalize a'.tmps.getD 2 undef = x2 at *
    generalize a'.tmps.getD 3 undef = x3 at *
    generalize a'.tmps.getD 4 undef = x4 at *
    generalize a'.tmps.getD 5 undef = x5 at *
    generalize a'.tmps.getD 6 undef = x6 at *
    generalize a'.tmps.getD 7 undef = x7 at *
    generalize a'.tmps.getD 8 undef = x8 at *
    generalize a'.tmps.getD 9 undef = x9 at *
    generalize a'.tmps.getD 10 undef = x10 at *
    generalize a'.tmps.getD 13 undef = x13 at *
    generalize a'.tmps.getD 14 undef = x14 at *
    generalize a'.tmps.getD 15 undef = x15 at *
    generalize a'.tmps.getD 16 undef = x16 at *
    generalize a'.tmps.getD 17 undef = x17 at *
    generalize a'.tmps.getD 18 undef = x18 at *
    generalize a'.tmps.getD 19 undef = x19 at *
    generalize a'.tmps.getD 20 undef = x20 at *
    generalize a'.tmps.getD 21 undef = x21 at *
    generalize a'.tmps.getD 22 undef = x22 at *
    generalize a'.tmps.getD 23 undef = x23 at *
    subst e2
    simp only [List.drop_succ_cons, List.drop_zero]
    refine wpList_nil ?_
    obtain ⟨B0, hB0, hH⟩ := D10
    have hJ1 : J [] w' := hJ [] W0 w' h0 ⟨hb.os, hb.tape, hb.output, hb.size, fun k hk _ => hb.block k hk⟩
    have hT1 := hT.below hb hT.lt
    have hsz := hb.size
    clear hb HS h0 hT hM
    generalize x10 = v at *
    obtain ⟨p, cap, rfl⟩ := hH.form
    rw [List.length_map] at hH ⊢
    gi_wp2
    gi_loopw [12] (fun i wr => ∃ k : Nat, k ≤ rs.length ∧ i = .int .i64 k ∧ J (rs.take k) wr ∧ W0.heap.size ≤ wr.heap.size ∧ Row wr Bt 82 [.map (some b), .func (.func 82) #[] #[]] ∧ HoldsN wr B0 (.slice p rs.length cap) (rs.map netOfR)) (fun i _ => rs.length - (intOf i).toNat)
    case atStart => exact ⟨0, Nat.zero_le _, rfl, hJ1, hsz, hT1, hH⟩
    case round =>
      clear hJ1 hT1 hH hsz
      obtain ⟨k, hk, rfl, hJk, hsz, hTk, hHk⟩ := hrel
      by_cases hlt : k < rs.length
      · have d1 : decide ((k : Int) < (rs.length : Int)) = true := by simpa using hlt
        obtain ⟨g, rfl, hNk, hBg⟩ := hHk.at (by rw [List.length_map]; omega)
        obtain ⟨c0, c1, -, -⟩ := hNk.cell k (by rw [List.length_map]; exact hlt)
        rw [List.getElem_map] at c0 c1
        have hJa : J (rs.take k) (wr.alloc (.cells #[.int .i64 rs[k].a, .int .i64 rs[k].l] 35)) := hJ _ wr _ hJk (World.grownBy_alloc wr _ none)
        have hTa := hTk.alloc (.cells #[.int .i64 rs[k].a, .int .i64 rs[k].l] 35)
        obtain ⟨ns, hMa, hlk⟩ := hL k hlt _ hJa
        have hNa := hNk.below (ent_new0 wr (.cells #[.int .i64 rs[k].a, .int .i64 rs[k].l] 35)) hNk.lt
        have hrun := map_look1 hMa rs[k].a rs[k].l
        rw [hlk, Option.getD_some] at hrun
        obtain ⟨fn, tmps, assign, body, hy, hR⟩ := hY k hlt _ hJa
        have t0 : (wr.alloc (.cells #[.int .i64 rs[k].a, .int .i64 rs[k].l] 35)).cell? ⟨Bt, 0, none⟩ = some (.map (some b)) := hTa.cell 0
        have HA : Hid _ := And.intro hTa hNa
        have hbt : Bt < wr.heap.size := hTk.lt
        clear hJk hTk hNk hHk hJa hTa hMa hNa hlk
        generalize rs[k] = q at *
        obtain ⟨A, L, M, O, I, T, U, E, C⟩ := q
        unfold netV rtV rtA at hrun
        unfold rtV rtA at hy
        simp only [netOfR] at hrun hy c0 c1 t0
        gi_wp2
        refine hR.mono ?_
        rintro e W3 ⟨rfl, hJ3, hk3⟩
        obtain ⟨hTa, hNa⟩ := HA.out
        have hT3 : Row W3 Bt 82 [.map (some b), .func (.func 82) #[] #[]] := (hk3.rows Bt _ _ hTa (.inr rfl)).trans hTa
        have hN3 : NetsAt W3 g (rs.map netOfR) := by
          obtain ⟨cur, hc, e⟩ := hNa
          exact ⟨cur, (hk3.rows g _ _ hc (.inl rfl)).trans hc, e⟩
        have hs3 : W0.heap.size ≤ W3.heap.size := by have := hk3.size; simp at this; omega
        have HZ : Hid _ := And.intro hJ3 (And.intro hs3 (And.intro hT3 hN3))
        clear hJ3 hk3 hT3 hN3 hs3 HA hrun hy hTa hNa c0 c1 t0 hsz hR
        gi_wp2
        go_roundw
        case rel => exact ⟨k + 1, hlt, by go_num, HZ.out.1, HZ.out.2.1, HZ.out.2.2.1, .inr ⟨g, cap, by rw [List.length_map], HZ.out.2.2.2, hBg⟩⟩
        case measure => simp [intOf]; omega
      · obtain rfl : k = rs.length := by omega
        have d1 : decide ((rs.length : Int) < (rs.length : Int)) = false := by simp
        rw [List.take_length] at hJk
        clear hlt hk
        gi_wp2
        go_end0
        exact ⟨⟨_, rfl⟩, hJk⟩
end Go.Proofs.Ytaledidomgelcaa
/- A route dropped from a map of routes. -/
namespace Go.Proofs.Ytaledidomgelcaa
open Go.RowKit Go.Sort

theorem map_erase {α β : Type} (f : α → β) : ∀ (l : List α) (k : Nat), (l.eraseIdx k).map f = (l.map f).eraseIdx k
  | [], k => by simp
  | x :: l, 0 => by simp
  | x :: l, k + 1 => by simp [map_erase f l k]
theorem map_drop {w : World} {b : Nat} {rs : List Rt} (h : MapIs w b rs) (a l : Int) (ty : TypeId) :
    ∃ w', (Builtin.delete_ #[79, 35] ty #[.map (some b), netV a l]).run Try.prog w = .ok (.tuple #[]) w' ∧ MapIs w' b (dropN rs a l) ∧ w.grownBy w' (some b) := by
  have hlt := h.lt
  obtain ⟨es, clock, hb, hh, hp, hc⟩ := h
  unfold Builtin.delete_
  simp only [List.getElem?_toArray, List.getElem?_cons_zero, List.getElem?_cons_succ, Sem.run_bind, run_underlying mapUnd, Result.andThen_ok, MapKept.run_getObj_map hb, checkNet, findKey_run a l w es.toList rs hh]
  unfold dropN
  cases hi : idxN rs a l with
  | none =>
    rw [idx_none hi]
    have hs := MapKept.run_setObj_map (P := Try.prog) (.map es clock) hb
    refine ⟨setB w b (.map es clock), by simp only [Option.bind_none, Sem.run_bind]; rw [hs]; rfl, ⟨es, clock, setB_at hlt, hh, hp, hc⟩, setB_grown _⟩
  | some k =>
    obtain ⟨hk, hl, hn, _⟩ := idx_get hi
    rw [hl]
    have hs := MapKept.run_setObj_map (P := Try.prog) (.map (es.eraseIdxIfInBounds k) clock) hb
    have hke : k < es.size := by have := hh.nil_iff; simp at this; omega
    have he : (es.eraseIdxIfInBounds k).toList = es.toList.eraseIdx k := by
      unfold Array.eraseIdxIfInBounds
      rw [dif_pos hke, Array.toList_eraseIdx]
    refine ⟨setB w b (.map (es.eraseIdxIfInBounds k) clock), by simp only [Option.bind_some, Option.map_some, Sem.run_bind]; rw [hs]; rfl, ⟨_, _, setB_at hlt, ?_, ?_, ?_⟩, setB_grown _⟩
    · simp only [Holds] at hh ⊢
      rw [he, map_erase, map_erase, hh]
    · rw [he, map_erase]
      exact hp.sublist (List.eraseIdx_sublist _ _)
    · intro e h'
      rw [he] at h'
      exact hc e (List.mem_of_mem_eraseIdx h')
set_option maxRecDepth 100000 in
theorem drop_any (B : Nat) (rs : List Rt) (a l : Int) (w : World) (h : MapIs w B rs) :
    Calls Try.prog 61 #[tabV B, netV a l] w fun e w' => e = .returned (.tuple #[]) ∧ MapIs w' B (dropN rs a l) ∧ w.grownBy w' (some B) := by
  have hlt := h.lt
  obtain ⟨W, hW, q0, q1, hB, hS⟩ := rows2 w [.map (some B), .func (.func 82) #[] #[]] [.int .i64 a, .int .i64 l] 82 35
  have hg0 : w.grownBy W (some B) := by rw [hW]; exact grown_trans (World.grownBy_alloc w _ _) (World.grownBy_alloc _ _ _)
  obtain ⟨w2, hrun, hm2, hg2⟩ := map_drop (h.below hB hlt) a l 0
  have HH : Hid (MapIs w2 B (dropN rs a l) ∧ w.grownBy w2 (some B)) := ⟨hm2, grown_trans hg0 hg2⟩
  clear hm2 hg2 h hB hg0
  unfold tabV netV
  unfold netV at hrun
  rw [hW] at hrun
  have c0 : W.cell? ⟨w.heap.size, 0, none⟩ = some (.map (some B)) := q0.cell 0
  have c1 : W.cell? ⟨w.heap.size, 1, none⟩ = some (.func (.func 82) #[] #[]) := q0.cell 1
  have d0 : W.cell? ⟨w.heap.size + 1, 0, none⟩ = some (.int .i64 a) := q1.cell 0
  have d1 : W.cell? ⟨w.heap.size + 1, 1, none⟩ = some (.int .i64 l) := q1.cell 1
  have HW : Hid _ := hW
  clear hW q0 q1
  go_enter Try.func61, Try.ntmps61
  go_wp2
  refine bodyPost_end (v := .tuple #[]) (by simp [results, Try.results61, go_sem]) rfl ⟨rfl, HH.out.1, HH.out.2⟩
end Go.Proofs.Ytaledidomgelcaa
/- A range over a function whose rounds may change what that function reads. -/
namespace Go.Proofs.Ytaledidomgelcaa
open Go.RowKit

theorem wpIn_turns {α : Type} {n : Nat} {P : Program} {g : Operand} {ps : Array Tmp} {assign body : Code} {Q : Exit → Act → World → Prop} {a : Act} {w : World}
    (h1 : 1 ≤ n) {gf : Nat} {lb : Array Value} (hg : a.eval g = .func (.func gf) #[] lb) (eg : ∀ args w, (callFunc gf args).run P w = .ok (.enter gf args) w)
    (enc : α → Value) (xs : List α) (hps : ps.size = 1) (Kp : World → World → Prop) (hKt : ∀ {A B C : World}, Kp A B → Kp B C → Kp A C)
    (hKb : ∀ (W : World) (o o' : Obj), W.heap[w.heap.size + 1]? = some o → o.isCells = false → Kp W (W.putObj (w.heap.size + 1) o'))
    (I : List α → World → Prop) (hIg : ∀ s X Y, I s X → X.grownBy Y none → I s Y) (hIp : ∀ s X r o, I s X → X.heap[w.heap.size + 1]? = some (.loop r) → I s (X.putObj (w.heap.size + 1) o))
    (hseq : ∀ (l : Nat) (J : List α → World → Prop) (W : World), Below w.heap.size w W → (∀ s X Y, J s X → X.grownBy Y none → J s Y) → (∀ s X, J s X → I s X) →
      (∀ k (hk : k < xs.length) X, J (xs.take k) X → YieldAt Fence.wide (n - 1 - 1) P l #[enc xs[k]] X fun e Y => e = .returned (.bool true) ∧ J (xs.take (k + 1)) Y ∧ Kp X Y) → J [] W →
      CallsIn Fence.wide (n - 1) P gf (#[.func (.yield l) #[] #[]] ++ lb) W fun e Y => (∃ v, e = .returned v) ∧ J xs Y)
    (h0 : I [] w) (A : Nat → Act → World → Prop) (hAp : ∀ k a' X r o, A k a' X → X.heap[w.heap.size + 1]? = some (.loop r) → A k a' (X.putObj (w.heap.size + 1) o))
    (hassign : ∀ (l k : Nat) (hk : k < xs.length) (X : World) (K : Act → World → Prop), I (xs.take k) X → (∀ a' X', KeepsFrom w.heap.size X X' → Kp X X' → A k a' X' → K a' X') →
      assign.wpIn (Fence.wide.inRound l) (n - 1 - 1) P (Exit.then K (fun _ _ _ => False)) { tmps := (ps.zip #[enc xs[k]]).foldl (fun t (p, v) => t.setIfInBounds p v) a.tmps, defers := [] } X)
    (hbody : ∀ (l k : Nat) (_ : k < xs.length) (a' : Act) (X : World), A k a' X → body.wpIn (Fence.wide.inRound l) (n - 1 - 1) P (fun e _ X' => e = .normal ∧ KeepsFrom w.heap.size X X' ∧ Kp X X' ∧ I (xs.take (k + 1)) X') a' X)
    (hdone : ∀ W, I xs W → W.heap[w.heap.size]? = some (.deferred (some [])) → Q .normal { a with defers := { target := .collected w.heap.size, args := #[] } :: a.defers } W) :
    (Code.rangeFunc g ps assign body).wpIn Fence.wide n P Q a w := by
  refine wpIn_rangeFunc ?_
  intro fn hfn
  rw [show Fence.wide.round = none from rfl]
  obtain ⟨rd, hrd⟩ : ∃ rd : LoopState → Loop, rd = fun st => { state := st, pending := none, fn, tmps := a.tmps, params := ps, assign, body, defers := w.heap.size } := ⟨_, rfl⟩
  obtain ⟨V, hV⟩ : ∃ V, (w.alloc (.deferred (some []))).alloc (.loop (rd .ready)) = V := ⟨_, rfl⟩
  have hs : V.heap.size = w.heap.size + 1 + 1 := by rw [← hV]; simp
  have hbV : Below w.heap.size w V := by rw [← hV]; exact ((Below.refl _ w).alloc (Nat.le_refl _) _).alloc (by simp) _
  have hgV : w.grownBy V none := ⟨hbV.os, hbV.tape, hbV.output, hbV.size, fun k hk _ => hbV.block k hk⟩
  have hL : V.heap[w.heap.size + 1]? = some (.loop (rd .ready)) := by
    rw [← hV]; have := World.alloc_heap_new (w.alloc (.deferred (some []))) (.loop (rd .ready)); rwa [World.size_alloc] at this
  have hD : V.heap[w.heap.size]? = some (.deferred (some [])) := by
    rw [← hV]; exact (Below.heap_alloc _ _ _ (by simp)).trans (World.alloc_heap_new w _)
  refine ⟨w.heap.size + 1, [{ target := .collected w.heap.size, args := #[] }], V, { target := .fn (.func gf) lb, args := #[.func (.yield (w.heap.size + 1)) #[] #[]] }, V, gf,
    #[.func (.yield (w.heap.size + 1)) #[] #[]] ++ lb, V, by rw [← hV, hrd]; exact run_enterLoop_outer _ _ _ _ _, ?_, fun _ _ => trivial, ?_, fun _ => h1, ?_⟩
  · simp only [resolve, hg]
    simp [go_sem]
  · simp [invoke, go_sem, eg]
  refine (hseq (w.heap.size + 1) (fun s X => I s X ∧ X.heap[w.heap.size + 1]? = some (.loop (rd .ready)) ∧ X.heap[w.heap.size]? = some (.deferred (some []))) V hbV
    (fun s X Y h hXY => ⟨hIg s X Y h.1 hXY, (hXY.block _ (Array.getElem?_eq_some_iff.1 h.2.1).1 (by simp)).trans h.2.1, (hXY.block _ (Array.getElem?_eq_some_iff.1 h.2.2).1 (by simp)).trans h.2.2⟩)
    (fun s X h => h.1) ?_ ⟨hIg _ _ _ h0 hgV, hL, hD⟩).mono ?_
  · rintro k hk X ⟨hi, hl, hd⟩
    have hy := run_yield (P := P) (args := #[enc xs[k]]) hl (by rw [hrd]; exact hps.symm)
    rw [hrd] at hy
    refine ⟨fn, _, assign, body, hy, roundIn_of_wpIn hfn (hassign _ k hk X _ hi ?_)⟩
    intro a' X1 hk1 hp1 hA
    have l1 := hk1.same _ _ (by omega) hl rfl
    have d1 := hk1.same _ _ (Nat.le_refl _) hd rfl
    have lt1 : w.heap.size + 1 < X1.heap.size := (Array.getElem?_eq_some_iff.1 l1).1
    refine ⟨_, run_beginRound l1 (by rw [hrd]), ?_⟩
    have l2 : (X1.putObj (w.heap.size + 1) (.loop { rd .ready with state := .busy })).heap[w.heap.size + 1]? = some (.loop { rd .ready with state := .busy }) := World.putObj_heap_same lt1
    have d2 : (X1.putObj (w.heap.size + 1) (.loop { rd .ready with state := .busy })).heap[w.heap.size]? = some (.deferred (some [])) := (World.putObj_heap_other (by omega)).trans d1
    have p2 := hKb X1 _ (.loop { rd .ready with state := .busy }) l1 rfl
    refine wpIn_mono (hbody _ k hk a' _ (hAp k a' X1 _ _ hA l1)) ?_
    rintro e a3 X3 ⟨rfl, hk3, hp3, hi3⟩
    have l3 := hk3.same _ _ (by omega) l2 rfl
    have d3 := hk3.same _ _ (Nat.le_refl _) d2 rfl
    have hr := run_endRound (P := P) none l3
    have p4 := hKb X3 _ (.loop (rd .ready)) l3 rfl
    rw [hrd] at hr
    refine ⟨_, _, hr, rfl, ⟨hIp _ _ _ _ hi3 l3, ?_, (World.putObj_heap_other (by omega)).trans d3⟩, ?_⟩
    · rw [hrd]; exact World.putObj_heap_same (Array.getElem?_eq_some_iff.1 l3).1
    · rw [hrd] at p4 p2 hp3
      exact hKt hp1 (hKt p2 (hKt hp3 p4))
  · rintro e Y ⟨⟨v, rfl⟩, hi, hl, hd⟩
    have hr := run_endLoop (P := P) hl (by rw [hrd]; simp)
    rw [hrd] at hr
    exact ⟨none, _, hr, hdone _ (hIp _ _ _ _ hi hl) ((World.putObj_heap_other (by omega)).trans hd)⟩
end Go.Proofs.Ytaledidomgelcaa
