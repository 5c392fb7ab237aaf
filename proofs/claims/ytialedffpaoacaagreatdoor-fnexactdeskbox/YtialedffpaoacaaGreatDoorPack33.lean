/- Texts that stand on each other, in one file: SortedI, AllI, AppR, PutS. -/
import Derived.Test.YtialedffpaoacaaGreatDoorPack32
import Derived.Test.YtialedffpaoacaaGreatDoorPack19
import Derived.Test.YtialedffpaoacaaGreatDoorPack29
import Derived.Test.YtialedffpaoacaaGreatDoorPack2
import Derived.Maps.AppendAt
import Derived.Test.YtialedffpaoacaaGreatDoorPack21
import Derived.Test.YtialedffpaoacaaGreatDoorPack14
/- slices.SortedFunc of the nets of a map. (Written by gen_sorted.py.) -/
namespace Go.Proofs.YtialedffpaoacaaGreatDoor
open Go.RowKit Go.Sort

set_option maxRecDepth 100000 in
theorem insertion_nil (w : World) : Calls Tryz.prog 246 #[.slice none 0 0, .int .i64 0, .int .i64 0, .func (.func 217) #[] #[]] w fun e w' => e = .returned (.tuple #[]) ∧ w = w' := by
  go_enter Tryz.func246, Tryz.ntmps246
  go_wp2_with fail
  refine wp_loop_once ?_
  go_wp2
  refine bodyPost_end (v := .tuple #[]) (by simp [results, Tryz.results246, go_sem]) rfl ⟨rfl, rfl⟩
set_option maxRecDepth 100000 in
theorem pdq_nil (r : Int) (w : World) : Calls Tryz.prog 244 #[.slice none 0 0, .int .i64 0, .int .i64 0, .int .i64 r, .func (.func 217) #[] #[]] w fun e w' => e = .returned (.tuple #[]) ∧ w = w' := by
  have HI : Hid (Calls Tryz.prog 246 #[.slice none 0 0, .int .i64 0, .int .i64 0, .func (.func 217) #[] #[]] w fun e w' => e = .returned (.tuple #[]) ∧ w = w') := insertion_nil w
  go_enter Tryz.func244, Tryz.ntmps244
  go_wp2_with fail
  refine wp_loop_once ?_
  go_wp2_with fail
  refine (HI.out).mono ?_
  rintro e w1 ⟨rfl, rfl⟩
  clear HI
  go_wp2
  refine bodyPost_ret (v := .tuple #[]) (by simp [results, Tryz.results244, go_sem]) rfl ⟨rfl, rfl⟩
set_option maxRecDepth 100000 in
theorem sortFunc_nil (w : World) : Calls Tryz.prog 241 #[.slice none 0 0, .func (.func 217) #[] #[]] w fun e w' => e = .returned (.tuple #[]) ∧ w = w' := by
  have HP : Hid (∀ r, Calls Tryz.prog 244 #[.slice none 0 0, .int .i64 0, .int .i64 0, .int .i64 r, .func (.func 217) #[] #[]] w fun e w' => e = .returned (.tuple #[]) ∧ w = w') := fun r => pdq_nil r w
  have HL : Hid (Calls Tryz.prog 245 #[.int .u64 0] w fun e w' => ∃ r, e = .returned (.int .i64 r) ∧ w = w') := bitsLen_small 0 (by omega) w
  go_enter Tryz.func241, Tryz.ntmps241
  go_wp2_with fail
  refine (HL.out).mono ?_
  rintro e w1 ⟨r, rfl, rfl⟩
  go_wp2_with fail
  refine (HP.out r).mono ?_
  rintro e w1 ⟨rfl, rfl⟩
  clear HP HL
  go_wp2
  refine bodyPost_end (v := .tuple #[]) (by simp [results, Tryz.results241, go_sem]) rfl ⟨rfl, rfl⟩
/-- The slice v holds the nets xs, in memory laid since block B. -/
def HoldsN (w : World) (B : Nat) (v : Value) (xs : List NP) : Prop := (xs = [] ∧ v = .slice none 0 0) ∨ ∃ g cap, v = .slice (some ⟨g, 0, none⟩) xs.length cap ∧ NetsAt w g xs ∧ B ≤ g
theorem holdsN_row {w : World} {B : Nat} {v : Value} {xs : List NP} (h : w.ownsRow B 70 2 v xs.length (flatN xs)) : HoldsN w B v xs := by
  rcases h.2 with ⟨rfl, h0⟩ | ⟨g, cap, cur, rfl, hb, hg, hnc, hcm, hcs, htake⟩
  · exact .inl ⟨List.length_eq_zero_iff.1 h0, rfl⟩
  · refine .inr ⟨g, cap, rfl, ⟨cur.toList, ?_, ?_⟩, hb⟩
    · show w.heap[g]? = _
      rw [hg]
    · rw [Nat.mul_comm]; exact htake
set_option maxRecDepth 100000 in
set_option maxHeartbeats 1000000 in
theorem sortedN (Bm b : Nat) (rs : List Rt) (w : World) (h8 : rs.length ≤ 12) (hm : w.cell? ⟨Bm, 0, none⟩ = some (.map (some b))) (hM : MapIs w b rs) :
    Calls Tryz.prog 235 #[.func (.func 242) #[] #[.pointer (some ⟨Bm, 0, none⟩)], .func (.func 217) #[] #[]] w fun e w' => ∃ v xs, e = .returned v ∧ xs.Perm (rs.map netOfR) ∧ Risen xs xs.length ∧ HoldsN w' w.heap.size v xs ∧ Below w.heap.size w w' := by
  have HA : Hid (Calls Tryz.prog 240 #[.func (.func 242) #[] #[.pointer (some ⟨Bm, 0, none⟩)]] w fun e w' => ∃ v xs, e = .returned v ∧ xs.Perm (rs.map netOfR) ∧ w'.ownsRow w.heap.size 70 2 v xs.length (flatN xs) ∧ Below w.heap.size w w') := collectN Bm b rs w (by omega) hm hM
  clear hm hM
  go_enter Tryz.func235, Tryz.ntmps235
  go_wp2_with fail
  refine (HA.out).mono ?_
  rintro e w1 ⟨v, xs, rfl, h1, h2, h3⟩
  have hl : xs.length ≤ 12 := by rw [h1.length_eq, List.length_map]; exact h8
  rcases holdsN_row h2 with ⟨rfl, rfl⟩ | ⟨g, cap, rfl, hN, hg⟩
  · have HS : Hid (Calls Tryz.prog 241 #[.slice none 0 0, .func (.func 217) #[] #[]] w1 fun e w' => e = .returned (.tuple #[]) ∧ w1 = w') := sortFunc_nil w1
    clear h2 HA
    go_wp2_with fail
    refine (HS.out).mono ?_
    rintro e w2 ⟨rfl, rfl⟩
    clear HS
    go_wp2
    go_ret
    exact ⟨_, [], rfl, h1, fun p hp => absurd hp (by simp), .inl ⟨rfl, rfl⟩, h3⟩
  · have HS : Hid (Calls Tryz.prog 241 #[.slice (some ⟨g, 0, none⟩) xs.length cap, .func (.func 217) #[] #[]] w1 fun e w' => e = .returned (.tuple #[]) ∧ InsSt g xs w1 xs.length w') := sortFunc_any g cap xs w1 hl hN
    clear h2 HA hN
    have HX : Hid _ := And.intro h1 (And.intro h3 hg)
    clear h1 h3 hg
    go_wp2_with fail
    refine (HS.out).mono ?_
    rintro e w2 ⟨rfl, cur, hN, hP, hR, hBt⟩
    have HLn : Hid (cur.length = xs.length) := hP.length_eq
    have HY : Hid _ := And.intro hN (And.intro hP (And.intro hR hBt))
    clear hN hP hR hBt HS
    go_wp2
    go_ret
    obtain ⟨hN, hP, hR, hBt⟩ := HY.out
    obtain ⟨h1, h3, hg⟩ := HX.out
    exact ⟨_, cur, rfl, hP.trans h1, by rw [HLn.out]; exact hR, .inr ⟨g, cap, by rw [HLn.out]; rfl, hN, hg⟩, hBt _ _ h3 hg⟩
def ltN (x y : NP) : Prop := x.1 < y.1 ∨ (x.1 = y.1 ∧ x.2 < y.2)
/-- The nets of a right table, in whatever order they came, sorted: they stand as in the table. -/
theorem risen_nets {rs : List Rt} (hr : ribB rs = true) {xs : List NP} (hp : xs.Perm (rs.map netOfR)) (hx : Risen xs xs.length) : xs = rs.map netOfR := by
  have hpw : (rs.map netOfR).Pairwise ltN := by
    rw [List.pairwise_map]
    exact (rib_rising hr).imp fun h => h
  have hright : ∀ x ∈ xs, rightB x.1 x.2 = true := by
    intro x hm
    obtain ⟨r, hrm, rfl⟩ := List.mem_map.1 (hp.mem_iff.1 hm)
    obtain ⟨j, hj, rfl⟩ := List.mem_iff_getElem.1 hrm
    have := okAt_route ((ribB_spec hr).2 j hj)
    rw [get_bang hj] at this
    exact routeB_right this
  have hnd : xs.Nodup := (hp.nodup_iff).2 (hpw.imp fun h e => by subst e; unfold ltN at h; omega)
  have step : ∀ p (h : p + 1 < xs.length), ltN (xs[p]'(by omega)) xs[p + 1] := by
    intro p h
    have h1 := hx p h
    rw [getElem!_pos xs (p + 1) h, getElem!_pos xs p (by omega), ahead_iff] at h1
    unfold lessB at h1
    rw [hright _ (List.getElem_mem _), hright _ (List.getElem_mem _)] at h1
    have hne : xs[p]'(by omega) ≠ xs[p + 1] := (List.pairwise_iff_getElem.1 hnd) p (p + 1) (by omega) h (by omega)
    have hne' : ¬ ((xs[p]'(by omega)).1 = xs[p + 1].1 ∧ (xs[p]'(by omega)).2 = xs[p + 1].2) := fun h => hne (Prod.ext h.1 h.2)
    simp only [Bool.true_and, Bool.or_eq_false_iff, Bool.and_eq_false_iff, decide_eq_false_iff_not, beq_eq_false_iff_ne, ne_eq] at h1
    unfold ltN
    omega
  have hxs : xs.Pairwise ltN := by
    rw [List.pairwise_iff_getElem]
    intro i j hi hj hij
    induction j with
    | zero => omega
    | succ j ih =>
      rcases Nat.lt_or_ge i j with h' | h'
      · have h1 := ih (by omega) h'
        have h2 := step j hj
        unfold ltN at *
        omega
      · obtain rfl : i = j := by omega
        exact step i hj
  exact hp.eq_of_pairwise (fun a b _ _ h1 h2 => by unfold ltN at h1 h2; omega) hxs hpw
end Go.Proofs.YtialedffpaoacaaGreatDoor
/- The table's iterator: routes in the order of their nets. (Written by gen_all.py.) -/
namespace Go.Proofs.YtialedffpaoacaaGreatDoor
open Go.RowKit Go.Sort Go.Shelf
attribute [local go_sem] Oper.semAt_some

set_option maxRecDepth 100000 in
theorem keys_make (b : Nat) (w : World) : Calls Tryz.prog 236 #[.map (some b)] w fun e w' => e = .returned (.func (.func 242) #[] #[.pointer (some ⟨w.heap.size, 0, none⟩)]) ∧ w.alloc (.cells #[.map (some b)] 250) = w' := by
  go_enter Tryz.func236, Tryz.ntmps236
  go_wp2
  go_ret
  exact ⟨rfl, rfl⟩
set_option maxRecDepth 100000 in
theorem all_make (B : Nat) (w : World) : Calls Tryz.prog 225 #[tabV B] w fun e w' => e = .returned (.func (.func 234) #[] #[.pointer (some ⟨w.heap.size, 0, none⟩)]) ∧ w.alloc (.cells #[.map (some B), .func (.func 217) #[] #[]] 253) = w' := by
  unfold tabV
  go_enter Tryz.func225, Tryz.ntmps225
  go_wp2
  go_ret
  exact ⟨rfl, rfl⟩
theorem HoldsN.form {w : World} {B : Nat} {v : Value} {xs : List NP} (h : HoldsN w B v xs) : ∃ p cap, v = .slice p xs.length cap := by
  rcases h with ⟨rfl, rfl⟩ | ⟨g, cap, rfl, _, _⟩
  · exact ⟨none, 0, rfl⟩
  · exact ⟨_, cap, rfl⟩
theorem HoldsN.below {w w' : World} {B : Nat} {v : Value} {xs : List NP} (h : HoldsN w B v xs) (hb : Below w.heap.size w w') : HoldsN w' B v xs := by
  rcases h with ⟨rfl, rfl⟩ | ⟨g, cap, rfl, hN, hg⟩
  · exact .inl ⟨rfl, rfl⟩
  · exact .inr ⟨g, cap, rfl, hN.below hb hN.lt, hg⟩
theorem stab_seq (b : Nat) : ∀ (x : Value) (w1 w2 : World), (∃ Bm, x = .func (.func 242) #[] #[.pointer (some ⟨Bm, 0, none⟩)] ∧ Row w1 Bm 250 [.map (some b)]) → Below w1.heap.size w1 w2 → ∃ Bm, x = .func (.func 242) #[] #[.pointer (some ⟨Bm, 0, none⟩)] ∧ Row w2 Bm 250 [.map (some b)] := by
  rintro x w1 w2 ⟨B, e, h⟩ hb
  exact ⟨B, e, h.below hb h.lt⟩
theorem stab_nets (n : Nat) (xs : List NP) : ∀ (x : Value) (w1 w2 : World), (∃ B0, n ≤ B0 ∧ HoldsN w1 B0 x xs) → Below w1.heap.size w1 w2 → ∃ B0, n ≤ B0 ∧ HoldsN w2 B0 x xs := by
  rintro x w1 w2 ⟨B, e, h⟩ hb
  exact ⟨B, e, h.below hb⟩
theorem HoldsN.at {w : World} {B : Nat} {p : Option Addr} {n cap : Nat} {xs : List NP} (h : HoldsN w B (.slice p n cap) xs) (hx : 0 < xs.length) : ∃ g, p = some ⟨g, 0, none⟩ ∧ NetsAt w g xs ∧ B ≤ g := by
  rcases h with ⟨rfl, _⟩ | ⟨g, cap', e, hN, hBg⟩
  · simp at hx
  · simp only [Value.slice.injEq] at e
    exact ⟨g, e.1, hN, hBg⟩
theorem lookN_at {rs : List Rt} (h : rs.Pairwise ltP) (k : Nat) (hk : k < rs.length) : lookN rs rs[k].a rs[k].l = some rs[k] := by
  unfold lookN
  rw [List.find?_eq_some_iff_getElem]
  refine ⟨by simp [isN], k, hk, rfl, fun j hj => ?_⟩
  have := ltP_ne ((List.pairwise_iff_getElem.1 h) j k (by omega) hk hj)
  simp [this]
theorem lookN_perm {ms rs : List Rt} (hp : ms.Perm rs) (h : rs.Pairwise ltP) (k : Nat) (hk : k < rs.length) : lookN ms rs[k].a rs[k].l = some rs[k] := by
  have hmem : rs[k] ∈ ms := hp.mem_iff.2 (List.getElem_mem hk)
  have hsome : (lookN ms rs[k].a rs[k].l).isSome = true := by
    unfold lookN
    rw [List.find?_isSome]
    exact ⟨rs[k], hmem, by simp [isN]⟩
  obtain ⟨r, hr⟩ := Option.isSome_iff_exists.1 hsome
  rw [hr]
  unfold lookN at hr
  have h1 := List.find?_some hr
  have h2 : r ∈ rs := hp.mem_iff.1 (List.mem_of_find?_eq_some hr)
  obtain ⟨j, hj, rfl⟩ := List.mem_iff_getElem.1 h2
  have hjk : j = k := by
    rcases Nat.lt_trichotomy j k with h' | h' | h'
    · have := ltP_ne ((List.pairwise_iff_getElem.1 h) j k hj hk h')
      rw [this] at h1; cases h1
    · exact h'
    · have h3 := (List.pairwise_iff_getElem.1 h) k j hk hj h'
      obtain ⟨e1, e2⟩ := isN_eq h1
      unfold ltP at h3
      omega
  subst hjk
  rfl
theorem map_look1 {w : World} {b : Nat} {rs : List Rt} (h : MapIs w b rs) (a l : Int) :
    (Instr.lookup 250 (.map (some b)) (netV a l) false).run Tryz.prog w = .ok (rtV ((lookN rs a l).getD zeroR)) w := by
  obtain ⟨es, clock, hb, hh, _, _⟩ := h
  unfold Instr.lookup
  simp only [Sem.run_bind, run_underlying mapUnd, Result.andThen_ok, MapKept.run_getObj_map hb, pure_bind, checkNet, findKey_run a l w es.toList rs hh]
  cases hi : idxN rs a l with
  | none =>
    rw [idx_none hi]
    simp
    rfl
  | some k =>
    obtain ⟨hk, hl, _⟩ := idx_get hi
    rw [hl]
    simp
/-- What a round of a loop over the table keeps: its nets, its tables, its maps. -/
structure KpN (W W' : World) : Prop where
  size : W.heap.size ≤ W'.heap.size
  rows : ∀ (k : Nat) (cur : Array Value) (t : TypeId), W.heap[k]? = some (Obj.cells cur t (0, 0)) → t = 70 ∨ t = 253 → W'.heap[k]? = W.heap[k]?
  walks : KeepsWalks W W'
set_option maxRecDepth 100000 in
set_option maxHeartbeats 2000000 in
theorem all1_in (n : Nat) (hn : 1 ≤ n) (l Bt b : Nat) (ms rs : List Rt) (hp : ms.Perm rs) (hr : ribB rs = true) (J Jx : List Rt → World → Prop)
    (hY : ∀ pre x W, J pre W → pre.length < rs.length → YieldAt Fence.wide (n - 1) Tryz.prog l #[rtV x] W fun e W' =>
      (e = .returned (.bool true) ∧ J (pre ++ [x]) W' ∧ KpN W W') ∨ (e = .returned (.bool false) ∧ Jx (pre ++ [x]) W'))
    (W0 : World) (hJ : AbidesFrom W0.heap.size J) (hT : Row W0 Bt 253 [.map (some b), .func (.func 217) #[] #[]]) (hM : MapIs W0 b ms) (h0 : J [] W0) :
    CallsIn Fence.wide n Tryz.prog 234 #[.func (.yield l) #[] #[], .pointer (some ⟨Bt, 0, none⟩)] W0 fun e W' => (∃ v, e = .returned v) ∧
      ((∃ xs : List Rt, xs = rs ∧ J xs W') ∨ (∃ pre : List Rt, pre <+: rs ∧ Jx pre W')) := by
  have h8 := (ribB_spec hr).1
  have HS : Hid (∀ Bm w, w.cell? ⟨Bm, 0, none⟩ = some (.map (some b)) → MapIs w b ms → Calls Tryz.prog 235 #[.func (.func 242) #[] #[.pointer (some ⟨Bm, 0, none⟩)], .func (.func 217) #[] #[]] w fun e w' => ∃ v, e = .returned v ∧ HoldsN w' w.heap.size v (rs.map netOfR) ∧ Below w.heap.size w w') := fun Bm w h1 h2 =>
    (sortedN Bm b ms w (by rw [hp.length_eq]; omega) h1 h2).mono fun e w' h => by
      obtain ⟨v, xs, e, hq, hR, hH, hb⟩ := h
      rw [risen_nets hr (hq.trans (hp.map _)) hR] at hH
      exact ⟨v, e, hH, hb⟩
  refine callsIn_of_wp Tryz.func234 rfl trivial ?_ rfl
  simp only [Tryz.ntmps234, List.size_toArray, List.length_cons, List.length_nil, Nat.reduceAdd, Nat.reduceSub, Array.replicate_succ, Array.replicate_zero, List.push_toArray, List.append_toArray, List.nil_append, List.cons_append]
  refine wpIn_seq ?_
  refine wpIn_wide.2 ?_
  have hGN : (([(5, Is (.pointer (some ⟨Bt, 0, none⟩))), (6, Is (.map (some b))), (7, fun v W => ∃ Bm, v = .func (.func 242) #[] #[.pointer (some ⟨Bm, 0, none⟩)] ∧ Row W Bm 250 [.map (some b)]), (8, Is (.pointer (some ⟨Bt, 1, none⟩))), (9, Is (.func (.func 217) #[] #[])), (10, fun v W => ∃ B0, W0.heap.size ≤ B0 ∧ HoldsN W B0 v (rs.map netOfR)), (11, Is (.int .i64 (rs.length : Int))), (12, Is (.int .i64 0))] : List (Nat × (Value → World → Prop))).map (·.1)).Nodup := by simp
  refine wp_region_steady 8 (SlotG [(5, Is (.pointer (some ⟨Bt, 0, none⟩))), (6, Is (.map (some b))), (7, fun v W => ∃ Bm, v = .func (.func 242) #[] #[.pointer (some ⟨Bm, 0, none⟩)] ∧ Row W Bm 250 [.map (some b)]), (8, Is (.pointer (some ⟨Bt, 1, none⟩))), (9, Is (.func (.func 217) #[] #[])), (10, fun v W => ∃ B0, W0.heap.size ≤ B0 ∧ HoldsN W B0 v (rs.map netOfR)), (11, Is (.int .i64 (rs.length : Int))), (12, Is (.int .i64 0))]) (by kernel_rfl) (by kernel_rfl) (Stabs.all ⟨stab_is _, stab_is _, stab_seq b, stab_is _, stab_is _, stab_nets _ _, stab_is _, stab_is _, trivial⟩) ?_ ?_
  · intro o ho
    simp only [List.take_succ_cons, List.take_zero, List.mem_cons, List.not_mem_nil, or_false] at ho
    rcases ho with rfl | rfl | rfl | rfl | rfl | rfl | rfl | rfl
    · intro a' w' hb ha hdep
      have d1 : a'.tmps.getD 1 undef = .pointer (some ⟨Bt, 0, none⟩) := ha.at 1 (by kernel_rfl)
      have hmk := fun (x : Value) (W : World) => SlotG.mk (x := x) (w := W) 0 rfl hGN
      clear hGN ha hdep
      go_simp
      exact ⟨_, rfl, Below.refl _ _, hmk _ _ rfl⟩
    · intro a' w' hb ha hdep
      have d5 : a'.tmps.getD 5 undef = .pointer (some ⟨Bt, 0, none⟩) := (hdep 5 (of_decide_eq_true (by kernel_rfl))).is 0 rfl
      have hmk := fun (x : Value) (W : World) => SlotG.mk (x := x) (w := W) 1 rfl hGN
      clear hGN ha hdep
      have y0 : w'.cell? ⟨Bt, 0, none⟩ = some (.map (some b)) := (hT.below hb hT.lt).cell 0
      go_simp
      exact ⟨_, rfl, Below.refl _ _, hmk _ _ rfl⟩
    · intro a' w' hb ha hdep
      have d6 : a'.tmps.getD 6 undef = .map (some b) := (hdep 6 (of_decide_eq_true (by kernel_rfl))).is 1 rfl
      have hmk := fun (x : Value) (W : World) => SlotG.mk (x := x) (w := W) 2 rfl hGN
      clear hGN ha hdep
      go_simp
      refine (keys_make b _).mono ?_
      rintro e w2 ⟨rfl, rfl⟩
      exact ⟨_, rfl, ent_new0 _ _, hmk _ _ ⟨_, rfl, Row.new w' _ [.map (some b)]⟩⟩
    · intro a' w' hb ha hdep
      have d1 : a'.tmps.getD 1 undef = .pointer (some ⟨Bt, 0, none⟩) := ha.at 1 (by kernel_rfl)
      have hmk := fun (x : Value) (W : World) => SlotG.mk (x := x) (w := W) 3 rfl hGN
      clear hGN ha hdep
      go_simp
      exact ⟨_, rfl, Below.refl _ _, hmk _ _ rfl⟩
    · intro a' w' hb ha hdep
      have d8 : a'.tmps.getD 8 undef = .pointer (some ⟨Bt, 1, none⟩) := (hdep 8 (of_decide_eq_true (by kernel_rfl))).is 3 rfl
      have hmk := fun (x : Value) (W : World) => SlotG.mk (x := x) (w := W) 4 rfl hGN
      clear hGN ha hdep
      have y1 : w'.cell? ⟨Bt, 1, none⟩ = some (.func (.func 217) #[] #[]) := (hT.below hb hT.lt).cell 1
      go_simp
      exact ⟨_, rfl, Below.refl _ _, hmk _ _ rfl⟩
    · intro a' w' hb ha hdep
      have D7 := (hdep 7 (of_decide_eq_true (by kernel_rfl))).get 2 rfl
      have d9 : a'.tmps.getD 9 undef = .func (.func 217) #[] #[] := (hdep 9 (of_decide_eq_true (by kernel_rfl))).is 4 rfl
      have hmk := fun (x : Value) (W : World) => SlotG.mk (x := x) (w := W) 5 rfl hGN
      clear hGN ha hdep
      obtain ⟨Bm, d7, hRm⟩ := D7
      have hsz := hb.size
      go_simp
      refine (HS.out Bm _ (hRm.cell 0) (hM.below hb hM.lt)).mono ?_
      rintro e w2 ⟨v, rfl, hv, hb2⟩
      exact ⟨_, rfl, hb2, hmk _ _ ⟨_, hsz, hv⟩⟩
    · intro a' w' hb ha hdep
      have D10 := (hdep 10 (of_decide_eq_true (by kernel_rfl))).get 5 rfl
      have hmk := fun (x : Value) (W : World) => SlotG.mk (x := x) (w := W) 6 rfl hGN
      clear hGN ha hdep
      obtain ⟨B0, hB0, hv⟩ := D10
      obtain ⟨p, cap, d10⟩ := hv.form
      rw [List.length_map] at d10
      go_simp
      exact ⟨_, rfl, Below.refl _ _, hmk _ _ rfl⟩
    · intro a' w' hb ha hdep
      have hmk := fun (x : Value) (W : World) => SlotG.mk (x := x) (w := W) 7 rfl hGN
      clear hGN ha hdep
      go_simp
      exact ⟨_, rfl, Below.refl _ _, hmk _ _ rfl⟩
  · intro a' w' hb ha hG
    clear hGN
    have D10 := (hG _ (List.mem_of_getElem? (i := 5) rfl) 10 rfl).get 5 rfl
    have d11 : a'.tmps.getD 11 undef = .int .i64 (rs.length : Int) := (hG _ (List.mem_of_getElem? (i := 6) rfl) 11 rfl).is 6 rfl
    have d12 : a'.tmps.getD 12 undef = .int .i64 0 := (hG _ (List.mem_of_getElem? (i := 7) rfl) 12 rfl).is 7 rfl
    have d0 : a'.tmps.getD 0 undef = .func (.yield l) #[] #[] := ha.at 0 (by kernel_rfl)
    have d1 : a'.tmps.getD 1 undef = .pointer (some ⟨Bt, 0, none⟩) := ha.at 1 (by kernel_rfl)
    have e2 : a' = ⟨#[a'.tmps.getD 0 undef, a'.tmps.getD 1 undef, a'.tmps.getD 2 undef, a'.tmps.getD 3 undef, a'.tmps.getD 4 undef, a'.tmps.getD 5 undef, a'.tmps.getD 6 undef, a'.tmps.getD 7 undef, a'.tmps.getD 8 undef, a'.tmps.getD 9 undef, a'.tmps.getD 10 undef, a'.tmps.getD 11 undef, a'.tmps.getD 12 undef, a'.tmps.getD 13 undef, a'.tmps.getD 14 undef, a'.tmps.getD 15 undef, a'.tmps.getD 16 undef, a'.tmps.getD 17 undef, a'.tmps.getD 18 undef, a'.tmps.getD 19 undef, a'.tmps.getD 20 undef, a'.tmps.getD 21 undef, a'.tmps.getD 22 undef, a'.tmps.getD 23 undef], []⟩ := by rw [← (show a'.defers = [] from ha.2.1)]; exact act_eq a' 24 ha.1
    rw [d11, d12, d0, d1] at e2
    clear hG ha d11 d12 d0 d1
    generalize a'.tmps.getD 2 undef = x2 at *
    generalize a'.tmps.getD 3 undef = x3 at *
    generalize a'.tmps.getD 4 undef = x4 at *
    generalize a'.tmps.getD 5 undef = x5 at *
    generalize a'.tmps.getD 6 undef = x6 at *
    generalize a'.tmps.getD 7 undef = x7 at *
    generalize a'.tmps.getD 8 undef = x8 at *
    generalize a'.tmps.getD 9 undef = x9 at *
    generalize a'.tmps.getD 10 undef = x10 at *
    generalize a'.tmps.getD 13 undef = x13 at *
    generalize a'.tmps.getD 14 undef = x14 at *
    generalize a'.tmps.getD 15 undef = x15 at *
    generalize a'.tmps.getD 16 undef = x16 at *
    generalize a'.tmps.getD 17 undef = x17 at *
    generalize a'.tmps.getD 18 undef = x18 at *
    generalize a'.tmps.getD 19 undef = x19 at *
    generalize a'.tmps.getD 20 undef = x20 at *
    generalize a'.tmps.getD 21 undef = x21 at *
    generalize a'.tmps.getD 22 undef = x22 at *
    generalize a'.tmps.getD 23 undef = x23 at *
    subst e2
    simp only [List.drop_succ_cons, List.drop_zero]
    refine wpList_nil ?_
    obtain ⟨B0, hB0, hH⟩ := D10
    have hJ1 : J [] w' := hJ [] W0 w' none h0 ⟨hb.os, hb.tape, hb.output, hb.size, fun k hk _ => hb.block k hk⟩ (fun r e => by cases e)
    have hT1 := hT.below hb hT.lt
    have hM1 := hM.below hb hM.lt
    have hsz := hb.size
    clear hb HS h0 hT hM
    generalize x10 = v at *
    obtain ⟨p, cap, rfl⟩ := hH.form
    rw [List.length_map] at hH ⊢
    gi_wp2
    gi_loopw [12] (fun i wr => ∃ k : Nat, k ≤ rs.length ∧ i = .int .i64 k ∧ J (rs.take k) wr ∧ W0.heap.size ≤ wr.heap.size ∧ Row wr Bt 253 [.map (some b), .func (.func 217) #[] #[]] ∧ MapIs wr b ms ∧ HoldsN wr B0 (.slice p rs.length cap) (rs.map netOfR)) (fun i _ => rs.length - (intOf i).toNat)
    case atStart => exact ⟨0, Nat.zero_le _, rfl, hJ1, hsz, hT1, hM1, hH⟩
    case round =>
      clear hJ1 hT1 hM1 hH hsz
      obtain ⟨k, hk, rfl, hJk, hsz, hTk, hMk, hHk⟩ := hrel
      by_cases hlt : k < rs.length
      · have d1 : decide ((k : Int) < (rs.length : Int)) = true := by simpa using hlt
        obtain ⟨g, rfl, hNk, hBg⟩ := hHk.at (by rw [List.length_map]; omega)
        obtain ⟨c0, c1, -, -⟩ := hNk.cell k (by rw [List.length_map]; exact hlt)
        rw [List.getElem_map] at c0 c1
        have hlk := lookN_perm hp (rib_rising hr) k hlt
        have hJa : J (rs.take k) (wr.alloc (.cells #[.int .i64 rs[k].a, .int .i64 rs[k].l] 70)) := hJ _ wr _ none hJk (World.grownBy_alloc wr _ none) (fun r e => by cases e)
        have hTa := hTk.alloc (.cells #[.int .i64 rs[k].a, .int .i64 rs[k].l] 70)
        have hMa := hMk.below (ent_new0 wr (.cells #[.int .i64 rs[k].a, .int .i64 rs[k].l] 70)) hMk.lt
        have hNa := hNk.below (ent_new0 wr (.cells #[.int .i64 rs[k].a, .int .i64 rs[k].l] 70)) hNk.lt
        have hrun := map_look1 hMa rs[k].a rs[k].l
        rw [hlk, Option.getD_some] at hrun
        obtain ⟨fn, tmps, assign, body, hy, hR⟩ := hY (rs.take k) rs[k] _ hJa (by rw [List.length_take]; omega)
        have t0 : (wr.alloc (.cells #[.int .i64 rs[k].a, .int .i64 rs[k].l] 70)).cell? ⟨Bt, 0, none⟩ = some (.map (some b)) := hTa.cell 0
        have HX : Hid (rs.take k ++ [rs[k]] = rs.take (k + 1)) := (List.take_succ_eq_append_getElem hlt).symm
        have HA : Hid _ := And.intro hTa (And.intro hMa hNa)
        have hbt : Bt < wr.heap.size := hTk.lt
        clear hJk hTk hMk hNk hHk hJa hTa hMa hNa hlk
        rw [HX.out] at hR
        generalize rs[k] = q at *
        obtain ⟨A, L, M, O, I, T, U, E, C⟩ := q
        unfold netV rtV rtA at hrun
        unfold rtV rtA at hy
        simp only [netOfR] at hrun hy c0 c1 t0
        gi_wp2
        refine hR.mono ?_
        rintro e W3 (⟨rfl, hJ3, hk3⟩ | ⟨rfl, hJx3⟩)
        · obtain ⟨hTa, hMa, hNa⟩ := HA.out
          have hT3 : Row W3 Bt 253 [.map (some b), .func (.func 217) #[] #[]] := (hk3.rows Bt _ _ hTa (.inr rfl)).trans hTa
          have hN3 : NetsAt W3 g (rs.map netOfR) := by
            obtain ⟨cur, hc, e⟩ := hNa
            exact ⟨cur, (hk3.rows g _ _ hc (.inl rfl)).trans hc, e⟩
          have hM3 : MapIs W3 b ms := by
            obtain ⟨es, cl, hb', h'⟩ := hMa
            exact ⟨es, cl, hk3.walks.same b _ hb' rfl, h'⟩
          have hs3 : W0.heap.size ≤ W3.heap.size := by have := hk3.size; simp at this; omega
          have HZ : Hid _ := And.intro hJ3 (And.intro hs3 (And.intro hT3 (And.intro hM3 hN3)))
          clear hJ3 hk3 hT3 hN3 hM3 hs3 HA hrun hy hTa hMa hNa c0 c1 t0 hsz hR
          gi_wp2
          go_roundw
          case rel => exact ⟨k + 1, hlt, by go_num, HZ.out.1, HZ.out.2.1, HZ.out.2.2.1, HZ.out.2.2.2.1, .inr ⟨g, cap, by rw [List.length_map], HZ.out.2.2.2.2, hBg⟩⟩
          case measure => simp [intOf]; omega
        · clear HA hrun hy c0 c1 t0 hR
          gi_wp2
          refine bodyPost_ret (results_none rfl _ _ _) rfl ?_
          exact ⟨⟨_, rfl⟩, .inr ⟨rs.take (k + 1), List.take_prefix _ _, hJx3⟩⟩
      · obtain rfl : k = rs.length := by omega
        have d1 : decide ((rs.length : Int) < (rs.length : Int)) = false := by simp
        rw [List.take_length] at hJk
        clear hlt hk
        gi_wp2
        go_end0
        exact ⟨⟨_, rfl⟩, .inl ⟨rs, rfl, hJk⟩⟩
theorem all_stops (n : Nat) (hn : 1 ≤ n) (Bt b : Nat) (ms rs : List Rt) (hp : ms.Perm rs) (hr : ribB rs = true) (w : World) (hT : Row w Bt 253 [.map (some b), .func (.func 217) #[] #[]]) (hM : MapIs w b ms) :
    SeqStopsK Fence.wide n Tryz.prog 234 #[.pointer (some ⟨Bt, 0, none⟩)] (fun x : Rt => #[rtV x]) KpN (fun xs => xs = rs) (fun pre => pre <+: rs) rs.length w := fun l J Jx W hW hJ _ hY h0 =>
  all1_in n hn l Bt b ms rs hp hr J Jx hY W hJ (hT.below hW hT.lt) (hM.below hW hM.lt) h0
theorem KpN.t {A B C : World} (h : KpN A B) (k : KpN B C) : KpN A C :=
  ⟨Nat.le_trans h.size k.size, fun i cur t hi ht => (k.rows i cur t ((h.rows i cur t hi ht).trans hi) ht).trans (h.rows i cur t hi ht), h.walks.trans k.walks⟩
theorem KpN.b {w : World} (W : World) (l : Nat) (o o' : Obj) (_ : w.heap.size ≤ l) (h : W.heap[l]? = some o) (hc : o.isCells = false) (hw : o.isWalk = false) : KpN W (W.putObj l o') :=
  KpN.mk (by simp) (fun i cur t hi _ => World.putObj_heap_other (fun e => by
    subst e
    rw [h] at hi
    cases hi
    cases hc)) (KeepsWalks.putObj _ h hw)
end Go.Proofs.YtialedffpaoacaaGreatDoor
/- slices.AppendSeq and Collect at routes, over the table's iterator. (Written by gen_appr.py.) -/
namespace Go.Proofs.YtialedffpaoacaaGreatDoor
open Go.RowKit Go.Sort Go.Shelf
attribute [local go_sem] Oper.semAt_some

theorem cell_nine_new (W : World) (xs : List Value) (t : TypeId) : ∀ j u, xs[j]? = some u → (W.alloc (.cells xs.toArray t)).cell? ((⟨W.heap.size, 0, none⟩ : Addr).add j) = some u := by
  intro j u hj
  have := (Row.new W t xs).cell j
  rw [hj] at this
  have e : (⟨W.heap.size, 0, none⟩ : Addr).add j = ⟨W.heap.size, j, none⟩ := by
    unfold Addr.add
    by_cases h : j = 0
    · subst h; rfl
    · rw [if_neg h]; simp
  rw [e]
  exact this
theorem Tryz.infoRoute : (Tryz.prog.info? 144).map (fun i => (i.zero, i.size, i.bytes)) = some (some (.agg #[.int .i64 0, .int .i64 0, .int .i64 0, .int .i64 0, .int .i64 0, .int .i64 0, .int .i64 0, .int .i64 0, .bool false]), 9, 72) := by kernel_rfl
theorem KpN.alloc (W : World) (o : Obj) : KpN W (W.alloc o) := KpN.mk (by simp) (fun i _ _ hi _ => Below.heap_alloc W o i (Array.getElem?_eq_some_iff.1 hi).1) (KeepsWalks.alloc W o)
theorem kpn_appended {W w1 : World} {n₀ B : Nat} {v v' : Value} {k : Nat} {xs : List Value} {tmp : Obj} (hv : Boxed W B 47 v) (hrow : W.ownsRow n₀ 144 9 v k xs) (hgrow : (W.alloc tmp).grownBy w1 v.ownBlock) (hk : KeepsOthers W (w1.setCell ⟨B, 0, none⟩ v')) : KpN W (w1.setCell ⟨B, 0, none⟩ v') := by
  refine KpN.mk hk.size (fun i cur t hi ht => ?_) hk.walks
  have hlt : i < W.heap.size := (Array.getElem?_eq_some_iff.1 hi).1
  have hne : i ≠ B := by
    intro e
    subst e
    have h' : W.heap[i]? = some (.cells #[v] 47 (0, 0)) := hv
    rw [h'] at hi
    simp only [Option.some.injEq, Obj.cells.injEq] at hi
    obtain ⟨_, ht', _⟩ := hi
    rcases ht with rfl | rfl <;> cases ht'
  have hnr : some i ≠ v.ownBlock := by
    intro e
    rcases hrow.2 with ⟨rfl, _⟩ | ⟨g, cap, cur', rfl, _, hg, _⟩
    · simp [Value.ownBlock] at e
    · obtain rfl : i = g := by simpa [Value.ownBlock] using e
      rw [hg] at hi
      simp only [Option.some.injEq, Obj.cells.injEq] at hi
      obtain ⟨_, ht', _⟩ := hi
      rcases ht with rfl | rfl <;> cases ht'
  rw [Below.heap_setCell w1 ⟨B, 0, none⟩ v' i (fun e => hne e), hgrow.block i (by simp; omega) hnr, Below.heap_alloc W tmp i hlt]
set_option maxRecDepth 100000 in
set_option maxHeartbeats 2000000 in
theorem appendSeqR (Bm b : Nat) (ms rs : List Rt) (hp : ms.Perm rs) (w : World) (hr : ribB rs = true) (hm : Row w Bm 253 [.map (some b), .func (.func 217) #[] #[]]) (hM : MapIs w b ms) :
    Calls Tryz.prog 233 #[.slice none 0 0, .func (.func 234) #[] #[.pointer (some ⟨Bm, 0, none⟩)]] w fun e w' => ∃ v, e = .returned v ∧ w'.ownsRow w.heap.size 144 9 v rs.length (rowR rs) ∧ Below w.heap.size w w' := by
  refine (callsIn_wide (n := 9)).1 ?_
  refine callsIn_of_wp_marks Tryz.func233 rfl trivial ?_ rfl
  simp only [Tryz.ntmps233, List.size_toArray, List.length_cons, List.length_nil, Nat.reduceAdd, Nat.reduceSub, Array.replicate_succ, Array.replicate_zero, List.push_toArray, List.append_toArray, List.nil_append, List.cons_append]
  gi_wp2
  have bS := Boxed.new w 47 (.slice none 0 0)
  have hB0 : Below w.heap.size w (w.alloc (.cells #[.slice none 0 0] 47)) := ent_new0 w _
  have hm0 := hm.alloc (.cells #[.slice none 0 0] 47)
  have h8 := (ribB_spec hr).1
  have hM0 := hM.below hB0 hM.lt
  have hs0 : (w.alloc (.cells #[.slice none 0 0] 47)).heap.size = w.heap.size + 1 := by simp
  obtain ⟨Z, hZ⟩ : ∃ Z, (w.alloc (.cells #[.slice none 0 0] 47)) = Z := ⟨_, rfl⟩
  rw [hZ] at bS hB0 hm0 hM0 hs0 ⊢
  clear hZ hm hM
  refine wpIn_rangeFunc_ownH rfl (by omega) (gf := 234) (lb := #[.pointer (some ⟨Bm, 0, none⟩)]) rfl trivial (enters_of Tryz.func234 (by kernel_rfl) rfl)
    (all_stops (9 - 1) (by omega) Bm b ms rs hp hr Z hm0 hM0) KpN.t KpN.b (Below.refl _ _) (fun _ => rfl)
    (fun pre W => (∃ v, Boxed W w.heap.size 47 v ∧ W.ownsRow w.heap.size 144 9 v pre.length (rowR pre) ∧ True) ∧ Below w.heap.size w W)
    (fun _ _ _ => False)
    (OwnFrom.and (Own.from (holdsRow_own w.heap.size w.heap.size 47 144 9 (fun pre : List Rt => pre.length) rowR (fun _ _ => True)) _) (ownFrom_below (Nat.le_refl _) (by omega)))
    (fun _ _ _ _ _ hs _ _ => hs)
    ⟨⟨_, bS, World.ownsRow_nil Z _ _ 9, trivial⟩, hB0⟩
    (fun x a' W => ∃ Bx, w.heap.size < Bx ∧ Row W Bx 144 (rtL x) ∧ a' = { tmps := #[.slice none 0 0, .func (.func 234) #[] #[.pointer (some ⟨Bm, 0, none⟩)], .pointer (some ⟨w.heap.size, 0, none⟩), undef, .slice none 0 0, .pointer (some ⟨Bx, 0, none⟩), .func (.func 234) #[] #[.pointer (some ⟨Bm, 0, none⟩)], rtV x, undef, undef, undef, undef, undef], defers := [] })
    (fun x a' _ X Y row hs hg hr => by
      obtain ⟨Bx, h1, h2, h3⟩ := hs
      refine ⟨Bx, h1, (hg.block Bx h2.lt (fun e => ?_)).trans h2, h3⟩
      obtain ⟨_, o, ho, hc⟩ := hr Bx e.symm
      rw [show X.heap[Bx]? = _ from h2] at ho
      cases ho
      cases hc)
    ?assign ?body ?done ?stop
  case assign =>
    rintro l pre x W K ⟨⟨v, bv, hv, -⟩, hB1⟩ hK
    obtain ⟨A, L, M, O, I, T, U, E, C⟩ := x
    unfold rtV rtA at hK ⊢
    simp only at hK ⊢
    gi_wp2
    exact hK _ _ ((KeepsOthers.alloc _ _).from _) (KpN.alloc _ _) ⟨⟨v, bv.alloc _, hv.alloc _, trivial⟩, hB1.alloc hB1.size _⟩ ⟨W.heap.size, bv.lt, Row.new W 144 [.int .i64 A, .int .i64 L, .int .i64 M, .int .i64 O, .int .i64 I, .int .i64 T, .int .i64 U, .int .i64 E, .bool C], rfl⟩
  case body =>
    rintro l pre x a' W hl ⟨r, hr⟩ ⟨⟨v, bv, hv, -⟩, hB1⟩ ⟨Bx, hBx, hRx, rfl⟩ hlt
    obtain ⟨A, L, M, O, I, T, U, E, C⟩ := x
    unfold rtV rtA
    simp only [rtL] at hRx ⊢
    have c0 := bv.cell
    have x0 : W.cell? ⟨Bx, 0, none⟩ = some (.int .i64 A) := hRx.cell 0
    have x1 : W.cell? ⟨Bx, 1, none⟩ = some (.int .i64 L) := hRx.cell 1
    have x2 : W.cell? ⟨Bx, 2, none⟩ = some (.int .i64 M) := hRx.cell 2
    have x3 : W.cell? ⟨Bx, 3, none⟩ = some (.int .i64 O) := hRx.cell 3
    have x4 : W.cell? ⟨Bx, 4, none⟩ = some (.int .i64 I) := hRx.cell 4
    have x5 : W.cell? ⟨Bx, 5, none⟩ = some (.int .i64 T) := hRx.cell 5
    have x6 : W.cell? ⟨Bx, 6, none⟩ = some (.int .i64 U) := hRx.cell 6
    have x7 : W.cell? ⟨Bx, 7, none⟩ = some (.int .i64 E) := hRx.cell 7
    have x8 : W.cell? ⟨Bx, 8, none⟩ = some (.bool C) := hRx.cell 8
    obtain ⟨i0, hi0, hz0, hz1, hz2⟩ := info_parts Tryz.infoRoute
    gi_wp2_with (gi_at_builtin; refine wpListIn_append_own _ rfl _ _ 47 rfl w.heap.size 144 i0 (.agg #[.int .i64 0, .int .i64 0, .int .i64 0, .int .i64 0, .int .i64 0, .int .i64 0, .int .i64 0, .int .i64 0, .bool false]) 9 72 Tryz.underlying47 hi0 hz0 hz1 hz2 rfl (by decide) _ _ _ rfl (hv.alloc _) ⟨W.heap.size, 0, none⟩ 1 1 [.int .i64 A, .int .i64 L, .int .i64 M, .int .i64 O, .int .i64 I, .int .i64 T, .int .i64 U, .int .i64 E, .bool C] rfl rfl (cell_nine_new W _ _) (by simp [Value.oneCell']) (by unfold maxLen; omega) (by omega) (by have := hB1.size; simp; omega) ?_; intro v' w1 hown' hgrow _; obtain ⟨g', cap', rfl⟩ := ownsRow_succ hown'; obtain ⟨hv1, hv2, hr2, hk2, hb2⟩ := bv.appended (by decide) hv hB1.size (Nat.le_refl _) hown' hgrow; have hc1 := hv1.cell; have hf1 := hv1.frozen)
    refine ⟨hk2.from _, kpn_appended bv hv hgrow hk2, ⟨_, hv2, ?_, trivial⟩, hB1.trans hb2⟩
    rw [List.length_append, rowR_append]
    exact hr2
  case done =>
    rintro D xs W hD rfl ⟨⟨v, bv, hv, -⟩, hB1⟩ hK
    have c0 := bv.cell
    gi_wp2
    refine ⟨by simp, .inl ⟨_, _, rfl, run_takeDeferred hK, ?_⟩⟩
    refine ⟨_, results_tmp rfl _ _ _, v, rfl, ownsRow_putObj hv _ hK rfl, ?_⟩
    exact hB1.trans (belowK_b (w := w) (Nat.le_refl _) W D _ _ (by omega) hK rfl rfl)
  case stop =>
    rintro D c pre W _ _ h _
    exact h.elim
set_option maxRecDepth 100000 in
theorem collectR (Bm b : Nat) (ms rs : List Rt) (hp : ms.Perm rs) (w : World) (hr : ribB rs = true) (hm : Row w Bm 253 [.map (some b), .func (.func 217) #[] #[]]) (hM : MapIs w b ms) :
    Calls Tryz.prog 224 #[.func (.func 234) #[] #[.pointer (some ⟨Bm, 0, none⟩)]] w fun e w' => ∃ v, e = .returned v ∧ w'.ownsRow w.heap.size 144 9 v rs.length (rowR rs) ∧ Below w.heap.size w w' := by
  have HA : Hid (Calls Tryz.prog 233 #[.slice none 0 0, .func (.func 234) #[] #[.pointer (some ⟨Bm, 0, none⟩)]] w fun e w' => ∃ v, e = .returned v ∧ w'.ownsRow w.heap.size 144 9 v rs.length (rowR rs) ∧ Below w.heap.size w w') := appendSeqR Bm b ms rs hp w hr hm hM
  clear hm hM
  go_enter Tryz.func224, Tryz.ntmps224
  go_wp2_with fail
  refine (HA.out).mono ?_
  rintro e w1 ⟨v, rfl, h2, h3⟩
  go_wp2
  go_ret
  exact ⟨v, rfl, h2, h3⟩
theorem ownR_set {w : World} {base base' : Nat} {v : Value} {n : Nat} {xs : List Value} (h : w.ownsRow base 144 9 v n xs) (p : Addr) (hp : p.block < base) (u : Value) (hb : base' ≤ base) : (w.setCell p u).ownsRow base' 144 9 v n xs := by
  obtain ⟨h1, h2⟩ := h
  refine ⟨h1, ?_⟩
  rcases h2 with h2 | ⟨g, cap, cur, e, hbg, hg, rest⟩
  · exact .inl h2
  · refine .inr ⟨g, cap, cur, e, by omega, ?_, rest⟩
    rw [Below.heap_setCell w p u g (by omega)]
    exact hg
theorem rows2 (w : World) (x y : List Value) (t1 t2 : TypeId) : ∃ W, W = (w.alloc (.cells x.toArray t1)).alloc (.cells y.toArray t2) ∧ Row W w.heap.size t1 x ∧ Row W (w.heap.size + 1) t2 y ∧ Below w.heap.size w W ∧ W.heap.size = w.heap.size + 1 + 1 := by
  have q0 := (Row.new w t1 x).alloc (.cells y.toArray t2)
  have q1 := Row.new (w.alloc (.cells x.toArray t1)) t2 y
  rw [show (w.alloc (.cells x.toArray t1)).heap.size = w.heap.size + 1 by simp] at q1
  exact ⟨_, rfl, q0, q1, (ent_new0 w _).alloc (by simp) _, by simp⟩
set_option maxRecDepth 100000 in
set_option maxHeartbeats 1000000 in
/-- ribOf: the routes of a table in the order of their nets, in memory of its own. -/
theorem ribOf_any (B : Nat) (ms rs : List Rt) (hp : ms.Perm rs) (hr : ribB rs = true) (w : World) (hM : MapIs w B ms) :
    Calls Tryz.prog 216 #[tabV B] w fun e w' => ∃ p cap, e = .returned (ribV p rs.length cap) ∧ w'.ownsRow w.heap.size 144 9 (.slice p rs.length cap) rs.length (rowR rs) ∧ Below w.heap.size w w' := by
  have HA : Hid (∀ w, Calls Tryz.prog 225 #[.agg #[.map (some B), .func (.func 217) #[] #[]]] w fun e w' => e = .returned (.func (.func 234) #[] #[.pointer (some ⟨w.heap.size, 0, none⟩)]) ∧ w.alloc (.cells #[.map (some B), .func (.func 217) #[] #[]] 253) = w') := fun w => all_make B w
  obtain ⟨W, hW, q0, q1, hB, hS⟩ := rows2 w [.map (some B), .func (.func 217) #[] #[]] [.slice none 0 0] 253 49
  have HC : Hid (Calls Tryz.prog 224 #[.func (.func 234) #[] #[.pointer (some ⟨w.heap.size + 1 + 1, 0, none⟩)]] (W.alloc (.cells #[.map (some B), .func (.func 217) #[] #[]] 253)) fun e w' => ∃ v, e = .returned v ∧ w'.ownsRow (W.alloc (.cells #[.map (some B), .func (.func 217) #[] #[]] 253)).heap.size 144 9 v rs.length (rowR rs) ∧ Below (W.alloc (.cells #[.map (some B), .func (.func 217) #[] #[]] 253)).heap.size (W.alloc (.cells #[.map (some B), .func (.func 217) #[] #[]] 253)) w') := by
    rw [← hS]
    exact collectR W.heap.size B ms rs hp _ hr (Row.new W 253 [.map (some B), .func (.func 217) #[] #[]]) ((hM.below hB hM.lt).below (ent_new0 W _) (hM.below hB hM.lt).lt)
  have c0 : W.cell? ⟨w.heap.size, 0, none⟩ = some (.map (some B)) := q0.cell 0
  have c1 : W.cell? ⟨w.heap.size, 1, none⟩ = some (.func (.func 217) #[] #[]) := q0.cell 1
  have HW : Hid _ := hW
  have HQ : Hid _ := And.intro q1 (And.intro hB hS)
  clear hW q0 q1 hB hM
  unfold tabV
  go_enter Tryz.func216, Tryz.ntmps216
  go_wp2_with fail
  rw [← HW.out]
  refine (HA.out _).mono ?_
  rintro e w1 ⟨rfl, rfl⟩
  clear HA HW
  go_wp2_with fail
  refine (HC.out).mono ?_
  rintro e w2 ⟨v, rfl, hv, hb2⟩
  obtain ⟨q1, hB, hS'⟩ := HQ.out
  have hs1 : (W.alloc (.cells #[.map (some B), .func (.func 217) #[] #[]] 253)).heap.size = w.heap.size + 1 + 1 + 1 := by simp; omega
  rw [hs1] at hv hb2
  have q2 := (q1.alloc (.cells #[.map (some B), .func (.func 217) #[] #[]] 253)).below hb2 (by omega)
  have hB2 : Below w.heap.size w w2 := (hB.alloc hB.size _).trans (hb2.mono (by omega))
  obtain ⟨p, cap, rfl⟩ : ∃ p cap, v = .slice p rs.length cap := by
    rcases hv.2 with ⟨rfl, h0⟩ | ⟨g, cap, cur, rfl, _⟩
    · exact ⟨none, 0, by rw [h0]⟩
    · exact ⟨_, cap, rfl⟩
  have d0 : w2.cell? ⟨w.heap.size + 1, 0, none⟩ = some (.slice none 0 0) := q2.cell 0
  have f0 : w2.frozen? ⟨w.heap.size + 1, 0, none⟩ = false := q2.frozen 0
  have hrow := q2.set 0 (.slice p rs.length cap)
  have hbel := hB2.setCell (p := ⟨w.heap.size + 1, 0, none⟩) (by show w.heap.size ≤ w.heap.size + 1; omega) (.slice p rs.length cap)
  have hown : (w2.setCell ⟨w.heap.size + 1, 0, none⟩ (.slice p rs.length cap)).ownsRow w.heap.size 144 9 (.slice p rs.length cap) rs.length (rowR rs) := ownR_set hv _ (by show w.heap.size + 1 < w.heap.size + 1 + 1 + 1; omega) _ (by omega)
  have HZ : Hid _ := And.intro hrow (And.intro hbel hown)
  clear hrow hbel hown q1 q2 hB hB2 hv hb2 HC HQ hs1
  generalize hN : rs.length = N at *
  have HN : Hid (rs.length = N) := hN
  clear hN
  go_wp2_with fail
  have HZ2 := HZ.out
  clear HZ d0 f0 c0 c1
  generalize w2.setCell ⟨w.heap.size + 1, 0, none⟩ (.slice p N cap) = Z at *
  obtain ⟨h1, h2, h3⟩ := HZ2
  have d0 : Z.cell? ⟨w.heap.size + 1, 0, none⟩ = some (.slice p N cap) := h1.cell 0
  refine bodyPost_ret (v := .agg #[.slice p N cap]) (by simp [results, Tryz.results216, go_sem, d0]) rfl ⟨p, cap, by rw [HN.out]; rfl, by rw [HN.out]; exact h3, h2⟩
end Go.Proofs.YtialedffpaoacaaGreatDoor
/- A route put in its place, by the model. (Written by gen_puts.py.) -/
namespace Go.Proofs.YtialedffpaoacaaGreatDoor
open Go.RowKit Go.Sort

theorem insR_cut : ∀ (rs : List Rt) (r : Rt) (k : Nat), k ≤ rs.length → (∀ j, j < k → ltR rs[j]! r = true) → (∀ h : k < rs.length, ltR rs[k] r = false) →
    insR rs r = rs.take k ++ r :: rs.drop (if h : k < rs.length then (if isN r.a r.l rs[k] = true then k + 1 else k) else k)
  | [], r, k, hk, _, _ => by
    obtain rfl : k = 0 := by simpa using hk
    rfl
  | s :: rs, r, 0, _, _, h2 => by
    have h0 := h2 (by simp)
    simp only [List.getElem_cons_zero] at h0
    unfold insR
    rw [h0]
    simp only [List.length_cons, Nat.zero_lt_succ, dite_true, List.getElem_cons_zero, List.take_zero, List.nil_append, Bool.false_eq_true, if_false]
    split <;> rfl
  | s :: rs, r, k + 1, hk, h1, h2 => by
    have h0 := h1 0 (by omega)
    simp only [List.getElem!_cons_zero] at h0
    have ih := insR_cut rs r k (by simpa using hk) (fun j hj => by have := h1 (j + 1) (by omega); simpa using this) (fun h => by have := h2 (by simpa using h); simpa using this)
    unfold insR
    rw [if_pos h0, ih]
    simp only [List.length_cons, Nat.add_lt_add_iff_right, List.getElem_cons_succ, List.take_succ_cons, List.cons_append]
    congr 2
    split
    · split <;> rfl
    · rfl
theorem RtsIn.net {w : World} {g : Nat} {rs : List Rt} (h : RtsIn w (some ⟨g, 0, none⟩) rs) (k : Nat) (hk : k < rs.length) : w.cell? ⟨g, k * 9, none⟩ = some (.int .i64 rs[k].a) ∧ w.cell? ⟨g, k * 9 + 1, none⟩ = some (.int .i64 rs[k].l) := by
  rcases h with rfl | ⟨g', e, hg, hc⟩
  · simp at hk
  · cases e
    exact ⟨hc _ _ (rowR_get rs k 0 hk (by omega)), hc _ _ (rowR_get rs k 1 hk (by omega))⟩
theorem ownsR_shape {w : World} {base n : Nat} {v : Value} {xs : List Value} (h : w.ownsRow base 144 9 v n xs) : ∃ q c, v = .slice q n c := by
  rcases h.2 with ⟨h1, h2⟩ | ⟨g, cap, cur, h1, _⟩
  · exact ⟨none, 0, by rw [h1, h2]⟩
  · exact ⟨_, _, h1⟩
theorem insR_cut2 (rs : List Rt) (r : Rt) (k : Nat) (hk : k ≤ rs.length) (h1 : ∀ j, j < k → ltR rs[j]! r = true) (h2 : k < rs.length → ltR rs[k]! r = false) :
    insR rs r = rs.take k ++ r :: rs.drop (if k < rs.length ∧ isN r.a r.l rs[k]! = true then k + 1 else k) := by
  rw [insR_cut rs r k hk h1 (fun h => by have := h2 h; rwa [get_bang h] at this)]
  congr 3
  by_cases h : k < rs.length
  · rw [dif_pos h, get_bang h]
    simp [h]
  · rw [dif_neg h, if_neg (fun e => h e.1)]
set_option maxRecDepth 100000 in
set_option maxHeartbeats 4000000 in
theorem l06Put_any (p : Option Addr) (cap : Nat) (rs : List Rt) (r : Rt) (w : World) (h : RtsIn w p rs) (hc : p = none → cap = 0) (hcl : rs.length ≤ cap) (hn : rs.length ≤ 100000000) :
    Calls Tryz.prog 114 #[ribV p rs.length cap, rtV r] w fun e w' => ∃ q c, e = .returned (ribV q (insR rs r).length c) ∧ w'.ownsRow w.heap.size 144 9 (.slice q (insR rs r).length c) (insR rs r).length (rowR (insR rs r)) ∧ Below w.heap.size w w' := by
  have HX : Hid (RtsIn w p rs) := h
  have HC : Hid ((p = none → cap = 0) ∧ rs.length ≤ cap) := ⟨hc, hcl⟩
  have HL : Hid (∀ a l b m w, Calls Tryz.prog 160 #[.agg #[.int .i64 a, .int .i64 l], .agg #[.int .i64 b, .int .i64 m]] w fun e w' => e = .returned (.bool (decide (a < b) || (a == b && decide (l < m)))) ∧ Below w.heap.size w w') := fun a l b m w => l03Less_any a l b m w
  have HI : Hid (∀ k, k ≤ rs.length → (∀ j, j < k → ltR rs[j]! r = true) → (k < rs.length → ltR rs[k]! r = false) → insR rs r = rs.take k ++ r :: rs.drop (if k < rs.length ∧ isN r.a r.l rs[k]! = true then k + 1 else k)) := insR_cut2 rs r
  clear h hc hcl
  generalize insR rs r = qs at *
  generalize hN : rs.length = N at *
  have HN : Hid (rs.length = N) := hN
  obtain ⟨A, L, M, O, I, T, U, E, C⟩ := r
  unfold ribV rtV rtA
  simp only
  obtain ⟨W, hW, q0, q1, q2, hB, hS, -⟩ := rows3 w [.slice p N cap] [.int .i64 A, .int .i64 L, .int .i64 M, .int .i64 O, .int .i64 I, .int .i64 T, .int .i64 U, .int .i64 E, .bool C] [.slice none 0 0] 49 144 49
  have HW : Hid _ := hW
  have HQ : Hid _ := And.intro q0 (And.intro q1 (And.intro q2 hB))
  clear hW q0 q1 q2 hB hN
  go_enter Tryz.func114, Tryz.ntmps114
  go_wp2_with fail
  rw [← HW.out]
  go_loopw [5] (fun i wr => ∃ k : Nat, k ≤ N ∧ i = .int .i64 k ∧ (∀ j, j < k → ltR rs[j]! ⟨A, L, M, O, I, T, U, E, C⟩ = true) ∧ Below W.heap.size W wr) (fun i _ => N - (intOf i).toNat)
  case atStart => exact ⟨0, Nat.zero_le _, rfl, fun j hj => absurd hj (by omega), Below.refl _ _⟩
  case round =>
    obtain ⟨k, hk, rfl, ha, hb⟩ := hrel
    obtain ⟨q0, q1, q2, hB⟩ := HQ.out
    clear HW HQ
    have x0 : wr.cell? ⟨w.heap.size, 0, none⟩ = some (.slice p N cap) := (q0.below hb q0.lt).cell 0
    by_cases hlt : k < N
    · have d1 : decide ((k : Int) < (N : Int)) = true := by simpa using hlt
      have hlr : k < rs.length := by rw [HN.out]; exact hlt
      obtain ⟨g, a, l, m, n, ii, t, u, b, c, rfl, hg, hek, c0, c1, c2, c3, c4, c5, c6, c7, c8⟩ := ((HX.out).below (hB.trans (hb.mono hB.size))).at k hlr
      clear c2 c3 c4 c5 c6 c7 c8
      have y0 : wr.cell? ⟨w.heap.size + 1, 0, none⟩ = some (.int .i64 A) := (q1.below hb q1.lt).cell 0
      have y1 : wr.cell? ⟨w.heap.size + 1, 1, none⟩ = some (.int .i64 L) := (q1.below hb q1.lt).cell 1
      have HLk : Hid (∀ w, Calls Tryz.prog 160 #[.agg #[.int .i64 a, .int .i64 l], .agg #[.int .i64 A, .int .i64 L]] w fun e w' => e = .returned (.bool (decide (a < A) || (a == A && decide (l < L)))) ∧ Below w.heap.size w w') := HL.out a l A L
      have hlk : ltR rs[k] ⟨A, L, M, O, I, T, U, E, C⟩ = (decide (a < A) || (a == A && decide (l < L))) := by rw [hek]; rfl
      cases hless : (decide (a < A) || (a == A && decide (l < L)))
      · rw [hless] at HLk hlk
        have HR0 : Hid _ := HI.out k hk ha (fun _ => by rw [get_bang hlr]; exact hlk)
        clear HL HI ha hless hlk
        go_wp2_with fail
        replace x0 := cell_regrown x0
        replace c0 := cell_regrown c0
        replace c1 := cell_regrown c1
        replace y0 := cell_regrown y0
        replace y1 := cell_regrown y1
        refine wp_region_quiet_below (by kernel_rfl) (by kernel_rfl) ?_
        repeat (go_big_quiet_step (first | (go_at_call 160; exact Calls.regrown_of (HLk.out _))))
        refine wpQuiet_nil ?_
        intro w1 hw'
        obtain ⟨⟨dq, osq⟩, hw''⟩ := hw'
        have hbq := below_regrown wr dq osq
        rw [← hw''] at hbq
        clear hw'' osq dq x0 c0 c1 y0 y1
        have hb := hb.trans (hbq.mono hb.size)
        clear hbq HLk
        by_cases hit : isN A L rs[k] = true
        · have HR : qs = rs.take k ++ ⟨A, L, M, O, I, T, U, E, C⟩ :: rs.drop (k + 1) := by rw [HR0.out, if_pos ⟨hlt, by rw [get_bang hlr]; exact hit⟩]
          rw [hek] at hit
          obtain ⟨z1, z2⟩ := isN_eq hit
          simp only at z1 z2
          subst z1 z2
          have z1 : (a == a) = true := by simp
          have z2 : (l == l) = true := by simp
          clear hit
          have q0 := (q0.below hb (by omega)).alloc (.cells #[] 144)
          have q1 := (q1.below hb (by omega)).alloc (.cells #[] 144)
          have q2 := (q2.below hb (by omega)).alloc (.cells #[] 144)
          have hB1 := hB.trans (hb.mono hB.size)
          have hB := hB1.alloc hB1.size (.cells #[] 144)
          have hk8 : k ≤ cap := by have := HC.out.2; omega
          have x0 : (w1.alloc (.cells #[] 144)).cell? ⟨w.heap.size, 0, none⟩ = some (.slice (some ⟨g, 0, none⟩) N cap) := q0.cell 0
          have hX1 := (HX.out).below hB
          have hsw := hb.size
          have ho := World.ownsRow_lit (base := W.heap.size) (e := 144) (size := 9) w1 #[] 0 hsw (Nat.zero_le _) (by simp)
          have hlk : (rs.take k).length = k := by rw [List.length_take, HN.out]; omega
          obtain ⟨v4, w4, happ, hown4, hb4⟩ := run_append_rts (w1.alloc (.cells #[] 144)) W.heap.size (.slice (some ⟨w1.heap.size, 0, none⟩) 0 0) [] (rs.take k) (fromR (some ⟨g, 0, none⟩) cap 0) cap 47 (by simpa [rowR] using ho) (fun e => by
            obtain ⟨h1, h2⟩ := fromR_none (k := 0) HC.out.1 (rtsIn_none hX1) e
            rw [List.drop_zero] at h1
            exact ⟨by rw [h1]; simp, by omega⟩) (fromR_upto hX1) (by simp [List.length_take]; omega) (by simp; omega)
          rw [hlk] at happ
          rw [List.nil_append] at hown4
          have hsl := sliceR_upto (some ⟨g, 0, none⟩) N cap k (k : Int) rfl hk8
          have hsw : W.heap.size ≤ (w1.alloc (.cells #[] 144)).heap.size := by simp; omega
          clear hX1 hb hB1 ho
          have q0 := q0.below hb4 (by omega)
          have q1 := q1.below hb4 (by omega)
          have q2 := q2.below hb4 (by omega)
          have hB := hB.trans (hb4.mono (by omega))
          have hsw := Nat.le_trans hsw hb4.size
          have y0 : w4.cell? ⟨w.heap.size + 1, 0, none⟩ = some (.int .i64 a) := q1.cell 0
          have y1 : w4.cell? ⟨w.heap.size + 1, 1, none⟩ = some (.int .i64 l) := q1.cell 1
          have y2 : w4.cell? ⟨w.heap.size + 1, 2, none⟩ = some (.int .i64 M) := q1.cell 2
          have y3 : w4.cell? ⟨w.heap.size + 1, 3, none⟩ = some (.int .i64 O) := q1.cell 3
          have y4 : w4.cell? ⟨w.heap.size + 1, 4, none⟩ = some (.int .i64 I) := q1.cell 4
          have y5 : w4.cell? ⟨w.heap.size + 1, 5, none⟩ = some (.int .i64 T) := q1.cell 5
          have y6 : w4.cell? ⟨w.heap.size + 1, 6, none⟩ = some (.int .i64 U) := q1.cell 6
          have y7 : w4.cell? ⟨w.heap.size + 1, 7, none⟩ = some (.int .i64 E) := q1.cell 7
          have y8 : w4.cell? ⟨w.heap.size + 1, 8, none⟩ = some (.bool C) := q1.cell 8
          have q0 := q0.alloc (.cells #[.int .i64 a, .int .i64 l, .int .i64 M, .int .i64 O, .int .i64 I, .int .i64 T, .int .i64 U, .int .i64 E, .bool C] 144)
          have q1 := q1.alloc (.cells #[.int .i64 a, .int .i64 l, .int .i64 M, .int .i64 O, .int .i64 I, .int .i64 T, .int .i64 U, .int .i64 E, .bool C] 144)
          have q2 := q2.alloc (.cells #[.int .i64 a, .int .i64 l, .int .i64 M, .int .i64 O, .int .i64 I, .int .i64 T, .int .i64 U, .int .i64 E, .bool C] 144)
          have hB := hB.alloc (by omega) (.cells #[.int .i64 a, .int .i64 l, .int .i64 M, .int .i64 O, .int .i64 I, .int .i64 T, .int .i64 U, .int .i64 E, .bool C] 144)
          have qn := Row.new w4 144 [.int .i64 a, .int .i64 l, .int .i64 M, .int .i64 O, .int .i64 I, .int .i64 T, .int .i64 U, .int .i64 E, .bool C]
          obtain ⟨v5, w5, happ5, hown5, hb5⟩ := run_append_rts (w4.alloc (.cells #[.int .i64 a, .int .i64 l, .int .i64 M, .int .i64 O, .int .i64 I, .int .i64 T, .int .i64 U, .int .i64 E, .bool C] 144)) W.heap.size v4 (rs.take k) [(⟨a, l, M, O, I, T, U, E, C⟩ : Rt)] (some ⟨w4.heap.size, 0, none⟩) 1 47 (World.ownsRow.alloc hown4 _) (fun e => by cases e) (fun ad e j u hj => by
            cases e
            rw [addR, Nat.zero_add, qn.cell]
            exact hj) (by simp [List.length_take]; omega) (by simp; omega)
          rw [List.length_singleton] at happ5
          have HE5 : Hid _ := And.intro q0 (And.intro q1 (And.intro q2 (And.intro hB (And.intro hown5 (And.intro hb5 (show W.heap.size ≤ (w4.alloc (.cells #[.int .i64 a, .int .i64 l, .int .i64 M, .int .i64 O, .int .i64 I, .int .i64 T, .int .i64 U, .int .i64 E, .bool C] 144)).heap.size by simp; omega))))))
          clear q0 q1 q2 hB hown4 hb4 hown5 hb5 hsw qn
          go_wp2_with (at_builtin; first | refine wpList_append_runs rfl _ _ 47 rfl _ _ rfl rfl happ ?_ | refine wpList_append_runs rfl _ _ 47 rfl _ _ rfl rfl happ5 ?_)
          clear happ x0 hsl
          obtain ⟨q0, q1, q2, hB, hown5, hb5, hsw⟩ := HE5.out
          have q0 := q0.below hb5 (by omega)
          have q1 := q1.below hb5 (by omega)
          have q2 := q2.below hb5 (by omega)
          have hB := hB.trans (hb5.mono (by omega))
          have hsw := Nat.le_trans hsw hb5.size
          have x0 : w5.cell? ⟨w.heap.size, 0, none⟩ = some (.slice (some ⟨g, 0, none⟩) N cap) := q0.cell 0
          clear happ5 HE5 hb5 y0 y1 y2 y3 y4 y5 y6 y7 y8
          obtain ⟨c0, c1⟩ := ((HX.out).below hB).net k hlr
          rw [hek] at c0 c1
          have y0 : w5.cell? ⟨w.heap.size + 1, 0, none⟩ = some (.int .i64 a) := q1.cell 0
          have y1 : w5.cell? ⟨w.heap.size + 1, 1, none⟩ = some (.int .i64 l) := q1.cell 1
          simp only at c0 c1
          go_wp2_with fail
          replace x0 := cell_regrown x0
          replace c0 := cell_regrown c0
          replace c1 := cell_regrown c1
          replace y0 := cell_regrown y0
          replace y1 := cell_regrown y1
          refine wp_region_quiet_below (by kernel_rfl) (by kernel_rfl) ?_
          repeat (go_big_quiet_step (fail))
          refine wpQuiet_nil ?_
          intro w6 hw'
          obtain ⟨⟨dq, osq⟩, hw''⟩ := hw'
          have hbq := below_regrown w5 dq osq
          rw [← hw''] at hbq
          clear hw'' osq dq x0 c0 c1 y0 y1
          have q0 := q0.below hbq q0.lt
          have q2 := q2.below hbq q2.lt
          have hB := hB.trans (hbq.mono hB.size)
          have hX6 := (HX.out).below hB
          have hsw := Nat.le_trans hsw hbq.size
          have hown6 : w6.ownsRow W.heap.size 144 9 v5 (rs.take k ++ [(⟨a, l, M, O, I, T, U, E, C⟩ : Rt)]).length (rowR (rs.take k ++ [(⟨a, l, M, O, I, T, U, E, C⟩ : Rt)])) := World.ownsRow.kept hown5 (row := none) ⟨hbq.os, hbq.tape, hbq.output, hbq.size, fun k hk _ => hbq.block k hk⟩ (by cases v5.ownBlock <;> simp)
          have x0 : w6.cell? ⟨w.heap.size, 0, none⟩ = some (.slice (some ⟨g, 0, none⟩) N cap) := q0.cell 0
          obtain ⟨v8, w8, happ8, hown8, hb8⟩ := run_append_rts w6 W.heap.size v5 (rs.take k ++ [(⟨a, l, M, O, I, T, U, E, C⟩ : Rt)]) (rs.drop (k + 1)) (fromR (some ⟨g, 0, none⟩) cap (k + 1)) (cap - (k + 1)) 47 hown6 (fun e => fromR_none HC.out.1 (rtsIn_none hX6) e) (fromR_cells hX6 (by rw [HN.out]; exact HC.out.2)) (by have := HN.out; simp [List.length_take]; omega) hsw
          rw [List.length_drop, HN.out] at happ8
          have hsl := sliceR_from (some ⟨g, 0, none⟩) N cap (k + 1) ((k : Int) + 1) (by omega) (by omega)
          generalize hQS : rs.take k ++ [(⟨a, l, M, O, I, T, U, E, C⟩ : Rt)] ++ rs.drop (k + 1) = QS at hown8
          have hq : qs = QS := by rw [HR, ← hQS, List.append_assoc]; rfl
          subst hq
          clear hQS
          obtain ⟨q8, c8, rfl⟩ := ownsR_shape hown8
          have q2 := q2.below hb8 (by omega)
          have hB := hB.trans (hb8.mono (by omega))
          have f0 : w8.frozen? ⟨w.heap.size + 1 + 1, 0, none⟩ = false := q2.frozen 0
          have z0 : w8.cell? ⟨w.heap.size + 1 + 1, 0, none⟩ = some (.slice none 0 0) := q2.cell 0
          have HE9 : Hid _ := And.intro (q2.set 0 (.slice q8 qs.length c8)) (And.intro (hB.setCell (p := ⟨w.heap.size + 1 + 1, 0, none⟩) (by show w.heap.size ≤ w.heap.size + 1 + 1; omega) (.slice q8 qs.length c8)) (ownR_set (base' := w.heap.size) hown8 ⟨w.heap.size + 1 + 1, 0, none⟩ (by show w.heap.size + 1 + 1 < W.heap.size; omega) (.slice q8 qs.length c8) (by omega)))
          clear q0 q1 q2 hB hown5 hown6 hown8 hb8 hbq hX6 hsw HR
          go_wp2_with (at_builtin; refine wpList_append_runs rfl _ _ 47 rfl _ _ rfl rfl happ8 ?_)
          obtain ⟨h1, h2, h3⟩ := HE9.out
          clear HE9 f0 z0
          generalize (w8.setCell ⟨w.heap.size + 1 + 1, 0, none⟩ (.slice q8 qs.length c8)) = Z at *
          have e0 : Z.cell? ⟨w.heap.size + 1 + 1, 0, none⟩ = some (.slice q8 qs.length c8) := h1.cell 0
          exact bodyPost_ret (v := .agg #[.slice q8 qs.length c8]) (by simp [results, Tryz.results114, go_sem, e0]) rfl ⟨q8, c8, rfl, h3, h2⟩
        · have HR : qs = rs.take k ++ ⟨A, L, M, O, I, T, U, E, C⟩ :: rs.drop k := by rw [HR0.out, if_neg (fun e => hit (by rw [← get_bang hlr]; exact e.2))]
          rw [hek] at hit
          by_cases hA : a = A
          · have z1 : (a == A) = true := by simpa using hA
            have z2 : (l == L) = false := by
              rw [beq_eq_false_iff_ne]
              intro hL
              exact hit (by simp [isN, hA, hL])
            clear hit hA
            have q0 := (q0.below hb (by omega)).alloc (.cells #[] 144)
            have q1 := (q1.below hb (by omega)).alloc (.cells #[] 144)
            have q2 := (q2.below hb (by omega)).alloc (.cells #[] 144)
            have hB1 := hB.trans (hb.mono hB.size)
            have hB := hB1.alloc hB1.size (.cells #[] 144)
            have hk8 : k ≤ cap := by have := HC.out.2; omega
            have x0 : (w1.alloc (.cells #[] 144)).cell? ⟨w.heap.size, 0, none⟩ = some (.slice (some ⟨g, 0, none⟩) N cap) := q0.cell 0
            have hX1 := (HX.out).below hB
            have hsw := hb.size
            have ho := World.ownsRow_lit (base := W.heap.size) (e := 144) (size := 9) w1 #[] 0 hsw (Nat.zero_le _) (by simp)
            have hlk : (rs.take k).length = k := by rw [List.length_take, HN.out]; omega
            obtain ⟨v4, w4, happ, hown4, hb4⟩ := run_append_rts (w1.alloc (.cells #[] 144)) W.heap.size (.slice (some ⟨w1.heap.size, 0, none⟩) 0 0) [] (rs.take k) (fromR (some ⟨g, 0, none⟩) cap 0) cap 47 (by simpa [rowR] using ho) (fun e => by
              obtain ⟨h1, h2⟩ := fromR_none (k := 0) HC.out.1 (rtsIn_none hX1) e
              rw [List.drop_zero] at h1
              exact ⟨by rw [h1]; simp, by omega⟩) (fromR_upto hX1) (by simp [List.length_take]; omega) (by simp; omega)
            rw [hlk] at happ
            rw [List.nil_append] at hown4
            have hsl := sliceR_upto (some ⟨g, 0, none⟩) N cap k (k : Int) rfl hk8
            have hsw : W.heap.size ≤ (w1.alloc (.cells #[] 144)).heap.size := by simp; omega
            clear hX1 hb hB1 ho
            have q0 := q0.below hb4 (by omega)
            have q1 := q1.below hb4 (by omega)
            have q2 := q2.below hb4 (by omega)
            have hB := hB.trans (hb4.mono (by omega))
            have hsw := Nat.le_trans hsw hb4.size
            have y0 : w4.cell? ⟨w.heap.size + 1, 0, none⟩ = some (.int .i64 A) := q1.cell 0
            have y1 : w4.cell? ⟨w.heap.size + 1, 1, none⟩ = some (.int .i64 L) := q1.cell 1
            have y2 : w4.cell? ⟨w.heap.size + 1, 2, none⟩ = some (.int .i64 M) := q1.cell 2
            have y3 : w4.cell? ⟨w.heap.size + 1, 3, none⟩ = some (.int .i64 O) := q1.cell 3
            have y4 : w4.cell? ⟨w.heap.size + 1, 4, none⟩ = some (.int .i64 I) := q1.cell 4
            have y5 : w4.cell? ⟨w.heap.size + 1, 5, none⟩ = some (.int .i64 T) := q1.cell 5
            have y6 : w4.cell? ⟨w.heap.size + 1, 6, none⟩ = some (.int .i64 U) := q1.cell 6
            have y7 : w4.cell? ⟨w.heap.size + 1, 7, none⟩ = some (.int .i64 E) := q1.cell 7
            have y8 : w4.cell? ⟨w.heap.size + 1, 8, none⟩ = some (.bool C) := q1.cell 8
            have q0 := q0.alloc (.cells #[.int .i64 A, .int .i64 L, .int .i64 M, .int .i64 O, .int .i64 I, .int .i64 T, .int .i64 U, .int .i64 E, .bool C] 144)
            have q1 := q1.alloc (.cells #[.int .i64 A, .int .i64 L, .int .i64 M, .int .i64 O, .int .i64 I, .int .i64 T, .int .i64 U, .int .i64 E, .bool C] 144)
            have q2 := q2.alloc (.cells #[.int .i64 A, .int .i64 L, .int .i64 M, .int .i64 O, .int .i64 I, .int .i64 T, .int .i64 U, .int .i64 E, .bool C] 144)
            have hB := hB.alloc (by omega) (.cells #[.int .i64 A, .int .i64 L, .int .i64 M, .int .i64 O, .int .i64 I, .int .i64 T, .int .i64 U, .int .i64 E, .bool C] 144)
            have qn := Row.new w4 144 [.int .i64 A, .int .i64 L, .int .i64 M, .int .i64 O, .int .i64 I, .int .i64 T, .int .i64 U, .int .i64 E, .bool C]
            obtain ⟨v5, w5, happ5, hown5, hb5⟩ := run_append_rts (w4.alloc (.cells #[.int .i64 A, .int .i64 L, .int .i64 M, .int .i64 O, .int .i64 I, .int .i64 T, .int .i64 U, .int .i64 E, .bool C] 144)) W.heap.size v4 (rs.take k) [(⟨A, L, M, O, I, T, U, E, C⟩ : Rt)] (some ⟨w4.heap.size, 0, none⟩) 1 47 (World.ownsRow.alloc hown4 _) (fun e => by cases e) (fun ad e j u hj => by
              cases e
              rw [addR, Nat.zero_add, qn.cell]
              exact hj) (by simp [List.length_take]; omega) (by simp; omega)
            rw [List.length_singleton] at happ5
            have HE5 : Hid _ := And.intro q0 (And.intro q1 (And.intro q2 (And.intro hB (And.intro hown5 (And.intro hb5 (show W.heap.size ≤ (w4.alloc (.cells #[.int .i64 A, .int .i64 L, .int .i64 M, .int .i64 O, .int .i64 I, .int .i64 T, .int .i64 U, .int .i64 E, .bool C] 144)).heap.size by simp; omega))))))
            clear q0 q1 q2 hB hown4 hb4 hown5 hb5 hsw qn
            go_wp2_with (at_builtin; first | refine wpList_append_runs rfl _ _ 47 rfl _ _ rfl rfl happ ?_ | refine wpList_append_runs rfl _ _ 47 rfl _ _ rfl rfl happ5 ?_)
            clear happ x0 hsl
            obtain ⟨q0, q1, q2, hB, hown5, hb5, hsw⟩ := HE5.out
            have q0 := q0.below hb5 (by omega)
            have q1 := q1.below hb5 (by omega)
            have q2 := q2.below hb5 (by omega)
            have hB := hB.trans (hb5.mono (by omega))
            have hsw := Nat.le_trans hsw hb5.size
            have x0 : w5.cell? ⟨w.heap.size, 0, none⟩ = some (.slice (some ⟨g, 0, none⟩) N cap) := q0.cell 0
            clear happ5 HE5 hb5 y0 y1 y2 y3 y4 y5 y6 y7 y8
            obtain ⟨c0, c1⟩ := ((HX.out).below hB).net k hlr
            rw [hek] at c0 c1
            have y0 : w5.cell? ⟨w.heap.size + 1, 0, none⟩ = some (.int .i64 A) := q1.cell 0
            have y1 : w5.cell? ⟨w.heap.size + 1, 1, none⟩ = some (.int .i64 L) := q1.cell 1
            simp only at c0 c1
            go_wp2_with fail
            replace x0 := cell_regrown x0
            replace c0 := cell_regrown c0
            replace c1 := cell_regrown c1
            replace y0 := cell_regrown y0
            replace y1 := cell_regrown y1
            refine wp_region_quiet_below (by kernel_rfl) (by kernel_rfl) ?_
            repeat (go_big_quiet_step (fail))
            refine wpQuiet_nil ?_
            intro w6 hw'
            obtain ⟨⟨dq, osq⟩, hw''⟩ := hw'
            have hbq := below_regrown w5 dq osq
            rw [← hw''] at hbq
            clear hw'' osq dq x0 c0 c1 y0 y1
            have q0 := q0.below hbq q0.lt
            have q2 := q2.below hbq q2.lt
            have hB := hB.trans (hbq.mono hB.size)
            have hX6 := (HX.out).below hB
            have hsw := Nat.le_trans hsw hbq.size
            have hown6 : w6.ownsRow W.heap.size 144 9 v5 (rs.take k ++ [(⟨A, L, M, O, I, T, U, E, C⟩ : Rt)]).length (rowR (rs.take k ++ [(⟨A, L, M, O, I, T, U, E, C⟩ : Rt)])) := World.ownsRow.kept hown5 (row := none) ⟨hbq.os, hbq.tape, hbq.output, hbq.size, fun k hk _ => hbq.block k hk⟩ (by cases v5.ownBlock <;> simp)
            have x0 : w6.cell? ⟨w.heap.size, 0, none⟩ = some (.slice (some ⟨g, 0, none⟩) N cap) := q0.cell 0
            obtain ⟨v8, w8, happ8, hown8, hb8⟩ := run_append_rts w6 W.heap.size v5 (rs.take k ++ [(⟨A, L, M, O, I, T, U, E, C⟩ : Rt)]) (rs.drop (k)) (fromR (some ⟨g, 0, none⟩) cap (k)) (cap - (k)) 47 hown6 (fun e => fromR_none HC.out.1 (rtsIn_none hX6) e) (fromR_cells hX6 (by rw [HN.out]; exact HC.out.2)) (by have := HN.out; simp [List.length_take]; omega) hsw
            rw [List.length_drop, HN.out] at happ8
            have hsl := sliceR_from (some ⟨g, 0, none⟩) N cap (k) ((k : Int)) (by omega) (by omega)
            generalize hQS : rs.take k ++ [(⟨A, L, M, O, I, T, U, E, C⟩ : Rt)] ++ rs.drop (k) = QS at hown8
            have hq : qs = QS := by rw [HR, ← hQS, List.append_assoc]; rfl
            subst hq
            clear hQS
            obtain ⟨q8, c8, rfl⟩ := ownsR_shape hown8
            have q2 := q2.below hb8 (by omega)
            have hB := hB.trans (hb8.mono (by omega))
            have f0 : w8.frozen? ⟨w.heap.size + 1 + 1, 0, none⟩ = false := q2.frozen 0
            have z0 : w8.cell? ⟨w.heap.size + 1 + 1, 0, none⟩ = some (.slice none 0 0) := q2.cell 0
            have HE9 : Hid _ := And.intro (q2.set 0 (.slice q8 qs.length c8)) (And.intro (hB.setCell (p := ⟨w.heap.size + 1 + 1, 0, none⟩) (by show w.heap.size ≤ w.heap.size + 1 + 1; omega) (.slice q8 qs.length c8)) (ownR_set (base' := w.heap.size) hown8 ⟨w.heap.size + 1 + 1, 0, none⟩ (by show w.heap.size + 1 + 1 < W.heap.size; omega) (.slice q8 qs.length c8) (by omega)))
            clear q0 q1 q2 hB hown5 hown6 hown8 hb8 hbq hX6 hsw HR
            go_wp2_with (at_builtin; refine wpList_append_runs rfl _ _ 47 rfl _ _ rfl rfl happ8 ?_)
            obtain ⟨h1, h2, h3⟩ := HE9.out
            clear HE9 f0 z0
            generalize (w8.setCell ⟨w.heap.size + 1 + 1, 0, none⟩ (.slice q8 qs.length c8)) = Z at *
            have e0 : Z.cell? ⟨w.heap.size + 1 + 1, 0, none⟩ = some (.slice q8 qs.length c8) := h1.cell 0
            exact bodyPost_ret (v := .agg #[.slice q8 qs.length c8]) (by simp [results, Tryz.results114, go_sem, e0]) rfl ⟨q8, c8, rfl, h3, h2⟩
          · have z1 : (a == A) = false := by simpa using hA
            clear hit hA
            have q0 := (q0.below hb (by omega)).alloc (.cells #[] 144)
            have q1 := (q1.below hb (by omega)).alloc (.cells #[] 144)
            have q2 := (q2.below hb (by omega)).alloc (.cells #[] 144)
            have hB1 := hB.trans (hb.mono hB.size)
            have hB := hB1.alloc hB1.size (.cells #[] 144)
            have hk8 : k ≤ cap := by have := HC.out.2; omega
            have x0 : (w1.alloc (.cells #[] 144)).cell? ⟨w.heap.size, 0, none⟩ = some (.slice (some ⟨g, 0, none⟩) N cap) := q0.cell 0
            have hX1 := (HX.out).below hB
            have hsw := hb.size
            have ho := World.ownsRow_lit (base := W.heap.size) (e := 144) (size := 9) w1 #[] 0 hsw (Nat.zero_le _) (by simp)
            have hlk : (rs.take k).length = k := by rw [List.length_take, HN.out]; omega
            obtain ⟨v4, w4, happ, hown4, hb4⟩ := run_append_rts (w1.alloc (.cells #[] 144)) W.heap.size (.slice (some ⟨w1.heap.size, 0, none⟩) 0 0) [] (rs.take k) (fromR (some ⟨g, 0, none⟩) cap 0) cap 47 (by simpa [rowR] using ho) (fun e => by
              obtain ⟨h1, h2⟩ := fromR_none (k := 0) HC.out.1 (rtsIn_none hX1) e
              rw [List.drop_zero] at h1
              exact ⟨by rw [h1]; simp, by omega⟩) (fromR_upto hX1) (by simp [List.length_take]; omega) (by simp; omega)
            rw [hlk] at happ
            rw [List.nil_append] at hown4
            have hsl := sliceR_upto (some ⟨g, 0, none⟩) N cap k (k : Int) rfl hk8
            have hsw : W.heap.size ≤ (w1.alloc (.cells #[] 144)).heap.size := by simp; omega
            clear hX1 hb hB1 ho
            have q0 := q0.below hb4 (by omega)
            have q1 := q1.below hb4 (by omega)
            have q2 := q2.below hb4 (by omega)
            have hB := hB.trans (hb4.mono (by omega))
            have hsw := Nat.le_trans hsw hb4.size
            have y0 : w4.cell? ⟨w.heap.size + 1, 0, none⟩ = some (.int .i64 A) := q1.cell 0
            have y1 : w4.cell? ⟨w.heap.size + 1, 1, none⟩ = some (.int .i64 L) := q1.cell 1
            have y2 : w4.cell? ⟨w.heap.size + 1, 2, none⟩ = some (.int .i64 M) := q1.cell 2
            have y3 : w4.cell? ⟨w.heap.size + 1, 3, none⟩ = some (.int .i64 O) := q1.cell 3
            have y4 : w4.cell? ⟨w.heap.size + 1, 4, none⟩ = some (.int .i64 I) := q1.cell 4
            have y5 : w4.cell? ⟨w.heap.size + 1, 5, none⟩ = some (.int .i64 T) := q1.cell 5
            have y6 : w4.cell? ⟨w.heap.size + 1, 6, none⟩ = some (.int .i64 U) := q1.cell 6
            have y7 : w4.cell? ⟨w.heap.size + 1, 7, none⟩ = some (.int .i64 E) := q1.cell 7
            have y8 : w4.cell? ⟨w.heap.size + 1, 8, none⟩ = some (.bool C) := q1.cell 8
            have q0 := q0.alloc (.cells #[.int .i64 A, .int .i64 L, .int .i64 M, .int .i64 O, .int .i64 I, .int .i64 T, .int .i64 U, .int .i64 E, .bool C] 144)
            have q1 := q1.alloc (.cells #[.int .i64 A, .int .i64 L, .int .i64 M, .int .i64 O, .int .i64 I, .int .i64 T, .int .i64 U, .int .i64 E, .bool C] 144)
            have q2 := q2.alloc (.cells #[.int .i64 A, .int .i64 L, .int .i64 M, .int .i64 O, .int .i64 I, .int .i64 T, .int .i64 U, .int .i64 E, .bool C] 144)
            have hB := hB.alloc (by omega) (.cells #[.int .i64 A, .int .i64 L, .int .i64 M, .int .i64 O, .int .i64 I, .int .i64 T, .int .i64 U, .int .i64 E, .bool C] 144)
            have qn := Row.new w4 144 [.int .i64 A, .int .i64 L, .int .i64 M, .int .i64 O, .int .i64 I, .int .i64 T, .int .i64 U, .int .i64 E, .bool C]
            obtain ⟨v5, w5, happ5, hown5, hb5⟩ := run_append_rts (w4.alloc (.cells #[.int .i64 A, .int .i64 L, .int .i64 M, .int .i64 O, .int .i64 I, .int .i64 T, .int .i64 U, .int .i64 E, .bool C] 144)) W.heap.size v4 (rs.take k) [(⟨A, L, M, O, I, T, U, E, C⟩ : Rt)] (some ⟨w4.heap.size, 0, none⟩) 1 47 (World.ownsRow.alloc hown4 _) (fun e => by cases e) (fun ad e j u hj => by
              cases e
              rw [addR, Nat.zero_add, qn.cell]
              exact hj) (by simp [List.length_take]; omega) (by simp; omega)
            rw [List.length_singleton] at happ5
            have HE5 : Hid _ := And.intro q0 (And.intro q1 (And.intro q2 (And.intro hB (And.intro hown5 (And.intro hb5 (show W.heap.size ≤ (w4.alloc (.cells #[.int .i64 A, .int .i64 L, .int .i64 M, .int .i64 O, .int .i64 I, .int .i64 T, .int .i64 U, .int .i64 E, .bool C] 144)).heap.size by simp; omega))))))
            clear q0 q1 q2 hB hown4 hb4 hown5 hb5 hsw qn
            go_wp2_with (at_builtin; first | refine wpList_append_runs rfl _ _ 47 rfl _ _ rfl rfl happ ?_ | refine wpList_append_runs rfl _ _ 47 rfl _ _ rfl rfl happ5 ?_)
            clear happ x0 hsl
            obtain ⟨q0, q1, q2, hB, hown5, hb5, hsw⟩ := HE5.out
            have q0 := q0.below hb5 (by omega)
            have q1 := q1.below hb5 (by omega)
            have q2 := q2.below hb5 (by omega)
            have hB := hB.trans (hb5.mono (by omega))
            have hsw := Nat.le_trans hsw hb5.size
            have x0 : w5.cell? ⟨w.heap.size, 0, none⟩ = some (.slice (some ⟨g, 0, none⟩) N cap) := q0.cell 0
            clear happ5 HE5 hb5 y0 y1 y2 y3 y4 y5 y6 y7 y8
            obtain ⟨c0, c1⟩ := ((HX.out).below hB).net k hlr
            rw [hek] at c0 c1
            have y0 : w5.cell? ⟨w.heap.size + 1, 0, none⟩ = some (.int .i64 A) := q1.cell 0
            have y1 : w5.cell? ⟨w.heap.size + 1, 1, none⟩ = some (.int .i64 L) := q1.cell 1
            simp only at c0 c1
            go_wp2_with fail
            replace x0 := cell_regrown x0
            replace c0 := cell_regrown c0
            replace c1 := cell_regrown c1
            replace y0 := cell_regrown y0
            replace y1 := cell_regrown y1
            refine wp_region_quiet_below (by kernel_rfl) (by kernel_rfl) ?_
            repeat (go_big_quiet_step (fail))
            refine wpQuiet_nil ?_
            intro w6 hw'
            obtain ⟨⟨dq, osq⟩, hw''⟩ := hw'
            have hbq := below_regrown w5 dq osq
            rw [← hw''] at hbq
            clear hw'' osq dq x0 c0 c1 y0 y1
            have q0 := q0.below hbq q0.lt
            have q2 := q2.below hbq q2.lt
            have hB := hB.trans (hbq.mono hB.size)
            have hX6 := (HX.out).below hB
            have hsw := Nat.le_trans hsw hbq.size
            have hown6 : w6.ownsRow W.heap.size 144 9 v5 (rs.take k ++ [(⟨A, L, M, O, I, T, U, E, C⟩ : Rt)]).length (rowR (rs.take k ++ [(⟨A, L, M, O, I, T, U, E, C⟩ : Rt)])) := World.ownsRow.kept hown5 (row := none) ⟨hbq.os, hbq.tape, hbq.output, hbq.size, fun k hk _ => hbq.block k hk⟩ (by cases v5.ownBlock <;> simp)
            have x0 : w6.cell? ⟨w.heap.size, 0, none⟩ = some (.slice (some ⟨g, 0, none⟩) N cap) := q0.cell 0
            obtain ⟨v8, w8, happ8, hown8, hb8⟩ := run_append_rts w6 W.heap.size v5 (rs.take k ++ [(⟨A, L, M, O, I, T, U, E, C⟩ : Rt)]) (rs.drop (k)) (fromR (some ⟨g, 0, none⟩) cap (k)) (cap - (k)) 47 hown6 (fun e => fromR_none HC.out.1 (rtsIn_none hX6) e) (fromR_cells hX6 (by rw [HN.out]; exact HC.out.2)) (by have := HN.out; simp [List.length_take]; omega) hsw
            rw [List.length_drop, HN.out] at happ8
            have hsl := sliceR_from (some ⟨g, 0, none⟩) N cap (k) ((k : Int)) (by omega) (by omega)
            generalize hQS : rs.take k ++ [(⟨A, L, M, O, I, T, U, E, C⟩ : Rt)] ++ rs.drop (k) = QS at hown8
            have hq : qs = QS := by rw [HR, ← hQS, List.append_assoc]; rfl
            subst hq
            clear hQS
            obtain ⟨q8, c8, rfl⟩ := ownsR_shape hown8
            have q2 := q2.below hb8 (by omega)
            have hB := hB.trans (hb8.mono (by omega))
            have f0 : w8.frozen? ⟨w.heap.size + 1 + 1, 0, none⟩ = false := q2.frozen 0
            have z0 : w8.cell? ⟨w.heap.size + 1 + 1, 0, none⟩ = some (.slice none 0 0) := q2.cell 0
            have HE9 : Hid _ := And.intro (q2.set 0 (.slice q8 qs.length c8)) (And.intro (hB.setCell (p := ⟨w.heap.size + 1 + 1, 0, none⟩) (by show w.heap.size ≤ w.heap.size + 1 + 1; omega) (.slice q8 qs.length c8)) (ownR_set (base' := w.heap.size) hown8 ⟨w.heap.size + 1 + 1, 0, none⟩ (by show w.heap.size + 1 + 1 < W.heap.size; omega) (.slice q8 qs.length c8) (by omega)))
            clear q0 q1 q2 hB hown5 hown6 hown8 hb8 hbq hX6 hsw HR
            go_wp2_with (at_builtin; refine wpList_append_runs rfl _ _ 47 rfl _ _ rfl rfl happ8 ?_)
            obtain ⟨h1, h2, h3⟩ := HE9.out
            clear HE9 f0 z0
            generalize (w8.setCell ⟨w.heap.size + 1 + 1, 0, none⟩ (.slice q8 qs.length c8)) = Z at *
            have e0 : Z.cell? ⟨w.heap.size + 1 + 1, 0, none⟩ = some (.slice q8 qs.length c8) := h1.cell 0
            exact bodyPost_ret (v := .agg #[.slice q8 qs.length c8]) (by simp [results, Tryz.results114, go_sem, e0]) rfl ⟨q8, c8, rfl, h3, h2⟩
      · rw [hless] at HLk hlk
        have HNx : Hid (∀ j, j < k + 1 → ltR rs[j]! ⟨A, L, M, O, I, T, U, E, C⟩ = true) := fun j hj => by
          rcases Nat.lt_or_ge j k with h' | h'
          · exact ha j h'
          · obtain rfl : j = k := by omega
            rw [get_bang hlr]; exact hlk
        clear HL HI ha hless hlk hek
        go_wp2_with fail
        replace x0 := cell_regrown x0
        replace c0 := cell_regrown c0
        replace c1 := cell_regrown c1
        replace y0 := cell_regrown y0
        replace y1 := cell_regrown y1
        refine wp_region_quiet_below (by kernel_rfl) (by kernel_rfl) ?_
        repeat (go_big_quiet_step (first | (go_at_call 160; exact Calls.regrown_of (HLk.out _))))
        refine wpQuiet_nil ?_
        intro w1 hw'
        obtain ⟨⟨dq, osq⟩, hw''⟩ := hw'
        have hbq := below_regrown wr dq osq
        rw [← hw''] at hbq
        clear hw'' osq dq x0 c0 c1 y0 y1
        have hb := hb.trans (hbq.mono hb.size)
        clear hbq HLk
        go_wp2
        go_roundw
        case rel => exact ⟨k + 1, hlt, by go_num, HNx.out, hb⟩
        case measure => simp [intOf]; omega
    · obtain rfl : k = N := by omega
      have d1 : decide ((k : Int) < (k : Int)) = false := by simp
      have HR := HI.out k hk ha (fun h => absurd h (by omega))
      rw [if_neg (fun e => hlt e.1)] at HR
      clear HL HI ha hlt
      go_wp2_with fail
      replace x0 := cell_regrown x0
      refine wp_region_quiet_below (by kernel_rfl) (by kernel_rfl) ?_
      repeat (go_big_quiet_step (fail))
      refine wpQuiet_nil ?_
      intro w1 hw'
      obtain ⟨⟨dq, osq⟩, hw''⟩ := hw'
      have hbq := below_regrown wr dq osq
      rw [← hw''] at hbq
      clear hw'' osq dq x0
      have hb := hb.trans (hbq.mono hb.size)
      clear hbq
      have q0 := (q0.below hb (by omega)).alloc (.cells #[] 144)
      have q1 := (q1.below hb (by omega)).alloc (.cells #[] 144)
      have q2 := (q2.below hb (by omega)).alloc (.cells #[] 144)
      have hB1 := hB.trans (hb.mono hB.size)
      have hB := hB1.alloc hB1.size (.cells #[] 144)
      have hk8 : k ≤ cap := by have := HC.out.2; omega
      have x0 : (w1.alloc (.cells #[] 144)).cell? ⟨w.heap.size, 0, none⟩ = some (.slice p k cap) := q0.cell 0
      have hX1 := (HX.out).below hB
      have hsw := hb.size
      have ho := World.ownsRow_lit (base := W.heap.size) (e := 144) (size := 9) w1 #[] 0 hsw (Nat.zero_le _) (by simp)
      have hlk : (rs.take k).length = k := by rw [List.length_take, HN.out]; omega
      obtain ⟨v4, w4, happ, hown4, hb4⟩ := run_append_rts (w1.alloc (.cells #[] 144)) W.heap.size (.slice (some ⟨w1.heap.size, 0, none⟩) 0 0) [] (rs.take k) (fromR p cap 0) cap 47 (by simpa [rowR] using ho) (fun e => by
        obtain ⟨h1, h2⟩ := fromR_none (k := 0) HC.out.1 (rtsIn_none hX1) e
        rw [List.drop_zero] at h1
        exact ⟨by rw [h1]; simp, by omega⟩) (fromR_upto hX1) (by simp [List.length_take]; omega) (by simp; omega)
      rw [hlk] at happ
      rw [List.nil_append] at hown4
      have hsl := sliceR_upto p k cap k (k : Int) rfl hk8
      have hsw : W.heap.size ≤ (w1.alloc (.cells #[] 144)).heap.size := by simp; omega
      clear hX1 hb hB1 ho
      have q0 := q0.below hb4 (by omega)
      have q1 := q1.below hb4 (by omega)
      have q2 := q2.below hb4 (by omega)
      have hB := hB.trans (hb4.mono (by omega))
      have hsw := Nat.le_trans hsw hb4.size
      have y0 : w4.cell? ⟨w.heap.size + 1, 0, none⟩ = some (.int .i64 A) := q1.cell 0
      have y1 : w4.cell? ⟨w.heap.size + 1, 1, none⟩ = some (.int .i64 L) := q1.cell 1
      have y2 : w4.cell? ⟨w.heap.size + 1, 2, none⟩ = some (.int .i64 M) := q1.cell 2
      have y3 : w4.cell? ⟨w.heap.size + 1, 3, none⟩ = some (.int .i64 O) := q1.cell 3
      have y4 : w4.cell? ⟨w.heap.size + 1, 4, none⟩ = some (.int .i64 I) := q1.cell 4
      have y5 : w4.cell? ⟨w.heap.size + 1, 5, none⟩ = some (.int .i64 T) := q1.cell 5
      have y6 : w4.cell? ⟨w.heap.size + 1, 6, none⟩ = some (.int .i64 U) := q1.cell 6
      have y7 : w4.cell? ⟨w.heap.size + 1, 7, none⟩ = some (.int .i64 E) := q1.cell 7
      have y8 : w4.cell? ⟨w.heap.size + 1, 8, none⟩ = some (.bool C) := q1.cell 8
      have q0 := q0.alloc (.cells #[.int .i64 A, .int .i64 L, .int .i64 M, .int .i64 O, .int .i64 I, .int .i64 T, .int .i64 U, .int .i64 E, .bool C] 144)
      have q1 := q1.alloc (.cells #[.int .i64 A, .int .i64 L, .int .i64 M, .int .i64 O, .int .i64 I, .int .i64 T, .int .i64 U, .int .i64 E, .bool C] 144)
      have q2 := q2.alloc (.cells #[.int .i64 A, .int .i64 L, .int .i64 M, .int .i64 O, .int .i64 I, .int .i64 T, .int .i64 U, .int .i64 E, .bool C] 144)
      have hB := hB.alloc (by omega) (.cells #[.int .i64 A, .int .i64 L, .int .i64 M, .int .i64 O, .int .i64 I, .int .i64 T, .int .i64 U, .int .i64 E, .bool C] 144)
      have qn := Row.new w4 144 [.int .i64 A, .int .i64 L, .int .i64 M, .int .i64 O, .int .i64 I, .int .i64 T, .int .i64 U, .int .i64 E, .bool C]
      obtain ⟨v5, w5, happ5, hown5, hb5⟩ := run_append_rts (w4.alloc (.cells #[.int .i64 A, .int .i64 L, .int .i64 M, .int .i64 O, .int .i64 I, .int .i64 T, .int .i64 U, .int .i64 E, .bool C] 144)) W.heap.size v4 (rs.take k) [(⟨A, L, M, O, I, T, U, E, C⟩ : Rt)] (some ⟨w4.heap.size, 0, none⟩) 1 47 (World.ownsRow.alloc hown4 _) (fun e => by cases e) (fun ad e j u hj => by
        cases e
        rw [addR, Nat.zero_add, qn.cell]
        exact hj) (by simp [List.length_take]; omega) (by simp; omega)
      rw [List.length_singleton] at happ5
      have HE5 : Hid _ := And.intro q0 (And.intro q1 (And.intro q2 (And.intro hB (And.intro hown5 (And.intro hb5 (show W.heap.size ≤ (w4.alloc (.cells #[.int .i64 A, .int .i64 L, .int .i64 M, .int .i64 O, .int .i64 I, .int .i64 T, .int .i64 U, .int .i64 E, .bool C] 144)).heap.size by simp; omega))))))
      clear q0 q1 q2 hB hown4 hb4 hown5 hb5 hsw qn
      go_wp2_with (at_builtin; first | refine wpList_append_runs rfl _ _ 47 rfl _ _ rfl rfl happ ?_ | refine wpList_append_runs rfl _ _ 47 rfl _ _ rfl rfl happ5 ?_)
      clear happ x0 hsl
      obtain ⟨q0, q1, q2, hB, hown5, hb5, hsw⟩ := HE5.out
      have q0 := q0.below hb5 (by omega)
      have q1 := q1.below hb5 (by omega)
      have q2 := q2.below hb5 (by omega)
      have hB := hB.trans (hb5.mono (by omega))
      have hsw := Nat.le_trans hsw hb5.size
      have x0 : w5.cell? ⟨w.heap.size, 0, none⟩ = some (.slice p k cap) := q0.cell 0
      clear happ5 HE5 hb5 y0 y1 y2 y3 y4 y5 y6 y7 y8
      have d2 : decide ((k : Int) < (k : Int)) = false := by simp
      go_wp2_with fail
      replace x0 := cell_regrown x0
      refine wp_region_quiet_below (by kernel_rfl) (by kernel_rfl) ?_
      repeat (go_big_quiet_step (fail))
      refine wpQuiet_nil ?_
      intro w6 hw'
      obtain ⟨⟨dq, osq⟩, hw''⟩ := hw'
      have hbq := below_regrown w5 dq osq
      rw [← hw''] at hbq
      clear hw'' osq dq x0
      have q0 := q0.below hbq q0.lt
      have q2 := q2.below hbq q2.lt
      have hB := hB.trans (hbq.mono hB.size)
      have hX6 := (HX.out).below hB
      have hsw := Nat.le_trans hsw hbq.size
      have hown6 : w6.ownsRow W.heap.size 144 9 v5 (rs.take k ++ [(⟨A, L, M, O, I, T, U, E, C⟩ : Rt)]).length (rowR (rs.take k ++ [(⟨A, L, M, O, I, T, U, E, C⟩ : Rt)])) := World.ownsRow.kept hown5 (row := none) ⟨hbq.os, hbq.tape, hbq.output, hbq.size, fun k hk _ => hbq.block k hk⟩ (by cases v5.ownBlock <;> simp)
      have x0 : w6.cell? ⟨w.heap.size, 0, none⟩ = some (.slice p k cap) := q0.cell 0
      obtain ⟨v8, w8, happ8, hown8, hb8⟩ := run_append_rts w6 W.heap.size v5 (rs.take k ++ [(⟨A, L, M, O, I, T, U, E, C⟩ : Rt)]) (rs.drop (k)) (fromR p cap (k)) (cap - (k)) 47 hown6 (fun e => fromR_none HC.out.1 (rtsIn_none hX6) e) (fromR_cells hX6 (by rw [HN.out]; exact HC.out.2)) (by have := HN.out; simp [List.length_take]; omega) hsw
      rw [List.length_drop, HN.out, Nat.sub_self] at happ8
      have hsl := sliceR_from p k cap (k) ((k : Int)) (by omega) (by omega)
      simp only [Nat.sub_self] at hsl
      generalize hQS : rs.take k ++ [(⟨A, L, M, O, I, T, U, E, C⟩ : Rt)] ++ rs.drop (k) = QS at hown8
      have hq : qs = QS := by rw [HR, ← hQS, List.append_assoc]; rfl
      subst hq
      clear hQS
      obtain ⟨q8, c8, rfl⟩ := ownsR_shape hown8
      have q2 := q2.below hb8 (by omega)
      have hB := hB.trans (hb8.mono (by omega))
      have f0 : w8.frozen? ⟨w.heap.size + 1 + 1, 0, none⟩ = false := q2.frozen 0
      have z0 : w8.cell? ⟨w.heap.size + 1 + 1, 0, none⟩ = some (.slice none 0 0) := q2.cell 0
      have HE9 : Hid _ := And.intro (q2.set 0 (.slice q8 qs.length c8)) (And.intro (hB.setCell (p := ⟨w.heap.size + 1 + 1, 0, none⟩) (by show w.heap.size ≤ w.heap.size + 1 + 1; omega) (.slice q8 qs.length c8)) (ownR_set (base' := w.heap.size) hown8 ⟨w.heap.size + 1 + 1, 0, none⟩ (by show w.heap.size + 1 + 1 < W.heap.size; omega) (.slice q8 qs.length c8) (by omega)))
      clear q0 q1 q2 hB hown5 hown6 hown8 hb8 hbq hX6 hsw HR
      go_wp2_with (at_builtin; refine wpList_append_runs rfl _ _ 47 rfl _ _ rfl rfl happ8 ?_)
      obtain ⟨h1, h2, h3⟩ := HE9.out
      clear HE9 f0 z0
      generalize (w8.setCell ⟨w.heap.size + 1 + 1, 0, none⟩ (.slice q8 qs.length c8)) = Z at *
      have e0 : Z.cell? ⟨w.heap.size + 1 + 1, 0, none⟩ = some (.slice q8 qs.length c8) := h1.cell 0
      exact bodyPost_ret (v := .agg #[.slice q8 qs.length c8]) (by simp [results, Tryz.results114, go_sem, e0]) rfl ⟨q8, c8, rfl, h3, h2⟩
end Go.Proofs.YtialedffpaoacaaGreatDoor
