/- Texts that stand on each other, in one file: FreshI, SteadyR, TickI, TickT, EqNet, EqRts, MarkR, RibMarks, RibOutL, RibLaw, OutLaw. -/
import Derived.Test.YtaledidomgelcaaPack2
import Derived.Test.YtaledidomgelcaaPack3
import Derived.OrdersIn
import Derived.RangeFuncCalls
import Derived.Test.YtaledidomgelcaaPack4
import Derived.Test.YtaledidomgelcaaPack1
import Derived.Lib.QuietBelow
import Derived.BigQuiet
/- Routes that are told just now, and routes that go: by the program. -/
namespace Go.Proofs.Ytaledidomgelcaa
open Go.RowKit Go.Sort

theorem two_new (w : World) (a b : Obj) : Below w.heap.size w ((w.alloc a).alloc b) := ((ent_new0 w a).alloc (by simp) b)
set_option maxRecDepth 100000 in
theorem outOfReach_any (r : Rt) (now : Int) (w : World) (h0 : 0 ≤ now) (h1 : now ≤ 999900) : Calls Try.prog 63 #[rtV r, .int .i64 now] w fun e w' => e = .returned (rtV (reachR r now)) ∧ Below w.heap.size w w' := by
  obtain ⟨A, L, M, O, I, T, U, E, C⟩ := r
  unfold rtV rtA reachR deadR
  simp only
  by_cases hm : M = 16
  · subst hm
    rw [if_pos rfl]
    simp only
    go_enter Try.func63, Try.ntmps63
    go_wp2_with fail
    exact bodyPost_ret (v := .agg #[.int .i64 A, .int .i64 L, .int .i64 16, .int .i64 O, .int .i64 I, .int .i64 T, .int .i64 U, .int .i64 E, .bool C]) (by simp [results, Try.results63, go_sem]) rfl ⟨rfl, two_new _ _ _⟩
  · rw [if_neg hm]
    simp only
    go_enter Try.func63, Try.ntmps63
    go_wp2_with fail
    exact bodyPost_ret (v := .agg #[.int .i64 A, .int .i64 L, .int .i64 16, .int .i64 O, .int .i64 I, .int .i64 T, .int .i64 0, .int .i64 (now + 4), .bool true]) (by simp [results, Try.results63, go_sem]) rfl ⟨rfl, two_new _ _ _⟩
set_option maxRecDepth 100000 in
theorem isDue_any (a now : Int) (w : World) : Calls Try.prog 60 #[.int .i64 a, .int .i64 now] w fun e w' => e = .returned (.bool (dueB a now)) ∧ w = w' := by
  unfold dueB
  by_cases h1 : 0 < a
  · by_cases h2 : a ≤ now
    · go_enter Try.func60, Try.ntmps60
      go_wp2
      go_ret
      exact ⟨ret_bool (by simp [h1, h2]), rfl⟩
    · go_enter Try.func60, Try.ntmps60
      go_wp2
      go_ret
      exact ⟨ret_bool (by simp; omega), rfl⟩
  · go_enter Try.func60, Try.ntmps60
    go_wp2
    go_ret
    exact ⟨ret_bool (by simp; omega), rfl⟩
set_option maxRecDepth 100000 in
theorem isNow_any (now : Int) (w : World) : Calls Try.prog 53 #[.int .i64 now] w fun e w' => e = .returned (.bool (inNow now)) ∧ w = w' := by
  unfold inNow
  by_cases h1 : 0 ≤ now
  · by_cases h2 : now ≤ 999900
    · go_enter Try.func53, Try.ntmps53
      go_wp2
      go_ret
      exact ⟨ret_bool (by simp [h1, h2]), rfl⟩
    · go_enter Try.func53, Try.ntmps53
      go_wp2
      go_ret
      exact ⟨ret_bool (by simp; omega), rfl⟩
  · go_enter Try.func53, Try.ntmps53
    go_wp2
    go_ret
    exact ⟨ret_bool (by simp; omega), rfl⟩
end Go.Proofs.Ytaledidomgelcaa
/- Regions that draw their order, within a round of a range over a function. -/
namespace Go.Proofs.Ytaledidomgelcaa
open Go Go.RowKit

section
variable {P : Program}
theorem wpAny_region_steady {Q : Exit → Act → World → Prop} {a : Act} {w : World} {l : List Oper} (m : Nat) (G : Nat → Value → World → Prop) (hchk : (decide (m ≤ l.length) && tailB .any l.toArray 0 m && steadyChk (l.take m) a.tmps.size) = true)
    (hstab : ∀ d v w1 w2, G d v w1 → Below w1.heap.size w1 w2 → G d v w2)
    (hstep : ∀ o ∈ l.take m, ∀ a' w', Below w.heap.size w w' → Agrees (l.take m) a a' → (∀ d ∈ depSlots (l.take m) o, G d (a'.tmps.getD d undef) w') → o.wp P a' w' (fun a'' w'' => ∃ v, a'' = a'.put o.dst v ∧ Below w'.heap.size w' w'' ∧ ∀ d, o.dst = some d → G d v w'') Q)
    (hfin : ∀ a' w', Below w.heap.size w w' → Agrees (l.take m) a a' → (∀ o ∈ l.take m, ∀ d, o.dst = some d → G d (a'.tmps.getD d undef) w') → wpList P l.toArray Q (l.drop m) a' w') :
    wpAny P .any l.toArray Q l.toArray.size (Array.replicate l.toArray.size false) a { w with drawn := w.drawn + 1 } := by
  simp only [Bool.and_eq_true, decide_eq_true_eq] at hchk
  obtain ⟨⟨hml, hB⟩, hck⟩ := hchk
  have h := wpAny_steady (P := P) (w := w) m hml G hB hck hstab hstep hfin m (List.range m) (Array.replicate l.length false) a { w with drawn := w.drawn + 1 } (by simp) List.nodup_range (by simp) ?_ (by simp) ?_ ?_ ((Below.refl w.heap.size w).drew) ⟨rfl, rfl, fun _ _ => rfl⟩ ?_
  · rw [show m + (l.length - m) = l.length by omega] at h
    simpa using h
  · intro j hj
    have hjl : j < l.length := by omega
    simp [Array.getD_eq_getD_getElem?, hjl, hj]
  · intro j _ hjl
    simp [Array.getD_eq_getD_getElem?, hjl]
  · intro k o ho hk
    have hlt : k < l.length := by simpa using (Array.getElem?_eq_some_iff.1 ho).1
    simp [Array.getD_eq_getD_getElem?, hlt] at hk
  · intro j o d hj hl _
    have hlt : j < l.length := by have := (List.getElem?_eq_some_iff.1 hj).1; simp at this; omega
    simp [Array.getD_eq_getD_getElem?, hlt] at hl
def calmB (l : List Oper) : Bool := l.all fun o => match o.op with | .defer _ => false | _ => true
theorem calm_of {l : List Oper} (h : calmB l = true) {o : Oper} (ho : o ∈ l) : ∀ c, o.op ≠ .defer c := by
  intro c e
  have := (List.all_eq_true.1 h) o ho
  rw [e] at this
  cases this
/-- What an operation does goes into a round as it is. -/
theorem upon_round {o : Oper} {a : Act} {K K' : Act → World → Prop} {Q : Exit → Act → World → Prop} {l n : Nat} (hK : ∀ a w, K a w → K' a w) : ∀ r : Result Next, o.upon P a K Q r → o.uponIn (Fence.wide.inRound l) n P a K' Q r := by
  intro r h
  cases r with
  | ok x w' =>
    cases x with
    | value v => exact hK _ _ h
    | skip => exact hK _ _ h
    | defer d => exact hK _ _ h
    | enter f args =>
      have h : Calls P f args w' _ := h
      refine ⟨fun e => (by cases e), CallsIn.inRound l (callsIn_wide.2 (Calls.mono h ?_))⟩
      intro e w'' h'
      cases e with
      | returned v => exact hK _ _ h'
      | panicked c => exact h'
      | outgrown => exact h'
    | row r ys =>
      have h : Rows P r ys w' _ := h
      refine ⟨fun e => (by cases e), fun c cs _ => ?_⟩
      obtain ⟨v, w'', hr, hs⟩ := h c cs
      exact ⟨v, w'', hK _ _ hr, stepsIn_wide.2 hs⟩
    | _ => exact h.elim
  | halt x w' =>
    cases x with
    | panic v => exact h
    | _ => exact h.elim
theorem oper_round {o : Oper} {a : Act} {w : World} {K K' : Act → World → Prop} {Q : Exit → Act → World → Prop} {l n : Nat} (hd : ∀ c, o.op ≠ .defer c) (hK : ∀ a w, K a w → K' a w) (h : o.wp P a w K Q) : o.wpIn (Fence.wide.inRound l) n P a w K' Q := by
  refine ⟨fun _ _ => trivial, ?_⟩
  rw [show (Fence.wide.inRound l).round = some l from rfl, Oper.semAt_eq _ _ _ hd]
  exact upon_round hK _ h
theorem wpAny_round {ops : Array Oper} {Q : Exit → Act → World → Prop} {l n : Nat} (hd : calmB ops.toList = true) (hQ : ¬ LetsOut Q) : ∀ (fuel : Nat) (listed : Array Bool) (a : Act) (w : World), wpAny P .any ops Q fuel listed a w → wpAnyIn (Fence.wide.inRound l) n P .any ops Q fuel listed a w
  | 0, _, _, _, h => h
  | fuel + 1, listed, a, w, h => by
    refine ⟨h.1, fun i hi => ?_⟩
    have h2 := h.2 i hi
    unfold wpOp at h2
    unfold wpOpIn
    cases ho : ops[i]? with
    | none =>
      rw [ho] at h2
      exact wpAny_round hd hQ fuel _ _ _ h2
    | some o =>
      rw [ho] at h2
      simp only at h2 ⊢
      have hmem : o ∈ ops.toList := by
        obtain ⟨hlt, he⟩ := Array.getElem?_eq_some_iff.1 ho
        rw [← he]
        exact Array.getElem_mem_toList hlt
      split at h2
      · rename_i hw
        rw [if_pos hw]
        rcases h2 with h2 | ⟨_, h2⟩
        · exact oper_round (calm_of hd hmem) (fun a w => wpAny_round hd hQ fuel _ a w) h2
        · exact absurd h2 hQ
      · rename_i hw
        rw [if_neg hw]
        exact ⟨fun _ _ => trivial, wpAny_round hd hQ fuel _ _ _ h2⟩
theorem wpIn_region_steady {id : Nat} {Q : Exit → Act → World → Prop} {a : Act} {w : World} {l : List Oper} {lo n : Nat} (hd : calmB l = true) (hQ : ¬ LetsOut Q) (m : Nat) (G : Nat → Value → World → Prop) (hm : P.follows .mixedOrders = true) (hchk : (decide (m ≤ l.length) && tailB .any l.toArray 0 m && steadyChk (l.take m) a.tmps.size) = true)
    (hstab : ∀ d v w1 w2, G d v w1 → Below w1.heap.size w1 w2 → G d v w2)
    (hstep : ∀ o ∈ l.take m, ∀ a' w', Below w.heap.size w w' → Agrees (l.take m) a a' → (∀ d ∈ depSlots (l.take m) o, G d (a'.tmps.getD d undef) w') → o.wp P a' w' (fun a'' w'' => ∃ v, a'' = a'.put o.dst v ∧ Below w'.heap.size w' w'' ∧ ∀ d, o.dst = some d → G d v w'') Q)
    (hfin : ∀ a' w', Below w.heap.size w w' → Agrees (l.take m) a a' → (∀ o ∈ l.take m, ∀ d, o.dst = some d → G d (a'.tmps.getD d undef) w') → wpList P l.toArray Q (l.drop m) a' w') :
    (Code.region id l.toArray true).wpIn (Fence.wide.inRound lo) n P Q a w :=
  wpIn_region_any hm (wpAny_round (by simpa using hd) hQ _ _ _ _ (wpAny_region_steady m G hchk hstab hstep hfin))
end
end Go.Proofs.Ytaledidomgelcaa
/- RibTick of the program. (Written by gen_turn.py.) -/
namespace Go.Proofs.Ytaledidomgelcaa
open Go.RowKit Go.Sort Go.Shelf
attribute [local go_sem] Oper.semAt_some

theorem keepsFrom_grown {w X Y : World} {B : Nat} (h : X.grownBy Y (some B)) (hB : B < w.heap.size) : KeepsFrom w.heap.size X Y := ⟨h.size, fun k _ hk ho _ => (h.block k (Array.getElem?_eq_some_iff.1 ho).1 (by intro e; cases e; omega)).trans ho⟩
theorem grown_row {X Y : World} {B g : Nat} {t : TypeId} {l : List Value} (h : X.grownBy Y (some B)) (hr : Row X g t l) (hne : g ≠ B) : Row Y g t l := (h.block g hr.lt (by intro e; cases e; exact hne rfl)).trans hr
theorem map_row_ne {X : World} {B g : Nat} {t : TypeId} {l : List Value} {rs : List Rt} (h : MapIs X B rs) (hr : Row X g t l) : g ≠ B := by
  rintro rfl
  obtain ⟨es, c, hb, _⟩ := h
  unfold Row at hr
  rw [hr] at hb
  cases hb
theorem keepsFrom_trans {n : Nat} {X Y Z : World} (h : KeepsFrom n X Y) (k : KeepsFrom n Y Z) : KeepsFrom n X Z := ⟨Nat.le_trans h.size k.size, fun i _ hi ho hc => k.same i _ hi (h.same i _ hi ho hc) hc⟩
theorem kpm_set {W : World} {g : Nat} {l : List Value} (j : Nat) (v : Value) (hr : Row W g 46 l) : KpM W (W.setCell ⟨g, j, none⟩ v) := KpM.mk (by simp) (fun i cur t hi ht => Below.heap_setCell W ⟨g, j, none⟩ v i (fun e => by
  subst e
  rw [show W.heap[i]? = _ from hr] at hi
  simp only [Option.some.injEq, Obj.cells.injEq] at hi
  obtain ⟨_, ht', _⟩ := hi
  rcases ht with rfl | rfl <;> cases ht'))
theorem keepsFrom_below {n : Nat} {X Y : World} (h : Below X.heap.size X Y) : KeepsFrom n X Y := ⟨h.size, fun k _ _ ho _ => (h.block k (Array.getElem?_eq_some_iff.1 ho).1).trans ho⟩
theorem hdr_len2 {rs : List Rt} {k : Nat} (hk : k < rs.length) : (rs.take (k + 1)).length = k + 1 := by rw [List.length_take]; omega
theorem hdr_len {rs : List Rt} {k : Nat} (hk : k < rs.length) : (rs.take k).length = k := by rw [List.length_take]; omega
set_option maxRecDepth 100000 in
set_option maxHeartbeats 4000000 in
theorem implTick_right (p : Option Addr) (cap : Nat) (rs : List Rt) (now : Int) (w : World) (h : RtsIn w p rs) (hr : ribB rs = true) (h0 : 0 ≤ now) (h1 : now ≤ 999900) (hnow : inNow now = true) (hr2 : ribB (rs.filterMap (tickF now)) = true) :
    Calls Try.prog 23 #[ribV p rs.length cap, .int .i64 now] w fun e w' => OutR w.heap.size 0 (rs.filterMap (tickF now)) e w' ∧ Below w.heap.size w w' := by
  have h8 := (ribB_spec hr).1
  have HB : Hid (∀ w, RtsIn w p rs → Calls Try.prog 42 #[.agg #[.slice p rs.length cap]] w fun e w' => e = .returned (.bool true) ∧ Below w.heap.size w w') := fun w h => by have := implRib_any p cap rs w h (by omega); rw [hr] at this; exact this
  have HL : Hid (∀ w, RtsIn w p rs → Calls Try.prog 46 #[.agg #[.slice p rs.length cap]] w fun e w' => ∃ B, e = .returned (.agg #[.map (some B), .func (.func 82) #[] #[]]) ∧ w.heap.size ≤ B ∧ MapIs w' B rs ∧ Below w.heap.size w w') := fun w h => (laidOut_any p cap rs w h (by omega)).mono fun e w' h => by
    obtain ⟨B, e1, hB, hm, hb⟩ := h
    rw [laidN_right hr] at hm
    exact ⟨B, e1, hB, hm, hb⟩
  have HA : Hid (∀ B w, Calls Try.prog 59 #[.agg #[.map (some B), .func (.func 82) #[] #[]]] w fun e w' => e = .returned (.func (.func 91) #[] #[.pointer (some ⟨w.heap.size, 0, none⟩)]) ∧ w.alloc (.cells #[.map (some B), .func (.func 82) #[] #[]] 82) = w') := fun B w => all_make B w
  have HP : Hid (∀ B ms r w, MapIs w B ms → Calls Try.prog 62 #[tabV B, netV r.a r.l, rtV r] w fun e w' => e = .returned (.tuple #[]) ∧ MapIs w' B (putN ms r) ∧ w.grownBy w' (some B)) := put_any
  have HD : Hid (∀ B ms a l w, MapIs w B ms → Calls Try.prog 61 #[tabV B, netV a l] w fun e w' => e = .returned (.tuple #[]) ∧ MapIs w' B (dropN ms a l) ∧ w.grownBy w' (some B)) := drop_any
  have HNw : Hid (∀ w, Calls Try.prog 53 #[.int .i64 now] w fun e w' => e = .returned (.bool true) ∧ w = w') := fun w => by have := isNow_any now w; rw [hnow] at this; exact this
  have HDu : Hid (∀ a w, Calls Try.prog 60 #[.int .i64 a, .int .i64 now] w fun e w' => e = .returned (.bool (dueB a now)) ∧ w = w') := fun a w => isDue_any a now w
  have HR : Hid (∀ r w, Calls Try.prog 63 #[rtV r, .int .i64 now] w fun e w' => e = .returned (rtV (reachR r now)) ∧ Below w.heap.size w w') := fun r w => outOfReach_any r now w h0 h1
  clear hnow h0 h1
  have HO : Hid (∀ B w, MapIs w B (rs.filterMap (tickF now)) → Calls Try.prog 56 #[.agg #[.map (some B), .func (.func 82) #[] #[]]] w fun e w' => ∃ p cap, e = .returned (.agg #[.slice p (rs.filterMap (tickF now)).length cap]) ∧ w'.ownsRow w.heap.size 46 9 (.slice p (rs.filterMap (tickF now)).length cap) (rs.filterMap (tickF now)).length (rowR (rs.filterMap (tickF now))) ∧ Below w.heap.size w w') := fun B w h => ribOf_any B _ _ (List.Perm.refl _) hr2 w h
  have hris := rib_rising hr
  have HX : Hid (RtsIn w p rs) := h
  clear h
  obtain ⟨W, hW, q0, q1, q2, hB, hS, -⟩ := rows3 w [.slice p rs.length cap] [.int .i64 now] [.slice none 0 0, .int .i64 0] 30 2 32
  have HW : Hid _ := hW
  have c0 : W.cell? ⟨w.heap.size, 0, none⟩ = some (.slice p rs.length cap) := q0.cell 0
  have HQ : Hid _ := And.intro q0 (And.intro q1 (And.intro q2 (And.intro hB hS)))
  clear hW q0 q1 q2 hB hS
  unfold ribV
  refine (callsIn_wide (n := 9)).1 ?_
  refine callsIn_of_wp_marks Try.func23 rfl trivial ?_ rfl
  simp only [Try.ntmps23, List.size_toArray, List.length_cons, List.length_nil, Nat.reduceAdd, Nat.reduceSub, Array.replicate_succ, Array.replicate_zero, List.push_toArray, List.append_toArray, List.nil_append, List.cons_append]
  gi_wp2_with fail
  refine ⟨trivial, ?_⟩
  rw [← HW.out]
  obtain ⟨q0, q1, q2, hB, hS⟩ := HQ.out
  refine (callsIn_wide.2 (HB.out _ ((HX.out).below hB))).mono ?_
  rintro e w1 ⟨rfl, hb1⟩
  clear HB HW HQ c0
  have c1 : w1.cell? ⟨w.heap.size, 0, none⟩ = some (.slice p rs.length cap) := (q0.below hb1 q0.lt).cell 0
  have hX1 := ((HX.out).below hB).below hb1
  have n1 : w1.cell? ⟨w.heap.size + 1, 0, none⟩ = some (.int .i64 now) := (q1.below hb1 q1.lt).cell 0
  have HK1 : Hid _ := And.intro (q2.below hb1 q2.lt) (And.intro (hB.trans (hb1.mono (by omega))) (q1.below hb1 q1.lt))
  have hs1 : w.heap.size + 1 + 1 + 1 ≤ w1.heap.size := by have := hb1.size; omega
  clear q0 q1 q2 hB hS hb1 HX
  gi_wp2_with fail
  refine ⟨trivial, ?_⟩
  refine (callsIn_wide.2 (HNw.out _)).mono ?_
  rintro e w1' ⟨rfl, rfl⟩
  clear HNw n1
  gi_wp2_with fail
  refine ⟨trivial, ?_⟩
  refine (callsIn_wide.2 (HL.out _ hX1)).mono ?_
  rintro e w2 ⟨B, rfl, hBB, hM, hb2⟩
  clear HL hX1 c1
  gi_wp2_with fail
  refine ⟨trivial, ?_⟩
  refine (callsIn_wide.2 (HA.out B _)).mono ?_
  rintro e w3 ⟨rfl, hw3⟩
  obtain ⟨rr, hB, rn⟩ := HK1.out
  have hs2 := hb2.size
  have hBl := hM.lt
  obtain ⟨V, hV, rt, rt', hbV, hsV⟩ := rows2 w2 [.map (some B), .func (.func 82) #[] #[]] [.map (some B), .func (.func 82) #[] #[]] 82 82
  simp only [World.size_alloc] at hw3 ⊢
  rw [show w3 = V from hw3.symm.trans hV.symm]
  have rr := (rr.below hb2 rr.lt).below hbV (rr.below hb2 rr.lt).lt
  have rn := (rn.below hb2 rn.lt).below hbV (rn.below hb2 rn.lt).lt
  have hB := (hB.trans (hb2.mono (by omega))).trans (hbV.mono (by omega))
  have hM := hM.below hbV hM.lt
  generalize hb2n : w2.heap.size = b2 at *
  clear hw3 hb2 hV HK1 HA
  gi_wp2_with fail
  refine wpIn_turns (by omega) (gf := 91) (lb := #[.pointer (some ⟨b2 + 1, 0, none⟩)]) rfl (enters_of Try.func91 (by kernel_rfl) rfl) rtV rs rfl KpM KpM.t (fun W o o' h hc => KpM.b o' h hc)
    (fun pre X => MapIs X B (halfR (tickF now) rs pre.length) ∧ Row X b2 82 [.map (some B), .func (.func 82) #[] #[]] ∧ Row X (w.heap.size + 1 + 1) 32 [.slice none 0 0, .int .i64 0] ∧ Row X (w.heap.size + 1) 2 [.int .i64 now] ∧ Below w.heap.size w X)
    ?ig ?ip ?seq ?start
    (fun k a' X => ∃ (hk : k < rs.length) (y : Rt) (Bx : Nat), y = rs[k] ∧ (b2 < Bx ∧ w.heap.size + 1 + 1 < Bx) ∧ Row X Bx 46 (rtL y) ∧ (MapIs X B (halfR (tickF now) rs k) ∧ Row X b2 82 [.map (some B), .func (.func 82) #[] #[]] ∧ Row X (w.heap.size + 1 + 1) 32 [.slice none 0 0, .int .i64 0] ∧ Row X (w.heap.size + 1) 2 [.int .i64 now] ∧ Below w.heap.size w X) ∧ a' = { tmps := #[.agg #[.slice p rs.length cap], .int .i64 now, .pointer (some ⟨w.heap.size, 0, none⟩), .pointer (some ⟨w.heap.size + 1, 0, none⟩), .pointer (some ⟨w.heap.size + 1 + 1, 0, none⟩), .pointer (some ⟨b2, 0, none⟩), .pointer (some ⟨Bx, 0, none⟩), .agg #[.slice p rs.length cap], .bool true, .bool false, .bool false, .int .i64 now, .bool true, .bool false, .bool false, undef, .agg #[.slice p rs.length cap], .agg #[.map (some B), .func (.func 82) #[] #[]], .agg #[.map (some B), .func (.func 82) #[] #[]], .func (.func 91) #[] #[.pointer (some ⟨b2 + 1, 0, none⟩)], rtV y, undef, undef, undef, undef, undef, undef, undef, undef, undef, undef, undef, undef, undef, undef, undef, undef, undef, undef, undef, undef, undef, undef, undef, undef], defers := [] })
    ?ap ?assign ?body ?done
  case ig =>
    rintro s X Y ⟨hm, rt, rr, rn, hb⟩ hg
    exact ⟨hm.kept (hg.block B hm.lt (by simp)), (hg.block _ rt.lt (by simp)).trans rt, (hg.block _ rr.lt (by simp)).trans rr, (hg.block _ rn.lt (by simp)).trans rn, hb.grown hg hb.size (fun k e => by cases e)⟩
  case ip =>
    rintro s X r o ⟨hm, rt, rr, rn, hb⟩ hl
    exact ⟨hm.kept (World.putObj_heap_other (by omega)), (World.putObj_heap_other (by omega)).trans rt, (World.putObj_heap_other (by omega)).trans rr, (World.putObj_heap_other (by omega)).trans rn, hb.trans (belowK_b (w := w) (Nat.le_refl _) X _ _ o (by omega) hl rfl rfl)⟩
  case seq =>
    intro l J W hbW hJ hJI hY h0
    exact all1_mut (9 - 1) (by omega) l (b2 + 1) B rs rs (List.Perm.refl _) hr J hJ (fun k hk X hj => by
      have := (hJI _ _ hj).1
      rw [hdr_len hk] at this
      exact ⟨_, this, halfR_look (tickF_net now) hris hk⟩) hY W (rt'.below hbW rt'.lt) (hM.below hbW hM.lt) h0
  case start =>
    exact ⟨by simpa [halfR_0] using hM, rt, rr, rn, hB⟩
  case ap =>
    rintro k a' X r o ⟨hk, y, Bx, hy, hBx, hRx, ⟨hm, rt, rr, rn, hb⟩, rfl⟩ hl
    refine ⟨hk, y, Bx, hy, hBx, (World.putObj_heap_other (fun e => ?_)).trans hRx, ⟨hm.kept (World.putObj_heap_other (by omega)), (World.putObj_heap_other (by omega)).trans rt, (World.putObj_heap_other (by omega)).trans rr, (World.putObj_heap_other (by omega)).trans rn, hb.trans (belowK_b (w := w) (Nat.le_refl _) X _ _ o (by omega) hl rfl rfl)⟩, rfl⟩
    subst e
    rw [show X.heap[V.heap.size + 1]? = _ from hRx] at hl
    cases hl
  case assign =>
    rintro l k hk X K ⟨hm, rt, rr, rn, hb⟩ hK
    rw [hdr_len hk] at hm
    obtain ⟨y, hy⟩ : ∃ y, y = rs[k] := ⟨_, rfl⟩
    rw [← hy]
    have hy' : Hid _ := hy
    clear hy
    obtain ⟨A, L, M, O, I, T, U, E, C⟩ := y
    unfold rtV rtA at hK ⊢
    simp only at hK ⊢
    have HE : Hid _ := And.intro hm (And.intro rt (And.intro rr (And.intro rn (And.intro hb hBl))))
    clear hm rt rr rn hb
    gi_wp2
    obtain ⟨hm, rt, rr, rn, hb, hBl⟩ := HE.out
    exact hK _ _ ((KeepsOthers.alloc _ _).from _) (KpM.below (ent_new0 _ _)) ⟨hk, ⟨A, L, M, O, I, T, U, E, C⟩, X.heap.size, hy'.out, ⟨rt.lt, rr.lt⟩, Row.new X 46 [.int .i64 A, .int .i64 L, .int .i64 M, .int .i64 O, .int .i64 I, .int .i64 T, .int .i64 U, .int .i64 E, .bool C], ⟨hm.below (ent_new0 X _) hm.lt, rt.alloc _, rr.alloc _, rn.alloc _, hb.alloc hb.size _⟩, rfl⟩
  case body =>
    rintro l k hk' a' X ⟨hk, y, Bx, hy, ⟨hBx, hBr⟩, hRx, ⟨hm, rt, rr, rn, hb⟩, rfl⟩
    rw [hdr_len2 hk]
    have hne := map_row_ne hm hRx
    have hyy : Hid _ := hy
    clear hy
    obtain ⟨A, L, M, O, I, T, U, E, C⟩ := y
    unfold rtV rtA
    simp only [rtL] at hRx ⊢
    have x0 : X.cell? ⟨Bx, 0, none⟩ = some (.int .i64 A) := hRx.cell 0
    have x1 : X.cell? ⟨Bx, 1, none⟩ = some (.int .i64 L) := hRx.cell 1
    have x2 : X.cell? ⟨Bx, 2, none⟩ = some (.int .i64 M) := hRx.cell 2
    have x3 : X.cell? ⟨Bx, 3, none⟩ = some (.int .i64 O) := hRx.cell 3
    have x4 : X.cell? ⟨Bx, 4, none⟩ = some (.int .i64 I) := hRx.cell 4
    have x5 : X.cell? ⟨Bx, 5, none⟩ = some (.int .i64 T) := hRx.cell 5
    have x6 : X.cell? ⟨Bx, 6, none⟩ = some (.int .i64 U) := hRx.cell 6
    have x7 : X.cell? ⟨Bx, 7, none⟩ = some (.int .i64 E) := hRx.cell 7
    have x8 : X.cell? ⟨Bx, 8, none⟩ = some (.bool C) := hRx.cell 8
    have t0 : X.cell? ⟨b2, 0, none⟩ = some (.map (some B)) := rt.cell 0
    have t1 : X.cell? ⟨b2, 1, none⟩ = some (.func (.func 82) #[] #[]) := rt.cell 1
    have n0 : X.cell? ⟨w.heap.size + 1, 0, none⟩ = some (.int .i64 now) := rn.cell 0
    have HE0 : Hid _ := And.intro hm (And.intro rt (And.intro rr (And.intro rn (And.intro hb hRx))))
    clear hm rt rr rn hb hRx
    gi_wp2_with fail
    refine ⟨trivial, (CallsIn.inRound l (callsIn_wide.2 (HDu.out _ _))).mono ?_⟩
    rintro e X0 ⟨rfl, rfl⟩
    cases hE : dueB E now
    · gi_wp2_with fail
      refine ⟨trivial, (CallsIn.inRound l (callsIn_wide.2 (HDu.out _ _))).mono ?_⟩
      rintro e X0 ⟨rfl, rfl⟩
      cases hU : dueB U now
      · have hF : tickF now rs[k] = some rs[k] := by rw [← hyy.out]; simp [tickF, hE, hU]
        obtain ⟨hm, rt, rr, rn, hb, hRx⟩ := HE0.out
        rw [halfR_same hk hF] at hm
        have HZ : Hid _ := And.intro (keepsFrom_below (n := V.heap.size) (Below.refl X.heap.size X)) (And.intro (KpM.below (Below.refl X.heap.size X)) (And.intro hm (And.intro rt (And.intro rr (And.intro rn hb)))))
        clear hm rt rr rn hb hRx HE0 hF
        gi_wp2_with fail
        have hz := HZ.out
        rw [hsV] at hz
        exact hz
      · have hF : tickF now rs[k] = some (reachR ⟨A, L, M, O, I, T, U, E, C⟩ now) := by rw [← hyy.out]; simp [tickF, hE, hU]
        have hrn := reachR_net ⟨A, L, M, O, I, T, U, E, C⟩ now
        have HRk : Hid (∀ w, Calls Try.prog 63 #[.agg #[.int .i64 A, .int .i64 L, .int .i64 M, .int .i64 O, .int .i64 I, .int .i64 T, .int .i64 U, .int .i64 E, .bool C], .int .i64 now] w fun e w' => e = .returned (rtV (reachR ⟨A, L, M, O, I, T, U, E, C⟩ now)) ∧ Below w.heap.size w w') := HR.out ⟨A, L, M, O, I, T, U, E, C⟩
        have HPk : Hid (∀ w, MapIs w B (halfR (tickF now) rs k) → Calls Try.prog 62 #[.agg #[.map (some B), .func (.func 82) #[] #[]], .agg #[.int .i64 A, .int .i64 L], rtV (reachR ⟨A, L, M, O, I, T, U, E, C⟩ now)] w fun e w' => e = .returned (.tuple #[]) ∧ MapIs w' B (halfR (tickF now) rs (k + 1)) ∧ w.grownBy w' (some B)) := fun w h => by
          have := HP.out B _ (reachR ⟨A, L, M, O, I, T, U, E, C⟩ now) w h
          rw [halfR_put (tickF_net now) hris hk hF, hrn.1, hrn.2] at this
          exact this
        generalize reachR ⟨A, L, M, O, I, T, U, E, C⟩ now = RR at *
        obtain ⟨hm, rt, rr, rn, hb, hRx⟩ := HE0.out
        have HE : Hid _ := And.intro hm (And.intro rr hb)
        clear hm rr hb HE0 hF hrn x0 x1 x2 x3 x4 x5 x6 x7 x8 t0 t1 n0 HR HP HD HDu
        gi_wp2_with fail
        have hGN : (([(35, Is (.agg #[.map (some B), .func (.func 82) #[] #[]])), (36, Is (.pointer (some ⟨Bx, 0, none⟩))), (37, Is (.agg #[.int .i64 A, .int .i64 L])), (38, Is (.agg #[.int .i64 A, .int .i64 L, .int .i64 M, .int .i64 O, .int .i64 I, .int .i64 T, .int .i64 U, .int .i64 E, .bool C])), (39, Is (.int .i64 now)), (40, Is (rtV RR))] : List (Nat × (Value → World → Prop))).map (·.1)).Nodup := by simp
        refine wpIn_region_steady (by kernel_rfl) (fun ⟨_, _, h⟩ => nomatch h) 6 (SlotG [(35, Is (.agg #[.map (some B), .func (.func 82) #[] #[]])), (36, Is (.pointer (some ⟨Bx, 0, none⟩))), (37, Is (.agg #[.int .i64 A, .int .i64 L])), (38, Is (.agg #[.int .i64 A, .int .i64 L, .int .i64 M, .int .i64 O, .int .i64 I, .int .i64 T, .int .i64 U, .int .i64 E, .bool C])), (39, Is (.int .i64 now)), (40, Is (rtV RR))]) (by kernel_rfl) (by kernel_rfl) (Stabs.all ⟨stab_is _, stab_is _, stab_is _, stab_is _, stab_is _, stab_is _, trivial⟩) ?_ ?_
        · intro o ho
          simp only [List.take_succ_cons, List.take_zero, List.mem_cons, List.not_mem_nil, or_false] at ho
          rcases ho with rfl | rfl | rfl | rfl | rfl | rfl
          · intro a' w' hb ha hdep
            have d5 : a'.tmps.getD 5 undef = .pointer (some ⟨b2, 0, none⟩) := ha.at 5 (by kernel_rfl)
            have hmk := fun (x : Value) (W : World) => SlotG.mk (x := x) (w := W) 0 rfl hGN
            clear hGN ha hdep
            have y0 : w'.cell? ⟨b2, 0, none⟩ = some (.map (some B)) := (rt.below hb rt.lt).cell 0
            have y1 : w'.cell? ⟨b2, 1, none⟩ = some (.func (.func 82) #[] #[]) := (rt.below hb rt.lt).cell 1
            go_simp
            exact ⟨_, rfl, Below.refl _ _, hmk _ _ rfl⟩
          · intro a' w' hb ha hdep
            have d6 : a'.tmps.getD 6 undef = .pointer (some ⟨Bx, 0, none⟩) := ha.at 6 (by kernel_rfl)
            have hmk := fun (x : Value) (W : World) => SlotG.mk (x := x) (w := W) 1 rfl hGN
            clear hGN ha hdep
            go_simp
            exact ⟨_, rfl, Below.refl _ _, hmk _ _ rfl⟩
          · intro a' w' hb ha hdep
            have d36 : a'.tmps.getD 36 undef = .pointer (some ⟨Bx, 0, none⟩) := (hdep 36 (of_decide_eq_true (by kernel_rfl))).is 1 rfl
            have hmk := fun (x : Value) (W : World) => SlotG.mk (x := x) (w := W) 2 rfl hGN
            clear hGN ha hdep
            have y0 : w'.cell? ⟨Bx, 0, none⟩ = some (.int .i64 A) := (hRx.below hb hRx.lt).cell 0
            have y1 : w'.cell? ⟨Bx, 1, none⟩ = some (.int .i64 L) := (hRx.below hb hRx.lt).cell 1
            go_simp
            exact ⟨_, rfl, Below.refl _ _, hmk _ _ rfl⟩
          · intro a' w' hb ha hdep
            have d6 : a'.tmps.getD 6 undef = .pointer (some ⟨Bx, 0, none⟩) := ha.at 6 (by kernel_rfl)
            have hmk := fun (x : Value) (W : World) => SlotG.mk (x := x) (w := W) 3 rfl hGN
            clear hGN ha hdep
            have y0 : w'.cell? ⟨Bx, 0, none⟩ = some (.int .i64 A) := (hRx.below hb hRx.lt).cell 0
            have y1 : w'.cell? ⟨Bx, 1, none⟩ = some (.int .i64 L) := (hRx.below hb hRx.lt).cell 1
            have y2 : w'.cell? ⟨Bx, 2, none⟩ = some (.int .i64 M) := (hRx.below hb hRx.lt).cell 2
            have y3 : w'.cell? ⟨Bx, 3, none⟩ = some (.int .i64 O) := (hRx.below hb hRx.lt).cell 3
            have y4 : w'.cell? ⟨Bx, 4, none⟩ = some (.int .i64 I) := (hRx.below hb hRx.lt).cell 4
            have y5 : w'.cell? ⟨Bx, 5, none⟩ = some (.int .i64 T) := (hRx.below hb hRx.lt).cell 5
            have y6 : w'.cell? ⟨Bx, 6, none⟩ = some (.int .i64 U) := (hRx.below hb hRx.lt).cell 6
            have y7 : w'.cell? ⟨Bx, 7, none⟩ = some (.int .i64 E) := (hRx.below hb hRx.lt).cell 7
            have y8 : w'.cell? ⟨Bx, 8, none⟩ = some (.bool C) := (hRx.below hb hRx.lt).cell 8
            go_simp
            exact ⟨_, rfl, Below.refl _ _, hmk _ _ rfl⟩
          · intro a' w' hb ha hdep
            have d3 : a'.tmps.getD 3 undef = .pointer (some ⟨w.heap.size + 1, 0, none⟩) := ha.at 3 (by kernel_rfl)
            have hmk := fun (x : Value) (W : World) => SlotG.mk (x := x) (w := W) 4 rfl hGN
            clear hGN ha hdep
            have y0 : w'.cell? ⟨w.heap.size + 1, 0, none⟩ = some (.int .i64 now) := (rn.below hb rn.lt).cell 0
            go_simp
            exact ⟨_, rfl, Below.refl _ _, hmk _ _ rfl⟩
          · intro a' w' hb ha hdep
            have d38 : a'.tmps.getD 38 undef = .agg #[.int .i64 A, .int .i64 L, .int .i64 M, .int .i64 O, .int .i64 I, .int .i64 T, .int .i64 U, .int .i64 E, .bool C] := (hdep 38 (of_decide_eq_true (by kernel_rfl))).is 3 rfl
            have d39 : a'.tmps.getD 39 undef = .int .i64 now := (hdep 39 (of_decide_eq_true (by kernel_rfl))).is 4 rfl
            have hmk := fun (x : Value) (W : World) => SlotG.mk (x := x) (w := W) 5 rfl hGN
            clear hGN ha hdep
            go_simp
            refine (HRk.out _).mono ?_
            rintro e w2 ⟨rfl, hb2⟩
            exact ⟨_, rfl, hb2, hmk _ _ rfl⟩
        · intro a' w' hb ha hG
          clear hGN
          have d35 : a'.tmps.getD 35 undef = .agg #[.map (some B), .func (.func 82) #[] #[]] := (hG _ (List.mem_of_getElem? (i := 0) rfl) 35 rfl).is 0 rfl
          have d37 : a'.tmps.getD 37 undef = .agg #[.int .i64 A, .int .i64 L] := (hG _ (List.mem_of_getElem? (i := 2) rfl) 37 rfl).is 2 rfl
          have d40 : a'.tmps.getD 40 undef = rtV RR := (hG _ (List.mem_of_getElem? (i := 5) rfl) 40 rfl).is 5 rfl
          have e2 : a' = ⟨#[a'.tmps.getD 0 undef, a'.tmps.getD 1 undef, a'.tmps.getD 2 undef, a'.tmps.getD 3 undef, a'.tmps.getD 4 undef, a'.tmps.getD 5 undef, a'.tmps.getD 6 undef, a'.tmps.getD 7 undef, a'.tmps.getD 8 undef, a'.tmps.getD 9 undef, a'.tmps.getD 10 undef, a'.tmps.getD 11 undef, a'.tmps.getD 12 undef, a'.tmps.getD 13 undef, a'.tmps.getD 14 undef, a'.tmps.getD 15 undef, a'.tmps.getD 16 undef, a'.tmps.getD 17 undef, a'.tmps.getD 18 undef, a'.tmps.getD 19 undef, a'.tmps.getD 20 undef, a'.tmps.getD 21 undef, a'.tmps.getD 22 undef, a'.tmps.getD 23 undef, a'.tmps.getD 24 undef, a'.tmps.getD 25 undef, a'.tmps.getD 26 undef, a'.tmps.getD 27 undef, a'.tmps.getD 28 undef, a'.tmps.getD 29 undef, a'.tmps.getD 30 undef, a'.tmps.getD 31 undef, a'.tmps.getD 32 undef, a'.tmps.getD 33 undef, a'.tmps.getD 34 undef, a'.tmps.getD 35 undef, a'.tmps.getD 36 undef, a'.tmps.getD 37 undef, a'.tmps.getD 38 undef, a'.tmps.getD 39 undef, a'.tmps.getD 40 undef, a'.tmps.getD 41 undef, a'.tmps.getD 42 undef, a'.tmps.getD 43 undef, a'.tmps.getD 44 undef], []⟩ := by rw [← (show a'.defers = [] from ha.2.1)]; exact act_eq a' 45 ha.1
          rw [d35, d37, d40] at e2
          clear hG ha d35 d37 d40
          generalize a'.tmps.getD 0 undef = x0 at *
          generalize a'.tmps.getD 1 undef = x1 at *
          generalize a'.tmps.getD 2 undef = x2 at *
          generalize a'.tmps.getD 3 undef = x3 at *
          generalize a'.tmps.getD 4 undef = x4 at *
          generalize a'.tmps.getD 5 undef = x5 at *
          generalize a'.tmps.getD 6 undef = x6 at *
          generalize a'.tmps.getD 7 undef = x7 at *
          generalize a'.tmps.getD 8 undef = x8 at *
          generalize a'.tmps.getD 9 undef = x9 at *
          generalize a'.tmps.getD 10 undef = x10 at *
          generalize a'.tmps.getD 11 undef = x11 at *
          generalize a'.tmps.getD 12 undef = x12 at *
          generalize a'.tmps.getD 13 undef = x13 at *
          generalize a'.tmps.getD 14 undef = x14 at *
          generalize a'.tmps.getD 15 undef = x15 at *
          generalize a'.tmps.getD 16 undef = x16 at *
          generalize a'.tmps.getD 17 undef = x17 at *
          generalize a'.tmps.getD 18 undef = x18 at *
          generalize a'.tmps.getD 19 undef = x19 at *
          generalize a'.tmps.getD 20 undef = x20 at *
          generalize a'.tmps.getD 21 undef = x21 at *
          generalize a'.tmps.getD 22 undef = x22 at *
          generalize a'.tmps.getD 23 undef = x23 at *
          generalize a'.tmps.getD 24 undef = x24 at *
          generalize a'.tmps.getD 25 undef = x25 at *
          generalize a'.tmps.getD 26 undef = x26 at *
          generalize a'.tmps.getD 27 undef = x27 at *
          generalize a'.tmps.getD 28 undef = x28 at *
          generalize a'.tmps.getD 29 undef = x29 at *
          generalize a'.tmps.getD 30 undef = x30 at *
          generalize a'.tmps.getD 31 undef = x31 at *
          generalize a'.tmps.getD 32 undef = x32 at *
          generalize a'.tmps.getD 33 undef = x33 at *
          generalize a'.tmps.getD 34 undef = x34 at *
          generalize a'.tmps.getD 36 undef = x36 at *
          generalize a'.tmps.getD 38 undef = x38 at *
          generalize a'.tmps.getD 39 undef = x39 at *
          generalize a'.tmps.getD 41 undef = x41 at *
          generalize a'.tmps.getD 42 undef = x42 at *
          generalize a'.tmps.getD 43 undef = x43 at *
          generalize a'.tmps.getD 44 undef = x44 at *
          subst e2
          simp only [List.drop_succ_cons, List.drop_zero]
          obtain ⟨hm, rr, hbX⟩ := HE.out
          have hmm := hm.below hb hm.lt
          have hmw : ∃ es c, w'.heap[B]? = some (.map es c) := by obtain ⟨es, c, h, _⟩ := hmm; exact ⟨es, c, h⟩
          have rt := rt.below hb rt.lt
          have rn := rn.below hb rn.lt
          have rr := rr.below hb rr.lt
          have hbX := hbX.trans (hb.mono hbX.size)
          have hkf : KeepsFrom V.heap.size X w' := keepsFrom_below hb
          have hkp : KpM X w' := KpM.below hb
          clear hb HE hm hRx HRk
          go_wp2_with fail
          refine (HPk.out _ hmm).mono ?_
          rintro e X2 ⟨rfl, hm2, hg2⟩
          have HZ : Hid _ := And.intro (keepsFrom_trans hkf (keepsFrom_grown hg2 (by omega : B < V.heap.size))) (And.intro (hkp.t (KpM.grown hg2 hmw)) (And.intro hm2 (And.intro (grown_row hg2 rt (by omega)) (And.intro (grown_row hg2 rr (by omega)) (And.intro (grown_row hg2 rn (by omega)) (hbX.grown hg2 hbX.size (fun k e => by cases e; omega)))))))
          clear hmm hm2 hg2 hmw hkp hkf rt rr rn hbX
          go_wp2_with fail
          have hz := HZ.out
          rw [hsV] at hz
          exact hz
    · have hF : tickF now rs[k] = none := by rw [← hyy.out]; simp [tickF, hE]
      have hyn : rs[k].a = A ∧ rs[k].l = L := by rw [← hyy.out]; exact ⟨rfl, rfl⟩
      have HDk : Hid (∀ w, MapIs w B (halfR (tickF now) rs k) → Calls Try.prog 61 #[.agg #[.map (some B), .func (.func 82) #[] #[]], .agg #[.int .i64 A, .int .i64 L]] w fun e w' => e = .returned (.tuple #[]) ∧ MapIs w' B (halfR (tickF now) rs (k + 1)) ∧ w.grownBy w' (some B)) := fun w h => by
        have := HD.out B _ rs[k].a rs[k].l w h
        rw [halfR_drop (tickF_net now) hris hk hF, hyn.1, hyn.2] at this
        exact this
      clear hyn hF
      gi_wp2_with fail
      obtain ⟨hm, rt, rr, rn, hb, hRx⟩ := HE0.out
      refine ⟨trivial, (CallsIn.inRound l (callsIn_wide.2 (HDk.out _ hm))).mono ?_⟩
      rintro e X2 ⟨rfl, hm2, hg2⟩
      have hmm : ∃ es c, X.heap[B]? = some (.map es c) := by obtain ⟨es, c, h, _⟩ := hm; exact ⟨es, c, h⟩
      have HZ : Hid _ := And.intro (keepsFrom_grown hg2 (by omega : B < V.heap.size)) (And.intro (KpM.grown hg2 hmm) (And.intro hm2 (And.intro (grown_row hg2 rt (by omega)) (And.intro (grown_row hg2 rr (by omega)) (And.intro (grown_row hg2 rn (by omega)) (hb.grown hg2 hb.size (fun k e => by cases e; omega)))))))
      clear hm hm2 hg2 hmm rt rr rn hb hRx HE0 x0 x1 x2 x3 x4 x5 x6 x7 x8 t0 t1 n0
      gi_wp2_with fail
      have hz := HZ.out
      rw [hsV] at hz
      exact hz
  case done =>
    rintro X ⟨hm, rt, rr, rn, hb⟩ hK
    rw [halfR_end] at hm
    have t0 : X.cell? ⟨b2, 0, none⟩ = some (.map (some B)) := rt.cell 0
    have t1 : X.cell? ⟨b2, 1, none⟩ = some (.func (.func 82) #[] #[]) := rt.cell 1
    have HE : Hid _ := And.intro hm (And.intro rr (And.intro hb (And.intro hK hB.size)))
    clear hm rt rr rn hb hK rt' hM hB HP
    gi_wp2_with fail
    refine ⟨trivial, ?_⟩
    obtain ⟨hm, rr, hb, hK, hBs⟩ := HE.out
    refine (callsIn_wide.2 (HO.out B _ hm)).mono ?_
    rintro e X1 ⟨q, c, rfl, ho, hb1⟩
    have hsX := rr.lt
    have rr := rr.below hb1 rr.lt
    have hK : X1.heap[V.heap.size]? = _ := (hb1.block _ (Array.getElem?_eq_some_iff.1 hK).1).trans hK
    have hb := hb.trans (hb1.mono hb.size)
    clear t0 t1 HE HO hm
    have f0 : X1.frozen? ⟨w.heap.size + 1 + 1, 0, none⟩ = false := rr.frozen 0
    have z0 : X1.cell? ⟨w.heap.size + 1 + 1, 0, none⟩ = some (.slice none 0 0) := rr.cell 0
    have f1 : X1.frozen? ⟨w.heap.size + 1 + 1, 1, none⟩ = false := rr.frozen 1
    have z1 : X1.cell? ⟨w.heap.size + 1 + 1, 1, none⟩ = some (.int .i64 0) := rr.cell 1
    have HF : Hid _ := And.intro ((rr.set 0 (.slice q (rs.filterMap (tickF now)).length c)).set 1 (.int .i64 0)) (And.intro ((hb.setCell (p := ⟨w.heap.size + 1 + 1, 0, none⟩) (by show w.heap.size ≤ w.heap.size + 1 + 1; omega) (.slice q (rs.filterMap (tickF now)).length c)).setCell (p := ⟨w.heap.size + 1 + 1, 1, none⟩) (by show w.heap.size ≤ w.heap.size + 1 + 1; omega) (.int .i64 0)) (And.intro (((Below.heap_setCell _ _ _ _ (by show V.heap.size ≠ w.heap.size + 1 + 1; omega)).trans ((Below.heap_setCell _ _ _ _ (by show V.heap.size ≠ w.heap.size + 1 + 1; omega)).trans hK)) : ((X1.setCell ⟨w.heap.size + 1 + 1, 0, none⟩ (.slice q (rs.filterMap (tickF now)).length c)).setCell ⟨w.heap.size + 1 + 1, 1, none⟩ (.int .i64 0)).heap[V.heap.size]? = some (.deferred (some []))) (ownR_set (base' := w.heap.size) (ownR_set (base' := X.heap.size) ho ⟨w.heap.size + 1 + 1, 0, none⟩ (by show w.heap.size + 1 + 1 < _; omega) (.slice q (rs.filterMap (tickF now)).length c) (Nat.le_refl _)) ⟨w.heap.size + 1 + 1, 1, none⟩ (by show w.heap.size + 1 + 1 < _; omega) (.int .i64 0) (by omega))))
    clear rr hb hK ho hb1
    gi_wp2_with fail
    have hF := HF.out
    clear HF f0 z0 f1 z1
    generalize (X1.setCell ⟨w.heap.size + 1 + 1, 0, none⟩ (.slice q (rs.filterMap (tickF now)).length c)).setCell ⟨w.heap.size + 1 + 1, 1, none⟩ (.int .i64 0) = Z at *
    obtain ⟨h1, h2, h3, h7⟩ := hF
    rw [hsV] at h3
    refine ⟨by simp, .inl ⟨_, _, rfl, run_takeDeferred h3, ?_⟩⟩
    have h4 : Below w.heap.size Z (Z.putObj (b2 + 1 + 1) (.deferred none)) := belowK_b (w := w) (Nat.le_refl _) Z (b2 + 1 + 1) _ _ (by omega) h3 rfl rfl
    have h5 : Row (Z.putObj (b2 + 1 + 1) (.deferred none)) (w.heap.size + 1 + 1) 32 [.slice q (rs.filterMap (tickF now)).length c, .int .i64 0] := (World.putObj_heap_other (by omega)).trans h1
    have h6 := h2.trans h4
    have h8 : (Z.putObj (b2 + 1 + 1) (.deferred none)).ownsRow w.heap.size 46 9 (.slice q (rs.filterMap (tickF now)).length c) (rs.filterMap (tickF now)).length (rowR (rs.filterMap (tickF now))) := World.ownsRow.kept h7 (row := some (b2 + 1 + 1)) (grownBy_putObj' Z (b2 + 1 + 1) (.deferred none)) (by
      rcases h7.2 with ⟨e, _⟩ | ⟨g, _, _, e, _, hg, _⟩
      · left; rw [e]; rfl
      · right
        rw [e]
        intro e'
        have e'' : g = (b2 + 1 + 1) := by simpa [Value.ownBlock] using e'
        rw [e'', h3] at hg
        cases hg)
    clear h1 h2 h3 h4 h7
    generalize Z.putObj (b2 + 1 + 1) (.deferred none) = Y at *
    have e0 : Y.cell? ⟨w.heap.size + 1 + 1, 0, none⟩ = some (.slice q (rs.filterMap (tickF now)).length c) := h5.cell 0
    have e1 : Y.cell? ⟨w.heap.size + 1 + 1, 1, none⟩ = some (.int .i64 0) := h5.cell 1
    refine ⟨.agg #[.slice q (rs.filterMap (tickF now)).length c, .int .i64 0], by simp [results, Try.results23, go_sem, e0, e1], ?_⟩
    exact ⟨⟨q, c, rfl, h8⟩, h6⟩
end Go.Proofs.Ytaledidomgelcaa
/- RibTick of the model and of the program, at every argument. (Written by gen_tickt.py.) -/
namespace Go.Proofs.Ytaledidomgelcaa
open Go.RowKit Go.Sort

set_option maxRecDepth 100000 in
set_option maxHeartbeats 2000000 in
theorem specTick_any (p : Option Addr) (cap : Nat) (rs : List Rt) (now : Int) (w : World) (h : RtsIn w p rs) (hn : rs.length ≤ 100000000) :
    Calls Try.prog 22 #[ribV p rs.length cap, .int .i64 now] w fun e w' => OutR w.heap.size (tickO rs now).1 (tickO rs now).2 e w' ∧ Below w.heap.size w w' := by
  have HB : Hid (∀ w, RtsIn w p rs → Calls Try.prog 36 #[.agg #[.slice p rs.length cap]] w fun e w' => e = .returned (.bool (ribB rs)) ∧ Below w.heap.size w w') := fun w h => specRib_any p cap rs w h hn
  have HI : Hid (∀ w, Calls Try.prog 49 #[.int .i64 now] w fun e w' => e = .returned (.bool (inNow now)) ∧ w = w') := l06Now_any now
  have HIl : Hid (∀ c w, Calls Try.prog 39 #[.int .i64 c] w fun e w' => e = .returned (.agg #[.slice none 0 0, .int .i64 c]) ∧ Below w.heap.size w w') := l06Ill_any
  have HT : Hid (inNow now = true → ∀ w, RtsIn w p rs → Calls Try.prog 58 #[.agg #[.slice p rs.length cap], .int .i64 now] w fun e w' => ∃ q c, e = .returned (.agg #[.slice q (rs.filterMap (tickD now)).length c]) ∧ w'.ownsRow w.heap.size 46 9 (.slice q (rs.filterMap (tickD now)).length c) (rs.filterMap (tickD now)).length (rowR (rs.filterMap (tickD now))) ∧ Below w.heap.size w w') := fun hw w h => by
    simp only [inNow, Bool.and_eq_true, decide_eq_true_eq] at hw
    exact l06Tick_any p cap rs now w h hn hw.1 hw.2
  have hl : ribB rs = true → rs.filterMap (tickF now) = rs.filterMap (tickD now) := fun h => (tick_lists h).symm
  have HX : Hid (RtsIn w p rs) := h
  clear h hn
  unfold tickO
  cases h1 : ribB rs
  · rw [h1] at HB
    simp only [Bool.false_and, Bool.false_eq_true, if_false]
    clear HT h1 hl HI
    generalize rs.length = N at *
    obtain ⟨W, hW, q0, qr, hB, hS⟩ := rows2 w [.slice p N cap] [.slice none 0 0, .int .i64 0] 30 32
    have HW : Hid _ := hW
    have HQ : Hid _ := And.intro q0 (And.intro qr hB)
    have x0 : W.cell? ⟨w.heap.size, 0, none⟩ = some (.slice p N cap) := q0.cell 0
    clear q0 qr hB
    unfold ribV
    go_enter Try.func22, Try.ntmps22
    rw [hW] at x0
    clear hW
    go_wp2_with fail
    rw [← HW.out]
    obtain ⟨q0, qr, hB⟩ := HQ.out
    clear x0
    refine (HB.out _ ((HX.out).below hB)).mono ?_
    rintro e w1 ⟨rfl, hb1⟩
    have q0 := q0.below hb1 (by omega)
    have qr := qr.below hb1 (by omega)
    have hB := hB.trans (hb1.mono (by omega))
    have hs1 := hb1.size
    clear HB HW HQ hb1
    go_wp2_with fail
    refine (HIl.out 1 _).mono ?_
    rintro e w2 ⟨rfl, hb2⟩
    have qr := qr.below hb2 (by omega)
    have hB := hB.trans (hb2.mono (by omega))
    clear HIl
    clear q0
    have f0 : w2.frozen? ⟨w.heap.size + 1, 0, none⟩ = false := qr.frozen 0
    have f1 : w2.frozen? ⟨w.heap.size + 1, 1, none⟩ = false := qr.frozen 1
    have z0 : w2.cell? ⟨w.heap.size + 1, 0, none⟩ = some (.slice none 0 0) := qr.cell 0
    have z1 : w2.cell? ⟨w.heap.size + 1, 1, none⟩ = some (.int .i64 0) := qr.cell 1
    have HE2 : Hid _ := And.intro ((qr.set 0 (.slice none 0 0)).set 1 (.int .i64 1)) (And.intro ((hB.setCell (p := ⟨w.heap.size + 1, 0, none⟩) (by show w.heap.size ≤ w.heap.size + 1; omega) (.slice none 0 0)).setCell (p := ⟨w.heap.size + 1, 1, none⟩) (by show w.heap.size ≤ w.heap.size + 1; omega) (.int .i64 1)) trivial)
    clear qr hB hb2
    go_wp2_with fail
    obtain ⟨h1, h2, h3⟩ := HE2.out
    clear HE2 f0 f1 z0 z1
    generalize (w2.setCell ⟨w.heap.size + 1, 0, none⟩ (.slice none 0 0)).setCell ⟨w.heap.size + 1, 1, none⟩ (.int .i64 1) = Z at *
    have e0 : Z.cell? ⟨w.heap.size + 1, 0, none⟩ = some (.slice none 0 0) := h1.cell 0
    have e1 : Z.cell? ⟨w.heap.size + 1, 1, none⟩ = some (.int .i64 1) := h1.cell 1
    exact bodyPost_ret (v := .agg #[.slice none 0 0, .int .i64 1]) (by simp [results, Try.results22, go_sem, e0, e1]) rfl ⟨⟨_, _, rfl, World.ownsRow_nil _ _ _ 9⟩, h2⟩
  · rw [h1] at HB
    rw [hl h1]
    cases h2 : inNow now
    · rw [h2] at HI
      simp only [Bool.true_and, Bool.false_eq_true, if_false]
      clear HT h1 h2 hl
      generalize rs.length = N at *
      obtain ⟨W, hW, q0, qr, hB, hS⟩ := rows2 w [.slice p N cap] [.slice none 0 0, .int .i64 0] 30 32
      have HW : Hid _ := hW
      have HQ : Hid _ := And.intro q0 (And.intro qr hB)
      have x0 : W.cell? ⟨w.heap.size, 0, none⟩ = some (.slice p N cap) := q0.cell 0
      clear q0 qr hB
      unfold ribV
      go_enter Try.func22, Try.ntmps22
      rw [hW] at x0
      clear hW
      go_wp2_with fail
      rw [← HW.out]
      obtain ⟨q0, qr, hB⟩ := HQ.out
      clear x0
      refine (HB.out _ ((HX.out).below hB)).mono ?_
      rintro e w1 ⟨rfl, hb1⟩
      have q0 := q0.below hb1 (by omega)
      have qr := qr.below hb1 (by omega)
      have hB := hB.trans (hb1.mono (by omega))
      have hs1 := hb1.size
      clear HB HW HQ hb1
      go_wp2_with fail
      refine (HI.out _).mono ?_
      rintro e w1' ⟨rfl, rfl⟩
      clear HI
      go_wp2_with fail
      refine (HIl.out 1 _).mono ?_
      rintro e w2 ⟨rfl, hb2⟩
      have qr := qr.below hb2 (by omega)
      have hB := hB.trans (hb2.mono (by omega))
      clear HIl
      clear q0
      have f0 : w2.frozen? ⟨w.heap.size + 1, 0, none⟩ = false := qr.frozen 0
      have f1 : w2.frozen? ⟨w.heap.size + 1, 1, none⟩ = false := qr.frozen 1
      have z0 : w2.cell? ⟨w.heap.size + 1, 0, none⟩ = some (.slice none 0 0) := qr.cell 0
      have z1 : w2.cell? ⟨w.heap.size + 1, 1, none⟩ = some (.int .i64 0) := qr.cell 1
      have HE2 : Hid _ := And.intro ((qr.set 0 (.slice none 0 0)).set 1 (.int .i64 1)) (And.intro ((hB.setCell (p := ⟨w.heap.size + 1, 0, none⟩) (by show w.heap.size ≤ w.heap.size + 1; omega) (.slice none 0 0)).setCell (p := ⟨w.heap.size + 1, 1, none⟩) (by show w.heap.size ≤ w.heap.size + 1; omega) (.int .i64 1)) trivial)
      clear qr hB hb2
      go_wp2_with fail
      obtain ⟨h1, h2, h3⟩ := HE2.out
      clear HE2 f0 f1 z0 z1
      generalize (w2.setCell ⟨w.heap.size + 1, 0, none⟩ (.slice none 0 0)).setCell ⟨w.heap.size + 1, 1, none⟩ (.int .i64 1) = Z at *
      have e0 : Z.cell? ⟨w.heap.size + 1, 0, none⟩ = some (.slice none 0 0) := h1.cell 0
      have e1 : Z.cell? ⟨w.heap.size + 1, 1, none⟩ = some (.int .i64 1) := h1.cell 1
      exact bodyPost_ret (v := .agg #[.slice none 0 0, .int .i64 1]) (by simp [results, Try.results22, go_sem, e0, e1]) rfl ⟨⟨_, _, rfl, World.ownsRow_nil _ _ _ 9⟩, h2⟩
    · rw [h2] at HI
      have HT : Hid _ := HT.out h2
      simp only [Bool.true_and, if_true]
      clear h1 h2 hl HIl
      generalize rs.filterMap (tickD now) = QS at *
      generalize rs.length = N at *
      obtain ⟨W, hW, q0, qr, hB, hS⟩ := rows2 w [.slice p N cap] [.slice none 0 0, .int .i64 0] 30 32
      have HW : Hid _ := hW
      have HQ : Hid _ := And.intro q0 (And.intro qr hB)
      have x0 : W.cell? ⟨w.heap.size, 0, none⟩ = some (.slice p N cap) := q0.cell 0
      clear q0 qr hB
      unfold ribV
      go_enter Try.func22, Try.ntmps22
      rw [hW] at x0
      clear hW
      go_wp2_with fail
      rw [← HW.out]
      obtain ⟨q0, qr, hB⟩ := HQ.out
      clear x0
      refine (HB.out _ ((HX.out).below hB)).mono ?_
      rintro e w1 ⟨rfl, hb1⟩
      have q0 := q0.below hb1 (by omega)
      have qr := qr.below hb1 (by omega)
      have hB := hB.trans (hb1.mono (by omega))
      have hs1 := hb1.size
      clear HB HW HQ hb1
      go_wp2_with fail
      refine (HI.out _).mono ?_
      rintro e w1' ⟨rfl, rfl⟩
      clear HI
      have x0 : w1.cell? ⟨w.heap.size, 0, none⟩ = some (.slice p N cap) := q0.cell 0
      go_wp2_with fail
      refine (HT.out _ ((HX.out).below hB)).mono ?_
      rintro e w2 ⟨q, c, rfl, ho, hb2⟩
      have qr := qr.below hb2 (by omega)
      have hB := hB.trans (hb2.mono (by omega))
      clear HT q0 x0
      have f0 : w2.frozen? ⟨w.heap.size + 1, 0, none⟩ = false := qr.frozen 0
      have f1 : w2.frozen? ⟨w.heap.size + 1, 1, none⟩ = false := qr.frozen 1
      have z0 : w2.cell? ⟨w.heap.size + 1, 0, none⟩ = some (.slice none 0 0) := qr.cell 0
      have z1 : w2.cell? ⟨w.heap.size + 1, 1, none⟩ = some (.int .i64 0) := qr.cell 1
      have HE2 : Hid _ := And.intro ((qr.set 0 (.slice q QS.length c)).set 1 (.int .i64 0)) (And.intro ((hB.setCell (p := ⟨w.heap.size + 1, 0, none⟩) (by show w.heap.size ≤ w.heap.size + 1; omega) (.slice q QS.length c)).setCell (p := ⟨w.heap.size + 1, 1, none⟩) (by show w.heap.size ≤ w.heap.size + 1; omega) (.int .i64 0)) (ownR_set (base' := w.heap.size) (ownR_set (base' := w.heap.size + 1 + 1) ho ⟨w.heap.size + 1, 0, none⟩ (by show w.heap.size + 1 < _; omega) (.slice q QS.length c) (by omega)) ⟨w.heap.size + 1, 1, none⟩ (by show w.heap.size + 1 < _; omega) (.int .i64 0) (by omega)))
      clear qr hB ho hb2
      go_wp2_with fail
      obtain ⟨h1, h2, h3⟩ := HE2.out
      clear HE2 f0 f1 z0 z1
      generalize (w2.setCell ⟨w.heap.size + 1, 0, none⟩ (.slice q QS.length c)).setCell ⟨w.heap.size + 1, 1, none⟩ (.int .i64 0) = Z at *
      have e0 : Z.cell? ⟨w.heap.size + 1, 0, none⟩ = some (.slice q QS.length c) := h1.cell 0
      have e1 : Z.cell? ⟨w.heap.size + 1, 1, none⟩ = some (.int .i64 0) := h1.cell 1
      exact bodyPost_ret (v := .agg #[.slice q QS.length c, .int .i64 0]) (by simp [results, Try.results22, go_sem, e0, e1]) rfl ⟨⟨_, _, rfl, h3⟩, h2⟩
set_option maxRecDepth 100000 in
set_option maxHeartbeats 2000000 in
theorem implTick_any (p : Option Addr) (cap : Nat) (rs : List Rt) (now : Int) (w : World) (h : RtsIn w p rs) (hn : rs.length ≤ 100000000) :
    Calls Try.prog 23 #[ribV p rs.length cap, .int .i64 now] w fun e w' => OutR w.heap.size (tickO rs now).1 (tickO rs now).2 e w' ∧ Below w.heap.size w w' := by
  unfold tickO
  cases h1 : ribB rs
  · have HB : Hid (∀ w, RtsIn w p rs → Calls Try.prog 42 #[.agg #[.slice p rs.length cap]] w fun e w' => e = .returned (.bool false) ∧ Below w.heap.size w w') := fun w h => by have := implRib_any p cap rs w h hn; rw [h1] at this; exact this
    have HX : Hid (RtsIn w p rs) := h
    simp only [Bool.false_and, Bool.false_eq_true, if_false]
    clear h hn h1
    generalize rs.length = N at *
    obtain ⟨W, hW, q0, q1, qr, hB, hS, -⟩ := rows3 w [.slice p N cap] [.int .i64 now] [.slice none 0 0, .int .i64 0] 30 2 32
    have HW : Hid _ := hW
    have HQ : Hid _ := And.intro q0 (And.intro q1 (And.intro qr hB))
    have x0 : W.cell? ⟨w.heap.size, 0, none⟩ = some (.slice p N cap) := q0.cell 0
    clear q0 q1 qr hB
    unfold ribV
    go_enter Try.func23, Try.ntmps23
    rw [hW] at x0
    clear hW
    go_wp2_with fail
    rw [← HW.out]
    obtain ⟨q0, q1, qr, hB⟩ := HQ.out
    clear x0
    refine (HB.out _ ((HX.out).below hB)).mono ?_
    rintro e w1 ⟨rfl, hb1⟩
    have q1 := q1.below hb1 (by omega)
    have qr := qr.below hb1 (by omega)
    have hB := hB.trans (hb1.mono (by omega))
    have hs1 := hb1.size
    have n0 : w1.cell? ⟨w.heap.size + 1, 0, none⟩ = some (.int .i64 now) := q1.cell 0
    clear HB HW HQ hb1 q0 q1
    clear n0
    have f0 : w1.frozen? ⟨w.heap.size + 1 + 1, 0, none⟩ = false := qr.frozen 0
    have f1 : w1.frozen? ⟨w.heap.size + 1 + 1, 1, none⟩ = false := qr.frozen 1
    have z0 : w1.cell? ⟨w.heap.size + 1 + 1, 0, none⟩ = some (.slice none 0 0) := qr.cell 0
    have z1 : w1.cell? ⟨w.heap.size + 1 + 1, 1, none⟩ = some (.int .i64 0) := qr.cell 1
    have HE2 : Hid _ := And.intro ((qr.set 0 (.slice none 0 0)).set 1 (.int .i64 1)) (And.intro ((hB.setCell (p := ⟨w.heap.size + 1 + 1, 0, none⟩) (by show w.heap.size ≤ w.heap.size + 1 + 1; omega) (.slice none 0 0)).setCell (p := ⟨w.heap.size + 1 + 1, 1, none⟩) (by show w.heap.size ≤ w.heap.size + 1 + 1; omega) (.int .i64 1)) trivial)
    clear qr hB 
    go_wp2_with fail
    obtain ⟨h1, h2, h3⟩ := HE2.out
    clear HE2 f0 f1 z0 z1
    generalize (w1.setCell ⟨w.heap.size + 1 + 1, 0, none⟩ (.slice none 0 0)).setCell ⟨w.heap.size + 1 + 1, 1, none⟩ (.int .i64 1) = Z at *
    have e0 : Z.cell? ⟨w.heap.size + 1 + 1, 0, none⟩ = some (.slice none 0 0) := h1.cell 0
    have e1 : Z.cell? ⟨w.heap.size + 1 + 1, 1, none⟩ = some (.int .i64 1) := h1.cell 1
    exact bodyPost_ret (v := .agg #[.slice none 0 0, .int .i64 1]) (by simp [results, Try.results23, go_sem, e0, e1]) rfl ⟨⟨_, _, rfl, World.ownsRow_nil _ _ _ 9⟩, h2⟩
  · cases h2 : inNow now
    · have HB : Hid (∀ w, RtsIn w p rs → Calls Try.prog 42 #[.agg #[.slice p rs.length cap]] w fun e w' => e = .returned (.bool true) ∧ Below w.heap.size w w') := fun w h => by have := implRib_any p cap rs w h hn; rw [h1] at this; exact this
      have HI : Hid (∀ w, Calls Try.prog 53 #[.int .i64 now] w fun e w' => e = .returned (.bool false) ∧ w = w') := fun w => by have := isNow_any now w; rw [h2] at this; exact this
      have HX : Hid (RtsIn w p rs) := h
      simp only [Bool.true_and, Bool.false_eq_true, if_false]
      clear h hn h1 h2
      generalize rs.length = N at *
      obtain ⟨W, hW, q0, q1, qr, hB, hS, -⟩ := rows3 w [.slice p N cap] [.int .i64 now] [.slice none 0 0, .int .i64 0] 30 2 32
      have HW : Hid _ := hW
      have HQ : Hid _ := And.intro q0 (And.intro q1 (And.intro qr hB))
      have x0 : W.cell? ⟨w.heap.size, 0, none⟩ = some (.slice p N cap) := q0.cell 0
      clear q0 q1 qr hB
      unfold ribV
      go_enter Try.func23, Try.ntmps23
      rw [hW] at x0
      clear hW
      go_wp2_with fail
      rw [← HW.out]
      obtain ⟨q0, q1, qr, hB⟩ := HQ.out
      clear x0
      refine (HB.out _ ((HX.out).below hB)).mono ?_
      rintro e w1 ⟨rfl, hb1⟩
      have q1 := q1.below hb1 (by omega)
      have qr := qr.below hb1 (by omega)
      have hB := hB.trans (hb1.mono (by omega))
      have hs1 := hb1.size
      have n0 : w1.cell? ⟨w.heap.size + 1, 0, none⟩ = some (.int .i64 now) := q1.cell 0
      clear HB HW HQ hb1 q0 q1
      go_wp2_with fail
      refine (HI.out _).mono ?_
      rintro e w1' ⟨rfl, rfl⟩
      clear n0 HI
      have f0 : w1.frozen? ⟨w.heap.size + 1 + 1, 0, none⟩ = false := qr.frozen 0
      have f1 : w1.frozen? ⟨w.heap.size + 1 + 1, 1, none⟩ = false := qr.frozen 1
      have z0 : w1.cell? ⟨w.heap.size + 1 + 1, 0, none⟩ = some (.slice none 0 0) := qr.cell 0
      have z1 : w1.cell? ⟨w.heap.size + 1 + 1, 1, none⟩ = some (.int .i64 0) := qr.cell 1
      have HE2 : Hid _ := And.intro ((qr.set 0 (.slice none 0 0)).set 1 (.int .i64 1)) (And.intro ((hB.setCell (p := ⟨w.heap.size + 1 + 1, 0, none⟩) (by show w.heap.size ≤ w.heap.size + 1 + 1; omega) (.slice none 0 0)).setCell (p := ⟨w.heap.size + 1 + 1, 1, none⟩) (by show w.heap.size ≤ w.heap.size + 1 + 1; omega) (.int .i64 1)) trivial)
      clear qr hB 
      go_wp2_with fail
      obtain ⟨h1, h2, h3⟩ := HE2.out
      clear HE2 f0 f1 z0 z1
      generalize (w1.setCell ⟨w.heap.size + 1 + 1, 0, none⟩ (.slice none 0 0)).setCell ⟨w.heap.size + 1 + 1, 1, none⟩ (.int .i64 1) = Z at *
      have e0 : Z.cell? ⟨w.heap.size + 1 + 1, 0, none⟩ = some (.slice none 0 0) := h1.cell 0
      have e1 : Z.cell? ⟨w.heap.size + 1 + 1, 1, none⟩ = some (.int .i64 1) := h1.cell 1
      exact bodyPost_ret (v := .agg #[.slice none 0 0, .int .i64 1]) (by simp [results, Try.results23, go_sem, e0, e1]) rfl ⟨⟨_, _, rfl, World.ownsRow_nil _ _ _ 9⟩, h2⟩
    · simp only [Bool.true_and, if_true]
      have hw := h2
      simp only [inNow, Bool.and_eq_true, decide_eq_true_eq] at hw
      exact implTick_right p cap rs now w h h1 hw.1 hw.2 h2 (tick_ribs h1 h2)
end Go.Proofs.Ytaledidomgelcaa
/- The laws' own look: a net is as itself. -/
namespace Go.Proofs.Ytaledidomgelcaa
open Go.RowKit Go.Sort

set_option maxRecDepth 100000 in
theorem eqNet_same (a l : Int) (w : World) : Calls Try.prog 104 #[netV a l, netV a l] w fun e w' => e = .returned (.bool true) ∧ Below w.heap.size w w' := by
  have h1 : (a != a) = false := by simp
  have h2 : (l != l) = false := by simp
  unfold netV
  go_enter Try.func104, Try.ntmps104
  go_wp2
  go_ret
  exact ⟨rfl, ((Below.refl _ _).alloc (Nat.le_refl _) _).alloc (by simp) _⟩
end Go.Proofs.Ytaledidomgelcaa
/- The laws' own look: routes, lists of them and tables are as themselves. (Written by gen_rts.py.) -/
namespace Go.Proofs.Ytaledidomgelcaa
open Go.RowKit Go.Sort

/-- Two boxes of nine cells, one behind the other: what they hold behind a later call. -/
theorem boxes9 {w w1 : World} {xs ys : List Value} {t u : TypeId} (h : Below ((w.alloc (.cells xs.toArray t)).alloc (.cells ys.toArray u)).heap.size ((w.alloc (.cells xs.toArray t)).alloc (.cells ys.toArray u)) w1) :
    (∀ k v, xs[k]? = some v → w1.cell? ⟨w.heap.size, k, none⟩ = some v) ∧ (∀ k v, ys[k]? = some v → w1.cell? ⟨w.heap.size + 1, k, none⟩ = some v) ∧ Below w.heap.size w w1 := by
  have q0 := (Row.new w t xs).alloc (.cells ys.toArray u)
  have q1 := Row.new (w.alloc (.cells xs.toArray t)) u ys
  have p0 := q0.below h q0.lt
  have p1 := q1.below h q1.lt
  have e1 : (w.alloc (.cells xs.toArray t)).heap.size = w.heap.size + 1 := by simp
  rw [e1] at p1
  exact ⟨fun k v hv => (p0.cell k).trans hv, fun k v hv => (p1.cell k).trans hv, ((ent_new0 w _).alloc (by simp) _).trans (h.mono (by simp; omega))⟩
set_option maxRecDepth 100000 in
theorem eqRoute_same (e : Rt) (w : World) : Calls Try.prog 83 #[rtV e, rtV e] w fun r w' => r = .returned (.bool true) ∧ Below w.heap.size w w' := by
  obtain ⟨a, l, m, n, i, t, u, b, c⟩ := e
  unfold rtV rtA
  have HN : Hid (∀ w, Calls Try.prog 104 #[.agg #[.int .i64 a, .int .i64 l], .agg #[.int .i64 a, .int .i64 l]] w fun e w' => e = .returned (.bool true) ∧ Below w.heap.size w w') := eqNet_same a l
  have em : (m != m) = false := by simp
  have en : (n != n) = false := by simp
  have ei : (i != i) = false := by simp
  have et : (t != t) = false := by simp
  have eu : (u != u) = false := by simp
  have eb : (b != b) = false := by simp
  have ec : (c != c) = false := by simp
  go_enter Try.func83, Try.ntmps83
  go_wp2_with fail
  refine (HN.out _).mono ?_
  rintro e w1 ⟨rfl, hb1⟩
  obtain ⟨k0, k1, hB⟩ := boxes9 (xs := [.int .i64 a, .int .i64 l, .int .i64 m, .int .i64 n, .int .i64 i, .int .i64 t, .int .i64 u, .int .i64 b, .bool c]) (ys := [.int .i64 a, .int .i64 l, .int .i64 m, .int .i64 n, .int .i64 i, .int .i64 t, .int .i64 u, .int .i64 b, .bool c]) hb1
  have c2 := k0 2 _ rfl
  have d2 := k1 2 _ rfl
  have c3 := k0 3 _ rfl
  have d3 := k1 3 _ rfl
  have c4 := k0 4 _ rfl
  have d4 := k1 4 _ rfl
  have c5 := k0 5 _ rfl
  have d5 := k1 5 _ rfl
  have c6 := k0 6 _ rfl
  have d6 := k1 6 _ rfl
  have c7 := k0 7 _ rfl
  have d7 := k1 7 _ rfl
  have c8 := k0 8 _ rfl
  have d8 := k1 8 _ rfl
  clear k0 k1 hb1 HN
  go_wp2
  go_ret
  exact ⟨rfl, hB⟩
set_option maxRecDepth 100000 in
theorem eqRouteS_any (p q : Option Addr) (c d : Nat) (es : List Rt) (w : World) (hp : RtsIn w p es) (hq : RtsIn w q es) (hn : es.length ≤ 100000000) : Calls Try.prog 47 #[.slice p es.length c, .slice q es.length d] w fun r w' => r = .returned (.bool true) ∧ Below w.heap.size w w' := by
  have HE : Hid (∀ e w, Calls Try.prog 83 #[rtV e, rtV e] w fun r w' => r = .returned (.bool true) ∧ Below w.heap.size w w') := eqRoute_same
  have HX : Hid (RtsIn w p es ∧ RtsIn w q es) := ⟨hp, hq⟩
  have h0 : ((es.length : Int) != (es.length : Int)) = false := by simp
  clear hp hq
  go_enter Try.func47, Try.ntmps47
  go_wp2_with fail
  go_loopw [5] (fun i wr => ∃ k : Nat, k ≤ es.length ∧ i = .int .i64 k ∧ Below w.heap.size w wr) (fun i _ => es.length - (intOf i).toNat)
  case atStart => exact ⟨0, Nat.zero_le _, rfl, Below.refl _ _⟩
  case round =>
    obtain ⟨k, hk, rfl, hb⟩ := hrel
    by_cases hlt : k < es.length
    · obtain ⟨g, a, l, m, n, ii, t, u, b, cc, rfl, hg, hek, c0, c1, c2, c3, c4, c5, c6, c7, c8⟩ := (HX.out.1.below hb).at k hlt
      obtain ⟨g', a', l', m', n', ii', t', u', b', cc', rfl, hg', hek', d0, d1, d2, d3, d4, d5, d6, d7, d8⟩ := (HX.out.2.below hb).at k hlt
      rw [hek] at hek'
      simp only [Rt.mk.injEq] at hek'
      obtain ⟨rfl, rfl, rfl, rfl, rfl, rfl, rfl, rfl, rfl⟩ := hek'
      have HEk : Hid (∀ w, Calls Try.prog 83 #[.agg #[.int .i64 a, .int .i64 l, .int .i64 m, .int .i64 n, .int .i64 ii, .int .i64 t, .int .i64 u, .int .i64 b, .bool cc], .agg #[.int .i64 a, .int .i64 l, .int .i64 m, .int .i64 n, .int .i64 ii, .int .i64 t, .int .i64 u, .int .i64 b, .bool cc]] w fun r w' => r = .returned (.bool true) ∧ Below w.heap.size w w') := HE.out ⟨a, l, m, n, ii, t, u, b, cc⟩
      clear HE hek HX
      replace c0 := cell_regrown c0
      replace d0 := cell_regrown d0
      replace c1 := cell_regrown c1
      replace d1 := cell_regrown d1
      replace c2 := cell_regrown c2
      replace d2 := cell_regrown d2
      replace c3 := cell_regrown c3
      replace d3 := cell_regrown d3
      replace c4 := cell_regrown c4
      replace d4 := cell_regrown d4
      replace c5 := cell_regrown c5
      replace d5 := cell_regrown d5
      replace c6 := cell_regrown c6
      replace d6 := cell_regrown d6
      replace c7 := cell_regrown c7
      replace d7 := cell_regrown d7
      replace c8 := cell_regrown c8
      replace d8 := cell_regrown d8
      go_wp2_with fail
      refine wp_region_quiet_below (by kernel_rfl) (by kernel_rfl) ?_
      repeat (go_big_quiet_step ((go_at_call 83; exact Calls.regrown_of (HEk.out _))))
      refine wpQuiet_nil ?_
      intro w1 hw'
      obtain ⟨⟨dq, osq⟩, hw''⟩ := hw'
      have hbq := below_regrown wr dq osq
      rw [← hw''] at hbq
      clear hw'' osq dq c0 c1 c2 c3 c4 c5 c6 c7 c8 d0 d1 d2 d3 d4 d5 d6 d7 d8 HEk
      have hb2 := hb.trans (hbq.mono hb.size)
      clear hbq
      go_wp2
      go_roundw
      case rel => exact ⟨k + 1, hlt, by go_num, hb2⟩
      case measure => simp [intOf]; omega
    · obtain rfl : k = es.length := by omega
      clear hlt hk
      go_wp2
      go_ret
      exact ⟨rfl, hb⟩
set_option maxRecDepth 100000 in
theorem eqRib_any (p q : Option Addr) (c d : Nat) (es : List Rt) (w : World) (hp : RtsIn w p es) (hq : RtsIn w q es) (hn : es.length ≤ 100000000) : Calls Try.prog 15 #[ribV p es.length c, ribV q es.length d] w fun r w' => r = .returned (.bool true) ∧ Below w.heap.size w w' := by
  have HE : Hid (∀ w, RtsIn w p es → RtsIn w q es → Calls Try.prog 47 #[.slice p es.length c, .slice q es.length d] w fun r w' => r = .returned (.bool true) ∧ Below w.heap.size w w') := fun w h1 h2 => eqRouteS_any p q c d es w h1 h2 hn
  have HX : Hid (RtsIn w p es ∧ RtsIn w q es) := ⟨hp, hq⟩
  unfold ribV
  clear hp hq
  go_enter Try.func15, Try.ntmps15
  go_wp2_with fail
  refine (HE.out _ ((HX.out.1.alloc _).alloc _) ((HX.out.2.alloc _).alloc _)).mono ?_
  rintro e w1 ⟨rfl, hb1⟩
  have hB : Below w.heap.size w w1 := ((ent_new0 w _).alloc (by simp) _).trans (hb1.mono (by simp; omega))
  clear hb1 HE HX
  go_wp2
  go_ret
  exact ⟨rfl, hB⟩
end Go.Proofs.Ytaledidomgelcaa
/- The laws' own marks in a list of routes: written, and looked for. (Written by gen_markr.py.) -/
namespace Go.Proofs.Ytaledidomgelcaa
open Go.RowKit Go.Sort

def m3 (x : Int) : Bool := x.tmod 3 == 0
def markR (K i : Nat) : Rt := ⟨(K : Int) + 9 * (i : Int) + 0, (K : Int) + 9 * (i : Int) + 1, (K : Int) + 9 * (i : Int) + 2, (K : Int) + 9 * (i : Int) + 3, (K : Int) + 9 * (i : Int) + 4, (K : Int) + 9 * (i : Int) + 5, (K : Int) + 9 * (i : Int) + 6, (K : Int) + 9 * (i : Int) + 7, m3 ((K : Int) + 9 * (i : Int) + 8)⟩
def marksR (K n : Nat) : List Rt := (List.range n).map (markR K)
theorem marksR_length (K n : Nat) : (marksR K n).length = n := by simp [marksR]
theorem ownsR_opened {w : World} {base : Nat} {p : Option Addr} {cv : Nat} {es : List Rt} (h : w.ownsRow base 46 9 (.slice p es.length cv) es.length (rowR es)) : es = [] ∨ ∃ g rest, p = some ⟨g, 0, none⟩ ∧ base ≤ g ∧ es.length ≤ cv ∧ cv ≤ maxLen ∧ Row w g 46 (rowR es ++ rest) ∧ (rowR es ++ rest).length = cv * 9 := by
  rcases h.2 with ⟨h1, h2⟩ | ⟨g, cap, cur, h1, h2, h3, h4, h5, h6, h7⟩
  · exact .inl (List.length_eq_zero_iff.1 h2)
  · simp only [Value.slice.injEq] at h1
    obtain ⟨rfl, _, rfl⟩ := h1
    refine .inr ⟨g, cur.toList.drop (es.length * 9), rfl, h2, h4, h5, ?_, ?_⟩
    · unfold Row
      rw [← h7, List.take_append_drop]
      exact h3
    · rw [← h7, List.take_append_drop]; simpa using h6
theorem ownsR_shut {w : World} {base g n cv : Nat} {es : List Rt} {rest : List Value} (hn : n = es.length) (hb : base ≤ g) (h4 : n ≤ cv) (h5 : cv ≤ maxLen) (hr : Row w g 46 (rowR es ++ rest)) (hl : (rowR es ++ rest).length = cv * 9) : w.ownsRow base 46 9 (.slice (some ⟨g, 0, none⟩) n cv) n (rowR es) := by
  subst hn
  exact ⟨by rw [rowR_length]; omega, .inr ⟨g, cv, _, rfl, hb, hr, h4, h5, by simpa using hl, by
    have : (rowR es).length = es.length * 9 := by rw [rowR_length]; omega
    simp only
    rw [← this]; simp⟩⟩
theorem marksR_set (K : Nat) (es : List Rt) (rest : List Value) (k : Nat) (hk : k < es.length) :
    (((((((((rowR (marksR K k ++ es.drop k) ++ rest).set (k * 9) (.int .i64 ((K : Int) + 9 * (k : Int) + 0))).set (k * 9 + 1) (.int .i64 ((K : Int) + 9 * (k : Int) + 1))).set (k * 9 + 2) (.int .i64 ((K : Int) + 9 * (k : Int) + 2))).set (k * 9 + 3) (.int .i64 ((K : Int) + 9 * (k : Int) + 3))).set (k * 9 + 4) (.int .i64 ((K : Int) + 9 * (k : Int) + 4))).set (k * 9 + 5) (.int .i64 ((K : Int) + 9 * (k : Int) + 5))).set (k * 9 + 6) (.int .i64 ((K : Int) + 9 * (k : Int) + 6))).set (k * 9 + 7) (.int .i64 ((K : Int) + 9 * (k : Int) + 7))).set (k * 9 + 8) (.bool (m3 ((K : Int) + 9 * (k : Int) + 8))) = rowR (marksR K (k + 1) ++ es.drop (k + 1)) ++ rest := by
  have e1 : marksR K (k + 1) = marksR K k ++ [markR K k] := by simp [marksR, List.range_succ]
  rw [List.drop_eq_getElem_cons hk, e1, rowR_append, rowR_cons, List.append_assoc (marksR K k), rowR_append, List.singleton_append, rowR_cons, List.append_assoc, List.append_assoc, List.append_assoc, List.append_assoc]
  exact set9 _ _ k (by rw [rowR_length, marksR_length]; omega) _ _ _ _ _ _ _ _ _ _ _ _ _ _ _ _ _ _
theorem rtsIn_rest {w : World} {g : Nat} {t : TypeId} {es : List Rt} {rest : List Value} (h : Row w g t (rowR es ++ rest)) : RtsIn w (some ⟨g, 0, none⟩) es := .inr ⟨g, rfl, h.lt, fun j u hj => by rw [h.cell, List.getElem?_append_left (List.getElem?_eq_some_iff.1 hj).1]; exact hj⟩
set_option maxRecDepth 100000 in
set_option maxHeartbeats 2000000 in
theorem markRouteS_in (K g n cv : Nat) (es : List Rt) (rest : List Value) (w : World) (hn : n = es.length) (hK : K ≤ 100000000) (h8 : n ≤ 100000000) (hr : Row w g 46 (rowR es ++ rest)) :
    Calls Try.prog 48 #[.slice (some ⟨g, 0, none⟩) n cv, .int .i64 K] w fun e w' => e = .returned (.int .i64 ((K : Int) + 9 * (n : Int))) ∧ Row w' g 46 (rowR (marksR K n) ++ rest) ∧ Below g w w' ∧ ∀ b t l, b ≠ g → Row w b t l → Row w' b t l := by
  have HN : Hid (n = es.length) := hn
  have hr0 : Row w g 46 (rowR (marksR K 0 ++ es.drop 0) ++ rest) := hr
  clear hn hr
  go_enter Try.func48, Try.ntmps48
  go_wp2_with fail
  go_loopw [5, 1] (fun i m wr => ∃ k : Nat, k ≤ n ∧ i = .int .i64 k ∧ m = .int .i64 ((K : Int) + 9 * (k : Int)) ∧ Row wr g 46 (rowR (marksR K k ++ es.drop k) ++ rest) ∧ Below g w wr ∧ ∀ b t l, b ≠ g → Row w b t l → Row wr b t l) (fun i _ _ => n - (intOf i).toNat)
  case atStart => exact ⟨0, Nat.zero_le _, rfl, by go_num, hr0, Below.refl _ _, fun _ _ _ _ h => h⟩
  case round =>
    obtain ⟨k, hk, rfl, rfl, hr, hb, hoth⟩ := hrel
    have HOT : Hid (∀ b t l, b ≠ g → Row w b t l → Row wr b t l) := hoth
    clear hr0 hoth
    by_cases hlt : k < n
    · have hlen : (marksR K k ++ es.drop k).length = n := by rw [List.length_append, marksR_length, List.length_drop, ← HN.out]; omega
      have hlr : k * 9 + 8 < (rowR (marksR K k ++ es.drop k) ++ rest).length := by rw [List.length_append, rowR_length, hlen]; omega
      obtain ⟨z0, c0⟩ := Row.someR hr (k * 9) (by omega)
      obtain ⟨z1, c1⟩ := Row.someR hr (k * 9 + 1) (by omega)
      obtain ⟨z2, c2⟩ := Row.someR hr (k * 9 + 2) (by omega)
      obtain ⟨z3, c3⟩ := Row.someR hr (k * 9 + 3) (by omega)
      obtain ⟨z4, c4⟩ := Row.someR hr (k * 9 + 4) (by omega)
      obtain ⟨z5, c5⟩ := Row.someR hr (k * 9 + 5) (by omega)
      obtain ⟨z6, c6⟩ := Row.someR hr (k * 9 + 6) (by omega)
      obtain ⟨z7, c7⟩ := Row.someR hr (k * 9 + 7) (by omega)
      obtain ⟨z8, c8⟩ := Row.someR hr (k * 9 + 8) (by omega)
      have f0 := hr.frozen (k * 9)
      have f1 := hr.frozen (k * 9 + 1)
      have f2 := hr.frozen (k * 9 + 2)
      have f3 := hr.frozen (k * 9 + 3)
      have f4 := hr.frozen (k * 9 + 4)
      have f5 := hr.frozen (k * 9 + 5)
      have f6 := hr.frozen (k * 9 + 6)
      have f7 := hr.frozen (k * 9 + 7)
      have f8 := hr.frozen (k * 9 + 8)
      have hr2 := nine_row hr (k * 9) (.int .i64 ((K : Int) + 9 * (k : Int) + 0)) (.int .i64 ((K : Int) + 9 * (k : Int) + 1)) (.int .i64 ((K : Int) + 9 * (k : Int) + 2)) (.int .i64 ((K : Int) + 9 * (k : Int) + 3)) (.int .i64 ((K : Int) + 9 * (k : Int) + 4)) (.int .i64 ((K : Int) + 9 * (k : Int) + 5)) (.int .i64 ((K : Int) + 9 * (k : Int) + 6)) (.int .i64 ((K : Int) + 9 * (k : Int) + 7)) (.bool (m3 ((K : Int) + 9 * (k : Int) + 8)))
      rw [marksR_set K es rest k (by rw [← HN.out]; exact hlt)] at hr2
      have hB2 := nine_below hb g (k * 9) (Nat.le_refl _) (.int .i64 ((K : Int) + 9 * (k : Int) + 0)) (.int .i64 ((K : Int) + 9 * (k : Int) + 1)) (.int .i64 ((K : Int) + 9 * (k : Int) + 2)) (.int .i64 ((K : Int) + 9 * (k : Int) + 3)) (.int .i64 ((K : Int) + 9 * (k : Int) + 4)) (.int .i64 ((K : Int) + 9 * (k : Int) + 5)) (.int .i64 ((K : Int) + 9 * (k : Int) + 6)) (.int .i64 ((K : Int) + 9 * (k : Int) + 7)) (.bool (m3 ((K : Int) + 9 * (k : Int) + 8)))
      have hO2 := fun b t l (hne : b ≠ g) (h : Row w b t l) => nine_other (HOT.out b t l hne h) hne (k * 9) (.int .i64 ((K : Int) + 9 * (k : Int) + 0)) (.int .i64 ((K : Int) + 9 * (k : Int) + 1)) (.int .i64 ((K : Int) + 9 * (k : Int) + 2)) (.int .i64 ((K : Int) + 9 * (k : Int) + 3)) (.int .i64 ((K : Int) + 9 * (k : Int) + 4)) (.int .i64 ((K : Int) + 9 * (k : Int) + 5)) (.int .i64 ((K : Int) + 9 * (k : Int) + 6)) (.int .i64 ((K : Int) + 9 * (k : Int) + 7)) (.bool (m3 ((K : Int) + 9 * (k : Int) + 8)))
      unfold nine at hr2 hB2 hO2
      have HH : Hid _ := And.intro hr2 (And.intro hB2 hO2)
      clear hr hb hr2 hB2 hlen hlr hO2 HOT
      go_wp2_with fail
      have E : ∀ x : Int, x = (K : Int) + 9 * (k : Int) → x + 1 = x + 1 := fun _ _ => rfl
      clear E
      rw [show (K : Int) + 9 * (k : Int) + 1 + 1 + 1 + 1 + 1 + 1 + 1 + 1 + 1 = (K : Int) + 9 * ((k + 1 : Nat) : Int) by omega, show (K : Int) + 9 * (k : Int) + 1 + 1 + 1 + 1 + 1 + 1 + 1 + 1 = (K : Int) + 9 * (k : Int) + 8 by omega, show (K : Int) + 9 * (k : Int) + 1 + 1 + 1 + 1 + 1 + 1 + 1 = (K : Int) + 9 * (k : Int) + 7 by omega, show (K : Int) + 9 * (k : Int) + 1 + 1 + 1 + 1 + 1 + 1 = (K : Int) + 9 * (k : Int) + 6 by omega, show (K : Int) + 9 * (k : Int) + 1 + 1 + 1 + 1 + 1 = (K : Int) + 9 * (k : Int) + 5 by omega, show (K : Int) + 9 * (k : Int) + 1 + 1 + 1 + 1 = (K : Int) + 9 * (k : Int) + 4 by omega, show (K : Int) + 9 * (k : Int) + 1 + 1 + 1 = (K : Int) + 9 * (k : Int) + 3 by omega, show (K : Int) + 9 * (k : Int) + 1 + 1 = (K : Int) + 9 * (k : Int) + 2 by omega]
      refine ⟨⟨k + 1, hlt, by go_num, rfl, HH.out.1, HH.out.2.1, HH.out.2.2⟩, ?_⟩
      simp [intOf]
      omega
    · obtain rfl : k = n := by omega
      have hre : marksR K k ++ es.drop k = marksR K k := by rw [HN.out, List.drop_length, List.append_nil]
      rw [hre] at hr
      clear hlt hk hre
      go_wp2
      go_ret
      exact ⟨rfl, hr, hb, HOT.out⟩
set_option maxRecDepth 100000 in
set_option maxHeartbeats 2000000 in
theorem heldRouteS_in (K : Nat) (p : Option Addr) (n cv : Nat) (w : World) (hK : K ≤ 100000000) (h8 : n ≤ 100000000) (hE : RtsIn w p (marksR K n)) :
    Calls Try.prog 65 #[.slice p n cv, .int .i64 K] w fun e w' => e = .returned (.int .i64 ((K : Int) + 9 * (n : Int))) ∧ w = w' := by
  have HX : Hid (RtsIn w p (marksR K n)) := hE
  clear hE
  go_enter Try.func65, Try.ntmps65
  go_wp2_with fail
  go_loop [5, 1] (fun i m => ∃ k : Nat, k ≤ n ∧ i = .int .i64 k ∧ m = .int .i64 ((K : Int) + 9 * (k : Int))) (fun i _ => n - (intOf i).toNat)
  case atStart => exact ⟨0, Nat.zero_le _, rfl, by go_num⟩
  case round =>
    obtain ⟨k, hk, rfl, rfl⟩ := hrel
    by_cases hlt : k < n
    · obtain ⟨g, y0, y1, y2, y3, y4, y5, y6, y7, y8, rfl, hg, hek, c0, c1, c2, c3, c4, c5, c6, c7, c8⟩ := HX.out.at k (by rw [marksR_length]; exact hlt)
      have hmk : (marksR K n)[k]'(by rw [marksR_length]; exact hlt) = markR K k := by simp [marksR]
      rw [hmk] at hek
      simp only [markR, Rt.mk.injEq] at hek
      obtain ⟨rfl, rfl, rfl, rfl, rfl, rfl, rfl, rfl, rfl⟩ := hek
      rw [Int.add_zero] at c0
      rw [show (K : Int) + 9 * (k : Int) + 1 = (K : Int) + 9 * (k : Int) + 1 by omega] at c1
      rw [show (K : Int) + 9 * (k : Int) + 2 = (K : Int) + 9 * (k : Int) + 1 + 1 by omega] at c2
      rw [show (K : Int) + 9 * (k : Int) + 3 = (K : Int) + 9 * (k : Int) + 1 + 1 + 1 by omega] at c3
      rw [show (K : Int) + 9 * (k : Int) + 4 = (K : Int) + 9 * (k : Int) + 1 + 1 + 1 + 1 by omega] at c4
      rw [show (K : Int) + 9 * (k : Int) + 5 = (K : Int) + 9 * (k : Int) + 1 + 1 + 1 + 1 + 1 by omega] at c5
      rw [show (K : Int) + 9 * (k : Int) + 6 = (K : Int) + 9 * (k : Int) + 1 + 1 + 1 + 1 + 1 + 1 by omega] at c6
      rw [show (K : Int) + 9 * (k : Int) + 7 = (K : Int) + 9 * (k : Int) + 1 + 1 + 1 + 1 + 1 + 1 + 1 by omega] at c7
      rw [show (K : Int) + 9 * (k : Int) + 8 = (K : Int) + 9 * (k : Int) + 1 + 1 + 1 + 1 + 1 + 1 + 1 + 1 by omega] at c8
      clear hmk
      unfold m3 at c8
      have hx : ((((K : Int) + 9 * (k : Int) + 1 + 1 + 1 + 1 + 1 + 1 + 1 + 1).tmod 3 == 0) != (((K : Int) + 9 * (k : Int) + 1 + 1 + 1 + 1 + 1 + 1 + 1 + 1).tmod 3 == 0)) = false := by simp
      go_wp2_with fail
      refine ⟨⟨k + 1, hlt, by go_num, by go_num⟩, ?_⟩
      simp [intOf]
      omega
    · obtain rfl : k = n := by omega
      clear hlt hk
      go_wp2
      go_ret
      exact ⟨rfl, rfl⟩
end Go.Proofs.Ytaledidomgelcaa
/- The laws' own looks at tables that are handed back: alike, marked, held. (Written by gen_markr.py.) -/
namespace Go.Proofs.Ytaledidomgelcaa
open Go.RowKit Go.Sort

theorem ownsR_in {w : World} {base : Nat} {p : Option Addr} {n cv : Nat} {es : List Rt} (hn : n = es.length) (h : w.ownsRow base 46 9 (.slice p n cv) n (rowR es)) : RtsIn w p es := by
  subst hn
  rcases ownsR_opened h with h0 | ⟨g, rest, rfl, -, -, -, hr, -⟩
  · exact .inl h0
  · exact rtsIn_rest hr
theorem ownsR_row {w : World} {g n : Nat} {es : List Rt} (hn : n = es.length) (h8 : n ≤ 100000000) (h : Row w g 46 (rowR es)) : w.ownsRow g 46 9 (.slice (some ⟨g, 0, none⟩) n n) n (rowR es) := ownsR_shut (rest := []) hn (Nat.le_refl _) (Nat.le_refl _) (by unfold maxLen; omega) (by rw [List.append_nil]; exact h) (by rw [List.append_nil, rowR_length, hn]; omega)
theorem ownsR_kept {w w' : World} {base : Nat} {p : Option Addr} {n cv : Nat} {es : List Rt} (hn : n = es.length) (h : w.ownsRow base 46 9 (.slice p n cv) n (rowR es)) (hk : ∀ b t l, p = some ⟨b, 0, none⟩ → Row w b t l → Row w' b t l) : w'.ownsRow base 46 9 (.slice p n cv) n (rowR es) := by
  subst hn
  rcases ownsR_opened h with h0 | ⟨g, rest, rfl, h1, h2, h3, hr, hl⟩
  · subst h0
    rcases h.2 with ⟨e1, e2⟩ | ⟨g, cap, cur, e1, e2, e3, e4, e5, e6, e7⟩
    · exact ⟨rfl, .inl ⟨e1, e2⟩⟩
    · simp only [Value.slice.injEq] at e1
      obtain ⟨rfl, -, rfl⟩ := e1
      have := hk g 46 cur.toList rfl (by unfold Row; simpa using e3)
      exact ⟨rfl, .inr ⟨g, _, cur, rfl, e2, by unfold Row at this; simpa using this, e4, e5, e6, e7⟩⟩
  · exact ownsR_shut rfl h1 h2 h3 (hk _ _ _ rfl hr) hl
theorem ownsR_below {w w' : World} {base n : Nat} {v : Value} {xs : List Value} (h : w.ownsRow base 46 9 v n xs) (hb : Below w.heap.size w w') : w'.ownsRow base 46 9 v n xs :=
  World.ownsRow.kept h (row := none) ⟨hb.os, hb.tape, hb.output, hb.size, fun k hk _ => hb.block k hk⟩ (by cases v.ownBlock <;> simp)
theorem ownsR_mono {w : World} {base base' n : Nat} {v : Value} {xs : List Value} (h : w.ownsRow base 46 9 v n xs) (hb : base' ≤ base) : w.ownsRow base' 46 9 v n xs := by
  rcases h.2 with ⟨h1, h2⟩ | ⟨g, cap, cur, h1, h2, h3, h4, h5, h6, h7⟩
  · exact ⟨h.1, .inl ⟨h1, h2⟩⟩
  · exact ⟨h.1, .inr ⟨g, cap, cur, h1, by omega, h3, h4, h5, h6, h7⟩⟩
theorem ownsR_ne {w : World} {base n cv g : Nat} {p : Option Addr} {xs l : List Value} {t : TypeId} (h : w.ownsRow base 46 9 (.slice p n cv) n xs) (hr : Row w g t l) (ht : t ≠ 46) : p ≠ some ⟨g, 0, none⟩ := by
  rintro rfl
  rcases h.2 with ⟨h1, _⟩ | ⟨g', cap, cur, h1, _, h3, _⟩
  · simp at h1
  · simp only [Value.slice.injEq, Option.some.injEq, Addr.mk.injEq, and_true] at h1
    obtain ⟨rfl, _⟩ := h1
    unfold Row at hr
    rw [h3] at hr
    simp only [Option.some.injEq, Obj.cells.injEq] at hr
    exact ht hr.2.1.symm
theorem ownsR_base {w : World} {base n cv g : Nat} {p : Option Addr} {xs : List Value} (h : w.ownsRow base 46 9 (.slice p n cv) n xs) (hg : g < base) : p ≠ some ⟨g, 0, none⟩ := by
  rintro rfl
  have := (World.ownsRow.lt h g rfl).1
  omega
theorem ownsR_size {w : World} {base n cv g : Nat} {p : Option Addr} {xs : List Value} (h : w.ownsRow base 46 9 (.slice p n cv) n xs) (hg : w.heap.size ≤ g) : p ≠ some ⟨g, 0, none⟩ := by
  rintro rfl
  have := (World.ownsRow.lt h g rfl).2
  omega
theorem row_ne {w : World} {g k : Nat} {l m : List Value} {t u : TypeId} (h : Row w g t l) (hk : Row w k u m) (ht : t ≠ u) : g ≠ k := by
  rintro rfl
  unfold Row at h hk
  rw [h] at hk
  simp only [Option.some.injEq, Obj.cells.injEq] at hk
  exact ht hk.2.1
set_option maxRecDepth 100000 in
theorem markRouteS_0 (K : Nat) (p : Option Addr) (cv : Nat) (w : World) : Calls Try.prog 48 #[.slice p 0 cv, .int .i64 K] w fun e w' => e = .returned (.int .i64 K) ∧ w = w' := by
  go_enter Try.func48, Try.ntmps48
  go_wp2_with fail
  go_loop [5, 1] (fun i k => i = .int .i64 0 ∧ k = .int .i64 K) (fun _ _ => 0)
  case atStart => exact ⟨rfl, rfl⟩
  case round =>
    obtain ⟨rfl, rfl⟩ := hrel
    go_wp2
    go_ret
    exact ⟨rfl, rfl⟩
set_option maxHeartbeats 1000000 in
theorem markRouteS_any (K : Nat) (p : Option Addr) (n cv base : Nat) (es : List Rt) (w : World) (hn : n = es.length) (hK : K ≤ 100000000) (h8 : n ≤ 100000000) (h : w.ownsRow base 46 9 (.slice p n cv) n (rowR es)) :
    Calls Try.prog 48 #[.slice p n cv, .int .i64 K] w fun e w' => e = .returned (.int .i64 ((K : Int) + 9 * (n : Int))) ∧ w'.ownsRow base 46 9 (.slice p n cv) n (rowR (marksR K n)) ∧ Below base w w' ∧ ∀ b t l, p ≠ some ⟨b, 0, none⟩ → Row w b t l → Row w' b t l := by
  subst hn
  rcases ownsR_opened h with h0 | ⟨g, rest, rfl, hb, h1, h2, hr, hl⟩
  · subst h0
    exact (markRouteS_0 K p cv w).mono fun e w' ⟨he, hw⟩ => ⟨by rw [he]; simp, hw ▸ h, hw ▸ Below.refl _ _, fun _ _ _ _ h => hw ▸ h⟩
  · refine (markRouteS_in K g _ cv es rest w rfl hK h8 hr).mono fun e w' ⟨he, hr', hb', ho'⟩ => ⟨he, ownsR_shut (marksR_length K _).symm hb h1 h2 hr' ?_, hb'.mono hb, fun b t l hp h => ho' b t l (fun e => hp (by rw [e])) h⟩
    rw [List.length_append, rowR_length, marksR_length]
    rw [List.length_append, rowR_length] at hl
    exact hl
set_option maxRecDepth 100000 in
set_option maxHeartbeats 1000000 in
theorem markRib_any (K : Nat) (p : Option Addr) (n cv base : Nat) (es : List Rt) (w : World) (hn : n = es.length) (hK : K ≤ 100000000) (h8 : n ≤ 100000000) (h : w.ownsRow base 46 9 (.slice p n cv) n (rowR es)) (hbs : base ≤ w.heap.size) :
    Calls Try.prog 16 #[.agg #[.slice p n cv], .int .i64 K] w fun e w' => e = .returned (.int .i64 ((K : Int) + 9 * (n : Int))) ∧ w'.ownsRow base 46 9 (.slice p n cv) n (rowR (marksR K n)) ∧ Below base w w' ∧ ∀ b t l, p ≠ some ⟨b, 0, none⟩ → Row w b t l → Row w' b t l := by
  have HM : Hid (Calls Try.prog 48 #[.slice p n cv, .int .i64 K] (w.alloc (.cells #[.slice p n cv] 30)) fun e w' => e = .returned (.int .i64 ((K : Int) + 9 * (n : Int))) ∧ w'.ownsRow base 46 9 (.slice p n cv) n (rowR (marksR K n)) ∧ Below base (w.alloc (.cells #[.slice p n cv] 30)) w' ∧ ∀ b t l, p ≠ some ⟨b, 0, none⟩ → Row (w.alloc (.cells #[.slice p n cv] 30)) b t l → Row w' b t l) := markRouteS_any K p n cv base es _ hn hK h8 (World.ownsRow.alloc h _)
  clear h hn hK h8
  go_enter Try.func16, Try.ntmps16
  go_wp2_with fail
  refine (HM.out).mono ?_
  rintro e w1 ⟨rfl, ho, hb, hot⟩
  have hB : Below base w w1 := ((Below.refl base w).alloc hbs _).trans hb
  have HOT : Hid (∀ b t l, p ≠ some ⟨b, 0, none⟩ → Row w b t l → Row w1 b t l) := fun b t l hp h => hot b t l hp (h.alloc _)
  clear hb hot
  go_wp2
  go_ret
  exact ⟨rfl, ho, hB, HOT.out⟩
set_option maxRecDepth 100000 in
set_option maxHeartbeats 1000000 in
theorem heldRib_any (K : Nat) (p : Option Addr) (n cv : Nat) (w : World) (hK : K ≤ 100000000) (h8 : n ≤ 100000000) (h : RtsIn w p (marksR K n)) :
    Calls Try.prog 26 #[.agg #[.slice p n cv], .int .i64 K] w fun e w' => e = .returned (.int .i64 ((K : Int) + 9 * (n : Int))) ∧ Below w.heap.size w w' := by
  have HM : Hid (Calls Try.prog 65 #[.slice p n cv, .int .i64 K] (w.alloc (.cells #[.slice p n cv] 30)) fun e w' => e = .returned (.int .i64 ((K : Int) + 9 * (n : Int))) ∧ (w.alloc (.cells #[.slice p n cv] 30)) = w') := heldRouteS_in K p n cv _ hK h8 (h.alloc _)
  have d : decide ((K : Int) + 9 * (n : Int) < 0) = false := by simp; omega
  clear h hK h8
  go_enter Try.func26, Try.ntmps26
  go_wp2_with fail
  refine (HM.out).mono ?_
  rintro e w1 ⟨rfl, hb⟩
  have hB : Below w.heap.size w w1 := by rw [← hb]; exact ent_new0 w _
  clear hb
  go_wp2
  go_ret
  exact ⟨rfl, hB⟩
end Go.Proofs.Ytaledidomgelcaa
/- The laws' own looks at a RibOut. (Written by gen_markr.py.) -/
namespace Go.Proofs.Ytaledidomgelcaa
open Go.RowKit Go.Sort

set_option maxRecDepth 100000 in
set_option maxHeartbeats 1000000 in
theorem markRibOut_any (K : Nat) (c : Int) (p : Option Addr) (n cv base : Nat) (es : List Rt) (w : World) (hn : n = es.length) (hK : K ≤ 100000000) (h8 : n ≤ 100000000) (h : w.ownsRow base 46 9 (.slice p n cv) n (rowR es)) (hbs : base ≤ w.heap.size) :
    Calls Try.prog 17 #[.agg #[.slice p n cv, .int .i64 c], .int .i64 K] w fun e w' => e = .returned (.int .i64 ((K : Int) + 9 * (n : Int))) ∧ w'.ownsRow base 46 9 (.slice p n cv) n (rowR (marksR K n)) ∧ Below base w w' ∧ ∀ b t l, p ≠ some ⟨b, 0, none⟩ → Row w b t l → Row w' b t l := by
  have HM : Hid (Calls Try.prog 16 #[.agg #[.slice p n cv], .int .i64 K] (w.alloc (.cells #[.slice p n cv, .int .i64 c] 32)) fun e w' => e = .returned (.int .i64 ((K : Int) + 9 * (n : Int))) ∧ w'.ownsRow base 46 9 (.slice p n cv) n (rowR (marksR K n)) ∧ Below base (w.alloc (.cells #[.slice p n cv, .int .i64 c] 32)) w' ∧ ∀ b t l, p ≠ some ⟨b, 0, none⟩ → Row (w.alloc (.cells #[.slice p n cv, .int .i64 c] 32)) b t l → Row w' b t l) := markRib_any K p n cv base es _ hn hK h8 (World.ownsRow.alloc h _) (by simp; omega)
  clear h hn hK h8
  go_enter Try.func17, Try.ntmps17
  go_wp2_with fail
  refine (HM.out).mono ?_
  rintro e w1 ⟨rfl, ho, hb, hot⟩
  have hB : Below base w w1 := ((Below.refl base w).alloc hbs _).trans hb
  have HOT : Hid (∀ b t l, p ≠ some ⟨b, 0, none⟩ → Row w b t l → Row w1 b t l) := fun b t l hp h => hot b t l hp (h.alloc _)
  clear hb hot
  go_wp2
  go_ret
  exact ⟨rfl, ho, hB, HOT.out⟩
set_option maxRecDepth 100000 in
set_option maxHeartbeats 1000000 in
theorem heldRibOut_any (K : Nat) (c : Int) (p : Option Addr) (n cv : Nat) (w : World) (hK : K ≤ 100000000) (h8 : n ≤ 100000000) (h : RtsIn w p (marksR K n)) :
    Calls Try.prog 18 #[.agg #[.slice p n cv, .int .i64 c], .int .i64 K] w fun e w' => e = .returned (.int .i64 ((K : Int) + 9 * (n : Int))) ∧ Below w.heap.size w w' := by
  have HM : Hid (Calls Try.prog 26 #[.agg #[.slice p n cv], .int .i64 K] (w.alloc (.cells #[.slice p n cv, .int .i64 c] 32)) fun e w' => e = .returned (.int .i64 ((K : Int) + 9 * (n : Int))) ∧ Below (w.alloc (.cells #[.slice p n cv, .int .i64 c] 32)).heap.size (w.alloc (.cells #[.slice p n cv, .int .i64 c] 32)) w') := heldRib_any K p n cv _ hK h8 (h.alloc _)
  have d : decide ((K : Int) + 9 * (n : Int) < 0) = false := by simp; omega
  clear h hK h8
  go_enter Try.func18, Try.ntmps18
  go_wp2_with fail
  refine (HM.out).mono ?_
  rintro e w1 ⟨rfl, hb⟩
  have hB : Below w.heap.size w w1 := (ent_new0 w _).trans (hb.mono (by simp))
  clear hb
  go_wp2
  go_ret
  exact ⟨rfl, hB⟩
set_option maxRecDepth 100000 in
set_option maxHeartbeats 1000000 in
theorem eqRibOut_any (c : Int) (p p' : Option Addr) (n cv cv' : Nat) (es : List Rt) (w : World) (hn : n = es.length) (h8 : n ≤ 100000000) (h : RtsIn w p es) (h' : RtsIn w p' es) :
    Calls Try.prog 14 #[.agg #[.slice p n cv, .int .i64 c], .agg #[.slice p' n cv', .int .i64 c]] w fun e w' => e = .returned (.bool true) ∧ Below w.heap.size w w' := by
  have HE : Hid (∀ w, RtsIn w p es → RtsIn w p' es → Calls Try.prog 15 #[.agg #[.slice p n cv], .agg #[.slice p' n cv']] w fun r w' => r = .returned (.bool true) ∧ Below w.heap.size w w') := fun w h1 h2 => by
    subst hn; exact eqRib_any p p' cv cv' es w h1 h2 h8
  have HX : Hid (RtsIn w p es ∧ RtsIn w p' es) := ⟨h, h'⟩
  have q0 := (Row.new w 32 [.slice p n cv, .int .i64 c]).alloc (.cells #[.slice p' n cv', .int .i64 c] 32)
  have q1 := Row.new (w.alloc (.cells #[.slice p n cv, .int .i64 c] 32)) 32 [.slice p' n cv', .int .i64 c]
  clear h h' hn h8
  go_enter Try.func14, Try.ntmps14
  go_wp2_with fail
  refine (HE.out _ ((HX.out.1.alloc _).alloc _) ((HX.out.2.alloc _).alloc _)).mono ?_
  rintro e w1 ⟨rfl, hb1⟩
  have p0 := q0.below hb1 q0.lt
  have p1 := q1.below hb1 q1.lt
  rw [show (w.alloc (.cells #[.slice p n cv, .int .i64 c] 32)).heap.size = w.heap.size + 1 by simp] at p1
  have hB : Below w.heap.size w w1 := ((ent_new0 w _).alloc (by simp) _).trans (hb1.mono (by simp; omega))
  have c1 : w1.cell? ⟨w.heap.size, 1, none⟩ = some (.int .i64 c) := p0.cell 1
  have d1 : w1.cell? ⟨w.heap.size + 1, 1, none⟩ = some (.int .i64 c) := p1.cell 1
  clear hb1 HE HX q0 q1 p0 p1
  go_wp2
  go_ret
  exact ⟨rfl, hB⟩
end Go.Proofs.Ytaledidomgelcaa
/- What the laws on tables have in common. -/
namespace Go.Proofs.Ytaledidomgelcaa
open Go.RowKit Go.Sort

theorem one_later {w1 w2 : World} {b : Nat} {x : Value} (h : w1.cell? ⟨b, 0, none⟩ = some x) (hb : Below w1.heap.size w1 w2) : w2.cell? ⟨b, 0, none⟩ = some x := by rw [hb.cell (World.block_lt_of_cell? w1 _ h)]; exact h
theorem stab_ribRow {N : Nat} {t : TypeId} (l : List Value) : ∀ (x : Value) (w1 w2 : World), (∃ g, x = .agg #[.slice (some ⟨g, 0, none⟩) N N] ∧ Row w1 g t l) → Below w1.heap.size w1 w2 → ∃ g, x = .agg #[.slice (some ⟨g, 0, none⟩) N N] ∧ Row w2 g t l := by
  rintro x w1 w2 ⟨g, e, h⟩ hb
  exact ⟨g, e, h.below hb h.lt⟩
end Go.Proofs.Ytaledidomgelcaa
/- What the laws on RibOuts have in common. -/
namespace Go.Proofs.Ytaledidomgelcaa
open Go.RowKit Go.Sort

theorem stab_out (B M : Nat) (cc : Int) (qs : List Rt) : ∀ (x : Value) (w1 w2 : World), (∃ q c, x = .agg #[.slice q M c, .int .i64 cc] ∧ w1.ownsRow B 46 9 (.slice q M c) M (rowR qs)) → Below w1.heap.size w1 w2 → ∃ q c, x = .agg #[.slice q M c, .int .i64 cc] ∧ w2.ownsRow B 46 9 (.slice q M c) M (rowR qs) := by
  rintro x w1 w2 ⟨q, c, e, h⟩ hb
  exact ⟨q, c, e, ownsR_below h hb⟩
theorem ownsR_lt' {w : World} {base n cv : Nat} {p : Option Addr} {xs : List Value} (h : w.ownsRow base 46 9 (.slice p n cv) n xs) : ∀ b, p = some ⟨b, 0, none⟩ → b < w.heap.size := fun b e => by
  subst e
  exact (World.ownsRow.lt h b rfl).2
theorem ownsR_base5 {w : World} {base n cv g : Nat} {p : Option Addr} {xs : List Value} (_h : w.ownsRow base 46 9 (.slice p n cv) n xs) (hl : ∀ b, p = some ⟨b, 0, none⟩ → b < g) : p ≠ some ⟨g, 0, none⟩ := fun e => by
  have := hl g e
  omega
theorem ownsR_lt0 {w : World} {base n cv cv' b n7 : Nat} {p q : Option Addr} {xs ys : List Value} (_h : w.ownsRow base 46 9 (.slice p n cv) n xs) (h' : w.ownsRow n7 46 9 (.slice q n cv') n ys) (hl : ∀ b, p = some ⟨b, 0, none⟩ → b < n7) (e : p = some ⟨b, 0, none⟩) (e' : q = some ⟨b, 0, none⟩) : False := by
  have h1 := hl b e
  exact ownsR_base h' h1 e'
theorem two_boxes (w : World) (x y : List Value) (t1 t2 : TypeId) {w1 : World} (h : Below ((w.alloc (.cells x.toArray t1)).alloc (.cells y.toArray t2)).heap.size ((w.alloc (.cells x.toArray t1)).alloc (.cells y.toArray t2)) w1) : Row w1 w.heap.size t1 x ∧ Row w1 (w.heap.size + 1) t2 y ∧ Below w.heap.size w w1 := by
  have q0 := (Row.new w t1 x).alloc (.cells y.toArray t2)
  have q1 := Row.new (w.alloc (.cells x.toArray t1)) t2 y
  rw [show (w.alloc (.cells x.toArray t1)).heap.size = w.heap.size + 1 by simp] at q1
  exact ⟨q0.below h q0.lt, q1.below h q1.lt, ((ent_new0 w _).alloc (by simp) _).trans (h.mono (by simp; omega))⟩
theorem one_box (w : World) (x : List Value) (t1 : TypeId) {w1 : World} (h : Below (w.alloc (.cells x.toArray t1)).heap.size (w.alloc (.cells x.toArray t1)) w1) : Row w1 w.heap.size t1 x ∧ Below w.heap.size w w1 := by
  have q0 := Row.new w t1 x
  exact ⟨q0.below h q0.lt, (ent_new0 w _).trans (h.mono (by simp))⟩
end Go.Proofs.Ytaledidomgelcaa
