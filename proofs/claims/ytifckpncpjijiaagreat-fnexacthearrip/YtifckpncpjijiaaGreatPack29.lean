/- Texts that stand on each other, in one file: LearnL, AllM, MapD, TurnG, QuietI, QuietW, QuietAt. -/
import Derived.Test.YtifckpncpjijiaaGreatPack28
import Derived.Test.YtifckpncpjijiaaGreatPack27
import Derived.Test.YtifckpncpjijiaaGreatPack23
import Derived.Test.YtifckpncpjijiaaGreatPack1
import Derived.Test.YtifckpncpjijiaaGreatPack16
import Derived.Test.YtifckpncpjijiaaGreatPack17
/- l06Learn of the model. (Written by gen_rlearns.py.) -/
namespace Go.Proofs.YtifckpncpjijiaaGreat
open Go.RowKit Go.Sort

def inNx (n : Int) : Bool := decide (1 ≤ n ∧ n ≤ 4294967295)
theorem told_all (r : Rt) (now : Int) : toldB r now = (rightB r.a r.l && (inMet r.m && (inNx r.n && (inIf r.i && (inTag r.t && inNow now))))) := by
  have e : toldB r now = ((rightB r.a r.l && inAddr r.n && inMet r.m && inTag r.t) && inIf r.i && (!decide (r.n = 0) && inNow now)) := rfl
  have h : (inAddr r.n && !decide (r.n = 0)) = inNx r.n := by
    unfold inAddr inNx
    rw [Bool.eq_iff_iff]
    simp only [Bool.and_eq_true, Bool.not_eq_true', decide_eq_true_eq, decide_eq_false_iff_not]
    omega
  rw [e, ← h]
  cases rightB r.a r.l <;> cases inAddr r.n <;> cases inMet r.m <;> cases inTag r.t <;> cases inIf r.i <;> cases decide (r.n = 0) <;> cases inNow now <;> rfl
/-- What RibLearn answers of what is right. -/
def learnK (rs : List Rt) (r : Rt) (now : Int) : Int × List Rt :=
  match lookN rs r.a r.l with
  | some old => (0, insR rs (heardR old r now))
  | none => if r.m = 16 then (0, rs) else if (insR rs (freshR r now)).length ≤ 8 then (0, insR rs (freshR r now)) else (9, [])
theorem l06Learn_any (p : Option Addr) (cap : Nat) (rs : List Rt) (r : Rt) (now : Int) (w : World) (h : RtsIn w p rs) (hc : p = none → cap = 0) (hcl : rs.length ≤ cap) (hr : ribB rs = true) (h0 : 0 ≤ now) (h1 : now ≤ 999900) :
    Calls Tryz.prog 98 #[ribV p rs.length cap, rtV r, .int .i64 now] w fun e w' => OutR w.heap.size (learnK rs r now).1 (learnK rs r now).2 e w' ∧ Below w.heap.size w w' := by
  unfold learnK
  cases hk : lookN rs r.a r.l with
  | some old =>
    obtain ⟨hmem, e1, e2⟩ := look_mem hk
    have hself := insR_self (rib_rising hr) hmem
    unfold heardR
    by_cases c1 : old.n = 0
    · simp only [if_pos c1, hself]
      exact learnS_own p cap rs r now w h hc hcl hr h0 h1 old hk c1
    · simp only [if_neg c1]
      by_cases c2 : old.n = r.n ∧ old.i = r.i
      · simp only [if_pos c2]
        exact learnS_again p cap rs r now w h hc hcl hr h0 h1 old hk c1 c2
      · simp only [if_neg c2]
        by_cases c3 : r.m < old.m
        · simp only [if_pos c3]
          exact learnS_near p cap rs r now w h hc hcl hr h0 h1 old hk c1 c2 c3
        · simp only [if_neg c3, hself]
          exact learnS_stay p cap rs r now w h hc hcl hr h0 h1 old hk c1 c2 c3
  | none =>
    by_cases hm : r.m = 16
    · simp only [if_pos hm]
      exact learnS_gone p cap rs r now w h hc hcl hr h0 h1 hk hm
    · simp only [if_neg hm]
      have hl : (insR rs (freshR r now)).length = rs.length + 1 := insR_len_new hr hk
      by_cases hf : rs.length < 8
      · rw [if_pos (by omega)]
        exact learnS_new p cap rs r now w h hc hcl hr h0 h1 hk hm hf
      · rw [if_neg (by omega)]
        exact learnS_full p cap rs r now w h hc hcl hr h0 h1 hk hm (by omega)
end Go.Proofs.YtifckpncpjijiaaGreat
/- The table's iterator, where the rounds change the table: each net is looked up when its turn comes. (Written by gen_allm.py.) -/
namespace Go.Proofs.YtifckpncpjijiaaGreat
open Go.RowKit Go.Sort Go.Shelf
attribute [local go_sem] Oper.semAt_some

/-- What a round that changes the table keeps: its nets, its tables. -/
structure KpM (W W' : World) : Prop where
  size : W.heap.size ≤ W'.heap.size
  rows : ∀ (k : Nat) (cur : Array Value) (t : TypeId), W.heap[k]? = some (Obj.cells cur t (0, 0)) → t = 87 ∨ t = 180 → W'.heap[k]? = W.heap[k]?
theorem KpM.t {A B C : World} (h : KpM A B) (k : KpM B C) : KpM A C :=
  ⟨Nat.le_trans h.size k.size, fun i cur t hi ht => (k.rows i cur t ((h.rows i cur t hi ht).trans hi) ht).trans (h.rows i cur t hi ht)⟩
theorem KpM.b {W : World} {l : Nat} {o : Obj} (o' : Obj) (h : W.heap[l]? = some o) (hc : o.isCells = false) : KpM W (W.putObj l o') :=
  KpM.mk (by simp) (fun i cur t hi _ => World.putObj_heap_other (fun e => by
    subst e
    rw [h] at hi
    cases hi
    cases hc))
theorem KpM.below {W W' : World} (h : Below W.heap.size W W') : KpM W W' := ⟨h.size, fun k _ _ hk _ => h.block k (Array.getElem?_eq_some_iff.1 hk).1⟩
theorem KpM.grown {W W' : World} {B : Nat} (h : W.grownBy W' (some B)) (hB : ∃ es c, W.heap[B]? = some (.map es c)) : KpM W W' := ⟨h.size, fun k cur t hk _ => h.block k (Array.getElem?_eq_some_iff.1 hk).1 (fun e => by
  cases e
  obtain ⟨es, c, hB⟩ := hB
  rw [hB] at hk
  cases hk)⟩
set_option maxRecDepth 100000 in
set_option maxHeartbeats 2000000 in
theorem all1_mut (n : Nat) (hn : 1 ≤ n) (l Bt b : Nat) (ms rs : List Rt) (hp : ms.Perm rs) (hr : ribB rs = true) (J : List Rt → World → Prop)
    (hJ : ∀ s X Y, J s X → X.grownBy Y none → J s Y)
    (hL : ∀ k (hk : k < rs.length) X, J (rs.take k) X → ∃ ns, MapIs X b ns ∧ lookN ns rs[k].a rs[k].l = some rs[k])
    (hY : ∀ k (hk : k < rs.length) X, J (rs.take k) X → YieldAt Fence.wide (n - 1) Tryz.prog l #[rtV rs[k]] X fun e Y => e = .returned (.bool true) ∧ J (rs.take (k + 1)) Y ∧ KpM X Y)
    (W0 : World) (hT : Row W0 Bt 180 [.map (some b), .func (.func 175) #[] #[]]) (hM : MapIs W0 b ms) (h0 : J [] W0) :
    CallsIn Fence.wide n Tryz.prog 178 #[.func (.yield l) #[] #[], .pointer (some ⟨Bt, 0, none⟩)] W0 fun e W' => (∃ v, e = .returned v) ∧ J rs W' := by
  have h8 := (ribB_spec hr).1
  have HS : Hid (∀ Bm w, w.cell? ⟨Bm, 0, none⟩ = some (.map (some b)) → MapIs w b ms → Calls Tryz.prog 179 #[.func (.func 185) #[] #[.pointer (some ⟨Bm, 0, none⟩)], .func (.func 175) #[] #[]] w fun e w' => ∃ v, e = .returned v ∧ HoldsN w' w.heap.size v (rs.map netOfR) ∧ Below w.heap.size w w') := fun Bm w h1 h2 =>
    (sortedN Bm b ms w (by rw [hp.length_eq]; omega) h1 h2).mono fun e w' h => by
      obtain ⟨v, xs, e, hq, hR, hH, hb⟩ := h
      rw [risen_nets hr (hq.trans (hp.map _)) hR] at hH
      exact ⟨v, e, hH, hb⟩
  refine callsIn_of_wp Tryz.func178 rfl trivial ?_ rfl
  simp only [Tryz.ntmps178, List.size_toArray, List.length_cons, List.length_nil, Nat.reduceAdd, Nat.reduceSub, Array.replicate_succ, Array.replicate_zero, List.push_toArray, List.append_toArray, List.nil_append, List.cons_append]
  refine wpIn_seq ?_
  refine wpIn_wide.2 ?_
  have hGN : (([(5, Is (.pointer (some ⟨Bt, 0, none⟩))), (6, Is (.map (some b))), (7, fun v W => ∃ Bm, v = .func (.func 185) #[] #[.pointer (some ⟨Bm, 0, none⟩)] ∧ Row W Bm 177 [.map (some b)]), (8, Is (.pointer (some ⟨Bt, 1, none⟩))), (9, Is (.func (.func 175) #[] #[])), (10, fun v W => ∃ B0, W0.heap.size ≤ B0 ∧ HoldsN W B0 v (rs.map netOfR)), (11, Is (.int .i64 (rs.length : Int))), (12, Is (.int .i64 0))] : List (Nat × (Value → World → Prop))).map (·.1)).Nodup := by simp
  refine wp_region_steady 8 (SlotG [(5, Is (.pointer (some ⟨Bt, 0, none⟩))), (6, Is (.map (some b))), (7, fun v W => ∃ Bm, v = .func (.func 185) #[] #[.pointer (some ⟨Bm, 0, none⟩)] ∧ Row W Bm 177 [.map (some b)]), (8, Is (.pointer (some ⟨Bt, 1, none⟩))), (9, Is (.func (.func 175) #[] #[])), (10, fun v W => ∃ B0, W0.heap.size ≤ B0 ∧ HoldsN W B0 v (rs.map netOfR)), (11, Is (.int .i64 (rs.length : Int))), (12, Is (.int .i64 0))]) (by kernel_rfl) (by kernel_rfl) (Stabs.all ⟨stab_is _, stab_is _, stab_seq b, stab_is _, stab_is _, stab_nets _ _, stab_is _, stab_is _, trivial⟩) ?_ ?_
  · intro o ho
    simp only [List.take_succ_cons, List.take_zero, List.mem_cons, List.not_mem_nil, or_false] at ho
    rcases ho with rfl | rfl | rfl | rfl | rfl | rfl | rfl | rfl
    · intro a' w' hb ha hdep
      have d1 : a'.tmps.getD 1 undef = .pointer (some ⟨Bt, 0, none⟩) := ha.at 1 (by kernel_rfl)
      have hmk := fun (x : Value) (W : World) => SlotG.mk (x := x) (w := W) 0 rfl hGN
      clear hGN ha hdep
      go_simp
      exact ⟨_, rfl, Below.refl _ _, hmk _ _ rfl⟩
    · intro a' w' hb ha hdep
      have d5 : a'.tmps.getD 5 undef = .pointer (some ⟨Bt, 0, none⟩) := (hdep 5 (of_decide_eq_true (by kernel_rfl))).is 0 rfl
      have hmk := fun (x : Value) (W : World) => SlotG.mk (x := x) (w := W) 1 rfl hGN
      clear hGN ha hdep
      have y0 : w'.cell? ⟨Bt, 0, none⟩ = some (.map (some b)) := (hT.below hb hT.lt).cell 0
      go_simp
      exact ⟨_, rfl, Below.refl _ _, hmk _ _ rfl⟩
    · intro a' w' hb ha hdep
      have d6 : a'.tmps.getD 6 undef = .map (some b) := (hdep 6 (of_decide_eq_true (by kernel_rfl))).is 1 rfl
      have hmk := fun (x : Value) (W : World) => SlotG.mk (x := x) (w := W) 2 rfl hGN
      clear hGN ha hdep
      go_simp
      refine (keys_make b _).mono ?_
      rintro e w2 ⟨rfl, rfl⟩
      exact ⟨_, rfl, ent_new0 _ _, hmk _ _ ⟨_, rfl, Row.new w' _ [.map (some b)]⟩⟩
    · intro a' w' hb ha hdep
      have d1 : a'.tmps.getD 1 undef = .pointer (some ⟨Bt, 0, none⟩) := ha.at 1 (by kernel_rfl)
      have hmk := fun (x : Value) (W : World) => SlotG.mk (x := x) (w := W) 3 rfl hGN
      clear hGN ha hdep
      go_simp
      exact ⟨_, rfl, Below.refl _ _, hmk _ _ rfl⟩
    · intro a' w' hb ha hdep
      have d8 : a'.tmps.getD 8 undef = .pointer (some ⟨Bt, 1, none⟩) := (hdep 8 (of_decide_eq_true (by kernel_rfl))).is 3 rfl
      have hmk := fun (x : Value) (W : World) => SlotG.mk (x := x) (w := W) 4 rfl hGN
      clear hGN ha hdep
      have y1 : w'.cell? ⟨Bt, 1, none⟩ = some (.func (.func 175) #[] #[]) := (hT.below hb hT.lt).cell 1
      go_simp
      exact ⟨_, rfl, Below.refl _ _, hmk _ _ rfl⟩
    · intro a' w' hb ha hdep
      have D7 := (hdep 7 (of_decide_eq_true (by kernel_rfl))).get 2 rfl
      have d9 : a'.tmps.getD 9 undef = .func (.func 175) #[] #[] := (hdep 9 (of_decide_eq_true (by kernel_rfl))).is 4 rfl
      have hmk := fun (x : Value) (W : World) => SlotG.mk (x := x) (w := W) 5 rfl hGN
      clear hGN ha hdep
      obtain ⟨Bm, d7, hRm⟩ := D7
      have hsz := hb.size
      go_simp
      refine (HS.out Bm _ (hRm.cell 0) (hM.below hb hM.lt)).mono ?_
      rintro e w2 ⟨v, rfl, hv, hb2⟩
      exact ⟨_, rfl, hb2, hmk _ _ ⟨_, hsz, hv⟩⟩
    · intro a' w' hb ha hdep
      have D10 := (hdep 10 (of_decide_eq_true (by kernel_rfl))).get 5 rfl
      have hmk := fun (x : Value) (W : World) => SlotG.mk (x := x) (w := W) 6 rfl hGN
      clear hGN ha hdep
      obtain ⟨B0, hB0, hv⟩ := D10
      obtain ⟨p, cap, d10⟩ := hv.form
      rw [List.length_map] at d10
      go_simp
      exact ⟨_, rfl, Below.refl _ _, hmk _ _ rfl⟩
    · intro a' w' hb ha hdep
      have hmk := fun (x : Value) (W : World) => SlotG.mk (x := x) (w := W) 7 rfl hGN
      clear hGN ha hdep
      go_simp
      exact ⟨_, rfl, Below.refl _ _, hmk _ _ rfl⟩
  · intro a' w' hb ha hG
    clear hGN
    have D10 := (hG _ (List.mem_of_getElem? (i := 5) rfl) 10 rfl).get 5 rfl
    have d11 : a'.tmps.getD 11 undef = .int .i64 (rs.length : Int) := (hG _ (List.mem_of_getElem? (i := 6) rfl) 11 rfl).is 6 rfl
    have d12 : a'.tmps.getD 12 undef = .int .i64 0 := (hG _ (List.mem_of_getElem? (i := 7) rfl) 12 rfl).is 7 rfl
    have d0 : a'.tmps.getD 0 undef = .func (.yield l) #[] #[] := ha.at 0 (by kernel_rfl)
    have d1 : a'.tmps.getD 1 undef = .pointer (some ⟨Bt, 0, none⟩) := ha.at 1 (by kernel_rfl)
    have e2 : a' = ⟨#[a'.tmps.getD 0 undef, a'.tmps.getD 1 undef, a'.tmps.getD 2 undef, a'.tmps.getD 3 undef, a'.tmps.getD 4 undef, a'.tmps.getD 5 undef, a'.tmps.getD 6 undef, a'.tmps.getD 7 undef, a'.tmps.getD 8 undef, a'.tmps.getD 9 undef, a'.tmps.getD 10 undef, a'.tmps.getD 11 undef, a'.tmps.getD 12 undef, a'.tmps.getD 13 undef, a'.tmps.getD 14 undef, a'.tmps.getD 15 undef, a'.tmps.getD 16 undef, a'.tmps.getD 17 undef, a'.tmps.getD 18 undef, a'.tmps.getD 19 undef, a'.tmps.getD 20 undef, a'.tmps.getD 21 undef, a'.tmps.getD 22 undef, a'.tmps.getD 23 undef], []⟩ := by rw [← (show a'.defers = [] from ha.2.1)]; exact act_eq a' 24 ha.1
    rw [d11, d12, d0, d1] at e2
    clear hG ha d11 d12 d0 d1
    generalize a'.tmps.getD 2 undef = x2 at *
    generalize a'.tmps.getD 3 undef = x3 at *
    generalize a'.tmps.getD 4 undef = x4 at *
    generalize a'.tmps.getD 5 undef = x5 at *
    generalize a'.tmps.getD 6 undef = x6 at *
    generalize a'.tmps.getD 7 undef = x7 at *
    generalize a'.tmps.getD 8 undef = x8 at *
    generalize a'.tmps.getD 9 undef = x9 at *
    generalize a'.tmps.getD 10 undef = x10 at *
    generalize a'.tmps.getD 13 undef = x13 at *
    generalize a'.tmps.getD 14 undef = x14 at *
    generalize a'.tmps.getD 15 undef = x15 at *
    generalize a'.tmps.getD 16 undef = x16 at *
    generalize a'.tmps.getD 17 undef = x17 at *
    generalize a'.tmps.getD 18 undef = x18 at *
    generalize a'.tmps.getD 19 undef = x19 at *
    generalize a'.tmps.getD 20 undef = x20 at *
    generalize a'.tmps.getD 21 undef = x21 at *
    generalize a'.tmps.getD 22 undef = x22 at *
    generalize a'.tmps.getD 23 undef = x23 at *
    subst e2
    simp only [List.drop_succ_cons, List.drop_zero]
    refine wpList_nil ?_
    obtain ⟨B0, hB0, hH⟩ := D10
    have hJ1 : J [] w' := hJ [] W0 w' h0 ⟨hb.os, hb.tape, hb.output, hb.size, fun k hk _ => hb.block k hk⟩
    have hT1 := hT.below hb hT.lt
    have hsz := hb.size
    clear hb HS h0 hT hM
    generalize x10 = v at *
    obtain ⟨p, cap, rfl⟩ := hH.form
    rw [List.length_map] at hH ⊢
    gi_wp2
    gi_loopw [12] (fun i wr => ∃ k : Nat, k ≤ rs.length ∧ i = .int .i64 k ∧ J (rs.take k) wr ∧ W0.heap.size ≤ wr.heap.size ∧ Row wr Bt 180 [.map (some b), .func (.func 175) #[] #[]] ∧ HoldsN wr B0 (.slice p rs.length cap) (rs.map netOfR)) (fun i _ => rs.length - (intOf i).toNat)
    case atStart => exact ⟨0, Nat.zero_le _, rfl, hJ1, hsz, hT1, hH⟩
    case round =>
      clear hJ1 hT1 hH hsz
      obtain ⟨k, hk, rfl, hJk, hsz, hTk, hHk⟩ := hrel
      by_cases hlt : k < rs.length
      · have d1 : decide ((k : Int) < (rs.length : Int)) = true := by simpa using hlt
        obtain ⟨g, rfl, hNk, hBg⟩ := hHk.at (by rw [List.length_map]; omega)
        obtain ⟨c0, c1, -, -⟩ := hNk.cell k (by rw [List.length_map]; exact hlt)
        rw [List.getElem_map] at c0 c1
        have hJa : J (rs.take k) (wr.alloc (.cells #[.int .i64 rs[k].a, .int .i64 rs[k].l] 87)) := hJ _ wr _ hJk (World.grownBy_alloc wr _ none)
        have hTa := hTk.alloc (.cells #[.int .i64 rs[k].a, .int .i64 rs[k].l] 87)
        obtain ⟨ns, hMa, hlk⟩ := hL k hlt _ hJa
        have hNa := hNk.below (ent_new0 wr (.cells #[.int .i64 rs[k].a, .int .i64 rs[k].l] 87)) hNk.lt
        have hrun := map_look1 hMa rs[k].a rs[k].l
        rw [hlk, Option.getD_some] at hrun
        obtain ⟨fn, tmps, assign, body, hy, hR⟩ := hY k hlt _ hJa
        have t0 : (wr.alloc (.cells #[.int .i64 rs[k].a, .int .i64 rs[k].l] 87)).cell? ⟨Bt, 0, none⟩ = some (.map (some b)) := hTa.cell 0
        have HA : Hid _ := And.intro hTa hNa
        have hbt : Bt < wr.heap.size := hTk.lt
        clear hJk hTk hNk hHk hJa hTa hMa hNa hlk
        generalize rs[k] = q at *
        obtain ⟨A, L, M, O, I, T, U, E, C⟩ := q
        unfold netV rtV rtA at hrun
        unfold rtV rtA at hy
        simp only [netOfR] at hrun hy c0 c1 t0
        gi_wp2
        refine hR.mono ?_
        rintro e W3 ⟨rfl, hJ3, hk3⟩
        obtain ⟨hTa, hNa⟩ := HA.out
        have hT3 : Row W3 Bt 180 [.map (some b), .func (.func 175) #[] #[]] := (hk3.rows Bt _ _ hTa (.inr rfl)).trans hTa
        have hN3 : NetsAt W3 g (rs.map netOfR) := by
          obtain ⟨cur, hc, e⟩ := hNa
          exact ⟨cur, (hk3.rows g _ _ hc (.inl rfl)).trans hc, e⟩
        have hs3 : W0.heap.size ≤ W3.heap.size := by have := hk3.size; simp at this; omega
        have HZ : Hid _ := And.intro hJ3 (And.intro hs3 (And.intro hT3 hN3))
        clear hJ3 hk3 hT3 hN3 hs3 HA hrun hy hTa hNa c0 c1 t0 hsz hR
        gi_wp2
        go_roundw
        case rel => exact ⟨k + 1, hlt, by go_num, HZ.out.1, HZ.out.2.1, HZ.out.2.2.1, .inr ⟨g, cap, by rw [List.length_map], HZ.out.2.2.2, hBg⟩⟩
        case measure => simp [intOf]; omega
      · obtain rfl : k = rs.length := by omega
        have d1 : decide ((rs.length : Int) < (rs.length : Int)) = false := by simp
        rw [List.take_length] at hJk
        clear hlt hk
        gi_wp2
        go_end0
        exact ⟨⟨_, rfl⟩, hJk⟩
end Go.Proofs.YtifckpncpjijiaaGreat
/- A route dropped from a map of routes. -/
namespace Go.Proofs.YtifckpncpjijiaaGreat
open Go.RowKit Go.Sort

theorem map_erase {α β : Type} (f : α → β) : ∀ (l : List α) (k : Nat), (l.eraseIdx k).map f = (l.map f).eraseIdx k
  | [], k => by simp
  | x :: l, 0 => by simp
  | x :: l, k + 1 => by simp [map_erase f l k]
theorem map_drop {w : World} {b : Nat} {rs : List Rt} (h : MapIs w b rs) (a l : Int) (ty : TypeId) :
    ∃ w', (Builtin.delete_ #[177, 87] ty #[.map (some b), netV a l]).run Tryz.prog w = .ok (.tuple #[]) w' ∧ MapIs w' b (dropN rs a l) ∧ w.grownBy w' (some b) := by
  have hlt := h.lt
  obtain ⟨es, clock, hb, hh, hp, hc⟩ := h
  unfold Builtin.delete_
  simp only [List.getElem?_toArray, List.getElem?_cons_zero, List.getElem?_cons_succ, Sem.run_bind, run_underlying mapUnd, Result.andThen_ok, MapKept.run_getObj_map hb, checkNet, findKey_run a l w es.toList rs hh]
  unfold dropN
  cases hi : idxN rs a l with
  | none =>
    rw [idx_none hi]
    have hs := MapKept.run_setObj_map (P := Tryz.prog) (.map es clock) hb
    refine ⟨setB w b (.map es clock), by simp only [Option.bind_none, Sem.run_bind]; rw [hs]; rfl, ⟨es, clock, setB_at hlt, hh, hp, hc⟩, setB_grown _⟩
  | some k =>
    obtain ⟨hk, hl, hn, _⟩ := idx_get hi
    rw [hl]
    have hs := MapKept.run_setObj_map (P := Tryz.prog) (.map (es.eraseIdxIfInBounds k) clock) hb
    have hke : k < es.size := by have := hh.nil_iff; simp at this; omega
    have he : (es.eraseIdxIfInBounds k).toList = es.toList.eraseIdx k := by
      unfold Array.eraseIdxIfInBounds
      rw [dif_pos hke, Array.toList_eraseIdx]
    refine ⟨setB w b (.map (es.eraseIdxIfInBounds k) clock), by simp only [Option.bind_some, Option.map_some, Sem.run_bind]; rw [hs]; rfl, ⟨_, _, setB_at hlt, ?_, ?_, ?_⟩, setB_grown _⟩
    · simp only [Holds] at hh ⊢
      rw [he, map_erase, map_erase, hh]
    · rw [he, map_erase]
      exact hp.sublist (List.eraseIdx_sublist _ _)
    · intro e h'
      rw [he] at h'
      exact hc e (List.mem_of_mem_eraseIdx h')
set_option maxRecDepth 100000 in
theorem drop_any (B : Nat) (rs : List Rt) (a l : Int) (w : World) (h : MapIs w B rs) :
    Calls Tryz.prog 161 #[tabV B, netV a l] w fun e w' => e = .returned (.tuple #[]) ∧ MapIs w' B (dropN rs a l) ∧ w.grownBy w' (some B) := by
  have hlt := h.lt
  obtain ⟨W, hW, q0, q1, hB, hS⟩ := rows2 w [.map (some B), .func (.func 175) #[] #[]] [.int .i64 a, .int .i64 l] 180 87
  have hg0 : w.grownBy W (some B) := by rw [hW]; exact grown_trans (World.grownBy_alloc w _ _) (World.grownBy_alloc _ _ _)
  obtain ⟨w2, hrun, hm2, hg2⟩ := map_drop (h.below hB hlt) a l 0
  have HH : Hid (MapIs w2 B (dropN rs a l) ∧ w.grownBy w2 (some B)) := ⟨hm2, grown_trans hg0 hg2⟩
  clear hm2 hg2 h hB hg0
  unfold tabV netV
  unfold netV at hrun
  rw [hW] at hrun
  have c0 : W.cell? ⟨w.heap.size, 0, none⟩ = some (.map (some B)) := q0.cell 0
  have c1 : W.cell? ⟨w.heap.size, 1, none⟩ = some (.func (.func 175) #[] #[]) := q0.cell 1
  have d0 : W.cell? ⟨w.heap.size + 1, 0, none⟩ = some (.int .i64 a) := q1.cell 0
  have d1 : W.cell? ⟨w.heap.size + 1, 1, none⟩ = some (.int .i64 l) := q1.cell 1
  have HW : Hid _ := hW
  clear hW q0 q1
  go_enter Tryz.func161, Tryz.ntmps161
  go_wp2
  refine bodyPost_end (v := .tuple #[]) (by simp [results, Tryz.results161, go_sem]) rfl ⟨rfl, HH.out.1, HH.out.2⟩
end Go.Proofs.YtifckpncpjijiaaGreat
/- What a table that is ranged over and changed keeps. (Written by gen_turn.py.) -/
namespace Go.Proofs.YtifckpncpjijiaaGreat
open Go.RowKit Go.Sort Go.Shelf

theorem keepsFrom_grown {w X Y : World} {B : Nat} (h : X.grownBy Y (some B)) (hB : B < w.heap.size) : KeepsFrom w.heap.size X Y := ⟨h.size, fun k _ hk ho _ => (h.block k (Array.getElem?_eq_some_iff.1 ho).1 (by intro e; cases e; omega)).trans ho⟩
theorem grown_row {X Y : World} {B g : Nat} {t : TypeId} {l : List Value} (h : X.grownBy Y (some B)) (hr : Row X g t l) (hne : g ≠ B) : Row Y g t l := (h.block g hr.lt (by intro e; cases e; exact hne rfl)).trans hr
theorem map_row_ne {X : World} {B g : Nat} {t : TypeId} {l : List Value} {rs : List Rt} (h : MapIs X B rs) (hr : Row X g t l) : g ≠ B := by
  rintro rfl
  obtain ⟨es, c, hb, _⟩ := h
  unfold Row at hr
  rw [hr] at hb
  cases hb
theorem keepsFrom_trans {n : Nat} {X Y Z : World} (h : KeepsFrom n X Y) (k : KeepsFrom n Y Z) : KeepsFrom n X Z := ⟨Nat.le_trans h.size k.size, fun i _ hi ho hc => k.same i _ hi (h.same i _ hi ho hc) hc⟩
theorem kpm_set {W : World} {g : Nat} {l : List Value} (j : Nat) (v : Value) (hr : Row W g 98 l) : KpM W (W.setCell ⟨g, j, none⟩ v) := KpM.mk (by simp) (fun i cur t hi ht => Below.heap_setCell W ⟨g, j, none⟩ v i (fun e => by
  subst e
  rw [show W.heap[i]? = _ from hr] at hi
  simp only [Option.some.injEq, Obj.cells.injEq] at hi
  obtain ⟨_, ht', _⟩ := hi
  rcases ht with rfl | rfl <;> cases ht'))
theorem keepsFrom_below {n : Nat} {X Y : World} (h : Below X.heap.size X Y) : KeepsFrom n X Y := ⟨h.size, fun k _ _ ho _ => (h.block k (Array.getElem?_eq_some_iff.1 ho).1).trans ho⟩
theorem hdr_len2 {rs : List Rt} {k : Nat} (hk : k < rs.length) : (rs.take (k + 1)).length = k + 1 := by rw [List.length_take]; omega
theorem hdr_len {rs : List Rt} {k : Nat} (hk : k < rs.length) : (rs.take k).length = k := by rw [List.length_take]; omega
end Go.Proofs.YtifckpncpjijiaaGreat
/- RibQuiet of the program. (Written by gen_turn.py.) -/
namespace Go.Proofs.YtifckpncpjijiaaGreat
open Go.RowKit Go.Sort Go.Shelf
attribute [local go_sem] Oper.semAt_some

set_option maxRecDepth 100000 in
set_option maxHeartbeats 4000000 in
theorem implQuiet_right (p : Option Addr) (cap : Nat) (rs : List Rt) (w : World) (h : RtsIn w p rs) (hr : ribB rs = true) (hr2 : ribB (rs.filterMap hushF) = true) :
    Calls Tryz.prog 124 #[ribV p rs.length cap] w fun e w' => ∃ q c, e = .returned (ribV q (rs.filterMap hushF).length c) ∧ w'.ownsRow w.heap.size 98 9 (.slice q (rs.filterMap hushF).length c) (rs.filterMap hushF).length (rowR (rs.filterMap hushF)) ∧ Below w.heap.size w w' := by
  have h8 := (ribB_spec hr).1
  have HB : Hid (∀ w, RtsIn w p rs → Calls Tryz.prog 103 #[.agg #[.slice p rs.length cap]] w fun e w' => e = .returned (.bool true) ∧ Below w.heap.size w w') := fun w h => by have := implRib_any p cap rs w h (by omega); rw [hr] at this; exact this
  have HL : Hid (∀ w, RtsIn w p rs → Calls Tryz.prog 152 #[.agg #[.slice p rs.length cap]] w fun e w' => ∃ B, e = .returned (.agg #[.map (some B), .func (.func 175) #[] #[]]) ∧ w.heap.size ≤ B ∧ MapIs w' B rs ∧ Below w.heap.size w w') := fun w h => (laidOut_any p cap rs w h (by omega)).mono fun e w' h => by
    obtain ⟨B, e1, hB, hm, hb⟩ := h
    rw [laidN_right hr] at hm
    exact ⟨B, e1, hB, hm, hb⟩
  have HA : Hid (∀ B w, Calls Tryz.prog 159 #[.agg #[.map (some B), .func (.func 175) #[] #[]]] w fun e w' => e = .returned (.func (.func 178) #[] #[.pointer (some ⟨w.heap.size, 0, none⟩)]) ∧ w.alloc (.cells #[.map (some B), .func (.func 175) #[] #[]] 180) = w') := fun B w => all_make B w
  have HP : Hid (∀ B ms r w, MapIs w B ms → Calls Tryz.prog 162 #[tabV B, netV r.a r.l, rtV r] w fun e w' => e = .returned (.tuple #[]) ∧ MapIs w' B (putN ms r) ∧ w.grownBy w' (some B)) := put_any
  have HO : Hid (∀ B w, MapIs w B (rs.filterMap hushF) → Calls Tryz.prog 156 #[.agg #[.map (some B), .func (.func 175) #[] #[]]] w fun e w' => ∃ p cap, e = .returned (.agg #[.slice p (rs.filterMap hushF).length cap]) ∧ w'.ownsRow w.heap.size 98 9 (.slice p (rs.filterMap hushF).length cap) (rs.filterMap hushF).length (rowR (rs.filterMap hushF)) ∧ Below w.heap.size w w') := fun B w h => ribOf_any B _ _ (List.Perm.refl _) hr2 w h
  have hris := rib_rising hr
  have HX : Hid (RtsIn w p rs) := h
  clear h
  obtain ⟨W, hW, q0, q1, hB, hS⟩ := rows2 w [.slice p rs.length cap] [.slice none 0 0] 36 36
  have HW : Hid _ := hW
  have c0 : W.cell? ⟨w.heap.size, 0, none⟩ = some (.slice p rs.length cap) := q0.cell 0
  have HQ : Hid _ := And.intro q0 (And.intro q1 (And.intro hB hS))
  clear hW q0 q1 hB hS
  unfold ribV
  refine (callsIn_wide (n := 9)).1 ?_
  refine callsIn_of_wp_marks Tryz.func124 rfl trivial ?_ rfl
  simp only [Tryz.ntmps124, List.size_toArray, List.length_cons, List.length_nil, Nat.reduceAdd, Nat.reduceSub, Array.replicate_succ, Array.replicate_zero, List.push_toArray, List.append_toArray, List.nil_append, List.cons_append]
  gi_wp2_with fail
  refine ⟨trivial, ?_⟩
  rw [← HW.out]
  obtain ⟨q0, q1, hB, hS⟩ := HQ.out
  refine (callsIn_wide.2 (HB.out _ ((HX.out).below hB))).mono ?_
  rintro e w1 ⟨rfl, hb1⟩
  clear HB HW HQ c0
  have c1 : w1.cell? ⟨w.heap.size, 0, none⟩ = some (.slice p rs.length cap) := (q0.below hb1 q0.lt).cell 0
  have hX1 := ((HX.out).below hB).below hb1
  have HK1 : Hid _ := And.intro (q1.below hb1 q1.lt) (And.intro (hB.trans (hb1.mono (by omega))) (trivial))
  have hs1 : w.heap.size + 1 + 1 ≤ w1.heap.size := by have := hb1.size; omega
  clear q0 q1 hB hS hb1 HX
  gi_wp2_with fail
  refine ⟨trivial, ?_⟩
  refine (callsIn_wide.2 (HL.out _ hX1)).mono ?_
  rintro e w2 ⟨B, rfl, hBB, hM, hb2⟩
  clear HL hX1 c1
  gi_wp2_with fail
  refine ⟨trivial, ?_⟩
  refine (callsIn_wide.2 (HA.out B _)).mono ?_
  rintro e w3 ⟨rfl, hw3⟩
  obtain ⟨rr, hB, rn⟩ := HK1.out
  have hs2 := hb2.size
  have hBl := hM.lt
  obtain ⟨V, hV, rt, rt', hbV, hsV⟩ := rows2 w2 [.map (some B), .func (.func 175) #[] #[]] [.map (some B), .func (.func 175) #[] #[]] 180 180
  simp only [World.size_alloc] at hw3 ⊢
  rw [show w3 = V from hw3.symm.trans hV.symm]
  have rr := (rr.below hb2 rr.lt).below hbV (rr.below hb2 rr.lt).lt
  have hB := (hB.trans (hb2.mono (by omega))).trans (hbV.mono (by omega))
  have hM := hM.below hbV hM.lt
  generalize hb2n : w2.heap.size = b2 at *
  clear hw3 hb2 hV HK1 HA
  gi_wp2_with fail
  refine wpIn_turns (by omega) (gf := 178) (lb := #[.pointer (some ⟨b2 + 1, 0, none⟩)]) rfl (enters_of Tryz.func178 (by kernel_rfl) rfl) rtV rs rfl KpM KpM.t (fun W o o' h hc => KpM.b o' h hc)
    (fun pre X => MapIs X B (halfR hushF rs pre.length) ∧ Row X b2 180 [.map (some B), .func (.func 175) #[] #[]] ∧ Row X (w.heap.size + 1) 36 [.slice none 0 0] ∧ Below w.heap.size w X)
    ?ig ?ip ?seq ?start
    (fun k a' X => ∃ (hk : k < rs.length) (y : Rt) (Bx : Nat), y = rs[k] ∧ (b2 < Bx ∧ w.heap.size + 1 < Bx) ∧ Row X Bx 98 (rtL y) ∧ (MapIs X B (halfR hushF rs k) ∧ Row X b2 180 [.map (some B), .func (.func 175) #[] #[]] ∧ Row X (w.heap.size + 1) 36 [.slice none 0 0] ∧ Below w.heap.size w X) ∧ a' = { tmps := #[.agg #[.slice p rs.length cap], .pointer (some ⟨w.heap.size, 0, none⟩), .pointer (some ⟨w.heap.size + 1, 0, none⟩), .pointer (some ⟨b2, 0, none⟩), .pointer (some ⟨Bx, 0, none⟩), .agg #[.slice p rs.length cap], .bool true, .bool false, undef, .agg #[.slice p rs.length cap], .agg #[.map (some B), .func (.func 175) #[] #[]], .agg #[.map (some B), .func (.func 175) #[] #[]], .func (.func 178) #[] #[.pointer (some ⟨b2 + 1, 0, none⟩)], rtV y, undef, undef, undef, undef, undef, undef, undef, undef], defers := [] })
    ?ap ?assign ?body ?done
  case ig =>
    rintro s X Y ⟨hm, rt, rr, hb⟩ hg
    exact ⟨hm.kept (hg.block B hm.lt (by simp)), (hg.block _ rt.lt (by simp)).trans rt, (hg.block _ rr.lt (by simp)).trans rr, hb.grown hg hb.size (fun k e => by cases e)⟩
  case ip =>
    rintro s X r o ⟨hm, rt, rr, hb⟩ hl
    exact ⟨hm.kept (World.putObj_heap_other (by omega)), (World.putObj_heap_other (by omega)).trans rt, (World.putObj_heap_other (by omega)).trans rr, hb.trans (belowK_b (w := w) (Nat.le_refl _) X _ _ o (by omega) hl rfl rfl)⟩
  case seq =>
    intro l J W hbW hJ hJI hY h0
    exact all1_mut (9 - 1) (by omega) l (b2 + 1) B rs rs (List.Perm.refl _) hr J hJ (fun k hk X hj => by
      have := (hJI _ _ hj).1
      rw [hdr_len hk] at this
      exact ⟨_, this, halfR_look hushF_net hris hk⟩) hY W (rt'.below hbW rt'.lt) (hM.below hbW hM.lt) h0
  case start =>
    exact ⟨by simpa [halfR_0] using hM, rt, rr, hB⟩
  case ap =>
    rintro k a' X r o ⟨hk, y, Bx, hy, hBx, hRx, ⟨hm, rt, rr, hb⟩, rfl⟩ hl
    refine ⟨hk, y, Bx, hy, hBx, (World.putObj_heap_other (fun e => ?_)).trans hRx, ⟨hm.kept (World.putObj_heap_other (by omega)), (World.putObj_heap_other (by omega)).trans rt, (World.putObj_heap_other (by omega)).trans rr, hb.trans (belowK_b (w := w) (Nat.le_refl _) X _ _ o (by omega) hl rfl rfl)⟩, rfl⟩
    subst e
    rw [show X.heap[V.heap.size + 1]? = _ from hRx] at hl
    cases hl
  case assign =>
    rintro l k hk X K ⟨hm, rt, rr, hb⟩ hK
    rw [hdr_len hk] at hm
    obtain ⟨y, hy⟩ : ∃ y, y = rs[k] := ⟨_, rfl⟩
    rw [← hy]
    have hy' : Hid _ := hy
    clear hy
    obtain ⟨A, L, M, O, I, T, U, E, C⟩ := y
    unfold rtV rtA at hK ⊢
    simp only at hK ⊢
    have HE : Hid _ := And.intro hm (And.intro rt (And.intro rr (And.intro hb hBl)))
    clear hm rt rr hb
    gi_wp2
    obtain ⟨hm, rt, rr, hb, hBl⟩ := HE.out
    exact hK _ _ ((KeepsOthers.alloc _ _).from _) (KpM.below (ent_new0 _ _)) ⟨hk, ⟨A, L, M, O, I, T, U, E, C⟩, X.heap.size, hy'.out, ⟨rt.lt, rr.lt⟩, Row.new X 98 [.int .i64 A, .int .i64 L, .int .i64 M, .int .i64 O, .int .i64 I, .int .i64 T, .int .i64 U, .int .i64 E, .bool C], ⟨hm.below (ent_new0 X _) hm.lt, rt.alloc _, rr.alloc _, hb.alloc hb.size _⟩, rfl⟩
  case body =>
    rintro l k hk' a' X ⟨hk, y, Bx, hy, ⟨hBx, hBr⟩, hRx, ⟨hm, rt, rr, hb⟩, rfl⟩
    rw [hdr_len2 hk]
    have hne := map_row_ne hm hRx
    have hyy : Hid _ := hy
    clear hy
    obtain ⟨A, L, M, O, I, T, U, E, C⟩ := y
    unfold rtV rtA
    simp only [rtL] at hRx ⊢
    have x0 : X.cell? ⟨Bx, 0, none⟩ = some (.int .i64 A) := hRx.cell 0
    have x1 : X.cell? ⟨Bx, 1, none⟩ = some (.int .i64 L) := hRx.cell 1
    have x2 : X.cell? ⟨Bx, 2, none⟩ = some (.int .i64 M) := hRx.cell 2
    have x3 : X.cell? ⟨Bx, 3, none⟩ = some (.int .i64 O) := hRx.cell 3
    have x4 : X.cell? ⟨Bx, 4, none⟩ = some (.int .i64 I) := hRx.cell 4
    have x5 : X.cell? ⟨Bx, 5, none⟩ = some (.int .i64 T) := hRx.cell 5
    have x6 : X.cell? ⟨Bx, 6, none⟩ = some (.int .i64 U) := hRx.cell 6
    have x7 : X.cell? ⟨Bx, 7, none⟩ = some (.int .i64 E) := hRx.cell 7
    have x8 : X.cell? ⟨Bx, 8, none⟩ = some (.bool C) := hRx.cell 8
    have t0 : X.cell? ⟨b2, 0, none⟩ = some (.map (some B)) := rt.cell 0
    have t1 : X.cell? ⟨b2, 1, none⟩ = some (.func (.func 175) #[] #[]) := rt.cell 1
    have f8 : X.frozen? ⟨Bx, 8, none⟩ = false := hRx.frozen 8
    have hF : hushF rs[k] = some ⟨A, L, M, O, I, T, U, E, false⟩ := by rw [← hyy.out]; rfl
    have nb : ¬ Bx = b2 := by omega
    have nb' : ¬ b2 = Bx := by omega
    have nr : ¬ w.heap.size + 1 = Bx := by omega
    have HPk : Hid (∀ w, MapIs w B (halfR hushF rs k) → Calls Tryz.prog 162 #[.agg #[.map (some B), .func (.func 175) #[] #[]], .agg #[.int .i64 A, .int .i64 L], .agg #[.int .i64 A, .int .i64 L, .int .i64 M, .int .i64 O, .int .i64 I, .int .i64 T, .int .i64 U, .int .i64 E, .bool false]] w fun e w' => e = .returned (.tuple #[]) ∧ MapIs w' B (halfR hushF rs (k + 1)) ∧ w.grownBy w' (some B)) := fun w h => by
      have := HP.out B _ ⟨A, L, M, O, I, T, U, E, false⟩ w h
      rw [halfR_put hushF_net hris hk hF] at this
      exact this
    have HE : Hid _ := And.intro (hm.kept (Below.heap_setCell X ⟨Bx, 8, none⟩ (.bool false) B (fun e => hne e.symm))) (And.intro (rt.other 8 (.bool false) nb') (And.intro (rr.other 8 (.bool false) nr) (And.intro (hb.setCell (p := ⟨Bx, 8, none⟩) (by show w.heap.size ≤ Bx; omega) (.bool false)) (And.intro (kpm_set 8 (.bool false) hRx) ((KeepsOthers.setCell X ⟨Bx, 8, none⟩ (.bool false)).from V.heap.size)))))
    clear hm rt rr hb hRx hF
    gi_wp2_with fail
    obtain ⟨hm, rt, rr, hb, hkp, hkf⟩ := HE.out
    clear HE f8 t0 t1 nb nb' x0 x1 x2 x3 x4 x5 x6 x7 x8
    generalize X.setCell ⟨Bx, 8, none⟩ (.bool false) = X1 at *
    refine ⟨trivial, (CallsIn.inRound l (callsIn_wide.2 (HPk.out _ hm))).mono ?_⟩
    rintro e X2 ⟨rfl, hm2, hg2⟩
    have hmm : ∃ es c, X1.heap[B]? = some (.map es c) := by obtain ⟨es, c, h, _⟩ := hm; exact ⟨es, c, h⟩
    have HZ : Hid _ := And.intro (keepsFrom_trans hkf (keepsFrom_grown hg2 (by omega : B < V.heap.size))) (And.intro (hkp.t (KpM.grown hg2 hmm)) (And.intro hm2 (And.intro (grown_row hg2 rt (by omega)) (And.intro (grown_row hg2 rr (by omega)) (hb.grown hg2 hb.size (fun k e => by cases e; omega))))))
    clear hm hm2 hg2 hmm hkp hkf rt rr hb
    gi_wp2_with fail
    have hz := HZ.out
    rw [hsV] at hz
    exact hz
  case done =>
    rintro X ⟨hm, rt, rr, hb⟩ hK
    rw [halfR_end] at hm
    have t0 : X.cell? ⟨b2, 0, none⟩ = some (.map (some B)) := rt.cell 0
    have t1 : X.cell? ⟨b2, 1, none⟩ = some (.func (.func 175) #[] #[]) := rt.cell 1
    have HE : Hid _ := And.intro hm (And.intro rr (And.intro hb (And.intro hK hB.size)))
    clear hm rt rr hb hK rt' hM hB HP
    gi_wp2_with fail
    refine ⟨trivial, ?_⟩
    obtain ⟨hm, rr, hb, hK, hBs⟩ := HE.out
    refine (callsIn_wide.2 (HO.out B _ hm)).mono ?_
    rintro e X1 ⟨q, c, rfl, ho, hb1⟩
    have hsX := rr.lt
    have rr := rr.below hb1 rr.lt
    have hK : X1.heap[V.heap.size]? = _ := (hb1.block _ (Array.getElem?_eq_some_iff.1 hK).1).trans hK
    have hb := hb.trans (hb1.mono hb.size)
    clear t0 t1 HE HO hm
    have f0 : X1.frozen? ⟨w.heap.size + 1, 0, none⟩ = false := rr.frozen 0
    have z0 : X1.cell? ⟨w.heap.size + 1, 0, none⟩ = some (.slice none 0 0) := rr.cell 0
    have HF : Hid _ := And.intro (rr.set 0 (.slice q (rs.filterMap hushF).length c)) (And.intro (hb.setCell (p := ⟨w.heap.size + 1, 0, none⟩) (by show w.heap.size ≤ w.heap.size + 1; omega) (.slice q (rs.filterMap hushF).length c)) (And.intro (((Below.heap_setCell _ _ _ _ (by show V.heap.size ≠ w.heap.size + 1; omega)).trans hK) : (X1.setCell ⟨w.heap.size + 1, 0, none⟩ (.slice q (rs.filterMap hushF).length c)).heap[V.heap.size]? = some (.deferred (some []))) (ownR_set (base' := w.heap.size) ho ⟨w.heap.size + 1, 0, none⟩ (by show w.heap.size + 1 < _; omega) (.slice q (rs.filterMap hushF).length c) (by omega))))
    clear rr hb hK ho hb1
    gi_wp2_with fail
    have hF := HF.out
    clear HF f0 z0
    generalize X1.setCell ⟨w.heap.size + 1, 0, none⟩ (.slice q (rs.filterMap hushF).length c) = Z at *
    obtain ⟨h1, h2, h3, h7⟩ := hF
    rw [hsV] at h3
    refine ⟨by simp, .inl ⟨_, _, rfl, run_takeDeferred h3, ?_⟩⟩
    have h4 : Below w.heap.size Z (Z.putObj (b2 + 1 + 1) (.deferred none)) := belowK_b (w := w) (Nat.le_refl _) Z (b2 + 1 + 1) _ _ (by omega) h3 rfl rfl
    have h5 : Row (Z.putObj (b2 + 1 + 1) (.deferred none)) (w.heap.size + 1) 36 [.slice q (rs.filterMap hushF).length c] := (World.putObj_heap_other (by omega)).trans h1
    have h6 := h2.trans h4
    have h8 : (Z.putObj (b2 + 1 + 1) (.deferred none)).ownsRow w.heap.size 98 9 (.slice q (rs.filterMap hushF).length c) (rs.filterMap hushF).length (rowR (rs.filterMap hushF)) := World.ownsRow.kept h7 (row := some (b2 + 1 + 1)) (grownBy_putObj' Z (b2 + 1 + 1) (.deferred none)) (by
      rcases h7.2 with ⟨e, _⟩ | ⟨g, _, _, e, _, hg, _⟩
      · left; rw [e]; rfl
      · right
        rw [e]
        intro e'
        have e'' : g = (b2 + 1 + 1) := by simpa [Value.ownBlock] using e'
        rw [e'', h3] at hg
        cases hg)
    clear h1 h2 h3 h4 h7
    generalize Z.putObj (b2 + 1 + 1) (.deferred none) = Y at *
    have e0 : Y.cell? ⟨w.heap.size + 1, 0, none⟩ = some (.slice q (rs.filterMap hushF).length c) := h5.cell 0
    refine ⟨.agg #[.slice q (rs.filterMap hushF).length c], by simp [results, Tryz.results124, go_sem, e0], ?_⟩
    exact ⟨q, c, rfl, h8, h6⟩
end Go.Proofs.YtifckpncpjijiaaGreat
/- RibQuiet of the program, at every argument. (Written by gen_quiett.py.) -/
namespace Go.Proofs.YtifckpncpjijiaaGreat
open Go.RowKit Go.Sort

/-- What RibQuiet answers. -/
def quietO (rs : List Rt) : List Rt := if ribB rs = true then rs.filterMap hushF else []
theorem quietO_len (rs : List Rt) : (quietO rs).length ≤ 8 := by
  unfold quietO
  split
  · rename_i h
    exact Nat.le_trans (List.length_filterMap_le _ _) (ribB_spec h).1
  · simp
theorem quiet_ribs {rs : List Rt} (h : ribB rs = true) : ribB (rs.filterMap hushF) = true := by
  refine turned_right hushF_net h fun r hr s hs => ?_
  have hrr := rib_routes h r hr
  unfold hushF at hs
  cases hs
  exact hrr
set_option maxRecDepth 100000 in
set_option maxHeartbeats 2000000 in
theorem implQuiet_any (p : Option Addr) (cap : Nat) (rs : List Rt) (w : World) (h : RtsIn w p rs) (hn : rs.length ≤ 100000000) :
    Calls Tryz.prog 124 #[ribV p rs.length cap] w fun e w' => (∃ q c, e = .returned (ribV q (quietO rs).length c) ∧ w'.ownsRow w.heap.size 98 9 (.slice q (quietO rs).length c) (quietO rs).length (rowR (quietO rs))) ∧ Below w.heap.size w w' := by
  unfold quietO
  cases h1 : ribB rs
  · have HB : Hid (∀ w, RtsIn w p rs → Calls Tryz.prog 103 #[.agg #[.slice p rs.length cap]] w fun e w' => e = .returned (.bool false) ∧ Below w.heap.size w w') := fun w h => by have := implRib_any p cap rs w h hn; rw [h1] at this; exact this
    have HX : Hid (RtsIn w p rs) := h
    simp only [Bool.false_eq_true, if_false]
    clear h hn h1
    generalize rs.length = N at *
    obtain ⟨W, hW, q0, qr, hB, hS⟩ := rows2 w [.slice p N cap] [.slice none 0 0] 36 36
    have HW : Hid _ := hW
    have HQ : Hid _ := And.intro q0 (And.intro qr hB)
    have x0 : W.cell? ⟨w.heap.size, 0, none⟩ = some (.slice p N cap) := q0.cell 0
    clear q0 qr hB
    unfold ribV
    go_enter Tryz.func124, Tryz.ntmps124
    rw [hW] at x0
    clear hW
    go_wp2_with fail
    rw [← HW.out]
    obtain ⟨q0, qr, hB⟩ := HQ.out
    clear x0
    refine (HB.out _ ((HX.out).below hB)).mono ?_
    rintro e w1 ⟨rfl, hb1⟩
    have q0 := q0.below hb1 (by omega)
    have qr := qr.below hb1 (by omega)
    have hB := hB.trans (hb1.mono (by omega))
    have hs1 := hb1.size
    clear HB HW HQ hb1
    have f0 : w1.frozen? ⟨w.heap.size + 1, 0, none⟩ = false := qr.frozen 0
    have z0 : w1.cell? ⟨w.heap.size + 1, 0, none⟩ = some (.slice none 0 0) := qr.cell 0
    have HE2 : Hid _ := And.intro (qr.set 0 (.slice none 0 0)) (And.intro (hB.setCell (p := ⟨w.heap.size + 1, 0, none⟩) (by show w.heap.size ≤ w.heap.size + 1; omega) (.slice none 0 0)) trivial)
    clear qr hB q0
    go_wp2_with fail
    obtain ⟨h1, h2, h3⟩ := HE2.out
    clear HE2 f0 z0
    generalize w1.setCell ⟨w.heap.size + 1, 0, none⟩ (.slice none 0 0) = Z at *
    have e0 : Z.cell? ⟨w.heap.size + 1, 0, none⟩ = some (.slice none 0 0) := h1.cell 0
    exact bodyPost_ret (v := .agg #[.slice none 0 0]) (by simp [results, Tryz.results124, go_sem, e0]) rfl ⟨⟨_, _, rfl, World.ownsRow_nil _ _ _ 9⟩, h2⟩
  · simp only [if_true]
    refine (implQuiet_right p cap rs w h h1 (quiet_ribs h1)).mono ?_
    rintro e w' ⟨q, c, he, ho, hb⟩
    exact ⟨⟨q, c, he, ho⟩, hb⟩

end Go.Proofs.YtifckpncpjijiaaGreat
/- A table at work: quiet. (Written by gen_work.py.) -/
namespace Go.Proofs.YtifckpncpjijiaaGreat
open Go.RowKit Go.Sort

set_option maxRecDepth 100000 in
set_option maxHeartbeats 2000000 in
theorem quietAt_any (g k : Nat) (T : TypeId) (l : List Value) (p : Option Addr) (c0 : Nat) (rs : List Rt) (w : World) (hr : Row w g T l) (hk : l[k]? = some (.slice p rs.length c0)) (h : RtsIn w p rs) (hn : rs.length ≤ 100000000) :
    Calls Tryz.prog 76 #[.pointer (some ⟨g, k, none⟩)] w fun e w' => e = .returned (.int .i64 0) ∧ Took g k T l w.heap.size 0 (quietO rs) w w' := by
  have HC : Hid (∀ w, RtsIn w p rs → Calls Tryz.prog 124 #[.agg #[.slice p rs.length c0]] w fun e w' => (∃ q c, e = .returned (.agg #[.slice q (quietO rs).length c]) ∧ w'.ownsRow w.heap.size 98 9 (.slice q (quietO rs).length c) (quietO rs).length (rowR (quietO rs))) ∧ Below w.heap.size w w') := fun w h => implQuiet_any p c0 rs w h hn
  have HX : Hid (RtsIn w p rs) := h
  have HF : Hid (∀ q c (w1 w2 : World), Below w.heap.size w w1 → w1.ownsRow w.heap.size 98 9 (.slice q (quietO rs).length c) (quietO rs).length (rowR (quietO rs)) → Row w2 g T (if 0 = 0 then l.set k (.slice q (quietO rs).length c) else l) → Below g w1 w2 → (∀ b t l, b ≠ g → Row w1 b t l → Row w2 b t l) → Took g k T l w.heap.size 0 (quietO rs) w w2) := fun q c w1 w2 a b d e f => took_of hr.lt a b d e f
  clear h hn
  generalize (quietO rs) = qs at *
  have HT : Hid (∀ q c (w : World), Row w g T l → Calls Tryz.prog 108 #[.pointer (some ⟨g, k, none⟩), .agg #[.slice q qs.length c, .int .i64 0]] w fun e w' => e = .returned (.int .i64 0) ∧ Row w' g T (if (0 : Int) = 0 then l.set k (.slice q qs.length c) else l) ∧ Below g w w' ∧ ∀ b t l, b ≠ g → Row w b t l → Row w' b t l) := fun q c w hr => take_any g k T l q _ c 0 _ w hr hk
  generalize rs.length = n at *
  generalize qs.length = N at *
  have y0 : w.cell? ⟨g, k, none⟩ = some (.slice p n c0) := (hr.cell k).trans hk
  go_enter Tryz.func76, Tryz.ntmps76
  go_wp2_with fail
  refine (HC.out _ HX.out).mono ?_
  rintro e w1 ⟨⟨q, c, rfl, ho⟩, hb1⟩
  have r1 := hr.below hb1 hr.lt
  clear y0 HC HX
  go_wp2_with fail
  refine (HT.out q c _ r1).mono ?_
  rintro e w2 ⟨rfl, r2, hb2, hk2⟩
  have hf := HF.out q c w1 w2 hb1 ho r2 hb2 hk2
  clear hb1 ho r2 hb2 hk2 r1 hr HF HT
  go_wp2
  go_ret
  exact ⟨rfl, hf⟩
end Go.Proofs.YtifckpncpjijiaaGreat
