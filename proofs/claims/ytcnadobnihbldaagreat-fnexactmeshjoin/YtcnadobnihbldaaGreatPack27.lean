/- Texts that stand on each other, in one file: WaysI. -/
import Derived.Test.YtcnadobnihbldaaGreatPack13
import Derived.Test.YtcnadobnihbldaaGreatPack6
import Derived.RangeFuncNested
import Derived.RangeFuncBound
import Derived.RangeFuncCalls
import Derived.RangeFuncLeaves
import Derived.Shelf.Abstract
import Derived.Shelf.RegionOpen
import Derived.WalkKit
import Derived.OwnWalkIn
import Derived.TacticsInMore
import Derived.LoopNIn
import Derived.LoopIn
/- Links from either end: impl.endsOf, impl.ways and its iterator. (Written by gen_ways.py.) -/
namespace Go.Proofs.YtcnadobnihbldaaGreat
open Go.RowKit Go.Sort Go.Shelf

attribute [local go_sem] Oper.semAt_some

set_option maxRecDepth 100000 in
set_option maxHeartbeats 4000000 in
theorem endsOf_any (x : Li) (w : World) : Calls Tryz.prog 88 #[liV x] w fun e w' => e = .returned (.agg #[.int .i64 x.la, .int .i64 x.lx, .int .i64 x.lb, .int .i64 x.ly]) ∧ Below w.heap.size w w' := by
  obtain ⟨a, b, c, d⟩ := x
  unfold liV
  have HB : Hid _ := (((Below.refl w.heap.size w).alloc (Nat.le_refl _) (.cells #[.int .i64 a, .int .i64 b, .int .i64 c, .int .i64 d] 56)).alloc (by simp) (.cells #[.int .i64 0, .int .i64 0, .int .i64 0, .int .i64 0] 146))
  go_enter Tryz.func88, Tryz.ntmps88
  go_wp2
  refine bodyPost_ret (v := .agg #[.int .i64 a, .int .i64 b, .int .i64 c, .int .i64 d]) (by simp [results, Tryz.results88, go_sem]) rfl ⟨rfl, ?_⟩
  exact (((Below.refl w.heap.size w).alloc (Nat.le_refl _) _).alloc (by simp) _)
set_option maxRecDepth 100000 in
set_option maxHeartbeats 4000000 in
theorem ways_make (p : Option Addr) (n c : Nat) (w : World) : Calls Tryz.prog 116 #[.slice p n c] w fun e w' => e = .returned (.func (.func 147) #[] #[.pointer (some ⟨w.heap.size, 0, none⟩)]) ∧ w.alloc (.cells #[.slice p n c] 24) = w' := by
  go_enter Tryz.func116, Tryz.ntmps116
  go_wp2
  go_ret
  exact ⟨rfl, rfl⟩
/-- The slice (p, ls.length) holds these Links, in a block of Links. -/
def LisAt (w : World) (p : Option Addr) (ls : List Li) : Prop := ls = [] ∨ ∃ (g : Nat) (cur : Array Value), p = some ⟨g, 0, none⟩ ∧ w.heap[g]? = some (.cells cur 56 (0, 0)) ∧ ∀ (j : Nat) (u : Value), (rowLi ls)[j]? = some u → cur[j]? = some u
theorem LisAt.below {w w' : World} {p : Option Addr} {ls : List Li} (h : LisAt w p ls) (hb : Below w.heap.size w w') : LisAt w' p ls := by
  rcases h with h | ⟨g, cur, hp, hg, hc⟩
  · exact .inl h
  · exact .inr ⟨g, cur, hp, (hb.block g (Array.getElem?_eq_some_iff.1 hg).1).trans hg, hc⟩
theorem lisAt_row {w : World} {g : Nat} {ls : List Li} (h : Row w g 56 (rowLi ls)) : LisAt w (some ⟨g, 0, none⟩) ls := .inr ⟨g, (rowLi ls).toArray, rfl, h, fun j u hj => by simpa using hj⟩
theorem LisAt.lisIn {w : World} {p : Option Addr} {ls : List Li} (h : LisAt w p ls) : LisIn w p ls := by
  rcases h with h | ⟨g, cur, hp, hg, hc⟩
  · exact .inl h
  · refine .inr ⟨g, hp, (Array.getElem?_eq_some_iff.1 hg).1, fun j u hj => ?_⟩
    unfold World.cell?
    rw [hg]
    exact hc j u hj
/-- What a round of a loop over the ways keeps: Links, and arrays of two ends. -/
structure KpW (W W' : World) : Prop where
  size : W.heap.size ≤ W'.heap.size
  rows : ∀ (k : Nat) (cur : Array Value) (t : TypeId), W.heap[k]? = some (Obj.cells cur t (0, 0)) → t = 56 ∨ t = 146 → W'.heap[k]? = W.heap[k]?
theorem KpW.t {A B C : World} (h : KpW A B) (k : KpW B C) : KpW A C :=
  ⟨Nat.le_trans h.size k.size, fun i cur t hi ht => (k.rows i cur t ((h.rows i cur t hi ht).trans hi) ht).trans (h.rows i cur t hi ht)⟩
theorem KpW.b {w : World} (W : World) (l : Nat) (o o' : Obj) (_ : w.heap.size ≤ l) (h : W.heap[l]? = some o) (hc : o.isCells = false) (_ : o.isWalk = false) : KpW W (W.putObj l o') :=
  KpW.mk (by simp) (fun i cur t hi _ => World.putObj_heap_other (fun e => by
    subst e
    rw [h] at hi
    cases hi
    cases hc))
theorem KpW.below {W W' : World} (h : Below W.heap.size W W') : KpW W W' := ⟨h.size, fun k _ _ hk _ => h.block k (Array.getElem?_eq_some_iff.1 hk).1⟩
theorem KpW.lis {W W' : World} (h : KpW W W') {p : Option Addr} {ls : List Li} (hl : LisAt W p ls) : LisAt W' p ls := by
  rcases hl with hl | ⟨g, cur, hp, hg, hc⟩
  · exact .inl hl
  · exact .inr ⟨g, cur, hp, (h.rows g _ _ hg (.inl rfl)).trans hg, hc⟩
theorem KpW.row {W W' : World} (h : KpW W W') {g : Nat} {l : List Value} (hr : Row W g 146 l) : Row W' g 146 l := (h.rows g _ _ hr (.inr rfl)).trans hr
theorem idx0_run (la lx lb ly : Int) (w : World) : (Instr.index 146 (.agg #[.int .i64 la, .int .i64 lx, .int .i64 lb, .int .i64 ly]) (.int .i64 0)).run Tryz.prog w = .ok (.agg #[.int .i64 la, .int .i64 lx]) w := by kernel_rfl
theorem idx1_run (la lx lb ly : Int) (w : World) : (Instr.index 146 (.agg #[.int .i64 la, .int .i64 lx, .int .i64 lb, .int .i64 ly]) (.int .i64 1)).run Tryz.prog w = .ok (.agg #[.int .i64 lb, .int .i64 ly]) w := by kernel_rfl
set_option maxRecDepth 100000 in
set_option maxHeartbeats 4000000 in
theorem ways1_in (n : Nat) (hn : 1 ≤ n) (l Bl : Nat) (p : Option Addr) (c : Nat) (ls : List Li) (h4 : ls.length ≤ 100000000) (J Jx : List (WyS ls) → World → Prop)
    (hY : ∀ pre x W, J pre W → pre.length < 2 * ls.length → YieldAt Fence.wide (n - 1) Tryz.prog l (wyA x.1) W fun e W' =>
      (e = .returned (.bool true) ∧ J (pre ++ [x]) W' ∧ KpW W W') ∨ (e = .returned (.bool false) ∧ Jx (pre ++ [x]) W'))
    (W0 : World) (hJ : AbidesFrom W0.heap.size J) (hT : Row W0 Bl 24 [.slice p ls.length c]) (hL : LisAt W0 p ls) (h0 : J [] W0) :
    CallsIn Fence.wide n Tryz.prog 147 #[.func (.yield l) #[] #[], .pointer (some ⟨Bl, 0, none⟩)] W0 fun e W' => (∃ v, e = .returned v) ∧
      ((∃ xs, xs = wayS ls ∧ J xs W') ∨ (∃ pre, pre <+: wayS ls ∧ Jx pre W')) := by
  refine callsIn_of_wp Tryz.func147 rfl trivial ?_ rfl
  simp only [Tryz.ntmps147, List.size_toArray, List.length_cons, List.length_nil, Nat.reduceAdd, Nat.reduceSub, Array.replicate_succ, Array.replicate_zero, List.push_toArray, List.append_toArray, List.nil_append, List.cons_append]
  have c0 : W0.cell? ⟨Bl, 0, none⟩ = some (.slice p ls.length c) := hT.cell 0
  clear hT
  gi_wp2_with fail
  gi_loopw [10] (fun i wr => ∃ k : Nat, k ≤ ls.length ∧ i = .int .i64 k ∧ J ((wayS ls).take (2 * k)) wr ∧ W0.heap.size ≤ wr.heap.size ∧ LisAt wr p ls) (fun i _ => ls.length - (intOf i).toNat)
  case atStart => exact ⟨0, Nat.zero_le _, rfl, h0, Nat.le_refl _, hL⟩
  case round =>
    clear h0 hL c0
    obtain ⟨k, hk, rfl, hJk, hsk, hLk⟩ := hrel
    by_cases hlt : k < ls.length
    · have d1 : decide ((k : Int) < (ls.length : Int)) = true := by simpa using hlt
      obtain ⟨g, la, lx, lb, ly, rfl, hg, hek, c0, c1, c2, c3⟩ := hLk.lisIn.at k hlt
      have hX : Hid (ls[k] = ⟨la, lx, lb, ly⟩) := hek
      have HE : Hid (∀ w, Calls Tryz.prog 88 #[.agg #[.int .i64 la, .int .i64 lx, .int .i64 lb, .int .i64 ly]] w fun e w' => e = .returned (.agg #[.int .i64 la, .int .i64 lx, .int .i64 lb, .int .i64 ly]) ∧ Below w.heap.size w w') := fun w => endsOf_any ⟨la, lx, lb, ly⟩ w
      have hJ1 := hJ _ wr (wr.alloc (.cells #[.int .i64 la, .int .i64 lx, .int .i64 lb, .int .i64 ly] 56)) none hJk (World.grownBy_alloc wr _ none) (fun r e => by cases e)
      have hB1 : Below wr.heap.size wr (wr.alloc (.cells #[.int .i64 la, .int .i64 lx, .int .i64 lb, .int .i64 ly] 56)) := ent_new0 wr _
      have HH : Hid _ := And.intro hJ1 (And.intro (hLk.below hB1) (show W0.heap.size ≤ (wr.alloc (.cells #[.int .i64 la, .int .i64 lx, .int .i64 lb, .int .i64 ly] 56)).heap.size by simp; omega))
      clear hJk hLk hJ1 hB1 hek hsk hg
      gi_wp2_with fail
      generalize hb1 : wr.heap.size = b1 at *
      clear hb1
      generalize wr.alloc (.cells #[.int .i64 la, .int .i64 lx, .int .i64 lb, .int .i64 ly] 56) = X1 at *
      refine ⟨trivial, (callsIn_wide.2 (HE.out _)).mono ?_⟩
      rintro e X2 ⟨rfl, hb2⟩
      obtain ⟨hJ1, hL1, hs1⟩ := HH.out
      have hJ2 := hJ _ X1 X2 none hJ1 ⟨hb2.os, hb2.tape, hb2.output, hb2.size, fun k hk _ => hb2.block k hk⟩ (fun r e => by cases e)
      have hL2 := hL1.below hb2
      have hs2 := Nat.le_trans hs1 hb2.size
      have hJ3 := hJ _ X2 (X2.alloc (.cells #[.int .i64 la, .int .i64 lx, .int .i64 lb, .int .i64 ly] 146)) none hJ2 (World.grownBy_alloc X2 _ none) (fun r e => by cases e)
      have hL3 := hL2.below (ent_new0 X2 (.cells #[.int .i64 la, .int .i64 lx, .int .i64 lb, .int .i64 ly] 146))
      have hr3 := Row.new X2 146 [.int .i64 la, .int .i64 lx, .int .i64 lb, .int .i64 ly]
      have hz0 : (X2.alloc (.cells #[.int .i64 la, .int .i64 lx, .int .i64 lb, .int .i64 ly] 146)).cell? ⟨X2.heap.size, 0, none⟩ = some (.int .i64 la) := hr3.cell 0
      have hz1 : (X2.alloc (.cells #[.int .i64 la, .int .i64 lx, .int .i64 lb, .int .i64 ly] 146)).cell? ⟨X2.heap.size, 1, none⟩ = some (.int .i64 lx) := hr3.cell 1
      have hz2 : (X2.alloc (.cells #[.int .i64 la, .int .i64 lx, .int .i64 lb, .int .i64 ly] 146)).cell? ⟨X2.heap.size, 2, none⟩ = some (.int .i64 lb) := hr3.cell 2
      have hz3 : (X2.alloc (.cells #[.int .i64 la, .int .i64 lx, .int .i64 lb, .int .i64 ly] 146)).cell? ⟨X2.heap.size, 3, none⟩ = some (.int .i64 ly) := hr3.cell 3
      have HH2 : Hid _ := And.intro hJ3 (And.intro hL3 (And.intro hr3 (show W0.heap.size ≤ (X2.alloc (.cells #[.int .i64 la, .int .i64 lx, .int .i64 lb, .int .i64 ly] 146)).heap.size by simp; omega)))
      clear hJ1 hL1 hs1 hJ2 hL2 hs2 hJ3 hL3 hr3 hb2 HH HE c0 c1 c2 c3
      gi_wp2_with fail
      generalize hb3 : X2.heap.size = b2 at *
      clear hb3 hz0 hz1 hz2 hz3
      generalize X2.alloc (.cells #[.int .i64 la, .int .i64 lx, .int .i64 lb, .int .i64 ly] 146) = X3 at *
      obtain ⟨hJ3, hL3, hr3, hs3⟩ := HH2.out
      clear HH2
      gi_loopw [17] (fun j wr => ∃ m : Nat, m ≤ 2 ∧ j = .int .i64 m ∧ J ((wayS ls).take (2 * k + m)) wr ∧ W0.heap.size ≤ wr.heap.size ∧ LisAt wr (some ⟨g, 0, none⟩) ls ∧ Row wr b2 146 [.int .i64 la, .int .i64 lx, .int .i64 lb, .int .i64 ly]) (fun j _ => 2 - (intOf j).toNat)
      case atStart => exact ⟨0, by omega, rfl, hJ3, hs3, hL3, hr3⟩
      case round =>
        clear hJ3 hL3 hr3 hs3
        obtain ⟨m, hm, rfl, hJ1, hs1, hL1, hrb1⟩ := hrel
        obtain rfl | rfl | rfl : m = 0 ∨ m = 1 ∨ m = 2 := by omega
        · rw [show ((0 : Nat) : Int) = 0 from rfl]
          have hi := fun w => idx0_run la lx lb ly w
          have hV : Hid (((wayS ls)[2 * k + 0]'(by rw [wayS_length]; omega)).1 = wayAB ⟨la, lx, lb, ly⟩) := by
            show _ = _
            rw [wayS_val, ← hX.out]
            have := wayL_at0 ls k hlt
            exact (List.getElem?_eq_some_iff.1 this).2
          have hJ2 := hJ _ wr (wr.alloc (.cells #[.int .i64 la, .int .i64 lx] 135)) none hJ1 (World.grownBy_alloc wr _ none) (fun r e => by cases e)
          have hL2 := hL1.below (ent_new0 wr (.cells #[.int .i64 la, .int .i64 lx] 135))
          have hrb := hrb1.below (ent_new0 wr (.cells #[.int .i64 la, .int .i64 lx] 135)) hrb1.lt
          have hrf := Row.new wr 135 [.int .i64 la, .int .i64 lx]
          have hs2 : W0.heap.size ≤ (wr.alloc (.cells #[.int .i64 la, .int .i64 lx] 135)).heap.size := by simp; omega
          have HH3 : Hid _ := And.intro hJ2 (And.intro hL2 (And.intro hrb (And.intro hrf hs2)))
          clear hJ1 hL1 hrb1 hJ2 hL2 hrb hrf hs1 hs2
          gi_wp2_with fail
          generalize hb3 : wr.heap.size = b3 at *
          clear hb3
          generalize wr.alloc (.cells #[.int .i64 la, .int .i64 lx] 135) = X4 at *
          obtain ⟨hJ2, hL2, hrb, hrf, hs2⟩ := HH3.out
          clear HH3
          have hGN : (([(21, Is (.func (.yield l) #[] #[])), (22, Is (.agg #[.int .i64 la, .int .i64 lx])), (23, Is (.int .i64 0)), (24, Is (.int .i64 1)), (25, Is (.pointer (some ⟨b2, 2, none⟩))), (26, Is (.agg #[.int .i64 lb, .int .i64 ly]))] : List (Nat × (Value → World → Prop))).map (·.1)).Nodup := by simp
          refine wpIn_region_front 6 (SlotG [(21, Is (.func (.yield l) #[] #[])), (22, Is (.agg #[.int .i64 la, .int .i64 lx])), (23, Is (.int .i64 0)), (24, Is (.int .i64 1)), (25, Is (.pointer (some ⟨b2, 2, none⟩))), (26, Is (.agg #[.int .i64 lb, .int .i64 ly]))]) (by kernel_rfl) (by kernel_rfl) (lets_wide (by kernel_rfl)) (Stabs.all ⟨stab_is _, stab_is _, stab_is _, stab_is _, stab_is _, stab_is _, trivial⟩) ?_ ?_
          · intro o ho
            simp only [List.take_succ_cons, List.take_zero, List.mem_cons, List.not_mem_nil, or_false] at ho
            rcases ho with rfl | rfl | rfl | rfl | rfl | rfl
            · intro a' w' hb ha hdep
              have d0 : a'.tmps.getD 0 undef = .func (.yield l) #[] #[] := ha.at 0 (by kernel_rfl)
              have hmk := fun (x : Value) (W : World) => SlotG.mk (x := x) (w := W) 0 rfl hGN
              clear hGN ha hdep
              go_simp
              exact ⟨_, rfl, Below.refl _ _, hmk _ _ rfl⟩
            · intro a' w' hb ha hdep
              have d7 : a'.tmps.getD 7 undef = .pointer (some ⟨b3, 0, none⟩) := ha.at 7 (by kernel_rfl)
              have hmk := fun (x : Value) (W : World) => SlotG.mk (x := x) (w := W) 1 rfl hGN
              clear hGN ha hdep
              have y0 : w'.cell? ⟨b3, 0, none⟩ = some (.int .i64 la) := (hrf.below hb hrf.lt).cell 0
              have y1 : w'.cell? ⟨b3, 1, none⟩ = some (.int .i64 lx) := (hrf.below hb hrf.lt).cell 1
              go_simp
              exact ⟨_, rfl, Below.refl _ _, hmk _ _ rfl⟩
            · intro a' w' hb ha hdep
              have d6 : a'.tmps.getD 6 undef = .int .i64 0 := ha.at 6 (by kernel_rfl)
              have hmk := fun (x : Value) (W : World) => SlotG.mk (x := x) (w := W) 2 rfl hGN
              clear hGN ha hdep
              go_simp
              exact ⟨_, rfl, Below.refl _ _, hmk _ _ rfl⟩
            · intro a' w' hb ha hdep
              have d23 : a'.tmps.getD 23 undef = .int .i64 0 := (hdep 23 (of_decide_eq_true (by kernel_rfl))).is 2 rfl
              have hmk := fun (x : Value) (W : World) => SlotG.mk (x := x) (w := W) 3 rfl hGN
              clear hGN ha hdep
              go_simp
              exact ⟨_, rfl, Below.refl _ _, hmk _ _ rfl⟩
            · intro a' w' hb ha hdep
              have d5 : a'.tmps.getD 5 undef = .pointer (some ⟨b2, 0, none⟩) := ha.at 5 (by kernel_rfl)
              have d24 : a'.tmps.getD 24 undef = .int .i64 1 := (hdep 24 (of_decide_eq_true (by kernel_rfl))).is 3 rfl
              have hmk := fun (x : Value) (W : World) => SlotG.mk (x := x) (w := W) 4 rfl hGN
              clear hGN ha hdep
              go_simp
              exact ⟨_, rfl, Below.refl _ _, hmk _ _ rfl⟩
            · intro a' w' hb ha hdep
              have d25 : a'.tmps.getD 25 undef = .pointer (some ⟨b2, 2, none⟩) := (hdep 25 (of_decide_eq_true (by kernel_rfl))).is 4 rfl
              have hmk := fun (x : Value) (W : World) => SlotG.mk (x := x) (w := W) 5 rfl hGN
              clear hGN ha hdep
              have y0 : w'.cell? ⟨b2, 2, none⟩ = some (.int .i64 lb) := (hrb.below hb hrb.lt).cell 2
              have y1 : w'.cell? ⟨b2, 3, none⟩ = some (.int .i64 ly) := (hrb.below hb hrb.lt).cell 3
              go_simp
              exact ⟨_, rfl, Below.refl _ _, hmk _ _ rfl⟩
          · intro a' w' hb ha hG
            clear hGN
            have d21 : a'.tmps.getD 21 undef = .func (.yield l) #[] #[] := (hG _ (List.mem_of_getElem? (i := 0) rfl) 21 rfl).is 0 rfl
            have d22 : a'.tmps.getD 22 undef = .agg #[.int .i64 la, .int .i64 lx] := (hG _ (List.mem_of_getElem? (i := 1) rfl) 22 rfl).is 1 rfl
            have d23 : a'.tmps.getD 23 undef = .int .i64 0 := (hG _ (List.mem_of_getElem? (i := 2) rfl) 23 rfl).is 2 rfl
            have d24 : a'.tmps.getD 24 undef = .int .i64 1 := (hG _ (List.mem_of_getElem? (i := 3) rfl) 24 rfl).is 3 rfl
            have d25 : a'.tmps.getD 25 undef = .pointer (some ⟨b2, 2, none⟩) := (hG _ (List.mem_of_getElem? (i := 4) rfl) 25 rfl).is 4 rfl
            have d26 : a'.tmps.getD 26 undef = .agg #[.int .i64 lb, .int .i64 ly] := (hG _ (List.mem_of_getElem? (i := 5) rfl) 26 rfl).is 5 rfl
            have d0 : a'.tmps.getD 0 undef = .func (.yield l) #[] #[] := ha.at 0 (by kernel_rfl)
            have d1 : a'.tmps.getD 1 undef = .pointer (some ⟨Bl, 0, none⟩) := ha.at 1 (by kernel_rfl)
            have d2 : a'.tmps.getD 2 undef = undef := ha.at 2 (by kernel_rfl)
            have d3 : a'.tmps.getD 3 undef = undef := ha.at 3 (by kernel_rfl)
            have d4 : a'.tmps.getD 4 undef = .pointer (some ⟨b1, 0, none⟩) := ha.at 4 (by kernel_rfl)
            have d5 : a'.tmps.getD 5 undef = .pointer (some ⟨b2, 0, none⟩) := ha.at 5 (by kernel_rfl)
            have d8 : a'.tmps.getD 8 undef = .slice (some ⟨g, 0, none⟩) ls.length c := ha.at 8 (by kernel_rfl)
            have d9 : a'.tmps.getD 9 undef = .int .i64 (ls.length : Int) := ha.at 9 (by kernel_rfl)
            have d10 : a'.tmps.getD 10 undef = .int .i64 (k : Int) := ha.at 10 (by kernel_rfl)
            have d11 : a'.tmps.getD 11 undef = .bool true := ha.at 11 (by kernel_rfl)
            have d12 : a'.tmps.getD 12 undef = .pointer (some ⟨g, k * 4, none⟩) := ha.at 12 (by kernel_rfl)
            have d13 : a'.tmps.getD 13 undef = .agg #[.int .i64 la, .int .i64 lx, .int .i64 lb, .int .i64 ly] := ha.at 13 (by kernel_rfl)
            have d14 : a'.tmps.getD 14 undef = .agg #[.int .i64 la, .int .i64 lx, .int .i64 lb, .int .i64 ly] := ha.at 14 (by kernel_rfl)
            have d15 : a'.tmps.getD 15 undef = .agg #[.int .i64 la, .int .i64 lx, .int .i64 lb, .int .i64 ly] := ha.at 15 (by kernel_rfl)
            have d16 : a'.tmps.getD 16 undef = .agg #[.int .i64 la, .int .i64 lx, .int .i64 lb, .int .i64 ly] := ha.at 16 (by kernel_rfl)
            have d17 : a'.tmps.getD 17 undef = .int .i64 0 := ha.at 17 (by kernel_rfl)
            have d30 : a'.tmps.getD 30 undef = u30 := ha.at 30 (by kernel_rfl)
            have e2 : a' = ⟨#[a'.tmps.getD 0 undef, a'.tmps.getD 1 undef, a'.tmps.getD 2 undef, a'.tmps.getD 3 undef, a'.tmps.getD 4 undef, a'.tmps.getD 5 undef, a'.tmps.getD 6 undef, a'.tmps.getD 7 undef, a'.tmps.getD 8 undef, a'.tmps.getD 9 undef, a'.tmps.getD 10 undef, a'.tmps.getD 11 undef, a'.tmps.getD 12 undef, a'.tmps.getD 13 undef, a'.tmps.getD 14 undef, a'.tmps.getD 15 undef, a'.tmps.getD 16 undef, a'.tmps.getD 17 undef, a'.tmps.getD 18 undef, a'.tmps.getD 19 undef, a'.tmps.getD 20 undef, a'.tmps.getD 21 undef, a'.tmps.getD 22 undef, a'.tmps.getD 23 undef, a'.tmps.getD 24 undef, a'.tmps.getD 25 undef, a'.tmps.getD 26 undef, a'.tmps.getD 27 undef, a'.tmps.getD 28 undef, a'.tmps.getD 29 undef, a'.tmps.getD 30 undef], []⟩ := by rw [← (show a'.defers = [] from ha.2.1)]; exact act_eq a' 31 ha.1
            rw [d21, d22, d23, d24, d25, d26, d0, d1, d2, d3, d4, d5, d8, d9, d10, d11, d12, d13, d14, d15, d16, d17, d30] at e2
            clear hG ha d21 d22 d23 d24 d25 d26 d0 d1 d2 d3 d4 d5 d8 d9 d10 d11 d12 d13 d14 d15 d16 d17 d30
            generalize a'.tmps.getD 6 undef = x6 at *
            generalize a'.tmps.getD 7 undef = x7 at *
            generalize a'.tmps.getD 18 undef = x18 at *
            generalize a'.tmps.getD 19 undef = x19 at *
            generalize a'.tmps.getD 20 undef = x20 at *
            generalize a'.tmps.getD 27 undef = x27 at *
            generalize a'.tmps.getD 28 undef = x28 at *
            generalize a'.tmps.getD 29 undef = x29 at *
            subst e2
            simp only [List.drop_succ_cons, List.drop_zero]
            have hJ3 := hJ _ X4 w' none hJ2 ⟨hb.os, hb.tape, hb.output, hb.size, fun k hk _ => hb.block k hk⟩ (fun r e => by cases e)
            have hL3 := hL2.below hb
            have hrb3 := hrb.below hb hrb.lt
            have hs3 := Nat.le_trans hs2 hb.size
            clear hJ2 hL2 hrb hs2 hb hrf
            have hlen : ((wayS ls).take (2 * k + 0)).length < 2 * ls.length := by rw [List.length_take, wayS_length]; omega
            obtain ⟨fn, tmps, assign, body, hy, hR⟩ := hY ((wayS ls).take (2 * k + 0)) ((wayS ls)[2 * k + 0]'(by rw [wayS_length]; omega)) w' hJ3 hlen
            rw [hV.out, wyA] at hy
            simp only [wayAB] at hy
            rw [← List.take_succ_eq_append_getElem (show 2 * k + 0 < (wayS ls).length by rw [wayS_length]; omega)] at hR
            clear hJ3 hlen
            gi_wp2
            refine hR.mono ?_
            rintro e W3 (⟨rfl, hJ4, hk4⟩ | ⟨rfl, hJx4⟩)
            · have hL4 := hk4.lis hL3
              have hrb4 := hk4.row hrb3
              have hs4 := Nat.le_trans hs3 hk4.size
              have HZ : Hid _ := And.intro hJ4 (And.intro hs4 (And.intro hL4 hrb4))
              clear hJ4 hk4 hL4 hrb4 hs4 hL3 hrb3 hs3 hy hR
              gi_wp2
              go_roundw
              case rel => exact ⟨1, by omega, by go_num, HZ.out.1, HZ.out.2.1, HZ.out.2.2.1, HZ.out.2.2.2⟩
              case measure => simp [intOf]
            · clear hL3 hrb3 hs3 hy hR
              gi_wp2
              refine bodyPost_ret (results_none rfl _ _ _) rfl ?_
              exact ⟨⟨_, rfl⟩, .inr ⟨(wayS ls).take (2 * k + 0 + 1), List.take_prefix _ _, hJx4⟩⟩
        · rw [show ((1 : Nat) : Int) = 1 from rfl]
          have hi := fun w => idx1_run la lx lb ly w
          have hV : Hid (((wayS ls)[2 * k + 1]'(by rw [wayS_length]; omega)).1 = wayBA ⟨la, lx, lb, ly⟩) := by
            show _ = _
            rw [wayS_val, ← hX.out]
            have := wayL_at1 ls k hlt
            exact (List.getElem?_eq_some_iff.1 this).2
          have hJ2 := hJ _ wr (wr.alloc (.cells #[.int .i64 lb, .int .i64 ly] 135)) none hJ1 (World.grownBy_alloc wr _ none) (fun r e => by cases e)
          have hL2 := hL1.below (ent_new0 wr (.cells #[.int .i64 lb, .int .i64 ly] 135))
          have hrb := hrb1.below (ent_new0 wr (.cells #[.int .i64 lb, .int .i64 ly] 135)) hrb1.lt
          have hrf := Row.new wr 135 [.int .i64 lb, .int .i64 ly]
          have hs2 : W0.heap.size ≤ (wr.alloc (.cells #[.int .i64 lb, .int .i64 ly] 135)).heap.size := by simp; omega
          have HH3 : Hid _ := And.intro hJ2 (And.intro hL2 (And.intro hrb (And.intro hrf hs2)))
          clear hJ1 hL1 hrb1 hJ2 hL2 hrb hrf hs1 hs2
          gi_wp2_with fail
          generalize hb3 : wr.heap.size = b3 at *
          clear hb3
          generalize wr.alloc (.cells #[.int .i64 lb, .int .i64 ly] 135) = X4 at *
          obtain ⟨hJ2, hL2, hrb, hrf, hs2⟩ := HH3.out
          clear HH3
          have hGN : (([(21, Is (.func (.yield l) #[] #[])), (22, Is (.agg #[.int .i64 lb, .int .i64 ly])), (23, Is (.int .i64 1)), (24, Is (.int .i64 0)), (25, Is (.pointer (some ⟨b2, 0, none⟩))), (26, Is (.agg #[.int .i64 la, .int .i64 lx]))] : List (Nat × (Value → World → Prop))).map (·.1)).Nodup := by simp
          refine wpIn_region_front 6 (SlotG [(21, Is (.func (.yield l) #[] #[])), (22, Is (.agg #[.int .i64 lb, .int .i64 ly])), (23, Is (.int .i64 1)), (24, Is (.int .i64 0)), (25, Is (.pointer (some ⟨b2, 0, none⟩))), (26, Is (.agg #[.int .i64 la, .int .i64 lx]))]) (by kernel_rfl) (by kernel_rfl) (lets_wide (by kernel_rfl)) (Stabs.all ⟨stab_is _, stab_is _, stab_is _, stab_is _, stab_is _, stab_is _, trivial⟩) ?_ ?_
          · intro o ho
            simp only [List.take_succ_cons, List.take_zero, List.mem_cons, List.not_mem_nil, or_false] at ho
            rcases ho with rfl | rfl | rfl | rfl | rfl | rfl
            · intro a' w' hb ha hdep
              have d0 : a'.tmps.getD 0 undef = .func (.yield l) #[] #[] := ha.at 0 (by kernel_rfl)
              have hmk := fun (x : Value) (W : World) => SlotG.mk (x := x) (w := W) 0 rfl hGN
              clear hGN ha hdep
              go_simp
              exact ⟨_, rfl, Below.refl _ _, hmk _ _ rfl⟩
            · intro a' w' hb ha hdep
              have d7 : a'.tmps.getD 7 undef = .pointer (some ⟨b3, 0, none⟩) := ha.at 7 (by kernel_rfl)
              have hmk := fun (x : Value) (W : World) => SlotG.mk (x := x) (w := W) 1 rfl hGN
              clear hGN ha hdep
              have y0 : w'.cell? ⟨b3, 0, none⟩ = some (.int .i64 lb) := (hrf.below hb hrf.lt).cell 0
              have y1 : w'.cell? ⟨b3, 1, none⟩ = some (.int .i64 ly) := (hrf.below hb hrf.lt).cell 1
              go_simp
              exact ⟨_, rfl, Below.refl _ _, hmk _ _ rfl⟩
            · intro a' w' hb ha hdep
              have d6 : a'.tmps.getD 6 undef = .int .i64 1 := ha.at 6 (by kernel_rfl)
              have hmk := fun (x : Value) (W : World) => SlotG.mk (x := x) (w := W) 2 rfl hGN
              clear hGN ha hdep
              go_simp
              exact ⟨_, rfl, Below.refl _ _, hmk _ _ rfl⟩
            · intro a' w' hb ha hdep
              have d23 : a'.tmps.getD 23 undef = .int .i64 1 := (hdep 23 (of_decide_eq_true (by kernel_rfl))).is 2 rfl
              have hmk := fun (x : Value) (W : World) => SlotG.mk (x := x) (w := W) 3 rfl hGN
              clear hGN ha hdep
              go_simp
              exact ⟨_, rfl, Below.refl _ _, hmk _ _ rfl⟩
            · intro a' w' hb ha hdep
              have d5 : a'.tmps.getD 5 undef = .pointer (some ⟨b2, 0, none⟩) := ha.at 5 (by kernel_rfl)
              have d24 : a'.tmps.getD 24 undef = .int .i64 0 := (hdep 24 (of_decide_eq_true (by kernel_rfl))).is 3 rfl
              have hmk := fun (x : Value) (W : World) => SlotG.mk (x := x) (w := W) 4 rfl hGN
              clear hGN ha hdep
              go_simp
              exact ⟨_, rfl, Below.refl _ _, hmk _ _ rfl⟩
            · intro a' w' hb ha hdep
              have d25 : a'.tmps.getD 25 undef = .pointer (some ⟨b2, 0, none⟩) := (hdep 25 (of_decide_eq_true (by kernel_rfl))).is 4 rfl
              have hmk := fun (x : Value) (W : World) => SlotG.mk (x := x) (w := W) 5 rfl hGN
              clear hGN ha hdep
              have y0 : w'.cell? ⟨b2, 0, none⟩ = some (.int .i64 la) := (hrb.below hb hrb.lt).cell 0
              have y1 : w'.cell? ⟨b2, 1, none⟩ = some (.int .i64 lx) := (hrb.below hb hrb.lt).cell 1
              go_simp
              exact ⟨_, rfl, Below.refl _ _, hmk _ _ rfl⟩
          · intro a' w' hb ha hG
            clear hGN
            have d21 : a'.tmps.getD 21 undef = .func (.yield l) #[] #[] := (hG _ (List.mem_of_getElem? (i := 0) rfl) 21 rfl).is 0 rfl
            have d22 : a'.tmps.getD 22 undef = .agg #[.int .i64 lb, .int .i64 ly] := (hG _ (List.mem_of_getElem? (i := 1) rfl) 22 rfl).is 1 rfl
            have d23 : a'.tmps.getD 23 undef = .int .i64 1 := (hG _ (List.mem_of_getElem? (i := 2) rfl) 23 rfl).is 2 rfl
            have d24 : a'.tmps.getD 24 undef = .int .i64 0 := (hG _ (List.mem_of_getElem? (i := 3) rfl) 24 rfl).is 3 rfl
            have d25 : a'.tmps.getD 25 undef = .pointer (some ⟨b2, 0, none⟩) := (hG _ (List.mem_of_getElem? (i := 4) rfl) 25 rfl).is 4 rfl
            have d26 : a'.tmps.getD 26 undef = .agg #[.int .i64 la, .int .i64 lx] := (hG _ (List.mem_of_getElem? (i := 5) rfl) 26 rfl).is 5 rfl
            have d0 : a'.tmps.getD 0 undef = .func (.yield l) #[] #[] := ha.at 0 (by kernel_rfl)
            have d1 : a'.tmps.getD 1 undef = .pointer (some ⟨Bl, 0, none⟩) := ha.at 1 (by kernel_rfl)
            have d2 : a'.tmps.getD 2 undef = undef := ha.at 2 (by kernel_rfl)
            have d3 : a'.tmps.getD 3 undef = undef := ha.at 3 (by kernel_rfl)
            have d4 : a'.tmps.getD 4 undef = .pointer (some ⟨b1, 0, none⟩) := ha.at 4 (by kernel_rfl)
            have d5 : a'.tmps.getD 5 undef = .pointer (some ⟨b2, 0, none⟩) := ha.at 5 (by kernel_rfl)
            have d8 : a'.tmps.getD 8 undef = .slice (some ⟨g, 0, none⟩) ls.length c := ha.at 8 (by kernel_rfl)
            have d9 : a'.tmps.getD 9 undef = .int .i64 (ls.length : Int) := ha.at 9 (by kernel_rfl)
            have d10 : a'.tmps.getD 10 undef = .int .i64 (k : Int) := ha.at 10 (by kernel_rfl)
            have d11 : a'.tmps.getD 11 undef = .bool true := ha.at 11 (by kernel_rfl)
            have d12 : a'.tmps.getD 12 undef = .pointer (some ⟨g, k * 4, none⟩) := ha.at 12 (by kernel_rfl)
            have d13 : a'.tmps.getD 13 undef = .agg #[.int .i64 la, .int .i64 lx, .int .i64 lb, .int .i64 ly] := ha.at 13 (by kernel_rfl)
            have d14 : a'.tmps.getD 14 undef = .agg #[.int .i64 la, .int .i64 lx, .int .i64 lb, .int .i64 ly] := ha.at 14 (by kernel_rfl)
            have d15 : a'.tmps.getD 15 undef = .agg #[.int .i64 la, .int .i64 lx, .int .i64 lb, .int .i64 ly] := ha.at 15 (by kernel_rfl)
            have d16 : a'.tmps.getD 16 undef = .agg #[.int .i64 la, .int .i64 lx, .int .i64 lb, .int .i64 ly] := ha.at 16 (by kernel_rfl)
            have d17 : a'.tmps.getD 17 undef = .int .i64 1 := ha.at 17 (by kernel_rfl)
            have d30 : a'.tmps.getD 30 undef = u30 := ha.at 30 (by kernel_rfl)
            have e2 : a' = ⟨#[a'.tmps.getD 0 undef, a'.tmps.getD 1 undef, a'.tmps.getD 2 undef, a'.tmps.getD 3 undef, a'.tmps.getD 4 undef, a'.tmps.getD 5 undef, a'.tmps.getD 6 undef, a'.tmps.getD 7 undef, a'.tmps.getD 8 undef, a'.tmps.getD 9 undef, a'.tmps.getD 10 undef, a'.tmps.getD 11 undef, a'.tmps.getD 12 undef, a'.tmps.getD 13 undef, a'.tmps.getD 14 undef, a'.tmps.getD 15 undef, a'.tmps.getD 16 undef, a'.tmps.getD 17 undef, a'.tmps.getD 18 undef, a'.tmps.getD 19 undef, a'.tmps.getD 20 undef, a'.tmps.getD 21 undef, a'.tmps.getD 22 undef, a'.tmps.getD 23 undef, a'.tmps.getD 24 undef, a'.tmps.getD 25 undef, a'.tmps.getD 26 undef, a'.tmps.getD 27 undef, a'.tmps.getD 28 undef, a'.tmps.getD 29 undef, a'.tmps.getD 30 undef], []⟩ := by rw [← (show a'.defers = [] from ha.2.1)]; exact act_eq a' 31 ha.1
            rw [d21, d22, d23, d24, d25, d26, d0, d1, d2, d3, d4, d5, d8, d9, d10, d11, d12, d13, d14, d15, d16, d17, d30] at e2
            clear hG ha d21 d22 d23 d24 d25 d26 d0 d1 d2 d3 d4 d5 d8 d9 d10 d11 d12 d13 d14 d15 d16 d17 d30
            generalize a'.tmps.getD 6 undef = x6 at *
            generalize a'.tmps.getD 7 undef = x7 at *
            generalize a'.tmps.getD 18 undef = x18 at *
            generalize a'.tmps.getD 19 undef = x19 at *
            generalize a'.tmps.getD 20 undef = x20 at *
            generalize a'.tmps.getD 27 undef = x27 at *
            generalize a'.tmps.getD 28 undef = x28 at *
            generalize a'.tmps.getD 29 undef = x29 at *
            subst e2
            simp only [List.drop_succ_cons, List.drop_zero]
            have hJ3 := hJ _ X4 w' none hJ2 ⟨hb.os, hb.tape, hb.output, hb.size, fun k hk _ => hb.block k hk⟩ (fun r e => by cases e)
            have hL3 := hL2.below hb
            have hrb3 := hrb.below hb hrb.lt
            have hs3 := Nat.le_trans hs2 hb.size
            clear hJ2 hL2 hrb hs2 hb hrf
            have hlen : ((wayS ls).take (2 * k + 1)).length < 2 * ls.length := by rw [List.length_take, wayS_length]; omega
            obtain ⟨fn, tmps, assign, body, hy, hR⟩ := hY ((wayS ls).take (2 * k + 1)) ((wayS ls)[2 * k + 1]'(by rw [wayS_length]; omega)) w' hJ3 hlen
            rw [hV.out, wyA] at hy
            simp only [wayBA] at hy
            rw [← List.take_succ_eq_append_getElem (show 2 * k + 1 < (wayS ls).length by rw [wayS_length]; omega)] at hR
            clear hJ3 hlen
            gi_wp2
            refine hR.mono ?_
            rintro e W3 (⟨rfl, hJ4, hk4⟩ | ⟨rfl, hJx4⟩)
            · have hL4 := hk4.lis hL3
              have hrb4 := hk4.row hrb3
              have hs4 := Nat.le_trans hs3 hk4.size
              have HZ : Hid _ := And.intro hJ4 (And.intro hs4 (And.intro hL4 hrb4))
              clear hJ4 hk4 hL4 hrb4 hs4 hL3 hrb3 hs3 hy hR
              gi_wp2
              go_roundw
              case rel => exact ⟨2, by omega, by go_num, HZ.out.1, HZ.out.2.1, HZ.out.2.2.1, HZ.out.2.2.2⟩
              case measure => simp [intOf]
            · clear hL3 hrb3 hs3 hy hR
              gi_wp2
              refine bodyPost_ret (results_none rfl _ _ _) rfl ?_
              exact ⟨⟨_, rfl⟩, .inr ⟨(wayS ls).take (2 * k + 1 + 1), List.take_prefix _ _, hJx4⟩⟩
        · rw [show ((2 : Nat) : Int) = 2 from rfl]
          have HZ : Hid _ := And.intro hJ1 (And.intro hs1 hL1)
          clear hJ1 hs1 hL1 hrb1
          gi_wp2
          go_roundw
          case rel => exact ⟨k + 1, hlt, by go_num, (by have := HZ.out.1; rw [show 2 * (k + 1) = 2 * k + 2 by omega]; exact this), HZ.out.2.1, HZ.out.2.2⟩
          case measure => simp [intOf]; omega
    · obtain rfl : k = ls.length := by omega
      have d1 : decide ((ls.length : Int) < (ls.length : Int)) = false := by simp
      rw [List.take_of_length_le (by rw [wayS_length]; omega)] at hJk
      clear hlt hk
      gi_wp2
      go_end0
      exact ⟨⟨_, rfl⟩, .inl ⟨_, rfl, hJk⟩⟩
theorem ways_stops (n : Nat) (hn : 1 ≤ n) (Bl : Nat) (p : Option Addr) (c : Nat) (ls : List Li) (h4 : ls.length ≤ 100000000) (w : World) (hT : Row w Bl 24 [.slice p ls.length c]) (hL : LisAt w p ls) :
    SeqStopsK Fence.wide n Tryz.prog 147 #[.pointer (some ⟨Bl, 0, none⟩)] (fun x : WyS ls => wyA x.1) KpW (fun xs => xs = wayS ls) (fun pre => pre <+: wayS ls) (2 * ls.length) w := fun l J Jx W hW hJ _ hY h0 =>
  ways1_in n hn l Bl p c ls h4 J Jx hY W hJ (hT.below hW hT.lt) (hL.below hW) h0
end Go.Proofs.YtcnadobnihbldaaGreat
