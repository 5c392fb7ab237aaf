/- Texts that stand on each other, in one file: KeysI. -/
import Derived.Test.YtialedffpaoacaaGreatDoorPack20
import Derived.RangeFuncNested
import Derived.RangeFuncBound
import Derived.RangeFuncCalls
import Derived.RangeFuncLeaves
import Derived.Shelf.Abstract
import Derived.Shelf.RegionOpen
import Derived.WalkKit
import Derived.OwnWalkIn
import Derived.TacticsInMore
import Derived.LoopNIn
import Derived.LoopIn
/- maps.Keys of a map of routes: its iterator. -/
namespace Go.Proofs.YtialedffpaoacaaGreatDoor
open Go.RowKit Go.Sort Go.Shelf
attribute [local go_sem] Oper.semAt_some

/-- How many have come. -/
def seenN (w : World) (r : Nat) : Nat := match w.heap[r]? with | some (.mapIter _ _ s _) => s.size | _ => 0
theorem Rng.seen {w : World} {b r : Nat} {rs : List Rt} {got : List NP} (h : Rng w b r rs got) : seenN w r = got.length := by
  obtain ⟨es, clock, seen, ix, _, _, _, _, hr, _, _, hs, hg⟩ := h
  unfold seenN
  rw [hr]
  show seen.size = got.length
  rw [hg, List.length_map, ← Array.length_toList, hs, List.length_map]
theorem Rng.walks {w w' : World} {b r : Nat} {rs : List Rt} {got : List NP} (h : Rng w b r rs got) (hk : KeepsWalks w w') : Rng w' b r rs got := by
  obtain ⟨es, clock, seen, ix, h1, h2, h3, h4, h5, h6⟩ := h
  exact ⟨es, clock, seen, ix, hk.same b _ h1 rfl, h2, h3, h4, hk.same r _ h5 rfl, h6⟩
theorem Rng.alloc {w : World} {b r : Nat} {rs : List Rt} {got : List NP} (h : Rng w b r rs got) (o : Obj) : Rng (w.alloc o) b r rs got := by
  obtain ⟨es, clock, seen, ix, h1, h2, h3, h4, h5, h6⟩ := h
  exact ⟨es, clock, seen, ix, (Below.heap_alloc w o b (Array.getElem?_eq_some_iff.1 h1).1).trans h1, h2, h3, h4, (Below.heap_alloc w o r (Array.getElem?_eq_some_iff.1 h5).1).trans h5, h6⟩
theorem Rng.iter {w : World} {b r : Nat} {rs : List Rt} {got : List NP} (h : Rng w b r rs got) : ∃ o : Obj, w.heap[r]? = some o ∧ o.isWalk = true := by
  obtain ⟨es, clock, seen, ix, _, _, _, _, hr, _⟩ := h
  exact ⟨_, hr, rfl⟩
set_option maxRecDepth 100000 in
set_option maxHeartbeats 1000000 in
/-- The nets come, each once, in some order; or a round says no more. -/
theorem keys1_in (F : Fence) (n : Nat) (hf : F.fn 242) (hro : F.round = none) (hn : 1 ≤ n) (l Bm b : Nat) (rs : List Rt) (J Jx : List NP → World → Prop)
    (hY : ∀ pre x W, J pre W → pre.length < rs.length → YieldAt F (n - 1) Tryz.prog l #[netV x.1 x.2] W fun e W' =>
      (e = .returned (.bool true) ∧ J (pre ++ [x]) W' ∧ KeepsWalks W W') ∨ (e = .returned (.bool false) ∧ Jx (pre ++ [x]) W'))
    (W : World) (hJ : AbidesFrom W.heap.size J) (hm : W.cell? ⟨Bm, 0, none⟩ = some (.map (some b))) (hM : MapIs W b rs) (h0 : J [] W) :
    CallsIn F n Tryz.prog 242 #[.func (.yield l) #[] #[], .pointer (some ⟨Bm, 0, none⟩)] W fun e W' => (∃ v, e = .returned v) ∧
      ((∃ xs : List NP, xs.Perm (rs.map netOfR) ∧ J xs W') ∨ (∃ pre : List NP, True ∧ Jx pre W')) := by
  obtain ⟨w0, hrun0, hrg0, hg0, hs0⟩ := range_run hM
  have hbl := hM.lt
  refine callsIn_of_wp Tryz.func242 rfl hf ?_ hro
  simp only [Tryz.ntmps242, List.size_toArray, List.length_cons, List.length_nil, Nat.reduceAdd, Nat.reduceSub, Array.replicate_succ, Array.replicate_zero, List.push_toArray, List.append_toArray, List.nil_append, List.cons_append]
  gi_wp2
  have hne : b ≠ W.heap.size := by omega
  clear hrun0
  gi_loopw [3] (fun _ wr => ∃ got : List NP, Rng wr b W.heap.size rs got ∧ J got wr) (fun _ wr => rs.length - seenN wr W.heap.size)
  case atStart => exact ⟨[], hrg0, hJ [] W w0 none h0 hg0 (fun r e => by cases e)⟩
  case round =>
    obtain ⟨got, hrg, hJs⟩ := hrel
    rcases rng_next hrg hne 0 with ⟨hP, hrun⟩ | ⟨x, v, w2, hrun, hrg2, hg2, hs2, hlt, hen⟩
    · gi_wp2
      go_end0
      exact ⟨⟨_, rfl⟩, .inl ⟨got, hP, hJs⟩⟩
    · have hJ2 : J got w2 := hJ got wr w2 (some W.heap.size) hJs hg2 (fun r e => by cases e; exact ⟨Nat.le_refl _, hrg.iter⟩)
      have hJ3 : J got (w2.alloc (.cells #[.int .i64 x.1, .int .i64 x.2] 70)) := hJ got w2 _ none hJ2 (World.grownBy_alloc w2 _ none) (fun r e => by cases e)
      have hrg3 : Rng (w2.alloc (.cells #[.int .i64 x.1, .int .i64 x.2] 70)) b W.heap.size rs (got ++ [x]) := hrg2.alloc _
      obtain ⟨fn, tmps, assign, body, hy, hR⟩ := hY got x _ hJ3 hlt
      have hold := hrg.seen
      clear hs2 hg2 hJ2 hrg2 hJ3
      obtain ⟨a, l'⟩ := x
      unfold netV at hrun hen hy
      simp only at hrun hen hy hR hrg3
      gi_wp2
      refine hR.mono ?_
      rintro e W3 (⟨rfl, hJ3, hk3⟩ | ⟨rfl, hJx3⟩)
      · have hrg4 := hrg3.walks hk3
        have hnew := hrg4.seen
        clear hrun hen hy
        gi_wp2
        go_roundw
        case rel => exact ⟨got ++ [(a, l')], hrg4, hJ3⟩
        case measure => rw [hnew, hold, List.length_append]; simp; omega
      · clear hrun hen hy
        gi_wp2
        refine bodyPost_ret (results_none rfl _ _ _) rfl ?_
        exact ⟨⟨_, rfl⟩, .inr ⟨got ++ [(a, l')], trivial, hJx3⟩⟩
end Go.Proofs.YtialedffpaoacaaGreatDoor
