/- Texts that stand on each other, in one file: LoopT. -/
import Derived.RangeFuncNested
/- A range over a function whose rounds may change what that function reads. -/
namespace Go.Proofs.YtcnadobnihbldaaGreat
open Go.RowKit

theorem wpIn_turns {α : Type} {n : Nat} {P : Program} {g : Operand} {ps : Array Tmp} {assign body : Code} {Q : Exit → Act → World → Prop} {a : Act} {w : World}
    (h1 : 1 ≤ n) {gf : Nat} {lb : Array Value} (hg : a.eval g = .func (.func gf) #[] lb) (eg : ∀ args w, (callFunc gf args).run P w = .ok (.enter gf args) w)
    (enc : α → Value) (xs : List α) (hps : ps.size = 1) (Kp : World → World → Prop) (hKt : ∀ {A B C : World}, Kp A B → Kp B C → Kp A C)
    (hKb : ∀ (W : World) (o o' : Obj), W.heap[w.heap.size + 1]? = some o → o.isCells = false → Kp W (W.putObj (w.heap.size + 1) o'))
    (I : List α → World → Prop) (hIg : ∀ s X Y, I s X → X.grownBy Y none → I s Y) (hIp : ∀ s X r o, I s X → X.heap[w.heap.size + 1]? = some (.loop r) → I s (X.putObj (w.heap.size + 1) o))
    (hseq : ∀ (l : Nat) (J : List α → World → Prop) (W : World), Below w.heap.size w W → (∀ s X Y, J s X → X.grownBy Y none → J s Y) → (∀ s X, J s X → I s X) →
      (∀ k (hk : k < xs.length) X, J (xs.take k) X → YieldAt Fence.wide (n - 1 - 1) P l #[enc xs[k]] X fun e Y => e = .returned (.bool true) ∧ J (xs.take (k + 1)) Y ∧ Kp X Y) → J [] W →
      CallsIn Fence.wide (n - 1) P gf (#[.func (.yield l) #[] #[]] ++ lb) W fun e Y => (∃ v, e = .returned v) ∧ J xs Y)
    (h0 : I [] w) (A : Nat → Act → World → Prop) (hAp : ∀ k a' X r o, A k a' X → X.heap[w.heap.size + 1]? = some (.loop r) → A k a' (X.putObj (w.heap.size + 1) o))
    (hassign : ∀ (l k : Nat) (hk : k < xs.length) (X : World) (K : Act → World → Prop), I (xs.take k) X → (∀ a' X', KeepsFrom w.heap.size X X' → Kp X X' → A k a' X' → K a' X') →
      assign.wpIn (Fence.wide.inRound l) (n - 1 - 1) P (Exit.then K (fun _ _ _ => False)) { tmps := (ps.zip #[enc xs[k]]).foldl (fun t (p, v) => t.setIfInBounds p v) a.tmps, defers := [] } X)
    (hbody : ∀ (l k : Nat) (_ : k < xs.length) (a' : Act) (X : World), A k a' X → body.wpIn (Fence.wide.inRound l) (n - 1 - 1) P (fun e _ X' => e = .normal ∧ KeepsFrom w.heap.size X X' ∧ Kp X X' ∧ I (xs.take (k + 1)) X') a' X)
    (hdone : ∀ W, I xs W → W.heap[w.heap.size]? = some (.deferred (some [])) → Q .normal { a with defers := { target := .collected w.heap.size, args := #[] } :: a.defers } W) :
    (Code.rangeFunc g ps assign body).wpIn Fence.wide n P Q a w := by
  refine wpIn_rangeFunc ?_
  intro fn hfn
  rw [show Fence.wide.round = none from rfl]
  obtain ⟨rd, hrd⟩ : ∃ rd : LoopState → Loop, rd = fun st => { state := st, pending := none, fn, tmps := a.tmps, params := ps, assign, body, defers := w.heap.size } := ⟨_, rfl⟩
  obtain ⟨V, hV⟩ : ∃ V, (w.alloc (.deferred (some []))).alloc (.loop (rd .ready)) = V := ⟨_, rfl⟩
  have hs : V.heap.size = w.heap.size + 1 + 1 := by rw [← hV]; simp
  have hbV : Below w.heap.size w V := by rw [← hV]; exact ((Below.refl _ w).alloc (Nat.le_refl _) _).alloc (by simp) _
  have hgV : w.grownBy V none := ⟨hbV.os, hbV.tape, hbV.output, hbV.size, fun k hk _ => hbV.block k hk⟩
  have hL : V.heap[w.heap.size + 1]? = some (.loop (rd .ready)) := by
    rw [← hV]; have := World.alloc_heap_new (w.alloc (.deferred (some []))) (.loop (rd .ready)); rwa [World.size_alloc] at this
  have hD : V.heap[w.heap.size]? = some (.deferred (some [])) := by
    rw [← hV]; exact (Below.heap_alloc _ _ _ (by simp)).trans (World.alloc_heap_new w _)
  refine ⟨w.heap.size + 1, [{ target := .collected w.heap.size, args := #[] }], V, { target := .fn (.func gf) lb, args := #[.func (.yield (w.heap.size + 1)) #[] #[]] }, V, gf,
    #[.func (.yield (w.heap.size + 1)) #[] #[]] ++ lb, V, by rw [← hV, hrd]; exact run_enterLoop_outer _ _ _ _ _, ?_, fun _ _ => trivial, ?_, fun _ => h1, ?_⟩
  · simp only [resolve, hg]
    simp [go_sem]
  · simp [invoke, go_sem, eg]
  refine (hseq (w.heap.size + 1) (fun s X => I s X ∧ X.heap[w.heap.size + 1]? = some (.loop (rd .ready)) ∧ X.heap[w.heap.size]? = some (.deferred (some []))) V hbV
    (fun s X Y h hXY => ⟨hIg s X Y h.1 hXY, (hXY.block _ (Array.getElem?_eq_some_iff.1 h.2.1).1 (by simp)).trans h.2.1, (hXY.block _ (Array.getElem?_eq_some_iff.1 h.2.2).1 (by simp)).trans h.2.2⟩)
    (fun s X h => h.1) ?_ ⟨hIg _ _ _ h0 hgV, hL, hD⟩).mono ?_
  · rintro k hk X ⟨hi, hl, hd⟩
    have hy := run_yield (P := P) (args := #[enc xs[k]]) hl (by rw [hrd]; exact hps.symm)
    rw [hrd] at hy
    refine ⟨fn, _, assign, body, hy, roundIn_of_wpIn hfn (hassign _ k hk X _ hi ?_)⟩
    intro a' X1 hk1 hp1 hA
    have l1 := hk1.same _ _ (by omega) hl rfl
    have d1 := hk1.same _ _ (Nat.le_refl _) hd rfl
    have lt1 : w.heap.size + 1 < X1.heap.size := (Array.getElem?_eq_some_iff.1 l1).1
    refine ⟨_, run_beginRound l1 (by rw [hrd]), ?_⟩
    have l2 : (X1.putObj (w.heap.size + 1) (.loop { rd .ready with state := .busy })).heap[w.heap.size + 1]? = some (.loop { rd .ready with state := .busy }) := World.putObj_heap_same lt1
    have d2 : (X1.putObj (w.heap.size + 1) (.loop { rd .ready with state := .busy })).heap[w.heap.size]? = some (.deferred (some [])) := (World.putObj_heap_other (by omega)).trans d1
    have p2 := hKb X1 _ (.loop { rd .ready with state := .busy }) l1 rfl
    refine wpIn_mono (hbody _ k hk a' _ (hAp k a' X1 _ _ hA l1)) ?_
    rintro e a3 X3 ⟨rfl, hk3, hp3, hi3⟩
    have l3 := hk3.same _ _ (by omega) l2 rfl
    have d3 := hk3.same _ _ (Nat.le_refl _) d2 rfl
    have hr := run_endRound (P := P) none l3
    have p4 := hKb X3 _ (.loop (rd .ready)) l3 rfl
    rw [hrd] at hr
    refine ⟨_, _, hr, rfl, ⟨hIp _ _ _ _ hi3 l3, ?_, (World.putObj_heap_other (by omega)).trans d3⟩, ?_⟩
    · rw [hrd]; exact World.putObj_heap_same (Array.getElem?_eq_some_iff.1 l3).1
    · rw [hrd] at p4 p2 hp3
      exact hKt hp1 (hKt p2 (hKt hp3 p4))
  · rintro e Y ⟨⟨v, rfl⟩, hi, hl, hd⟩
    have hr := run_endLoop (P := P) hl (by rw [hrd]; simp)
    rw [hrd] at hr
    exact ⟨none, _, hr, hdone _ (hIp _ _ _ _ hi hl) ((World.putObj_heap_other (by omega)).trans hd)⟩
end Go.Proofs.YtcnadobnihbldaaGreat
