/- Texts that stand on each other, in one file: SteadyR. -/
import Derived.Test.YtcnadobnihbldaaGreatPack3
import Derived.OrdersIn
import Derived.RangeFuncCalls
/- Regions that draw their order, within a round of a range over a function. -/
namespace Go.Proofs.YtcnadobnihbldaaGreat
open Go Go.RowKit

section
variable {P : Program}
theorem wpAny_region_steady {Q : Exit → Act → World → Prop} {a : Act} {w : World} {l : List Oper} (m : Nat) (G : Nat → Value → World → Prop) (hchk : (decide (m ≤ l.length) && tailB .any l.toArray 0 m && steadyChk (l.take m) a.tmps.size) = true)
    (hstab : ∀ d v w1 w2, G d v w1 → Below w1.heap.size w1 w2 → G d v w2)
    (hstep : ∀ o ∈ l.take m, ∀ a' w', Below w.heap.size w w' → Agrees (l.take m) a a' → (∀ d ∈ depSlots (l.take m) o, G d (a'.tmps.getD d undef) w') → o.wp P a' w' (fun a'' w'' => ∃ v, a'' = a'.put o.dst v ∧ Below w'.heap.size w' w'' ∧ ∀ d, o.dst = some d → G d v w'') Q)
    (hfin : ∀ a' w', Below w.heap.size w w' → Agrees (l.take m) a a' → (∀ o ∈ l.take m, ∀ d, o.dst = some d → G d (a'.tmps.getD d undef) w') → wpList P l.toArray Q (l.drop m) a' w') :
    wpAny P .any l.toArray Q l.toArray.size (Array.replicate l.toArray.size false) a { w with drawn := w.drawn + 1 } := by
  simp only [Bool.and_eq_true, decide_eq_true_eq] at hchk
  obtain ⟨⟨hml, hB⟩, hck⟩ := hchk
  have h := wpAny_steady (P := P) (w := w) m hml G hB hck hstab hstep hfin m (List.range m) (Array.replicate l.length false) a { w with drawn := w.drawn + 1 } (by simp) List.nodup_range (by simp) ?_ (by simp) ?_ ?_ ((Below.refl w.heap.size w).drew) ⟨rfl, rfl, fun _ _ => rfl⟩ ?_
  · rw [show m + (l.length - m) = l.length by omega] at h
    simpa using h
  · intro j hj
    have hjl : j < l.length := by omega
    simp [Array.getD_eq_getD_getElem?, hjl, hj]
  · intro j _ hjl
    simp [Array.getD_eq_getD_getElem?, hjl]
  · intro k o ho hk
    have hlt : k < l.length := by simpa using (Array.getElem?_eq_some_iff.1 ho).1
    simp [Array.getD_eq_getD_getElem?, hlt] at hk
  · intro j o d hj hl _
    have hlt : j < l.length := by have := (List.getElem?_eq_some_iff.1 hj).1; simp at this; omega
    simp [Array.getD_eq_getD_getElem?, hlt] at hl
def calmB (l : List Oper) : Bool := l.all fun o => match o.op with | .defer _ => false | _ => true
theorem calm_of {l : List Oper} (h : calmB l = true) {o : Oper} (ho : o ∈ l) : ∀ c, o.op ≠ .defer c := by
  intro c e
  have := (List.all_eq_true.1 h) o ho
  rw [e] at this
  cases this
/-- What an operation does goes into a round as it is. -/
theorem upon_round {o : Oper} {a : Act} {K K' : Act → World → Prop} {Q : Exit → Act → World → Prop} {l n : Nat} (hK : ∀ a w, K a w → K' a w) : ∀ r : Result Next, o.upon P a K Q r → o.uponIn (Fence.wide.inRound l) n P a K' Q r := by
  intro r h
  cases r with
  | ok x w' =>
    cases x with
    | value v => exact hK _ _ h
    | skip => exact hK _ _ h
    | defer d => exact hK _ _ h
    | enter f args =>
      have h : Calls P f args w' _ := h
      refine ⟨fun e => (by cases e), CallsIn.inRound l (callsIn_wide.2 (Calls.mono h ?_))⟩
      intro e w'' h'
      cases e with
      | returned v => exact hK _ _ h'
      | panicked c => exact h'
      | outgrown => exact h'
    | row r ys =>
      have h : Rows P r ys w' _ := h
      refine ⟨fun e => (by cases e), fun c cs _ => ?_⟩
      obtain ⟨v, w'', hr, hs⟩ := h c cs
      exact ⟨v, w'', hK _ _ hr, stepsIn_wide.2 hs⟩
    | _ => exact h.elim
  | halt x w' =>
    cases x with
    | panic v => exact h
    | _ => exact h.elim
theorem oper_round {o : Oper} {a : Act} {w : World} {K K' : Act → World → Prop} {Q : Exit → Act → World → Prop} {l n : Nat} (hd : ∀ c, o.op ≠ .defer c) (hK : ∀ a w, K a w → K' a w) (h : o.wp P a w K Q) : o.wpIn (Fence.wide.inRound l) n P a w K' Q := by
  refine ⟨fun _ _ => trivial, ?_⟩
  rw [show (Fence.wide.inRound l).round = some l from rfl, Oper.semAt_eq _ _ _ hd]
  exact upon_round hK _ h
theorem wpAny_round {ops : Array Oper} {Q : Exit → Act → World → Prop} {l n : Nat} (hd : calmB ops.toList = true) (hQ : ¬ LetsOut Q) : ∀ (fuel : Nat) (listed : Array Bool) (a : Act) (w : World), wpAny P .any ops Q fuel listed a w → wpAnyIn (Fence.wide.inRound l) n P .any ops Q fuel listed a w
  | 0, _, _, _, h => h
  | fuel + 1, listed, a, w, h => by
    refine ⟨h.1, fun i hi => ?_⟩
    have h2 := h.2 i hi
    unfold wpOp at h2
    unfold wpOpIn
    cases ho : ops[i]? with
    | none =>
      rw [ho] at h2
      exact wpAny_round hd hQ fuel _ _ _ h2
    | some o =>
      rw [ho] at h2
      simp only at h2 ⊢
      have hmem : o ∈ ops.toList := by
        obtain ⟨hlt, he⟩ := Array.getElem?_eq_some_iff.1 ho
        rw [← he]
        exact Array.getElem_mem_toList hlt
      split at h2
      · rename_i hw
        rw [if_pos hw]
        rcases h2 with h2 | ⟨_, h2⟩
        · exact oper_round (calm_of hd hmem) (fun a w => wpAny_round hd hQ fuel _ a w) h2
        · exact absurd h2 hQ
      · rename_i hw
        rw [if_neg hw]
        exact ⟨fun _ _ => trivial, wpAny_round hd hQ fuel _ _ _ h2⟩
theorem wpIn_region_steady {id : Nat} {Q : Exit → Act → World → Prop} {a : Act} {w : World} {l : List Oper} {lo n : Nat} (hd : calmB l = true) (hQ : ¬ LetsOut Q) (m : Nat) (G : Nat → Value → World → Prop) (hm : P.follows .mixedOrders = true) (hchk : (decide (m ≤ l.length) && tailB .any l.toArray 0 m && steadyChk (l.take m) a.tmps.size) = true)
    (hstab : ∀ d v w1 w2, G d v w1 → Below w1.heap.size w1 w2 → G d v w2)
    (hstep : ∀ o ∈ l.take m, ∀ a' w', Below w.heap.size w w' → Agrees (l.take m) a a' → (∀ d ∈ depSlots (l.take m) o, G d (a'.tmps.getD d undef) w') → o.wp P a' w' (fun a'' w'' => ∃ v, a'' = a'.put o.dst v ∧ Below w'.heap.size w' w'' ∧ ∀ d, o.dst = some d → G d v w'') Q)
    (hfin : ∀ a' w', Below w.heap.size w w' → Agrees (l.take m) a a' → (∀ o ∈ l.take m, ∀ d, o.dst = some d → G d (a'.tmps.getD d undef) w') → wpList P l.toArray Q (l.drop m) a' w') :
    (Code.region id l.toArray true).wpIn (Fence.wide.inRound lo) n P Q a w :=
  wpIn_region_any hm (wpAny_round (by simpa using hd) hQ _ _ _ _ (wpAny_region_steady m G hchk hstab hstep hfin))
end
end Go.Proofs.YtcnadobnihbldaaGreat
