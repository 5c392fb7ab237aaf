/- Texts that stand on each other, in one file: SteadyF. -/
import Derived.Test.YtcnadobnihbldaaGreatPack4
import Derived.TacticsIn
import Derived.ControlIn
/- A region that draws its order behind any fence: the first operations each leave in their slot a value that meets the slot's condition, whatever has come up before; the rest, which may call a yield, in the text's order. -/
namespace Go.Proofs.YtcnadobnihbldaaGreat
open Go Go.RowKit

section
variable {P : Program} {F : Fence} {n : Nat} {md : Region.Mode}

/-- What an operation does goes behind the fence as it is. -/
def Lets (F : Fence) (n : Nat) (P : Program) (l : List Oper) (Q : Exit → Act → World → Prop) : Prop :=
  ∀ o ∈ l, ∀ (a : Act) (w : World) (K : Act → World → Prop), o.wp P a w K Q → o.wpIn F n P a w K Q
theorem upon_wide {o : Oper} {a : Act} {K : Act → World → Prop} {Q : Exit → Act → World → Prop} {n : Nat} : ∀ r : Result Next, o.upon P a K Q r → o.uponIn Fence.wide n P a K Q r := by
  intro r h
  cases r with
  | ok x w' =>
    cases x with
    | value v => exact h
    | skip => exact h
    | defer d => exact h
    | enter f args =>
      have h : Calls P f args w' _ := h
      refine ⟨fun e => (by cases e), callsIn_wide.2 (Calls.mono h ?_)⟩
      intro e w'' h'
      cases e with
      | returned v => exact h'
      | panicked c => exact h'
      | outgrown => exact h'
    | row r ys =>
      have h : Rows P r ys w' _ := h
      refine ⟨fun e => (by cases e), fun c cs _ => ?_⟩
      obtain ⟨v, w'', hr, hs⟩ := h c cs
      exact ⟨v, w'', hr, stepsIn_wide.2 hs⟩
    | _ => exact h.elim
  | halt x w' =>
    cases x with
    | panic v => exact h
    | _ => exact h.elim
theorem lets_wide {l : List Oper} {Q : Exit → Act → World → Prop} (hd : calmB l = true) : Lets Fence.wide n P l Q := fun o ho a w K h => by
  refine ⟨fun _ _ => trivial, ?_⟩
  rw [show Fence.wide.round = none from rfl, Oper.semAt_eq _ _ _ (calm_of hd ho)]
  exact upon_wide _ h
theorem lets_round {l : List Oper} {Q : Exit → Act → World → Prop} {lo : Nat} (hd : calmB l = true) : Lets (Fence.wide.inRound lo) n P l Q := fun _ ho _ _ _ h => oper_round (calm_of hd ho) (fun _ _ h => h) h

/-- The tail, in the text's order, behind the fence. -/
theorem wpAnyIn_tail {l : List Oper} {Q : Exit → Act → World → Prop} {c m : Nat} (hcm : c ≤ m) (hB : tailB md l.toArray c m = true) :
    ∀ (s t : Nat) (lo : Array Bool) (a : Act) (w : World), t + s = l.length → m ≤ t → lo.size = l.length → (∀ j, j < t → lo.getD j true = true) → (∀ j, t ≤ j → j < l.length → lo.getD j true = false) →
      ClosedL md l.toArray lo → wpListIn F n P l.toArray Q (l.drop t) a w → wpAnyIn F n P md l.toArray Q s lo a w
  | 0, t, lo, a, w, hts, hmt, hsz, h1, h0, hc, h => by
    obtain rfl : t = l.length := by omega
    rw [List.drop_length] at h
    refine ⟨?_, h⟩
    rw [List.eq_nil_iff_forall_not_mem]
    intro i hi
    obtain ⟨hu, o, ho, _⟩ := mem_ready.1 hi
    have hlt : i < l.length := by simpa using (Array.getElem?_eq_some_iff.1 ho).1
    rw [h1 i hlt] at hu
    cases hu
  | s + 1, t, lo, a, w, hts, hmt, hsz, h1, h0, hc, h => by
    have htl : t < l.length := by omega
    have hot : l.toArray[t]? = some l[t] := by simp [htl]
    rw [List.drop_eq_getElem_cons htl] at h
    have hrt : t ∈ Region.ready md l.toArray lo := mem_ready.2 ⟨h0 t (Nat.le_refl _) htl, l[t], hot, fun e he _ => getD_false_of_true (by have := tailB_lex hB hot e he; omega) (h1 _ (tailB_lex hB hot e he))⟩
    refine ⟨fun hn => ?_, fun i hi => ?_⟩
    · rw [hn] at hrt; cases hrt
    · obtain ⟨hu, o, ho, _⟩ := mem_ready.1 hi
      have hlt : i < l.length := by simpa using (Array.getElem?_eq_some_iff.1 ho).1
      have hge : t ≤ i := by
        rcases Nat.lt_or_ge i t with h' | h'
        · rw [h1 i h'] at hu; cases hu
        · exact h'
      have hit : i = t := by
        rcases Nat.eq_or_lt_of_le hge with h' | h'
        · exact h'.symm
        · have := ready_all hB hc (by omega : m ≤ i) hi i t (by omega) h' (by omega)
          rw [h0 t (Nat.le_refl _) htl] at this
          cases this
      subst hit
      have key : ∀ a' w', wpListIn F n P l.toArray Q (l.drop (i + 1)) a' w' → wpAnyIn F n P md l.toArray Q s (lo.setIfInBounds i true) a' w' := by
        intro a' w' h'
        refine wpAnyIn_tail hcm hB s (i + 1) _ a' w' (by omega) (by omega) (by simpa using hsz) ?_ ?_ (hc.set hi) h'
        · intro j hj
          by_cases hji : j = i
          · subst hji; simp [hsz, htl]
          · rw [getD_set_ne true (Ne.symm hji)]; exact h1 j (by omega)
        · intro j hj hjl
          rw [getD_set_ne true (by omega)]; exact h0 j (by omega) hjl
      unfold wpOpIn
      simp only [hot]
      simp only [wpListIn] at h
      split
      · rename_i hw
        rw [if_pos hw] at h
        exact Oper.wpIn_mono key h
      · rename_i hw
        rw [if_neg hw] at h
        exact ⟨h.1, key _ _ h.2⟩

theorem wpAnyIn_steady {l : List Oper} {Q : Exit → Act → World → Prop} {a : Act} {w : World} (m : Nat) (hml : m ≤ l.length) (G : Nat → Value → World → Prop) (hB : tailB .any l.toArray 0 m = true) (hchk : steadyChk (l.take m) a.tmps.size = true) (hlet : Lets F n P (l.take m) Q)
    (hstab : ∀ d v w1 w2, G d v w1 → Below w1.heap.size w1 w2 → G d v w2)
    (hstep : ∀ o ∈ l.take m, ∀ a' w', Below w.heap.size w w' → Agrees (l.take m) a a' → (∀ d ∈ depSlots (l.take m) o, G d (a'.tmps.getD d undef) w') → o.wp P a' w' (fun a'' w'' => ∃ v, a'' = a'.put o.dst v ∧ Below w'.heap.size w' w'' ∧ ∀ d, o.dst = some d → G d v w'') Q)
    (hfin : ∀ a' w', Below w.heap.size w w' → Agrees (l.take m) a a' → (∀ o ∈ l.take m, ∀ d, o.dst = some d → G d (a'.tmps.getD d undef) w') → wpListIn F n P l.toArray Q (l.drop m) a' w') :
    ∀ (fuel : Nat) (U : List Nat) (listed : Array Bool) (a' : Act) (w' : World), U.length = fuel → U.Nodup → listed.size = l.length → (∀ j, j < m → (listed.getD j true = false ↔ j ∈ U)) → (∀ j ∈ U, j < m) → (∀ j, m ≤ j → j < l.length → listed.getD j true = false) → ClosedL .any l.toArray listed →
      Below w.heap.size w w' → Agrees (l.take m) a a' → (∀ j o d, (l.take m)[j]? = some o → listed.getD j true = true → o.dst = some d → G d (a'.tmps.getD d undef) w') → wpAnyIn F n P .any l.toArray Q (fuel + (l.length - m)) listed a' w' := by
  intro fuel
  induction fuel with
  | zero =>
    intro U listed a' w' hU _ hs hm _ ho hc hb hag hG
    have hU0 : U = [] := List.length_eq_zero_iff.1 hU
    subst hU0
    have hT : ∀ j, j < m → listed.getD j true = true := fun j hj => by
      cases h : listed.getD j true with
      | true => rfl
      | false => exact absurd ((hm j hj).1 h) (by simp)
    rw [Nat.zero_add]
    refine wpAnyIn_tail (c := 0) (m := m) (Nat.zero_le _) hB (l.length - m) m listed a' w' (by omega) (Nat.le_refl _) hs hT ho hc ?_
    refine hfin a' w' hb hag fun o ho d hd => ?_
    obtain ⟨j, hj, rfl⟩ := List.getElem_of_mem ho
    exact hG j _ d (List.getElem?_eq_getElem hj) (hT j (by simp at hj; omega)) hd
  | succ fuel ih =>
    intro U listed a' w' hU hnd hs hm hUm ho hc hb hag hG
    rw [show fuel + 1 + (l.length - m) = (fuel + (l.length - m)) + 1 by omega]
    obtain ⟨k, hk⟩ : ∃ k, k ∈ U := by
      cases U with
      | nil => simp at hU
      | cons x _ => exact ⟨x, by simp⟩
    have hkm := hUm k hk
    have hkl := (hm k hkm).2 hk
    refine ⟨fun h0 => ?_, fun i hi => ?_⟩
    · have := ready_nil_all (md := .any) (ops := l.toArray) (by simpa using hs) (fun j o ho e he => tailB_lex hB ho e he) h0 (k + 1) k (by omega) (by simp; omega)
      rw [hkl] at this
      cases this
    · obtain ⟨hu, o, hoi, hdep⟩ := mem_ready.1 hi
      have hil : i < l.length := by simpa using (Array.getElem?_eq_some_iff.1 hoi).1
      have him : i < m := by
        rcases Nat.lt_or_ge i m with h | h
        · exact h
        · have := ready_all hB hc h hi (i - k) k (Nat.zero_le _) (by omega) (Nat.le_refl _)
          rw [hkl] at this
          cases this
      have hoL : (l.take m)[i]? = some o := by rw [List.getElem?_take, if_pos him]; simpa using hoi
      have hmem : o ∈ l.take m := List.mem_of_getElem? hoL
      obtain ⟨_, hgd, hdn⟩ := steadyChk_at hchk hoL
      have hiU : i ∈ U := (hm i him).1 hu
      unfold wpOpIn
      simp only [hoi]
      rw [if_pos (by simp [Region.wanted, hgd])]
      refine hlet o hmem _ _ _ ?_
      have hs1 := hstep o hmem a' w' hb hag ?_
      · refine Oper.wp_mono ?_ hs1
        rintro a'' w'' ⟨v, rfl, hb2, hGv⟩
        have hset : ∀ j, (listed.setIfInBounds i true).getD j true = if j = i then true else listed.getD j true := by
          intro j
          by_cases hji : j = i
          · subst hji
            by_cases hjs : j < listed.size
            · simp [Array.getD_eq_getD_getElem?, hjs]
            · simp [Array.getD_eq_getD_getElem?, hjs]
          · rw [if_neg hji]
            simp [Array.getD_eq_getD_getElem?, Ne.symm hji]
        refine ih (U.erase i) _ _ _ (by rw [List.length_erase_of_mem hiU]; omega) (hnd.erase i) (by simpa using hs) ?_ (fun j hj => hUm j (List.mem_of_mem_erase hj)) ?_ (hc.set hi) (hb.trans (hb2.mono hb.size)) ?_ ?_
        · intro j hj
          rw [hset j, hnd.mem_erase_iff]
          by_cases hji : j = i
          · simp [hji]
          · rw [if_neg hji, hm j hj]; simp [hji]
        · intro j hj hjl
          rw [hset j, if_neg (by omega)]
          exact ho j hj hjl
        · refine ⟨by rw [put_size]; exact hag.1, by rw [put_defers]; exact hag.2.1, fun d hd => ?_⟩
          rw [put_getD_ne _ _ _ _ (hd o hmem)]
          exact hag.2.2 d hd
        · intro j oj d hj hlj hdj
          rw [hset j] at hlj
          by_cases hji : j = i
          · subst hji
            rw [hoL] at hj
            cases hj
            rw [hdj, put_getD _ _ _ (by rw [hag.1]; exact hdn d hdj)]
            exact hGv d hdj
          · rw [if_neg hji] at hlj
            rw [put_getD_ne _ _ _ _ (steadyChk_ne hchk hj hoL hji hdj)]
            exact hstab d _ _ _ (hG j oj d hj hlj hdj) hb2
      · intro d hd
        simp only [depSlots, List.mem_filterMap, List.mem_filter] at hd
        obtain ⟨e, ⟨he, hbn⟩, hed⟩ := hd
        have hlst := hdep e (by simpa using he) hbn
        cases hoe : (l.take m)[e.on]? with
        | none => simp [hoe] at hed
        | some oe =>
          simp only [hoe, Option.bind_some] at hed
          exact hG e.on oe d hoe (getD_true_of_false hlst) hed
/-- THE LAW: where the fence lets operations by. -/
theorem wpIn_region_front {id : Nat} {Q : Exit → Act → World → Prop} {a : Act} {w : World} {l : List Oper} (m : Nat) (G : Nat → Value → World → Prop) (hm : P.follows .mixedOrders = true) (hchk : (decide (m ≤ l.length) && tailB .any l.toArray 0 m && steadyChk (l.take m) a.tmps.size) = true) (hlet : Lets F n P (l.take m) Q)
    (hstab : ∀ d v w1 w2, G d v w1 → Below w1.heap.size w1 w2 → G d v w2)
    (hstep : ∀ o ∈ l.take m, ∀ a' w', Below w.heap.size w w' → Agrees (l.take m) a a' → (∀ d ∈ depSlots (l.take m) o, G d (a'.tmps.getD d undef) w') → o.wp P a' w' (fun a'' w'' => ∃ v, a'' = a'.put o.dst v ∧ Below w'.heap.size w' w'' ∧ ∀ d, o.dst = some d → G d v w'') Q)
    (hfin : ∀ a' w', Below w.heap.size w w' → Agrees (l.take m) a a' → (∀ o ∈ l.take m, ∀ d, o.dst = some d → G d (a'.tmps.getD d undef) w') → wpListIn F n P l.toArray Q (l.drop m) a' w') :
    (Code.region id l.toArray true).wpIn F n P Q a w := by
  refine wpIn_region_any hm ?_
  simp only [Bool.and_eq_true, decide_eq_true_eq] at hchk
  obtain ⟨⟨hml, hB⟩, hck⟩ := hchk
  have h := wpAnyIn_steady (P := P) (F := F) (n := n) (w := w) m hml G hB hck hlet hstab hstep hfin m (List.range m) (Array.replicate l.length false) a { w with drawn := w.drawn + 1 } (by simp) List.nodup_range (by simp) ?_ (by simp) ?_ ?_ ((Below.refl w.heap.size w).drew) ⟨rfl, rfl, fun _ _ => rfl⟩ ?_
  · rw [show m + (l.length - m) = l.length by omega] at h
    simpa using h
  · intro j hj
    have hjl : j < l.length := by omega
    simp [Array.getD_eq_getD_getElem?, hjl, hj]
  · intro j _ hjl
    simp [Array.getD_eq_getD_getElem?, hjl]
  · intro k o ho hk
    have hlt : k < l.length := by simpa using (Array.getElem?_eq_some_iff.1 ho).1
    simp [Array.getD_eq_getD_getElem?, hlt] at hk
  · intro j o d hj hl _
    have hlt : j < l.length := by have := (List.getElem?_eq_some_iff.1 hj).1; simp at this; omega
    simp [Array.getD_eq_getD_getElem?, hlt] at hl
end
end Go.Proofs.YtcnadobnihbldaaGreat
