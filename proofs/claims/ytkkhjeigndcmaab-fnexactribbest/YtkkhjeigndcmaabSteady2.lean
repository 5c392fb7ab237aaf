/- A law of our own on regions that draw their order, with stores among them: every operation, in whatever order, meets its own condition and keeps those of the others; R says what one operation may do to the world. -/
import Derived.Test.YtkkhjeigndcmaabSteady
namespace Go.Proofs.Ytkkhjeigndcmaab
open Go Go.RowKit

section
variable {P : Program}

/-- The operations that o waits for. -/
def depsOf (o : Oper) : List Nat := (o.after.toList.filter (Region.binds .any)).map (·.on)
def drawnChk (l : List Oper) (n : Nat) : Bool :=
  ((List.range l.length).all fun j => match l[j]? with | none => true | some o => ((depsOf o).all fun e => decide (e < j)) && o.guard.isNone && (match o.dst with | none => true | some d => decide (d < n))) &&
  (List.range l.length).all fun i => (List.range l.length).all fun j => decide (i = j) || ((l[i]?).bind (·.dst)).isNone || decide ((l[i]?).bind (·.dst) ≠ (l[j]?).bind (·.dst))
theorem drawnChk_at {l : List Oper} {n j : Nat} {o : Oper} (h : drawnChk l n = true) (ho : l[j]? = some o) : (∀ e ∈ o.after, Region.binds .any e = true → e.on < j) ∧ o.guard = none ∧ ∀ d, o.dst = some d → d < n := by
  have hlt : j < l.length := (List.getElem?_eq_some_iff.1 ho).1
  simp only [drawnChk, Bool.and_eq_true] at h
  have h1 := (List.all_eq_true.1 h.1) j (List.mem_range.2 hlt)
  simp only [ho, Bool.and_eq_true] at h1
  refine ⟨fun e he hb => of_decide_eq_true ((List.all_eq_true.1 h1.1.1) e.on ?_), by simpa using h1.1.2, fun d hd => ?_⟩
  · simp only [depsOf, List.mem_map, List.mem_filter]
    exact ⟨e, ⟨by simpa using he, hb⟩, rfl⟩
  · have := h1.2
    simpa [hd] using this
theorem drawnChk_ne {l : List Oper} {n i j d : Nat} {oi oj : Oper} (h : drawnChk l n = true) (hi : l[i]? = some oi) (hj : l[j]? = some oj) (hne : i ≠ j) (hd : oi.dst = some d) : oj.dst ≠ some d := by
  have hlt : i < l.length := (List.getElem?_eq_some_iff.1 hi).1
  have hlt2 : j < l.length := (List.getElem?_eq_some_iff.1 hj).1
  simp only [drawnChk, Bool.and_eq_true] at h
  have h1 := (List.all_eq_true.1 ((List.all_eq_true.1 h.2) i (List.mem_range.2 hlt))) j (List.mem_range.2 hlt2)
  simp only [hi, hj, Option.bind_some, Bool.or_eq_true, decide_eq_true_eq] at h1
  rcases h1 with (h1 | h1) | h1
  · exact absurd h1 hne
  · rw [hd] at h1; simp at h1
  · rw [hd] at h1; exact fun e => h1 e.symm
theorem ready_nil_any {ops : Array Oper} {listed : Array Bool} (hs : listed.size = ops.size) (hlex : ∀ (j : Nat) (o : Oper), ops[j]? = some o → ∀ e ∈ o.after, Region.binds .any e = true → e.on < j) (h : Region.ready .any ops listed = []) :
    ∀ d j, j < d → j < ops.size → listed.getD j true = true := by
  intro d
  induction d with
  | zero => intro j hj _; omega
  | succ d ih =>
    intro j hj hjs
    by_cases hu : listed.getD j true = true
    · exact hu
    · have ho : ops[j]? = some ops[j] := by simp [hjs]
      have : j ∈ Region.ready .any ops listed := mem_ready.2 ⟨by simpa using hu, ops[j], ho, fun e he hb => getD_false_of_true (by have := hlex j _ ho e he hb; omega) (ih e.on (by have := hlex j _ ho e he hb; omega) (by have := hlex j _ ho e he hb; omega))⟩
      rw [h] at this
      cases this
/-- What an operation has left in its slot. -/
def slotOf (o : Oper) (a : Act) : Value := match o.dst with | some d => a.tmps.getD d undef | none => undef
/-- What each operation has left, by its number. -/
def valsOf (l : List Oper) (a : Act) (j : Nat) : Value := match l[j]? with | some o => slotOf o a | none => undef
def putAt (f : Nat → Value) (i : Nat) (v : Value) (j : Nat) : Value := if j = i then v else f j
/-- The condition of an operation looks at its own value and at those that it waits for. -/
def Local (l : List Oper) (G : Nat → (Nat → Value) → World → Prop) : Prop := ∀ i o f f' w, l[i]? = some o → f i = f' i → (∀ j ∈ depsOf o, f j = f' j) → G i f w → G i f' w
theorem wpAny_drawn {l : List Oper} {Q : Exit → Act → World → Prop} {a : Act} (R : World → World → Prop) (J : World → Prop) (G : Nat → (Nat → Value) → World → Prop) (hchk : drawnChk l a.tmps.size = true) (hloc : Local l G)
    (hJ : ∀ w1 w2, J w1 → R w1 w2 → J w2)
    (hstab : ∀ i f w1 w2, J w1 → G i f w1 → R w1 w2 → G i f w2)
    (hstep : ∀ i o, l[i]? = some o → ∀ a' w', J w' → Agrees l a a' → (∀ j ∈ depsOf o, G j (valsOf l a') w') → o.wp P a' w' (fun a'' w'' => ∃ v, a'' = a'.put o.dst v ∧ R w' w'' ∧ G i (putAt (valsOf l a') i (match o.dst with | some _ => v | none => undef)) w'') Q)
    (hfin : ∀ a' w', J w' → Agrees l a a' → (∀ i o, l[i]? = some o → G i (valsOf l a') w') → Q .normal a' w') :
    ∀ (fuel : Nat) (U : List Nat) (listed : Array Bool) (a' : Act) (w' : World), U.length = fuel → U.Nodup → listed.size = l.length → (∀ j, j < l.length → (listed.getD j true = false ↔ j ∈ U)) → (∀ j ∈ U, j < l.length) → (∀ i o, l[i]? = some o → listed.getD i true = true → ∀ j ∈ depsOf o, listed.getD j true = true) →
      J w' → Agrees l a a' → (∀ j o, l[j]? = some o → listed.getD j true = true → G j (valsOf l a') w') → wpAny P .any l.toArray Q fuel listed a' w' := by
  intro fuel
  induction fuel with
  | zero =>
    intro U listed a' w' hU _ hs hm _ _ hj hag hG
    have hU0 : U = [] := List.length_eq_zero_iff.1 hU
    subst hU0
    have hT : ∀ j, j < l.length → listed.getD j true = true := fun j hj => by
      cases h : listed.getD j true with
      | true => rfl
      | false => exact absurd ((hm j hj).1 h) (by simp)
    refine ⟨?_, hfin a' w' hj hag fun i o ho => hG i o ho (hT i (List.getElem?_eq_some_iff.1 ho).1)⟩
    rw [List.eq_nil_iff_forall_not_mem]
    intro i hi
    obtain ⟨hu, o, hoi, _⟩ := mem_ready.1 hi
    have hil : i < l.length := by simpa using (Array.getElem?_eq_some_iff.1 hoi).1
    rw [hT i hil] at hu
    cases hu
  | succ fuel ih =>
    intro U listed a' w' hU hnd hs hm hUm hcl hj hag hG
    obtain ⟨k, hk⟩ : ∃ k, k ∈ U := by
      cases U with
      | nil => simp at hU
      | cons x _ => exact ⟨x, by simp⟩
    have hkm := hUm k hk
    have hkl := (hm k hkm).2 hk
    refine ⟨fun h0 => ?_, fun i hi => ?_⟩
    · have := ready_nil_any (ops := l.toArray) (by simpa using hs) (fun j o ho e he hb => (drawnChk_at hchk (by simpa using ho)).1 e he hb) h0 (k + 1) k (by omega) (by simp; omega)
      rw [hkl] at this
      cases this
    · obtain ⟨hu, o, hoi, hdep⟩ := mem_ready.1 hi
      have hil : i < l.length := by simpa using (Array.getElem?_eq_some_iff.1 hoi).1
      have hoL : l[i]? = some o := by simpa using hoi
      obtain ⟨_, hgd, hdn⟩ := drawnChk_at hchk hoL
      have hiU : i ∈ U := (hm i hil).1 hu
      have hdl : ∀ j ∈ depsOf o, listed.getD j true = true := by
        intro d hd
        simp only [depsOf, List.mem_map, List.mem_filter] at hd
        obtain ⟨e, ⟨he, hbn⟩, rfl⟩ := hd
        exact getD_true_of_false (hdep e (by simpa using he) hbn)
      unfold wpOp
      simp only [hoi]
      rw [if_pos (by simp [Region.wanted, hgd])]
      left
      refine Oper.wp_mono ?_ (hstep i o hoL a' w' hj hag fun j hjd => ?_)
      · rintro a'' w'' ⟨v, rfl, hr2, hGv⟩
        have hset : ∀ j, (listed.setIfInBounds i true).getD j true = if j = i then true else listed.getD j true := by
          intro j
          by_cases hji : j = i
          · subst hji
            by_cases hjs : j < listed.size
            · simp [Array.getD_eq_getD_getElem?, hjs]
            · simp [Array.getD_eq_getD_getElem?, hjs]
          · rw [if_neg hji]
            simp [Array.getD_eq_getD_getElem?, Ne.symm hji]
        have hval : ∀ j, valsOf l (a'.put o.dst v) j = putAt (valsOf l a') i (match o.dst with | some _ => v | none => undef) j := by
          intro j
          unfold putAt
          by_cases hji : j = i
          · subst hji
            rw [if_pos rfl]
            unfold valsOf
            rw [hoL]
            unfold slotOf
            cases hd : o.dst with
            | none => simp only [hd]
            | some d => simp only [hd]; exact put_getD _ _ _ (by rw [hag.1]; exact hdn d hd)
          · rw [if_neg hji]
            unfold valsOf
            cases hjo : l[j]? with
            | none => rfl
            | some oj =>
              unfold slotOf
              cases hd : oj.dst with
              | none => simp only [hd]
              | some d => simp only [hd]; exact put_getD_ne _ _ _ _ (drawnChk_ne hchk hjo hoL hji hd)
        refine ih (U.erase i) _ _ _ (by rw [List.length_erase_of_mem hiU]; omega) (hnd.erase i) (by simpa using hs) ?_ (fun j hj => hUm j (List.mem_of_mem_erase hj)) ?_ (hJ _ _ hj hr2) ?_ ?_
        · intro j hj
          rw [hset j, hnd.mem_erase_iff]
          by_cases hji : j = i
          · simp [hji]
          · rw [if_neg hji, hm j hj]; simp [hji]
        · intro j oj hjo hlj d hd
          rw [hset j] at hlj
          rw [hset d]
          by_cases hdi : d = i
          · rw [if_pos hdi]
          · rw [if_neg hdi]
            by_cases hji : j = i
            · subst hji
              rw [hoL] at hjo
              cases hjo
              exact hdl d hd
            · rw [if_neg hji] at hlj
              exact hcl j oj hjo hlj d hd
        · refine ⟨by rw [put_size]; exact hag.1, by rw [put_defers]; exact hag.2.1, fun d hd => ?_⟩
          rw [put_getD_ne _ _ _ _ (hd o (List.mem_of_getElem? hoL))]
          exact hag.2.2 d hd
        · intro j oj hjo hlj
          rw [hset j] at hlj
          by_cases hji : j = i
          · subst hji
            exact hloc j oj _ _ _ hjo (hval j).symm (fun d _ => (hval d).symm) hGv
          · rw [if_neg hji] at hlj
            refine hloc j oj _ _ _ hjo ?_ (fun d hd => ?_) (hstab j _ _ _ hj (hG j oj hjo hlj) hr2)
            · rw [hval j]; unfold putAt; rw [if_neg hji]
            · rw [hval d]
              unfold putAt
              by_cases hdi : d = i
              · subst hdi
                have := hcl j oj hjo hlj d hd
                rw [hu] at this
                cases this
              · rw [if_neg hdi]
      · have hjl := hdl j hjd
        cases hjo : l[j]? with
        | none =>
          exfalso
          have h1 := (drawnChk_at hchk hoL).1
          simp only [depsOf, List.mem_map, List.mem_filter] at hjd
          obtain ⟨e, ⟨he, hbn⟩, rfl⟩ := hjd
          have := h1 e (by simpa using he) hbn
          rw [List.getElem?_eq_none_iff] at hjo
          omega
        | some oj => exact hG j oj hjo hjl
theorem wp_region_drawn {id : Nat} {Q : Exit → Act → World → Prop} {a : Act} {w : World} {l : List Oper} (R : World → World → Prop) (J : World → Prop) (G : Nat → (Nat → Value) → World → Prop) (hm : P.follows .mixedOrders = true) (hchk : drawnChk l a.tmps.size = true) (hloc : Local l G)
    (h0 : J { w with drawn := w.drawn + 1 })
    (hJ : ∀ w1 w2, J w1 → R w1 w2 → J w2)
    (hstab : ∀ i f w1 w2, J w1 → G i f w1 → R w1 w2 → G i f w2)
    (hstep : ∀ i o, l[i]? = some o → ∀ a' w', J w' → Agrees l a a' → (∀ j ∈ depsOf o, G j (valsOf l a') w') → o.wp P a' w' (fun a'' w'' => ∃ v, a'' = a'.put o.dst v ∧ R w' w'' ∧ G i (putAt (valsOf l a') i (match o.dst with | some _ => v | none => undef)) w'') Q)
    (hfin : ∀ a' w', J w' → Agrees l a a' → (∀ i o, l[i]? = some o → G i (valsOf l a') w') → Q .normal a' w') :
    (Code.region id l.toArray true).wp P Q a w := by
  refine wp_region_any hm ?_
  have h := wpAny_drawn (P := P) R J G hchk hloc hJ hstab hstep hfin l.length (List.range l.length) (Array.replicate l.length false) a { w with drawn := w.drawn + 1 } (by simp) List.nodup_range (by simp) ?_ (by simp) ?_ h0 ⟨rfl, rfl, fun _ _ => rfl⟩ ?_
  · simpa using h
  · intro j hj
    simp [Array.getD_eq_getD_getElem?, hj]
  · intro j o hj hl
    have hlt : j < l.length := (List.getElem?_eq_some_iff.1 hj).1
    simp [Array.getD_eq_getD_getElem?, hlt] at hl
  · intro j o hj hl
    have hlt : j < l.length := (List.getElem?_eq_some_iff.1 hj).1
    simp [Array.getD_eq_getD_getElem?, hlt] at hl
end
end Go.Proofs.Ytkkhjeigndcmaab
