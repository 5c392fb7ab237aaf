/- Texts that stand on each other, in one file: Steady. -/
import Derived.Test.YtialedffpaoacaaGreatDoorTail
/- A law of our own on regions that draw their order: where each operation, whatever has come up before it, leaves in its slot a value that meets the slot's condition, and a world with some blocks laid behind, and the conditions bear that, any order ends in a frame that meets them all. -/
namespace Go.Proofs.YtialedffpaoacaaGreatDoor
open Go Go.RowKit

section
variable {P : Program}

/-- The slots of the operations that o waits for. -/
def depSlots (l : List Oper) (o : Oper) : List Nat := (o.after.toList.filter (Region.binds .any)).filterMap fun e => (l[e.on]?).bind (·.dst)
def steadyChk (l : List Oper) (n : Nat) : Bool :=
  ((List.range l.length).all fun j => match l[j]? with | none => true | some o => (o.after.all fun e => decide (e.on < j)) && o.guard.isNone && (match o.dst with | none => true | some d => decide (d < n))) &&
  (List.range l.length).all fun i => (List.range l.length).all fun j => decide (i = j) || ((l[i]?).bind (·.dst)).isNone || decide ((l[i]?).bind (·.dst) ≠ (l[j]?).bind (·.dst))
/-- The frame a' is as a, but for what the operations write. -/
def Agrees (l : List Oper) (a a' : Act) : Prop := a'.tmps.size = a.tmps.size ∧ a'.defers = a.defers ∧ ∀ d, (∀ o ∈ l, o.dst ≠ some d) → a'.tmps.getD d undef = a.tmps.getD d undef

theorem steadyChk_at {l : List Oper} {n j : Nat} {o : Oper} (h : steadyChk l n = true) (ho : l[j]? = some o) : (∀ e ∈ o.after, e.on < j) ∧ o.guard = none ∧ ∀ d, o.dst = some d → d < n := by
  have hlt : j < l.length := (List.getElem?_eq_some_iff.1 ho).1
  simp only [steadyChk, Bool.and_eq_true] at h
  have h1 := (List.all_eq_true.1 h.1) j (List.mem_range.2 hlt)
  simp only [ho, Bool.and_eq_true] at h1
  refine ⟨fun e he => of_decide_eq_true ((Array.all_eq_true_iff_forall_mem.1 h1.1.1) e he), by simpa using h1.1.2, fun d hd => ?_⟩
  have := h1.2
  simpa [hd] using this
theorem steadyChk_ne {l : List Oper} {n i j d : Nat} {oi oj : Oper} (h : steadyChk l n = true) (hi : l[i]? = some oi) (hj : l[j]? = some oj) (hne : i ≠ j) (hd : oi.dst = some d) : oj.dst ≠ some d := by
  have hlt : i < l.length := (List.getElem?_eq_some_iff.1 hi).1
  have hlt2 : j < l.length := (List.getElem?_eq_some_iff.1 hj).1
  simp only [steadyChk, Bool.and_eq_true] at h
  have h1 := (List.all_eq_true.1 ((List.all_eq_true.1 h.2) i (List.mem_range.2 hlt))) j (List.mem_range.2 hlt2)
  simp only [hi, hj, Option.bind_some, Bool.or_eq_true, decide_eq_true_eq] at h1
  rcases h1 with (h1 | h1) | h1
  · exact absurd h1 hne
  · rw [hd] at h1; simp at h1
  · rw [hd] at h1; exact fun e => h1 e.symm
theorem put_getD (a : Act) (d : Nat) (v : Value) (h : d < a.tmps.size) : (a.put (some d) v).tmps.getD d undef = v := by
  simp [Act.put, Array.getD_eq_getD_getElem?, h]
theorem put_getD_ne (a : Act) (dst : Option Tmp) (d : Nat) (v : Value) (h : dst ≠ some d) : (a.put dst v).tmps.getD d undef = a.tmps.getD d undef := by
  cases dst with
  | none => rfl
  | some x =>
    have hx : x ≠ d := fun e => h (by rw [e])
    simp [Act.put, Array.getD_eq_getD_getElem?, hx]
theorem put_size (a : Act) (dst : Option Tmp) (v : Value) : (a.put dst v).tmps.size = a.tmps.size := by cases dst <;> simp [Act.put]
theorem put_defers (a : Act) (dst : Option Tmp) (v : Value) : (a.put dst v).defers = a.defers := by cases dst <;> rfl

theorem act_eq (a : Act) (n : Nat) (h : a.tmps.size = n) : a = ⟨((List.range n).map fun k => a.tmps.getD k undef).toArray, a.defers⟩ := by
  subst h
  cases a with
  | mk T D =>
    simp only [Act.mk.injEq, and_true]
    apply Array.ext
    · simp
    · intro i h1 h2
      simp [Array.getD_eq_getD_getElem?, h1]
theorem wpAny_steady {l : List Oper} {Q : Exit → Act → World → Prop} {a : Act} {w : World} (m : Nat) (hml : m ≤ l.length) (G : Nat → Value → World → Prop) (hB : tailB .any l.toArray 0 m = true) (hchk : steadyChk (l.take m) a.tmps.size = true)
    (hstab : ∀ d v w1 w2, G d v w1 → Below w1.heap.size w1 w2 → G d v w2)
    (hstep : ∀ o ∈ l.take m, ∀ a' w', Below w.heap.size w w' → Agrees (l.take m) a a' → (∀ d ∈ depSlots (l.take m) o, G d (a'.tmps.getD d undef) w') → o.wp P a' w' (fun a'' w'' => ∃ v, a'' = a'.put o.dst v ∧ Below w'.heap.size w' w'' ∧ ∀ d, o.dst = some d → G d v w'') Q)
    (hfin : ∀ a' w', Below w.heap.size w w' → Agrees (l.take m) a a' → (∀ o ∈ l.take m, ∀ d, o.dst = some d → G d (a'.tmps.getD d undef) w') → wpList P l.toArray Q (l.drop m) a' w') :
    ∀ (fuel : Nat) (U : List Nat) (listed : Array Bool) (a' : Act) (w' : World), U.length = fuel → U.Nodup → listed.size = l.length → (∀ j, j < m → (listed.getD j true = false ↔ j ∈ U)) → (∀ j ∈ U, j < m) → (∀ j, m ≤ j → j < l.length → listed.getD j true = false) → ClosedL .any l.toArray listed →
      Below w.heap.size w w' → Agrees (l.take m) a a' → (∀ j o d, (l.take m)[j]? = some o → listed.getD j true = true → o.dst = some d → G d (a'.tmps.getD d undef) w') → wpAny P .any l.toArray Q (fuel + (l.length - m)) listed a' w' := by
  intro fuel
  induction fuel with
  | zero =>
    intro U listed a' w' hU _ hs hm _ ho hc hb hag hG
    have hU0 : U = [] := List.length_eq_zero_iff.1 hU
    subst hU0
    have hT : ∀ j, j < m → listed.getD j true = true := fun j hj => by
      cases h : listed.getD j true with
      | true => rfl
      | false => exact absurd ((hm j hj).1 h) (by simp)
    rw [Nat.zero_add]
    refine wpAny_tail (c := 0) (m := m) (Nat.zero_le _) hB (l.length - m) m listed a' w' (by omega) (Nat.le_refl _) hs hT ho hc ?_
    refine hfin a' w' hb hag fun o ho d hd => ?_
    obtain ⟨j, hj, rfl⟩ := List.getElem_of_mem ho
    exact hG j _ d (List.getElem?_eq_getElem hj) (hT j (by simp at hj; omega)) hd
  | succ fuel ih =>
    intro U listed a' w' hU hnd hs hm hUm ho hc hb hag hG
    rw [show fuel + 1 + (l.length - m) = (fuel + (l.length - m)) + 1 by omega]
    obtain ⟨k, hk⟩ : ∃ k, k ∈ U := by
      cases U with
      | nil => simp at hU
      | cons x _ => exact ⟨x, by simp⟩
    have hkm := hUm k hk
    have hkl := (hm k hkm).2 hk
    refine ⟨fun h0 => ?_, fun i hi => ?_⟩
    · have := ready_nil_all (md := .any) (ops := l.toArray) (by simpa using hs) (fun j o ho e he => tailB_lex hB ho e he) h0 (k + 1) k (by omega) (by simp; omega)
      rw [hkl] at this
      cases this
    · obtain ⟨hu, o, hoi, hdep⟩ := mem_ready.1 hi
      have hil : i < l.length := by simpa using (Array.getElem?_eq_some_iff.1 hoi).1
      have him : i < m := by
        rcases Nat.lt_or_ge i m with h | h
        · exact h
        · have := ready_all hB hc h hi (i - k) k (Nat.zero_le _) (by omega) (Nat.le_refl _)
          rw [hkl] at this
          cases this
      have hoL : (l.take m)[i]? = some o := by rw [List.getElem?_take, if_pos him]; simpa using hoi
      have hmem : o ∈ l.take m := List.mem_of_getElem? hoL
      obtain ⟨_, hgd, hdn⟩ := steadyChk_at hchk hoL
      have hiU : i ∈ U := (hm i him).1 hu
      unfold wpOp
      simp only [hoi]
      rw [if_pos (by simp [Region.wanted, hgd])]
      left
      have hs1 := hstep o hmem a' w' hb hag ?_
      · refine Oper.wp_mono ?_ hs1
        rintro a'' w'' ⟨v, rfl, hb2, hGv⟩
        have hset : ∀ j, (listed.setIfInBounds i true).getD j true = if j = i then true else listed.getD j true := by
          intro j
          by_cases hji : j = i
          · subst hji
            by_cases hjs : j < listed.size
            · simp [Array.getD_eq_getD_getElem?, hjs]
            · simp [Array.getD_eq_getD_getElem?, hjs]
          · rw [if_neg hji]
            simp [Array.getD_eq_getD_getElem?, Ne.symm hji]
        refine ih (U.erase i) _ _ _ (by rw [List.length_erase_of_mem hiU]; omega) (hnd.erase i) (by simpa using hs) ?_ (fun j hj => hUm j (List.mem_of_mem_erase hj)) ?_ (hc.set hi) (hb.trans (hb2.mono hb.size)) ?_ ?_
        · intro j hj
          rw [hset j, hnd.mem_erase_iff]
          by_cases hji : j = i
          · simp [hji]
          · rw [if_neg hji, hm j hj]; simp [hji]
        · intro j hj hjl
          rw [hset j, if_neg (by omega)]
          exact ho j hj hjl
        · refine ⟨by rw [put_size]; exact hag.1, by rw [put_defers]; exact hag.2.1, fun d hd => ?_⟩
          rw [put_getD_ne _ _ _ _ (hd o hmem)]
          exact hag.2.2 d hd
        · intro j oj d hj hlj hdj
          rw [hset j] at hlj
          by_cases hji : j = i
          · subst hji
            rw [hoL] at hj
            cases hj
            rw [hdj, put_getD _ _ _ (by rw [hag.1]; exact hdn d hdj)]
            exact hGv d hdj
          · rw [if_neg hji] at hlj
            rw [put_getD_ne _ _ _ _ (steadyChk_ne hchk hj hoL hji hdj)]
            exact hstab d _ _ _ (hG j oj d hj hlj hdj) hb2
      · intro d hd
        simp only [depSlots, List.mem_filterMap, List.mem_filter] at hd
        obtain ⟨e, ⟨he, hbn⟩, hed⟩ := hd
        have hlst := hdep e (by simpa using he) hbn
        cases hoe : (l.take m)[e.on]? with
        | none => simp [hoe] at hed
        | some oe =>
          simp only [hoe, Option.bind_some] at hed
          exact hG e.on oe d hoe (getD_true_of_false hlst) hed
theorem wp_region_steady {id : Nat} {Q : Exit → Act → World → Prop} {a : Act} {w : World} {l : List Oper} (m : Nat) (G : Nat → Value → World → Prop) (hm : P.follows .mixedOrders = true) (hchk : (decide (m ≤ l.length) && tailB .any l.toArray 0 m && steadyChk (l.take m) a.tmps.size) = true)
    (hstab : ∀ d v w1 w2, G d v w1 → Below w1.heap.size w1 w2 → G d v w2)
    (hstep : ∀ o ∈ l.take m, ∀ a' w', Below w.heap.size w w' → Agrees (l.take m) a a' → (∀ d ∈ depSlots (l.take m) o, G d (a'.tmps.getD d undef) w') → o.wp P a' w' (fun a'' w'' => ∃ v, a'' = a'.put o.dst v ∧ Below w'.heap.size w' w'' ∧ ∀ d, o.dst = some d → G d v w'') Q)
    (hfin : ∀ a' w', Below w.heap.size w w' → Agrees (l.take m) a a' → (∀ o ∈ l.take m, ∀ d, o.dst = some d → G d (a'.tmps.getD d undef) w') → wpList P l.toArray Q (l.drop m) a' w') :
    (Code.region id l.toArray true).wp P Q a w := by
  refine wp_region_any hm ?_
  simp only [Bool.and_eq_true, decide_eq_true_eq] at hchk
  obtain ⟨⟨hml, hB⟩, hck⟩ := hchk
  have h := wpAny_steady (P := P) (w := w) m hml G hB hck hstab hstep hfin m (List.range m) (Array.replicate l.length false) a { w with drawn := w.drawn + 1 } (by simp) List.nodup_range (by simp) ?_ (by simp) ?_ ?_ ((Below.refl w.heap.size w).drew) ⟨rfl, rfl, fun _ _ => rfl⟩ ?_
  · rw [show m + (l.length - m) = l.length by omega] at h
    simpa using h
  · intro j hj
    have hjl : j < l.length := by omega
    simp [Array.getD_eq_getD_getElem?, hjl, hj]
  · intro j _ hjl
    simp [Array.getD_eq_getD_getElem?, hjl]
  · intro k o ho hk
    have hlt : k < l.length := by simpa using (Array.getElem?_eq_some_iff.1 ho).1
    simp [Array.getD_eq_getD_getElem?, hlt] at hk
  · intro j o d hj hl _
    have hlt : j < l.length := by have := (List.getElem?_eq_some_iff.1 hj).1; simp at this; omega
    simp [Array.getD_eq_getD_getElem?, hlt] at hl
end
/-- Conditions, a slot each. -/
def SlotG (gs : List (Nat × (Value → World → Prop))) (d : Nat) (x : Value) (w : World) : Prop := ∀ p, (d, p) ∈ gs → p x w
def Stabs : List (Nat × (Value → World → Prop)) → Prop
  | [] => True
  | p :: l => (∀ x w1 w2, p.2 x w1 → Below w1.heap.size w1 w2 → p.2 x w2) ∧ Stabs l
def Is (v : Value) : Value → World → Prop := fun x _ => x = v
theorem stab_is (v : Value) : ∀ x w1 w2, Is v x w1 → Below w1.heap.size w1 w2 → Is v x w2 := fun _ _ _ h _ => h
theorem SlotG.get {gs : List (Nat × (Value → World → Prop))} {d : Nat} {x : Value} {w : World} (h : SlotG gs d x w) (k : Nat) {p : Value → World → Prop} (hk : gs[k]? = some (d, p)) : p x w := h p (List.mem_of_getElem? hk)
theorem SlotG.is {gs : List (Nat × (Value → World → Prop))} {d : Nat} {x : Value} {w : World} (h : SlotG gs d x w) (k : Nat) {v : Value} (hk : gs[k]? = some (d, Is v)) : x = v := h (Is v) (List.mem_of_getElem? hk)
theorem key_one {α : Type} : ∀ {gs : List (Nat × α)}, (gs.map (·.1)).Nodup → ∀ {d : Nat} {p q : α}, (d, p) ∈ gs → (d, q) ∈ gs → p = q
  | [], _, _, _, _, h, _ => by cases h
  | (k, r) :: gs, hn, d, p, q, h1, h2 => by
    simp only [List.map_cons, List.nodup_cons] at hn
    have hin : ∀ x, (d, x) ∈ gs → d ∈ gs.map (·.1) := fun x hx => List.mem_map.2 ⟨(d, x), hx, rfl⟩
    rcases List.mem_cons.1 h1 with e1 | h1
    · rcases List.mem_cons.1 h2 with e2 | h2
      · rw [← e2] at e1; exact (Prod.mk.inj e1).2
      · have := hin q h2
        rw [(Prod.mk.inj e1).1] at this
        exact absurd this hn.1
    · rcases List.mem_cons.1 h2 with e2 | h2
      · have := hin p h1
        rw [(Prod.mk.inj e2).1] at this
        exact absurd this hn.1
      · exact key_one hn.2 h1 h2
theorem SlotG.mk {gs : List (Nat × (Value → World → Prop))} {d : Nat} {x : Value} {w : World} (k : Nat) {p : Value → World → Prop} (hk : gs[k]? = some (d, p)) (hn : (gs.map (·.1)).Nodup) (h : p x w) : SlotG gs d x w := by
  intro q hq
  rw [key_one hn hq (List.mem_of_getElem? hk)]
  exact h
theorem Stabs.all : ∀ {gs : List (Nat × (Value → World → Prop))}, Stabs gs → ∀ d v w1 w2, SlotG gs d v w1 → Below w1.heap.size w1 w2 → SlotG gs d v w2
  | [], _, _, _, _, _, _, _ => fun p hp => by cases hp
  | (k, q) :: gs, ⟨h1, h2⟩, d, v, w1, w2, h, hb => fun p hp => by
    rcases List.mem_cons.1 hp with e | hp
    · have hq : p = q := by simpa using (Prod.mk.inj e).2
      have hp1 := h p (by rw [e]; simp)
      rw [hq] at hp1 ⊢
      exact h1 v w1 w2 hp1 hb
    · exact Stabs.all h2 d v w1 w2 (fun p hp => h p (List.mem_cons_of_mem _ hp)) hb p hp
theorem Agrees.at {l : List Oper} {a a' : Act} (h : Agrees l a a') (d : Nat) (hd : (l.all fun o => decide (o.dst ≠ some d)) = true) : a'.tmps.getD d undef = a.tmps.getD d undef :=
  h.2.2 d fun o ho => of_decide_eq_true ((List.all_eq_true.1 hd) o ho)
end Go.Proofs.YtialedffpaoacaaGreatDoor
