/- Texts that stand on each other, in one file: Steady, SteadyX. -/
import Derived.Test.YtcnadobnihbldaaGreatTail
/- A law of our own on regions that draw their order: where each operation, whatever has come up before it, leaves in its slot a value that meets the slot's condition, and a world with some blocks laid behind, and the conditions bear that, any order ends in a frame that meets them all. -/
namespace Go.Proofs.YtcnadobnihbldaaGreat
open Go Go.RowKit

section
variable {P : Program}

/-- The slots of the operations that o waits for. -/
def depSlots (l : List Oper) (o : Oper) : List Nat := (o.after.toList.filter (Region.binds .any)).filterMap fun e => (l[e.on]?).bind (·.dst)
def steadyChk (l : List Oper) (n : Nat) : Bool :=
  ((List.range l.length).all fun j => match l[j]? with | none => true | some o => (o.after.all fun e => decide (e.on < j)) && o.guard.isNone && (match o.dst with | none => true | some d => decide (d < n))) &&
  (List.range l.length).all fun i => (List.range l.length).all fun j => decide (i = j) || ((l[i]?).bind (·.dst)).isNone || decide ((l[i]?).bind (·.dst) ≠ (l[j]?).bind (·.dst))
/-- The frame a' is as a, but for what the operations write. -/
def Agrees (l : List Oper) (a a' : Act) : Prop := a'.tmps.size = a.tmps.size ∧ a'.defers = a.defers ∧ ∀ d, (∀ o ∈ l, o.dst ≠ some d) → a'.tmps.getD d undef = a.tmps.getD d undef

theorem steadyChk_at {l : List Oper} {n j : Nat} {o : Oper} (h : steadyChk l n = true) (ho : l[j]? = some o) : (∀ e ∈ o.after, e.on < j) ∧ o.guard = none ∧ ∀ d, o.dst = some d → d < n := by
  have hlt : j < l.length := (List.getElem?_eq_some_iff.1 ho).1
  simp only [steadyChk, Bool.and_eq_true] at h
  have h1 := (List.all_eq_true.1 h.1) j (List.mem_range.2 hlt)
  simp only [ho, Bool.and_eq_true] at h1
  refine ⟨fun e he => of_decide_eq_true ((Array.all_eq_true_iff_forall_mem.1 h1.1.1) e he), by simpa using h1.1.2, fun d hd => ?_⟩
  have := h1.2
  simpa [hd] using this
theorem steadyChk_ne {l : List Oper} {n i j d : Nat} {oi oj : Oper} (h : steadyChk l n = true) (hi : l[i]? = some oi) (hj : l[j]? = some oj) (hne : i ≠ j) (hd : oi.dst = some d) : oj.dst ≠ some d := by
  have hlt : i < l.length := (List.getElem?_eq_some_iff.1 hi).1
  have hlt2 : j < l.length := (List.getElem?_eq_some_iff.1 hj).1
  simp only [steadyChk, Bool.and_eq_true] at h
  have h1 := (List.all_eq_true.1 ((List.all_eq_true.1 h.2) i (List.mem_range.2 hlt))) j (List.mem_range.2 hlt2)
  simp only [hi, hj, Option.bind_some, Bool.or_eq_true, decide_eq_true_eq] at h1
  rcases h1 with (h1 | h1) | h1
  · exact absurd h1 hne
  · rw [hd] at h1; simp at h1
  · rw [hd] at h1; exact fun e => h1 e.symm
theorem put_getD (a : Act) (d : Nat) (v : Value) (h : d < a.tmps.size) : (a.put (some d) v).tmps.getD d undef = v := by
  simp [Act.put, Array.getD_eq_getD_getElem?, h]
theorem put_getD_ne (a : Act) (dst : Option Tmp) (d : Nat) (v : Value) (h : dst ≠ some d) : (a.put dst v).tmps.getD d undef = a.tmps.getD d undef := by
  cases dst with
  | none => rfl
  | some x =>
    have hx : x ≠ d := fun e => h (by rw [e])
    simp [Act.put, Array.getD_eq_getD_getElem?, hx]
theorem put_size (a : Act) (dst : Option Tmp) (v : Value) : (a.put dst v).tmps.size = a.tmps.size := by cases dst <;> simp [Act.put]
theorem put_defers (a : Act) (dst : Option Tmp) (v : Value) : (a.put dst v).defers = a.defers := by cases dst <;> rfl

theorem act_eq (a : Act) (n : Nat) (h : a.tmps.size = n) : a = ⟨((List.range n).map fun k => a.tmps.getD k undef).toArray, a.defers⟩ := by
  subst h
  cases a with
  | mk T D =>
    simp only [Act.mk.injEq, and_true]
    apply Array.ext
    · simp
    · intro i h1 h2
      simp [Array.getD_eq_getD_getElem?, h1]
theorem wpAny_steady {l : List Oper} {Q : Exit → Act → World → Prop} {a : Act} {w : World} (m : Nat) (hml : m ≤ l.length) (G : Nat → Value → World → Prop) (hB : tailB .any l.toArray 0 m = true) (hchk : steadyChk (l.take m) a.tmps.size = true)
    (hstab : ∀ d v w1 w2, G d v w1 → Below w1.heap.size w1 w2 → G d v w2)
    (hstep : ∀ o ∈ l.take m, ∀ a' w', Below w.heap.size w w' → Agrees (l.take m) a a' → (∀ d ∈ depSlots (l.take m) o, G d (a'.tmps.getD d undef) w') → o.wp P a' w' (fun a'' w'' => ∃ v, a'' = a'.put o.dst v ∧ Below w'.heap.size w' w'' ∧ ∀ d, o.dst = some d → G d v w'') Q)
    (hfin : ∀ a' w', Below w.heap.size w w' → Agrees (l.take m) a a' → (∀ o ∈ l.take m, ∀ d, o.dst = some d → G d (a'.tmps.getD d undef) w') → wpList P l.toArray Q (l.drop m) a' w') :
    ∀ (fuel : Nat) (U : List Nat) (listed : Array Bool) (a' : Act) (w' : World), U.length = fuel → U.Nodup → listed.size = l.length → (∀ j, j < m → (listed.getD j true = false ↔ j ∈ U)) → (∀ j ∈ U, j < m) → (∀ j, m ≤ j → j < l.length → listed.getD j true = false) → ClosedL .any l.toArray listed →
      Below w.heap.size w w' → Agrees (l.take m) a a' → (∀ j o d, (l.take m)[j]? = some o → listed.getD j true = true → o.dst = some d → G d (a'.tmps.getD d undef) w') → wpAny P .any l.toArray Q (fuel + (l.length - m)) listed a' w' := by
  intro fuel
  induction fuel with
  | zero =>
    intro U listed a' w' hU _ hs hm _ ho hc hb hag hG
    have hU0 : U = [] := List.length_eq_zero_iff.1 hU
    subst hU0
    have hT : ∀ j, j < m → listed.getD j true = true := fun j hj => by
      cases h : listed.getD j true with
      | true => rfl
      | false => exact absurd ((hm j hj).1 h) (by simp)
    rw [Nat.zero_add]
    refine wpAny_tail (c := 0) (m := m) (Nat.zero_le _) hB (l.length - m) m listed a' w' (by omega) (Nat.le_refl _) hs hT ho hc ?_
    refine hfin a' w' hb hag fun o ho d hd => ?_
    obtain ⟨j, hj, rfl⟩ := List.getElem_of_mem ho
    exact hG j _ d (List.getElem?_eq_getElem hj) (hT j (by simp at hj; omega)) hd
  | succ fuel ih =>
    intro U listed a' w' hU hnd hs hm hUm ho hc hb hag hG
    rw [show fuel + 1 + (l.length - m) = (fuel + (l.length - m)) + 1 by omega]
    obtain ⟨k, hk⟩ : ∃ k, k ∈ U := by
      cases U with
      | nil => simp at hU
      | cons x _ => exact ⟨x, by simp⟩
    have hkm := hUm k hk
    have hkl := (hm k hkm).2 hk
    refine ⟨fun h0 => ?_, fun i hi => ?_⟩
    · have := ready_nil_all (md := .any) (ops := l.toArray) (by simpa using hs) (fun j o ho e he => tailB_lex hB ho e he) h0 (k + 1) k (by omega) (by simp; omega)
      rw [hkl] at this
      cases this
    · obtain ⟨hu, o, hoi, hdep⟩ := mem_ready.1 hi
      have hil : i < l.length := by simpa using (Array.getElem?_eq_some_iff.1 hoi).1
      have him : i < m := by
        rcases Nat.lt_or_ge i m with h | h
        · exact h
        · have := ready_all hB hc h hi (i - k) k (Nat.zero_le _) (by omega) (Nat.le_refl _)
          rw [hkl] at this
          cases this
      have hoL : (l.take m)[i]? = some o := by rw [List.getElem?_take, if_pos him]; simpa using hoi
      have hmem : o ∈ l.take m := List.mem_of_getElem? hoL
      obtain ⟨_, hgd, hdn⟩ := steadyChk_at hchk hoL
      have hiU : i ∈ U := (hm i him).1 hu
      unfold wpOp
      simp only [hoi]
      rw [if_pos (by simp [Region.wanted, hgd])]
      left
      have hs1 := hstep o hmem a' w' hb hag ?_
      · refine Oper.wp_mono ?_ hs1
        rintro a'' w'' ⟨v, rfl, hb2, hGv⟩
        have hset : ∀ j, (listed.setIfInBounds i true).getD j true = if j = i then true else listed.getD j true := by
          intro j
          by_cases hji : j = i
          · subst hji
            by_cases hjs : j < listed.size
            · simp [Array.getD_eq_getD_getElem?, hjs]
            · simp [Array.getD_eq_getD_getElem?, hjs]
          · rw [if_neg hji]
            simp [Array.getD_eq_getD_getElem?, Ne.symm hji]
        refine ih (U.erase i) _ _ _ (by rw [List.length_erase_of_mem hiU]; omega) (hnd.erase i) (by simpa using hs) ?_ (fun j hj => hUm j (List.mem_of_mem_erase hj)) ?_ (hc.set hi) (hb.trans (hb2.mono hb.size)) ?_ ?_
        · intro j hj
          rw [hset j, hnd.mem_erase_iff]
          by_cases hji : j = i
          · simp [hji]
          · rw [if_neg hji, hm j hj]; simp [hji]
        · intro j hj hjl
          rw [hset j, if_neg (by omega)]
          exact ho j hj hjl
        · refine ⟨by rw [put_size]; exact hag.1, by rw [put_defers]; exact hag.2.1, fun d hd => ?_⟩
          rw [put_getD_ne _ _ _ _ (hd o hmem)]
          exact hag.2.2 d hd
        · intro j oj d hj hlj hdj
          rw [hset j] at hlj
          by_cases hji : j = i
          · subst hji
            rw [hoL] at hj
            cases hj
            rw [hdj, put_getD _ _ _ (by rw [hag.1]; exact hdn d hdj)]
            exact hGv d hdj
          · rw [if_neg hji] at hlj
            rw [put_getD_ne _ _ _ _ (steadyChk_ne hchk hj hoL hji hdj)]
            exact hstab d _ _ _ (hG j oj d hj hlj hdj) hb2
      · intro d hd
        simp only [depSlots, List.mem_filterMap, List.mem_filter] at hd
        obtain ⟨e, ⟨he, hbn⟩, hed⟩ := hd
        have hlst := hdep e (by simpa using he) hbn
        cases hoe : (l.take m)[e.on]? with
        | none => simp [hoe] at hed
        | some oe =>
          simp only [hoe, Option.bind_some] at hed
          exact hG e.on oe d hoe (getD_true_of_false hlst) hed
theorem wp_region_steady {id : Nat} {Q : Exit → Act → World → Prop} {a : Act} {w : World} {l : List Oper} (m : Nat) (G : Nat → Value → World → Prop) (hm : P.follows .mixedOrders = true) (hchk : (decide (m ≤ l.length) && tailB .any l.toArray 0 m && steadyChk (l.take m) a.tmps.size) = true)
    (hstab : ∀ d v w1 w2, G d v w1 → Below w1.heap.size w1 w2 → G d v w2)
    (hstep : ∀ o ∈ l.take m, ∀ a' w', Below w.heap.size w w' → Agrees (l.take m) a a' → (∀ d ∈ depSlots (l.take m) o, G d (a'.tmps.getD d undef) w') → o.wp P a' w' (fun a'' w'' => ∃ v, a'' = a'.put o.dst v ∧ Below w'.heap.size w' w'' ∧ ∀ d, o.dst = some d → G d v w'') Q)
    (hfin : ∀ a' w', Below w.heap.size w w' → Agrees (l.take m) a a' → (∀ o ∈ l.take m, ∀ d, o.dst = some d → G d (a'.tmps.getD d undef) w') → wpList P l.toArray Q (l.drop m) a' w') :
    (Code.region id l.toArray true).wp P Q a w := by
  refine wp_region_any hm ?_
  simp only [Bool.and_eq_true, decide_eq_true_eq] at hchk
  obtain ⟨⟨hml, hB⟩, hck⟩ := hchk
  have h := wpAny_steady (P := P) (w := w) m hml G hB hck hstab hstep hfin m (List.range m) (Array.replicate l.length false) a { w with drawn := w.drawn + 1 } (by simp) List.nodup_range (by simp) ?_ (by simp) ?_ ?_ ((Below.refl w.heap.size w).drew) ⟨rfl, rfl, fun _ _ => rfl⟩ ?_
  · rw [show m + (l.length - m) = l.length by omega] at h
    simpa using h
  · intro j hj
    have hjl : j < l.length := by omega
    simp [Array.getD_eq_getD_getElem?, hjl, hj]
  · intro j _ hjl
    simp [Array.getD_eq_getD_getElem?, hjl]
  · intro k o ho hk
    have hlt : k < l.length := by simpa using (Array.getElem?_eq_some_iff.1 ho).1
    simp [Array.getD_eq_getD_getElem?, hlt] at hk
  · intro j o d hj hl _
    have hlt : j < l.length := by have := (List.getElem?_eq_some_iff.1 hj).1; simp at this; omega
    simp [Array.getD_eq_getD_getElem?, hlt] at hl
end
/-- Conditions, a slot each. -/
def SlotG (gs : List (Nat × (Value → World → Prop))) (d : Nat) (x : Value) (w : World) : Prop := ∀ p, (d, p) ∈ gs → p x w
def Stabs : List (Nat × (Value → World → Prop)) → Prop
  | [] => True
  | p :: l => (∀ x w1 w2, p.2 x w1 → Below w1.heap.size w1 w2 → p.2 x w2) ∧ Stabs l
def Is (v : Value) : Value → World → Prop := fun x _ => x = v
theorem stab_is (v : Value) : ∀ x w1 w2, Is v x w1 → Below w1.heap.size w1 w2 → Is v x w2 := fun _ _ _ h _ => h
theorem SlotG.get {gs : List (Nat × (Value → World → Prop))} {d : Nat} {x : Value} {w : World} (h : SlotG gs d x w) (k : Nat) {p : Value → World → Prop} (hk : gs[k]? = some (d, p)) : p x w := h p (List.mem_of_getElem? hk)
theorem SlotG.is {gs : List (Nat × (Value → World → Prop))} {d : Nat} {x : Value} {w : World} (h : SlotG gs d x w) (k : Nat) {v : Value} (hk : gs[k]? = some (d, Is v)) : x = v := h (Is v) (List.mem_of_getElem? hk)
theorem key_one {α : Type} : ∀ {gs : List (Nat × α)}, (gs.map (·.1)).Nodup → ∀ {d : Nat} {p q : α}, (d, p) ∈ gs → (d, q) ∈ gs → p = q
  | [], _, _, _, _, h, _ => by cases h
  | (k, r) :: gs, hn, d, p, q, h1, h2 => by
    simp only [List.map_cons, List.nodup_cons] at hn
    have hin : ∀ x, (d, x) ∈ gs → d ∈ gs.map (·.1) := fun x hx => List.mem_map.2 ⟨(d, x), hx, rfl⟩
    rcases List.mem_cons.1 h1 with e1 | h1
    · rcases List.mem_cons.1 h2 with e2 | h2
      · rw [← e2] at e1; exact (Prod.mk.inj e1).2
      · have := hin q h2
        rw [(Prod.mk.inj e1).1] at this
        exact absurd this hn.1
    · rcases List.mem_cons.1 h2 with e2 | h2
      · have := hin p h1
        rw [(Prod.mk.inj e2).1] at this
        exact absurd this hn.1
      · exact key_one hn.2 h1 h2
theorem SlotG.mk {gs : List (Nat × (Value → World → Prop))} {d : Nat} {x : Value} {w : World} (k : Nat) {p : Value → World → Prop} (hk : gs[k]? = some (d, p)) (hn : (gs.map (·.1)).Nodup) (h : p x w) : SlotG gs d x w := by
  intro q hq
  rw [key_one hn hq (List.mem_of_getElem? hk)]
  exact h
theorem Stabs.all : ∀ {gs : List (Nat × (Value → World → Prop))}, Stabs gs → ∀ d v w1 w2, SlotG gs d v w1 → Below w1.heap.size w1 w2 → SlotG gs d v w2
  | [], _, _, _, _, _, _, _ => fun p hp => by cases hp
  | (k, q) :: gs, ⟨h1, h2⟩, d, v, w1, w2, h, hb => fun p hp => by
    rcases List.mem_cons.1 hp with e | hp
    · have hq : p = q := by simpa using (Prod.mk.inj e).2
      have hp1 := h p (by rw [e]; simp)
      rw [hq] at hp1 ⊢
      exact h1 v w1 w2 hp1 hb
    · exact Stabs.all h2 d v w1 w2 (fun p hp => h p (List.mem_cons_of_mem _ hp)) hb p hp
theorem Agrees.at {l : List Oper} {a a' : Act} (h : Agrees l a a') (d : Nat) (hd : (l.all fun o => decide (o.dst ≠ some d)) = true) : a'.tmps.getD d undef = a.tmps.getD d undef :=
  h.2.2 d fun o ho => of_decide_eq_true ((List.all_eq_true.1 hd) o ho)
end Go.Proofs.YtcnadobnihbldaaGreat
/- A region that draws its order, one operation of which (the f-th, behind the first m) leans on nothing and may come up at any time ('x.F = append(x.F, v)': the place of the store): it is taken first; then the steady law over the first m; then the rest in the text's order, the f-th left out. -/
namespace Go.Proofs.YtcnadobnihbldaaGreat
open Go Go.RowKit

section
variable {P : Program} {md : Region.Mode}

def dropF (l : List Oper) (f t : Nat) : List Oper := if t ≤ f then (l.drop t).eraseIdx (f - t) else l.drop t
theorem dropF_lt {l : List Oper} {f t : Nat} (h : t < f) (ht : t < l.length) : dropF l f t = l[t] :: dropF l f (t + 1) := by
  unfold dropF
  rw [if_pos (by omega), if_pos (by omega), List.drop_eq_getElem_cons ht, show f - t = (f - (t + 1)) + 1 by omega, List.eraseIdx_cons_succ]
theorem dropF_gt {l : List Oper} {f t : Nat} (h : f < t) (ht : t < l.length) : dropF l f t = l[t] :: dropF l f (t + 1) := by
  unfold dropF
  rw [if_neg (by omega), if_neg (by omega), List.drop_eq_getElem_cons ht]
theorem dropF_eq {l : List Oper} {f : Nat} (ht : f < l.length) : dropF l f f = dropF l f (f + 1) := by
  unfold dropF
  rw [if_pos (Nat.le_refl _), if_neg (by omega), Nat.sub_self, List.drop_eq_getElem_cons ht]
  rfl
/-- Edges lead back; each operation from the m-th on, the f-th aside, is reached from every one ahead of it, the f-th aside. -/
def tailBF (md : Region.Mode) (ops : Array Oper) (m f : Nat) : Bool :=
  ((List.range ops.size).all fun j =>
    match ops[j]? with
    | none => true
    | some o => (o.after.all fun e => decide (e.on < j))) &&
  (List.range ops.size).all fun t => decide (t < m) || (decide (t = f) || (List.range t).all fun j => decide (j = f) || (waitsB md ops t j || (List.range t).any fun k => decide (j < k) && (decide (k ≠ f) && waitsB md ops k j)))
theorem tailBF_lex {ops : Array Oper} {m f : Nat} (h : tailBF md ops m f = true) {j : Nat} {o : Oper} (ho : ops[j]? = some o) : ∀ e ∈ o.after, e.on < j := by
  have hlt : j < ops.size := (Array.getElem?_eq_some_iff.1 ho).1
  unfold tailBF at h
  simp only [Bool.and_eq_true] at h
  have h1 := (List.all_eq_true.1 h.1) j (List.mem_range.2 hlt)
  simp only [ho] at h1
  intro e he
  exact of_decide_eq_true ((Array.all_eq_true_iff_forall_mem.1 h1) e he)
theorem tailBF_reach {ops : Array Oper} {m f : Nat} (h : tailBF md ops m f = true) {t : Nat} (hm : m ≤ t) (hf : t ≠ f) (ht : t < ops.size) {j : Nat} (hj : j < t) (hjf : j ≠ f) :
    waitsB md ops t j = true ∨ ∃ k, j < k ∧ k < t ∧ k ≠ f ∧ waitsB md ops k j = true := by
  unfold tailBF at h
  simp only [Bool.and_eq_true] at h
  have h1 := (List.all_eq_true.1 h.2) t (List.mem_range.2 ht)
  simp only [Bool.or_eq_true, decide_eq_true_eq] at h1
  rcases h1 with h1 | h1 | h1
  · omega
  · exact absurd h1 hf
  · have h2 := (List.all_eq_true.1 h1) j (List.mem_range.2 hj)
    simp only [Bool.or_eq_true, List.any_eq_true, List.mem_range, Bool.and_eq_true, decide_eq_true_eq] at h2
    rcases h2 with h2 | h2 | ⟨k, hk, hjk, hkf, hw⟩
    · exact absurd h2 hjf
    · exact .inl h2
    · exact .inr ⟨k, hjk, hk, hkf, hw⟩
theorem ready_allF {ops : Array Oper} {m f : Nat} (hB : tailBF md ops m f = true) {listed : Array Bool} (hc : ClosedL md ops listed) (hlf : listed.getD f true = true) {t : Nat} (hm : m ≤ t) (hf : t ≠ f) (ht : t ∈ Region.ready md ops listed) :
    ∀ d j, j < t → t - j ≤ d → listed.getD j true = true := by
  obtain ⟨_, o, ho, hall⟩ := mem_ready.1 ht
  have hlt : t < ops.size := (Array.getElem?_eq_some_iff.1 ho).1
  intro d
  induction d with
  | zero => intro j hj hd; omega
  | succ d ih =>
    intro j hj hd
    by_cases hjf : j = f
    · rw [hjf]; exact hlf
    rcases tailBF_reach hB hm hf hlt hj hjf with h | ⟨k, hjk, hkt, hkf, hw⟩
    · obtain ⟨o', e, ho', he, hb, rfl⟩ := waitsB_spec h
      rw [ho] at ho'
      cases ho'
      exact getD_true_of_false (hall e he hb)
    · obtain ⟨o', e, ho', he, hb, rfl⟩ := waitsB_spec hw
      exact getD_true_of_false (hc k o' ho' (ih k hkt (by omega)) e he hb)
/-- The tail, in the text's order, the f-th aside. -/
theorem wpAny_tailF {l : List Oper} {Q : Exit → Act → World → Prop} {m f : Nat} (hB : tailBF md l.toArray m f = true) (hfl : f < l.length) :
    ∀ (s t : Nat) (lo : Array Bool) (a : Act) (w : World), t ≠ f → t + s + (if t ≤ f then 1 else 0) = l.length → m ≤ t → lo.size = l.length → (∀ j, j < t ∨ j = f → lo.getD j true = true) → (∀ j, t ≤ j → j ≠ f → j < l.length → lo.getD j true = false) →
      ClosedL md l.toArray lo → wpList P l.toArray Q (dropF l f t) a w → wpAny P md l.toArray Q s lo a w
  | 0, t, lo, a, w, htf, hts, hmt, hsz, h1, h0, hc, h => by
    have hd : dropF l f t = [] := by
      unfold dropF
      by_cases hle : t ≤ f
      · rw [if_pos hle] at hts
        omega
      · rw [if_neg hle] at hts ⊢
        rw [show t = l.length by omega, List.drop_length]
    rw [hd] at h
    refine ⟨?_, h⟩
    rw [List.eq_nil_iff_forall_not_mem]
    intro i hi
    obtain ⟨hu, o, ho, _⟩ := mem_ready.1 hi
    have hlt : i < l.length := by simpa using (Array.getElem?_eq_some_iff.1 ho).1
    have : lo.getD i true = true := by
      by_cases hif : i = f
      · exact h1 i (.inr hif)
      · refine h1 i (.inl ?_)
        by_cases hle : t ≤ f
        · rw [if_pos hle] at hts; omega
        · rw [if_neg hle] at hts; omega
    rw [this] at hu
    cases hu
  | s + 1, t, lo, a, w, htf, hts, hmt, hsz, h1, h0, hc, h => by
    have htl : t < l.length := by
      by_cases hle : t ≤ f
      · omega
      · rw [if_neg hle] at hts; omega
    have hot : l.toArray[t]? = some l[t] := by simp [htl]
    have hdr : dropF l f t = l[t] :: dropF l f (t + 1) := by
      rcases Nat.lt_or_ge t f with h' | h'
      · exact dropF_lt h' htl
      · exact dropF_gt (by omega) htl
    rw [hdr] at h
    have hrt : t ∈ Region.ready md l.toArray lo := mem_ready.2 ⟨h0 t (Nat.le_refl _) htf htl, l[t], hot, fun e he _ => getD_false_of_true (by have := tailBF_lex hB hot e he; omega) (h1 _ (.inl (tailBF_lex hB hot e he)))⟩
    refine ⟨fun hn => ?_, fun i hi => ?_⟩
    · rw [hn] at hrt; cases hrt
    · obtain ⟨hu, o, ho, _⟩ := mem_ready.1 hi
      have hlt : i < l.length := by simpa using (Array.getElem?_eq_some_iff.1 ho).1
      have hif : i ≠ f := by
        intro e
        rw [h1 i (.inr e)] at hu; cases hu
      have hge : t ≤ i := by
        rcases Nat.lt_or_ge i t with h' | h'
        · rw [h1 i (.inl h')] at hu; cases hu
        · exact h'
      have hit : i = t := by
        rcases Nat.eq_or_lt_of_le hge with h' | h'
        · exact h'.symm
        · have := ready_allF hB hc (h1 f (.inr rfl)) (by omega : m ≤ i) hif hi i t h' (by omega)
          rw [h0 t (Nat.le_refl _) htf htl] at this
          cases this
      subst hit
      have key : ∀ a' w', wpList P l.toArray Q (dropF l f (i + 1)) a' w' → wpAny P md l.toArray Q s (lo.setIfInBounds i true) a' w' := by
        intro a' w' h'
        obtain ⟨t2, ht2, hle2, hd2, hsz2⟩ : ∃ t2, t2 ≠ f ∧ (t2 = i + 1 ∨ t2 = i + 2 ∧ i + 1 = f) ∧ dropF l f (i + 1) = dropF l f t2 ∧ t2 + s + (if t2 ≤ f then 1 else 0) = l.length := by
          by_cases hn : i + 1 = f
          · refine ⟨i + 2, by omega, .inr ⟨rfl, hn⟩, ?_, ?_⟩
            · rw [hn, dropF_eq hfl, ← hn]
            · rw [if_neg (by omega)]; rw [if_pos (by omega)] at hts; omega
          · refine ⟨i + 1, hn, .inl rfl, rfl, ?_⟩
            by_cases hle : i ≤ f
            · rw [if_pos hle] at hts; rw [if_pos (by omega)]; omega
            · rw [if_neg hle] at hts; rw [if_neg (by omega)]; omega
        rw [hd2] at h'
        refine wpAny_tailF hB hfl s t2 _ a' w' ht2 hsz2 (by omega) (by simpa using hsz) ?_ ?_ (hc.set hi) h'
        · intro j hj
          by_cases hji : j = i
          · subst hji; simp [hsz, htl]
          · rw [getD_set_ne true (Ne.symm hji)]
            refine h1 j ?_
            omega
        · intro j hj hjf hjl
          rw [getD_set_ne true (by omega)]; exact h0 j (by omega) hjf hjl
      unfold wpOp
      simp only [hot]
      simp only [wpList] at h
      split
      · rename_i hw
        rw [if_pos hw] at h
        exact h.imp (Oper.wp_mono key) id
      · rename_i hw
        rw [if_neg hw] at h
        exact key _ _ h
theorem wpAny_steadyF {l : List Oper} {Q : Exit → Act → World → Prop} {a : Act} {w : World} (m f : Nat) (hmf : m ≤ f) (hfl : f < l.length) (G : Nat → Value → World → Prop) (hB : tailBF .any l.toArray m f = true) (hchk : steadyChk (l.take m) a.tmps.size = true)
    (hstab : ∀ d v w1 w2, G d v w1 → Below w1.heap.size w1 w2 → G d v w2)
    (hstep : ∀ o ∈ l.take m, ∀ a' w', Below w.heap.size w w' → Agrees (l.take m) a a' → (∀ d ∈ depSlots (l.take m) o, G d (a'.tmps.getD d undef) w') → o.wp P a' w' (fun a'' w'' => ∃ v, a'' = a'.put o.dst v ∧ Below w'.heap.size w' w'' ∧ ∀ d, o.dst = some d → G d v w'') Q)
    (hfin : ∀ a' w', Below w.heap.size w w' → Agrees (l.take m) a a' → (∀ o ∈ l.take m, ∀ d, o.dst = some d → G d (a'.tmps.getD d undef) w') → wpList P l.toArray Q (dropF l f m) a' w') :
    ∀ (fuel : Nat) (U : List Nat) (listed : Array Bool) (a' : Act) (w' : World), U.length = fuel → U.Nodup → listed.size = l.length → (∀ j, j < m → (listed.getD j true = false ↔ j ∈ U)) → (∀ j ∈ U, j < m) → listed.getD f true = true → (∀ j, m ≤ j → j ≠ f → j < l.length → listed.getD j true = false) → ClosedL .any l.toArray listed →
      Below w.heap.size w w' → Agrees (l.take m) a a' → (∀ j o d, (l.take m)[j]? = some o → listed.getD j true = true → o.dst = some d → G d (a'.tmps.getD d undef) w') → wpAny P .any l.toArray Q (fuel + (l.length - m - 1)) listed a' w' := by
  intro fuel
  induction fuel with
  | zero =>
    intro U listed a' w' hU _ hs hm _ hlf ho hc hb hag hG
    have hU0 : U = [] := List.length_eq_zero_iff.1 hU
    subst hU0
    have hT : ∀ j, j < m → listed.getD j true = true := fun j hj => by
      cases h : listed.getD j true with
      | true => rfl
      | false => exact absurd ((hm j hj).1 h) (by simp)
    rw [Nat.zero_add]
    have hF := hfin a' w' hb hag fun o ho d hd => by
      obtain ⟨j, hj, rfl⟩ := List.getElem_of_mem ho
      exact hG j _ d (List.getElem?_eq_getElem hj) (hT j (by simp at hj; omega)) hd
    rcases Nat.eq_or_lt_of_le hmf with hmf' | hmf'
    · subst hmf'
      rw [dropF_eq hfl] at hF
      refine wpAny_tailF hB hfl (l.length - m - 1) (m + 1) listed a' w' (by omega) (by rw [if_neg (by omega)]; omega) (by omega) hs ?_ ?_ hc hF
      · intro j hj
        by_cases hjm : j = m
        · rw [hjm]; exact hlf
        · exact hT j (by omega)
      · exact fun j hj hjf hjl => ho j (by omega) hjf hjl
    · refine wpAny_tailF hB hfl (l.length - m - 1) m listed a' w' (by omega) (by rw [if_pos (by omega)]; omega) (Nat.le_refl _) hs ?_ ho hc hF
      intro j hj
      rcases hj with hj | hj
      · exact hT j hj
      · rw [hj]; exact hlf
  | succ fuel ih =>
    intro U listed a' w' hU hnd hs hm hUm hlf ho hc hb hag hG
    rw [show fuel + 1 + (l.length - m - 1) = (fuel + (l.length - m - 1)) + 1 by omega]
    obtain ⟨k, hk⟩ : ∃ k, k ∈ U := by
      cases U with
      | nil => simp at hU
      | cons x _ => exact ⟨x, by simp⟩
    have hkm := hUm k hk
    have hkl := (hm k hkm).2 hk
    refine ⟨fun h0 => ?_, fun i hi => ?_⟩
    · have := ready_nil_all (md := .any) (ops := l.toArray) (by simpa using hs) (fun j o ho e he => tailBF_lex hB ho e he) h0 (k + 1) k (by omega) (by simp; omega)
      rw [hkl] at this
      cases this
    · obtain ⟨hu, o, hoi, hdep⟩ := mem_ready.1 hi
      have hil : i < l.length := by simpa using (Array.getElem?_eq_some_iff.1 hoi).1
      have hif : i ≠ f := by
        intro e
        rw [e, hlf] at hu; cases hu
      have him : i < m := by
        rcases Nat.lt_or_ge i m with h | h
        · exact h
        · have := ready_allF hB hc hlf h hif hi (i - k) k (by omega) (Nat.le_refl _)
          rw [hkl] at this
          cases this
      have hoL : (l.take m)[i]? = some o := by rw [List.getElem?_take, if_pos him]; simpa using hoi
      have hmem : o ∈ l.take m := List.mem_of_getElem? hoL
      obtain ⟨_, hgd, hdn⟩ := steadyChk_at hchk hoL
      have hiU : i ∈ U := (hm i him).1 hu
      unfold wpOp
      simp only [hoi]
      rw [if_pos (by simp [Region.wanted, hgd])]
      left
      have hs1 := hstep o hmem a' w' hb hag ?_
      · refine Oper.wp_mono ?_ hs1
        rintro a'' w'' ⟨v, rfl, hb2, hGv⟩
        have hset : ∀ j, (listed.setIfInBounds i true).getD j true = if j = i then true else listed.getD j true := by
          intro j
          by_cases hji : j = i
          · subst hji
            by_cases hjs : j < listed.size
            · simp [Array.getD_eq_getD_getElem?, hjs]
            · simp [Array.getD_eq_getD_getElem?, hjs]
          · rw [if_neg hji]
            simp [Array.getD_eq_getD_getElem?, Ne.symm hji]
        refine ih (U.erase i) _ _ _ (by rw [List.length_erase_of_mem hiU]; omega) (hnd.erase i) (by simpa using hs) ?_ (fun j hj => hUm j (List.mem_of_mem_erase hj)) (by rw [hset f, if_neg (Ne.symm hif)]; exact hlf) ?_ (hc.set hi) (hb.trans (hb2.mono hb.size)) ?_ ?_
        · intro j hj
          rw [hset j, hnd.mem_erase_iff]
          by_cases hji : j = i
          · simp [hji]
          · rw [if_neg hji, hm j hj]; simp [hji]
        · intro j hj hjf hjl
          rw [hset j, if_neg (by omega)]
          exact ho j hj hjf hjl
        · refine ⟨by rw [put_size]; exact hag.1, by rw [put_defers]; exact hag.2.1, fun d hd => ?_⟩
          rw [put_getD_ne _ _ _ _ (hd o hmem)]
          exact hag.2.2 d hd
        · intro j oj d hj hlj hdj
          rw [hset j] at hlj
          by_cases hji : j = i
          · subst hji
            rw [hoL] at hj
            cases hj
            rw [hdj, put_getD _ _ _ (by rw [hag.1]; exact hdn d hdj)]
            exact hGv d hdj
          · rw [if_neg hji] at hlj
            rw [put_getD_ne _ _ _ _ (steadyChk_ne hchk hj hoL hji hdj)]
            exact hstab d _ _ _ (hG j oj d hj hlj hdj) hb2
      · intro d hd
        simp only [depSlots, List.mem_filterMap, List.mem_filter] at hd
        obtain ⟨e, ⟨he, hbn⟩, hed⟩ := hd
        have hlst := hdep e (by simpa using he) hbn
        cases hoe : (l.take m)[e.on]? with
        | none => simp [hoe] at hed
        | some oe =>
          simp only [hoe, Option.bind_some] at hed
          exact hG e.on oe d hoe (getD_true_of_false hlst) hed
/-- The law: 'of' is the f-th; it gives v in every world. -/
theorem wp_region_steadyF {id : Nat} {Q : Exit → Act → World → Prop} {a : Act} {w : World} {l : List Oper} (m f : Nat) (of : Oper) (v : Value) (hof : l[f]? = some of) (G : Nat → Value → World → Prop) (hm : P.follows .mixedOrders = true)
    (hchk : (decide (m ≤ f) && (tailBF .any l.toArray m f && (steadyChk (l.take m) a.tmps.size && (Region.noSelect l.toArray && (Region.free .any l.toArray (Array.replicate l.length false) f && (Region.ready .any l.toArray (Array.replicate l.length false)).contains f))))) = true)
    (hg : of.guard = none) (hy : ∀ w, (execOp a.eval of).run P w = .ok (.value v) w) (hQ : ∀ ch a' w', Q (.panic ch) (a'.put of.dst v) w' → Q (.panic ch) a' w')
    (hstab : ∀ d v w1 w2, G d v w1 → Below w1.heap.size w1 w2 → G d v w2)
    (hstep : ∀ o ∈ l.take m, ∀ a' w', Below w.heap.size w w' → Agrees (l.take m) (a.put of.dst v) a' → (∀ d ∈ depSlots (l.take m) o, G d (a'.tmps.getD d undef) w') → o.wp P a' w' (fun a'' w'' => ∃ v, a'' = a'.put o.dst v ∧ Below w'.heap.size w' w'' ∧ ∀ d, o.dst = some d → G d v w'') Q)
    (hfin : ∀ a' w', Below w.heap.size w w' → Agrees (l.take m) (a.put of.dst v) a' → (∀ o ∈ l.take m, ∀ d, o.dst = some d → G d (a'.tmps.getD d undef) w') → wpList P l.toArray Q (dropF l f m) a' w') :
    (Code.region id l.toArray true).wp P Q a w := by
  refine wp_region_any hm ?_
  simp only [Bool.and_eq_true, decide_eq_true_eq] at hchk
  obtain ⟨hmf, hB, hck, hS, hF, hR⟩ := hchk
  have hfl : f < l.length := (List.getElem?_eq_some_iff.1 hof).1
  have hfr : f ∈ Region.ready .any l.toArray (Array.replicate l.length false) := by simpa using hR
  have hc0 : ClosedL .any l.toArray (Array.replicate l.length false) := by
    intro k o ho hk
    have hlt : k < l.length := by simpa using (Array.getElem?_eq_some_iff.1 ho).1
    simp [Array.getD_eq_getD_getElem?, hlt] at hk
  have h0 : ∀ j, j < l.length → j ≠ f → ((Array.replicate l.length false).setIfInBounds f true).getD j true = false := fun j hj hjf => by
    rw [getD_set_ne true (Ne.symm hjf)]
    simp [Array.getD_eq_getD_getElem?, hj]
  have h1 : ((Array.replicate l.length false).setIfInBounds f true).getD f true = true := by simp [Array.getD_eq_getD_getElem?, hfl]
  have h := wpAny_steadyF (P := P) (a := a.put of.dst v) (w := w) m f hmf hfl G hB (by rw [put_size]; exact hck) hstab hstep hfin m (List.range m) ((Array.replicate l.length false).setIfInBounds f true) (a.put of.dst v) { w with drawn := w.drawn + 1 } (by simp) List.nodup_range (by simp) ?_ (by simp) h1 ?_ (hc0.set hfr) ((Below.refl w.heap.size w).drew) ⟨rfl, rfl, fun _ _ => rfl⟩ ?_
  · have h3 := wpAny_take (P := P) (i := f) (oi := of) (v := v) (ops := l.toArray) (listed := Array.replicate l.length false) (md := .any) (Q := Q) (a := a) (w := { w with drawn := w.drawn + 1 }) (fuel := m + (l.length - m - 1)) (by simpa using hof) hS hF hR hQ (.inl ⟨by simp [Region.wanted, hg], hy⟩) h
    rw [show m + (l.length - m - 1) + 1 = l.length by omega] at h3
    simpa using h3
  · intro j hj
    rw [h0 j (by omega) (by omega)]
    simp [hj]
  · exact fun j _ hjf hjl => h0 j hjl hjf
  · intro j o d hj hl _
    have hlt : j < m := by have := (List.getElem?_eq_some_iff.1 hj).1; simp at this; omega
    rw [h0 j (by omega) (by omega)] at hl
    cases hl
theorem wpAny_steady0 {l : List Oper} {Q : Exit → Act → World → Prop} {a : Act} {w : World} (m f : Nat) (hmf : f < m) (hml : m ≤ l.length) (G : Nat → Value → World → Prop) (hB : tailBF .any l.toArray m f = true) (hchk : steadyChk (l.take m) a.tmps.size = true)
    (hstab : ∀ d v w1 w2, G d v w1 → Below w1.heap.size w1 w2 → G d v w2)
    (hstep : ∀ o ∈ l.take m, ∀ a' w', Below w.heap.size w w' → Agrees (l.take m) a a' → (∀ d ∈ depSlots (l.take m) o, G d (a'.tmps.getD d undef) w') → o.wp P a' w' (fun a'' w'' => ∃ v, a'' = a'.put o.dst v ∧ Below w'.heap.size w' w'' ∧ ∀ d, o.dst = some d → G d v w'') Q)
    (hfin : ∀ a' w', Below w.heap.size w w' → Agrees (l.take m) a a' → (∀ o ∈ l.take m, ∀ d, o.dst = some d → G d (a'.tmps.getD d undef) w') → wpList P l.toArray Q (l.drop m) a' w') :
    ∀ (fuel : Nat) (U : List Nat) (listed : Array Bool) (a' : Act) (w' : World), U.length = fuel → U.Nodup → listed.size = l.length → (∀ j, j < m → (listed.getD j true = false ↔ j ∈ U)) → (∀ j ∈ U, j < m) → listed.getD f true = true → (∀ j, m ≤ j → j < l.length → listed.getD j true = false) → ClosedL .any l.toArray listed →
      Below w.heap.size w w' → Agrees (l.take m) a a' → (∀ j o d, (l.take m)[j]? = some o → listed.getD j true = true → o.dst = some d → G d (a'.tmps.getD d undef) w') → wpAny P .any l.toArray Q (fuel + (l.length - m)) listed a' w' := by
  intro fuel
  induction fuel with
  | zero =>
    intro U listed a' w' hU _ hs hm _ hlf ho hc hb hag hG
    have hU0 : U = [] := List.length_eq_zero_iff.1 hU
    subst hU0
    have hT : ∀ j, j < m → listed.getD j true = true := fun j hj => by
      cases h : listed.getD j true with
      | true => rfl
      | false => exact absurd ((hm j hj).1 h) (by simp)
    rw [Nat.zero_add]
    have hF := hfin a' w' hb hag fun o ho d hd => by
      obtain ⟨j, hj, rfl⟩ := List.getElem_of_mem ho
      exact hG j _ d (List.getElem?_eq_getElem hj) (hT j (by simp at hj; omega)) hd
    have hF2 : wpList P l.toArray Q (dropF l f m) a' w' := by
      unfold dropF
      rw [if_neg (by omega)]
      exact hF
    refine wpAny_tailF hB (by omega) (l.length - m) m listed a' w' (by omega) (by rw [if_neg (by omega)]; omega) (Nat.le_refl _) hs ?_ (fun j hj _ hjl => ho j hj hjl) hc hF2
    intro j hj
    exact hT j (by omega)
  | succ fuel ih =>
    intro U listed a' w' hU hnd hs hm hUm hlf ho hc hb hag hG
    rw [show fuel + 1 + (l.length - m) = (fuel + (l.length - m)) + 1 by omega]
    obtain ⟨k, hk⟩ : ∃ k, k ∈ U := by
      cases U with
      | nil => simp at hU
      | cons x _ => exact ⟨x, by simp⟩
    have hkm := hUm k hk
    have hkl := (hm k hkm).2 hk
    refine ⟨fun h0 => ?_, fun i hi => ?_⟩
    · have := ready_nil_all (md := .any) (ops := l.toArray) (by simpa using hs) (fun j o ho e he => tailBF_lex hB ho e he) h0 (k + 1) k (by omega) (by simp; omega)
      rw [hkl] at this
      cases this
    · obtain ⟨hu, o, hoi, hdep⟩ := mem_ready.1 hi
      have hil : i < l.length := by simpa using (Array.getElem?_eq_some_iff.1 hoi).1
      have hif : i ≠ f := by
        intro e
        rw [e, hlf] at hu; cases hu
      have him : i < m := by
        rcases Nat.lt_or_ge i m with h | h
        · exact h
        · have := ready_allF hB hc hlf h hif hi (i - k) k (by omega) (Nat.le_refl _)
          rw [hkl] at this
          cases this
      have hoL : (l.take m)[i]? = some o := by rw [List.getElem?_take, if_pos him]; simpa using hoi
      have hmem : o ∈ l.take m := List.mem_of_getElem? hoL
      obtain ⟨_, hgd, hdn⟩ := steadyChk_at hchk hoL
      have hiU : i ∈ U := (hm i him).1 hu
      unfold wpOp
      simp only [hoi]
      rw [if_pos (by simp [Region.wanted, hgd])]
      left
      have hs1 := hstep o hmem a' w' hb hag ?_
      · refine Oper.wp_mono ?_ hs1
        rintro a'' w'' ⟨v, rfl, hb2, hGv⟩
        have hset : ∀ j, (listed.setIfInBounds i true).getD j true = if j = i then true else listed.getD j true := by
          intro j
          by_cases hji : j = i
          · subst hji
            by_cases hjs : j < listed.size
            · simp [Array.getD_eq_getD_getElem?, hjs]
            · simp [Array.getD_eq_getD_getElem?, hjs]
          · rw [if_neg hji]
            simp [Array.getD_eq_getD_getElem?, Ne.symm hji]
        refine ih (U.erase i) _ _ _ (by rw [List.length_erase_of_mem hiU]; omega) (hnd.erase i) (by simpa using hs) ?_ (fun j hj => hUm j (List.mem_of_mem_erase hj)) (by rw [hset f, if_neg (Ne.symm hif)]; exact hlf) ?_ (hc.set hi) (hb.trans (hb2.mono hb.size)) ?_ ?_
        · intro j hj
          rw [hset j, hnd.mem_erase_iff]
          by_cases hji : j = i
          · simp [hji]
          · rw [if_neg hji, hm j hj]; simp [hji]
        · intro j hj hjl
          rw [hset j, if_neg (by omega)]
          exact ho j hj hjl
        · refine ⟨by rw [put_size]; exact hag.1, by rw [put_defers]; exact hag.2.1, fun d hd => ?_⟩
          rw [put_getD_ne _ _ _ _ (hd o hmem)]
          exact hag.2.2 d hd
        · intro j oj d hj hlj hdj
          rw [hset j] at hlj
          by_cases hji : j = i
          · subst hji
            rw [hoL] at hj
            cases hj
            rw [hdj, put_getD _ _ _ (by rw [hag.1]; exact hdn d hdj)]
            exact hGv d hdj
          · rw [if_neg hji] at hlj
            rw [put_getD_ne _ _ _ _ (steadyChk_ne hchk hj hoL hji hdj)]
            exact hstab d _ _ _ (hG j oj d hj hlj hdj) hb2
      · intro d hd
        simp only [depSlots, List.mem_filterMap, List.mem_filter] at hd
        obtain ⟨e, ⟨he, hbn⟩, hed⟩ := hd
        have hlst := hdep e (by simpa using he) hbn
        cases hoe : (l.take m)[e.on]? with
        | none => simp [hoe] at hed
        | some oe =>
          simp only [hoe, Option.bind_some] at hed
          exact hG e.on oe d hoe (getD_true_of_false hlst) hed
/-- The law where the free operation is among the first m. -/
theorem wp_region_steady0 {id : Nat} {Q : Exit → Act → World → Prop} {a : Act} {w : World} {l : List Oper} (m f : Nat) (of : Oper) (v : Value) (hof : l[f]? = some of) (G : Nat → Value → World → Prop) (hm : P.follows .mixedOrders = true)
    (hchk : (decide (f < m) && (decide (m ≤ l.length) && (tailBF .any l.toArray m f && (steadyChk (l.take m) a.tmps.size && (Region.noSelect l.toArray && (Region.free .any l.toArray (Array.replicate l.length false) f && (Region.ready .any l.toArray (Array.replicate l.length false)).contains f)))))) = true)
    (hg : of.guard = none) (hy : ∀ w, (execOp a.eval of).run P w = .ok (.value v) w) (hQ : ∀ ch a' w', Q (.panic ch) (a'.put of.dst v) w' → Q (.panic ch) a' w')
    (hGv : ∀ d w, of.dst = some d → G d v w)
    (hstab : ∀ d v w1 w2, G d v w1 → Below w1.heap.size w1 w2 → G d v w2)
    (hstep : ∀ o ∈ l.take m, ∀ a' w', Below w.heap.size w w' → Agrees (l.take m) a a' → (∀ d ∈ depSlots (l.take m) o, G d (a'.tmps.getD d undef) w') → o.wp P a' w' (fun a'' w'' => ∃ v, a'' = a'.put o.dst v ∧ Below w'.heap.size w' w'' ∧ ∀ d, o.dst = some d → G d v w'') Q)
    (hfin : ∀ a' w', Below w.heap.size w w' → Agrees (l.take m) a a' → (∀ o ∈ l.take m, ∀ d, o.dst = some d → G d (a'.tmps.getD d undef) w') → wpList P l.toArray Q (l.drop m) a' w') :
    (Code.region id l.toArray true).wp P Q a w := by
  refine wp_region_any hm ?_
  simp only [Bool.and_eq_true, decide_eq_true_eq] at hchk
  obtain ⟨hmf, hml, hB, hck, hS, hF, hR⟩ := hchk
  have hfl : f < l.length := by omega
  have hfr : f ∈ Region.ready .any l.toArray (Array.replicate l.length false) := by simpa using hR
  have hc0 : ClosedL .any l.toArray (Array.replicate l.length false) := by
    intro k o ho hk
    have hlt : k < l.length := by simpa using (Array.getElem?_eq_some_iff.1 ho).1
    simp [Array.getD_eq_getD_getElem?, hlt] at hk
  have h0 : ∀ j, j < l.length → j ≠ f → ((Array.replicate l.length false).setIfInBounds f true).getD j true = false := fun j hj hjf => by
    rw [getD_set_ne true (Ne.symm hjf)]
    simp [Array.getD_eq_getD_getElem?, hj]
  have h1 : ((Array.replicate l.length false).setIfInBounds f true).getD f true = true := by simp [Array.getD_eq_getD_getElem?, hfl]
  have hoT : (l.take m)[f]? = some of := by rw [List.getElem?_take, if_pos hmf]; exact hof
  have hag : Agrees (l.take m) a (a.put of.dst v) := ⟨by rw [put_size], by rw [put_defers], fun d hd => put_getD_ne _ _ _ _ (hd of (List.mem_of_getElem? hoT))⟩
  have hmem : f ∈ List.range m := List.mem_range.2 hmf
  have h := wpAny_steady0 (P := P) (a := a) (w := w) m f hmf hml G hB hck hstab hstep hfin (m - 1) ((List.range m).erase f) ((Array.replicate l.length false).setIfInBounds f true) (a.put of.dst v) { w with drawn := w.drawn + 1 } (by rw [List.length_erase_of_mem hmem]; simp) (List.nodup_range.erase f) (by simp) ?_ (fun j hj => List.mem_range.1 (List.mem_of_mem_erase hj)) h1 ?_ (hc0.set hfr) ((Below.refl w.heap.size w).drew) hag ?_
  · have h3 := wpAny_take (P := P) (i := f) (oi := of) (v := v) (ops := l.toArray) (listed := Array.replicate l.length false) (md := .any) (Q := Q) (a := a) (w := { w with drawn := w.drawn + 1 }) (fuel := m - 1 + (l.length - m)) (by simpa using hof) hS hF hR hQ (.inl ⟨by simp [Region.wanted, hg], hy⟩) h
    rw [show m - 1 + (l.length - m) + 1 = l.length by omega] at h3
    simpa using h3
  · intro j hj
    rw [List.nodup_range.mem_erase_iff]
    by_cases hjf : j = f
    · rw [hjf, h1]; simp
    · rw [h0 j (by omega) hjf]; simp [hj, hjf]
  · exact fun j hj hjl => h0 j hjl (by omega)
  · intro j o d hj hl hd
    have hlt : j < m := by have := (List.getElem?_eq_some_iff.1 hj).1; simp at this; omega
    by_cases hjf : j = f
    · subst hjf
      rw [hoT] at hj
      cases hj
      rw [hd, put_getD _ _ _ ((steadyChk_at hck hoT).2.2 d hd)]
      exact hGv d _ hd
    · rw [h0 j (by omega) hjf] at hl
      cases hl
end
end Go.Proofs.YtcnadobnihbldaaGreat
