/- A law of our own on regions that draw their order: where the first m operations only read (one value each in every world of a class), and every later one waits, at last, for all that stand ahead of it, the text's order serves every order. -/
import Derived.Deep.QuietTactic
import Derived.WalkKit
namespace Go.Proofs.YtialedffpaoacaaGreatDoor
open Go

section
variable {P : Program} {md : Region.Mode}

def waitsB (md : Region.Mode) (ops : Array Oper) (t j : Nat) : Bool :=
  match ops[t]? with
  | none => false
  | some o => o.after.any fun e => Region.binds md e && e.on == j
/-- Edges and guards lead back; each operation from the m-th on is reached from every one ahead of it, the first c of all aside. -/
def tailB (md : Region.Mode) (ops : Array Oper) (c m : Nat) : Bool :=
  ((List.range ops.size).all fun j =>
    match ops[j]? with
    | none => true
    | some o => (o.after.all fun e => decide (e.on < j)) && (match o.guard with | none => true | some (g, _) => decide (g < j))) &&
  (List.range ops.size).all fun t => decide (t < m) || (List.range t).all fun j => decide (j < c) || waitsB md ops t j || (List.range t).any fun k => decide (j < k) && waitsB md ops k j

theorem waitsB_spec {ops : Array Oper} {t j : Nat} (h : waitsB md ops t j = true) : ∃ o e, ops[t]? = some o ∧ e ∈ o.after ∧ Region.binds md e = true ∧ e.on = j := by
  unfold waitsB at h
  cases ho : ops[t]? with
  | none => simp [ho] at h
  | some o =>
    simp only [ho] at h
    rw [← Array.any_toList, List.any_eq_true] at h
    obtain ⟨e, he, hx⟩ := h
    simp only [Bool.and_eq_true, beq_iff_eq] at hx
    exact ⟨o, e, rfl, by simpa using he, hx.1, hx.2⟩
theorem tailB_lex {ops : Array Oper} {c m : Nat} (h : tailB md ops c m = true) {j : Nat} {o : Oper} (ho : ops[j]? = some o) : ∀ e ∈ o.after, e.on < j := by
  have hlt : j < ops.size := (Array.getElem?_eq_some_iff.1 ho).1
  unfold tailB at h
  simp only [Bool.and_eq_true] at h
  have h1 := (List.all_eq_true.1 h.1) j (List.mem_range.2 hlt)
  simp only [ho, Bool.and_eq_true] at h1
  intro e he
  exact of_decide_eq_true ((Array.all_eq_true_iff_forall_mem.1 h1.1) e he)
theorem tailB_guard {ops : Array Oper} {c m : Nat} (h : tailB md ops c m = true) {j : Nat} {o : Oper} (ho : ops[j]? = some o) {g : Nat} {b : Bool} (hg : o.guard = some (g, b)) : g < j := by
  have hlt : j < ops.size := (Array.getElem?_eq_some_iff.1 ho).1
  unfold tailB at h
  simp only [Bool.and_eq_true] at h
  have h1 := (List.all_eq_true.1 h.1) j (List.mem_range.2 hlt)
  simp only [ho, Bool.and_eq_true, hg] at h1
  exact of_decide_eq_true h1.2
theorem tailB_reach {ops : Array Oper} {c m : Nat} (h : tailB md ops c m = true) {t : Nat} (hm : m ≤ t) (ht : t < ops.size) {j : Nat} (hcj : c ≤ j) (hj : j < t) :
    waitsB md ops t j = true ∨ ∃ k, j < k ∧ k < t ∧ waitsB md ops k j = true := by
  unfold tailB at h
  simp only [Bool.and_eq_true] at h
  have h1 := (List.all_eq_true.1 h.2) t (List.mem_range.2 ht)
  simp only [Bool.or_eq_true, decide_eq_true_eq] at h1
  rcases h1 with h1 | h1
  · omega
  · have h2 := (List.all_eq_true.1 h1) j (List.mem_range.2 hj)
    simp only [Bool.or_eq_true, List.any_eq_true, List.mem_range, Bool.and_eq_true, decide_eq_true_eq] at h2
    rcases h2 with (h2 | h2) | ⟨k, hk, hjk, hw⟩
    · omega
    · exact .inl h2
    · exact .inr ⟨k, hjk, hk, hw⟩

theorem getD_true_of_false {l : Array Bool} {j : Nat} (h : l.getD j false = true) : l.getD j true = true := by
  simp only [Array.getD_eq_getD_getElem?] at *
  cases hq : l[j]? with
  | none => simp
  | some v => simpa [hq] using h
theorem getD_false_of_true {l : Array Bool} {j : Nat} (hj : j < l.size) (h : l.getD j true = true) : l.getD j false = true := by
  simp only [Array.getD_eq_getD_getElem?] at *
  simpa [hj] using h
/-- What has come up has come up behind all that it waits for. -/
def ClosedL (md : Region.Mode) (ops : Array Oper) (listed : Array Bool) : Prop :=
  ∀ (k : Nat) (o : Oper), ops[k]? = some o → listed.getD k true = true → ∀ e ∈ o.after, Region.binds md e = true → listed.getD e.on false = true
theorem ClosedL.set {ops : Array Oper} {listed : Array Bool} (h : ClosedL md ops listed) {i : Nat} (hi : i ∈ Region.ready md ops listed) : ClosedL md ops (listed.setIfInBounds i true) := by
  intro k o ho hk e he hb
  by_cases hki : k = i
  · subst hki
    obtain ⟨_, o', ho', hall⟩ := mem_ready.1 hi
    rw [ho] at ho'
    cases ho'
    exact getD_set_true (hall e he hb)
  · rw [getD_set_ne true (Ne.symm hki)] at hk
    exact getD_set_true (h k o ho hk e he hb)
theorem ready_all {ops : Array Oper} {c m : Nat} (hB : tailB md ops c m = true) {listed : Array Bool} (hc : ClosedL md ops listed) {t : Nat} (hm : m ≤ t) (ht : t ∈ Region.ready md ops listed) :
    ∀ d j, c ≤ j → j < t → t - j ≤ d → listed.getD j true = true := by
  obtain ⟨_, o, ho, hall⟩ := mem_ready.1 ht
  have hlt : t < ops.size := (Array.getElem?_eq_some_iff.1 ho).1
  intro d
  induction d with
  | zero => intro j _ hj hd; omega
  | succ d ih =>
    intro j hcj hj hd
    rcases tailB_reach hB hm hlt hcj hj with h | ⟨k, hjk, hkt, hw⟩
    · obtain ⟨o', e, ho', he, hb, rfl⟩ := waitsB_spec h
      rw [ho] at ho'
      cases ho'
      exact getD_true_of_false (hall e he hb)
    · obtain ⟨o', e, ho', he, hb, rfl⟩ := waitsB_spec hw
      exact getD_true_of_false (hc k o' ho' (ih k (by omega) hkt (by omega)) e he hb)
theorem ready_nil_all {ops : Array Oper} {listed : Array Bool} (hs : listed.size = ops.size) (hlex : ∀ (j : Nat) (o : Oper), ops[j]? = some o → ∀ e ∈ o.after, e.on < j) (h : Region.ready md ops listed = []) :
    ∀ d j, j < d → j < ops.size → listed.getD j true = true := by
  intro d
  induction d with
  | zero => intro j hj _; omega
  | succ d ih =>
    intro j hj hjs
    by_cases hu : listed.getD j true = true
    · exact hu
    · have ho : ops[j]? = some ops[j] := by simp [hjs]
      have : j ∈ Region.ready md ops listed := mem_ready.2 ⟨by simpa using hu, ops[j], ho, fun e he _ => getD_false_of_true (by have := hlex j _ ho e he; omega) (ih e.on (by have := hlex j _ ho e he; omega) (by have := hlex j _ ho e he; omega))⟩
      rw [h] at this
      cases this
theorem wpAny_more {ops : Array Oper} {Q : Exit → Act → World → Prop} : ∀ (n : Nat) (listed : Array Bool) (a : Act) (w : World), wpAny P md ops Q n listed a w → wpAny P md ops Q (n + 1) listed a w
  | 0, _, _, _, h => ⟨fun _ => h.2, fun i hi => by rw [h.1] at hi; cases hi⟩
  | n + 1, _, _, _, h => ⟨h.1, fun i hi => wpOp_mono (fun a' w' h' => wpAny_more n _ a' w' h') (h.2 i hi)⟩
theorem wpAny_more_n {ops : Array Oper} {Q : Exit → Act → World → Prop} (n : Nat) {listed : Array Bool} {a : Act} {w : World} (h : wpAny P md ops Q n listed a w) : ∀ k, wpAny P md ops Q (k + n) listed a w
  | 0 => by rw [Nat.zero_add]; exact h
  | k + 1 => by rw [Nat.add_right_comm]; exact wpAny_more _ _ _ _ (wpAny_more_n n h k)

/-- The tail, in the text's order. -/
theorem wpAny_tail {l : List Oper} {Q : Exit → Act → World → Prop} {c m : Nat} (hcm : c ≤ m) (hB : tailB md l.toArray c m = true) :
    ∀ (s t : Nat) (lo : Array Bool) (a : Act) (w : World), t + s = l.length → m ≤ t → lo.size = l.length → (∀ j, j < t → lo.getD j true = true) → (∀ j, t ≤ j → j < l.length → lo.getD j true = false) →
      ClosedL md l.toArray lo → wpList P l.toArray Q (l.drop t) a w → wpAny P md l.toArray Q s lo a w
  | 0, t, lo, a, w, hts, hmt, hsz, h1, h0, hc, h => by
    obtain rfl : t = l.length := by omega
    rw [List.drop_length] at h
    refine ⟨?_, h⟩
    rw [List.eq_nil_iff_forall_not_mem]
    intro i hi
    obtain ⟨hu, o, ho, _⟩ := mem_ready.1 hi
    have hlt : i < l.length := by simpa using (Array.getElem?_eq_some_iff.1 ho).1
    rw [h1 i hlt] at hu
    cases hu
  | s + 1, t, lo, a, w, hts, hmt, hsz, h1, h0, hc, h => by
    have htl : t < l.length := by omega
    have hot : l.toArray[t]? = some l[t] := by simp [htl]
    rw [List.drop_eq_getElem_cons htl] at h
    have hrt : t ∈ Region.ready md l.toArray lo := mem_ready.2 ⟨h0 t (Nat.le_refl _) htl, l[t], hot, fun e he _ => getD_false_of_true (by have := tailB_lex hB hot e he; omega) (h1 _ (tailB_lex hB hot e he))⟩
    refine ⟨fun hn => ?_, fun i hi => ?_⟩
    · rw [hn] at hrt; cases hrt
    · obtain ⟨hu, o, ho, _⟩ := mem_ready.1 hi
      have hlt : i < l.length := by simpa using (Array.getElem?_eq_some_iff.1 ho).1
      have hge : t ≤ i := by
        rcases Nat.lt_or_ge i t with h' | h'
        · rw [h1 i h'] at hu; cases hu
        · exact h'
      have hit : i = t := by
        rcases Nat.eq_or_lt_of_le hge with h' | h'
        · exact h'.symm
        · have := ready_all hB hc (by omega : m ≤ i) hi i t (by omega) h' (by omega)
          rw [h0 t (Nat.le_refl _) htl] at this
          cases this
      subst hit
      have key : ∀ a' w', wpList P l.toArray Q (l.drop (i + 1)) a' w' → wpAny P md l.toArray Q s (lo.setIfInBounds i true) a' w' := by
        intro a' w' h'
        refine wpAny_tail hcm hB s (i + 1) _ a' w' (by omega) (by omega) (by simpa using hsz) ?_ ?_ (hc.set hi) h'
        · intro j hj
          by_cases hji : j = i
          · subst hji; simp [hsz, htl]
          · rw [getD_set_ne true (Ne.symm hji)]; exact h1 j (by omega)
        · intro j hj hjl
          rw [getD_set_ne true (by omega)]; exact h0 j (by omega) hjl
      unfold wpOp
      simp only [hot]
      simp only [wpList] at h
      split
      · rename_i hw
        rw [if_pos hw] at h
        exact h.imp (Oper.wp_mono key) id
      · rename_i hw
        rw [if_neg hw] at h
        exact key _ _ h

theorem take_get {l : List Oper} {m j : Nat} (hj : j < m) : (l.take m).toArray[j]? = l.toArray[j]? := by
  simp [hj]
/-- From the first m operations to all. -/
theorem wpAny_front {l : List Oper} {Q : Exit → Act → World → Prop} {C : World → Prop} {Qa : Act → Prop} {c m : Nat} (hcm : c ≤ m) (hml : m ≤ l.length) (hB : tailB md l.toArray c m = true)
    (hQ : ∀ a w, C w → Qa a → wpList P l.toArray Q (l.drop m) a w) :
    ∀ (fuel : Nat) (lp lo : Array Bool) (a : Act) (w : World), lp.size = m → lo.size = l.length → (∀ j, j < m → lo.getD j true = lp.getD j true) → (∀ j, m ≤ j → j < l.length → lo.getD j true = false) → (∀ j, j < c → lo.getD j true = true) →
      ClosedL md l.toArray lo → C w → wpAnyQ P md (l.take m).toArray C Qa fuel lp a → wpAny P md l.toArray Q (fuel + (l.length - m)) lo a w := by
  have hpl : (l.take m).toArray.size = m := by simp [hml]
  have hlex : ∀ (j : Nat) (o : Oper), (l.take m).toArray[j]? = some o → ∀ e ∈ o.after, e.on < j := by
    intro j o ho
    have hj : j < m := by have := (Array.getElem?_eq_some_iff.1 ho).1; omega
    rw [take_get hj] at ho
    exact tailB_lex hB ho
  have hready : ∀ (lp lo : Array Bool), lp.size = m → lo.size = l.length → (∀ j, j < m → lo.getD j true = lp.getD j true) → ∀ i, i < m → (i ∈ Region.ready md (l.take m).toArray lp ↔ i ∈ Region.ready md l.toArray lo) := by
    intro lp lo hp ho heq i hi
    rw [mem_ready, mem_ready, heq i hi, take_get hi]
    constructor
    · rintro ⟨h0, o, hoo, hall⟩
      refine ⟨h0, o, hoo, fun e he hb => ?_⟩
      have hlt := tailB_lex hB hoo e he
      exact getD_false_of_true (by omega) (by rw [heq _ (by omega)]; exact getD_true_of_false (hall e he hb))
    · rintro ⟨h0, o, hoo, hall⟩
      refine ⟨h0, o, hoo, fun e he hb => ?_⟩
      have hlt := tailB_lex hB hoo e he
      exact getD_false_of_true (by omega) (by rw [← heq _ (by omega)]; exact getD_true_of_false (hall e he hb))
  have hend : ∀ (fuel : Nat) (lp lo : Array Bool) (a : Act) (w : World), lp.size = m → lo.size = l.length → (∀ j, j < m → lo.getD j true = lp.getD j true) → (∀ j, m ≤ j → j < l.length → lo.getD j true = false) →
      ClosedL md l.toArray lo → C w → Region.ready md (l.take m).toArray lp = [] → Qa a → wpAny P md l.toArray Q (fuel + (l.length - m)) lo a w := by
    intro fuel lp lo a w hp ho heq h0 hc hC hn hqa
    refine wpAny_more_n _ ?_ fuel
    refine wpAny_tail hcm hB _ m lo a w (by omega) (Nat.le_refl _) ho ?_ h0 hc (hQ a w hC hqa)
    intro j hj
    rw [heq j hj]
    exact ready_nil_all (by omega) hlex hn (j + 1) j (by omega) (by omega)
  intro fuel
  induction fuel with
  | zero =>
    intro lp lo a w hp ho heq h0 hfc hc hC h
    exact hend 0 lp lo a w hp ho heq h0 hc hC h.1 h.2
  | succ fuel ih =>
    intro lp lo a w hp ho heq h0 hfc hc hC h
    by_cases hn : Region.ready md (l.take m).toArray lp = []
    · exact hend _ lp lo a w hp ho heq h0 hc hC hn (h.1 hn)
    · rw [Nat.add_right_comm]
      obtain ⟨i0, hi0⟩ := List.exists_mem_of_ne_nil _ hn
      have hi0m : i0 < m := by
        obtain ⟨_, o, hoo, _⟩ := mem_ready.1 hi0
        have := (Array.getElem?_eq_some_iff.1 hoo).1
        omega
      refine ⟨fun hnil => ?_, fun i hi => ?_⟩
      · rw [hready lp lo hp ho heq i0 hi0m, hnil] at hi0; cases hi0
      · have him : i < m := by
          rcases Nat.lt_or_ge i m with h' | h'
          · exact h'
          · have hi0c : c ≤ i0 := by
              rcases Nat.lt_or_ge i0 c with h2 | h2
              · have := hfc i0 h2
                rw [heq i0 hi0m, (mem_ready.1 hi0).1] at this
                cases this
              · exact h2
            have := ready_all hB hc h' hi i i0 hi0c (by omega) (by omega)
            rw [heq i0 hi0m, (mem_ready.1 hi0).1] at this
            cases this
        have hip := (hready lp lo hp ho heq i him).2 hi
        have hq := h.2 i hip
        obtain ⟨_, o, hoo, _⟩ := mem_ready.1 hi
        have key : ∀ a' w', C w' → wpAnyQ P md (l.take m).toArray C Qa fuel (lp.setIfInBounds i true) a' → wpAny P md l.toArray Q (fuel + (l.length - m)) (lo.setIfInBounds i true) a' w' := by
          intro a' w' hC' h'
          refine ih _ _ a' w' (by simpa using hp) (by simpa using ho) ?_ ?_ ?_ (hc.set hi) hC' h'
          · intro j hj
            by_cases hji : j = i
            · subst hji; simp [hp, ho, hj, Nat.lt_of_lt_of_le hj hml]
            · rw [getD_set_ne true (Ne.symm hji), getD_set_ne true (Ne.symm hji)]; exact heq j hj
          · intro j hj hjl
            rw [getD_set_ne true (by omega)]; exact h0 j hj hjl
          · intro j hj
            by_cases hji : j = i
            · subst hji; simp [ho, Nat.lt_of_lt_of_le (Nat.lt_of_lt_of_le hj hcm) hml]
            · rw [getD_set_ne true (Ne.symm hji)]; exact hfc j hj
        have hwant : Region.wanted o (yielded (l.take m).toArray a.tmps) = Region.wanted o (yielded l.toArray a.tmps) := by
          unfold Region.wanted
          cases hg : o.guard with
          | none => rfl
          | some gb =>
            obtain ⟨g, b⟩ := gb
            have hgi := tailB_guard hB hoo hg
            simp only [yielded, take_get (show g < m by omega)]
        unfold qOp at hq
        rw [take_get him] at hq
        simp only [hoo] at hq
        rw [hwant] at hq
        unfold wpOp
        simp only [hoo]
        split
        · rename_i hw
          rw [if_pos hw] at hq
          exact .inl (Oper.wp_of_quiet hC key hq)
        · rename_i hw
          rw [if_neg hw] at hq
          exact key _ _ hC hq

/-- What has come up at first: the first c. -/
def leadL (n c : Nat) : Array Bool := (List.replicate c true ++ List.replicate (n - c) false).toArray
def tailChk (l : List Oper) (c m : Nat) : Bool :=
  decide (c ≤ m) && (decide (m ≤ l.length) && (tailB .any l.toArray c m && (Region.noSelect (l.take m).toArray && (Region.lexFrom .any (l.take m).toArray (m - c) c (leadL m c) &&
    ((List.range c).all fun k => match l.toArray[k]? with | none => true | some o => o.after.isEmpty)))))
theorem leadL_getD (n c j : Nat) (hj : j < n) (hc : c ≤ n) : (leadL n c).getD j true = decide (j < c) := by
  unfold leadL
  by_cases h : j < c
  · simp [h, List.getElem?_append_left]
  · have : j - c < n - c := by omega
    simp [h, List.getElem?_append_right (show (List.replicate c true).length ≤ j by simp; omega), this]
theorem wpAny_from {Q : Exit → Act → World → Prop} {a : Act} {w : World} {l : List Oper} (c m : Nat) (hB : tailChk l c m = true)
    (h : wpQuiet P (l.take m).toArray (fun w' => ∃ n, w' = w.drewN n) (fun a' => ∀ w', (∃ n, w' = w.drewN n) → wpList P l.toArray Q (l.drop m) a' w') ((l.take m).drop c) a) :
    wpAny P .any l.toArray Q (l.length - c) (leadL l.length c) a { w with drawn := w.drawn + 1 } := by
  simp only [tailChk, Bool.and_eq_true, decide_eq_true_eq] at hB
  obtain ⟨hcm, hml, hT, hS, hL, hE⟩ := hB
  have hlen : ((l.take m).drop c).length = m - c := by simp [hml]
  have h1 := wpAnyQ_lex (P := P) (C := fun w' => ∃ n, w' = w.drewN n) (md := .any) hS ((l.take m).drop c) c (leadL m c) a (by intro j; simp) (by rw [hlen]; exact hL) h
  have h2 := wpAny_front (P := P) (md := .any) (Q := Q) hcm hml hT (fun a w' hC h' => h' w' hC) ((l.take m).drop c).length (leadL m c) (leadL l.length c) a { w with drawn := w.drawn + 1 }
    (by simp [leadL]; omega) (by simp [leadL]; omega) (by intro j hj; rw [leadL_getD _ _ _ hj hcm, leadL_getD _ _ _ (by omega) (by omega)]) (by intro j hj hjl; rw [leadL_getD _ _ _ hjl (by omega)]; simp; omega) (by intro j hj; rw [leadL_getD _ _ _ (by omega) (by omega)]; simpa using hj) ?_ ⟨1, rfl⟩ h1
  · rw [hlen, show m - c + (l.length - m) = l.length - c by omega] at h2
    exact h2
  · intro k o ho hk e he
    have hlt : k < l.length := by simpa using (Array.getElem?_eq_some_iff.1 ho).1
    rw [leadL_getD _ _ _ hlt (by omega)] at hk
    have hkc : k < c := by simpa using hk
    have h3 := (List.all_eq_true.1 hE) k (List.mem_range.2 hkc)
    simp only [ho] at h3
    have : o.after = #[] := by simpa using h3
    rw [this] at he
    simp at he
/-- THE LAW. -/
theorem wp_region_tail {id : Nat} {Q : Exit → Act → World → Prop} {a : Act} {w : World} {l : List Oper} (m : Nat) (hm : P.follows .mixedOrders = true) (hB : tailChk l 0 m = true)
    (h : wpQuiet P (l.take m).toArray (fun w' => ∃ n, w' = w.drewN n) (fun a' => ∀ w', (∃ n, w' = w.drewN n) → wpList P l.toArray Q (l.drop m) a' w') (l.take m) a) : (Code.region id l.toArray true).wp P Q a w := by
  have h2 := wpAny_from (Q := Q) 0 m hB (by simpa using h)
  refine wp_region_any hm ?_
  have e : leadL l.length 0 = Array.replicate l.length false := by simp [leadL]
  rw [e] at h2
  simpa using h2
/-- The same where the first operation, which waits for nothing and looks at no memory, is not waited for by all of the tail ('out = append(out, ..)': the look at out). -/
theorem wp_region_tail1 {id : Nat} {Q : Exit → Act → World → Prop} {a : Act} {w : World} {o0 : Oper} {l : List Oper} (m : Nat) (v : Value) (hm : P.follows .mixedOrders = true)
    (hB : (tailChk (o0 :: l) 1 m && (Region.noSelect (o0 :: l).toArray && (Region.free .any (o0 :: l).toArray (Array.replicate (l.length + 1) false) 0 && (Region.ready .any (o0 :: l).toArray (Array.replicate (l.length + 1) false)).contains 0))) = true)
    (hg : o0.guard = none) (hy : ∀ w, (execOp a.eval o0).run P w = .ok (.value v) w) (hQ : ∀ ch a' w', Q (.panic ch) (a'.put o0.dst v) w' → Q (.panic ch) a' w')
    (h : wpQuiet P ((o0 :: l).take m).toArray (fun w' => ∃ n, w' = w.drewN n) (fun a' => ∀ w', (∃ n, w' = w.drewN n) → wpList P (o0 :: l).toArray Q ((o0 :: l).drop m) a' w') (((o0 :: l).take m).drop 1) (a.put o0.dst v)) :
    (Code.region id (o0 :: l).toArray true).wp P Q a w := by
  simp only [Bool.and_eq_true] at hB
  obtain ⟨hT, hS, hF, hR⟩ := hB
  have h2 := wpAny_from (Q := Q) 1 m hT h
  refine wp_region_any hm ?_
  have e : leadL (o0 :: l).length 1 = (Array.replicate (l.length + 1) false).setIfInBounds 0 true := by
    unfold leadL
    apply Array.ext'
    simp [List.replicate_succ]
  rw [e] at h2
  have h3 := wpAny_take (P := P) (i := 0) (oi := o0) (v := v) (ops := (o0 :: l).toArray) (listed := Array.replicate (l.length + 1) false) (md := .any) (Q := Q) (a := a) (w := { w with drawn := w.drawn + 1 }) (fuel := l.length) (by simp) hS hF hR hQ (.inl ⟨by simp [Region.wanted, hg], hy⟩) (by simpa using h2)
  simpa using h3
end
end Go.Proofs.YtialedffpaoacaaGreatDoor
