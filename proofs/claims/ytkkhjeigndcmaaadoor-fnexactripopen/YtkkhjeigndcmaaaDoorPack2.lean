/- Texts that stand on each other, in one file: Steady, StabW, SeqI, RipOfR, RipR, RipOf. -/
import Derived.Test.YtkkhjeigndcmaaaDoorTail
import Derived.Test.YtkkhjeigndcmaaaDoorOwnV
import Derived.Test.YtkkhjeigndcmaaaDoorBaseB
import Derived.Test.YtkkhjeigndcmaaaDoorBase
import Derived.Test.YtkkhjeigndcmaaaDoorPack1
/- A law of our own on regions that draw their order: where each operation, whatever has come up before it, leaves in its slot a value that meets the slot's condition, and a world with some blocks laid behind, and the conditions bear that, any order ends in a frame that meets them all. -/
namespace Go.Proofs.YtkkhjeigndcmaaaDoor
open Go Go.RowKit

section
variable {P : Program}

/-- The slots of the operations that o waits for. -/
def depSlots (l : List Oper) (o : Oper) : List Nat := (o.after.toList.filter (Region.binds .any)).filterMap fun e => (l[e.on]?).bind (·.dst)
def steadyChk (l : List Oper) (n : Nat) : Bool :=
  ((List.range l.length).all fun j => match l[j]? with | none => true | some o => (o.after.all fun e => decide (e.on < j)) && o.guard.isNone && (match o.dst with | none => true | some d => decide (d < n))) &&
  (List.range l.length).all fun i => (List.range l.length).all fun j => decide (i = j) || ((l[i]?).bind (·.dst)).isNone || decide ((l[i]?).bind (·.dst) ≠ (l[j]?).bind (·.dst))
/-- The frame a' is as a, but for what the operations write. -/
def Agrees (l : List Oper) (a a' : Act) : Prop := a'.tmps.size = a.tmps.size ∧ a'.defers = a.defers ∧ ∀ d, (∀ o ∈ l, o.dst ≠ some d) → a'.tmps.getD d undef = a.tmps.getD d undef

theorem steadyChk_at {l : List Oper} {n j : Nat} {o : Oper} (h : steadyChk l n = true) (ho : l[j]? = some o) : (∀ e ∈ o.after, e.on < j) ∧ o.guard = none ∧ ∀ d, o.dst = some d → d < n := by
  have hlt : j < l.length := (List.getElem?_eq_some_iff.1 ho).1
  simp only [steadyChk, Bool.and_eq_true] at h
  have h1 := (List.all_eq_true.1 h.1) j (List.mem_range.2 hlt)
  simp only [ho, Bool.and_eq_true] at h1
  refine ⟨fun e he => of_decide_eq_true ((Array.all_eq_true_iff_forall_mem.1 h1.1.1) e he), by simpa using h1.1.2, fun d hd => ?_⟩
  have := h1.2
  simpa [hd] using this
theorem steadyChk_ne {l : List Oper} {n i j d : Nat} {oi oj : Oper} (h : steadyChk l n = true) (hi : l[i]? = some oi) (hj : l[j]? = some oj) (hne : i ≠ j) (hd : oi.dst = some d) : oj.dst ≠ some d := by
  have hlt : i < l.length := (List.getElem?_eq_some_iff.1 hi).1
  have hlt2 : j < l.length := (List.getElem?_eq_some_iff.1 hj).1
  simp only [steadyChk, Bool.and_eq_true] at h
  have h1 := (List.all_eq_true.1 ((List.all_eq_true.1 h.2) i (List.mem_range.2 hlt))) j (List.mem_range.2 hlt2)
  simp only [hi, hj, Option.bind_some, Bool.or_eq_true, decide_eq_true_eq] at h1
  rcases h1 with (h1 | h1) | h1
  · exact absurd h1 hne
  · rw [hd] at h1; simp at h1
  · rw [hd] at h1; exact fun e => h1 e.symm
theorem put_getD (a : Act) (d : Nat) (v : Value) (h : d < a.tmps.size) : (a.put (some d) v).tmps.getD d undef = v := by
  simp [Act.put, Array.getD_eq_getD_getElem?, h]
theorem put_getD_ne (a : Act) (dst : Option Tmp) (d : Nat) (v : Value) (h : dst ≠ some d) : (a.put dst v).tmps.getD d undef = a.tmps.getD d undef := by
  cases dst with
  | none => rfl
  | some x =>
    have hx : x ≠ d := fun e => h (by rw [e])
    simp [Act.put, Array.getD_eq_getD_getElem?, hx]
theorem put_size (a : Act) (dst : Option Tmp) (v : Value) : (a.put dst v).tmps.size = a.tmps.size := by cases dst <;> simp [Act.put]
theorem put_defers (a : Act) (dst : Option Tmp) (v : Value) : (a.put dst v).defers = a.defers := by cases dst <;> rfl

theorem act_eq (a : Act) (n : Nat) (h : a.tmps.size = n) : a = ⟨((List.range n).map fun k => a.tmps.getD k undef).toArray, a.defers⟩ := by
  subst h
  cases a with
  | mk T D =>
    simp only [Act.mk.injEq, and_true]
    apply Array.ext
    · simp
    · intro i h1 h2
      simp [Array.getD_eq_getD_getElem?, h1]
theorem wpAny_steady {l : List Oper} {Q : Exit → Act → World → Prop} {a : Act} {w : World} (m : Nat) (hml : m ≤ l.length) (G : Nat → Value → World → Prop) (hB : tailB .any l.toArray 0 m = true) (hchk : steadyChk (l.take m) a.tmps.size = true)
    (hstab : ∀ d v w1 w2, G d v w1 → Below w1.heap.size w1 w2 → G d v w2)
    (hstep : ∀ o ∈ l.take m, ∀ a' w', Below w.heap.size w w' → Agrees (l.take m) a a' → (∀ d ∈ depSlots (l.take m) o, G d (a'.tmps.getD d undef) w') → o.wp P a' w' (fun a'' w'' => ∃ v, a'' = a'.put o.dst v ∧ Below w'.heap.size w' w'' ∧ ∀ d, o.dst = some d → G d v w'') Q)
    (hfin : ∀ a' w', Below w.heap.size w w' → Agrees (l.take m) a a' → (∀ o ∈ l.take m, ∀ d, o.dst = some d → G d (a'.tmps.getD d undef) w') → wpList P l.toArray Q (l.drop m) a' w') :
    ∀ (fuel : Nat) (U : List Nat) (listed : Array Bool) (a' : Act) (w' : World), U.length = fuel → U.Nodup → listed.size = l.length → (∀ j, j < m → (listed.getD j true = false ↔ j ∈ U)) → (∀ j ∈ U, j < m) → (∀ j, m ≤ j → j < l.length → listed.getD j true = false) → ClosedL .any l.toArray listed →
      Below w.heap.size w w' → Agrees (l.take m) a a' → (∀ j o d, (l.take m)[j]? = some o → listed.getD j true = true → o.dst = some d → G d (a'.tmps.getD d undef) w') → wpAny P .any l.toArray Q (fuel + (l.length - m)) listed a' w' := by
  intro fuel
  induction fuel with
  | zero =>
    intro U listed a' w' hU _ hs hm _ ho hc hb hag hG
    have hU0 : U = [] := List.length_eq_zero_iff.1 hU
    subst hU0
    have hT : ∀ j, j < m → listed.getD j true = true := fun j hj => by
      cases h : listed.getD j true with
      | true => rfl
      | false => exact absurd ((hm j hj).1 h) (by simp)
    rw [Nat.zero_add]
    refine wpAny_tail (c := 0) (m := m) (Nat.zero_le _) hB (l.length - m) m listed a' w' (by omega) (Nat.le_refl _) hs hT ho hc ?_
    refine hfin a' w' hb hag fun o ho d hd => ?_
    obtain ⟨j, hj, rfl⟩ := List.getElem_of_mem ho
    exact hG j _ d (List.getElem?_eq_getElem hj) (hT j (by simp at hj; omega)) hd
  | succ fuel ih =>
    intro U listed a' w' hU hnd hs hm hUm ho hc hb hag hG
    rw [show fuel + 1 + (l.length - m) = (fuel + (l.length - m)) + 1 by omega]
    obtain ⟨k, hk⟩ : ∃ k, k ∈ U := by
      cases U with
      | nil => simp at hU
      | cons x _ => exact ⟨x, by simp⟩
    have hkm := hUm k hk
    have hkl := (hm k hkm).2 hk
    refine ⟨fun h0 => ?_, fun i hi => ?_⟩
    · have := ready_nil_all (md := .any) (ops := l.toArray) (by simpa using hs) (fun j o ho e he => tailB_lex hB ho e he) h0 (k + 1) k (by omega) (by simp; omega)
      rw [hkl] at this
      cases this
    · obtain ⟨hu, o, hoi, hdep⟩ := mem_ready.1 hi
      have hil : i < l.length := by simpa using (Array.getElem?_eq_some_iff.1 hoi).1
      have him : i < m := by
        rcases Nat.lt_or_ge i m with h | h
        · exact h
        · have := ready_all hB hc h hi (i - k) k (Nat.zero_le _) (by omega) (Nat.le_refl _)
          rw [hkl] at this
          cases this
      have hoL : (l.take m)[i]? = some o := by rw [List.getElem?_take, if_pos him]; simpa using hoi
      have hmem : o ∈ l.take m := List.mem_of_getElem? hoL
      obtain ⟨_, hgd, hdn⟩ := steadyChk_at hchk hoL
      have hiU : i ∈ U := (hm i him).1 hu
      unfold wpOp
      simp only [hoi]
      rw [if_pos (by simp [Region.wanted, hgd])]
      left
      have hs1 := hstep o hmem a' w' hb hag ?_
      · refine Oper.wp_mono ?_ hs1
        rintro a'' w'' ⟨v, rfl, hb2, hGv⟩
        have hset : ∀ j, (listed.setIfInBounds i true).getD j true = if j = i then true else listed.getD j true := by
          intro j
          by_cases hji : j = i
          · subst hji
            by_cases hjs : j < listed.size
            · simp [Array.getD_eq_getD_getElem?, hjs]
            · simp [Array.getD_eq_getD_getElem?, hjs]
          · rw [if_neg hji]
            simp [Array.getD_eq_getD_getElem?, Ne.symm hji]
        refine ih (U.erase i) _ _ _ (by rw [List.length_erase_of_mem hiU]; omega) (hnd.erase i) (by simpa using hs) ?_ (fun j hj => hUm j (List.mem_of_mem_erase hj)) ?_ (hc.set hi) (hb.trans (hb2.mono hb.size)) ?_ ?_
        · intro j hj
          rw [hset j, hnd.mem_erase_iff]
          by_cases hji : j = i
          · simp [hji]
          · rw [if_neg hji, hm j hj]; simp [hji]
        · intro j hj hjl
          rw [hset j, if_neg (by omega)]
          exact ho j hj hjl
        · refine ⟨by rw [put_size]; exact hag.1, by rw [put_defers]; exact hag.2.1, fun d hd => ?_⟩
          rw [put_getD_ne _ _ _ _ (hd o hmem)]
          exact hag.2.2 d hd
        · intro j oj d hj hlj hdj
          rw [hset j] at hlj
          by_cases hji : j = i
          · subst hji
            rw [hoL] at hj
            cases hj
            rw [hdj, put_getD _ _ _ (by rw [hag.1]; exact hdn d hdj)]
            exact hGv d hdj
          · rw [if_neg hji] at hlj
            rw [put_getD_ne _ _ _ _ (steadyChk_ne hchk hj hoL hji hdj)]
            exact hstab d _ _ _ (hG j oj d hj hlj hdj) hb2
      · intro d hd
        simp only [depSlots, List.mem_filterMap, List.mem_filter] at hd
        obtain ⟨e, ⟨he, hbn⟩, hed⟩ := hd
        have hlst := hdep e (by simpa using he) hbn
        cases hoe : (l.take m)[e.on]? with
        | none => simp [hoe] at hed
        | some oe =>
          simp only [hoe, Option.bind_some] at hed
          exact hG e.on oe d hoe (getD_true_of_false hlst) hed
theorem wp_region_steady {id : Nat} {Q : Exit → Act → World → Prop} {a : Act} {w : World} {l : List Oper} (m : Nat) (G : Nat → Value → World → Prop) (hm : P.follows .mixedOrders = true) (hchk : (decide (m ≤ l.length) && tailB .any l.toArray 0 m && steadyChk (l.take m) a.tmps.size) = true)
    (hstab : ∀ d v w1 w2, G d v w1 → Below w1.heap.size w1 w2 → G d v w2)
    (hstep : ∀ o ∈ l.take m, ∀ a' w', Below w.heap.size w w' → Agrees (l.take m) a a' → (∀ d ∈ depSlots (l.take m) o, G d (a'.tmps.getD d undef) w') → o.wp P a' w' (fun a'' w'' => ∃ v, a'' = a'.put o.dst v ∧ Below w'.heap.size w' w'' ∧ ∀ d, o.dst = some d → G d v w'') Q)
    (hfin : ∀ a' w', Below w.heap.size w w' → Agrees (l.take m) a a' → (∀ o ∈ l.take m, ∀ d, o.dst = some d → G d (a'.tmps.getD d undef) w') → wpList P l.toArray Q (l.drop m) a' w') :
    (Code.region id l.toArray true).wp P Q a w := by
  refine wp_region_any hm ?_
  simp only [Bool.and_eq_true, decide_eq_true_eq] at hchk
  obtain ⟨⟨hml, hB⟩, hck⟩ := hchk
  have h := wpAny_steady (P := P) (w := w) m hml G hB hck hstab hstep hfin m (List.range m) (Array.replicate l.length false) a { w with drawn := w.drawn + 1 } (by simp) List.nodup_range (by simp) ?_ (by simp) ?_ ?_ ((Below.refl w.heap.size w).drew) ⟨rfl, rfl, fun _ _ => rfl⟩ ?_
  · rw [show m + (l.length - m) = l.length by omega] at h
    simpa using h
  · intro j hj
    have hjl : j < l.length := by omega
    simp [Array.getD_eq_getD_getElem?, hjl, hj]
  · intro j _ hjl
    simp [Array.getD_eq_getD_getElem?, hjl]
  · intro k o ho hk
    have hlt : k < l.length := by simpa using (Array.getElem?_eq_some_iff.1 ho).1
    simp [Array.getD_eq_getD_getElem?, hlt] at hk
  · intro j o d hj hl _
    have hlt : j < l.length := by have := (List.getElem?_eq_some_iff.1 hj).1; simp at this; omega
    simp [Array.getD_eq_getD_getElem?, hlt] at hl
end
/-- Conditions, a slot each. -/
def SlotG (gs : List (Nat × (Value → World → Prop))) (d : Nat) (x : Value) (w : World) : Prop := ∀ p, (d, p) ∈ gs → p x w
def Stabs : List (Nat × (Value → World → Prop)) → Prop
  | [] => True
  | p :: l => (∀ x w1 w2, p.2 x w1 → Below w1.heap.size w1 w2 → p.2 x w2) ∧ Stabs l
def Is (v : Value) : Value → World → Prop := fun x _ => x = v
theorem stab_is (v : Value) : ∀ x w1 w2, Is v x w1 → Below w1.heap.size w1 w2 → Is v x w2 := fun _ _ _ h _ => h
theorem SlotG.get {gs : List (Nat × (Value → World → Prop))} {d : Nat} {x : Value} {w : World} (h : SlotG gs d x w) (k : Nat) {p : Value → World → Prop} (hk : gs[k]? = some (d, p)) : p x w := h p (List.mem_of_getElem? hk)
theorem SlotG.is {gs : List (Nat × (Value → World → Prop))} {d : Nat} {x : Value} {w : World} (h : SlotG gs d x w) (k : Nat) {v : Value} (hk : gs[k]? = some (d, Is v)) : x = v := h (Is v) (List.mem_of_getElem? hk)
theorem key_one {α : Type} : ∀ {gs : List (Nat × α)}, (gs.map (·.1)).Nodup → ∀ {d : Nat} {p q : α}, (d, p) ∈ gs → (d, q) ∈ gs → p = q
  | [], _, _, _, _, h, _ => by cases h
  | (k, r) :: gs, hn, d, p, q, h1, h2 => by
    simp only [List.map_cons, List.nodup_cons] at hn
    have hin : ∀ x, (d, x) ∈ gs → d ∈ gs.map (·.1) := fun x hx => List.mem_map.2 ⟨(d, x), hx, rfl⟩
    rcases List.mem_cons.1 h1 with e1 | h1
    · rcases List.mem_cons.1 h2 with e2 | h2
      · rw [← e2] at e1; exact (Prod.mk.inj e1).2
      · have := hin q h2
        rw [(Prod.mk.inj e1).1] at this
        exact absurd this hn.1
    · rcases List.mem_cons.1 h2 with e2 | h2
      · have := hin p h1
        rw [(Prod.mk.inj e2).1] at this
        exact absurd this hn.1
      · exact key_one hn.2 h1 h2
theorem SlotG.mk {gs : List (Nat × (Value → World → Prop))} {d : Nat} {x : Value} {w : World} (k : Nat) {p : Value → World → Prop} (hk : gs[k]? = some (d, p)) (hn : (gs.map (·.1)).Nodup) (h : p x w) : SlotG gs d x w := by
  intro q hq
  rw [key_one hn hq (List.mem_of_getElem? hk)]
  exact h
theorem Stabs.all : ∀ {gs : List (Nat × (Value → World → Prop))}, Stabs gs → ∀ d v w1 w2, SlotG gs d v w1 → Below w1.heap.size w1 w2 → SlotG gs d v w2
  | [], _, _, _, _, _, _, _ => fun p hp => by cases hp
  | (k, q) :: gs, ⟨h1, h2⟩, d, v, w1, w2, h, hb => fun p hp => by
    rcases List.mem_cons.1 hp with e | hp
    · have hq : p = q := by simpa using (Prod.mk.inj e).2
      have hp1 := h p (by rw [e]; simp)
      rw [hq] at hp1 ⊢
      exact h1 v w1 w2 hp1 hb
    · exact Stabs.all h2 d v w1 w2 (fun p hp => h p (List.mem_cons_of_mem _ hp)) hb p hp
theorem Agrees.at {l : List Oper} {a a' : Act} (h : Agrees l a a') (d : Nat) (hd : (l.all fun o => decide (o.dst ≠ some d)) = true) : a'.tmps.getD d undef = a.tmps.getD d undef :=
  h.2.2 d fun o ho => of_decide_eq_true ((List.all_eq_true.1 hd) o ho)
end Go.Proofs.YtkkhjeigndcmaaaDoor
/- Conditions that bear blocks laid behind; what text an owned row gives. -/
namespace Go.Proofs.YtkkhjeigndcmaaaDoor
open Go.RowKit

theorem stab_rowB (n : Nat) (l : List UInt8) : ∀ (x : Value) (w1 w2 : World), (∃ g, x = .slice (some ⟨g, 0, none⟩) n n ∧ RowB w1 g 5 l) → Below w1.heap.size w1 w2 → ∃ g, x = .slice (some ⟨g, 0, none⟩) n n ∧ RowB w2 g 5 l := by
  rintro x w1 w2 ⟨g, hx, hr⟩ hb
  exact ⟨g, hx, by unfold RowB at *; rw [hb.block g (Array.getElem?_eq_some_iff.1 hr).1]; exact hr⟩
theorem stab_row (n : Nat) (l : List Value) : ∀ (x : Value) (w1 w2 : World), (∃ g, x = .slice (some ⟨g, 0, none⟩) n n ∧ Row w1 g 2 l) → Below w1.heap.size w1 w2 → ∃ g, x = .slice (some ⟨g, 0, none⟩) n n ∧ Row w2 g 2 l := by
  rintro x w1 w2 ⟨g, hx, hr⟩ hb
  exact ⟨g, hx, hr.below hb hr.lt⟩
theorem stab_own (base : Nat) (l : List Value) : ∀ (x : Value) (w1 w2 : World), Own w1 base 5 x l → Below w1.heap.size w1 w2 → Own w2 base 5 x l := fun _ _ _ h hb => h.below hb
theorem stab_ptr (B : Nat) {t : TypeId} (l : List Value) : ∀ (x : Value) (w1 w2 : World), (∃ g, x = .pointer (some ⟨g, 0, none⟩) ∧ B < g ∧ Row w1 g t l) → Below w1.heap.size w1 w2 → ∃ g, x = .pointer (some ⟨g, 0, none⟩) ∧ B < g ∧ Row w2 g t l := by
  rintro x w1 w2 ⟨g, hx, hg, hr⟩ hb
  exact ⟨g, hx, hg, hr.below hb hr.lt⟩
theorem own_conv {w : World} {base : Nat} {v : Value} {l : List UInt8} {t : ByteArray} (h : Own w base 5 v (cellsB l)) (hl : l ≠ []) (ht : (⟨l.toArray⟩ : ByteArray) = t) :
    (convert 56 9 v).run Tryd.prog w = .ok (.string t) w := by
  have h' : OwnB w base 5 v l := by unfold OwnB; unfold Own at h; rwa [cellsB_length] at h
  rw [← ht]
  exact (h'.text hl 56 9 Tryd.underlying56 Tryd.underlying5 Tryd.underlying9).2
end Go.Proofs.YtkkhjeigndcmaaaDoor
/- Times and seqs, of the program. -/
namespace Go.Proofs.YtkkhjeigndcmaaaDoor
open Go.RowKit

def inKey (k : ByteArray) : Bool := decide (1 ≤ k.size ∧ k.size ≤ 32)
def inSeq (n : Int) : Bool := decide (1 ≤ n ∧ n ≤ 1000000)
def inTime (n : Int) : Bool := decide (0 ≤ n ∧ n ≤ 1000000)
set_option maxRecDepth 100000 in
theorem isTime_any (a : Int) (w : World) : Calls Tryd.prog 42 #[.int .i64 a] w fun e w' => e = .returned (.bool (inTime a)) ∧ w = w' := by
  by_cases h1 : 0 ≤ a
  · by_cases h2 : a ≤ 1000000
    · go_enter Tryd.func42, Tryd.ntmps42
      go_wp2
      go_ret
      exact ⟨ret_bool (by simp [inTime]; omega), rfl⟩
    · go_enter Tryd.func42, Tryd.ntmps42
      go_wp2
      go_ret
      exact ⟨ret_bool (by simp [inTime]; omega), rfl⟩
  · go_enter Tryd.func42, Tryd.ntmps42
    go_wp2
    go_ret
    exact ⟨ret_bool (by simp [inTime]; omega), rfl⟩
set_option maxRecDepth 100000 in
theorem seqRight_any (a : Int) (w : World) : Calls Tryd.prog 48 #[.int .i64 a] w fun e w' => e = .returned (.bool (inSeq a)) ∧ w = w' := by
  have HT : Hid (∀ w, Calls Tryd.prog 42 #[.int .i64 a] w fun e w' => e = .returned (.bool (inTime a)) ∧ w = w') := isTime_any a
  by_cases h1 : 1 ≤ a
  · have HE : Hid (inTime a = inSeq a) := by show decide _ = decide _; exact decide_eq_decide.2 (by omega)
    generalize inTime a = T at *
    go_enter Tryd.func48, Tryd.ntmps48
    go_wp2_with fail
    refine (HT.out _).mono ?_
    rintro e w1 ⟨rfl, rfl⟩
    go_wp2
    go_ret
    exact ⟨ret_bool HE.out, rfl⟩
  · have HE : Hid (inSeq a = false) := by show _ = _; simp [inSeq]; omega
    go_enter Tryd.func48, Tryd.ntmps48
    go_wp2
    go_ret
    exact ⟨ret_bool HE.out.symm, rfl⟩
end Go.Proofs.YtkkhjeigndcmaaaDoor
/- What the program's loop answers, in plain lists of bytes; it answers as the model. -/
namespace Go.Proofs.YtkkhjeigndcmaaaDoor
open Go.RowKit Go.Sort

def countE : Nat → List UInt8 → Nat
  | 0, _ => 0
  | f + 1, l => if isEnt l then countE f (l.drop 20) + 1 else 0
theorem countE_to : ∀ (f : Nat) (l : List UInt8), l.length ≤ f → EntsTo l (countE f l) ∧ ¬ isEnt (l.drop (20 * countE f l))
  | 0, l, h => by
    have : l = [] := List.length_eq_zero_iff.1 (by omega)
    subst this
    exact ⟨⟨by simp [countE], fun j hj => absurd hj (by simp [countE])⟩, fun h => absurd h.1 (by simp)⟩
  | f + 1, l, h => by
    unfold countE
    by_cases he : isEnt l
    · rw [if_pos he]
      have h20 := he.1
      obtain ⟨⟨h1, h2⟩, h3⟩ := countE_to f (l.drop 20) (by simp; omega)
      rw [List.length_drop] at h1
      refine ⟨⟨by omega, fun j hj => ?_⟩, ?_⟩
      · cases j with
        | zero => exact he
        | succ j =>
          have := h2 j (by omega)
          rwa [List.drop_drop, show 20 + 20 * j = 20 * (j + 1) by omega] at this
      · rwa [List.drop_drop, show 20 + 20 * countE f (l.drop 20) = 20 * (countE f (l.drop 20) + 1) by omega] at h3
    · rw [if_neg he]
      exact ⟨⟨by omega, fun j hj => absurd hj (by omega)⟩, he⟩
def endK (l : List UInt8) : Nat := countE l.length l
theorem endK_eq (l : List UInt8) (k : Nat) (h : EntsTo l k) (hn : ¬ isEnt (l.drop (20 * k))) : endK l = k :=
  (countE_to l.length l (Nat.le_refl _)).1.one h (countE_to l.length l (Nat.le_refl _)).2 hn
def markN (R : List UInt8) : Int := (numL (cutL R 4 8) : Nat)
def ripOfR (b : List UInt8) : Option (Int × List Ent × Int) :=
  if b.length < 4 ∨ numL (cutL b 1 4) ≠ 131072 then none
  else if isMark ((b.drop 4).drop (20 * endK (b.drop 4))) then
    (if inSeq (markN ((b.drop 4).drop (20 * endK (b.drop 4)))) = true ∧ ((b.drop 4).drop (20 * endK (b.drop 4))).length = 8 ∧ ripB (numL (cutL b 0 1) : Nat) (readEs (b.drop 4) (endK (b.drop 4))) = true then some ((numL (cutL b 0 1) : Nat), readEs (b.drop 4) (endK (b.drop 4)), markN ((b.drop 4).drop (20 * endK (b.drop 4)))) else none)
  else (if ((b.drop 4).drop (20 * endK (b.drop 4))).length = 0 ∧ ripB (numL (cutL b 0 1) : Nat) (readEs (b.drop 4) (endK (b.drop 4))) = true then some ((numL (cutL b 0 1) : Nat), readEs (b.drop 4) (endK (b.drop 4)), 0) else none)
theorem ripOfR_head {b : List UInt8} (h : b.length < 4 ∨ numL (cutL b 1 4) ≠ 131072) : ripOfR b = none := if_pos h
theorem ripOfR_mark {b : List UInt8} (h4 : 4 ≤ b.length) (hh : numL (cutL b 1 4) = 131072) (k : Nat) (hk : EntsTo (b.drop 4) k) (hn : ¬ isEnt ((b.drop 4).drop (20 * k))) (hm : isMark ((b.drop 4).drop (20 * k))) :
    ripOfR b = if inSeq (markN ((b.drop 4).drop (20 * k))) = true ∧ ((b.drop 4).drop (20 * k)).length = 8 ∧ ripB (numL (cutL b 0 1) : Nat) (readEs (b.drop 4) k) = true then some (((numL (cutL b 0 1) : Nat) : Int), readEs (b.drop 4) k, markN ((b.drop 4).drop (20 * k))) else none := by
  unfold ripOfR
  rw [if_neg (by rintro (h | h) <;> omega), endK_eq _ k hk hn, if_pos hm]
theorem ripOfR_end {b : List UInt8} (h4 : 4 ≤ b.length) (hh : numL (cutL b 1 4) = 131072) (k : Nat) (hk : EntsTo (b.drop 4) k) (hn : ¬ isEnt ((b.drop 4).drop (20 * k))) (hm : ¬ isMark ((b.drop 4).drop (20 * k))) :
    ripOfR b = if ((b.drop 4).drop (20 * k)).length = 0 ∧ ripB (numL (cutL b 0 1) : Nat) (readEs (b.drop 4) k) = true then some (((numL (cutL b 0 1) : Nat) : Int), readEs (b.drop 4) k, (0 : Int)) else none := by
  unfold ripOfR
  rw [if_neg (by rintro (h | h) <;> omega), endK_eq _ k hk hn, if_neg hm]
/-- How many entries the model reads. -/
def nE (t : List UInt8) : Nat := min ((t.length - 4) / 20) 9
/-- What the model reads of a text: its command, its entries, OK; or nothing. -/
def plainR (t : ByteArray) : Option (Int × List Ent) :=
  if ripO (numL (cutL t.data.toList 0 1) : Nat) (readEs (t.data.toList.drop 4) (nE t.data.toList)) = t then some ((numL (cutL t.data.toList 0 1) : Nat), readEs (t.data.toList.drop 4) (nE t.data.toList)) else none
theorem hd_cmd (c : Int) (hc : c = 1 ∨ c = 2) (r : List UInt8) : (numL (cutL (ripHd c ++ r) 0 1) : Int) = c ∧ numL (cutL (ripHd c ++ r) 1 4) = 131072 := by
  rcases hc with rfl | rfl <;> exact ⟨rfl, rfl⟩
theorem hd_read {b : List UInt8} (h4 : 4 ≤ b.length) (hh : numL (cutL b 1 4) = 131072) (c : Int) (hcm : (numL (cutL b 0 1) : Int) = c) (hc : c = 1 ∨ c = 2) : b.take 4 = ripHd c := by
  obtain ⟨a0, a1, a2, a3, r, rfl, _⟩ := list4 0 h4
  have e1 : cutL (a0 :: a1 :: a2 :: a3 :: r) 1 4 = [a1, a2, a3] := rfl
  have e0 : cutL (a0 :: a1 :: a2 :: a3 :: r) 0 1 = [a0] := rfl
  rw [e1] at hh
  rw [e0] at hcm
  have b1 := a1.toNat_lt
  have b2 := a2.toNat_lt
  have b3 := a3.toNat_lt
  simp only [numL, List.foldl_cons, List.foldl_nil] at hh hcm
  have x1 : a1 = 2 := UInt8.toNat_inj.1 (show a1.toNat = 2 by omega)
  have x2 : a2 = 0 := UInt8.toNat_inj.1 (show a2.toNat = 0 by omega)
  have x3 : a3 = 0 := UInt8.toNat_inj.1 (show a3.toNat = 0 by omega)
  subst x1 x2 x3
  rcases hc with rfl | rfl
  · have x0 : a0 = 1 := UInt8.toNat_inj.1 (show a0.toNat = 1 by omega)
    subst x0; rfl
  · have x0 : a0 = 2 := UInt8.toNat_inj.1 (show a0.toNat = 2 by omega)
    subst x0; rfl
theorem not_ent_nil : ¬ isEnt [] := fun h => absurd h.1 (by simp)
/-- What is a right one's bytes, with r behind them: the loop comes to r. -/
theorem ents_end (es : List Ent) (ha : es.all entB = true) (r : List UInt8) : EntsTo (entsBy es ++ r) es.length ∧ (entsBy es ++ r).drop (20 * es.length) = r ∧ readEs (entsBy es ++ r) es.length = es :=
  ⟨EntsTo.by es r, List.drop_left' (by rw [entsBy_length]), by rw [readEs_by es ha r es.length (Nat.le_refl _), List.take_length]⟩
theorem ripL_drop (c : Int) (es : List Ent) (r : List UInt8) : (ripL c es ++ r).drop 4 = entsBy es ++ r := by
  unfold ripL; rw [List.append_assoc]; exact List.drop_left' rfl
theorem plainR_text (c : Int) (es : List Ent) (h : ripB c es = true) : plainR (ripT c es) = some (c, es) := by
  obtain ⟨hc, h8, ha⟩ := ripB_spec h
  have hl : (ripT c es).data.toList = ripL c es := rfl
  have hd : (ripL c es).drop 4 = entsBy es := by have := ripL_drop c es []; simpa using this
  have hn : nE (ripL c es) = es.length := by unfold nE; rw [ripL_length]; omega
  have hcm := (hd_cmd c hc (entsBy es)).1
  have hes := (ents_end es ha []).2.2
  rw [List.append_nil] at hes
  unfold plainR
  rw [hl, hd, hn, hes, show (numL (cutL (ripL c es) 0 1) : Int) = c from hcm, if_pos (show ripO c es = ripT c es from if_pos h)]
theorem plainR_some {t : ByteArray} {c : Int} {es : List Ent} (h4 : 4 ≤ t.size) (h : plainR t = some (c, es)) : ripB c es = true ∧ t = ripT c es := by
  unfold plainR at h
  split at h
  · rename_i he
    simp only [Option.some.injEq, Prod.mk.injEq] at h
    obtain ⟨h1, h2⟩ := h
    rw [h1, h2] at he
    by_cases hb : ripB c es = true
    · rw [ripO, if_pos hb] at he
      exact ⟨hb, he.symm⟩
    · rw [ripO, if_neg hb] at he
      rw [← he] at h4
      simp at h4
  · cases h
theorem ripOfR_text (c : Int) (es : List Ent) (h : ripB c es = true) : ripOfR (ripL c es) = some (c, es, 0) := by
  obtain ⟨hc, h8, ha⟩ := ripB_spec h
  have hd : (ripL c es).drop 4 = entsBy es := by have := ripL_drop c es []; simpa using this
  obtain ⟨e1, e2, e3⟩ := ents_end es ha []
  rw [List.append_nil] at e1 e2 e3
  have hcm := hd_cmd c hc (entsBy es)
  rw [ripOfR_end (b := ripL c es) (by rw [ripL_length]; omega) hcm.2 es.length (by rw [hd]; exact e1) (by rw [hd, e2]; exact not_ent_nil) (by rw [hd, e2]; exact fun h => absurd h.1 (by simp)), hd, e2, e3, show (numL (cutL (ripL c es) 0 1) : Int) = c from hcm.1, if_pos ⟨rfl, h⟩]
theorem ripOfR_plain {b : List UInt8} {c : Int} {es : List Ent} (h : ripOfR b = some (c, es, 0)) : ripB c es = true ∧ b = ripL c es := by
  unfold ripOfR at h
  split at h
  · cases h
  · rename_i h4
    have h4' : 4 ≤ b.length := by omega
    have hh : numL (cutL b 1 4) = 131072 := by
      by_cases hx : numL (cutL b 1 4) = 131072
      · exact hx
      · exact absurd (.inr hx) h4
    split at h
    · split at h
      · rename_i hm
        simp only [Option.some.injEq, Prod.mk.injEq] at h
        have := hm.1
        rw [h.2.2] at this
        simp [inSeq] at this
      · cases h
    · split at h
      · rename_i hm
        simp only [Option.some.injEq, Prod.mk.injEq] at h
        obtain ⟨h1, h2, _⟩ := h
        obtain ⟨hto, _⟩ := countE_to (b.drop 4).length (b.drop 4) (Nat.le_refl _)
        have hb := hm.2
        rw [h1, h2] at hb
        obtain ⟨hc, _, ha⟩ := ripB_spec hb
        have htx := EntsTo.text _ _ hto (by rw [show readEs (b.drop 4) (countE (b.drop 4).length (b.drop 4)) = es from h2]; exact ha)
        rw [show readEs (b.drop 4) (countE (b.drop 4).length (b.drop 4)) = es from h2] at htx
        have hfull : (b.drop 4).take (20 * countE (b.drop 4).length (b.drop 4)) = b.drop 4 := List.take_of_length_le (by have h0 := hm.1; rw [List.length_drop] at h0; unfold endK at h0; omega)
        rw [hfull] at htx
        refine ⟨hb, ?_⟩
        rw [ripL, htx, ← hd_read h4' hh c h1 hc, List.take_append_drop]
      · cases h
/-- Both answer alike on what is not signed. -/
theorem plain_eq (t : ByteArray) (h4 : 4 ≤ t.size) (c : Int) (es : List Ent) : plainR t = some (c, es) ↔ ripOfR t.data.toList = some (c, es, 0) := by
  constructor
  · intro h
    obtain ⟨hb, rfl⟩ := plainR_some h4 h
    exact ripOfR_text c es hb
  · intro h
    obtain ⟨hb, he⟩ := ripOfR_plain h
    have : t = ripT c es := ByteArray.ext (Array.toList_inj.1 he)
    rw [this]
    exact plainR_text c es hb
end Go.Proofs.YtkkhjeigndcmaaaDoor
/- Is a Rip right? Asked by the program and by the model. -/
namespace Go.Proofs.YtkkhjeigndcmaaaDoor
open Go.RowKit Go.Sort

theorem ripB_all {c : Int} {es : List Ent} (hc : c = 1 ∨ c = 2) (hl : es.length ≤ 8) : ripB c es = es.all entB := by simp [ripB, hc, hl]
theorem ripB_long {c : Int} {es : List Ent} (hl : ¬ es.length ≤ 8) : ripB c es = false := by simp [ripB, hl]
theorem ripB_cmd {c : Int} {es : List Ent} (hc : ¬ (c = 1 ∨ c = 2)) : ripB c es = false := by unfold ripB; rw [decide_eq_false hc]; rfl
theorem rip_cell {w w1 : World} {x y : Value} {t : TypeId} (hb : Below (w.alloc (.cells #[x, y] t)).heap.size (w.alloc (.cells #[x, y] t)) w1) : w1.cell? ⟨w.heap.size, 0, none⟩ = some x ∧ w1.cell? ⟨w.heap.size, 1, none⟩ = some y := by
  obtain ⟨h0, h1, _⟩ := cell2_later rfl hb
  exact ⟨h0, h1⟩
set_option maxRecDepth 100000 in
theorem implRipRight_any (c : Int) (p : Option Addr) (cap : Nat) (es : List Ent) (w : World) (h : EntsIn w p es) (hn : es.length ≤ 100000000) :
    Calls Tryd.prog 49 #[ripV c p es.length cap] w fun e w' => e = .returned (.bool (ripB c es)) ∧ Below w.heap.size w w' := by
  have HE : Hid (∀ e w, Calls Tryd.prog 65 #[entV e] w fun r w' => r = .returned (.bool (entB e)) ∧ Below w.heap.size w w') := implEntryRight_any
  unfold ripV
  by_cases hl : es.length ≤ 8
  · by_cases hc : c = 1 ∨ c = 2
    · have HR : Hid (ripB c es = es.all entB) := ripB_all hc hl
      have HX : Hid (EntsIn w p es) := h
      have d8 : decide (8 < (es.length : Int)) = false := by simp; omega
      clear h
      generalize ripB c es = R at *
      rcases hc with rfl | rfl
      all_goals
        go_enter Tryd.func49, Tryd.ntmps49
        go_wp2_with fail
        go_loopw [22] (fun i wr => ∃ k : Nat, k ≤ es.length ∧ i = .int .i64 k ∧ (es.take k).all entB = true ∧ Below w.heap.size w wr) (fun i _ => es.length - (intOf i).toNat)
        case atStart => exact ⟨0, Nat.zero_le _, rfl, rfl, ent_new0 w _⟩
        case round =>
          obtain ⟨k, hk, rfl, ha, hb⟩ := hrel
          by_cases hlt : k < es.length
          · obtain ⟨g, a, l, n, m, t, rfl, hg, hek, c0, c1, c2, c3, c4⟩ := (HX.out.below hb).at k hlt
            have hall := all_next es k hlt ha
            have HBd : Hid (entB es[k] = false → R = false) := fun hf => by rw [HR.out]; exact all_bad es k hlt hf
            rw [hek] at hall HBd
            have HEk : Hid (∀ w, Calls Tryd.prog 65 #[.agg #[.int .i64 a, .int .i64 l, .int .i64 n, .int .i64 m, .int .i64 t]] w fun r w' => r = .returned (.bool (entB ⟨a, l, n, m, t⟩)) ∧ Below w.heap.size w w') := HE.out ⟨a, l, n, m, t⟩
            clear HE hek
            generalize entB ⟨a, l, n, m, t⟩ = B at *
            go_wp2_with fail
            refine (HEk.out _).mono ?_
            rintro e w1 ⟨rfl, hb1⟩
            have hB1 : Below w.heap.size w w1 := hb.trans (((ent_new0 wr _).trans (hb1.mono (by simp))).mono hb.size)
            clear hb1 HEk c0 c1 c2 c3 c4
            cases B
            · go_wp2
              go_ret
              exact ⟨ret_bool (HBd.out (by trivial)).symm, hB1⟩
            · go_wp2
              go_roundw
              case rel => exact ⟨k + 1, hlt, by go_num, hall, hB1⟩
              case measure => simp [intOf]; omega
          · obtain rfl : k = es.length := by omega
            rw [List.take_length] at ha
            go_wp2
            go_ret
            exact ⟨ret_bool (by rw [HR.out, ha]), hb⟩
    · rw [ripB_cmd hc]
      have b1 : (c != 1) = true := by simp; omega
      have b2 : (c != 2) = true := by simp; omega
      go_enter Tryd.func49, Tryd.ntmps49
      go_wp2
      go_ret
      exact ⟨rfl, ent_new0 w _⟩
  · rw [ripB_long hl]
    have d8 : decide (8 < (es.length : Int)) = true := by simp; omega
    by_cases h1 : c = 1
    · subst h1
      go_enter Tryd.func49, Tryd.ntmps49
      go_wp2
      go_ret
      exact ⟨rfl, ent_new0 w _⟩
    · have b1 : (c != 1) = true := by simpa using h1
      by_cases h2 : c = 2
      · subst h2
        go_enter Tryd.func49, Tryd.ntmps49
        go_wp2
        go_ret
        exact ⟨rfl, ent_new0 w _⟩
      · have b2 : (c != 2) = true := by simpa using h2
        go_enter Tryd.func49, Tryd.ntmps49
        go_wp2
        go_ret
        exact ⟨rfl, ent_new0 w _⟩
set_option maxRecDepth 100000 in
theorem specRipRight_any (c : Int) (p : Option Addr) (cap : Nat) (es : List Ent) (w : World) (h : EntsIn w p es) (hn : es.length ≤ 100000000) :
    Calls Tryd.prog 25 #[ripV c p es.length cap] w fun e w' => e = .returned (.bool (ripB c es)) ∧ Below w.heap.size w w' := by
  have HE : Hid (∀ e w, Calls Tryd.prog 38 #[entV e] w fun r w' => r = .returned (.bool (entB e)) ∧ Below w.heap.size w w') := specEntryRight_any
  have HC : Hid (∀ w, Calls Tryd.prog 20 #[.int .i64 c, .int .i64 1, .int .i64 2] w fun e w' => e = .returned (.bool (decide (1 ≤ c ∧ c ≤ 2))) ∧ w = w') := l03Is_any c 1 2
  have HBd : Hid (∀ k (hk : k < es.length), entB es[k] = false → ripB c es = false) := fun k hk hf => ripB_bad c es k hk hf
  have HYs : Hid (es.length ≤ 8 → es.all entB = true → ripB c es = decide (1 ≤ c ∧ c ≤ 2)) := fun h1 h2 => by
    unfold ripB
    rw [h2]
    by_cases hc : c = 1 ∨ c = 2
    · simp [h1, hc]; omega
    · have e1 : decide (1 ≤ c ∧ c ≤ 2) = false := by simp; omega
      rw [decide_eq_false hc, e1]; rfl
  have HNo : Hid (¬ es.length ≤ 8 → ripB c es = false) := fun h1 => ripB_long h1
  have HX : Hid (EntsIn w p es) := h
  unfold ripV
  generalize ripB c es = R at *
  generalize decide (1 ≤ c ∧ c ≤ 2) = D at *
  clear h
  go_enter Tryd.func25, Tryd.ntmps25
  go_wp2_with fail
  go_loopw [3] (fun i wr => ∃ k : Nat, k ≤ es.length ∧ k ≤ 9 ∧ i = .int .i64 k ∧ (es.take k).all entB = true ∧ Below (w.alloc (.cells #[.int .i64 c, .slice p es.length cap] 24)).heap.size (w.alloc (.cells #[.int .i64 c, .slice p es.length cap] 24)) wr) (fun i _ => es.length - (intOf i).toNat)
  case atStart => exact ⟨0, Nat.zero_le _, by omega, rfl, rfl, Below.refl _ _⟩
  case round =>
    obtain ⟨k, hk, hk9, rfl, ha, hb0⟩ := hrel
    obtain ⟨x0, x1⟩ := rip_cell hb0
    have hb : Below w.heap.size w wr := (ent_new0 w _).trans (hb0.mono (by simp))
    by_cases hlt : k < es.length
    · by_cases h8 : k ≤ 8
      · have d1 : decide ((k : Int) < (es.length : Int)) = true := by simpa using hlt
        have d2 : decide ((k : Int) ≤ 8) = true := by simp; omega
        obtain ⟨g, a, l, n, m, t, rfl, hg, hek, c0, c1, c2, c3, c4⟩ := (HX.out.below hb).at k hlt
        have hall := all_next es k hlt ha
        have HBk := HBd.out k hlt
        rw [hek] at hall HBk
        have HEk : Hid (∀ w, Calls Tryd.prog 38 #[.agg #[.int .i64 a, .int .i64 l, .int .i64 n, .int .i64 m, .int .i64 t]] w fun r w' => r = .returned (.bool (entB ⟨a, l, n, m, t⟩)) ∧ Below w.heap.size w w') := HE.out ⟨a, l, n, m, t⟩
        have HBk' : Hid (entB ⟨a, l, n, m, t⟩ = false → R = false) := HBk
        clear HE hek HBd HBk
        generalize entB ⟨a, l, n, m, t⟩ = B at *
        go_wp2_with fail
        refine (HEk.out _).mono ?_
        rintro e w1 ⟨rfl, hb1⟩
        have hB1 : Below (w.alloc (.cells #[.int .i64 c, .slice (some ⟨g, 0, none⟩) es.length cap] 24)).heap.size (w.alloc (.cells #[.int .i64 c, .slice (some ⟨g, 0, none⟩) es.length cap] 24)) w1 := hb0.trans (hb1.mono hb0.size)
        clear hb1 HEk c0 c1 c2 c3 c4
        cases B
        · go_wp2
          go_ret
          exact ⟨ret_bool (HBk'.out (by trivial)).symm, (ent_new0 w _).trans (hB1.mono (by simp))⟩
        · go_wp2
          go_roundw
          case rel => exact ⟨k + 1, hlt, by omega, by go_num, hall, hB1⟩
          case measure => simp [intOf]; omega
      · have d1 : decide ((k : Int) < (es.length : Int)) = true := by simpa using hlt
        have d2 : decide ((k : Int) ≤ 8) = false := by simp; omega
        have hR := HNo.out (by omega)
        have d3 : decide ((es.length : Int) ≤ 8) = false := by simp; omega
        go_wp2_with fail
        refine (HC.out _).mono ?_
        rintro e w1 ⟨rfl, rfl⟩
        cases D
        · go_wp2
          go_ret
          exact ⟨ret_bool hR.symm, hb⟩
        · go_wp2
          go_ret
          exact ⟨ret_bool hR.symm, hb⟩
    · obtain rfl : k = es.length := by omega
      rw [List.take_length] at ha
      have d1 : decide ((es.length : Int) < (es.length : Int)) = false := by simp
      by_cases h8 : es.length ≤ 8
      · have hR := HYs.out h8 ha
        have d3 : decide ((es.length : Int) ≤ 8) = true := by simp; omega
        clear hlt
        go_wp2_with fail
        refine (HC.out _).mono ?_
        rintro e w1 ⟨rfl, rfl⟩
        cases D
        · go_wp2
          go_ret
          exact ⟨ret_bool hR.symm, hb⟩
        · go_wp2
          go_ret
          exact ⟨ret_bool hR.symm, hb⟩
      · have hR := HNo.out h8
        have d3 : decide ((es.length : Int) ≤ 8) = false := by simp; omega
        clear hlt
        go_wp2_with fail
        refine (HC.out _).mono ?_
        rintro e w1 ⟨rfl, rfl⟩
        cases D
        · go_wp2
          go_ret
          exact ⟨ret_bool hR.symm, hb⟩
        · go_wp2
          go_ret
          exact ⟨ret_bool hR.symm, hb⟩
end Go.Proofs.YtkkhjeigndcmaaaDoor
/- What routers say, read by the program: the loop of goto. (Written by gen_ripof.py.) -/
namespace Go.Proofs.YtkkhjeigndcmaaaDoor
open Go.RowKit Go.Sort

theorem stab_ent (n : Nat) (l : List Value) : ∀ (x : Value) (w1 w2 : World), (∃ g, x = .slice (some ⟨g, 0, none⟩) n n ∧ Row w1 g 51 l) → Below w1.heap.size w1 w2 → ∃ g, x = .slice (some ⟨g, 0, none⟩) n n ∧ Row w2 g 51 l := by
  rintro x w1 w2 ⟨g, e, h⟩ hb
  exact ⟨g, e, h.below hb h.lt⟩
def slLen : Value → Nat
  | .slice _ n _ => n
  | _ => 0
def ofMu (l : Nat) (a : Act) (_ : World) : Nat := if l = 1 then slLen (a.tmps.getD 7 undef) + 1 else 0
/-- The state of the loop: k entries have been read, the rest (n bytes) lies from 'off' on. -/
def OfSt (b : List UInt8) (g : Nat) (w : World) (k off n : Nat) (p : Option Addr) (cv : Nat) (C : Int) (W : World) : Prop :=
  n = ((b.drop 4).drop (20 * k)).length ∧ EntsTo (b.drop 4) k ∧ BytesIn W g off ((b.drop 4).drop (20 * k)) ∧ Row W w.heap.size 24 [.int .i64 0, .slice none 0 0] ∧ Row W (w.heap.size + 1) 24 [.int .i64 C, .slice p k cv] ∧ OwnE W (w.heap.size + 2) (.slice p k cv) (readEs (b.drop 4) k) ∧ Below w.heap.size w W
theorem OfSt.below {b : List UInt8} {g : Nat} {w : World} {k off n : Nat} {p : Option Addr} {cv : Nat} {C : Int} {W W' : World} (h : OfSt b g w k off n p cv C W) (hg : g < w.heap.size) (hb : Below W.heap.size W W') : OfSt b g w k off n p cv C W' := by
  obtain ⟨h1, h2, h3, h4, h5, h6, h7⟩ := h
  exact ⟨h1, h2, h3.below hb (by have := h7.size; omega), h4.below hb h4.lt, h5.below hb h5.lt, h6.below hb, h7.trans (hb.mono h7.size)⟩
theorem OfSt.grown {b : List UInt8} {g : Nat} {w : World} {k off n : Nat} {p : Option Addr} {cv : Nat} {C : Int} {W W' : World} (h : OfSt b g w k off n p cv C W) (hg : g < w.heap.size) (hb : Below (w.heap.size + 2) W W') :
    BytesIn W' g off ((b.drop 4).drop (20 * k)) ∧ Row W' w.heap.size 24 [.int .i64 0, .slice none 0 0] ∧ Row W' (w.heap.size + 1) 24 [.int .i64 C, .slice p k cv] ∧ Below w.heap.size w W' := by
  obtain ⟨h1, h2, h3, h4, h5, h6, h7⟩ := h
  exact ⟨h3.below hb (by omega), h4.below hb (by omega), h5.below hb (by omega), h7.trans (hb.mono (by omega))⟩
theorem ofSt_next {b : List UInt8} {g : Nat} {w : World} {k off n : Nat} {p : Option Addr} {cv : Nat} {C : Int} {W : World} {p4 : Option Addr} {cv4 : Nat} (hn : n = ((b.drop 4).drop (20 * k)).length) (h20 : 20 ≤ n) (hg : g < w.heap.size)
    (hto : EntsTo (b.drop 4) (k + 1)) (hBy : BytesIn W g off ((b.drop 4).drop (20 * k))) (hr0 : Row W w.heap.size 24 [.int .i64 0, .slice none 0 0]) (hr1 : Row W (w.heap.size + 1) 24 [.int .i64 C, .slice p k cv]) (how : OwnE W (w.heap.size + 2) (.slice p4 (k + 1) cv4) (readEs (b.drop 4) (k + 1))) (hbl : Below w.heap.size w W) :
    OfSt b g w (k + 1) (if n = 20 then off else off + 20) (n - 20) p4 cv4 C (W.setCell ⟨w.heap.size + 1, 1, none⟩ (.slice p4 (k + 1) cv4)) := by
  have hd : ((b.drop 4).drop (20 * k)).drop 20 = (b.drop 4).drop (20 * (k + 1)) := by rw [List.drop_drop]; congr 1
  have hB := (Below.refl (w.heap.size + 1) W).setCell (p := ⟨w.heap.size + 1, 1, none⟩) (Nat.le_refl _) (.slice p4 (k + 1) cv4)
  have hP := hBy.piece 20 n (by omega) h20
  rw [List.take_of_length_le (by omega), hd] at hP
  refine ⟨by rw [← hd, List.length_drop]; omega, hto, hP.below hB (by omega), hr0.other 1 _ (by omega), hr1.set 1 _, how.set _ (by show w.heap.size + 1 < w.heap.size + 2; omega) _, hbl.setCell (p := ⟨w.heap.size + 1, 1, none⟩) (by show w.heap.size ≤ w.heap.size + 1; omega) _⟩
/-- At a label: 0 is 'mark', 1 'more', 2 'end'. -/
def OfAt (b : List UInt8) (g cap : Nat) (w : World) (C : Int) (l : Nat) (a : Act) (W : World) : Prop :=
  ∃ (x8 x9 x10 x11 x12 x13 x14 x15 x16 x17 x18 x19 x20 x21 x22 x23 x24 x25 x26 x27 x28 x29 x30 x31 x32 x33 x34 x35 x36 x37 x38 x39 x40 x41 x42 x43 x44 x45 x46 x47 x48 x49 x50 x51 x52 x53 x54 x55 x56 x57 x58 x59 x60 x61 x62 x63 x64 x65 x66 : Value) (k off n : Nat) (p : Option Addr) (cv : Nat), a = ⟨#[.slice (some ⟨g, 0, none⟩) b.length cap, undef, .pointer (some ⟨w.heap.size, 0, none⟩), .int .i64 0, .nilIface, .pointer (some ⟨w.heap.size + 1, 0, none⟩), .int .i64 0, .slice (some ⟨g, off, none⟩) n n, x8, x9, x10, x11, x12, x13, x14, x15, x16, x17, x18, x19, x20, x21, x22, x23, x24, x25, x26, x27, x28, x29, x30, x31, x32, x33, x34, x35, x36, x37, x38, x39, x40, x41, x42, x43, x44, x45, x46, x47, x48, x49, x50, x51, x52, x53, x54, x55, x56, x57, x58, x59, x60, x61, x62, x63, x64, x65, x66], []⟩ ∧
    OfSt b g w k off n p cv C W ∧ (l = 0 → isMark ((b.drop 4).drop (20 * k))) ∧ (l = 2 → ¬ isMark ((b.drop 4).drop (20 * k))) ∧ (l ≠ 1 → ¬ isEnt ((b.drop 4).drop (20 * k))) ∧ l ≤ 2
/-- What the loop hands back. -/
def OfOut (b : List UInt8) (A : Nat → Addr) (w w' : World) (e : Ending) : Prop :=
  match ripOfR b with
  | none => e = .returned (.tuple #[.agg #[.int .i64 0, .slice none 0 0], .int .i64 0, errV (A 4)]) ∧ Below w.heap.size w w'
  | some (c, es, q) => ∃ v, e = .returned (.tuple #[.agg #[.int .i64 c, v], .int .i64 q, .nilIface]) ∧ OwnE w' w.heap.size v es ∧ Below w.heap.size w w'
theorem OfOut.no {b : List UInt8} {A : Nat → Addr} {w w' : World} {e : Ending} (h : ripOfR b = none) (he : e = .returned (.tuple #[.agg #[.int .i64 0, .slice none 0 0], .int .i64 0, errV (A 4)])) (hb : Below w.heap.size w w') : OfOut b A w w' e := by
  unfold OfOut; rw [h]; exact ⟨he, hb⟩
theorem OfOut.yes {b : List UInt8} {A : Nat → Addr} {w w' : World} {e : Ending} {c q : Int} {es : List Ent} (h : ripOfR b = some (c, es, q)) (v : Value) (he : e = .returned (.tuple #[.agg #[.int .i64 c, v], .int .i64 q, .nilIface])) (ho : OwnE w' w.heap.size v es) (hb : Below w.heap.size w w') : OfOut b A w w' e := by
  unfold OfOut; rw [h]; exact ⟨v, he, ho, hb⟩
theorem readE_cut (l : List UInt8) : readE (cutL l 0 20) = readE l := by
  have e : ∀ a b, b ≤ 20 → cutL (cutL l 0 20) a b = cutL l a b := fun a b hb => by
    simp only [cutL, List.drop_zero, List.take_take]
    rw [Nat.min_eq_left hb]
  unfold readE
  rw [e 4 8 (by omega), e 8 12 (by omega), e 12 16 (by omega), e 16 20 (by omega), e 2 4 (by omega)]
theorem entsTo_next {l : List UInt8} {k : Nat} (h : EntsTo l k) (he : isEnt (l.drop (20 * k))) : EntsTo l (k + 1) := by
  have h1 := he.1
  rw [List.length_drop] at h1
  refine ⟨by omega, fun j hj => ?_⟩
  rcases Nat.lt_or_ge j k with h2 | h2
  · exact h.2 j h2
  · obtain rfl : j = k := by omega
    exact he
theorem bel_two {w W : World} (h : Below w.heap.size w W) {x y : Value} : Below w.heap.size w (((W.setCell ⟨w.heap.size, 0, none⟩ x).setCell ⟨w.heap.size, 1, none⟩ y).drew) :=
  ((h.setCell (p := ⟨w.heap.size, 0, none⟩) (Nat.le_refl _) _).setCell (p := ⟨w.heap.size, 1, none⟩) (Nat.le_refl _) _).drew
theorem ofSt_first {b : List UInt8} {g : Nat} {w : World} (h4 : 4 ≤ b.length) (hB : BytesIn w g 0 b) (hg : g < w.heap.size) (C : Int) :
    OfSt b g w 0 (if b.length = 4 then 0 else 0 + 4) (b.length - 4) none 0 C ((w.alloc (.cells #[.int .i64 0, .slice none 0 0] 24)).alloc (.cells #[.int .i64 C, .slice none 0 0] 24)) := by
  have hb : Below w.heap.size w ((w.alloc (.cells #[.int .i64 0, .slice none 0 0] 24)).alloc (.cells #[.int .i64 C, .slice none 0 0] 24)) := (ent_new0 w _).alloc (by simp) _
  have hP := (hB.below hb hg).piece 4 b.length (Nat.le_refl _) h4
  rw [List.take_length] at hP
  have q0 := (Row.new w 24 [.int .i64 0, .slice none 0 0]).alloc (.cells #[.int .i64 C, .slice none 0 0] 24)
  have q1 := Row.new (w.alloc (.cells #[.int .i64 0, .slice none 0 0] 24)) 24 [.int .i64 C, .slice none 0 0]
  rw [show (w.alloc (.cells #[.int .i64 0, .slice none 0 0] 24)).heap.size = w.heap.size + 1 by simp] at q1
  exact ⟨by simp, ⟨by omega, fun j hj => absurd hj (by omega)⟩, hP, q0, q1, OwnE.nil _ _, hb⟩
set_option maxRecDepth 100000 in
set_option maxHeartbeats 4000000 in
theorem ripOf_in (b : List UInt8) (g cap : Nat) (w : World) (A : Nat → Addr) (h4 : 4 ≤ b.length) (hh : numL (cutL b 1 4) = 131072) (hz : b.length ≤ 8000) (hc : b.length ≤ cap) (hB : BytesIn w g 0 b) (hg : g < w.heap.size) (hE : ErrsIn w A) :
    Calls Tryd.prog 29 #[.slice (some ⟨g, 0, none⟩) b.length cap] w fun e w' => OfOut b A w w' e := by
  have HP1 : Hid (∀ w, Calls Tryd.prog 45 #[.slice (some ⟨g, 0, none⟩) b.length cap, .int .i64 1, .int .i64 4] w fun e w' => e = .returned (.slice (some ⟨g, 1, none⟩) 3 3) ∧ w = w') := piece_off g 0 b.length cap 1 4 1 4 rfl rfl (by omega) (by omega) _ _ rfl rfl
  have HN1 : Hid (∀ w, BytesIn w g 1 (cutL b 1 4) → Calls Tryd.prog 44 #[.slice (some ⟨g, 1, none⟩) 3 3] w fun e w' => e = .returned (.int .i64 131072) ∧ w = w') := fun w h => by
    have := number_off b g 1 1 4 3 rfl (by omega) (by omega) w h
    rw [hh] at this
    exact this
  have HP2 : Hid (∀ w, Calls Tryd.prog 45 #[.slice (some ⟨g, 0, none⟩) b.length cap, .int .i64 0, .int .i64 1] w fun e w' => e = .returned (.slice (some ⟨g, 0, none⟩) 1 1) ∧ w = w') := piece_off g 0 b.length cap 0 1 0 1 rfl rfl (by omega) (by omega) _ _ rfl rfl
  have HN2 : Hid (∀ w, BytesIn w g 0 (cutL b 0 1) → Calls Tryd.prog 44 #[.slice (some ⟨g, 0, none⟩) 1 1] w fun e w' => e = .returned (.int .i64 (numL (cutL b 0 1) : Nat)) ∧ w = w') := number_off b g 0 0 1 1 rfl (by omega) (by omega)
  have HB : Hid (∀ (W : World) x y p, Below w.heap.size w W → y ≤ b.length → x < y → p = 0 + x → BytesIn W g p (cutL b x y)) := fun W x y p hW hy hxy hp => (hB.below hW hg).off x y hy hxy p hp
  have HP3 : Hid (∀ w, Calls Tryd.prog 45 #[.slice (some ⟨g, 0, none⟩) b.length cap, .int .i64 4, .int .i64 (b.length : Int)] w fun e w' => e = .returned (.slice (some ⟨g, if b.length = 4 then 0 else 0 + 4, none⟩) (b.length - 4) (b.length - 4)) ∧ w = w') := fun w => piece_any g 0 b.length cap 4 b.length w (by omega) hc
  have HBG : Hid (∀ off n k (W : World) gm, n = ((b.drop 4).drop (20 * k)).length → BytesIn W g off ((b.drop 4).drop (20 * k)) → g < W.heap.size → Row W gm 2 [.int .i64 65535, .int .i64 3] → Calls Tryd.prog 46 #[.slice (some ⟨g, off, none⟩) n n, .int .i64 8, .slice (some ⟨gm, 0, none⟩) 2 2] W fun e w' => e = .returned (.bool (decide (isMark ((b.drop 4).drop (20 * k))))) ∧ Below W.heap.size W w') := fun off n k W gm hn h1 h2 h3 => by
    subst hn
    exact begins_any g off _ ((b.drop 4).drop (20 * k)) 8 gm [65535, 3] W h1 h2 (Nat.le_refl _) h3 (by simp) (by simp) (by intro x hx; simp only [List.mem_cons, List.not_mem_nil, or_false] at hx; omega)
  have HBE : Hid (∀ off n k (W : World) gm, n = ((b.drop 4).drop (20 * k)).length → BytesIn W g off ((b.drop 4).drop (20 * k)) → g < W.heap.size → Row W gm 2 [.int .i64 2] → Calls Tryd.prog 46 #[.slice (some ⟨g, off, none⟩) n n, .int .i64 20, .slice (some ⟨gm, 0, none⟩) 1 1] W fun e w' => e = .returned (.bool (decide (isEnt ((b.drop 4).drop (20 * k))))) ∧ Below W.heap.size W w') := fun off n k W gm hn h1 h2 h3 => by
    subst hn
    exact begins_any g off _ ((b.drop 4).drop (20 * k)) 20 gm [2] W h1 h2 (Nat.le_refl _) h3 (by simp) (by simp) (by intro x hx; simp only [List.mem_cons, List.not_mem_nil, or_false] at hx; omega)
  have HRR : Hid (∀ (C : Int) p cv (es : List Ent) (k : Nat) (W : World), es.length = k → k ≤ 8000 → EntsIn W p es → Calls Tryd.prog 49 #[.agg #[.int .i64 C, .slice p k cv]] W fun e w' => e = .returned (.bool (ripB C es)) ∧ Below W.heap.size W w') := fun C p cv es k W hk h8 h => by
    subst hk
    exact implRipRight_any C p cv es W h (by omega)
  have HRM : Hid (∀ k, EntsTo (b.drop 4) k → ¬ isEnt ((b.drop 4).drop (20 * k)) → isMark ((b.drop 4).drop (20 * k)) → ripOfR b = if inSeq (markN ((b.drop 4).drop (20 * k))) = true ∧ ((b.drop 4).drop (20 * k)).length = 8 ∧ ripB (numL (cutL b 0 1) : Nat) (readEs (b.drop 4) k) = true then some (((numL (cutL b 0 1) : Nat) : Int), readEs (b.drop 4) k, markN ((b.drop 4).drop (20 * k))) else none) := fun k h1 h2 h3 => ripOfR_mark h4 hh k h1 h2 h3
  have HRE : Hid (∀ k, EntsTo (b.drop 4) k → ¬ isEnt ((b.drop 4).drop (20 * k)) → ¬ isMark ((b.drop 4).drop (20 * k)) → ripOfR b = if ((b.drop 4).drop (20 * k)).length = 0 ∧ ripB (numL (cutL b 0 1) : Nat) (readEs (b.drop 4) k) = true then some (((numL (cutL b 0 1) : Nat) : Int), readEs (b.drop 4) k, (0 : Int)) else none) := fun k h1 h2 h3 => ripOfR_end h4 hh k h1 h2 h3
  have d4 : decide ((b.length : Int) < 4) = false := by simp; omega
  generalize ((numL (cutL b 0 1) : Nat) : Int) = C at *
  go_enter Tryd.func29, Tryd.ntmps29
  go_wp2_with fail
  refine wp_scope_labels (OfAt b g cap w C) ofMu ?_ ?_
  · go_wp2_with fail
    refine (HP1.out _).mono ?_
    rintro e w1 ⟨rfl, rfl⟩
    go_wp2_with fail
    refine (HN1.out _ (HB.out _ 1 4 _ (ent_new0 w _) (by omega) (by omega) rfl)).mono ?_
    rintro e w1 ⟨rfl, rfl⟩
    go_wp2_with fail
    refine (HP2.out _).mono ?_
    rintro e w1 ⟨rfl, rfl⟩
    go_wp2_with fail
    refine (HN2.out _ (HB.out _ 0 1 _ (ent_new0 w _) (by omega) (by omega) rfl)).mono ?_
    rintro e w1 ⟨rfl, rfl⟩
    go_wp2_with fail
    refine (HP3.out _).mono ?_
    rintro e w1 ⟨rfl, rfl⟩
    have HST : Hid (OfSt b g w 0 (if b.length = 4 then 0 else 0 + 4) (b.length - 4) none 0 C ((w.alloc (.cells #[.int .i64 0, .slice none 0 0] 24)).alloc (.cells #[.int .i64 C, .slice none 0 0] 24))) := ofSt_first h4 hB hg C
    generalize hWW : ((w.alloc (.cells #[.int .i64 0, .slice none 0 0] 24)).alloc (.cells #[.int .i64 C, .slice none 0 0] 24)) = W at *
    clear hWW
    generalize (if b.length = 4 then 0 else 0 + 4) = off at *
    generalize b.length - 4 = n at *
    clear HP1 HN1 HP2 HN2 HP3 HB d4
    obtain ⟨k, p, cv, hST2⟩ : ∃ k p cv, OfSt b g w k off n p cv C W := ⟨0, none, 0, HST.out⟩
    have HST : Hid (OfSt b g w k off n p cv C W) := hST2
    clear hST2
    go_wp2_with fail
    go_step3
    obtain ⟨hnl, hto, hBy, hr0, hr1, how, hbl⟩ := HST.out
    have HNL : Hid (n = ((b.drop 4).drop (20 * k)).length) := hnl
    have hgl : g < W.heap.size := by have := hbl.size; omega
    have hl0 := hr0.lt
    have hl1 := hr1.lt
    clear hnl
    go_wp2_with fail
    refine (HBG.out off n k _ _ HNL.out (hBy.below (ent_new0 W _) hgl) (by simp; omega) (Row.new W 2 [.int .i64 65535, .int .i64 3])).mono ?_
    rintro e w1 ⟨rfl, hb1⟩
    have hB1 : Below W.heap.size W w1 := (ent_new0 W _).trans (hb1.mono (by simp))
    have HS1 : Hid (OfSt b g w k off n p cv C w1) := HST.out.below hg hB1
    clear hb1 hBy hr0 hr1 how
    by_cases hm : isMark ((b.drop 4).drop (20 * k))
    · rw [decide_eq_true hm]
      go_wp2_with fail
      go_step3
      exact ⟨_, _, _, _, _, _, _, _, _, _, _, _, _, _, _, _, _, _, _, _, _, _, _, _, _, _, _, _, _, _, _, _, _, _, _, _, _, _, _, _, _, _, _, _, _, _, _, _, _, _, _, _, _, _, _, _, _, _, _, k, off, n, p, cv, rfl, HS1.out, fun _ => hm, fun h => absurd h (by omega), fun _ h => ent_mark h hm, by omega⟩
    · rw [decide_eq_false hm]
      have hgl1 : g < w1.heap.size := by have := hB1.size; omega
      have hBy1 := HS1.out.2.2.1
      go_wp2_with fail
      refine (HBE.out off n k _ _ HNL.out (hBy1.below (ent_new0 w1 _) hgl1) (by simp; omega) (Row.new w1 2 [.int .i64 2])).mono ?_
      rintro e w2 ⟨rfl, hb2⟩
      have hB2 : Below w1.heap.size w1 w2 := (ent_new0 w1 _).trans (hb2.mono (by simp))
      have HS2 : Hid (OfSt b g w k off n p cv C w2) := HS1.out.below hg hB2
      clear hb2 hBy1 hgl1 HS1
      by_cases he : isEnt ((b.drop 4).drop (20 * k))
      · rw [decide_eq_true he]
        have h20 : 20 ≤ n := by rw [HNL.out]; exact he.1
        obtain ⟨-, hto1, hBy2, hr02, hr12, how2, hbl2⟩ := HS2.out
        have hs1 := hB1.size
        have hs2 := hB2.size
        have hgl2 : g < w2.heap.size := by omega
        have HR : Hid (Row w2 (w.heap.size + 1) 24 [.int .i64 C, .slice p k cv]) := hr12
        have HY : Hid (BytesIn w2 g off ((b.drop 4).drop (20 * k))) := hBy2
        have HO : Hid (OwnE w2 (w.heap.size + 2) (.slice p k cv) (readEs (b.drop 4) k)) := how2
        have HPC : Hid (∀ w', Calls Tryd.prog 45 #[.slice (some ⟨g, off, none⟩) n n, .int .i64 0, .int .i64 20] w' fun e w'' => e = .returned (.slice (some ⟨g, off, none⟩) 20 20) ∧ w' = w'') := piece_off g off _ _ 0 20 0 20 rfl rfl (by omega) h20 _ _ rfl rfl
        have HEO : Hid (∀ w', BytesIn w' g off (cutL ((b.drop 4).drop (20 * k)) 0 20) → g < w'.heap.size → Calls Tryd.prog 47 #[.slice (some ⟨g, off, none⟩) 20 20] w' fun e w'' => e = .returned (entV (readE (cutL ((b.drop 4).drop (20 * k)) 0 20))) ∧ Below w'.heap.size w' w'') := fun w' h1 h2 => entryOf_any _ g off w' (by rw [cutL_length _ _ _ he.1]) h1 h2
        have HCUT : Hid (∀ w', Below w2.heap.size w2 w' → BytesIn w' g off (cutL ((b.drop 4).drop (20 * k)) 0 20)) := fun w' h => (HY.out.below h hgl2).off 0 20 he.1 (by omega) _ rfl
        have hre : readE (cutL ((b.drop 4).drop (20 * k)) 0 20) = readE ((b.drop 4).drop (20 * k)) := readE_cut _
        rw [hre] at HEO
        have HNX : Hid (readEs (b.drop 4) (k + 1) = readEs (b.drop 4) k ++ [readE ((b.drop 4).drop (20 * k))]) := rfl
        have hto2 : EntsTo (b.drop 4) (k + 1) := entsTo_next hto1 he
        have HTO : Hid (EntsTo (b.drop 4) (k + 1)) := hto2
        have hkk : (readEs (b.drop 4) k).length ≤ 1000000 := by have h0 := hto2.1; rw [List.length_drop] at h0; rw [readEs_length]; omega
        have HPR : Hid (∀ w', Calls Tryd.prog 45 #[.slice (some ⟨g, off, none⟩) n n, .int .i64 20, .int .i64 (n : Int)] w' fun e w'' => e = .returned (.slice (some ⟨g, if n = 20 then off else off + 20, none⟩) (n - 20) (n - 20)) ∧ w' = w'') := fun w' => piece_any g off _ _ 20 _ w' h20 (Nat.le_refl _)
        have HEV : Hid (∃ E, readE ((b.drop 4).drop (20 * k)) = E) := ⟨_, rfl⟩
        obtain ⟨⟨ea, el, en, em, et⟩, hEV⟩ := HEV.out
        rw [hEV] at HEO HNX
        unfold entV at HEO
        simp only at HEO
        clear HEV hEV hre hr02 hr12 how2 hBy2 hto2 hto1
        go_wp2_with fail
        have hGN : (([(34, Is (.pointer (some ⟨w.heap.size + 1, 1, none⟩))), (35, Is (.slice p k cv)), (36, Is (.slice (some ⟨g, off, none⟩) n n)), (37, Is (.slice (some ⟨g, off, none⟩) 20 20)), (38, Is (.agg #[.int .i64 ea, .int .i64 el, .int .i64 en, .int .i64 em, .int .i64 et])), (39, fun x W' => ∃ gx, x = .slice (some ⟨gx, 0, none⟩) 1 1 ∧ Row W' gx 51 (entL ⟨ea, el, en, em, et⟩))] : List (Nat × (Value → World → Prop))).map (·.1)).Nodup := by simp
        refine wp_region_steady 6 (SlotG [(34, Is (.pointer (some ⟨w.heap.size + 1, 1, none⟩))), (35, Is (.slice p k cv)), (36, Is (.slice (some ⟨g, off, none⟩) n n)), (37, Is (.slice (some ⟨g, off, none⟩) 20 20)), (38, Is (.agg #[.int .i64 ea, .int .i64 el, .int .i64 en, .int .i64 em, .int .i64 et])), (39, fun x W' => ∃ gx, x = .slice (some ⟨gx, 0, none⟩) 1 1 ∧ Row W' gx 51 (entL ⟨ea, el, en, em, et⟩))]) (by kernel_rfl) (by kernel_rfl) (Stabs.all ⟨stab_is _, stab_is _, stab_is _, stab_is _, stab_is _, stab_ent _ _, trivial⟩) ?_ ?_
        · intro o ho
          simp only [List.take_succ_cons, List.take_zero, List.mem_cons, List.not_mem_nil, or_false] at ho
          rcases ho with rfl | rfl | rfl | rfl | rfl | rfl
          · intro a' w' hb ha hdep
            have d5 : a'.tmps.getD 5 undef = .pointer (some ⟨w.heap.size + 1, 0, none⟩) := ha.at 5 (by kernel_rfl)
            have hmk := fun (x : Value) (W : World) => SlotG.mk (x := x) (w := W) 0 rfl hGN
            clear hGN ha hdep
            go_simp
            exact ⟨_, rfl, Below.refl _ _, hmk _ _ rfl⟩
          · intro a' w' hb ha hdep
            have d34 : a'.tmps.getD 34 undef = .pointer (some ⟨w.heap.size + 1, 1, none⟩) := (hdep 34 (of_decide_eq_true (by kernel_rfl))).is 0 rfl
            have hmk := fun (x : Value) (W : World) => SlotG.mk (x := x) (w := W) 1 rfl hGN
            clear hGN ha hdep
            have c1 : w'.cell? ⟨w.heap.size + 1, 1, none⟩ = some (.slice p k cv) := (HR.out.below hb HR.out.lt).cell 1
            go_simp
            exact ⟨_, rfl, Below.refl _ _, hmk _ _ rfl⟩
          · intro a' w' hb ha hdep
            have d7 : a'.tmps.getD 7 undef = .slice (some ⟨g, off, none⟩) n n := ha.at 7 (by kernel_rfl)
            have hmk := fun (x : Value) (W : World) => SlotG.mk (x := x) (w := W) 2 rfl hGN
            clear hGN ha hdep
            go_simp
            exact ⟨_, rfl, Below.refl _ _, hmk _ _ rfl⟩
          · intro a' w' hb ha hdep
            have d36 : a'.tmps.getD 36 undef = .slice (some ⟨g, off, none⟩) n n := (hdep 36 (of_decide_eq_true (by kernel_rfl))).is 2 rfl
            have hmk := fun (x : Value) (W : World) => SlotG.mk (x := x) (w := W) 3 rfl hGN
            clear hGN ha hdep
            go_simp
            refine (HPC.out _).mono ?_
            rintro e w2 ⟨rfl, rfl⟩
            exact ⟨_, rfl, Below.refl _ _, hmk _ _ rfl⟩
          · intro a' w' hb ha hdep
            have d37 : a'.tmps.getD 37 undef = .slice (some ⟨g, off, none⟩) 20 20 := (hdep 37 (of_decide_eq_true (by kernel_rfl))).is 3 rfl
            have hmk := fun (x : Value) (W : World) => SlotG.mk (x := x) (w := W) 4 rfl hGN
            clear hGN ha hdep
            go_simp
            refine (HEO.out _ (HCUT.out _ hb) (by have := hb.size; omega)).mono ?_
            rintro e w2 ⟨rfl, hb2⟩
            exact ⟨_, rfl, hb2, hmk _ _ rfl⟩
          · intro a' w' hb ha hdep
            have d38 : a'.tmps.getD 38 undef = .agg #[.int .i64 ea, .int .i64 el, .int .i64 en, .int .i64 em, .int .i64 et] := (hdep 38 (of_decide_eq_true (by kernel_rfl))).is 4 rfl
            have hmk := fun (x : Value) (W : World) => SlotG.mk (x := x) (w := W) 5 rfl hGN
            clear hGN ha hdep
            rw [Array.getD_eq_getD_getElem?] at d38
            go_simp
            exact ⟨_, rfl, ent_new0 _ _, hmk _ _ ⟨_, rfl, Row.new w' 51 _⟩⟩
        · intro a' w' hb ha hG
          clear hGN
          have d35 : a'.tmps.getD 35 undef = .slice p k cv := (hG _ (List.mem_of_getElem? (i := 1) rfl) 35 rfl).is 1 rfl
          have D39 := (hG _ (List.mem_of_getElem? (i := 5) rfl) 39 rfl).get 5 rfl
          have d0 : a'.tmps.getD 0 undef = .slice (some ⟨g, 0, none⟩) b.length cap := ha.at 0 (by kernel_rfl)
          have d1 : a'.tmps.getD 1 undef = undef := ha.at 1 (by kernel_rfl)
          have d2 : a'.tmps.getD 2 undef = .pointer (some ⟨w.heap.size, 0, none⟩) := ha.at 2 (by kernel_rfl)
          have d3 : a'.tmps.getD 3 undef = .int .i64 0 := ha.at 3 (by kernel_rfl)
          have d4 : a'.tmps.getD 4 undef = .nilIface := ha.at 4 (by kernel_rfl)
          have d5 : a'.tmps.getD 5 undef = .pointer (some ⟨w.heap.size + 1, 0, none⟩) := ha.at 5 (by kernel_rfl)
          have d6 : a'.tmps.getD 6 undef = .int .i64 0 := ha.at 6 (by kernel_rfl)
          have d7 : a'.tmps.getD 7 undef = .slice (some ⟨g, off, none⟩) n n := ha.at 7 (by kernel_rfl)
          have e2 : a' = ⟨#[a'.tmps.getD 0 undef, a'.tmps.getD 1 undef, a'.tmps.getD 2 undef, a'.tmps.getD 3 undef, a'.tmps.getD 4 undef, a'.tmps.getD 5 undef, a'.tmps.getD 6 undef, a'.tmps.getD 7 undef, a'.tmps.getD 8 undef, a'.tmps.getD 9 undef, a'.tmps.getD 10 undef, a'.tmps.getD 11 undef, a'.tmps.getD 12 undef, a'.tmps.getD 13 undef, a'.tmps.getD 14 undef, a'.tmps.getD 15 undef, a'.tmps.getD 16 undef, a'.tmps.getD 17 undef, a'.tmps.getD 18 undef, a'.tmps.getD 19 undef, a'.tmps.getD 20 undef, a'.tmps.getD 21 undef, a'.tmps.getD 22 undef, a'.tmps.getD 23 undef, a'.tmps.getD 24 undef, a'.tmps.getD 25 undef, a'.tmps.getD 26 undef, a'.tmps.getD 27 undef, a'.tmps.getD 28 undef, a'.tmps.getD 29 undef, a'.tmps.getD 30 undef, a'.tmps.getD 31 undef, a'.tmps.getD 32 undef, a'.tmps.getD 33 undef, a'.tmps.getD 34 undef, a'.tmps.getD 35 undef, a'.tmps.getD 36 undef, a'.tmps.getD 37 undef, a'.tmps.getD 38 undef, a'.tmps.getD 39 undef, a'.tmps.getD 40 undef, a'.tmps.getD 41 undef, a'.tmps.getD 42 undef, a'.tmps.getD 43 undef, a'.tmps.getD 44 undef, a'.tmps.getD 45 undef, a'.tmps.getD 46 undef, a'.tmps.getD 47 undef, a'.tmps.getD 48 undef, a'.tmps.getD 49 undef, a'.tmps.getD 50 undef, a'.tmps.getD 51 undef, a'.tmps.getD 52 undef, a'.tmps.getD 53 undef, a'.tmps.getD 54 undef, a'.tmps.getD 55 undef, a'.tmps.getD 56 undef, a'.tmps.getD 57 undef, a'.tmps.getD 58 undef, a'.tmps.getD 59 undef, a'.tmps.getD 60 undef, a'.tmps.getD 61 undef, a'.tmps.getD 62 undef, a'.tmps.getD 63 undef, a'.tmps.getD 64 undef, a'.tmps.getD 65 undef, a'.tmps.getD 66 undef], []⟩ := by rw [← (show a'.defers = [] from ha.2.1)]; exact act_eq a' 67 ha.1
          rw [d35, d0, d1, d2, d3, d4, d5, d6, d7] at e2
          clear hG ha d35 d0 d1 d2 d3 d4 d5 d6 d7
          generalize a'.tmps.getD 8 undef = x8 at *
          generalize a'.tmps.getD 9 undef = x9 at *
          generalize a'.tmps.getD 10 undef = x10 at *
          generalize a'.tmps.getD 11 undef = x11 at *
          generalize a'.tmps.getD 12 undef = x12 at *
          generalize a'.tmps.getD 13 undef = x13 at *
          generalize a'.tmps.getD 14 undef = x14 at *
          generalize a'.tmps.getD 15 undef = x15 at *
          generalize a'.tmps.getD 16 undef = x16 at *
          generalize a'.tmps.getD 17 undef = x17 at *
          generalize a'.tmps.getD 18 undef = x18 at *
          generalize a'.tmps.getD 19 undef = x19 at *
          generalize a'.tmps.getD 20 undef = x20 at *
          generalize a'.tmps.getD 21 undef = x21 at *
          generalize a'.tmps.getD 22 undef = x22 at *
          generalize a'.tmps.getD 23 undef = x23 at *
          generalize a'.tmps.getD 24 undef = x24 at *
          generalize a'.tmps.getD 25 undef = x25 at *
          generalize a'.tmps.getD 26 undef = x26 at *
          generalize a'.tmps.getD 27 undef = x27 at *
          generalize a'.tmps.getD 28 undef = x28 at *
          generalize a'.tmps.getD 29 undef = x29 at *
          generalize a'.tmps.getD 30 undef = x30 at *
          generalize a'.tmps.getD 31 undef = x31 at *
          generalize a'.tmps.getD 32 undef = x32 at *
          generalize a'.tmps.getD 33 undef = x33 at *
          generalize a'.tmps.getD 34 undef = x34 at *
          generalize a'.tmps.getD 36 undef = x36 at *
          generalize a'.tmps.getD 37 undef = x37 at *
          generalize a'.tmps.getD 38 undef = x38 at *
          generalize a'.tmps.getD 39 undef = x39 at *
          generalize a'.tmps.getD 40 undef = x40 at *
          generalize a'.tmps.getD 41 undef = x41 at *
          generalize a'.tmps.getD 42 undef = x42 at *
          generalize a'.tmps.getD 43 undef = x43 at *
          generalize a'.tmps.getD 44 undef = x44 at *
          generalize a'.tmps.getD 45 undef = x45 at *
          generalize a'.tmps.getD 46 undef = x46 at *
          generalize a'.tmps.getD 47 undef = x47 at *
          generalize a'.tmps.getD 48 undef = x48 at *
          generalize a'.tmps.getD 49 undef = x49 at *
          generalize a'.tmps.getD 50 undef = x50 at *
          generalize a'.tmps.getD 51 undef = x51 at *
          generalize a'.tmps.getD 52 undef = x52 at *
          generalize a'.tmps.getD 53 undef = x53 at *
          generalize a'.tmps.getD 54 undef = x54 at *
          generalize a'.tmps.getD 55 undef = x55 at *
          generalize a'.tmps.getD 56 undef = x56 at *
          generalize a'.tmps.getD 57 undef = x57 at *
          generalize a'.tmps.getD 58 undef = x58 at *
          generalize a'.tmps.getD 59 undef = x59 at *
          generalize a'.tmps.getD 60 undef = x60 at *
          generalize a'.tmps.getD 61 undef = x61 at *
          generalize a'.tmps.getD 62 undef = x62 at *
          generalize a'.tmps.getD 63 undef = x63 at *
          generalize a'.tmps.getD 64 undef = x64 at *
          generalize a'.tmps.getD 65 undef = x65 at *
          generalize a'.tmps.getD 66 undef = x66 at *
          subst e2
          simp only [List.drop_succ_cons, List.drop_zero]
          obtain ⟨gx, rfl, hgx⟩ := D39
          have hs3 := hb.size
          have how3 := HO.out.below hb
          refine wpList_append_ent rfl (.tmp 35) (.tmp 39) rfl (w.heap.size + 2) _ (readEs (b.drop 4) k) rfl how3 gx 1 ⟨ea, el, en, em, et⟩ rfl hgx hkk (by omega) ?_
          intro v4 w4 hown4 hb4
          rw [← HNX.out] at hown4
          obtain ⟨p4, cv4, hv4, -⟩ := hown4.form
          rw [readEs_length] at hv4
          subst hv4
          obtain ⟨hBy4, hr04, hr14, hbl4⟩ := (HS2.out.below hg hb).grown hg hb4
          have c0 : w4.cell? ⟨w.heap.size + 1, 0, none⟩ = some (.int .i64 C) := hr14.cell 0
          have c1 : w4.cell? ⟨w.heap.size + 1, 1, none⟩ = some (.slice p k cv) := hr14.cell 1
          have f1 := hr14.frozen 1
          have HX : Hid _ := ofSt_next HNL.out h20 hg HTO.out hBy4 hr04 hr14 hown4 hbl4
          have HN4 : Hid (n - 20 < n) := by show _ < _; omega
          generalize (if n = 20 then off else off + 20) = off4 at *
          generalize n - 20 = n4 at *
          clear hBy4 hr04 hr14 hown4 hbl4 hgx how3 hb4 HO HY HR HEO HPC HS2 HCUT
          go_wp2_with fail
          refine (HPR.out _).mono ?_
          rintro e w5 ⟨rfl, rfl⟩
          go_wp2_with fail
          go_step3
          exact ⟨_, _, _, _, _, _, _, _, _, _, _, _, _, _, _, _, _, _, _, _, _, _, _, _, _, _, _, _, _, _, _, _, _, _, _, _, _, _, _, _, _, _, _, _, _, _, _, _, _, _, _, _, _, _, _, _, _, _, _, k + 1, off4, n4, p4, cv4, rfl, HX.out, fun h => absurd h (by omega), fun h => absurd h (by omega), fun h => absurd rfl h, by omega⟩
      · rw [decide_eq_false he]
        go_wp2_with fail
        go_step3
        exact ⟨_, _, _, _, _, _, _, _, _, _, _, _, _, _, _, _, _, _, _, _, _, _, _, _, _, _, _, _, _, _, _, _, _, _, _, _, _, _, _, _, _, _, _, _, _, _, _, _, _, _, _, _, _, _, _, _, _, _, _, k, off, n, p, cv, rfl, HS2.out, fun h => absurd h (by omega), fun _ => hm, fun _ => he, by omega⟩
  · rintro l a' W ⟨x8, x9, x10, x11, x12, x13, x14, x15, x16, x17, x18, x19, x20, x21, x22, x23, x24, x25, x26, x27, x28, x29, x30, x31, x32, x33, x34, x35, x36, x37, x38, x39, x40, x41, x42, x43, x44, x45, x46, x47, x48, x49, x50, x51, x52, x53, x54, x55, x56, x57, x58, x59, x60, x61, x62, x63, x64, x65, x66, k, off, n, p, cv, rfl, hST, hm0, hm2, hne, hl2⟩
    have HST : Hid (OfSt b g w k off n p cv C W) := hST
    have HEW : Hid (ErrsIn W A) := hE.below hST.2.2.2.2.2.2
    clear hST d4 HP1 HN1 HP2 HN2 HP3 HB
    obtain rfl | rfl | rfl : l = 0 ∨ l = 1 ∨ l = 2 := by omega
    · refine ⟨_, rfl, ?_⟩
      have hmk := hm0 rfl
      have h8 : 8 ≤ n := by rw [HST.out.1]; exact hmk.1
      have HPM : Hid (∀ w', Calls Tryd.prog 45 #[.slice (some ⟨g, off, none⟩) n n, .int .i64 4, .int .i64 8] w' fun e w'' => e = .returned (.slice (some ⟨g, off + 4, none⟩) 4 4) ∧ w' = w'') := piece_off g off _ _ 4 8 4 8 rfl rfl (by omega) h8 _ _ rfl rfl
      have HNM : Hid (Calls Tryd.prog 44 #[.slice (some ⟨g, off + 4, none⟩) 4 4] W fun e w'' => e = .returned (.int .i64 (markN ((b.drop 4).drop (20 * k)))) ∧ W = w'') := number_off ((b.drop 4).drop (20 * k)) g (off + 4) 4 8 4 rfl hmk.1 (by omega) W (HST.out.2.2.1.off 4 8 hmk.1 (by omega) _ rfl)
      have HSQ : Hid (∀ w', Calls Tryd.prog 48 #[.int .i64 (markN ((b.drop 4).drop (20 * k)))] w' fun e w'' => e = .returned (.bool (inSeq (markN ((b.drop 4).drop (20 * k))))) ∧ w' = w'') := seqRight_any _
      have HP8 : Hid (∀ w', Calls Tryd.prog 45 #[.slice (some ⟨g, off, none⟩) n n, .int .i64 8, .int .i64 (n : Int)] w' fun e w'' => e = .returned (.slice (some ⟨g, if n = 8 then off else off + 8, none⟩) (n - 8) (n - 8)) ∧ w' = w'') := fun w' => piece_any g off _ _ 8 _ w' h8 (Nat.le_refl _)
      generalize hQ : markN ((b.drop 4).drop (20 * k)) = Q at *
      have HQ : Hid _ := hQ
      clear hQ
      go_wp2_with fail
      refine (HPM.out _).mono ?_
      rintro e w1 ⟨rfl, rfl⟩
      go_wp2_with fail
      refine (HNM.out).mono ?_
      rintro e w1 ⟨rfl, rfl⟩
      go_wp2_with fail
      refine (HSQ.out _).mono ?_
      rintro e w1 ⟨rfl, rfl⟩
      clear HPM HNM HSQ
      by_cases hsq : inSeq Q = true
      · rw [hsq]
        go_wp2_with fail
        refine (HP8.out _).mono ?_
        rintro e w1 ⟨rfl, rfl⟩
        obtain ⟨n8, hn8⟩ : ∃ n8, n - 8 = n8 := ⟨_, rfl⟩
        have HN8 : Hid (n - 8 = n8) := hn8
        rw [hn8]
        clear hn8 HP8
        generalize (if n = 8 then off else off + 8) = off8 at *
        go_wp2_with fail
        go_step3
        have hgE : 1 < w.heap.size := World.block_lt_of_cell? w _ (hE.1 4 (by omega))
        have hgE2 : ¬ 1 = w.heap.size := by omega
        have hgE3 : ¬ w.heap.size = 1 := by omega
        obtain ⟨-, hto, -, hr0, hr1, how, hbl⟩ := HST.out
        have c0 : W.cell? ⟨w.heap.size, 0, none⟩ = some (.int .i64 0) := hr0.cell 0
        have c1 : W.cell? ⟨w.heap.size, 1, none⟩ = some (.slice none 0 0) := hr0.cell 1
        have f0 := hr0.frozen 0
        have f1 := hr0.frozen 1
        have e0 : W.cell? ⟨w.heap.size + 1, 0, none⟩ = some (.int .i64 C) := hr1.cell 0
        have e1 : W.cell? ⟨w.heap.size + 1, 1, none⟩ = some (.slice p k cv) := hr1.cell 1
        have cE : W.cell? ⟨1, 0, none⟩ = some (.iface 107 (.pointer (some (A 4)))) := HEW.out.1 4 (by omega)
        have hkk : k ≤ 8000 := by have h0 := hto.1; rw [List.length_drop] at h0; omega
        have HNo : Hid (¬ (n8 = 0 ∧ ripB C (readEs (b.drop 4) k) = true) → ripOfR b = none) := fun hr => by rw [HRM.out k hto (hne (by omega)) hmk, HQ.out, ← HST.out.1, if_neg (fun h => hr ⟨by have := HN8.out; omega, h.2.2⟩)]
        have HYes : Hid (n8 = 0 ∧ ripB C (readEs (b.drop 4) k) = true → ripOfR b = some (C, readEs (b.drop 4) k, Q)) := fun hr => by rw [HRM.out k hto (hne (by omega)) hmk, HQ.out, ← HST.out.1, if_pos ⟨hsq, by have := HN8.out; have := hr.1; omega, hr.2⟩]
        obtain ⟨p2, cv2, hv2, hEn⟩ := how.form
        rw [readEs_length] at hv2
        obtain ⟨rfl, -, rfl⟩ : p = p2 ∧ k = k ∧ cv = cv2 := by simpa using hv2
        have HRk : Hid (Calls Tryd.prog 49 #[.agg #[.int .i64 C, .slice p k cv]] W fun e w' => e = .returned (.bool (ripB C (readEs (b.drop 4) k))) ∧ Below W.heap.size W w') := HRR.out C p cv _ k W (readEs_length _ _) hkk hEn
        have HOW : Hid (OwnE W (w.heap.size + 2) (.slice p k cv) (readEs (b.drop 4) k)) := how
        have HRows : Hid (Row W w.heap.size 24 [.int .i64 0, .slice none 0 0] ∧ Row W (w.heap.size + 1) 24 [.int .i64 C, .slice p k cv]) := ⟨hr0, hr1⟩
        clear HST how hr0 hr1 hto hEn hv2 HRM HRE HRR HBG HBE hh hB hE
        generalize readEs (b.drop 4) k = es at *
        by_cases h0 : n8 = 0
        · subst h0
          by_cases hrb : ripB C es = true
          · rw [hrb] at HRk
            have HY0 : Hid (ripOfR b = some (C, es, Q)) := HYes.out ⟨rfl, hrb⟩
            clear HNo HYes hrb
            go_wp2_with fail
            refine (HRk.out).mono ?_
            rintro e w1 ⟨rfl, hb1⟩
            have q0 := HRows.out.1.below hb1 HRows.out.1.lt
            have q1 := HRows.out.2.below hb1 HRows.out.2.lt
            have ho1 := HOW.out.below hb1
            have hB1 : Below w.heap.size w w1 := hbl.trans (hb1.mono hbl.size)
            clear c0 c1 f0 f1 e0 e1 cE
            have c0 : w1.cell? ⟨w.heap.size, 0, none⟩ = some (.int .i64 0) := q0.cell 0
            have c1 : w1.cell? ⟨w.heap.size, 1, none⟩ = some (.slice none 0 0) := q0.cell 1
            have f0 := q0.frozen 0
            have f1 := q0.frozen 1
            have e0 : w1.cell? ⟨w.heap.size + 1, 0, none⟩ = some (.int .i64 C) := q1.cell 0
            have e1 : w1.cell? ⟨w.heap.size + 1, 1, none⟩ = some (.slice p k cv) := q1.cell 1
            have hres : Row ((w1.setCell ⟨w.heap.size, 0, none⟩ (.int .i64 C)).setCell ⟨w.heap.size, 1, none⟩ (.slice p k cv)) w.heap.size 24 [.int .i64 C, .slice p k cv] := (q0.set 0 _).set 1 _
            have hos : OwnE ((w1.setCell ⟨w.heap.size, 0, none⟩ (.int .i64 C)).setCell ⟨w.heap.size, 1, none⟩ (.slice p k cv)) w.heap.size (.slice p k cv) es := ((ho1.set ⟨w.heap.size, 0, none⟩ (by show w.heap.size < w.heap.size + 2; omega) _).set ⟨w.heap.size, 1, none⟩ (by show w.heap.size < w.heap.size + 2; omega) _).mono (by omega)
            have hbs : Below w.heap.size w ((w1.setCell ⟨w.heap.size, 0, none⟩ (.int .i64 C)).setCell ⟨w.heap.size, 1, none⟩ (.slice p k cv)) := (hB1.setCell (p := ⟨w.heap.size, 0, none⟩) (Nat.le_refl _) _).setCell (p := ⟨w.heap.size, 1, none⟩) (Nat.le_refl _) _
            have HZ : Hid _ := And.intro hres (And.intro hos hbs)
            clear hres hos hbs q0 q1 ho1 hB1 hb1 HOW HRows HRk
            go_wp2_with fail
            have HZ2 := HZ.out
            clear HZ c0 c1 f0 f1 e0 e1
            generalize ((w1.setCell ⟨w.heap.size, 0, none⟩ (.int .i64 C)).setCell ⟨w.heap.size, 1, none⟩ (.slice p k cv)) = Z at *
            obtain ⟨h1, h2, h3⟩ := HZ2
            have r0 : Z.cell? ⟨w.heap.size, 0, none⟩ = some (.int .i64 C) := h1.cell 0
            have r1 : Z.cell? ⟨w.heap.size, 1, none⟩ = some (.slice p k cv) := h1.cell 1
            simp only [Exit.jumps]
            refine bodyPost_ret (v := .tuple #[.agg #[.int .i64 C, .slice p k cv], .int .i64 Q, .nilIface]) (by simp [results, Tryd.results29, go_sem, r0, r1]) rfl (OfOut.yes HY0.out (.slice p k cv) rfl h2 h3)
          · rw [show ripB C es = false by simpa using hrb] at HRk
            have HN0 : Hid (ripOfR b = none) := HNo.out (fun h => hrb h.2)
            clear HNo HYes hrb
            go_wp2_with fail
            refine (HRk.out).mono ?_
            rintro e w1 ⟨rfl, hb1⟩
            have q0 := HRows.out.1.below hb1 HRows.out.1.lt
            have hB1 : Below w.heap.size w w1 := hbl.trans (hb1.mono hbl.size)
            have HE1 := HEW.out.below hb1
            clear c0 c1 f0 f1 e0 e1 cE
            have c0 : w1.cell? ⟨w.heap.size, 0, none⟩ = some (.int .i64 0) := q0.cell 0
            have c1 : w1.cell? ⟨w.heap.size, 1, none⟩ = some (.slice none 0 0) := q0.cell 1
            have f0 := q0.frozen 0
            have f1 := q0.frozen 1
            have cE : w1.cell? ⟨1, 0, none⟩ = some (.iface 107 (.pointer (some (A 4)))) := HE1.1 4 (by omega)
            have HQ0 : Hid (Row w1 w.heap.size 24 [.int .i64 0, .slice none 0 0]) := q0
            clear q0 hb1 HE1 HRows HOW HRk
            go_wp2_with fail
            go_region
            all_goals have g0 : (w1.setCell ⟨w.heap.size, 0, none⟩ (.int .i64 0)).cell? ⟨w.heap.size, 0, none⟩ = some (.int .i64 0) := (HQ0.out.set 0 _).cell 0
            all_goals have g1 : ((w1.setCell ⟨w.heap.size, 0, none⟩ (.int .i64 0)).setCell ⟨w.heap.size, 1, none⟩ (.slice none 0 0)).cell? ⟨w.heap.size, 1, none⟩ = some (.slice none 0 0) := ((HQ0.out.set 0 _).set 1 _).cell 1
            all_goals (try go_wp2)
            all_goals (simp only [Exit.jumps])
            all_goals (refine bodyPost_ret (v := .tuple #[.agg #[.int .i64 0, .slice none 0 0], .int .i64 0, .iface 107 (.pointer (some (A 4)))]) (by simp [results, Tryd.results29, go_sem, g0, g1]) rfl (OfOut.no HN0.out rfl ?_))
            all_goals exact bel_two hB1
        · have hpos : 0 < n8 := by omega
          have HN0 : Hid (ripOfR b = none) := HNo.out (fun h => h0 h.1)
          have HQ0 : Hid (Row W w.heap.size 24 [.int .i64 0, .slice none 0 0]) := HRows.out.1
          clear HNo HYes h0 HRk HOW HRows
          go_wp2_with fail
          go_region
          all_goals have g0 : (W.setCell ⟨w.heap.size, 0, none⟩ (.int .i64 0)).cell? ⟨w.heap.size, 0, none⟩ = some (.int .i64 0) := (HQ0.out.set 0 _).cell 0
          all_goals have g1 : ((W.setCell ⟨w.heap.size, 0, none⟩ (.int .i64 0)).setCell ⟨w.heap.size, 1, none⟩ (.slice none 0 0)).cell? ⟨w.heap.size, 1, none⟩ = some (.slice none 0 0) := ((HQ0.out.set 0 _).set 1 _).cell 1
          all_goals (try go_wp2)
          all_goals (simp only [Exit.jumps])
          all_goals (refine bodyPost_ret (v := .tuple #[.agg #[.int .i64 0, .slice none 0 0], .int .i64 0, .iface 107 (.pointer (some (A 4)))]) (by simp [results, Tryd.results29, go_sem, g0, g1]) rfl (OfOut.no HN0.out rfl ?_))
          all_goals exact bel_two hbl
      · rw [show inSeq Q = false by simpa using hsq]
        go_wp2_with fail
        go_step3
        have hgE : 1 < w.heap.size := World.block_lt_of_cell? w _ (hE.1 4 (by omega))
        have hgE2 : ¬ 1 = w.heap.size := by omega
        have hgE3 : ¬ w.heap.size = 1 := by omega
        obtain ⟨-, hto, -, hr0, hr1, how, hbl⟩ := HST.out
        have c0 : W.cell? ⟨w.heap.size, 0, none⟩ = some (.int .i64 0) := hr0.cell 0
        have c1 : W.cell? ⟨w.heap.size, 1, none⟩ = some (.slice none 0 0) := hr0.cell 1
        have f0 := hr0.frozen 0
        have f1 := hr0.frozen 1
        have e0 : W.cell? ⟨w.heap.size + 1, 0, none⟩ = some (.int .i64 C) := hr1.cell 0
        have e1 : W.cell? ⟨w.heap.size + 1, 1, none⟩ = some (.slice p k cv) := hr1.cell 1
        have cE : W.cell? ⟨1, 0, none⟩ = some (.iface 107 (.pointer (some (A 4)))) := HEW.out.1 4 (by omega)
        have hkk : k ≤ 8000 := by have h0 := hto.1; rw [List.length_drop] at h0; omega
        have HNo : Hid (¬ (n = 0 ∧ ripB C (readEs (b.drop 4) k) = true) → ripOfR b = none) := fun hr => by rw [HRM.out k hto (hne (by omega)) hmk, HQ.out, ← HST.out.1, if_neg (fun h => hsq h.1)]
        have HYes : Hid (n = 0 ∧ ripB C (readEs (b.drop 4) k) = true → ripOfR b = some (C, readEs (b.drop 4) k, Q)) := fun hr => absurd hr.1 (by omega)
        obtain ⟨p2, cv2, hv2, hEn⟩ := how.form
        rw [readEs_length] at hv2
        obtain ⟨rfl, -, rfl⟩ : p = p2 ∧ k = k ∧ cv = cv2 := by simpa using hv2
        have HRk : Hid (Calls Tryd.prog 49 #[.agg #[.int .i64 C, .slice p k cv]] W fun e w' => e = .returned (.bool (ripB C (readEs (b.drop 4) k))) ∧ Below W.heap.size W w') := HRR.out C p cv _ k W (readEs_length _ _) hkk hEn
        have HOW : Hid (OwnE W (w.heap.size + 2) (.slice p k cv) (readEs (b.drop 4) k)) := how
        have HRows : Hid (Row W w.heap.size 24 [.int .i64 0, .slice none 0 0] ∧ Row W (w.heap.size + 1) 24 [.int .i64 C, .slice p k cv]) := ⟨hr0, hr1⟩
        clear HST how hr0 hr1 hto hEn hv2 HRM HRE HRR HBG HBE hh hB hE
        generalize readEs (b.drop 4) k = es at *
        have h0 : ¬ n = 0 := by omega
        have hpos : 0 < n := by omega
        have HN0 : Hid (ripOfR b = none) := HNo.out (fun h => h0 h.1)
        have HQ0 : Hid (Row W w.heap.size 24 [.int .i64 0, .slice none 0 0]) := HRows.out.1
        clear HNo HYes h0 HRk HOW HRows
        go_wp2_with fail
        go_region
        all_goals have g0 : (W.setCell ⟨w.heap.size, 0, none⟩ (.int .i64 0)).cell? ⟨w.heap.size, 0, none⟩ = some (.int .i64 0) := (HQ0.out.set 0 _).cell 0
        all_goals have g1 : ((W.setCell ⟨w.heap.size, 0, none⟩ (.int .i64 0)).setCell ⟨w.heap.size, 1, none⟩ (.slice none 0 0)).cell? ⟨w.heap.size, 1, none⟩ = some (.slice none 0 0) := ((HQ0.out.set 0 _).set 1 _).cell 1
        all_goals (try go_wp2)
        all_goals (simp only [Exit.jumps])
        all_goals (refine bodyPost_ret (v := .tuple #[.agg #[.int .i64 0, .slice none 0 0], .int .i64 0, .iface 107 (.pointer (some (A 4)))]) (by simp [results, Tryd.results29, go_sem, g0, g1]) rfl (OfOut.no HN0.out rfl ?_))
        all_goals exact bel_two hbl
    · refine ⟨_, rfl, ?_⟩
      clear hm0 hm2 hne hl2
      obtain ⟨hnl, hto, hBy, hr0, hr1, how, hbl⟩ := HST.out
      have HNL : Hid (n = ((b.drop 4).drop (20 * k)).length) := hnl
      have hgl : g < W.heap.size := by have := hbl.size; omega
      have hl0 := hr0.lt
      have hl1 := hr1.lt
      clear hnl
      go_wp2_with fail
      refine (HBG.out off n k _ _ HNL.out (hBy.below (ent_new0 W _) hgl) (by simp; omega) (Row.new W 2 [.int .i64 65535, .int .i64 3])).mono ?_
      rintro e w1 ⟨rfl, hb1⟩
      have hB1 : Below W.heap.size W w1 := (ent_new0 W _).trans (hb1.mono (by simp))
      have HS1 : Hid (OfSt b g w k off n p cv C w1) := HST.out.below hg hB1
      clear hb1 hBy hr0 hr1 how
      by_cases hm : isMark ((b.drop 4).drop (20 * k))
      · rw [decide_eq_true hm]
        go_wp2_with fail
        go_step3
        refine ⟨⟨_, _, _, _, _, _, _, _, _, _, _, _, _, _, _, _, _, _, _, _, _, _, _, _, _, _, _, _, _, _, _, _, _, _, _, _, _, _, _, _, _, _, _, _, _, _, _, _, _, _, _, _, _, _, _, _, _, _, _, k, off, n, p, cv, rfl, HS1.out, fun _ => hm, fun h => absurd h (by omega), fun _ h => ent_mark h hm, by omega⟩, ?_⟩
        show _ < _
        simp only [ofMu]
        have hx4 : 0 < n + 1 := by omega
        exact hx4
      · rw [decide_eq_false hm]
        have hgl1 : g < w1.heap.size := by have := hB1.size; omega
        have hBy1 := HS1.out.2.2.1
        go_wp2_with fail
        refine (HBE.out off n k _ _ HNL.out (hBy1.below (ent_new0 w1 _) hgl1) (by simp; omega) (Row.new w1 2 [.int .i64 2])).mono ?_
        rintro e w2 ⟨rfl, hb2⟩
        have hB2 : Below w1.heap.size w1 w2 := (ent_new0 w1 _).trans (hb2.mono (by simp))
        have HS2 : Hid (OfSt b g w k off n p cv C w2) := HS1.out.below hg hB2
        clear hb2 hBy1 hgl1 HS1
        by_cases he : isEnt ((b.drop 4).drop (20 * k))
        · rw [decide_eq_true he]
          have h20 : 20 ≤ n := by rw [HNL.out]; exact he.1
          obtain ⟨-, hto1, hBy2, hr02, hr12, how2, hbl2⟩ := HS2.out
          have hs1 := hB1.size
          have hs2 := hB2.size
          have hgl2 : g < w2.heap.size := by omega
          have HR : Hid (Row w2 (w.heap.size + 1) 24 [.int .i64 C, .slice p k cv]) := hr12
          have HY : Hid (BytesIn w2 g off ((b.drop 4).drop (20 * k))) := hBy2
          have HO : Hid (OwnE w2 (w.heap.size + 2) (.slice p k cv) (readEs (b.drop 4) k)) := how2
          have HPC : Hid (∀ w', Calls Tryd.prog 45 #[.slice (some ⟨g, off, none⟩) n n, .int .i64 0, .int .i64 20] w' fun e w'' => e = .returned (.slice (some ⟨g, off, none⟩) 20 20) ∧ w' = w'') := piece_off g off _ _ 0 20 0 20 rfl rfl (by omega) h20 _ _ rfl rfl
          have HEO : Hid (∀ w', BytesIn w' g off (cutL ((b.drop 4).drop (20 * k)) 0 20) → g < w'.heap.size → Calls Tryd.prog 47 #[.slice (some ⟨g, off, none⟩) 20 20] w' fun e w'' => e = .returned (entV (readE (cutL ((b.drop 4).drop (20 * k)) 0 20))) ∧ Below w'.heap.size w' w'') := fun w' h1 h2 => entryOf_any _ g off w' (by rw [cutL_length _ _ _ he.1]) h1 h2
          have HCUT : Hid (∀ w', Below w2.heap.size w2 w' → BytesIn w' g off (cutL ((b.drop 4).drop (20 * k)) 0 20)) := fun w' h => (HY.out.below h hgl2).off 0 20 he.1 (by omega) _ rfl
          have hre : readE (cutL ((b.drop 4).drop (20 * k)) 0 20) = readE ((b.drop 4).drop (20 * k)) := readE_cut _
          rw [hre] at HEO
          have HNX : Hid (readEs (b.drop 4) (k + 1) = readEs (b.drop 4) k ++ [readE ((b.drop 4).drop (20 * k))]) := rfl
          have hto2 : EntsTo (b.drop 4) (k + 1) := entsTo_next hto1 he
          have HTO : Hid (EntsTo (b.drop 4) (k + 1)) := hto2
          have hkk : (readEs (b.drop 4) k).length ≤ 1000000 := by have h0 := hto2.1; rw [List.length_drop] at h0; rw [readEs_length]; omega
          have HPR : Hid (∀ w', Calls Tryd.prog 45 #[.slice (some ⟨g, off, none⟩) n n, .int .i64 20, .int .i64 (n : Int)] w' fun e w'' => e = .returned (.slice (some ⟨g, if n = 20 then off else off + 20, none⟩) (n - 20) (n - 20)) ∧ w' = w'') := fun w' => piece_any g off _ _ 20 _ w' h20 (Nat.le_refl _)
          have HEV : Hid (∃ E, readE ((b.drop 4).drop (20 * k)) = E) := ⟨_, rfl⟩
          obtain ⟨⟨ea, el, en, em, et⟩, hEV⟩ := HEV.out
          rw [hEV] at HEO HNX
          unfold entV at HEO
          simp only at HEO
          clear HEV hEV hre hr02 hr12 how2 hBy2 hto2 hto1
          go_wp2_with fail
          have hGN : (([(34, Is (.pointer (some ⟨w.heap.size + 1, 1, none⟩))), (35, Is (.slice p k cv)), (36, Is (.slice (some ⟨g, off, none⟩) n n)), (37, Is (.slice (some ⟨g, off, none⟩) 20 20)), (38, Is (.agg #[.int .i64 ea, .int .i64 el, .int .i64 en, .int .i64 em, .int .i64 et])), (39, fun x W' => ∃ gx, x = .slice (some ⟨gx, 0, none⟩) 1 1 ∧ Row W' gx 51 (entL ⟨ea, el, en, em, et⟩))] : List (Nat × (Value → World → Prop))).map (·.1)).Nodup := by simp
          refine wp_region_steady 6 (SlotG [(34, Is (.pointer (some ⟨w.heap.size + 1, 1, none⟩))), (35, Is (.slice p k cv)), (36, Is (.slice (some ⟨g, off, none⟩) n n)), (37, Is (.slice (some ⟨g, off, none⟩) 20 20)), (38, Is (.agg #[.int .i64 ea, .int .i64 el, .int .i64 en, .int .i64 em, .int .i64 et])), (39, fun x W' => ∃ gx, x = .slice (some ⟨gx, 0, none⟩) 1 1 ∧ Row W' gx 51 (entL ⟨ea, el, en, em, et⟩))]) (by kernel_rfl) (by kernel_rfl) (Stabs.all ⟨stab_is _, stab_is _, stab_is _, stab_is _, stab_is _, stab_ent _ _, trivial⟩) ?_ ?_
          · intro o ho
            simp only [List.take_succ_cons, List.take_zero, List.mem_cons, List.not_mem_nil, or_false] at ho
            rcases ho with rfl | rfl | rfl | rfl | rfl | rfl
            · intro a' w' hb ha hdep
              have d5 : a'.tmps.getD 5 undef = .pointer (some ⟨w.heap.size + 1, 0, none⟩) := ha.at 5 (by kernel_rfl)
              have hmk := fun (x : Value) (W : World) => SlotG.mk (x := x) (w := W) 0 rfl hGN
              clear hGN ha hdep
              go_simp
              exact ⟨_, rfl, Below.refl _ _, hmk _ _ rfl⟩
            · intro a' w' hb ha hdep
              have d34 : a'.tmps.getD 34 undef = .pointer (some ⟨w.heap.size + 1, 1, none⟩) := (hdep 34 (of_decide_eq_true (by kernel_rfl))).is 0 rfl
              have hmk := fun (x : Value) (W : World) => SlotG.mk (x := x) (w := W) 1 rfl hGN
              clear hGN ha hdep
              have c1 : w'.cell? ⟨w.heap.size + 1, 1, none⟩ = some (.slice p k cv) := (HR.out.below hb HR.out.lt).cell 1
              go_simp
              exact ⟨_, rfl, Below.refl _ _, hmk _ _ rfl⟩
            · intro a' w' hb ha hdep
              have d7 : a'.tmps.getD 7 undef = .slice (some ⟨g, off, none⟩) n n := ha.at 7 (by kernel_rfl)
              have hmk := fun (x : Value) (W : World) => SlotG.mk (x := x) (w := W) 2 rfl hGN
              clear hGN ha hdep
              go_simp
              exact ⟨_, rfl, Below.refl _ _, hmk _ _ rfl⟩
            · intro a' w' hb ha hdep
              have d36 : a'.tmps.getD 36 undef = .slice (some ⟨g, off, none⟩) n n := (hdep 36 (of_decide_eq_true (by kernel_rfl))).is 2 rfl
              have hmk := fun (x : Value) (W : World) => SlotG.mk (x := x) (w := W) 3 rfl hGN
              clear hGN ha hdep
              go_simp
              refine (HPC.out _).mono ?_
              rintro e w2 ⟨rfl, rfl⟩
              exact ⟨_, rfl, Below.refl _ _, hmk _ _ rfl⟩
            · intro a' w' hb ha hdep
              have d37 : a'.tmps.getD 37 undef = .slice (some ⟨g, off, none⟩) 20 20 := (hdep 37 (of_decide_eq_true (by kernel_rfl))).is 3 rfl
              have hmk := fun (x : Value) (W : World) => SlotG.mk (x := x) (w := W) 4 rfl hGN
              clear hGN ha hdep
              go_simp
              refine (HEO.out _ (HCUT.out _ hb) (by have := hb.size; omega)).mono ?_
              rintro e w2 ⟨rfl, hb2⟩
              exact ⟨_, rfl, hb2, hmk _ _ rfl⟩
            · intro a' w' hb ha hdep
              have d38 : a'.tmps.getD 38 undef = .agg #[.int .i64 ea, .int .i64 el, .int .i64 en, .int .i64 em, .int .i64 et] := (hdep 38 (of_decide_eq_true (by kernel_rfl))).is 4 rfl
              have hmk := fun (x : Value) (W : World) => SlotG.mk (x := x) (w := W) 5 rfl hGN
              clear hGN ha hdep
              rw [Array.getD_eq_getD_getElem?] at d38
              go_simp
              exact ⟨_, rfl, ent_new0 _ _, hmk _ _ ⟨_, rfl, Row.new w' 51 _⟩⟩
          · intro a' w' hb ha hG
            clear hGN
            have d35 : a'.tmps.getD 35 undef = .slice p k cv := (hG _ (List.mem_of_getElem? (i := 1) rfl) 35 rfl).is 1 rfl
            have D39 := (hG _ (List.mem_of_getElem? (i := 5) rfl) 39 rfl).get 5 rfl
            have d0 : a'.tmps.getD 0 undef = .slice (some ⟨g, 0, none⟩) b.length cap := ha.at 0 (by kernel_rfl)
            have d1 : a'.tmps.getD 1 undef = undef := ha.at 1 (by kernel_rfl)
            have d2 : a'.tmps.getD 2 undef = .pointer (some ⟨w.heap.size, 0, none⟩) := ha.at 2 (by kernel_rfl)
            have d3 : a'.tmps.getD 3 undef = .int .i64 0 := ha.at 3 (by kernel_rfl)
            have d4 : a'.tmps.getD 4 undef = .nilIface := ha.at 4 (by kernel_rfl)
            have d5 : a'.tmps.getD 5 undef = .pointer (some ⟨w.heap.size + 1, 0, none⟩) := ha.at 5 (by kernel_rfl)
            have d6 : a'.tmps.getD 6 undef = .int .i64 0 := ha.at 6 (by kernel_rfl)
            have d7 : a'.tmps.getD 7 undef = .slice (some ⟨g, off, none⟩) n n := ha.at 7 (by kernel_rfl)
            have e2 : a' = ⟨#[a'.tmps.getD 0 undef, a'.tmps.getD 1 undef, a'.tmps.getD 2 undef, a'.tmps.getD 3 undef, a'.tmps.getD 4 undef, a'.tmps.getD 5 undef, a'.tmps.getD 6 undef, a'.tmps.getD 7 undef, a'.tmps.getD 8 undef, a'.tmps.getD 9 undef, a'.tmps.getD 10 undef, a'.tmps.getD 11 undef, a'.tmps.getD 12 undef, a'.tmps.getD 13 undef, a'.tmps.getD 14 undef, a'.tmps.getD 15 undef, a'.tmps.getD 16 undef, a'.tmps.getD 17 undef, a'.tmps.getD 18 undef, a'.tmps.getD 19 undef, a'.tmps.getD 20 undef, a'.tmps.getD 21 undef, a'.tmps.getD 22 undef, a'.tmps.getD 23 undef, a'.tmps.getD 24 undef, a'.tmps.getD 25 undef, a'.tmps.getD 26 undef, a'.tmps.getD 27 undef, a'.tmps.getD 28 undef, a'.tmps.getD 29 undef, a'.tmps.getD 30 undef, a'.tmps.getD 31 undef, a'.tmps.getD 32 undef, a'.tmps.getD 33 undef, a'.tmps.getD 34 undef, a'.tmps.getD 35 undef, a'.tmps.getD 36 undef, a'.tmps.getD 37 undef, a'.tmps.getD 38 undef, a'.tmps.getD 39 undef, a'.tmps.getD 40 undef, a'.tmps.getD 41 undef, a'.tmps.getD 42 undef, a'.tmps.getD 43 undef, a'.tmps.getD 44 undef, a'.tmps.getD 45 undef, a'.tmps.getD 46 undef, a'.tmps.getD 47 undef, a'.tmps.getD 48 undef, a'.tmps.getD 49 undef, a'.tmps.getD 50 undef, a'.tmps.getD 51 undef, a'.tmps.getD 52 undef, a'.tmps.getD 53 undef, a'.tmps.getD 54 undef, a'.tmps.getD 55 undef, a'.tmps.getD 56 undef, a'.tmps.getD 57 undef, a'.tmps.getD 58 undef, a'.tmps.getD 59 undef, a'.tmps.getD 60 undef, a'.tmps.getD 61 undef, a'.tmps.getD 62 undef, a'.tmps.getD 63 undef, a'.tmps.getD 64 undef, a'.tmps.getD 65 undef, a'.tmps.getD 66 undef], []⟩ := by rw [← (show a'.defers = [] from ha.2.1)]; exact act_eq a' 67 ha.1
            rw [d35, d0, d1, d2, d3, d4, d5, d6, d7] at e2
            clear hG ha d35 d0 d1 d2 d3 d4 d5 d6 d7
            generalize a'.tmps.getD 8 undef = x8 at *
            generalize a'.tmps.getD 9 undef = x9 at *
            generalize a'.tmps.getD 10 undef = x10 at *
            generalize a'.tmps.getD 11 undef = x11 at *
            generalize a'.tmps.getD 12 undef = x12 at *
            generalize a'.tmps.getD 13 undef = x13 at *
            generalize a'.tmps.getD 14 undef = x14 at *
            generalize a'.tmps.getD 15 undef = x15 at *
            generalize a'.tmps.getD 16 undef = x16 at *
            generalize a'.tmps.getD 17 undef = x17 at *
            generalize a'.tmps.getD 18 undef = x18 at *
            generalize a'.tmps.getD 19 undef = x19 at *
            generalize a'.tmps.getD 20 undef = x20 at *
            generalize a'.tmps.getD 21 undef = x21 at *
            generalize a'.tmps.getD 22 undef = x22 at *
            generalize a'.tmps.getD 23 undef = x23 at *
            generalize a'.tmps.getD 24 undef = x24 at *
            generalize a'.tmps.getD 25 undef = x25 at *
            generalize a'.tmps.getD 26 undef = x26 at *
            generalize a'.tmps.getD 27 undef = x27 at *
            generalize a'.tmps.getD 28 undef = x28 at *
            generalize a'.tmps.getD 29 undef = x29 at *
            generalize a'.tmps.getD 30 undef = x30 at *
            generalize a'.tmps.getD 31 undef = x31 at *
            generalize a'.tmps.getD 32 undef = x32 at *
            generalize a'.tmps.getD 33 undef = x33 at *
            generalize a'.tmps.getD 34 undef = x34 at *
            generalize a'.tmps.getD 36 undef = x36 at *
            generalize a'.tmps.getD 37 undef = x37 at *
            generalize a'.tmps.getD 38 undef = x38 at *
            generalize a'.tmps.getD 39 undef = x39 at *
            generalize a'.tmps.getD 40 undef = x40 at *
            generalize a'.tmps.getD 41 undef = x41 at *
            generalize a'.tmps.getD 42 undef = x42 at *
            generalize a'.tmps.getD 43 undef = x43 at *
            generalize a'.tmps.getD 44 undef = x44 at *
            generalize a'.tmps.getD 45 undef = x45 at *
            generalize a'.tmps.getD 46 undef = x46 at *
            generalize a'.tmps.getD 47 undef = x47 at *
            generalize a'.tmps.getD 48 undef = x48 at *
            generalize a'.tmps.getD 49 undef = x49 at *
            generalize a'.tmps.getD 50 undef = x50 at *
            generalize a'.tmps.getD 51 undef = x51 at *
            generalize a'.tmps.getD 52 undef = x52 at *
            generalize a'.tmps.getD 53 undef = x53 at *
            generalize a'.tmps.getD 54 undef = x54 at *
            generalize a'.tmps.getD 55 undef = x55 at *
            generalize a'.tmps.getD 56 undef = x56 at *
            generalize a'.tmps.getD 57 undef = x57 at *
            generalize a'.tmps.getD 58 undef = x58 at *
            generalize a'.tmps.getD 59 undef = x59 at *
            generalize a'.tmps.getD 60 undef = x60 at *
            generalize a'.tmps.getD 61 undef = x61 at *
            generalize a'.tmps.getD 62 undef = x62 at *
            generalize a'.tmps.getD 63 undef = x63 at *
            generalize a'.tmps.getD 64 undef = x64 at *
            generalize a'.tmps.getD 65 undef = x65 at *
            generalize a'.tmps.getD 66 undef = x66 at *
            subst e2
            simp only [List.drop_succ_cons, List.drop_zero]
            obtain ⟨gx, rfl, hgx⟩ := D39
            have hs3 := hb.size
            have how3 := HO.out.below hb
            refine wpList_append_ent rfl (.tmp 35) (.tmp 39) rfl (w.heap.size + 2) _ (readEs (b.drop 4) k) rfl how3 gx 1 ⟨ea, el, en, em, et⟩ rfl hgx hkk (by omega) ?_
            intro v4 w4 hown4 hb4
            rw [← HNX.out] at hown4
            obtain ⟨p4, cv4, hv4, -⟩ := hown4.form
            rw [readEs_length] at hv4
            subst hv4
            obtain ⟨hBy4, hr04, hr14, hbl4⟩ := (HS2.out.below hg hb).grown hg hb4
            have c0 : w4.cell? ⟨w.heap.size + 1, 0, none⟩ = some (.int .i64 C) := hr14.cell 0
            have c1 : w4.cell? ⟨w.heap.size + 1, 1, none⟩ = some (.slice p k cv) := hr14.cell 1
            have f1 := hr14.frozen 1
            have HX : Hid _ := ofSt_next HNL.out h20 hg HTO.out hBy4 hr04 hr14 hown4 hbl4
            have HN4 : Hid (n - 20 < n) := by show _ < _; omega
            generalize (if n = 20 then off else off + 20) = off4 at *
            generalize n - 20 = n4 at *
            clear hBy4 hr04 hr14 hown4 hbl4 hgx how3 hb4 HO HY HR HEO HPC HS2 HCUT
            go_wp2_with fail
            refine (HPR.out _).mono ?_
            rintro e w5 ⟨rfl, rfl⟩
            go_wp2_with fail
            go_step3
            refine ⟨⟨_, _, _, _, _, _, _, _, _, _, _, _, _, _, _, _, _, _, _, _, _, _, _, _, _, _, _, _, _, _, _, _, _, _, _, _, _, _, _, _, _, _, _, _, _, _, _, _, _, _, _, _, _, _, _, _, _, _, _, k + 1, off4, n4, p4, cv4, rfl, HX.out, fun h => absurd h (by omega), fun h => absurd h (by omega), fun h => absurd rfl h, by omega⟩, ?_⟩
            show _ < _
            simp only [ofMu]
            have hx4 : n4 + 1 < n + 1 := by have := HN4.out; omega
            exact hx4
        · rw [decide_eq_false he]
          go_wp2_with fail
          go_step3
          refine ⟨⟨_, _, _, _, _, _, _, _, _, _, _, _, _, _, _, _, _, _, _, _, _, _, _, _, _, _, _, _, _, _, _, _, _, _, _, _, _, _, _, _, _, _, _, _, _, _, _, _, _, _, _, _, _, _, _, _, _, _, _, k, off, n, p, cv, rfl, HS2.out, fun h => absurd h (by omega), fun _ => hm, fun _ => he, by omega⟩, ?_⟩
          show _ < _
          simp only [ofMu]
          have hx4 : 0 < n + 1 := by omega
          exact hx4
    · refine ⟨_, rfl, ?_⟩
      have hgE : 1 < w.heap.size := World.block_lt_of_cell? w _ (hE.1 4 (by omega))
      have hgE2 : ¬ 1 = w.heap.size := by omega
      have hgE3 : ¬ w.heap.size = 1 := by omega
      obtain ⟨-, hto, -, hr0, hr1, how, hbl⟩ := HST.out
      have c0 : W.cell? ⟨w.heap.size, 0, none⟩ = some (.int .i64 0) := hr0.cell 0
      have c1 : W.cell? ⟨w.heap.size, 1, none⟩ = some (.slice none 0 0) := hr0.cell 1
      have f0 := hr0.frozen 0
      have f1 := hr0.frozen 1
      have e0 : W.cell? ⟨w.heap.size + 1, 0, none⟩ = some (.int .i64 C) := hr1.cell 0
      have e1 : W.cell? ⟨w.heap.size + 1, 1, none⟩ = some (.slice p k cv) := hr1.cell 1
      have cE : W.cell? ⟨1, 0, none⟩ = some (.iface 107 (.pointer (some (A 4)))) := HEW.out.1 4 (by omega)
      have hkk : k ≤ 8000 := by have h0 := hto.1; rw [List.length_drop] at h0; omega
      have HNo : Hid (¬ (n = 0 ∧ ripB C (readEs (b.drop 4) k) = true) → ripOfR b = none) := fun hr => by rw [HRE.out k hto (hne (by omega)) (hm2 rfl), ← HST.out.1, if_neg hr]
      have HYes : Hid (n = 0 ∧ ripB C (readEs (b.drop 4) k) = true → ripOfR b = some (C, readEs (b.drop 4) k, 0)) := fun hr => by rw [HRE.out k hto (hne (by omega)) (hm2 rfl), ← HST.out.1, if_pos hr]
      obtain ⟨p2, cv2, hv2, hEn⟩ := how.form
      rw [readEs_length] at hv2
      obtain ⟨rfl, -, rfl⟩ : p = p2 ∧ k = k ∧ cv = cv2 := by simpa using hv2
      have HRk : Hid (Calls Tryd.prog 49 #[.agg #[.int .i64 C, .slice p k cv]] W fun e w' => e = .returned (.bool (ripB C (readEs (b.drop 4) k))) ∧ Below W.heap.size W w') := HRR.out C p cv _ k W (readEs_length _ _) hkk hEn
      have HOW : Hid (OwnE W (w.heap.size + 2) (.slice p k cv) (readEs (b.drop 4) k)) := how
      have HRows : Hid (Row W w.heap.size 24 [.int .i64 0, .slice none 0 0] ∧ Row W (w.heap.size + 1) 24 [.int .i64 C, .slice p k cv]) := ⟨hr0, hr1⟩
      clear HST how hr0 hr1 hto hEn hv2 HRM HRE HRR HBG HBE hh hB hE
      generalize readEs (b.drop 4) k = es at *
      by_cases h0 : n = 0
      · subst h0
        by_cases hrb : ripB C es = true
        · rw [hrb] at HRk
          have HY0 : Hid (ripOfR b = some (C, es, 0)) := HYes.out ⟨rfl, hrb⟩
          clear HNo HYes hrb
          go_wp2_with fail
          refine (HRk.out).mono ?_
          rintro e w1 ⟨rfl, hb1⟩
          have q0 := HRows.out.1.below hb1 HRows.out.1.lt
          have q1 := HRows.out.2.below hb1 HRows.out.2.lt
          have ho1 := HOW.out.below hb1
          have hB1 : Below w.heap.size w w1 := hbl.trans (hb1.mono hbl.size)
          clear c0 c1 f0 f1 e0 e1 cE
          have c0 : w1.cell? ⟨w.heap.size, 0, none⟩ = some (.int .i64 0) := q0.cell 0
          have c1 : w1.cell? ⟨w.heap.size, 1, none⟩ = some (.slice none 0 0) := q0.cell 1
          have f0 := q0.frozen 0
          have f1 := q0.frozen 1
          have e0 : w1.cell? ⟨w.heap.size + 1, 0, none⟩ = some (.int .i64 C) := q1.cell 0
          have e1 : w1.cell? ⟨w.heap.size + 1, 1, none⟩ = some (.slice p k cv) := q1.cell 1
          have hres : Row ((w1.setCell ⟨w.heap.size, 0, none⟩ (.int .i64 C)).setCell ⟨w.heap.size, 1, none⟩ (.slice p k cv)) w.heap.size 24 [.int .i64 C, .slice p k cv] := (q0.set 0 _).set 1 _
          have hos : OwnE ((w1.setCell ⟨w.heap.size, 0, none⟩ (.int .i64 C)).setCell ⟨w.heap.size, 1, none⟩ (.slice p k cv)) w.heap.size (.slice p k cv) es := ((ho1.set ⟨w.heap.size, 0, none⟩ (by show w.heap.size < w.heap.size + 2; omega) _).set ⟨w.heap.size, 1, none⟩ (by show w.heap.size < w.heap.size + 2; omega) _).mono (by omega)
          have hbs : Below w.heap.size w ((w1.setCell ⟨w.heap.size, 0, none⟩ (.int .i64 C)).setCell ⟨w.heap.size, 1, none⟩ (.slice p k cv)) := (hB1.setCell (p := ⟨w.heap.size, 0, none⟩) (Nat.le_refl _) _).setCell (p := ⟨w.heap.size, 1, none⟩) (Nat.le_refl _) _
          have HZ : Hid _ := And.intro hres (And.intro hos hbs)
          clear hres hos hbs q0 q1 ho1 hB1 hb1 HOW HRows HRk
          go_wp2_with fail
          have HZ2 := HZ.out
          clear HZ c0 c1 f0 f1 e0 e1
          generalize ((w1.setCell ⟨w.heap.size, 0, none⟩ (.int .i64 C)).setCell ⟨w.heap.size, 1, none⟩ (.slice p k cv)) = Z at *
          obtain ⟨h1, h2, h3⟩ := HZ2
          have r0 : Z.cell? ⟨w.heap.size, 0, none⟩ = some (.int .i64 C) := h1.cell 0
          have r1 : Z.cell? ⟨w.heap.size, 1, none⟩ = some (.slice p k cv) := h1.cell 1
          simp only [Exit.jumps]
          refine bodyPost_ret (v := .tuple #[.agg #[.int .i64 C, .slice p k cv], .int .i64 0, .nilIface]) (by simp [results, Tryd.results29, go_sem, r0, r1]) rfl (OfOut.yes HY0.out (.slice p k cv) rfl h2 h3)
        · rw [show ripB C es = false by simpa using hrb] at HRk
          have HN0 : Hid (ripOfR b = none) := HNo.out (fun h => hrb h.2)
          clear HNo HYes hrb
          go_wp2_with fail
          refine (HRk.out).mono ?_
          rintro e w1 ⟨rfl, hb1⟩
          have q0 := HRows.out.1.below hb1 HRows.out.1.lt
          have hB1 : Below w.heap.size w w1 := hbl.trans (hb1.mono hbl.size)
          have HE1 := HEW.out.below hb1
          clear c0 c1 f0 f1 e0 e1 cE
          have c0 : w1.cell? ⟨w.heap.size, 0, none⟩ = some (.int .i64 0) := q0.cell 0
          have c1 : w1.cell? ⟨w.heap.size, 1, none⟩ = some (.slice none 0 0) := q0.cell 1
          have f0 := q0.frozen 0
          have f1 := q0.frozen 1
          have cE : w1.cell? ⟨1, 0, none⟩ = some (.iface 107 (.pointer (some (A 4)))) := HE1.1 4 (by omega)
          have HQ0 : Hid (Row w1 w.heap.size 24 [.int .i64 0, .slice none 0 0]) := q0
          clear q0 hb1 HE1 HRows HOW HRk
          go_wp2_with fail
          go_region
          all_goals have g0 : (w1.setCell ⟨w.heap.size, 0, none⟩ (.int .i64 0)).cell? ⟨w.heap.size, 0, none⟩ = some (.int .i64 0) := (HQ0.out.set 0 _).cell 0
          all_goals have g1 : ((w1.setCell ⟨w.heap.size, 0, none⟩ (.int .i64 0)).setCell ⟨w.heap.size, 1, none⟩ (.slice none 0 0)).cell? ⟨w.heap.size, 1, none⟩ = some (.slice none 0 0) := ((HQ0.out.set 0 _).set 1 _).cell 1
          all_goals (try go_wp2)
          all_goals (simp only [Exit.jumps])
          all_goals (refine bodyPost_ret (v := .tuple #[.agg #[.int .i64 0, .slice none 0 0], .int .i64 0, .iface 107 (.pointer (some (A 4)))]) (by simp [results, Tryd.results29, go_sem, g0, g1]) rfl (OfOut.no HN0.out rfl ?_))
          all_goals exact bel_two hB1
      · have hpos : 0 < n := by omega
        have HN0 : Hid (ripOfR b = none) := HNo.out (fun h => h0 h.1)
        have HQ0 : Hid (Row W w.heap.size 24 [.int .i64 0, .slice none 0 0]) := HRows.out.1
        clear HNo HYes h0 HRk HOW HRows
        go_wp2_with fail
        go_region
        all_goals have g0 : (W.setCell ⟨w.heap.size, 0, none⟩ (.int .i64 0)).cell? ⟨w.heap.size, 0, none⟩ = some (.int .i64 0) := (HQ0.out.set 0 _).cell 0
        all_goals have g1 : ((W.setCell ⟨w.heap.size, 0, none⟩ (.int .i64 0)).setCell ⟨w.heap.size, 1, none⟩ (.slice none 0 0)).cell? ⟨w.heap.size, 1, none⟩ = some (.slice none 0 0) := ((HQ0.out.set 0 _).set 1 _).cell 1
        all_goals (try go_wp2)
        all_goals (simp only [Exit.jumps])
        all_goals (refine bodyPost_ret (v := .tuple #[.agg #[.int .i64 0, .slice none 0 0], .int .i64 0, .iface 107 (.pointer (some (A 4)))]) (by simp [results, Tryd.results29, go_sem, g0, g1]) rfl (OfOut.no HN0.out rfl ?_))
        all_goals exact bel_two hbl
end Go.Proofs.YtkkhjeigndcmaaaDoor
