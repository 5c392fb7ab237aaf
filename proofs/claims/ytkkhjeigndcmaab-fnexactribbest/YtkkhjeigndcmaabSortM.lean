/- Nets in a row of memory, and their order, in plain lists. (Written by gen_ins.py.) -/
import Derived.Test.YtkkhjeigndcmaabSortI
namespace Go.Proofs.Ytkkhjeigndcmaab
open Go.RowKit Go.Sort

abbrev NP := Int × Int
def flatN (ds : List NP) : List Value := ds.flatMap fun x => [.int .i64 x.1, .int .i64 x.2]
theorem flatN_length (ds : List NP) : (flatN ds).length = 2 * ds.length := by
  induction ds with
  | nil => rfl
  | cons x ds ih => simp only [flatN, List.flatMap_cons, List.length_append, List.length_cons, List.length_nil] at ih ⊢; omega
theorem flatN_get (ds : List NP) (i : Nat) (hi : i < ds.length) : (flatN ds)[i * 2]? = some (.int .i64 ds[i].1) ∧ (flatN ds)[i * 2 + 1]? = some (.int .i64 ds[i].2) := by
  induction ds generalizing i with
  | nil => simp at hi
  | cons x ds ih =>
    match i with
    | 0 => exact ⟨rfl, rfl⟩
    | i + 1 =>
      have := ih i (by simpa using hi)
      have e : flatN (x :: ds) = .int .i64 x.1 :: .int .i64 x.2 :: flatN ds := rfl
      rw [e, show (i + 1) * 2 = i * 2 + 1 + 1 by omega]
      exact this
theorem flatN_set (ds : List NP) (i : Nat) (hi : i < ds.length) (y : NP) : ((flatN ds).set (i * 2) (.int .i64 y.1)).set (i * 2 + 1) (.int .i64 y.2) = flatN (ds.set i y) := by
  induction ds generalizing i with
  | nil => simp at hi
  | cons x ds ih =>
    have e : ∀ (z : NP) zs, flatN (z :: zs) = .int .i64 z.1 :: .int .i64 z.2 :: flatN zs := fun _ _ => rfl
    match i with
    | 0 => rfl
    | i + 1 =>
      rw [List.set_cons_succ, e, e, show (i + 1) * 2 = i * 2 + 1 + 1 by omega, show i * 2 + 1 + 1 + 1 = (i * 2 + 1) + 1 + 1 by omega]
      simp only [List.set_cons_succ]
      rw [ih i (by simpa using hi)]
/-- Block g begins with the nets ds. -/
def NetsAt (w : World) (g : Nat) (ds : List NP) : Prop := ∃ cur, Row w g 28 cur ∧ cur.take (2 * ds.length) = flatN ds
theorem NetsAt.lt {w : World} {g : Nat} {ds : List NP} (h : NetsAt w g ds) : g < w.heap.size := by
  obtain ⟨cur, h, _⟩ := h
  exact h.lt
theorem NetsAt.below {B : Nat} {w w' : World} {g : Nat} {ds : List NP} (h : NetsAt w g ds) (hb : Below B w w') (hg : g < B) : NetsAt w' g ds := by
  obtain ⟨cur, h, e⟩ := h
  exact ⟨cur, h.below hb hg, e⟩
theorem NetsAt.cell {w : World} {g : Nat} {ds : List NP} (h : NetsAt w g ds) (i : Nat) (hi : i < ds.length) : w.cell? ⟨g, i * 2, none⟩ = some (.int .i64 ds[i].1) ∧ w.cell? ⟨g, i * 2 + 1, none⟩ = some (.int .i64 ds[i].2) ∧ w.frozen? ⟨g, i * 2, none⟩ = false ∧ w.frozen? ⟨g, i * 2 + 1, none⟩ = false := by
  obtain ⟨cur, h, e⟩ := h
  have hk : ∀ k, k < 2 * ds.length → cur[k]? = (flatN ds)[k]? := fun k hk => by rw [← e, List.getElem?_take, if_pos hk]
  obtain ⟨h0, h1⟩ := flatN_get ds i hi
  exact ⟨by rw [h.cell, hk _ (by omega)]; exact h0, by rw [h.cell, hk _ (by omega)]; exact h1, h.frozen _, h.frozen _⟩
theorem NetsAt.set {w : World} {g : Nat} {ds : List NP} (h : NetsAt w g ds) (i : Nat) (hi : i < ds.length) (y : NP) : NetsAt ((w.setCell ⟨g, i * 2, none⟩ (.int .i64 y.1)).setCell ⟨g, i * 2 + 1, none⟩ (.int .i64 y.2)) g (ds.set i y) := by
  obtain ⟨cur, h, e⟩ := h
  refine ⟨_, (h.set (i * 2) _).set (i * 2 + 1) _, ?_⟩
  rw [List.length_set, List.take_set, List.take_set, e]
  exact flatN_set ds i hi y
/-- Two of them change places. -/
def swapN (ds : List NP) (j : Nat) : List NP := (ds.set j ds[j - 1]!).set (j - 1) ds[j]!
theorem swapN_length (ds : List NP) (j : Nat) : (swapN ds j).length = ds.length := by simp [swapN]
theorem swapN_get (ds : List NP) (j : Nat) (h0 : 0 < j) (hj : j < ds.length) (k : Nat) (hk : k < ds.length) : (swapN ds j)[k]! = if k = j then ds[j - 1]! else if k = j - 1 then ds[j]! else ds[k]! := by
  unfold swapN
  have hk' : k < ((ds.set j ds[j - 1]!).set (j - 1) ds[j]!).length := by simp; exact hk
  rw [getElem!_pos _ k hk', getElem!_pos ds k hk, List.getElem_set, List.getElem_set]
  by_cases h1 : k = j
  · subst h1
    rw [if_neg (by omega), if_pos rfl, if_pos rfl]
  · rw [if_neg h1]
    by_cases h2 : k = j - 1
    · subst h2; rw [if_pos rfl, if_pos rfl]
    · rw [if_neg (fun e => h2 e.symm), if_neg (fun e => h1 e.symm), if_neg h2]
theorem swapN_perm (ds : List NP) (j : Nat) (h0 : 0 < j) (hj : j < ds.length) : (swapN ds j).Perm ds := by
  unfold swapN
  rw [getElem!_pos ds (j - 1) (by omega), getElem!_pos ds j hj]
  exact List.set_set_perm hj (by omega)
/-- x comes ahead of y. -/
def ahead (x y : NP) : Bool := decide (cmpN x y < 0)
theorem ahead_iff (x y : NP) : ahead x y = lessB x.1 x.2 y.1 y.2 := by
  unfold ahead cmpN
  cases lessB x.1 x.2 y.1 y.2 <;> cases lessB y.1 y.2 x.1 x.2 <;> rfl
theorem ahead_asym {x y : NP} (h : ahead x y = true) : ahead y x = false := by
  rw [ahead_iff] at h ⊢
  unfold lessB at h ⊢
  simp only [Bool.and_eq_true, Bool.or_eq_true, decide_eq_true_eq, beq_iff_eq] at h
  obtain ⟨_, _, h⟩ := h
  have : (decide (y.1 < x.1) || (y.1 == x.1 && decide (y.2 < x.2))) = false := by
    rw [Bool.or_eq_false_iff, Bool.and_eq_false_iff]
    simp only [decide_eq_false_iff_not, beq_eq_false_iff_ne, ne_eq]
    omega
  rw [this]; simp
/-- In order up to k. -/
def Risen (ds : List NP) (k : Nat) : Prop := ∀ p, p + 1 < k → ahead ds[p + 1]! ds[p]! = false
/-- In order up to i, but for the one at j on its way. -/
def Going (ds : List NP) (i j : Nat) : Prop := j ≤ i ∧ (∀ p, p + 1 ≤ i → p + 1 ≠ j → ahead ds[p + 1]! ds[p]! = false) ∧ (0 < j → j < i → ahead ds[j + 1]! ds[j - 1]! = false)
theorem going_first {ds : List NP} {i : Nat} (h : Risen ds i) : Going ds i i := ⟨Nat.le_refl _, fun p hp hne => h p (by omega), fun _ h => absurd h (by omega)⟩
theorem going_end {ds : List NP} {i j : Nat} (h : Going ds i j) (he : j = 0 ∨ ahead ds[j]! ds[j - 1]! = false) : Risen ds (i + 1) := by
  intro p hp
  by_cases hpj : p + 1 = j
  · subst hpj
    rcases he with he | he
    · omega
    · simpa using he
  · exact h.2.1 p (by omega) hpj
theorem going_next {ds : List NP} {i j : Nat} (hi : i < ds.length) (h0 : 0 < j) (h : Going ds i j) (ha : ahead ds[j]! ds[j - 1]! = true) : Going (swapN ds j) i (j - 1) := by
  obtain ⟨hj, h1, h2⟩ := h
  have g := fun k (hk : k < ds.length) => swapN_get ds j h0 (by omega) k hk
  refine ⟨by omega, fun p hp hne => ?_, fun hj1 _ => ?_⟩
  · rw [g (p + 1) (by omega), g p (by omega)]
    by_cases e1 : p + 1 = j
    · rw [if_pos e1, if_neg (by omega), if_pos (by omega)]
      exact ahead_asym ha
    · rw [if_neg e1, if_neg hne]
      by_cases e2 : p = j
      · subst e2
        rw [if_pos rfl]
        exact h2 h0 (by omega)
      · rw [if_neg e2]
        by_cases e3 : p = j - 1
        · omega
        · rw [if_neg e3]
          exact h1 p hp e1
  · rw [show j - 1 + 1 = j by omega, g j (by omega), g (j - 1 - 1) (by omega), if_pos rfl, if_neg (by omega), if_neg (by omega)]
    have := h1 (j - 1 - 1) (by omega) (by omega)
    rwa [show j - 1 - 1 + 1 = j - 1 by omega] at this
end Go.Proofs.Ytkkhjeigndcmaab
