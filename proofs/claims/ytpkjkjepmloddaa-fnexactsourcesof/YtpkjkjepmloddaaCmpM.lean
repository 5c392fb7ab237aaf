/- Of a list in order each number once, in plain lists. (Written by gen_cmp.py.) -/
import Derived.Test.YtpkjkjepmloddaaSrtM
namespace Go.Proofs.Ytpkjkjepmloddaa
open Go.RowKit Go.Sort

/-- The first i numbers of ds are told in the first k places of cur, each once. -/
structure PackJ (ds cur : List Int) (i k : Nat) : Prop where
  len : cur.length = ds.length
  k1 : 1 ≤ k
  ki : k < i
  il : i ≤ ds.length
  rest : ∀ j, i - 1 ≤ j → j < ds.length → cur[j]! = ds[j]!
  rise : ∀ p, p + 1 < k → cur[p]! < cur[p + 1]!
  last : cur[k - 1]! = ds[i - 1]!
  mem : ∀ x, (∃ p, p < k ∧ cur[p]! = x) ↔ (∃ p, p < i ∧ ds[p]! = x)
theorem packJ_first {ds : List Int} {k : Nat} (h1 : 1 ≤ k) (hk : k < ds.length) (hr : ∀ p, p + 1 < k → ds[p]! < ds[p + 1]!) (he : ds[k]! = ds[k - 1]!) : PackJ ds ds (k + 1) k where
  len := rfl
  k1 := h1
  ki := by omega
  il := by omega
  rest := fun _ _ _ => rfl
  rise := hr
  last := by rw [show k + 1 - 1 = k by omega, he]
  mem := fun x => ⟨fun ⟨p, hp, e⟩ => ⟨p, by omega, e⟩, fun ⟨p, hp, e⟩ => by
    by_cases h : p = k
    · exact ⟨k - 1, by omega, by rw [← he, ← h]; exact e⟩
    · exact ⟨p, by omega, e⟩⟩
theorem set_getJ (cur : List Int) (k j : Nat) (y : Int) (hj : j < cur.length) : (cur.set k y)[j]! = if k = j then y else cur[j]! := by
  rw [getElem!_pos _ j (by simpa using hj), getElem!_pos cur j hj, List.getElem_set]
theorem PackJ.skip {ds cur : List Int} {i k : Nat} (h : PackJ ds cur i k) (hi : i < ds.length) (he : ds[i]! = ds[i - 1]!) : PackJ ds cur (i + 1) k where
  len := h.len
  k1 := h.k1
  ki := by have := h.ki; omega
  il := hi
  rest := fun j hj hl => h.rest j (by omega) hl
  rise := h.rise
  last := by rw [show i + 1 - 1 = i by omega, he]; exact h.last
  mem := fun x => (h.mem x).trans ⟨fun ⟨p, hp, e⟩ => ⟨p, by omega, e⟩, fun ⟨p, hp, e⟩ => by
    by_cases hpi : p = i
    · exact ⟨i - 1, by have := h.ki; omega, by rw [← he, ← hpi]; exact e⟩
    · exact ⟨p, by omega, e⟩⟩
theorem PackJ.keep {ds cur : List Int} {i k : Nat} (h : PackJ ds cur i k) (hs : RisenJ ds ds.length) (hi : i < ds.length) (hne : ds[i]! ≠ ds[i - 1]!) : PackJ ds (cur.set k ds[i]!) (i + 1) (k + 1) := by
  have hk := h.ki
  have hk1 := h.k1
  have hlen := h.len
  have hle : ds[i - 1]! ≤ ds[i]! := by have := hs (i - 1) (by omega); rwa [show i - 1 + 1 = i by omega] at this
  have g := fun j (hj : j < ds.length) => set_getJ cur k j ds[i]! (by omega)
  refine ⟨by rw [List.length_set]; exact hlen, by omega, by omega, hi, fun j hj hl => ?_, fun p hp => ?_, ?_, fun x => ?_⟩
  · rw [g j hl, if_neg (by omega)]
    exact h.rest j (by omega) hl
  · rw [g p (by omega), g (p + 1) (by omega), if_neg (by omega)]
    by_cases e : k = p + 1
    · subst e
      rw [if_pos rfl]
      have h2 := h.last
      rw [show p + 1 - 1 = p by omega] at h2
      rw [h2]
      omega
    · rw [if_neg e]
      exact h.rise p (by omega)
  · rw [show k + 1 - 1 = k by omega, show i + 1 - 1 = i by omega, g k (by omega), if_pos rfl]
  · constructor
    · rintro ⟨p, hp, e⟩
      rw [g p (by omega)] at e
      by_cases hkp : k = p
      · rw [if_pos hkp] at e
        exact ⟨i, by omega, e⟩
      · rw [if_neg hkp] at e
        obtain ⟨q, hq, e2⟩ := (h.mem x).1 ⟨p, by omega, e⟩
        exact ⟨q, by omega, e2⟩
    · rintro ⟨p, hp, e⟩
      by_cases hpi : p = i
      · subst hpi
        exact ⟨k, by omega, by rw [g k (by omega), if_pos rfl]; exact e⟩
      · obtain ⟨q, hq, e2⟩ := (h.mem x).2 ⟨p, by omega, e⟩
        exact ⟨q, by omega, by rw [g q (by omega), if_neg (by omega)]; exact e2⟩
/-- Each number of ds, once, in order. -/
def OnceJ (ds out : List Int) : Prop := (∀ p, p + 1 < out.length → out[p]! < out[p + 1]!) ∧ ∀ x, x ∈ out ↔ x ∈ ds
theorem mem_bang (l : List Int) (x : Int) : x ∈ l ↔ ∃ p, p < l.length ∧ l[p]! = x := by
  rw [List.mem_iff_getElem]
  constructor
  · rintro ⟨p, hp, e⟩
    exact ⟨p, hp, by rw [getElem!_pos l p hp]; exact e⟩
  · rintro ⟨p, hp, e⟩
    exact ⟨p, hp, by rw [getElem!_pos l p hp] at e; exact e⟩
theorem take_bang (l : List Int) (k p : Nat) (hp : p < k) (hl : p < l.length) : (l.take k)[p]! = l[p]! := by
  rw [getElem!_pos _ p (by rw [List.length_take]; omega), getElem!_pos l p hl, List.getElem_take]
theorem PackJ.done {ds cur : List Int} {k : Nat} (h : PackJ ds cur ds.length k) : OnceJ ds (cur.take k) := by
  have hk := h.ki
  have hlen := h.len
  have hl : (cur.take k).length = k := by rw [List.length_take]; omega
  refine ⟨fun p hp => ?_, fun x => ?_⟩
  · rw [hl] at hp
    rw [take_bang cur k p (by omega) (by omega), take_bang cur k (p + 1) hp (by omega)]
    exact h.rise p hp
  · rw [mem_bang, mem_bang, hl, ← h.mem x]
    exact ⟨fun ⟨p, hp, e⟩ => ⟨p, hp, by rwa [take_bang cur k p hp (by omega)] at e⟩, fun ⟨p, hp, e⟩ => ⟨p, hp, by rwa [take_bang cur k p hp (by omega)]⟩⟩
theorem onceJ_self {ds : List Int} (h : ∀ p, p + 1 < ds.length → ds[p]! < ds[p + 1]!) : OnceJ ds ds := ⟨h, fun _ => Iff.rfl⟩
theorem rise_pair : ∀ (l : List Int), (∀ p, p + 1 < l.length → l[p]! < l[p + 1]!) → l.Pairwise (· < ·)
  | [], _ => List.Pairwise.nil
  | [x], _ => by simp
  | x :: y :: l, h => by
    have ih := rise_pair (y :: l) (fun p hp => by have := h (p + 1) (by simpa using hp); simpa using this)
    refine List.pairwise_cons.2 ⟨fun z hz => ?_, ih⟩
    have h0 : x < y := by have := h 0 (by simp); simpa using this
    rcases List.mem_cons.1 hz with rfl | hz
    · exact h0
    · exact Int.lt_trans h0 ((List.pairwise_cons.1 ih).1 z hz)
theorem pair_ext : ∀ (a b : List Int), a.Pairwise (· < ·) → b.Pairwise (· < ·) → (∀ x, x ∈ a ↔ x ∈ b) → a = b
  | [], [], _, _, _ => rfl
  | [], y :: b, _, _, h => absurd ((h y).2 (by simp)) (by simp)
  | x :: a, [], _, _, h => absurd ((h x).1 (by simp)) (by simp)
  | x :: a, y :: b, ha, hb, h => by
    obtain ⟨ha1, ha2⟩ := List.pairwise_cons.1 ha
    obtain ⟨hb1, hb2⟩ := List.pairwise_cons.1 hb
    have e : x = y := by
      rcases List.mem_cons.1 ((h x).1 (by simp)) with e | e
      · exact e
      · rcases List.mem_cons.1 ((h y).2 (by simp)) with e2 | e2
        · exact e2.symm
        · have := hb1 x e; have := ha1 y e2; omega
    subst e
    rw [pair_ext a b ha2 hb2 (fun z => ⟨fun hz => by
      rcases List.mem_cons.1 ((h z).1 (by simp [hz])) with e | e
      · have := ha1 z hz; omega
      · exact e, fun hz => by
      rcases List.mem_cons.1 ((h z).2 (by simp [hz])) with e | e
      · have := hb1 z hz; omega
      · exact e⟩)]
end Go.Proofs.Ytpkjkjepmloddaa
