/- Whole numbers in a row of memory, and their order, in plain lists. (Written by gen_srt.py.) -/
import Derived.Test.YtpkjkjepmloddaaRowV
import Derived.Lib.QuietBelow
namespace Go.Proofs.Ytpkjkjepmloddaa
open Go.RowKit Go.Sort

def flatJ (ds : List Int) : List Value := ds.map fun x => .int .i64 x
theorem flatJ_length (ds : List Int) : (flatJ ds).length = ds.length := by simp [flatJ]
theorem flatJ_get (ds : List Int) (i : Nat) (hi : i < ds.length) : (flatJ ds)[i]? = some (.int .i64 ds[i]) := by simp [flatJ, hi]
theorem flatJ_set (ds : List Int) (i : Nat) (y : Int) : (flatJ ds).set i (.int .i64 y) = flatJ (ds.set i y) := by simp [flatJ, List.map_set]
theorem flatJ_one (ds : List Int) : ∀ u ∈ flatJ ds, u.oneCell' = true := by
  intro u hu
  simp only [flatJ, List.mem_map] at hu
  obtain ⟨x, _, rfl⟩ := hu
  rfl
/-- Block g, of c cells, begins with the numbers ds. -/
def IntsAt (w : World) (g c : Nat) (ds : List Int) : Prop := ∃ cur, Row w g 2 cur ∧ cur.take ds.length = flatJ ds ∧ cur.length = c
theorem IntsAt.lt {w : World} {g c : Nat} {ds : List Int} (h : IntsAt w g c ds) : g < w.heap.size := by
  obtain ⟨cur, h, _⟩ := h
  exact h.lt
theorem IntsAt.below {B : Nat} {w w' : World} {g c : Nat} {ds : List Int} (h : IntsAt w g c ds) (hb : Below B w w') (hg : g < B) : IntsAt w' g c ds := by
  obtain ⟨cur, h, e⟩ := h
  exact ⟨cur, h.below hb hg, e⟩
theorem IntsAt.le {w : World} {g c : Nat} {ds : List Int} (h : IntsAt w g c ds) : ds.length ≤ c := by
  obtain ⟨cur, h, e, rfl⟩ := h
  have := congrArg List.length e
  rw [flatJ_length, List.length_take] at this
  omega
theorem IntsAt.cell {w : World} {g c : Nat} {ds : List Int} (h : IntsAt w g c ds) (i : Nat) (hi : i < ds.length) : w.cell? ⟨g, i, none⟩ = some (.int .i64 ds[i]) := by
  obtain ⟨cur, h, e, _⟩ := h
  have hk : cur[i]? = (flatJ ds)[i]? := by rw [← e, List.getElem?_take, if_pos hi]
  rw [h.cell, hk]
  exact flatJ_get ds i hi
theorem IntsAt.frozen {w : World} {g c : Nat} {ds : List Int} (h : IntsAt w g c ds) (i : Nat) : w.frozen? ⟨g, i, none⟩ = false := by
  obtain ⟨cur, h, e, _⟩ := h
  exact h.frozen _
theorem IntsAt.set {w : World} {g c : Nat} {ds : List Int} (h : IntsAt w g c ds) (i : Nat) (y : Int) : IntsAt (w.setCell ⟨g, i, none⟩ (.int .i64 y)) g c (ds.set i y) := by
  obtain ⟨cur, h, e, hl⟩ := h
  refine ⟨_, h.set i _, ?_, by rw [List.length_set]; exact hl⟩
  rw [List.length_set, List.take_set, e]
  exact flatJ_set ds i y
/-- Two of them change places. -/
def swapJ (ds : List Int) (j : Nat) : List Int := (ds.set j ds[j - 1]!).set (j - 1) ds[j]!
theorem swapJ_length (ds : List Int) (j : Nat) : (swapJ ds j).length = ds.length := by simp [swapJ]
theorem swapJ_get (ds : List Int) (j : Nat) (h0 : 0 < j) (hj : j < ds.length) (k : Nat) (hk : k < ds.length) : (swapJ ds j)[k]! = if k = j then ds[j - 1]! else if k = j - 1 then ds[j]! else ds[k]! := by
  unfold swapJ
  have hk' : k < ((ds.set j ds[j - 1]!).set (j - 1) ds[j]!).length := by simp; exact hk
  rw [getElem!_pos _ k hk', getElem!_pos ds k hk, List.getElem_set, List.getElem_set]
  by_cases h1 : k = j
  · subst h1
    rw [if_neg (by omega), if_pos rfl, if_pos rfl]
  · rw [if_neg h1]
    by_cases h2 : k = j - 1
    · subst h2; rw [if_pos rfl, if_pos rfl]
    · rw [if_neg (fun e => h2 e.symm), if_neg (fun e => h1 e.symm), if_neg h2]
theorem swapJ_perm (ds : List Int) (j : Nat) (h0 : 0 < j) (hj : j < ds.length) : (swapJ ds j).Perm ds := by
  unfold swapJ
  rw [getElem!_pos ds (j - 1) (by omega), getElem!_pos ds j hj]
  exact List.set_set_perm hj (by omega)
/-- In order up to k. -/
def RisenJ (ds : List Int) (k : Nat) : Prop := ∀ p, p + 1 < k → ds[p]! ≤ ds[p + 1]!
/-- In order up to i, but for the one at j on its way. -/
def GoingJ (ds : List Int) (i j : Nat) : Prop := j ≤ i ∧ (∀ p, p + 1 ≤ i → p + 1 ≠ j → ds[p]! ≤ ds[p + 1]!) ∧ (0 < j → j < i → ds[j - 1]! ≤ ds[j + 1]!)
theorem goingJ_first {ds : List Int} {i : Nat} (h : RisenJ ds i) : GoingJ ds i i := ⟨Nat.le_refl _, fun p hp hne => h p (by omega), fun _ h => absurd h (by omega)⟩
theorem goingJ_end {ds : List Int} {i j : Nat} (h : GoingJ ds i j) (he : j = 0 ∨ ds[j - 1]! ≤ ds[j]!) : RisenJ ds (i + 1) := by
  intro p hp
  by_cases hpj : p + 1 = j
  · subst hpj
    rcases he with he | he
    · omega
    · simpa using he
  · exact h.2.1 p (by omega) hpj
theorem goingJ_next {ds : List Int} {i j : Nat} (hi : i < ds.length) (h0 : 0 < j) (h : GoingJ ds i j) (ha : ds[j]! < ds[j - 1]!) : GoingJ (swapJ ds j) i (j - 1) := by
  obtain ⟨hj, h1, h2⟩ := h
  have g := fun k (hk : k < ds.length) => swapJ_get ds j h0 (by omega) k hk
  refine ⟨by omega, fun p hp hne => ?_, fun hj1 _ => ?_⟩
  · rw [g (p + 1) (by omega), g p (by omega)]
    by_cases e1 : p + 1 = j
    · rw [if_pos e1, if_neg (by omega), if_pos (by omega)]
      omega
    · rw [if_neg e1, if_neg hne]
      by_cases e2 : p = j
      · subst e2
        rw [if_pos rfl]
        exact h2 h0 (by omega)
      · rw [if_neg e2]
        by_cases e3 : p = j - 1
        · omega
        · rw [if_neg e3]
          exact h1 p hp e1
  · rw [show j - 1 + 1 = j by omega, g j (by omega), g (j - 1 - 1) (by omega), if_pos rfl, if_neg (by omega), if_neg (by omega)]
    have := h1 (j - 1 - 1) (by omega) (by omega)
    rwa [show j - 1 - 1 + 1 = j - 1 by omega] at this
/-- All blocks of w but g lie in w' as they lay. -/
def ButG (g : Nat) (w w' : World) : Prop := ∀ B w0, Below B w0 w → B ≤ g → Below B w0 w'
theorem ButG.refl (g : Nat) (w : World) : ButG g w w := fun _ _ h _ => h
theorem ButG.trans {g : Nat} {w w1 w2 : World} (h : ButG g w w1) (k : ButG g w1 w2) : ButG g w w2 := fun B w0 hb hB => k B w0 (h B w0 hb hB) hB
theorem ButG.of_below {g : Nat} {w w' : World} (hg : g < w.heap.size) (h : Below w.heap.size w w') : ButG g w w' := fun B w0 hb hB => hb.trans (h.mono (by omega))
theorem ButG.set {g : Nat} {w w1 : World} (h : ButG g w w1) (k : Nat) (v : Value) : ButG g w (w1.setCell ⟨g, k, none⟩ v) := fun B w0 hb hB => (h B w0 hb hB).setCell (p := ⟨g, k, none⟩) hB v
theorem IntsAt.drewN {w : World} {g c : Nat} {ds : List Int} (h : IntsAt w g c ds) (n : Nat) : IntsAt (w.drewN n) g c ds := h
theorem below_drewK {B : Nat} {a w : World} (h : Below B a w) (n : Nat) : Below B a (w.drewN n) := h.trans ⟨rfl, rfl, rfl, Nat.le_refl _, fun _ _ => rfl⟩
theorem ButG.drewN {g : Nat} {w w1 : World} (h : ButG g w w1) (n : Nat) : ButG g w (w1.drewN n) := fun B w0 hb hB => below_drewK (h B w0 hb hB) n
end Go.Proofs.Ytpkjkjepmloddaa
