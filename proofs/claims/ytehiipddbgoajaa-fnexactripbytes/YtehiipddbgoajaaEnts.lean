/- Lists of entries in memory. -/
import Derived.Test.YtehiipddbgoajaaEnt
import Derived.Test.YtehiipddbgoajaaRowV
namespace Go.Proofs.Ytehiipddbgoajaa
open Go.RowKit Go.Sort

def rowE (es : List Ent) : List Value := es.flatMap entL
theorem entL_length (e : Ent) : (entL e).length = 5 := rfl
theorem rowE_length (es : List Ent) : (rowE es).length = 5 * es.length := by
  induction es with
  | nil => rfl
  | cons e es ih => simp only [rowE, List.flatMap_cons, List.length_append, List.length_cons] at ih ⊢; rw [ih, entL_length]; omega
theorem rowE_append (a b : List Ent) : rowE (a ++ b) = rowE a ++ rowE b := by simp [rowE]
theorem rowE_cons (e : Ent) (es : List Ent) : rowE (e :: es) = entL e ++ rowE es := rfl
theorem rowE_get (es : List Ent) (i k : Nat) (hi : i < es.length) (hk : k < 5) : (rowE es)[i * 5 + k]? = (entL es[i])[k]? := by
  induction es generalizing i with
  | nil => simp at hi
  | cons e es ih =>
    rw [rowE_cons]
    match i with
    | 0 => rw [Nat.zero_mul, Nat.zero_add, List.getElem?_append_left (by rw [entL_length]; omega)]; rfl
    | i + 1 =>
      rw [List.getElem?_append_right (by rw [entL_length]; omega), entL_length, show (i + 1) * 5 + k - 5 = i * 5 + k by omega, ih i (by simpa using hi)]
      rfl
theorem rowE_one (es : List Ent) : ∀ u ∈ rowE es, u.oneCell' = true := by
  intro u hu
  simp only [rowE, List.mem_flatMap, entL, List.mem_cons, List.not_mem_nil, or_false] at hu
  obtain ⟨e, _, h⟩ := hu
  rcases h with h | h | h | h | h <;> (rw [h]; rfl)
/-- The slice (p, es.length) holds the entries es. -/
def EntsIn (w : World) (p : Option Addr) (es : List Ent) : Prop := es = [] ∨ ∃ g, p = some ⟨g, 0, none⟩ ∧ g < w.heap.size ∧ ∀ j u, (rowE es)[j]? = some u → w.cell? ⟨g, j, none⟩ = some u
theorem EntsIn.below {w w' : World} {p : Option Addr} {es : List Ent} (h : EntsIn w p es) (hb : Below w.heap.size w w') : EntsIn w' p es := by
  rcases h with h | ⟨g, hp, hg, hc⟩
  · exact .inl h
  · refine .inr ⟨g, hp, by have := hb.size; omega, fun j u hj => ?_⟩
    rw [hb.cell (p := ⟨g, j, none⟩) hg]
    exact hc j u hj
theorem EntsIn.alloc {w : World} {p : Option Addr} {es : List Ent} (h : EntsIn w p es) (o : Obj) : EntsIn (w.alloc o) p es := h.below (ent_new0 w o)
theorem EntsIn.at {w : World} {p : Option Addr} {es : List Ent} (h : EntsIn w p es) (i : Nat) (hi : i < es.length) : ∃ g a l n m t, p = some ⟨g, 0, none⟩ ∧ g < w.heap.size ∧ es[i] = ⟨a, l, n, m, t⟩ ∧ w.cell? ⟨g, i * 5, none⟩ = some (.int .i64 a) ∧ w.cell? ⟨g, i * 5 + 1, none⟩ = some (.int .i64 l) ∧ w.cell? ⟨g, i * 5 + 2, none⟩ = some (.int .i64 n) ∧ w.cell? ⟨g, i * 5 + 3, none⟩ = some (.int .i64 m) ∧ w.cell? ⟨g, i * 5 + 4, none⟩ = some (.int .i64 t) := by
  rcases h with rfl | ⟨g, hp, hg, hc⟩
  · simp at hi
  · exact ⟨g, es[i].a, es[i].l, es[i].n, es[i].m, es[i].t, hp, hg, rfl, hc _ _ (rowE_get es i 0 hi (by omega)), hc _ _ (rowE_get es i 1 hi (by omega)), hc _ _ (rowE_get es i 2 hi (by omega)), hc _ _ (rowE_get es i 3 hi (by omega)), hc _ _ (rowE_get es i 4 hi (by omega))⟩
def ripB (c : Int) (es : List Ent) : Bool := decide (c = 1 ∨ c = 2) && decide (es.length ≤ 8) && es.all entB
def ripV (c : Int) (p : Option Addr) (n cap : Nat) : Value := .agg #[.int .i64 c, .slice p n cap]
theorem all_next (es : List Ent) (k : Nat) (h : k < es.length) (ha : (es.take k).all entB = true) : (es.take (k + 1)).all entB = entB es[k] := by
  rw [List.take_succ_eq_append_getElem h, List.all_append, ha]; simp
theorem all_bad (es : List Ent) (k : Nat) (h : k < es.length) (ha : entB es[k] = false) : es.all entB = false := by
  rw [List.all_eq_false]; exact ⟨es[k], List.getElem_mem h, by rw [ha]; simp⟩
theorem ripB_bad (c : Int) (es : List Ent) (k : Nat) (h : k < es.length) (ha : entB es[k] = false) : ripB c es = false := by
  unfold ripB; rw [all_bad es k h ha, Bool.and_false]
end Go.Proofs.Ytehiipddbgoajaa
