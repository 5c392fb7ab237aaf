/- Lists of routes in memory. (Written by gen_rts.py.) -/
import Derived.Test.YtflmbkjnlgibnaaRt
import Derived.Test.YtflmbkjnlgibnaaOpenRt
import Derived.Test.YtflmbkjnlgibnaaRowV
namespace Go.Proofs.Ytflmbkjnlgibnaa
open Go.RowKit Go.Sort

def rowR (rs : List Rt) : List Value := rs.flatMap rtL
theorem rtL_length (r : Rt) : (rtL r).length = 9 := rfl
theorem rowR_length (rs : List Rt) : (rowR rs).length = 9 * rs.length := by
  induction rs with
  | nil => rfl
  | cons e es ih => simp only [rowR, List.flatMap_cons, List.length_append, List.length_cons] at ih ⊢; rw [ih, rtL_length]; omega
theorem rowR_append (a b : List Rt) : rowR (a ++ b) = rowR a ++ rowR b := by simp [rowR]
theorem rowR_cons (e : Rt) (es : List Rt) : rowR (e :: es) = rtL e ++ rowR es := rfl
theorem rowR_get (es : List Rt) (i k : Nat) (hi : i < es.length) (hk : k < 9) : (rowR es)[i * 9 + k]? = (rtL es[i])[k]? := by
  induction es generalizing i with
  | nil => simp at hi
  | cons e es ih =>
    rw [rowR_cons]
    match i with
    | 0 => rw [Nat.zero_mul, Nat.zero_add, List.getElem?_append_left (by rw [rtL_length]; omega)]; rfl
    | i + 1 =>
      rw [List.getElem?_append_right (by rw [rtL_length]; omega), rtL_length, show (i + 1) * 9 + k - 9 = i * 9 + k by omega, ih i (by simpa using hi)]
      rfl
theorem rowR_one (es : List Rt) : ∀ u ∈ rowR es, u.oneCell' = true := by
  intro u hu
  simp only [rowR, List.mem_flatMap, rtL, List.mem_cons, List.not_mem_nil, or_false] at hu
  obtain ⟨e, _, h⟩ := hu
  rcases h with h | h | h | h | h | h | h | h | h <;> (rw [h]; rfl)
/-- The slice (p, rs.length) holds the routes rs. -/
def RtsIn (w : World) (p : Option Addr) (rs : List Rt) : Prop := rs = [] ∨ ∃ g, p = some ⟨g, 0, none⟩ ∧ g < w.heap.size ∧ ∀ j u, (rowR rs)[j]? = some u → w.cell? ⟨g, j, none⟩ = some u
theorem RtsIn.below {w w' : World} {p : Option Addr} {rs : List Rt} (h : RtsIn w p rs) (hb : Below w.heap.size w w') : RtsIn w' p rs := by
  rcases h with h | ⟨g, hp, hg, hc⟩
  · exact .inl h
  · refine .inr ⟨g, hp, by have := hb.size; omega, fun j u hj => ?_⟩
    rw [hb.cell (p := ⟨g, j, none⟩) hg]
    exact hc j u hj
theorem RtsIn.alloc {w : World} {p : Option Addr} {rs : List Rt} (h : RtsIn w p rs) (o : Obj) : RtsIn (w.alloc o) p rs := h.below (ent_new0 w o)
theorem RtsIn.at {w : World} {p : Option Addr} {rs : List Rt} (h : RtsIn w p rs) (i : Nat) (hi : i < rs.length) : ∃ g a l m n ii t u b c, p = some ⟨g, 0, none⟩ ∧ g < w.heap.size ∧ rs[i] = ⟨a, l, m, n, ii, t, u, b, c⟩ ∧ w.cell? ⟨g, i * 9, none⟩ = some (.int .i64 a) ∧ w.cell? ⟨g, i * 9 + 1, none⟩ = some (.int .i64 l) ∧ w.cell? ⟨g, i * 9 + 2, none⟩ = some (.int .i64 m) ∧ w.cell? ⟨g, i * 9 + 3, none⟩ = some (.int .i64 n) ∧ w.cell? ⟨g, i * 9 + 4, none⟩ = some (.int .i64 ii) ∧ w.cell? ⟨g, i * 9 + 5, none⟩ = some (.int .i64 t) ∧ w.cell? ⟨g, i * 9 + 6, none⟩ = some (.int .i64 u) ∧ w.cell? ⟨g, i * 9 + 7, none⟩ = some (.int .i64 b) ∧ w.cell? ⟨g, i * 9 + 8, none⟩ = some (.bool c) := by
  rcases h with rfl | ⟨g, hp, hg, hc⟩
  · simp at hi
  · exact ⟨g, rs[i].a, rs[i].l, rs[i].m, rs[i].n, rs[i].i, rs[i].t, rs[i].u, rs[i].b, rs[i].c, hp, hg, rfl, hc _ _ (rowR_get rs i 0 hi (by omega)), hc _ _ (rowR_get rs i 1 hi (by omega)), hc _ _ (rowR_get rs i 2 hi (by omega)), hc _ _ (rowR_get rs i 3 hi (by omega)), hc _ _ (rowR_get rs i 4 hi (by omega)), hc _ _ (rowR_get rs i 5 hi (by omega)), hc _ _ (rowR_get rs i 6 hi (by omega)), hc _ _ (rowR_get rs i 7 hi (by omega)), hc _ _ (rowR_get rs i 8 hi (by omega))⟩
def ribV (p : Option Addr) (n cap : Nat) : Value := .agg #[.slice p n cap]
theorem rtsIn_row {w : World} {g : Nat} {t : TypeId} {rs : List Rt} (h : Row w g t (rowR rs)) : RtsIn w (some ⟨g, 0, none⟩) rs := .inr ⟨g, rfl, h.lt, fun j _ hj => (h.cell j).trans hj⟩
end Go.Proofs.Ytflmbkjnlgibnaa
