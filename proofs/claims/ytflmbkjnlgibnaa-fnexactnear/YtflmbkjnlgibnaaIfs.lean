/- Lists of Ifaces in memory. (Written by gen_ifs.py.) -/
import Derived.Test.YtflmbkjnlgibnaaIff
import Derived.Test.YtflmbkjnlgibnaaOpenIf
import Derived.Test.YtflmbkjnlgibnaaRowV
namespace Go.Proofs.Ytflmbkjnlgibnaa
open Go.RowKit Go.Sort

def rowI (rs : List If) : List Value := rs.flatMap ifL
theorem ifL_length (r : If) : (ifL r).length = 5 := rfl
theorem rowI_length (rs : List If) : (rowI rs).length = 5 * rs.length := by
  induction rs with
  | nil => rfl
  | cons e es ih => simp only [rowI, List.flatMap_cons, List.length_append, List.length_cons] at ih ⊢; rw [ih, ifL_length]; omega
theorem rowI_append (a b : List If) : rowI (a ++ b) = rowI a ++ rowI b := by simp [rowI]
theorem rowI_cons (e : If) (es : List If) : rowI (e :: es) = ifL e ++ rowI es := rfl
theorem rowI_get (es : List If) (i k : Nat) (hi : i < es.length) (hk : k < 5) : (rowI es)[i * 5 + k]? = (ifL es[i])[k]? := by
  induction es generalizing i with
  | nil => simp at hi
  | cons e es ih =>
    rw [rowI_cons]
    match i with
    | 0 => rw [Nat.zero_mul, Nat.zero_add, List.getElem?_append_left (by rw [ifL_length]; omega)]; rfl
    | i + 1 =>
      rw [List.getElem?_append_right (by rw [ifL_length]; omega), ifL_length, show (i + 1) * 5 + k - 5 = i * 5 + k by omega, ih i (by simpa using hi)]
      rfl
theorem rowI_one (es : List If) : ∀ u ∈ rowI es, u.oneCell' = true := by
  intro u hu
  simp only [rowI, List.mem_flatMap, ifL, List.mem_cons, List.not_mem_nil, or_false] at hu
  obtain ⟨e, _, h⟩ := hu
  rcases h with h | h | h | h | h <;> (rw [h]; rfl)
/-- The slice (p, rs.length) holds the Ifaces rs. -/
def IfsIn (w : World) (p : Option Addr) (rs : List If) : Prop := rs = [] ∨ ∃ g, p = some ⟨g, 0, none⟩ ∧ g < w.heap.size ∧ ∀ j u, (rowI rs)[j]? = some u → w.cell? ⟨g, j, none⟩ = some u
theorem IfsIn.below {w w' : World} {p : Option Addr} {rs : List If} (h : IfsIn w p rs) (hb : Below w.heap.size w w') : IfsIn w' p rs := by
  rcases h with h | ⟨g, hp, hg, hc⟩
  · exact .inl h
  · refine .inr ⟨g, hp, by have := hb.size; omega, fun j u hj => ?_⟩
    rw [hb.cell (p := ⟨g, j, none⟩) hg]
    exact hc j u hj
theorem IfsIn.alloc {w : World} {p : Option Addr} {rs : List If} (h : IfsIn w p rs) (o : Obj) : IfsIn (w.alloc o) p rs := h.below (ent_new0 w o)
theorem IfsIn.at {w : World} {p : Option Addr} {rs : List If} (h : IfsIn w p rs) (i : Nat) (hi : i < rs.length) : ∃ g d a l c u, p = some ⟨g, 0, none⟩ ∧ g < w.heap.size ∧ rs[i] = ⟨d, a, l, c, u⟩ ∧ w.cell? ⟨g, i * 5, none⟩ = some (.int .i64 d) ∧ w.cell? ⟨g, i * 5 + 1, none⟩ = some (.int .i64 a) ∧ w.cell? ⟨g, i * 5 + 2, none⟩ = some (.int .i64 l) ∧ w.cell? ⟨g, i * 5 + 3, none⟩ = some (.int .i64 c) ∧ w.cell? ⟨g, i * 5 + 4, none⟩ = some (.bool u) := by
  rcases h with rfl | ⟨g, hp, hg, hc⟩
  · simp at hi
  · exact ⟨g, rs[i].d, rs[i].a, rs[i].l, rs[i].c, rs[i].u, hp, hg, rfl, hc _ _ (rowI_get rs i 0 hi (by omega)), hc _ _ (rowI_get rs i 1 hi (by omega)), hc _ _ (rowI_get rs i 2 hi (by omega)), hc _ _ (rowI_get rs i 3 hi (by omega)), hc _ _ (rowI_get rs i 4 hi (by omega))⟩
theorem ifsIn_row {w : World} {g : Nat} {t : TypeId} {rs : List If} (h : Row w g t (rowI rs)) : IfsIn w (some ⟨g, 0, none⟩) rs := .inr ⟨g, rfl, h.lt, fun j _ hj => (h.cell j).trans hj⟩
end Go.Proofs.Ytflmbkjnlgibnaa
