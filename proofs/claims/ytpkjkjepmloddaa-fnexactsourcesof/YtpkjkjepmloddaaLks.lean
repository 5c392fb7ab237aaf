/- Lists of Leaks in memory. (Written by gen_lks.py.) -/
import Derived.Test.YtpkjkjepmloddaaLkk
import Derived.Test.YtpkjkjepmloddaaOpenLk
import Derived.Test.YtpkjkjepmloddaaRowV
namespace Go.Proofs.Ytpkjkjepmloddaa
open Go.RowKit Go.Sort

def rowL (rs : List Lk) : List Value := rs.flatMap lkL
theorem lkL_length (r : Lk) : (lkL r).length = 6 := rfl
theorem rowL_length (rs : List Lk) : (rowL rs).length = 6 * rs.length := by
  induction rs with
  | nil => rfl
  | cons e es ih => simp only [rowL, List.flatMap_cons, List.length_append, List.length_cons] at ih ⊢; rw [ih, lkL_length]; omega
theorem rowL_append (a b : List Lk) : rowL (a ++ b) = rowL a ++ rowL b := by simp [rowL]
theorem rowL_cons (e : Lk) (es : List Lk) : rowL (e :: es) = lkL e ++ rowL es := rfl
theorem rowL_get (es : List Lk) (i k : Nat) (hi : i < es.length) (hk : k < 6) : (rowL es)[i * 6 + k]? = (lkL es[i])[k]? := by
  induction es generalizing i with
  | nil => simp at hi
  | cons e es ih =>
    rw [rowL_cons]
    match i with
    | 0 => rw [Nat.zero_mul, Nat.zero_add, List.getElem?_append_left (by rw [lkL_length]; omega)]; rfl
    | i + 1 =>
      rw [List.getElem?_append_right (by rw [lkL_length]; omega), lkL_length, show (i + 1) * 6 + k - 6 = i * 6 + k by omega, ih i (by simpa using hi)]
      rfl
theorem rowL_one (es : List Lk) : ∀ u ∈ rowL es, u.oneCell' = true := by
  intro u hu
  simp only [rowL, List.mem_flatMap, lkL, List.mem_cons, List.not_mem_nil, or_false] at hu
  obtain ⟨e, _, h⟩ := hu
  rcases h with h | h | h | h | h | h <;> (rw [h]; rfl)
/-- The slice (p, rs.length) holds the Leaks rs. -/
def LksIn (w : World) (p : Option Addr) (rs : List Lk) : Prop := rs = [] ∨ ∃ g, p = some ⟨g, 0, none⟩ ∧ g < w.heap.size ∧ ∀ j u, (rowL rs)[j]? = some u → w.cell? ⟨g, j, none⟩ = some u
theorem LksIn.below {w w' : World} {p : Option Addr} {rs : List Lk} (h : LksIn w p rs) (hb : Below w.heap.size w w') : LksIn w' p rs := by
  rcases h with h | ⟨g, hp, hg, hc⟩
  · exact .inl h
  · refine .inr ⟨g, hp, by have := hb.size; omega, fun j u hj => ?_⟩
    rw [hb.cell (p := ⟨g, j, none⟩) hg]
    exact hc j u hj
theorem LksIn.alloc {w : World} {p : Option Addr} {rs : List Lk} (h : LksIn w p rs) (o : Obj) : LksIn (w.alloc o) p rs := h.below (ent_new0 w o)
theorem LksIn.at {w : World} {p : Option Addr} {rs : List Lk} (h : LksIn w p rs) (i : Nat) (hi : i < rs.length) : ∃ g fr tt a l ad tg, p = some ⟨g, 0, none⟩ ∧ g < w.heap.size ∧ rs[i] = ⟨fr, tt, a, l, ad, tg⟩ ∧ w.cell? ⟨g, i * 6, none⟩ = some (.int .i64 fr) ∧ w.cell? ⟨g, i * 6 + 1, none⟩ = some (.int .i64 tt) ∧ w.cell? ⟨g, i * 6 + 2, none⟩ = some (.int .i64 a) ∧ w.cell? ⟨g, i * 6 + 3, none⟩ = some (.int .i64 l) ∧ w.cell? ⟨g, i * 6 + 4, none⟩ = some (.int .i64 ad) ∧ w.cell? ⟨g, i * 6 + 5, none⟩ = some (.int .i64 tg) := by
  rcases h with rfl | ⟨g, hp, hg, hc⟩
  · simp at hi
  · exact ⟨g, rs[i].fr, rs[i].tt, rs[i].a, rs[i].l, rs[i].ad, rs[i].tg, hp, hg, rfl, hc _ _ (rowL_get rs i 0 hi (by omega)), hc _ _ (rowL_get rs i 1 hi (by omega)), hc _ _ (rowL_get rs i 2 hi (by omega)), hc _ _ (rowL_get rs i 3 hi (by omega)), hc _ _ (rowL_get rs i 4 hi (by omega)), hc _ _ (rowL_get rs i 5 hi (by omega))⟩
theorem lksIn_row {w : World} {g : Nat} {t : TypeId} {rs : List Lk} (h : Row w g t (rowL rs)) : LksIn w (some ⟨g, 0, none⟩) rs := .inr ⟨g, rfl, h.lt, fun j _ hj => (h.cell j).trans hj⟩
end Go.Proofs.Ytpkjkjepmloddaa
