/- Rows that a call makes by appending, of whatever one-cell values. -/
import Derived.Test.YtialedffpaoacaaGreatDoorRowV
namespace Go.Proofs.YtialedffpaoacaaGreatDoor
open Go.RowKit

/-- The slice value v owns just the cells l, in memory from block 'base' on. -/
def Own (w : World) (base : Nat) (e : TypeId) (v : Value) (l : List Value) : Prop := w.ownsRow base e 1 v l.length l
theorem Own.alloc {w : World} {base : Nat} {e : TypeId} {v : Value} {l : List Value} (h : Own w base e v l) (o : Obj) : Own (w.alloc o) base e v l := World.ownsRow.alloc h o
theorem Own.nil (w : World) (base : Nat) (e : TypeId) : Own w base e (.slice none 0 0) [] := World.ownsRow_nil w base e 1
theorem Own.made (w : World) (base : Nat) (e : TypeId) (hb : base ≤ w.heap.size) : Own (w.alloc (.cells #[] e)) base e (.slice (some ⟨w.heap.size, 0, none⟩) 0 0) [] :=
  ⟨rfl, .inr ⟨w.heap.size, 0, #[], rfl, hb, heap_alloc_new w _, Nat.le_refl _, Nat.zero_le _, rfl, rfl⟩⟩
theorem Own.drewN {w : World} {base : Nat} {e : TypeId} {v : Value} {l : List Value} (h : Own w base e v l) (n : Nat) : Own (w.drewN n) base e v l := h
theorem Own.below {w w' : World} {base : Nat} {e : TypeId} {v : Value} {l : List Value} (h : Own w base e v l) (hb : Below w.heap.size w w') : Own w' base e v l := by
  refine ⟨h.1, ?_⟩
  rcases h.2 with h2 | ⟨g, cap, cur, hv, hg0, hg, h3⟩
  · exact .inl h2
  · refine .inr ⟨g, cap, cur, hv, hg0, ?_, h3⟩
    rw [hb.block g (Array.getElem?_eq_some_iff.1 hg).1]
    exact hg
theorem Own.mono {w : World} {base base' : Nat} {e : TypeId} {v : Value} {l : List Value} (h : Own w base e v l) (hb : base' ≤ base) : Own w base' e v l := by
  refine ⟨h.1, ?_⟩
  rcases h.2 with h2 | ⟨g, cap, cur, hv, hg0, h3⟩
  · exact .inl h2
  · exact .inr ⟨g, cap, cur, hv, by omega, h3⟩
theorem addr0_add (g j : Nat) : (⟨g, 0, none⟩ : Addr).add j = ⟨g, j, none⟩ := by unfold Addr.add; split <;> simp_all
/-- The form of an owned row that is not empty, and its cells. -/
theorem Own.form {w : World} {base : Nat} {e : TypeId} {v : Value} {l : List Value} (h : Own w base e v l) (hl : l ≠ []) :
    ∃ g cap, v = .slice (some ⟨g, 0, none⟩) l.length cap ∧ base ≤ g ∧ g < w.heap.size ∧ l.length ≤ cap ∧ ∀ j u, l[j]? = some u → w.cell? ⟨g, j, none⟩ = some u := by
  have h0 := h
  rcases h.2 with ⟨_, hn⟩ | ⟨g, cap, cur, rfl, hg0, hg, hnc, _⟩
  · exact absurd (List.length_eq_zero_iff.1 hn) hl
  · refine ⟨g, cap, rfl, hg0, (Array.getElem?_eq_some_iff.1 hg).1, hnc, fun j u hj => ?_⟩
    have := World.ownsRow.cells h0 rfl j u hj
    rwa [addr0_add] at this
/-- 'v = append(v, ..)' of values that lie in a block of their own. -/
theorem wpList_append_vals {P : Program} {w : World} {ops : Array Oper} {rest : List Oper} {o : Oper} {a : Act} {Q : Exit → Act → World → Prop} (hgd : o.guard = none) (s x : Operand) (t : TypeId)
    (ho : o.op = .call { callee := .builtin .append, args := #[s, x], argTypes := #[t, t] })
    (base : Nat) (e : TypeId) (ht : P.underlying t = some (.slice e)) (z : Value) (hz : z.cells.size = 1) (by_ : Nat) (hby : by_ ≤ 64) (hi : (P.info? e).map (fun i => (i.zero, i.size, i.bytes)) = some (some z, 1, by_))
    (v : Value) (l m : List Value) (hs : a.eval s = v) (hown : Own w base e v l)
    (g c : Nat) (hx : a.eval x = .slice (some ⟨g, 0, none⟩) m.length c) (hc : ∀ j u, m[j]? = some u → w.cell? ⟨g, j, none⟩ = some u) (h1 : ∀ u ∈ m, u.oneCell' = true)
    (hlen : l.length + m.length ≤ 1000000000) (hbase : base ≤ w.heap.size)
    (h : ∀ v' w', Own w' base e v' (l ++ m) → Below base w w' → wpList P ops Q rest (a.put o.dst v') w') : wpList P ops Q (o :: rest) a w := by
  obtain ⟨i0, hi0, hz0, hz1, hz2⟩ := info_parts hi
  refine wpList_append_own w hgd s x t ho base e i0 z 1 by_ ht hi0 hz0 hz1 hz2 hz (by decide) v l.length l hs hown ⟨g, 0, none⟩ m.length c m hx (by simp) ?_ h1 ?_ ?_ hbase ?_
  · intro j u hj; rw [addr0_add]; exact hc j u hj
  · unfold maxLen; omega
  · have := Nat.mul_le_mul_left (l.length + m.length) hby; omega
  · intro v' w' hown' hgrow _
    refine h v' w' ?_ ((Below.refl base w).grown hgrow hbase fun k hk => (World.ownsRow.lt hown k hk).1)
    unfold Own
    rw [List.length_append]
    exact hown'
end Go.Proofs.YtialedffpaoacaaGreatDoor
