/- Texts that stand on each other, in one file: OwnE. -/
import Derived.Test.YtialedffpaoacaaGreatDoorPack12
import Derived.OwnWalk
/- Lists of entries that a call makes by appending. -/
namespace Go.Proofs.YtialedffpaoacaaGreatDoor
open Go.RowKit Go.Sort

theorem Tryz.infoEn : (Tryz.prog.info? 146).map (fun i => (i.zero, i.size, i.bytes)) = some (some (.agg #[.int .i64 0, .int .i64 0, .int .i64 0, .int .i64 0, .int .i64 0]), 5, 40) := by kernel_rfl
/-- The slice value v owns just the entries es, in memory from block 'base' on. -/
def OwnE (w : World) (base : Nat) (v : Value) (es : List Ent) : Prop := w.ownsRow base 146 5 v es.length (rowE es)
theorem OwnE.nil (w : World) (base : Nat) : OwnE w base (.slice none 0 0) [] := World.ownsRow_nil w base _ 5
theorem OwnE.alloc {w : World} {base : Nat} {v : Value} {es : List Ent} (h : OwnE w base v es) (o : Obj) : OwnE (w.alloc o) base v es := World.ownsRow.alloc h o
theorem OwnE.of_block {w w' : World} {base : Nat} {v : Value} {es : List Ent} (h : OwnE w base v es) (hb : ∀ g, g < w.heap.size → base ≤ g → w'.heap[g]? = w.heap[g]?) : OwnE w' base v es := by
  refine ⟨h.1, ?_⟩
  rcases h.2 with h2 | ⟨g, cap, cur, hv, hg0, hg, h3⟩
  · exact .inl h2
  · refine .inr ⟨g, cap, cur, hv, hg0, ?_, h3⟩
    rw [hb g (Array.getElem?_eq_some_iff.1 hg).1 hg0]
    exact hg
theorem OwnE.below {w w' : World} {base : Nat} {v : Value} {es : List Ent} (h : OwnE w base v es) (hb : Below w.heap.size w w') : OwnE w' base v es := h.of_block fun g hg _ => hb.block g hg
theorem OwnE.set {w : World} {base : Nat} {v : Value} {es : List Ent} (h : OwnE w base v es) (p : Addr) (hp : p.block < base) (u : Value) : OwnE (w.setCell p u) base v es := h.of_block fun g _ hg => Below.heap_setCell w p u g (by omega)
theorem OwnE.mono {w : World} {base base' : Nat} {v : Value} {es : List Ent} (h : OwnE w base v es) (hb : base' ≤ base) : OwnE w base' v es := by
  refine ⟨h.1, ?_⟩
  rcases h.2 with h2 | ⟨g, cap, cur, hv, hg0, h3⟩
  · exact .inl h2
  · exact .inr ⟨g, cap, cur, hv, by omega, h3⟩
theorem OwnE.form {w : World} {base : Nat} {v : Value} {es : List Ent} (h : OwnE w base v es) : ∃ p cap, v = .slice p es.length cap ∧ EntsIn w p es := by
  have h0 := h
  rcases h.2 with ⟨hv, hn⟩ | ⟨g, cap, cur, rfl, hg0, hg, hnc, _⟩
  · exact ⟨none, 0, by rw [hn]; exact hv, .inl (List.length_eq_zero_iff.1 hn)⟩
  · refine ⟨some ⟨g, 0, none⟩, cap, rfl, .inr ⟨g, rfl, (Array.getElem?_eq_some_iff.1 hg).1, fun j u hj => ?_⟩⟩
    have := World.ownsRow.cells h0 rfl j u hj
    have ea : (⟨g, 0, none⟩ : Addr).add j = ⟨g, j, none⟩ := by unfold Addr.add; split <;> simp_all
    rwa [ea] at this
set_option maxRecDepth 100000 in
/-- 'v = append(v, e)', e laid in a block of its own just ahead. -/
theorem wpList_append_ent {w : World} {ops : Array Oper} {rest : List Oper} {o : Oper} {a : Act} {Q : Exit → Act → World → Prop} (hgd : o.guard = none) (s x : Operand)
    (ho : o.op = .call { callee := .builtin .append, args := #[s, x], argTypes := #[97, 97] })
    (base : Nat) (v : Value) (es : List Ent) (hs : a.eval s = v) (hown : OwnE w base v es) (g c : Nat) (e : Ent) (hx : a.eval x = .slice (some ⟨g, 0, none⟩) 1 c) (hr : Row w g 146 (entL e))
    (hlen : es.length ≤ 1000000) (hbase : base ≤ w.heap.size)
    (h : ∀ v' w', OwnE w' base v' (es ++ [e]) → Below base w w' → wpList Tryz.prog ops Q rest (a.put o.dst v') w') : wpList Tryz.prog ops Q (o :: rest) a w := by
  obtain ⟨i0, hi0, hz0, hz1, hz2⟩ := info_parts Tryz.infoEn
  refine wpList_append_own w hgd s x 97 ho base 146 i0 _ 5 40 Tryz.underlying97 hi0 hz0 hz1 hz2 rfl (by decide) v es.length (rowE es) hs hown ⟨g, 0, none⟩ 1 c (entL e) hx rfl ?_ ?_ ?_ ?_ hbase ?_
  · intro j u hj
    have ea : (⟨g, 0, none⟩ : Addr).add j = ⟨g, j, none⟩ := by unfold Addr.add; split <;> simp_all
    rw [ea, hr.cell]
    exact hj
  · intro u hu
    have := rowE_one [e] u (by simpa [rowE] using hu)
    exact this
  · unfold maxLen; omega
  · omega
  · intro v' w' hown' hgrow _
    refine h v' w' ?_ ((Below.refl base w).grown hgrow hbase fun k hk => (World.ownsRow.lt hown k hk).1)
    unfold OwnE
    rw [List.length_append, rowE_append, show rowE [e] = entL e by simp [rowE]]
    exact hown'
end Go.Proofs.YtialedffpaoacaaGreatDoor
