/- Routes appended to a list of the call's own; a list of routes cut. -/
import Derived.Test.YtflmbkjnlgibnaaToRib
namespace Go.Proofs.Ytflmbkjnlgibnaa
open Go.RowKit Go.Sort

theorem ownsR_none {w : World} {base : Nat} {v : Value} {n : Nat} {xs : List Value} (h : w.ownsRow base 101 9 v n xs) (ty : TypeId) : (Builtin.append_ #[31, 31] ty #[v, .slice none 0 0]).run Try.prog w = .ok v w := by
  obtain ⟨i0, hi0, _, _, _⟩ := info_parts Try.infoR
  exact run_append_owned_none w base _ ty 101 i0 9 Try.underlying31 hi0 v n xs h
/-- 'append(v, x...)' of routes. -/
theorem run_append_rts (w : World) (base : Nat) (v : Value) (ls ms : List Rt) (q : Option Addr) (c : Nat) (ty : TypeId) (hown : w.ownsRow base 101 9 v ls.length (rowR ls)) (hq0 : q = none → ms = [] ∧ c = 0)
    (hq : ∀ ad, q = some ad → ∀ j u, (rowR ms)[j]? = some u → w.cell? (ad.add j) = some u) (hlen : ls.length + ms.length ≤ 1000000000) (hbase : base ≤ w.heap.size) :
    ∃ v' w', (Builtin.append_ #[31, 31] ty #[v, .slice q ms.length c]).run Try.prog w = .ok v' w' ∧ w'.ownsRow base 101 9 v' (ls ++ ms).length (rowR (ls ++ ms)) ∧ Below base w w' := by
  obtain ⟨i0, hi0, hz0, hz1, hz2⟩ := info_parts Try.infoR
  cases q with
  | none =>
    obtain ⟨rfl, rfl⟩ := hq0 rfl
    exact ⟨v, w, ownsR_none hown ty, by rw [List.append_nil]; exact hown, Below.refl _ _⟩
  | some ad =>
    obtain ⟨v', w', hr, h2, h3, _⟩ := run_append_own (P := Try.prog) w base _ ty 101 i0 _ 9 72 Try.underlying31 hi0 hz0 hz1 hz2 rfl (by decide) v ls.length (rowR ls) hown ad ms.length c (rowR ms) (by rw [rowR_length]; omega) (hq ad rfl) (rowR_one ms) (by unfold maxLen; omega) (by omega) hbase
    refine ⟨v', w', hr, ?_, (Below.refl base w).grown h3 hbase fun k hk => (World.ownsRow.lt hown k hk).1⟩
    rw [List.length_append, rowR_append]
    exact h2
theorem wpList_append_runs {P : Program} {w : World} {ops : Array Oper} {rest : List Oper} {o : Oper} {a : Act} {Q : Exit → Act → World → Prop} (hgd : o.guard = none) (s x : Operand) (t : TypeId)
    (ho : o.op = .call { callee := .builtin .append, args := #[s, x], argTypes := #[t, t] }) (vs vx : Value) (hs : a.eval s = vs) (hx : a.eval x = vx)
    {v' : Value} {w' : World} (hr : (Builtin.append_ #[t, t] o.type #[vs, vx]).run P w = .ok v' w') (h : wpList P ops Q rest (a.put o.dst v') w') : wpList P ops Q (o :: rest) a w := by
  refine wpList_plain hgd fun K hK => ?_
  unfold Oper.wp execOp
  simp only [ho, resolve, invoke, builtin, Sem.run_bind, Sem.run_pure, Result.andThen_ok, List.map_toArray, List.map_cons, List.map_nil, hs, hx, hr]
  exact hK _ _ h
theorem addR (g o j : Nat) : (⟨g, o, none⟩ : Addr).add j = ⟨g, o + j, none⟩ := by unfold Addr.add; split <;> simp_all
/-- Where the part of a list behind k begins. -/
def fromR (p : Option Addr) (cap k : Nat) : Option Addr := if cap = k then p else p.map (·.add (k * 9))
theorem sliceR_upto (p : Option Addr) (n cap k : Nat) (x : Int) (hx : x = k) (hk : k ≤ cap) (w : World) : (Instr.slice 31 (.slice p n cap) none (some (.int .i64 x)) none).run Try.prog w = .ok (.slice (fromR p cap 0) k cap) w := by
  subst hx
  have hb := run_sliceBound (P := Try.prog) w .i64 (k : Int) cap .sliceAcap (by omega) (by omega)
  unfold Instr.slice Instr.sliceBounds
  simp [Sem.run_bind, run_underlying Try.underlying31, hb, fromR]
theorem sliceR_from (p : Option Addr) (n cap k : Nat) (x : Int) (hx : x = k) (hk : k ≤ n) (w : World) : (Instr.slice 31 (.slice p n cap) (some (.int .i64 x)) none none).run Try.prog w = .ok (.slice (fromR p cap k) (n - k) (cap - k)) w := by
  subst hx
  have hb := run_sliceBound (P := Try.prog) w .i64 (k : Int) n .sliceB (by omega) (by omega)
  unfold Instr.slice Instr.sliceBounds
  simp [Sem.run_bind, run_underlying Try.underlying31, hb, fromR]
theorem fromR_none {p : Option Addr} {cap k : Nat} {rs : List Rt} (hc : p = none → cap = 0) (h : p = none → rs = []) : fromR p cap k = none → rs.drop k = [] ∧ cap - k = 0 := by
  intro e
  have hp : p = none := by
    unfold fromR at e
    split at e
    · exact e
    · simpa using e
  have := hc hp
  exact ⟨by rw [h hp]; simp, by omega⟩
theorem rtsIn_none {w : World} {p : Option Addr} {rs : List Rt} (h : RtsIn w p rs) : p = none → rs = [] := by
  rintro rfl
  rcases h with h | ⟨g, e, _⟩
  · exact h
  · cases e
theorem fromR_cells {w : World} {p : Option Addr} {cap k : Nat} {rs : List Rt} (h : RtsIn w p rs) (hl : rs.length ≤ cap) : ∀ ad, fromR p cap k = some ad → ∀ j u, (rowR (rs.drop k))[j]? = some u → w.cell? (ad.add j) = some u := by
  intro ad e j u hj
  rcases h with rfl | ⟨g, rfl, hg, hc⟩
  · simp [rowR] at hj
  · have hj9 : j < 9 * (rs.length - k) := by
      have := (List.getElem?_eq_some_iff.1 hj).1
      rw [rowR_length, List.length_drop] at this
      exact this
    unfold fromR at e
    rw [if_neg (by omega)] at e
    simp only [Option.map_some, Option.some.injEq] at e
    subst e
    have ea : ((⟨g, 0, none⟩ : Addr).add (k * 9)).add j = ⟨g, k * 9 + j, none⟩ := by rw [addR, addR, Nat.zero_add]
    rw [ea]
    refine hc _ _ ?_
    rw [← hj, ← List.take_append_drop k rs, rowR_append, List.take_append_drop, List.getElem?_append_right (by rw [rowR_length, List.length_take]; omega), rowR_length, List.length_take]
    congr 1
    omega
theorem fromR_upto {w : World} {p : Option Addr} {cap k : Nat} {rs : List Rt} (h : RtsIn w p rs) : ∀ ad, fromR p cap 0 = some ad → ∀ j u, (rowR (rs.take k))[j]? = some u → w.cell? (ad.add j) = some u := by
  intro ad e j u hj
  rcases h with rfl | ⟨g, rfl, hg, hc⟩
  · simp [rowR] at hj
  · have e' : ad = ⟨g, 0, none⟩ := by
      unfold fromR at e
      split at e
      · simpa using e.symm
      · simp only [Option.map_some, Option.some.injEq] at e
        rw [← e]; unfold Addr.add; split <;> simp_all
    subst e'
    have ea : (⟨g, 0, none⟩ : Addr).add j = ⟨g, j, none⟩ := by unfold Addr.add; split <;> simp_all
    rw [ea]
    refine hc _ _ ?_
    rw [← hj, ← List.take_append_drop k rs, rowR_append, List.take_append_drop]
    rw [List.getElem?_append_left (List.getElem?_eq_some_iff.1 hj).1]
end Go.Proofs.Ytflmbkjnlgibnaa
