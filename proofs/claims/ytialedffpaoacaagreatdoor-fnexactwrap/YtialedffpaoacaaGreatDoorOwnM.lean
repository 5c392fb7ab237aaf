/- Rows that may bear the mark that '[]byte(s)' lays behind their end. -/
import Derived.Test.YtialedffpaoacaaGreatDoorOwn
namespace Go.Proofs.YtialedffpaoacaaGreatDoor
open Go.RowKit

/-- The slice value v, not nil, owns just the cells l, from block 'base' on; a mark of its block lies behind its end. -/
def OwnM (w : World) (base : Nat) (e : TypeId) (v : Value) (l : List Value) : Prop :=
  ∃ g cap cur fz, v = .slice (some ⟨g, 0, none⟩) l.length cap ∧ base ≤ g ∧ w.heap[g]? = some (.cells cur e fz) ∧ (fz = (0, 0) ∨ cur.size ≤ fz.1) ∧ l.length ≤ cap ∧ cap ≤ maxLen ∧ cur.size = cap ∧ cur.toList.take l.length = l
theorem OwnM.alloc {w : World} {base : Nat} {e : TypeId} {v : Value} {l : List Value} (h : OwnM w base e v l) (o : Obj) : OwnM (w.alloc o) base e v l := by
  obtain ⟨g, cap, cur, fz, hv, hb, hg, hr⟩ := h
  exact ⟨g, cap, cur, fz, hv, hb, by rw [Below.heap_alloc w o g (Array.getElem?_eq_some_iff.1 hg).1]; exact hg, hr⟩
theorem OwnM.drewN {w : World} {base : Nat} {e : TypeId} {v : Value} {l : List Value} (h : OwnM w base e v l) (n : Nat) : OwnM (w.drewN n) base e v l := h
theorem OwnM.below {w w' : World} {base : Nat} {e : TypeId} {v : Value} {l : List Value} (h : OwnM w base e v l) (hb : Below w.heap.size w w') : OwnM w' base e v l := by
  obtain ⟨g, cap, cur, fz, hv, hb0, hg, hr⟩ := h
  exact ⟨g, cap, cur, fz, hv, hb0, by rw [hb.block g (Array.getElem?_eq_some_iff.1 hg).1]; exact hg, hr⟩
theorem OwnM.form {w : World} {base : Nat} {e : TypeId} {v : Value} {l : List Value} (h : OwnM w base e v l) :
    ∃ g cap, v = .slice (some ⟨g, 0, none⟩) l.length cap ∧ base ≤ g ∧ g < w.heap.size ∧ l.length ≤ cap ∧ ∀ j u, l[j]? = some u → w.cell? ⟨g, j, none⟩ = some u := by
  obtain ⟨g, cap, cur, fz, rfl, hb, hg, _, hc, _, hs, ht⟩ := h
  refine ⟨g, cap, rfl, hb, (Array.getElem?_eq_some_iff.1 hg).1, hc, fun j u hj => ?_⟩
  rw [cell_of_row w g j cur e fz hg]
  rw [← ht, List.getElem?_take] at hj
  split at hj
  · simpa using hj
  · cases hj
theorem OwnM.inv {w : World} {base : Nat} {e : TypeId} {g n cap : Nat} {l : List Value} (h : OwnM w base e (.slice (some ⟨g, 0, none⟩) n cap) l) :
    ∃ cur fz, n = l.length ∧ base ≤ g ∧ w.heap[g]? = some (.cells cur e fz) ∧ (fz = (0, 0) ∨ cur.size ≤ fz.1) ∧ l.length ≤ cap ∧ cap ≤ maxLen ∧ cur.size = cap ∧ cur.toList.take l.length = l := by
  obtain ⟨g', cap', cur, fz, hv, h1⟩ := h
  simp only [Value.slice.injEq, Option.some.injEq, Addr.mk.injEq, and_true] at hv
  obtain ⟨rfl, rfl, rfl⟩ := hv
  exact ⟨cur, fz, rfl, h1⟩
theorem OwnM.frozen {w : World} {base : Nat} {e : TypeId} {g n cap : Nat} {l : List Value} (h : OwnM w base e (.slice (some ⟨g, 0, none⟩) n cap) l) (k : Nat) (hk : k < l.length) : w.frozen? ⟨g, k, none⟩ = false := by
  obtain ⟨cur, fz, _, _, hg, hf, hc, _, hs, _⟩ := h.inv
  unfold World.frozen?
  simp only [hg]
  rcases hf with rfl | hf
  · simp
  · simp; omega
theorem OwnM.cell {w : World} {base : Nat} {e : TypeId} {g n cap : Nat} {l : List Value} (h : OwnM w base e (.slice (some ⟨g, 0, none⟩) n cap) l) (k : Nat) (hk : k < l.length) : w.cell? ⟨g, k, none⟩ = l[k]? := by
  obtain ⟨cur, fz, _, _, hg, hf, hc, _, hs, ht⟩ := h.inv
  rw [cell_of_row w g k cur e fz hg]
  have : (cur.toList.take l.length)[k]? = l[k]? := by rw [ht]
  rw [List.getElem?_take, if_pos hk] at this
  simpa using this
theorem OwnM.set {w : World} {base : Nat} {e : TypeId} {g n cap : Nat} {l : List Value} (h : OwnM w base e (.slice (some ⟨g, 0, none⟩) n cap) l) (k : Nat) (v : Value) : OwnM (w.setCell ⟨g, k, none⟩ v) base e (.slice (some ⟨g, 0, none⟩) n cap) (l.set k v) := by
  obtain ⟨cur, fz, hn, hb, hg, hf, hc, hm, hs, ht⟩ := h.inv
  refine ⟨g, cap, cur.setIfInBounds k v, fz, by rw [List.length_set, hn], hb, ?_, by simpa using hf, by simpa using hc, hm, by simpa using hs, ?_⟩
  · unfold World.setCell
    simp [hg, Array.getElem?_modify]
  · rw [List.length_set, Array.toList_setIfInBounds, List.take_set, ht]
theorem OwnM.lt {w : World} {base : Nat} {e : TypeId} {v : Value} {l : List Value} (h : OwnM w base e v l) : base ≤ w.heap.size := by
  obtain ⟨g, cap, cur, fz, _, hb, hg, _⟩ := h
  have := (Array.getElem?_eq_some_iff.1 hg).1
  omega

/-- '[]byte(s)'. -/
theorem bytes_made {P : Program} (w : World) (src dst e : TypeId) (s : ByteArray) (hs : P.underlying src = some .string) (hd : P.underlying dst = some (.slice e)) (he : P.underlying e = some (.int .u8)) (base : Nat) (hb : base ≤ w.heap.size) (hz : s.size ≤ maxLen) :
    ∃ v w', (convert src dst (.string s)).run P w = .ok v w' ∧ OwnM w' base e v (cellsB s.data.toList) ∧ Below base w w' ∧ w.heap.size < w'.heap.size := by
  have hr := run_bytes_of_string (P := P) w src dst e s hs hd he
  have hge := grownCap_ge w s.size 0 e
  have hcm := grownCap_le_maxLen w s.size 0 e hz
  have hss : s.data.size = s.size := rfl
  have hlen : (cellsB s.data.toList).length = s.size := by rw [cellsB_length]; simp
  refine ⟨_, _, hr, ⟨w.heap.size, grownCap w s.size 0 e, _, _, by rw [hlen], hb, heap_alloc_new w.drew _, .inr (Nat.le_refl _), by rw [hlen]; exact hge, hcm, ?_, ?_⟩, ?_, ?_⟩
  · simp [bytesRow, hss]; omega
  · rw [hlen]
    unfold bytesRow
    rw [Array.toList_append, List.take_append_of_le_length (by simp), List.take_of_length_le (by simp)]
    simp [cellsB]
  · exact ((Below.refl base w).drew).alloc hb _
  · show w.heap.size < (w.heap.push _).size
    simp
theorem storeCells_mark (P : Program) (g o : Nat) (t : TypeId) (fz : Nat × Nat) : ∀ (vs : List Value) (i : Nat) (cur : Array Value) (w : World), w.heap[g]? = some (.cells cur t fz) → (fz = (0, 0) ∨ cur.size ≤ fz.1) → o + i + vs.length ≤ cur.size → (∀ v ∈ vs, v.oneCell' = true) →
    (storeCells ⟨g, o, none⟩ vs i).run P w = .ok () (w.setRow g (cur.toList.take (o + i) ++ vs ++ cur.toList.drop (o + i + vs.length)).toArray)
  | [], i, cur, w, hg, _, _, _ => by
    simp only [storeCells, List.append_nil, List.length_nil, Nat.add_zero, List.take_append_drop, Array.toArray_toList]
    rw [setRow_self w g cur t fz hg]
    rfl
  | v :: rest, i, cur, w, hg, hf, hl, h1 => by
    have hi : o + i < cur.size := by simp at hl; omega
    have hadd : (⟨g, o, none⟩ : Addr).add i = ⟨g, o + i, none⟩ := by unfold Addr.add; split <;> simp_all
    have hcell : w.cell? ⟨g, o + i, none⟩ = some cur[o + i] := by rw [cell_of_row w g (o + i) cur t fz hg]; simp [hi]
    have hfro : w.frozen? ⟨g, o + i, none⟩ = false := by
      unfold World.frozen?
      simp only [hg]
      rcases hf with rfl | hf
      · simp
      · simp; omega
    have hst : (store ((⟨g, o, none⟩ : Addr).add i) v).run P w = .ok () (w.setRow g (cur.setIfInBounds (o + i) v)) := by
      rw [hadd, run_store P w _ v _ (h1 v (by simp)), hcell]
      simp [hfro, setCell_eq_setRow w g (o + i) cur t fz v hg]
    have ih := storeCells_mark P g o t fz rest (i + 1) (cur.setIfInBounds (o + i) v) (w.setRow g (cur.setIfInBounds (o + i) v)) (setRow_heap w g cur _ t _ hg) (by simpa using hf) (by simp at hl ⊢; omega) (fun x hx => h1 x (by simp [hx]))
    simp only [storeCells, Sem.run_bind, hst, Result.andThen_ok, ih, setRow_setRow]
    congr 3
    have e := list_seg_step cur.toList (o + i) v rest (by simp at hl ⊢; omega)
    simpa [Array.toList_setIfInBounds, Nat.add_assoc] using e
theorem run_append_mark {P : Program} (w : World) (base : Nat) (t ty e : TypeId) (i : TypeInfo) (z : Value) (ht : P.underlying t = some (.slice e)) (hi : P.info? e = some i) (hz : i.zero = some z) (hsize : i.size = 1) (hby : i.bytes ≤ 64) (hzs : z.cells.size = 1)
    (v : Value) (l m : List Value) (hown : OwnM w base e v l) (g c : Nat) (hc : ∀ j u, m[j]? = some u → w.cell? ⟨g, j, none⟩ = some u) (h1 : ∀ u ∈ m, u.oneCell' = true) (hlen : l.length + m.length ≤ 1000000000) (hbase : base ≤ w.heap.size) :
    ∃ v' w', (Builtin.append_ #[t, t] ty #[v, .slice (some ⟨g, 0, none⟩) m.length c]).run P w = .ok v' w' ∧ OwnM w' base e v' (l ++ m) ∧ Below base w w' ∧ w.heap.size ≤ w'.heap.size := by
  have hnews : ∀ j u, m[j]? = some u → w.cell? ((⟨g, 0, none⟩ : Addr).add j) = some u := fun j u h => by rw [addr0_add]; exact hc j u h
  have hf := hown.form
  obtain ⟨b, cap, cur, fz, rfl, hb, hg, hfz, hlc, hcm, hcs, htake⟩ := hown
  have hbt : (l.length + m.length) * i.bytes ≤ 140737488355328 := by have := Nat.mul_le_mul_left (l.length + m.length) hby; omega
  by_cases hroom : l.length + m.length ≤ cap
  · have hff := run_firstCells_some (P := P) w i.size m.length ⟨g, 0, none⟩ m.length c m (by rw [hsize]; simp) hnews
    have hst := storeCells_mark P b (l.length * i.size) e fz m 0 cur w hg hfz (by rw [hsize]; omega) h1
    simp only [Nat.add_zero] at hst
    have hr : (Builtin.append_ #[t, t] ty #[.slice (some ⟨b, 0, none⟩) l.length cap, .slice (some ⟨g, 0, none⟩) m.length c]).run P w =
        .ok (.slice (some ⟨b, 0, none⟩) (l.length + m.length) cap) (w.setRow b (cur.toList.take (l.length * i.size) ++ m ++ cur.toList.drop (l.length * i.size + m.length)).toArray) := by
      simp [Builtin.append_, run_underlying ht, sizeOf, typeInfo, hi, Builtin.lenOf, hroom, hff, Addr.add_lit, hst]
    refine ⟨_, _, hr, ⟨b, cap, _, fz, by rw [List.length_append], hb, setRow_heap w b cur _ e _ hg, ?_, by rw [List.length_append]; exact hroom, hcm, ?_, ?_⟩, below_setRow (Below.refl _ _) hb _, by simp⟩
    · rcases hfz with h | h
      · exact .inl h
      · right
        simp [hsize]; omega
    · simp [hsize]; omega
    · rw [hsize, Nat.mul_one, htake, List.length_append, ← List.length_append]
      exact List.take_left
  · obtain ⟨b', cap', hv, _, _, _, hcells⟩ := hf
    simp only [Value.slice.injEq, Option.some.injEq, Addr.mk.injEq, and_true, true_and] at hv
    obtain ⟨rfl, rfl⟩ := hv
    have hr := run_append_grow (P := P) w t ty e i z ht hi hz ⟨b, 0, none⟩ l.length cap l (by rw [hsize]; simp) (fun j u h => by rw [addr0_add]; exact hcells j u h) ⟨g, 0, none⟩ m.length c m (by rw [hsize]; simp) hnews (by omega) (by omega) (growslice_fits (by omega) hbt)
    have hge := grownCap_ge w (l.length + m.length) cap e
    refine ⟨_, _, hr, ⟨w.heap.size, _, _, (0, 0), by rw [List.length_append], hbase, heap_alloc_new w.drew _, .inl rfl, by rw [List.length_append]; exact hge, grownCap_le_maxLen w _ _ e (by unfold maxLen; omega), ?_, ?_⟩, ((Below.refl base w).drew).alloc hbase _, by show w.heap.size ≤ (w.heap.push _).size; simp⟩
    · simp only [Array.size_append, List.size_toArray, size_zeroCells, hzs]
      omega
    · simp only [Array.toList_append]
      exact List.take_left
theorem wpList_append_mark {P : Program} {w : World} {ops : Array Oper} {rest : List Oper} {o : Oper} {a : Act} {Q : Exit → Act → World → Prop} (hgd : o.guard = none) (s x : Operand) (t : TypeId)
    (ho : o.op = .call { callee := .builtin .append, args := #[s, x], argTypes := #[t, t] })
    (base : Nat) (e : TypeId) (ht : P.underlying t = some (.slice e)) (z : Value) (hz : z.cells.size = 1) (by_ : Nat) (hby : by_ ≤ 64) (hi : (P.info? e).map (fun i => (i.zero, i.size, i.bytes)) = some (some z, 1, by_))
    (v : Value) (l m : List Value) (hs : a.eval s = v) (hown : OwnM w base e v l)
    (g c : Nat) (hx : a.eval x = .slice (some ⟨g, 0, none⟩) m.length c) (hc : ∀ j u, m[j]? = some u → w.cell? ⟨g, j, none⟩ = some u) (h1 : ∀ u ∈ m, u.oneCell' = true)
    (hlen : l.length + m.length ≤ 1000000000)
    (h : ∀ v' w', OwnM w' base e v' (l ++ m) → Below base w w' → w.heap.size ≤ w'.heap.size → wpList P ops Q rest (a.put o.dst v') w') : wpList P ops Q (o :: rest) a w := by
  obtain ⟨i0, hi0, hz0, hz1, hz2⟩ := info_parts hi
  refine wpList_plain hgd fun K hK => ?_
  obtain ⟨v', w', hr, h2, h3, h4⟩ := run_append_mark (P := P) w base t o.type e i0 z ht hi0 hz0 hz1 (by omega) hz v l m hown g c hc h1 hlen hown.lt
  unfold Oper.wp execOp
  simp only [ho, resolve, invoke, builtin, Sem.run_bind, Sem.run_pure, Result.andThen_ok, List.map_toArray, List.map_cons, List.map_nil, hs, hx, hr]
  exact hK _ _ (h v' w' h2 h3 h4)
theorem OwnM.text {P : Program} {w : World} {base : Nat} {e : TypeId} {v : Value} {l : List UInt8} (h : OwnM w base e v (cellsB l)) (src dst : TypeId) (hs : P.underlying src = some (.slice e)) (he : P.underlying e = some (.int .u8)) (hd : P.underlying dst = some .string) :
    (convert src dst v).run P w = .ok (.string ⟨l.toArray⟩) w := by
  obtain ⟨g, cap, rfl, _, _, _, hc⟩ := h.form
  rw [cellsB_length]
  refine run_convert_bytes_back w src dst e ⟨g, 0, none⟩ cap l hs he hd ?_
  intro j hj
  rw [addr0_add]
  exact hc j _ (by simp [cellsB, hj])
end Go.Proofs.YtialedffpaoacaaGreatDoor
