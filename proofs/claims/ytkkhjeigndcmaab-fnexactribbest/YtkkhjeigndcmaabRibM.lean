/- Right tables, in plain lists. -/
import Derived.Test.YtkkhjeigndcmaabRibR
import Derived.Test.YtkkhjeigndcmaabMapI
namespace Go.Proofs.Ytkkhjeigndcmaab
open Go.RowKit Go.Sort

def ltP (r s : Rt) : Prop := r.a < s.a ∨ (r.a = s.a ∧ r.l < s.l)
theorem ltR_iff (r s : Rt) : ltR r s = true ↔ ltP r s := by simp [ltR, ltP]
theorem ltP_trans {r s t : Rt} (h : ltP r s) (k : ltP s t) : ltP r t := by unfold ltP at *; omega
theorem ltP_ne {r s : Rt} (h : ltP r s) : isN s.a s.l r = false := by
  cases hn : isN s.a s.l r with
  | false => rfl
  | true =>
    obtain ⟨h1, h2⟩ := isN_eq hn
    unfold ltP at h
    omega
theorem rib_rising {rs : List Rt} (h : ribB rs = true) : rs.Pairwise ltP := by
  obtain ⟨_, hk⟩ := ribB_spec h
  rw [List.pairwise_iff_getElem]
  have step : ∀ j (hj : j + 1 < rs.length), ltP (rs[j]'(by omega)) rs[j + 1] := fun j hj => by
    have := hk (j + 1) hj
    unfold okAt at this
    simp only [Bool.and_eq_true, Bool.or_eq_true, decide_eq_true_eq, Nat.add_sub_cancel] at this
    rw [get_bang hj, get_bang (by omega)] at this
    rcases this.2 with h | h
    · omega
    · exact (ltR_iff _ _).1 h
  intro i j hi hj hij
  induction j with
  | zero => omega
  | succ j ih =>
    rcases Nat.lt_or_ge i j with h' | h'
    · exact ltP_trans (ih (by omega) h') (step j hj)
    · obtain rfl : i = j := by omega
      exact step i hj
theorem laidN_rising {rs : List Rt} (h : rs.Pairwise ltP) : laidN rs = rs := by
  have : ∀ k, k ≤ rs.length → laidN (rs.take k) = rs.take k := by
    intro k
    induction k with
    | zero => intro _; rfl
    | succ k ih =>
      intro hk
      rw [laidN_next rs k (by omega), ih (by omega)]
      have hn : idxN (rs.take k) rs[k].a rs[k].l = none := by
        unfold idxN
        rw [List.findIdx?_eq_none_iff]
        intro x hx
        obtain ⟨j, hj, rfl⟩ := List.mem_iff_getElem.1 hx
        simp only [List.length_take] at hj
        rw [List.getElem_take]
        exact ltP_ne ((List.pairwise_iff_getElem.1 h) j k (by omega) (by omega) (by omega))
      unfold putN
      rw [hn, List.take_succ_eq_append_getElem (by omega)]
  have := this rs.length (Nat.le_refl _)
  rwa [List.take_length] at this
theorem laidN_right {rs : List Rt} (h : ribB rs = true) : laidN rs = rs := laidN_rising (rib_rising h)
/-- What RibFind answers. -/
def findR (rs : List Rt) (a l : Int) : Rt := if ribB rs = true then (lookN rs a l).getD zeroR else zeroR
theorem findR_bad {rs : List Rt} {a l : Int} (h : ribB rs = false) : findR rs a l = zeroR := if_neg (by rw [h]; simp)
theorem findR_right {rs : List Rt} {a l : Int} (h : ribB rs = true) : findR rs a l = (lookN rs a l).getD zeroR := if_pos h
/-- A box of one cell, one of two and nine cells, one behind the other. -/
theorem boxes3 (w : World) (x : List Value) (y : List Value) (z : List Value) (t1 t2 t3 : TypeId) {w1 : World} (h : Below (((w.alloc (.cells x.toArray t1)).alloc (.cells y.toArray t2)).alloc (.cells z.toArray t3)).heap.size (((w.alloc (.cells x.toArray t1)).alloc (.cells y.toArray t2)).alloc (.cells z.toArray t3)) w1) : Row w1 w.heap.size t1 x ∧ Row w1 (w.heap.size + 1) t2 y ∧ Row w1 (w.heap.size + 1 + 1) t3 z ∧ Below w.heap.size w w1 ∧ w.heap.size + 1 + 1 < w1.heap.size := by
  obtain ⟨W, rfl, q0, q1, q2, hB, hS, -⟩ := rows3 w x y z t1 t2 t3
  refine ⟨q0.below h q0.lt, q1.below h q1.lt, q2.below h q2.lt, hB.trans (h.mono hB.size), ?_⟩
  have := h.size; omega
theorem stab_tab (rs : List Rt) : ∀ (x : Value) (w1 w2 : World), (∃ B, x = tabV B ∧ MapIs w1 B rs) → Below w1.heap.size w1 w2 → ∃ B, x = tabV B ∧ MapIs w2 B rs := by
  rintro x w1 w2 ⟨B, e, h⟩ hb
  exact ⟨B, e, h.below hb h.lt⟩
theorem k3_below {w1 w2 : World} {p q : Nat} {x y z : Value} (h : w1.cell? ⟨p, 0, none⟩ = some x ∧ w1.cell? ⟨q, 0, none⟩ = some y ∧ w1.cell? ⟨q, 1, none⟩ = some z) (hb : Below w1.heap.size w1 w2) : w2.cell? ⟨p, 0, none⟩ = some x ∧ w2.cell? ⟨q, 0, none⟩ = some y ∧ w2.cell? ⟨q, 1, none⟩ = some z := by
  have hk : ∀ g k v, w1.cell? ⟨g, k, none⟩ = some v → w2.cell? ⟨g, k, none⟩ = some v := fun g k v hv => by rw [hb.cell (World.block_lt_of_cell? w1 _ hv)]; exact hv
  exact ⟨hk _ _ _ h.1, hk _ _ _ h.2.1, hk _ _ _ h.2.2⟩
theorem k3_b {w1 w2 : World} {p q : Nat} {x y z : Value} (hb : Below w1.heap.size w1 w2) (h : w1.cell? ⟨p, 0, none⟩ = some x ∧ w1.cell? ⟨q, 0, none⟩ = some y ∧ w1.cell? ⟨q, 1, none⟩ = some z) : w2.cell? ⟨p, 0, none⟩ = some x ∧ w2.cell? ⟨q, 0, none⟩ = some y ∧ w2.cell? ⟨q, 1, none⟩ = some z := k3_below h hb
theorem newRow9 {w w1 : World} (hb : Below (w.alloc (.cells #[.int .i64 0, .int .i64 0, .int .i64 0, .int .i64 0, .int .i64 0, .int .i64 0, .int .i64 0, .int .i64 0, .bool false] 30)).heap.size (w.alloc (.cells #[.int .i64 0, .int .i64 0, .int .i64 0, .int .i64 0, .int .i64 0, .int .i64 0, .int .i64 0, .int .i64 0, .bool false] 30)) w1) : Row w1 w.heap.size 30 [.int .i64 0, .int .i64 0, .int .i64 0, .int .i64 0, .int .i64 0, .int .i64 0, .int .i64 0, .int .i64 0, .bool false] := (Row.new w 30 [.int .i64 0, .int .i64 0, .int .i64 0, .int .i64 0, .int .i64 0, .int .i64 0, .int .i64 0, .int .i64 0, .bool false]).below hb (Row.new w 30 [.int .i64 0, .int .i64 0, .int .i64 0, .int .i64 0, .int .i64 0, .int .i64 0, .int .i64 0, .int .i64 0, .bool false]).lt
theorem newRow9d {w w1 : World} {n : Nat} (hb : Below ((w.alloc (.cells #[.int .i64 0, .int .i64 0, .int .i64 0, .int .i64 0, .int .i64 0, .int .i64 0, .int .i64 0, .int .i64 0, .bool false] 30)).drewN n).heap.size ((w.alloc (.cells #[.int .i64 0, .int .i64 0, .int .i64 0, .int .i64 0, .int .i64 0, .int .i64 0, .int .i64 0, .int .i64 0, .bool false] 30)).drewN n) w1) : Row w1 w.heap.size 30 [.int .i64 0, .int .i64 0, .int .i64 0, .int .i64 0, .int .i64 0, .int .i64 0, .int .i64 0, .int .i64 0, .bool false] := Row.below (w := (w.alloc (.cells #[.int .i64 0, .int .i64 0, .int .i64 0, .int .i64 0, .int .i64 0, .int .i64 0, .int .i64 0, .int .i64 0, .bool false] 30)).drewN n) (Row.new w 30 [.int .i64 0, .int .i64 0, .int .i64 0, .int .i64 0, .int .i64 0, .int .i64 0, .int .i64 0, .int .i64 0, .bool false]) hb (Row.new w 30 [.int .i64 0, .int .i64 0, .int .i64 0, .int .i64 0, .int .i64 0, .int .i64 0, .int .i64 0, .int .i64 0, .bool false]).lt
theorem cells9 {w : World} {g : Nat} {t : TypeId} (h : Row w g t [.int .i64 0, .int .i64 0, .int .i64 0, .int .i64 0, .int .i64 0, .int .i64 0, .int .i64 0, .int .i64 0, .bool false]) : w.cell? ⟨g, 0, none⟩ = some (.int .i64 0) ∧ w.cell? ⟨g, 1, none⟩ = some (.int .i64 0) ∧ w.cell? ⟨g, 2, none⟩ = some (.int .i64 0) ∧ w.cell? ⟨g, 3, none⟩ = some (.int .i64 0) ∧ w.cell? ⟨g, 4, none⟩ = some (.int .i64 0) ∧ w.cell? ⟨g, 5, none⟩ = some (.int .i64 0) ∧ w.cell? ⟨g, 6, none⟩ = some (.int .i64 0) ∧ w.cell? ⟨g, 7, none⟩ = some (.int .i64 0) ∧ w.cell? ⟨g, 8, none⟩ = some (.bool false) ∧ w.frozen? ⟨g, 0, none⟩ = false ∧ w.frozen? ⟨g, 1, none⟩ = false ∧ w.frozen? ⟨g, 2, none⟩ = false ∧ w.frozen? ⟨g, 3, none⟩ = false ∧ w.frozen? ⟨g, 4, none⟩ = false ∧ w.frozen? ⟨g, 5, none⟩ = false ∧ w.frozen? ⟨g, 6, none⟩ = false ∧ w.frozen? ⟨g, 7, none⟩ = false ∧ w.frozen? ⟨g, 8, none⟩ = false := ⟨h.cell 0, h.cell 1, h.cell 2, h.cell 3, h.cell 4, h.cell 5, h.cell 6, h.cell 7, h.cell 8, h.frozen 0, h.frozen 1, h.frozen 2, h.frozen 3, h.frozen 4, h.frozen 5, h.frozen 6, h.frozen 7, h.frozen 8⟩
theorem stab_new (B : Nat) (t : TypeId) (l : List Value) : ∀ (x : Value) (w1 w2 : World), (∃ g, x = .pointer (some ⟨g, 0, none⟩) ∧ B ≤ g ∧ Row w1 g t l) → Below w1.heap.size w1 w2 → ∃ g, x = .pointer (some ⟨g, 0, none⟩) ∧ B ≤ g ∧ Row w2 g t l := by
  rintro x w1 w2 ⟨g, e, hg, h⟩ hb
  exact ⟨g, e, hg, h.below hb h.lt⟩
end Go.Proofs.Ytkkhjeigndcmaab
