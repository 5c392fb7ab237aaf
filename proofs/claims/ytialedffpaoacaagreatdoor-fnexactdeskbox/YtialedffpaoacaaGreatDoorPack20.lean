/- Texts that stand on each other, in one file: KeysM. -/
import Derived.Test.YtialedffpaoacaaGreatDoorPack16
import Derived.Test.YtialedffpaoacaaGreatDoorPack17
import Derived.Maps.RangeRun
/- A range over a map of routes: which nets have come. -/
namespace Go.Proofs.YtialedffpaoacaaGreatDoor
open Go.RowKit Go.Sort

def netOfR (r : Rt) : NP := (r.a, r.l)
def bornAt (es : List MapEntry) (i : Nat) : Nat := (es[i]?.map (·.born)).getD 0
theorem bornAt_get {es : List MapEntry} {i : Nat} {e : MapEntry} (h : es[i]? = some e) : bornAt es i = e.born := by simp [bornAt, h]
theorem bornAt_inj {es : List MapEntry} (hp : (es.map (·.born)).Pairwise (· < ·)) {i j : Nat} (hi : i < es.length) (hj : j < es.length) (h : bornAt es i = bornAt es j) : i = j := by
  rw [bornAt_get (List.getElem?_eq_getElem hi), bornAt_get (List.getElem?_eq_getElem hj)] at h
  have hq := List.pairwise_iff_getElem.1 hp
  rcases Nat.lt_trichotomy i j with h' | h' | h'
  · have := hq i j (by simpa using hi) (by simpa using hj) h'
    simp only [List.getElem_map] at this
    omega
  · exact h'
  · have := hq j i (by simpa using hj) (by simpa using hi) h'
    simp only [List.getElem_map] at this
    omega
theorem nodup_bound : ∀ (n : Nat) (l : List Nat), l.Nodup → (∀ x ∈ l, x < n) → l.length ≤ n
  | 0, l, _, h => by
    cases l with
    | nil => simp
    | cons x l => exact absurd (h x (by simp)) (by omega)
  | n + 1, l, hd, h => by
    by_cases hm : n ∈ l
    · have h1 := nodup_bound n (l.erase n) (hd.erase n) (fun x hx => by
        rw [hd.mem_erase_iff] at hx
        have := h x hx.2
        omega)
      rw [List.length_erase_of_mem hm] at h1
      have : 0 < l.length := List.length_pos_of_mem hm
      omega
    · have h1 := nodup_bound n l hd (fun x hx => by
        have := h x hx
        have : x ≠ n := fun e => hm (e ▸ hx)
        omega)
      omega
/-- Block r is a range over the map in block b, which holds rs; the nets got have come. -/
def Rng (w : World) (b r : Nat) (rs : List Rt) (got : List NP) : Prop := ∃ (es : Array MapEntry) (clock : Nat) (seen : Array Nat) (ix : List Nat), w.heap[b]? = some (.map es clock) ∧ Holds es.toList rs ∧ (es.toList.map (·.born)).Pairwise (· < ·) ∧ (∀ e ∈ es.toList, e.born < clock) ∧ w.heap[r]? = some (.mapIter (some b) clock seen clock) ∧
  ix.Nodup ∧ (∀ i ∈ ix, i < rs.length) ∧ seen.toList = ix.map (bornAt es.toList) ∧ got = ix.map fun i => netOfR rs[i]!
theorem Rng.map {w : World} {b r : Nat} {rs : List Rt} {got : List NP} (h : Rng w b r rs got) : MapIs w b rs := by
  obtain ⟨es, clock, seen, ix, h1, h2, h3, h4, _⟩ := h
  exact ⟨es, clock, h1, h2, h3, h4⟩
theorem Rng.kept {w w' : World} {b r : Nat} {rs : List Rt} {got : List NP} (h : Rng w b r rs got) (hb : ∀ o, w.heap[b]? = some o → w'.heap[b]? = some o) (hr : ∀ m s c t, w.heap[r]? = some (.mapIter m s c t) → w'.heap[r]? = some (.mapIter m s c t)) : Rng w' b r rs got := by
  obtain ⟨es, clock, seen, ix, h1, h2, h3, h4, h5, h6⟩ := h
  exact ⟨es, clock, seen, ix, hb _ h1, h2, h3, h4, hr _ _ _ _ h5, h6⟩
theorem range_run {w : World} {b : Nat} {rs : List Rt} (h : MapIs w b rs) : ∃ w', (Instr.range 250 (.map (some b))).run Tryz.prog w = .ok (.pointer (some ⟨w.heap.size, 0, none⟩)) w' ∧ Rng w' b w.heap.size rs [] ∧ w.grownBy w' none ∧ w'.heap.size = w.heap.size + 1 := by
  have hlt := h.lt
  obtain ⟨es, clock, hb, hh, hp, hc⟩ := h
  refine ⟨w.alloc (.mapIter (some b) clock #[] clock), ?_, ⟨es, clock, #[], [], ?_, hh, hp, hc, heap_alloc_new w _, List.nodup_nil, by simp, rfl, rfl⟩, World.grownBy_alloc w _ none, by simp⟩
  · unfold Instr.range
    simp only [Sem.run_bind, run_underlying mapUnd, Result.andThen_ok, MapKept.run_getObj_map hb, Sem.run_pure]
    rfl
  · exact (Below.heap_alloc w _ b hlt).trans hb
theorem rng_next {w : World} {b r : Nat} {rs : List Rt} {got : List NP} (h : Rng w b r rs got) (hne : b ≠ r) (ty : TypeId) :
    (got.Perm (rs.map netOfR) ∧ (Instr.next (.pointer (some ⟨r, 0, none⟩)) false ty).run Tryz.prog w = .ok (.tuple #[.bool false]) w) ∨
    ∃ x v w', (Instr.next (.pointer (some ⟨r, 0, none⟩)) false ty).run Tryz.prog w = .ok (.tuple #[.bool true, netV x.1 x.2, v]) w' ∧ Rng w' b r rs (got ++ [x]) ∧ w.grownBy w' (some r) ∧ w'.heap.size = w.heap.size ∧ got.length < rs.length ∧ (Instr.entry (.pointer (some ⟨r, 0, none⟩))).run Tryz.prog w' = .ok (.tuple #[netV x.1 x.2, v]) w' := by
  obtain ⟨es, clock, seen, ix, hb, hh, hp, hc, hr, hnd, hix, hseen, rfl⟩ := h
  have hlen := hh.nil_iff
  have hcon : ∀ i, i < rs.length → (seen.contains (bornAt es.toList i) = true ↔ i ∈ ix) := by
    intro i hi
    rw [Array.contains_iff_mem, ← Array.mem_toList_iff, hseen, List.mem_map]
    constructor
    · rintro ⟨j, hj, e⟩
      have := bornAt_inj hp (i := j) (j := i) (by have := hix j hj; omega) (by omega) e
      rwa [this] at hj
    · intro hi'
      exact ⟨i, hi', rfl⟩
  rcases run_next_at (P := Tryz.prog) w ty r b clock clock seen es clock hr hb hc (Nat.le_refl _) with ⟨h0, hrun⟩ | ⟨e, he, w1, hw1, hrun⟩
  · refine .inl ⟨?_, hrun⟩
    have hall : ∀ i, i < rs.length → i ∈ ix := by
      intro i hi
      by_cases hm : i ∈ ix
      · exact hm
      · exfalso
        have hne' : seen.contains (bornAt es.toList i) = false := by
          cases hcc : seen.contains (bornAt es.toList i) with
          | false => rfl
          | true => exact absurd ((hcon i hi).1 hcc) hm
        have hmem : es.toList[i]'(by omega) ∈ (leftOf es seen).toList := by
          unfold leftOf
          rw [Array.toList_filter, List.mem_filter]
          refine ⟨List.getElem_mem _, ?_⟩
          rw [bornAt_get (List.getElem?_eq_getElem (by omega))] at hne'
          rw [hne']
          rfl
        have : (leftOf es seen).toList = [] := List.length_eq_zero_iff.1 (by simpa using h0)
        rw [this] at hmem
        cases hmem
    have hperm : ix.Perm (List.range rs.length) := (List.perm_ext_iff_of_nodup hnd List.nodup_range).2 fun i => ⟨fun hi => List.mem_range.2 (hix i hi), fun hi => hall i (List.mem_range.1 hi)⟩
    have e2 : (List.range rs.length).map (fun i => netOfR rs[i]!) = rs.map netOfR := by
      apply List.ext_getElem (by simp)
      intro i h1 h2
      simp only [List.length_map, List.length_range] at h1
      simp [h1]
    rw [← e2]
    exact hperm.map _
  · have hmem : e ∈ es.toList ∧ seen.contains e.born = false := by
      unfold leftOf at he
      rw [Array.toList_filter, List.mem_filter] at he
      exact ⟨he.1, by simpa using he.2⟩
    obtain ⟨i, hi, hei⟩ := List.mem_iff_getElem.1 hmem.1
    have hi' : i < rs.length := by omega
    have hg : es.toList[i]? = some e := by rw [List.getElem?_eq_getElem hi, hei]
    have hni : i ∉ ix := fun hm => by
      have := (hcon i hi').2 hm
      rw [bornAt_get hg, hmem.2] at this
      cases this
    obtain ⟨e', he', hk, hv⟩ := hh.get i hi'
    rw [hg] at he'
    obtain rfl : e = e' := by simpa using he'
    have hx : netOfR rs[i]! = (rs[i].a, rs[i].l) := by rw [getElem!_pos rs i hi']; rfl
    have hrl : r < w.heap.size := (Array.getElem?_eq_some_iff.1 hr).1
    have hb1 : w1.heap = w.heap := by rcases hw1 with rfl | rfl <;> rfl
    have hset : (ChangeMaps.setBlock w1 r (.mapIter (some b) clock (seen.push e.born) clock)).heap = w.heap.setIfInBounds r (.mapIter (some b) clock (seen.push e.born) clock) := by simp [ChangeMaps.setBlock, hb1]
    have hrb : (ChangeMaps.setBlock w1 r (.mapIter (some b) clock (seen.push e.born) clock)).heap[r]? = some (.mapIter (some b) clock (seen.push e.born) clock) := by rw [hset]; simp [hrl]
    have hbb : (ChangeMaps.setBlock w1 r (.mapIter (some b) clock (seen.push e.born) clock)).heap[b]? = some (.map es clock) := by rw [hset, Array.getElem?_setIfInBounds_ne hne.symm]; exact hb
    refine .inr ⟨netOfR rs[i]!, e.val, _, ?_, ⟨es, clock, seen.push e.born, ix ++ [i], hbb, hh, hp, hc, hrb, ?_, ?_, ?_, ?_⟩, ?_, ?_, ?_, ?_⟩
    · rw [hrun, hk, hx]
    · rw [List.nodup_append]
      exact ⟨hnd, by simp, fun p hpm q hq => by simp only [List.mem_singleton] at hq; exact fun e => hni (hq ▸ e ▸ hpm)⟩
    · intro j hj
      simp only [List.mem_append, List.mem_singleton] at hj
      rcases hj with hj | rfl
      · exact hix j hj
      · exact hi'
    · rw [Array.toList_push, hseen, List.map_append, List.map_cons, List.map_nil, bornAt_get hg]
    · rw [List.map_append]; rfl
    · refine ⟨?_, ?_, ?_, by rw [hset]; simp, fun k _ hk => ?_⟩
      · rcases hw1 with rfl | rfl <;> rfl
      · rcases hw1 with rfl | rfl <;> rfl
      · rcases hw1 with rfl | rfl <;> rfl
      · rw [hset, Array.getElem?_setIfInBounds_ne (by intro e; exact hk (by rw [e]))]
    · rw [hset]; simp
    · rw [List.length_map]
      have h1 := nodup_bound rs.length (ix ++ [i]) (by
        rw [List.nodup_append]
        exact ⟨hnd, by simp, fun p hpm q hq => by simp only [List.mem_singleton] at hq; exact fun e => hni (hq ▸ e ▸ hpm)⟩) (fun j hj => by
          simp only [List.mem_append, List.mem_singleton] at hj
          rcases hj with hj | rfl
          · exact hix j hj
          · exact hi')
      simp at h1
      omega
    · rw [hx, ← hk]
      exact run_entry_at _ r b clock seen es clock e hrb hbb hmem.1 (by
        have := hp
        exact this.imp (fun h => by omega))
end Go.Proofs.YtialedffpaoacaaGreatDoor
