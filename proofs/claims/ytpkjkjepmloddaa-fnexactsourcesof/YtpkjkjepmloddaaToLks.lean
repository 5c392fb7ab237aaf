/- The laws' own lists of Leaks: opened. (Written by gen_lks.py.) -/
import Derived.Test.YtpkjkjepmloddaaOpenLk
import Derived.Test.YtpkjkjepmloddaaLks
import Derived.OwnWalk
namespace Go.Proofs.Ytpkjkjepmloddaa
open Go.ChangeShapes Go.WideShapes Go.RowKit Go.Sort Go.Deep Go.Joins

/-- The slice (x, len) that was handed in holds the Leaks rs. -/
def ArgL (w : World) (x : Option Addr) (len : Nat) (rs : List Lk) : Prop := rs.length = len ∧ len ≤ maxLen ∧ (∀ e ∈ rs, LkW e) ∧ ∀ i, (h : i < rs.length) → ∃ p, x = some p ∧ w.cell? (p.add (i * 6)) = some (.int .i64 rs[i].fr) ∧ w.cell? (p.add (i * 6 + 1)) = some (.int .i64 rs[i].tt) ∧ w.cell? (p.add (i * 6 + 2)) = some (.int .i64 rs[i].a) ∧ w.cell? (p.add (i * 6 + 3)) = some (.int .i64 rs[i].l) ∧ w.cell? (p.add (i * 6 + 4)) = some (.int .i64 rs[i].ad) ∧ w.cell? (p.add (i * 6 + 5)) = some (.int .i64 rs[i].tg)
theorem ArgL.below {w w' : World} {x : Option Addr} {len : Nat} {rs : List Lk} (h : ArgL w x len rs) (hb : Below w.heap.size w w') : ArgL w' x len rs := by
  obtain ⟨h1, h2, h3, h4⟩ := h
  refine ⟨h1, h2, h3, fun i hi => ?_⟩
  obtain ⟨p, hp, c0, c1, c2, c3, c4, c5⟩ := h4 i hi
  have hk : ∀ k v, w.cell? (p.add k) = some v → w'.cell? (p.add k) = some v := fun k v hv => by rw [hb.cell (World.block_lt_of_cell? w _ hv)]; exact hv
  exact ⟨p, hp, hk _ _ c0, hk _ _ c1, hk _ _ c2, hk _ _ c3, hk _ _ c4, hk _ _ c5⟩
theorem addr_moreL (p : Addr) (m j : Nat) (hj : j ≠ 0) : p.add (m + j) = ⟨(p.add m).block, (p.add m).off + j, none⟩ := by
  rw [← Addr.add_add]
  generalize p.add m = q
  unfold Addr.add
  rw [if_neg hj]
theorem ArgL.at {w : World} {x : Option Addr} {len : Nat} {rs : List Lk} (h : ArgL w x len rs) (i : Nat) (hi : i < rs.length) : ∃ p fr tt a l ad tg, x = some p ∧ rs[i] = ⟨fr, tt, a, l, ad, tg⟩ ∧ w.cell? (p.add (i * 6)) = some (.int .i64 fr) ∧ w.cell? ⟨(p.add (i * 6)).block, (p.add (i * 6)).off + 1, none⟩ = some (.int .i64 tt) ∧ w.cell? ⟨(p.add (i * 6)).block, (p.add (i * 6)).off + 2, none⟩ = some (.int .i64 a) ∧ w.cell? ⟨(p.add (i * 6)).block, (p.add (i * 6)).off + 3, none⟩ = some (.int .i64 l) ∧ w.cell? ⟨(p.add (i * 6)).block, (p.add (i * 6)).off + 4, none⟩ = some (.int .i64 ad) ∧ w.cell? ⟨(p.add (i * 6)).block, (p.add (i * 6)).off + 5, none⟩ = some (.int .i64 tg) := by
  obtain ⟨p, hp, c0, c1, c2, c3, c4, c5⟩ := h.2.2.2 i hi
  rw [addr_moreL _ _ _ (by omega)] at c1 c2 c3 c4 c5
  exact ⟨p, _, _, _, _, _, _, hp, rfl, c0, c1, c2, c3, c4, c5⟩
section
variable {H : Type} {enc : TypeId × Value → H} {w : World} {base : Nat} {spare : Nat → Bool} {held : Bool}
set_option maxRecDepth 100000 in
theorem open_lks {fuel : Nat} {v : Value} {x : DataW H × List MemPlace} (h : DataW.trod enc Try.prog w base spare held fuel 39 [v] = some x) : ∃ y len cap rs, v = .slice y len cap ∧ ArgL w y len rs := by
  rcases open_slice Try.underlying39 h with ⟨h0, _⟩ | ⟨a, len, cap, m, n, D, Pl, h0, hb, hl, hm, hmm, _, hx⟩
  · simp only [List.cons.injEq, and_true] at h0
    exact ⟨none, 0, 0, [], h0, rfl, Nat.zero_le _, by simp, fun i hi => absurd hi (by simp)⟩
  · simp only [List.cons.injEq, and_true] at h0
    have hlm : len ≤ m := by rw [hmm]; split <;> omega
    have each : ∀ i, i < m → ∃ e : Lk, LkW e ∧ w.cell? (a.add (i * 6)) = some (.int .i64 e.fr) ∧ w.cell? (a.add (i * 6 + 1)) = some (.int .i64 e.tt) ∧ w.cell? (a.add (i * 6 + 2)) = some (.int .i64 e.a) ∧ w.cell? (a.add (i * 6 + 3)) = some (.int .i64 e.l) ∧ w.cell? (a.add (i * 6 + 4)) = some (.int .i64 e.ad) ∧ w.cell? (a.add (i * 6 + 5)) = some (.int .i64 e.tg) := by
      intro i hi
      obtain ⟨cs', h1, h2⟩ := hx i hi
      rw [Try.cellsLeak] at h1
      obtain ⟨e, rfl, hw⟩ := open_lk h2
      obtain ⟨_, _, hcell⟩ := World.cells?_some h1
      have hadd : ∀ j k, (a.add j).add k = a.add (j + k) := fun j k => by
        unfold Addr.add
        by_cases hj : j = 0
        · subst hj; by_cases hk : k = 0 <;> simp [hk]
        · by_cases hk : k = 0
          · simp [hj, hk]
          · simp [hj, hk, Nat.add_assoc]
      refine ⟨e, hw, ?_⟩
      have k0 := hcell 0 (by omega)
      have k1 := hcell 1 (by omega)
      have k2 := hcell 2 (by omega)
      have k3 := hcell 3 (by omega)
      have k4 := hcell 4 (by omega)
      have k5 := hcell 5 (by omega)
      simp only [hadd, Nat.add_zero, lkL] at k0 k1 k2 k3 k4 k5
      exact ⟨by simpa using k0, by simpa using k1, by simpa using k2, by simpa using k3, by simpa using k4, by simpa using k5⟩
    obtain ⟨E, hE⟩ := choose_lt (α := Lk) (p := fun i e => LkW e ∧ w.cell? (a.add (i * 6)) = some (.int .i64 e.fr) ∧ w.cell? (a.add (i * 6 + 1)) = some (.int .i64 e.tt) ∧ w.cell? (a.add (i * 6 + 2)) = some (.int .i64 e.a) ∧ w.cell? (a.add (i * 6 + 3)) = some (.int .i64 e.l) ∧ w.cell? (a.add (i * 6 + 4)) = some (.int .i64 e.ad) ∧ w.cell? (a.add (i * 6 + 5)) = some (.int .i64 e.tg)) each
    refine ⟨some a, len, cap, (List.range len).map E, h0, by simp, by omega, ?_, ?_⟩
    · intro e he
      simp only [List.mem_map, List.mem_range] at he
      obtain ⟨i, hi, rfl⟩ := he
      exact (hE i (by omega)).1
    · intro i hi
      simp only [List.length_map, List.length_range] at hi
      refine ⟨a, rfl, ?_⟩
      simp only [List.getElem_map, List.getElem_range]
      exact (hE i (by omega)).2
end
end Go.Proofs.Ytpkjkjepmloddaa
