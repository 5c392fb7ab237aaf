/- The laws' own tables: opened, measured, handed over. (Written by gen_rts.py.) -/
import Derived.Test.YtflmbkjnlgibnaaToRt
import Derived.Test.YtflmbkjnlgibnaaOpenRt
import Derived.Test.YtflmbkjnlgibnaaRts
import Derived.OwnWalk
namespace Go.Proofs.Ytflmbkjnlgibnaa
open Go.ChangeShapes Go.WideShapes Go.RowKit Go.Sort Go.Deep Go.Joins

/-- The slice (x, len) that was handed in holds the routes rs. -/
def ArgR (w : World) (x : Option Addr) (len : Nat) (rs : List Rt) : Prop := rs.length = len ∧ len ≤ maxLen ∧ (∀ e ∈ rs, RtW e) ∧ ∀ i, (h : i < rs.length) → ∃ p, x = some p ∧ w.cell? (p.add (i * 9)) = some (.int .i64 rs[i].a) ∧ w.cell? (p.add (i * 9 + 1)) = some (.int .i64 rs[i].l) ∧ w.cell? (p.add (i * 9 + 2)) = some (.int .i64 rs[i].m) ∧ w.cell? (p.add (i * 9 + 3)) = some (.int .i64 rs[i].n) ∧ w.cell? (p.add (i * 9 + 4)) = some (.int .i64 rs[i].i) ∧ w.cell? (p.add (i * 9 + 5)) = some (.int .i64 rs[i].t) ∧ w.cell? (p.add (i * 9 + 6)) = some (.int .i64 rs[i].u) ∧ w.cell? (p.add (i * 9 + 7)) = some (.int .i64 rs[i].b) ∧ w.cell? (p.add (i * 9 + 8)) = some (.bool rs[i].c)
theorem ArgR.below {w w' : World} {x : Option Addr} {len : Nat} {rs : List Rt} (h : ArgR w x len rs) (hb : Below w.heap.size w w') : ArgR w' x len rs := by
  obtain ⟨h1, h2, h3, h4⟩ := h
  refine ⟨h1, h2, h3, fun i hi => ?_⟩
  obtain ⟨p, hp, c0, c1, c2, c3, c4, c5, c6, c7, c8⟩ := h4 i hi
  have hk : ∀ k v, w.cell? (p.add k) = some v → w'.cell? (p.add k) = some v := fun k v hv => by rw [hb.cell (World.block_lt_of_cell? w _ hv)]; exact hv
  exact ⟨p, hp, hk _ _ c0, hk _ _ c1, hk _ _ c2, hk _ _ c3, hk _ _ c4, hk _ _ c5, hk _ _ c6, hk _ _ c7, hk _ _ c8⟩
theorem addr_moreR (p : Addr) (m j : Nat) (hj : j ≠ 0) : p.add (m + j) = ⟨(p.add m).block, (p.add m).off + j, none⟩ := by
  rw [← Addr.add_add]
  generalize p.add m = q
  unfold Addr.add
  rw [if_neg hj]
theorem ArgR.at {w : World} {x : Option Addr} {len : Nat} {rs : List Rt} (h : ArgR w x len rs) (i : Nat) (hi : i < rs.length) : ∃ p a l m n ii t u b c, x = some p ∧ rs[i] = ⟨a, l, m, n, ii, t, u, b, c⟩ ∧ w.cell? (p.add (i * 9)) = some (.int .i64 a) ∧ w.cell? ⟨(p.add (i * 9)).block, (p.add (i * 9)).off + 1, none⟩ = some (.int .i64 l) ∧ w.cell? ⟨(p.add (i * 9)).block, (p.add (i * 9)).off + 2, none⟩ = some (.int .i64 m) ∧ w.cell? ⟨(p.add (i * 9)).block, (p.add (i * 9)).off + 3, none⟩ = some (.int .i64 n) ∧ w.cell? ⟨(p.add (i * 9)).block, (p.add (i * 9)).off + 4, none⟩ = some (.int .i64 ii) ∧ w.cell? ⟨(p.add (i * 9)).block, (p.add (i * 9)).off + 5, none⟩ = some (.int .i64 t) ∧ w.cell? ⟨(p.add (i * 9)).block, (p.add (i * 9)).off + 6, none⟩ = some (.int .i64 u) ∧ w.cell? ⟨(p.add (i * 9)).block, (p.add (i * 9)).off + 7, none⟩ = some (.int .i64 b) ∧ w.cell? ⟨(p.add (i * 9)).block, (p.add (i * 9)).off + 8, none⟩ = some (.bool c) := by
  obtain ⟨p, hp, c0, c1, c2, c3, c4, c5, c6, c7, c8⟩ := h.2.2.2 i hi
  rw [addr_moreR _ _ _ (by omega)] at c1 c2 c3 c4 c5 c6 c7 c8
  exact ⟨p, _, _, _, _, _, _, _, _, _, hp, rfl, c0, c1, c2, c3, c4, c5, c6, c7, c8⟩
section
variable {H : Type} {enc : TypeId × Value → H} {w : World} {base : Nat} {spare : Nat → Bool} {held : Bool}
set_option maxRecDepth 100000 in
theorem open_rts {fuel : Nat} {v : Value} {x : DataW H × List MemPlace} (h : DataW.trod enc Try.prog w base spare held fuel 23 [v] = some x) : ∃ y len cap rs, v = .slice y len cap ∧ ArgR w y len rs := by
  rcases open_slice Try.underlying23 h with ⟨h0, _⟩ | ⟨a, len, cap, m, n, D, Pl, h0, hb, hl, hm, hmm, _, hx⟩
  · simp only [List.cons.injEq, and_true] at h0
    exact ⟨none, 0, 0, [], h0, rfl, Nat.zero_le _, by simp, fun i hi => absurd hi (by simp)⟩
  · simp only [List.cons.injEq, and_true] at h0
    have hlm : len ≤ m := by rw [hmm]; split <;> omega
    have each : ∀ i, i < m → ∃ e : Rt, RtW e ∧ w.cell? (a.add (i * 9)) = some (.int .i64 e.a) ∧ w.cell? (a.add (i * 9 + 1)) = some (.int .i64 e.l) ∧ w.cell? (a.add (i * 9 + 2)) = some (.int .i64 e.m) ∧ w.cell? (a.add (i * 9 + 3)) = some (.int .i64 e.n) ∧ w.cell? (a.add (i * 9 + 4)) = some (.int .i64 e.i) ∧ w.cell? (a.add (i * 9 + 5)) = some (.int .i64 e.t) ∧ w.cell? (a.add (i * 9 + 6)) = some (.int .i64 e.u) ∧ w.cell? (a.add (i * 9 + 7)) = some (.int .i64 e.b) ∧ w.cell? (a.add (i * 9 + 8)) = some (.bool e.c) := by
      intro i hi
      obtain ⟨cs', h1, h2⟩ := hx i hi
      rw [Try.cellsRoute] at h1
      obtain ⟨e, rfl, hw⟩ := open_rt h2
      obtain ⟨_, _, hcell⟩ := World.cells?_some h1
      have hadd : ∀ j k, (a.add j).add k = a.add (j + k) := fun j k => by
        unfold Addr.add
        by_cases hj : j = 0
        · subst hj; by_cases hk : k = 0 <;> simp [hk]
        · by_cases hk : k = 0
          · simp [hj, hk]
          · simp [hj, hk, Nat.add_assoc]
      refine ⟨e, hw, ?_⟩
      have k0 := hcell 0 (by omega)
      have k1 := hcell 1 (by omega)
      have k2 := hcell 2 (by omega)
      have k3 := hcell 3 (by omega)
      have k4 := hcell 4 (by omega)
      have k5 := hcell 5 (by omega)
      have k6 := hcell 6 (by omega)
      have k7 := hcell 7 (by omega)
      have k8 := hcell 8 (by omega)
      simp only [hadd, Nat.add_zero, rtL] at k0 k1 k2 k3 k4 k5 k6 k7 k8
      exact ⟨by simpa using k0, by simpa using k1, by simpa using k2, by simpa using k3, by simpa using k4, by simpa using k5, by simpa using k6, by simpa using k7, by simpa using k8⟩
    obtain ⟨E, hE⟩ := choose_lt (α := Rt) (p := fun i e => RtW e ∧ w.cell? (a.add (i * 9)) = some (.int .i64 e.a) ∧ w.cell? (a.add (i * 9 + 1)) = some (.int .i64 e.l) ∧ w.cell? (a.add (i * 9 + 2)) = some (.int .i64 e.m) ∧ w.cell? (a.add (i * 9 + 3)) = some (.int .i64 e.n) ∧ w.cell? (a.add (i * 9 + 4)) = some (.int .i64 e.i) ∧ w.cell? (a.add (i * 9 + 5)) = some (.int .i64 e.t) ∧ w.cell? (a.add (i * 9 + 6)) = some (.int .i64 e.u) ∧ w.cell? (a.add (i * 9 + 7)) = some (.int .i64 e.b) ∧ w.cell? (a.add (i * 9 + 8)) = some (.bool e.c)) each
    refine ⟨some a, len, cap, (List.range len).map E, h0, by simp, by omega, ?_, ?_⟩
    · intro e he
      simp only [List.mem_map, List.mem_range] at he
      obtain ⟨i, hi, rfl⟩ := he
      exact (hE i (by omega)).1
    · intro i hi
      simp only [List.length_map, List.length_range] at hi
      refine ⟨a, rfl, ?_⟩
      simp only [List.getElem_map, List.getElem_range]
      exact (hE i (by omega)).2
set_option maxRecDepth 100000 in
theorem Try.cellsRibS : Try.prog.cellsOf 23 = 1 := by kernel_rfl
theorem Try.cellsRib : Try.prog.cellsOf 25 = 1 := by kernel_rfl
set_option maxRecDepth 100000 in
theorem open_ribV {r : Reach} {b0 : Nat} {v : Value} {d : DataW H} {p : List MemPlace} (hv : Value.okWide Try.prog w r b0 25 v) (h : DataW.Trod enc Try.prog w base spare held 25 v d p) :
    ∃ y len cap rs, v = ribV y len cap ∧ ArgR w y len rs := by
  obtain ⟨cs, rfl, hsz⟩ := okWide_struct Try.underlying25 hv
  rw [Try.cellsRib] at hsz
  obtain ⟨l⟩ := cs
  match l, hsz with
  | [c0], _ =>
    obtain ⟨fuel, hf⟩ := h
    obtain ⟨xs, n, _, _, hl, hx, hg⟩ := DataW.trod_struct Try.underlying25 hf
    match xs, hx with
    | [y0], _ =>
      have h0 : DataW.trod enc Try.prog w base spare held n 23 ((([c0] : List Value).drop 0).take (Try.prog.cellsOf 23)) = [y0][0]? := hg 0 _ rfl
      rw [Try.cellsRibS] at h0
      replace h0 : DataW.trod enc Try.prog w base spare held n 23 [c0] = some y0 := h0
      obtain ⟨y, len, cap, rs, rfl, hA⟩ := open_rts h0
      exact ⟨y, len, cap, rs, rfl, hA⟩
end
end Go.Proofs.Ytflmbkjnlgibnaa
