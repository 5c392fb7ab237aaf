/- Texts that stand on each other, in one file: OpTens, MkTens, EqTens, EqLks, TenR, LksR, BoxM, BoxA. -/
import Derived.Test.YtialedffpaoacaaGreatDoorPack22
import Derived.Lib.QuietBelow
import Derived.BigQuiet
import Derived.Test.YtialedffpaoacaaGreatDoorPack14
import Derived.Test.YtialedffpaoacaaGreatDoorPack21
import Derived.Test.YtialedffpaoacaaGreatDoorPack17
import Derived.Test.YtialedffpaoacaaGreatDoorPack5
/- The laws' own lists of Tenants handed in: opened. (Written by gen_tens.py.) -/
namespace Go.Proofs.YtialedffpaoacaaGreatDoor
open Go.ChangeShapes Go.WideShapes Go.RowKit Go.Sort Go.Deep Go.Joins Go.WideElems Go.Maps

/-- The slice (x, len) that was handed in holds them. -/
def ArgTs (w : World) (x : Option Addr) (len : Nat) (ps : List TnP) : Prop := ps.length = len ∧ len ≤ maxLen ∧ (∀ e ∈ ps, ArgT w e.1 e.2 ∧ TnW e.2) ∧ ∀ i, (h : i < ps.length) → ∃ p, x = some p ∧ w.cell? (p.add (i * 8)) = some (.slice ps[i].1.x ps[i].2.is.length ps[i].1.c1) ∧ w.cell? (p.add (i * 8 + 1)) = some (.slice ps[i].1.y ps[i].2.rs.length ps[i].1.c2) ∧ w.cell? (p.add (i * 8 + 2)) = some (.int .i64 ps[i].2.now) ∧ w.cell? (p.add (i * 8 + 3)) = some (.string ps[i].2.key) ∧ w.cell? (p.add (i * 8 + 4)) = some (.int .i64 ps[i].2.qu) ∧ w.cell? (p.add (i * 8 + 5)) = some (.slice ps[i].1.p ps[i].2.ss.length ps[i].1.c3) ∧ w.cell? (p.add (i * 8 + 6)) = some (.slice ps[i].1.q ps[i].2.es.length ps[i].1.c4) ∧ w.cell? (p.add (i * 8 + 7)) = some (.int .i64 ps[i].2.dr)
theorem ArgTs.below {w w' : World} {x : Option Addr} {len : Nat} {ps : List TnP} (h : ArgTs w x len ps) (hb : Below w.heap.size w w') : ArgTs w' x len ps := by
  obtain ⟨h1, h2, h3, h4⟩ := h
  refine ⟨h1, h2, fun e he => ⟨(h3 e he).1.below hb, (h3 e he).2⟩, fun i hi => ?_⟩
  obtain ⟨p, hp, c0, c1, c2, c3, c4, c5, c6, c7⟩ := h4 i hi
  have hk : ∀ k v, w.cell? (p.add k) = some v → w'.cell? (p.add k) = some v := fun k v hv => by rw [hb.cell (World.block_lt_of_cell? w _ hv)]; exact hv
  exact ⟨p, hp, hk _ _ c0, hk _ _ c1, hk _ _ c2, hk _ _ c3, hk _ _ c4, hk _ _ c5, hk _ _ c6, hk _ _ c7⟩
theorem addr_moreT (p : Addr) (m j : Nat) (hj : j ≠ 0) : p.add (m + j) = ⟨(p.add m).block, (p.add m).off + j, none⟩ := by
  rw [← Addr.add_add]
  generalize p.add m = q
  unfold Addr.add
  rw [if_neg hj]
theorem ArgTs.at {w : World} {x : Option Addr} {len : Nat} {ps : List TnP} (h : ArgTs w x len ps) (i : Nat) (hi : i < ps.length) : ∃ p a t, x = some p ∧ ps[i] = (a, t) ∧ ArgT w a t ∧ TnW t ∧ w.cell? (p.add (i * 8)) = some (.slice a.x t.is.length a.c1) ∧ w.cell? ⟨(p.add (i * 8)).block, (p.add (i * 8)).off + 1, none⟩ = some (.slice a.y t.rs.length a.c2) ∧ w.cell? ⟨(p.add (i * 8)).block, (p.add (i * 8)).off + 2, none⟩ = some (.int .i64 t.now) ∧ w.cell? ⟨(p.add (i * 8)).block, (p.add (i * 8)).off + 3, none⟩ = some (.string t.key) ∧ w.cell? ⟨(p.add (i * 8)).block, (p.add (i * 8)).off + 4, none⟩ = some (.int .i64 t.qu) ∧ w.cell? ⟨(p.add (i * 8)).block, (p.add (i * 8)).off + 5, none⟩ = some (.slice a.p t.ss.length a.c3) ∧ w.cell? ⟨(p.add (i * 8)).block, (p.add (i * 8)).off + 6, none⟩ = some (.slice a.q t.es.length a.c4) ∧ w.cell? ⟨(p.add (i * 8)).block, (p.add (i * 8)).off + 7, none⟩ = some (.int .i64 t.dr) := by
  obtain ⟨p, hp, c0, c1, c2, c3, c4, c5, c6, c7⟩ := h.2.2.2 i hi
  have hh := h.2.2.1 _ (List.getElem_mem hi)
  rw [addr_moreT _ _ _ (by omega)] at c1 c2 c3 c4 c5 c6 c7
  exact ⟨p, _, _, hp, rfl, hh.1, hh.2, c0, c1, c2, c3, c4, c5, c6, c7⟩
section
variable {H : Type} {enc : TypeId × Value → H} {w : World} {base : Nat} {spare : Nat → Bool} {held : Bool}
set_option maxRecDepth 100000 in
set_option maxHeartbeats 4000000 in
theorem open_tns {fuel : Nat} {v : Value} {x : DataW H × List MemPlace} (h : DataW.trod enc Tryz.prog w base spare held fuel 22 [v] = some x) : ∃ y len cap ps, v = .slice y len cap ∧ ArgTs w y len ps := by
  rcases open_slice Tryz.underlying22 h with ⟨h0, _⟩ | ⟨a, len, cap, m, n, D, Pl, h0, hb, hl, hm, hmm, _, hx⟩
  · simp only [List.cons.injEq, and_true] at h0
    exact ⟨none, 0, 0, [], h0, rfl, Nat.zero_le _, by simp, fun i hi => absurd hi (by simp)⟩
  · simp only [List.cons.injEq, and_true] at h0
    have hlm : len ≤ m := by rw [hmm]; split <;> omega
    have each : ∀ i, i < m → ∃ e : TnP, (ArgT w e.1 e.2 ∧ TnW e.2) ∧ w.cell? (a.add (i * 8)) = some (.slice e.1.x e.2.is.length e.1.c1) ∧ w.cell? (a.add (i * 8 + 1)) = some (.slice e.1.y e.2.rs.length e.1.c2) ∧ w.cell? (a.add (i * 8 + 2)) = some (.int .i64 e.2.now) ∧ w.cell? (a.add (i * 8 + 3)) = some (.string e.2.key) ∧ w.cell? (a.add (i * 8 + 4)) = some (.int .i64 e.2.qu) ∧ w.cell? (a.add (i * 8 + 5)) = some (.slice e.1.p e.2.ss.length e.1.c3) ∧ w.cell? (a.add (i * 8 + 6)) = some (.slice e.1.q e.2.es.length e.1.c4) ∧ w.cell? (a.add (i * 8 + 7)) = some (.int .i64 e.2.dr) := by
      intro i hi
      obtain ⟨cs', h1, h2⟩ := hx i hi
      rw [Tryz.cellsTn] at h1
      obtain ⟨aa, tt, rfl, hA, hw⟩ := open_tn h2
      obtain ⟨_, _, hcell⟩ := World.cells?_some h1
      have hadd : ∀ j k, (a.add j).add k = a.add (j + k) := fun j k => by
        unfold Addr.add
        by_cases hj : j = 0
        · subst hj; by_cases hk : k = 0 <;> simp [hk]
        · by_cases hk : k = 0
          · simp [hj, hk]
          · simp [hj, hk, Nat.add_assoc]
      refine ⟨(aa, tt), ⟨hA, hw⟩, ?_⟩
      have k0 := hcell 0 (by omega)
      have k1 := hcell 1 (by omega)
      have k2 := hcell 2 (by omega)
      have k3 := hcell 3 (by omega)
      have k4 := hcell 4 (by omega)
      have k5 := hcell 5 (by omega)
      have k6 := hcell 6 (by omega)
      have k7 := hcell 7 (by omega)
      simp only [hadd, Nat.add_zero, tnL] at k0 k1 k2 k3 k4 k5 k6 k7
      exact ⟨by simpa using k0, by simpa using k1, by simpa using k2, by simpa using k3, by simpa using k4, by simpa using k5, by simpa using k6, by simpa using k7⟩
    obtain ⟨E, hE⟩ := choose_lt (α := TnP) (p := fun i e => (ArgT w e.1 e.2 ∧ TnW e.2) ∧ w.cell? (a.add (i * 8)) = some (.slice e.1.x e.2.is.length e.1.c1) ∧ w.cell? (a.add (i * 8 + 1)) = some (.slice e.1.y e.2.rs.length e.1.c2) ∧ w.cell? (a.add (i * 8 + 2)) = some (.int .i64 e.2.now) ∧ w.cell? (a.add (i * 8 + 3)) = some (.string e.2.key) ∧ w.cell? (a.add (i * 8 + 4)) = some (.int .i64 e.2.qu) ∧ w.cell? (a.add (i * 8 + 5)) = some (.slice e.1.p e.2.ss.length e.1.c3) ∧ w.cell? (a.add (i * 8 + 6)) = some (.slice e.1.q e.2.es.length e.1.c4) ∧ w.cell? (a.add (i * 8 + 7)) = some (.int .i64 e.2.dr)) each
    refine ⟨some a, len, cap, (List.range len).map E, h0, by simp, by omega, ?_, ?_⟩
    · intro e he
      simp only [List.mem_map, List.mem_range] at he
      obtain ⟨i, hi, rfl⟩ := he
      exact (hE i (by omega)).1
    · intro i hi
      simp only [List.length_map, List.length_range] at hi
      refine ⟨a, rfl, ?_⟩
      simp only [List.getElem_map, List.getElem_range]
      exact (hE i (by omega)).2
end
end Go.Proofs.YtialedffpaoacaaGreatDoor
/- The laws' own lists of Tenants measured and handed over. (Written by gen_tens.py.) -/
namespace Go.Proofs.YtialedffpaoacaaGreatDoor
open Go.RowKit Go.Sort

/-- A Tenant whose lists lie in blocks of their own from base on. -/
def PlT (w : World) (base : Nat) (a : Tp) (t : Tn) : Prop := ∃ g h u z, a = ⟨some ⟨g, 0, none⟩, t.is.length, some ⟨h, 0, none⟩, t.rs.length, some ⟨u, 0, none⟩, t.ss.length, some ⟨z, 0, none⟩, t.es.length⟩ ∧ base ≤ g ∧ base ≤ h ∧ base ≤ u ∧ base ≤ z ∧ Row w g 72 (rowI t.is) ∧ Row w h 144 (rowR t.rs) ∧ Row w u 142 (rowSn t.ss) ∧ Row w z 182 (rowSe t.es)
theorem PlT.inT {w : World} {base : Nat} {a : Tp} {t : Tn} (k : PlT w base a t) : InT w a t := by
  obtain ⟨g, h, u, z, rfl, -, -, -, -, a1, a2, a3, a4⟩ := k
  exact ⟨ifsIn_row a1, rtsIn_row a2, snsIn_row a3, sesIn_row a4⟩
theorem PlT.below {w w' : World} {base : Nat} {a : Tp} {t : Tn} (k : PlT w base a t) (hb : Below w.heap.size w w') : PlT w' base a t := by
  obtain ⟨g, h, u, z, e, b1, b2, b3, b4, a1, a2, a3, a4⟩ := k
  exact ⟨g, h, u, z, e, b1, b2, b3, b4, a1.below hb a1.lt, a2.below hb a2.lt, a3.below hb a3.lt, a4.below hb a4.lt⟩
theorem PlT.kept {w w' : World} {base b : Nat} {a : Tp} {t : Tn} (k : PlT w base a t) (hb : b < base) (hk : ∀ g t l, g ≠ b → Row w g t l → Row w' g t l) : PlT w' base a t := by
  obtain ⟨g, h, u, z, e, b1, b2, b3, b4, a1, a2, a3, a4⟩ := k
  exact ⟨g, h, u, z, e, b1, b2, b3, b4, hk _ _ _ (by omega) a1, hk _ _ _ (by omega) a2, hk _ _ _ (by omega) a3, hk _ _ _ (by omega) a4⟩
def eightT (w : World) (g o : Nat) (x0 x1 x2 x3 x4 x5 x6 x7 : Value) : World := ((((((((w.setCell ⟨g, o, none⟩ x0).setCell ⟨g, o + 1, none⟩ x1).setCell ⟨g, o + 2, none⟩ x2).setCell ⟨g, o + 3, none⟩ x3).setCell ⟨g, o + 4, none⟩ x4).setCell ⟨g, o + 5, none⟩ x5).setCell ⟨g, o + 6, none⟩ x6).setCell ⟨g, o + 7, none⟩ x7)
theorem eightT_below {B : Nat} {w0 w : World} (h : Below B w0 w) (g o : Nat) (hg : B ≤ g) (x0 x1 x2 x3 x4 x5 x6 x7 : Value) : Below B w0 (eightT w g o x0 x1 x2 x3 x4 x5 x6 x7) := ((((((((h.setCell (p := ⟨g, o, none⟩) hg x0).setCell (p := ⟨g, o + 1, none⟩) hg x1).setCell (p := ⟨g, o + 2, none⟩) hg x2).setCell (p := ⟨g, o + 3, none⟩) hg x3).setCell (p := ⟨g, o + 4, none⟩) hg x4).setCell (p := ⟨g, o + 5, none⟩) hg x5).setCell (p := ⟨g, o + 6, none⟩) hg x6).setCell (p := ⟨g, o + 7, none⟩) hg x7)
theorem eightT_row {w : World} {g : Nat} {t : TypeId} {l : List Value} (h : Row w g t l) (o : Nat) (x0 x1 x2 x3 x4 x5 x6 x7 : Value) : Row (eightT w g o x0 x1 x2 x3 x4 x5 x6 x7) g t ((((((((l.set (o) x0).set (o + 1) x1).set (o + 2) x2).set (o + 3) x3).set (o + 4) x4).set (o + 5) x5).set (o + 6) x6).set (o + 7) x7) := ((((((((h.set (o) x0).set (o + 1) x1).set (o + 2) x2).set (o + 3) x3).set (o + 4) x4).set (o + 5) x5).set (o + 6) x6).set (o + 7) x7)
theorem eightT_other {w : World} {b g : Nat} {t : TypeId} {l : List Value} (h : Row w b t l) (hne : b ≠ g) (o : Nat) (x0 x1 x2 x3 x4 x5 x6 x7 : Value) : Row (eightT w g o x0 x1 x2 x3 x4 x5 x6 x7) b t l := ((((((((h.other (o) x0 hne).other (o + 1) x1 hne).other (o + 2) x2 hne).other (o + 3) x3 hne).other (o + 4) x4 hne).other (o + 5) x5 hne).other (o + 6) x6 hne).other (o + 7) x7 hne)
theorem set8T (A R : List Value) (k : Nat) (hA : A.length = k * 8) (z0 z1 z2 z3 z4 z5 z6 z7 x0 x1 x2 x3 x4 x5 x6 x7 : Value) : (((((((((A ++ ([z0, z1, z2, z3, z4, z5, z6, z7] ++ R)).set (k * 8) x0).set (k * 8 + 1) x1).set (k * 8 + 2) x2).set (k * 8 + 3) x3).set (k * 8 + 4) x4).set (k * 8 + 5) x5).set (k * 8 + 6) x6).set (k * 8 + 7) x7) = A ++ ([x0, x1, x2, x3, x4, x5, x6, x7] ++ R) := by
  have e : ∀ (L : List Value) (j : Nat) (x : Value), (A ++ L).set (k * 8 + j) x = A ++ L.set j x := fun L j x => by
    rw [List.set_append, if_neg (by omega), hA, Nat.add_sub_cancel_left]
  have e0 : ∀ (L : List Value) (x : Value), (A ++ L).set (k * 8) x = A ++ L.set 0 x := fun L x => e L 0 x
  rw [e0, e, e, e, e, e, e, e]
  rfl
theorem Row.someT {w : World} {g : Nat} {t : TypeId} {l : List Value} (h : Row w g t l) (k : Nat) (hk : k < l.length) : ∃ v, w.cell? ⟨g, k, none⟩ = some v := ⟨l[k], by rw [h.cell, List.getElem?_eq_getElem hk]⟩
theorem Tryz.infoTn : (Tryz.prog.info? 55).map (fun i => (i.zero, i.size, i.bytes)) = some (some (.agg #[.slice none 0 0, .slice none 0 0, .int .i64 0, .string ⟨#[]⟩, .int .i64 0, .slice none 0 0, .slice none 0 0, .int .i64 0]), 8, 136) := by kernel_rfl
def zeroTn : TnP := (⟨none, 0, none, 0, none, 0, none, 0⟩, ⟨[], [], 0, ⟨#[]⟩, 0, [], [], 0⟩)
theorem rowT_zero_get (n i : Nat) (h : i < n * 8) : (rowT (List.replicate n zeroTn))[i]? = (tnL zeroTn.1 zeroTn.2)[i % 8]? := by
  have hi : i / 8 < (List.replicate n zeroTn).length := by simp; omega
  have := rowT_get (List.replicate n zeroTn) (i / 8) (i % 8) hi (by omega)
  rw [show i / 8 * 8 + i % 8 = i by omega] at this
  rw [this, List.getElem_replicate]
theorem made_zeroTn (n : Nat) : (madeCells (Value.agg #[.slice none 0 0, .slice none 0 0, .int .i64 0, .string ⟨#[]⟩, .int .i64 0, .slice none 0 0, .slice none 0 0, .int .i64 0]).cells (n * 8)).toList = rowT (List.replicate n zeroTn) := by
  apply List.ext_getElem?
  intro i
  by_cases h : i < n * 8
  · rw [rowT_zero_get n i h]
    simp only [madeCells, Value.cells, Array.toList_map, List.getElem?_map]
    have h9 : i % 8 = 0 ∨ i % 8 = 1 ∨ i % 8 = 2 ∨ i % 8 = 3 ∨ i % 8 = 4 ∨ i % 8 = 5 ∨ i % 8 = 6 ∨ i % 8 = 7 := by omega
    rcases h9 with h9 | h9 | h9 | h9 | h9 | h9 | h9 | h9 <;> simp [h9, h, tnL, zeroTn]
  · rw [List.getElem?_eq_none (by simp [madeCells]; omega), List.getElem?_eq_none (by rw [rowT_length]; simp; omega)]
set_option maxRecDepth 100000 in
theorem wpList_make_tns {w : World} {ops : Array Oper} {rest : List Oper} {o : Oper} {a : Act} {Q : Exit → Act → World → Prop}
    (hgd : o.guard = none) (l c : Operand) (hop : o.op = Op.makeSlice 29 l c)
    (L : Int) (n : Nat) (hl : a.eval l = .int .i64 L) (hc : a.eval c = .int .i64 L) (hL : L = (n : Int)) (hn : n ≤ 100000000)
    (B : Nat) (w0 : World) (hb : Below B w0 w) (hB : B ≤ w.heap.size)
    (h : ∀ w', Row w' w.heap.size 55 (rowT (List.replicate n zeroTn)) → Below B w0 w' → wpList Tryz.prog ops Q rest (a.put o.dst (.slice (some ⟨w.heap.size, 0, none⟩) n n)) w') : wpList Tryz.prog ops Q (o :: rest) a w := by
  obtain ⟨i0, hi0, hz0, hz1, hz2⟩ := info_parts Tryz.infoTn
  refine wpList_make_full w hgd l c 29 hop B 55 i0 _ 8 Tryz.underlying29 hi0 hz0 hz1 .i64 .i64 L L n hl hc hL hL (by rw [hz2]; omega) (by unfold maxLen; omega) hB ?_
  intro w' hown hgrow
  rcases hown.2 with ⟨h', _⟩ | ⟨g, cap, cur, h', hbg, hg, hnc, hcm, hcs, htake⟩
  · simp at h'
  · simp only [Value.slice.injEq, Option.some.injEq, Addr.mk.injEq, and_true, true_and] at h'
    obtain ⟨rfl, rfl⟩ := h'
    refine h w' ?_ (hb.trans ((Below.refl B w).grown hgrow hB (by intro k hk; cases hk)))
    unfold Row
    rw [hg, ← made_zeroTn, ← htake, List.take_of_length_le (by simp [hcs])]
theorem rowT_set (qs : List TnP) (n k : Nat) (hq : qs.length = k) (hk : k < n) (a : Tp) (t : Tn) :
    (((((((((rowT (qs ++ List.replicate (n - k) zeroTn)).set (k * 8) (.slice a.x t.is.length a.c1)).set (k * 8 + 1) (.slice a.y t.rs.length a.c2)).set (k * 8 + 2) (.int .i64 t.now)).set (k * 8 + 3) (.string t.key)).set (k * 8 + 4) (.int .i64 t.qu)).set (k * 8 + 5) (.slice a.p t.ss.length a.c3)).set (k * 8 + 6) (.slice a.q t.es.length a.c4)).set (k * 8 + 7) (.int .i64 t.dr)) = rowT ((qs ++ [(a, t)]) ++ List.replicate (n - (k + 1)) zeroTn) := by
  have e1 : n - k = (n - (k + 1)) + 1 := by omega
  rw [e1, List.replicate_succ, rowT_append, rowT_cons, List.append_assoc, rowT_append, List.singleton_append, rowT_cons]
  exact set8T _ _ k (by rw [rowT_length, hq]; omega) _ _ _ _ _ _ _ _ _ _ _ _ _ _ _ _
/-- What a look at the size tells of a Tenant. -/
def TnS (t : Tn) : Prop := t.is.length ≤ 1048576 ∧ t.rs.length ≤ 1048576 ∧ t.ss.length ≤ 1048576 ∧ t.es.length ≤ 1048576 ∧ t.key.size ≤ 1048576 ∧ ∀ s ∈ t.ss, s.tx.size ≤ 1048576
set_option maxRecDepth 100000 in
set_option maxHeartbeats 4000000 in
theorem szTenantS_any (x : Option Addr) (cap : Nat) (ps : List TnP) (L : Int) (w : World) (h : ArgTs w x ps.length ps) (h0 : 0 ≤ L) (h1 : L ≤ 1048576) : Calls Tryz.prog 14 #[.slice x ps.length cap, .int .i64 L] w fun e w' => (∃ v : Int, e = .returned (.int .i64 v) ∧ v ≤ L ∧ (v < 0 ∨ 0 ≤ v ∧ ps.length ≤ 1048576 ∧ ∀ e ∈ ps, TnS e.2)) ∧ Below w.heap.size w w' := by
  have hl := h.2.1
  unfold maxLen at hl
  have HE : Hid (∀ (a : Tp) (t : Tn) (L : Int) (w : World), ArgT w a t → TnW t → 0 ≤ L → L ≤ 1048576 → Calls Tryz.prog 39 #[.agg #[.slice a.x t.is.length a.c1, .slice a.y t.rs.length a.c2, .int .i64 t.now, .string t.key, .int .i64 t.qu, .slice a.p t.ss.length a.c3, .slice a.q t.es.length a.c4, .int .i64 t.dr], .int .i64 L] w fun e w' => (∃ v : Int, e = .returned (.int .i64 v) ∧ v ≤ L ∧ (v < 0 ∨ 0 ≤ v ∧ TnS t)) ∧ Below w.heap.size w w') := fun a t L w hA hW k0 k1 => szTenant_any a.x a.c1 a.y a.c2 a.p a.c3 a.q a.c4 t.is t.rs t.now t.key t.qu t.ss t.es t.dr L w hA hW.1 k0 k1
  have HX : Hid (ArgTs w x ps.length ps) := h
  have z : IntKind.i64.wrap (L - (ps.length : Int)) = L - (ps.length : Int) := wrap_i64_in _ (by omega) (by omega)
  clear h
  by_cases hL : (ps.length : Int) ≤ L
  case neg =>
    have d : decide (L - (ps.length : Int) < 0) = true := by simp; omega
    clear HE HX
    go_enter Tryz.func14, Tryz.ntmps14
    go_wp2
    go_ret
    exact ⟨⟨_, rfl, by omega, .inl (by omega)⟩, Below.refl _ _⟩
  have d : decide (L - (ps.length : Int) < 0) = false := by simp; omega
  go_enter Tryz.func14, Tryz.ntmps14
  go_wp2_with fail
  go_loopw [5, 1] (fun i m wr => ∃ (k : Nat) (v : Int), k ≤ ps.length ∧ i = .int .i64 k ∧ m = .int .i64 v ∧ 0 ≤ v ∧ v ≤ L ∧ (∀ j (hj : j < ps.length), j < k → TnS ps[j].2) ∧ Below w.heap.size w wr) (fun i _ _ => ps.length - (intOf i).toNat)
  case atStart => exact ⟨0, _, Nat.zero_le _, rfl, rfl, by omega, by omega, fun j _ hj => absurd hj (by omega), Below.refl _ _⟩
  case round =>
    obtain ⟨k, v, hk, rfl, rfl, hv0, hvL, ha, hB⟩ := hrel
    by_cases hlt : k < ps.length
    · have d1 : decide ((k : Int) < (ps.length : Int)) = true := by simpa using hlt
      obtain ⟨p, a, t, rfl, hek, hA, hW, c0, c1, c2, c3, c4, c5, c6, c7⟩ := (HX.out.below hB).at k hlt
      have HEk : Hid (Calls Tryz.prog 39 #[.agg #[.slice a.x t.is.length a.c1, .slice a.y t.rs.length a.c2, .int .i64 t.now, .string t.key, .int .i64 t.qu, .slice a.p t.ss.length a.c3, .slice a.q t.es.length a.c4, .int .i64 t.dr], .int .i64 v] wr fun e w' => (∃ v' : Int, e = .returned (.int .i64 v') ∧ v' ≤ v ∧ (v' < 0 ∨ 0 ≤ v' ∧ TnS t)) ∧ Below wr.heap.size wr w') := HE.out a t v wr hA hW hv0 (by omega)
      generalize a.x = ax at *
      generalize a.y = ay at *
      generalize a.p = ap at *
      generalize a.q = aq at *
      generalize a.c1 = ac1 at *
      generalize a.c2 = ac2 at *
      generalize a.c3 = ac3 at *
      generalize a.c4 = ac4 at *
      generalize t.is.length = tn1 at *
      generalize t.rs.length = tn2 at *
      generalize t.ss.length = tn3 at *
      generalize t.es.length = tn4 at *
      generalize t.now = tw at *
      generalize t.key = tk at *
      generalize t.qu = tq at *
      generalize t.dr = td at *
      have HA : Hid (∀ j (hj : j < ps.length), j < k → TnS ps[j].2) := ha
      have HK : Hid (ps[k] = (a, t)) := hek
      clear HE hek ha hA hW
      go_wp2_with fail
      refine (HEk.out).mono ?_
      rintro e w1 ⟨⟨v', rfl, hv', hc⟩, hb1⟩
      have hB := hB.trans (hb1.mono hB.size)
      clear c0 c1 c2 c3 c4 c5 c6 c7 hb1 HEk
      rcases hc with hc | ⟨hc, hS⟩
      · have d2 : decide (v' < 0) = true := by simpa using hc
        clear hc
        go_wp2
        go_ret
        exact ⟨⟨_, rfl, by omega, .inl (by omega)⟩, hB⟩
      · have d2 : decide (v' < 0) = false := by simp; omega
        have HB : Hid _ := And.intro hS hB
        clear hB hS
        go_wp2
        go_roundw
        case rel => exact ⟨k + 1, _, hlt, by go_num, rfl, by omega, by omega, (fun j hj hjk => by
          rcases Nat.lt_or_ge j k with h' | h'
          · exact HA.out j hj h'
          · obtain rfl : j = k := (by omega)
            rw [HK.out]
            exact HB.out.1), HB.out.2⟩
        case measure => simp [intOf]; omega
    · have d1 : decide ((k : Int) < (ps.length : Int)) = false := by simpa using hlt
      clear HE HX
      go_wp2
      go_ret
      exact ⟨⟨_, rfl, hvL, .inr ⟨hv0, by omega, fun s hs => by
        obtain ⟨j, hj, rfl⟩ := List.mem_iff_getElem.1 hs
        exact ha j hj (by omega)⟩⟩, hB⟩
set_option maxRecDepth 100000 in
set_option maxHeartbeats 4000000 in
theorem toTenantS_any (x : Option Addr) (cap : Nat) (ps : List TnP) (w : World) (h : ArgTs w x ps.length ps) (hn : ps.length ≤ 1048576) (hs : ∀ e ∈ ps, TnS e.2) :
    Calls Tryz.prog 21 #[.slice x ps.length cap] w fun e w' => ∃ g, ∃ qs : List TnP, e = .returned (.slice (some ⟨g, 0, none⟩) ps.length ps.length) ∧ w.heap.size ≤ g ∧ qs.map (·.2) = ps.map (·.2) ∧ Row w' g 55 (rowT qs) ∧ (∀ e ∈ qs, PlT w' (g + 1) e.1 e.2) ∧ Below w.heap.size w w' := by
  have HE : Hid (∀ (a : Tp) (t : Tn) (w : World), ArgT w a t → TnS t → Calls Tryz.prog 49 #[.agg #[.slice a.x t.is.length a.c1, .slice a.y t.rs.length a.c2, .int .i64 t.now, .string t.key, .int .i64 t.qu, .slice a.p t.ss.length a.c3, .slice a.q t.es.length a.c4, .int .i64 t.dr]] w fun e w' => ∃ g h u z, e = .returned (.agg #[.slice (some ⟨g, 0, none⟩) t.is.length t.is.length, .slice (some ⟨h, 0, none⟩) t.rs.length t.rs.length, .int .i64 t.now, .string t.key, .int .i64 t.qu, .slice (some ⟨u, 0, none⟩) t.ss.length t.ss.length, .slice (some ⟨z, 0, none⟩) t.es.length t.es.length, .int .i64 t.dr]) ∧ w.heap.size ≤ g ∧ w.heap.size ≤ h ∧ w.heap.size ≤ u ∧ w.heap.size ≤ z ∧ Row w' g 72 (rowI t.is) ∧ Row w' h 144 (rowR t.rs) ∧ Row w' u 142 (rowSn t.ss) ∧ Row w' z 182 (rowSe t.es) ∧ Below w.heap.size w w') := fun a t w hA hS => toTenant_any a.x a.c1 a.y a.c2 a.p a.c3 a.q a.c4 t.is t.rs t.now t.key t.qu t.ss t.es t.dr w hA ⟨hS.1, hS.2.1, hS.2.2.1, hS.2.2.2.1⟩
  have HX : Hid (ArgTs w x ps.length ps) := h
  have HS : Hid (∀ e ∈ ps, TnS e.2) := hs
  clear h hs
  go_enter Tryz.func21, Tryz.ntmps21
  go_wp2_with (at_make; refine wpList_make_tns rfl _ _ rfl _ ps.length rfl rfl rfl (by omega) w.heap.size w (Below.refl _ _) (Nat.le_refl _) ?_)
  intro w0 hr0 hb0
  have hz : ([] : List TnP) ++ List.replicate (ps.length - 0) zeroTn = List.replicate ps.length zeroTn := by simp
  rw [← hz] at hr0
  clear hz
  go_wp2_with fail
  go_loopw [4] (fun i wr => ∃ (k : Nat) (qs : List TnP), k ≤ ps.length ∧ i = .int .i64 k ∧ qs.length = k ∧ qs.map (·.2) = (ps.take k).map (·.2) ∧ Row wr w.heap.size 55 (rowT (qs ++ List.replicate (ps.length - k) zeroTn)) ∧ (∀ e ∈ qs, PlT wr (w.heap.size + 1) e.1 e.2) ∧ Below w.heap.size w wr) (fun i _ => ps.length - (intOf i).toNat)
  case atStart => exact ⟨0, [], Nat.zero_le _, rfl, rfl, rfl, hr0, fun e he => by simp at he, hb0⟩
  case round =>
    obtain ⟨k, qs, hk, rfl, hql, hqm, hr, hpl, hb⟩ := hrel
    by_cases hlt : k < ps.length
    · obtain ⟨p, a, t, rfl, hek, hA, hW, c0, c1, c2, c3, c4, c5, c6, c7⟩ := (HX.out.below hb).at k hlt
      have hS := HS.out ps[k] (List.getElem_mem hlt)
      rw [hek] at hS
      have HEk : Hid (Calls Tryz.prog 49 #[.agg #[.slice a.x t.is.length a.c1, .slice a.y t.rs.length a.c2, .int .i64 t.now, .string t.key, .int .i64 t.qu, .slice a.p t.ss.length a.c3, .slice a.q t.es.length a.c4, .int .i64 t.dr]] wr fun e w' => ∃ g h u z, e = .returned (.agg #[.slice (some ⟨g, 0, none⟩) t.is.length t.is.length, .slice (some ⟨h, 0, none⟩) t.rs.length t.rs.length, .int .i64 t.now, .string t.key, .int .i64 t.qu, .slice (some ⟨u, 0, none⟩) t.ss.length t.ss.length, .slice (some ⟨z, 0, none⟩) t.es.length t.es.length, .int .i64 t.dr]) ∧ wr.heap.size ≤ g ∧ wr.heap.size ≤ h ∧ wr.heap.size ≤ u ∧ wr.heap.size ≤ z ∧ Row w' g 72 (rowI t.is) ∧ Row w' h 144 (rowR t.rs) ∧ Row w' u 142 (rowSn t.ss) ∧ Row w' z 182 (rowSe t.es) ∧ Below wr.heap.size wr w') := HE.out a t wr hA hS
      have HK : Hid (ps[k] = (a, t)) := hek
      have hlt0 := hr.lt
      clear HE hek hr0 hb0 hA hW hS
      generalize a.x = ax at *
      generalize a.y = ay at *
      generalize a.p = ap at *
      generalize a.q = aq at *
      generalize a.c1 = ac1 at *
      generalize a.c2 = ac2 at *
      generalize a.c3 = ac3 at *
      generalize a.c4 = ac4 at *
      obtain ⟨is, rs, now, key, qu, ss, es, dr⟩ := t
      simp only at HEk c0 c1 c2 c3 c4 c5 c6 c7
      generalize hN1 : is.length = n1 at *
      generalize hN2 : rs.length = n2 at *
      generalize hN3 : ss.length = n3 at *
      generalize hN4 : es.length = n4 at *
      have HN : Hid (n1 = is.length ∧ n2 = rs.length ∧ n3 = ss.length ∧ n4 = es.length) := ⟨hN1.symm, hN2.symm, hN3.symm, hN4.symm⟩
      clear hN1 hN2 hN3 hN4
      go_wp2_with fail
      refine (HEk.out).mono ?_
      rintro e w1 ⟨g, h, u, z, rfl, hg, hh, hu, hz, k1, k2, k3, k4, hb1⟩
      have hr1 := hr.below hb1 hr.lt
      have hB1 := hb.trans (hb1.mono hb.size)
      have hpl1 : ∀ e ∈ qs ++ [((⟨some ⟨g, 0, none⟩, n1, some ⟨h, 0, none⟩, n2, some ⟨u, 0, none⟩, n3, some ⟨z, 0, none⟩, n4⟩, ⟨is, rs, now, key, qu, ss, es, dr⟩) : TnP)], PlT w1 (w.heap.size + 1) e.1 e.2 := fun e he => by
        rcases List.mem_append.1 he with he | he
        · exact (hpl e he).below hb1
        · rw [List.mem_singleton] at he
          subst he
          exact ⟨g, h, u, z, by simp only [← HN.out.1, ← HN.out.2.1, ← HN.out.2.2.1, ← HN.out.2.2.2], by omega, by omega, by omega, by omega, k1, k2, k3, k4⟩
      clear c0 c1 c2 c3 c4 c5 c6 c7 hb1 HEk hr hb hpl k1 k2 k3 k4
      have hlr : (rowT (qs ++ List.replicate (ps.length - k) zeroTn)).length = ps.length * 8 := by rw [rowT_length, List.length_append, List.length_replicate, hql]; omega
      obtain ⟨z0, hz0⟩ := Row.someT hr1 (k * 8) (by omega)
      obtain ⟨z1, hz1⟩ := Row.someT hr1 (k * 8 + 1) (by omega)
      obtain ⟨z2, hz2⟩ := Row.someT hr1 (k * 8 + 2) (by omega)
      obtain ⟨z3, hz3⟩ := Row.someT hr1 (k * 8 + 3) (by omega)
      obtain ⟨z4, hz4⟩ := Row.someT hr1 (k * 8 + 4) (by omega)
      obtain ⟨z5, hz5⟩ := Row.someT hr1 (k * 8 + 5) (by omega)
      obtain ⟨z6, hz6⟩ := Row.someT hr1 (k * 8 + 6) (by omega)
      obtain ⟨z7, hz7⟩ := Row.someT hr1 (k * 8 + 7) (by omega)
      have f0 := hr1.frozen (k * 8)
      have f1 := hr1.frozen (k * 8 + 1)
      have f2 := hr1.frozen (k * 8 + 2)
      have f3 := hr1.frozen (k * 8 + 3)
      have f4 := hr1.frozen (k * 8 + 4)
      have f5 := hr1.frozen (k * 8 + 5)
      have f6 := hr1.frozen (k * 8 + 6)
      have f7 := hr1.frozen (k * 8 + 7)
      have hr2 := eightT_row hr1 (k * 8) (.slice (some ⟨g, 0, none⟩) n1 n1) (.slice (some ⟨h, 0, none⟩) n2 n2) (.int .i64 now) (.string key) (.int .i64 qu) (.slice (some ⟨u, 0, none⟩) n3 n3) (.slice (some ⟨z, 0, none⟩) n4 n4) (.int .i64 dr)
      have hset := rowT_set qs ps.length k hql hlt ⟨some ⟨g, 0, none⟩, n1, some ⟨h, 0, none⟩, n2, some ⟨u, 0, none⟩, n3, some ⟨z, 0, none⟩, n4⟩ ⟨is, rs, now, key, qu, ss, es, dr⟩
      simp only [← HN.out.1, ← HN.out.2.1, ← HN.out.2.2.1, ← HN.out.2.2.2] at hset
      rw [hset] at hr2
      have hB2 := eightT_below hB1 w.heap.size (k * 8) (Nat.le_refl _) (.slice (some ⟨g, 0, none⟩) n1 n1) (.slice (some ⟨h, 0, none⟩) n2 n2) (.int .i64 now) (.string key) (.int .i64 qu) (.slice (some ⟨u, 0, none⟩) n3 n3) (.slice (some ⟨z, 0, none⟩) n4 n4) (.int .i64 dr)
      have hP2 := fun e he => (hpl1 e he).kept (w' := eightT w1 w.heap.size (k * 8) (.slice (some ⟨g, 0, none⟩) n1 n1) (.slice (some ⟨h, 0, none⟩) n2 n2) (.int .i64 now) (.string key) (.int .i64 qu) (.slice (some ⟨u, 0, none⟩) n3 n3) (.slice (some ⟨z, 0, none⟩) n4 n4) (.int .i64 dr)) (Nat.lt_succ_self _) (fun b tt l hne hr => eightT_other hr hne (k * 8) (.slice (some ⟨g, 0, none⟩) n1 n1) (.slice (some ⟨h, 0, none⟩) n2 n2) (.int .i64 now) (.string key) (.int .i64 qu) (.slice (some ⟨u, 0, none⟩) n3 n3) (.slice (some ⟨z, 0, none⟩) n4 n4) (.int .i64 dr))
      unfold eightT at hr2 hB2 hP2
      have hm2 : (qs ++ [((⟨some ⟨g, 0, none⟩, n1, some ⟨h, 0, none⟩, n2, some ⟨u, 0, none⟩, n3, some ⟨z, 0, none⟩, n4⟩, ⟨is, rs, now, key, qu, ss, es, dr⟩) : TnP)]).map (·.2) = (ps.take (k + 1)).map (·.2) := by
        rw [List.map_append, hqm, List.take_succ_eq_append_getElem hlt, List.map_append, HK.out]
        rfl
      have HH : Hid _ := And.intro hr2 (And.intro hB2 (And.intro hP2 hm2))
      clear hr1 hB1 hlr hr2 hB2 hP2 hm2 hpl1 hset
      go_wp2_with fail
      go_roundw
      case rel => exact ⟨k + 1, _, hlt, by go_num, by rw [List.length_append, hql]; rfl, HH.out.2.2.2, HH.out.1, HH.out.2.2.1, HH.out.2.1⟩
      case measure => simp [intOf]; omega
    · obtain rfl : k = ps.length := by omega
      rw [Nat.sub_self, List.replicate_zero, List.append_nil] at hr
      rw [List.take_length] at hqm
      clear hlt hk
      go_wp2
      go_ret
      exact ⟨w.heap.size, rfl, Nat.le_refl _, qs, hqm, hr, fun a b h => hpl (a, b) h, hb⟩
end Go.Proofs.YtialedffpaoacaaGreatDoor
/- The laws' own look: lists of Tenants are as themselves. (Written by gen_tens.py.) -/
namespace Go.Proofs.YtialedffpaoacaaGreatDoor
open Go.RowKit Go.Sort

set_option maxRecDepth 100000 in
set_option maxHeartbeats 4000000 in
theorem eqTenantS_any (p q : Option Addr) (c0 d0 : Nat) (ps qs : List TnP) (w : World) (hp : TensIn w p ps) (hq : TensIn w q qs) (hpq : ps.map (·.2) = qs.map (·.2)) (hn : ps.length ≤ 100000000) (hs : ∀ e ∈ ps, e.2.is.length ≤ 100000000 ∧ e.2.rs.length ≤ 100000000 ∧ e.2.ss.length ≤ 100000000 ∧ e.2.es.length ≤ 100000000) : Calls Tryz.prog 28 #[.slice p ps.length c0, .slice q ps.length d0] w fun r w' => r = .returned (.bool true) ∧ Below w.heap.size w w' := by
  have HE : Hid (∀ a a' t w, InT w a t → InT w a' t → (t.is.length ≤ 100000000 ∧ t.rs.length ≤ 100000000 ∧ t.ss.length ≤ 100000000 ∧ t.es.length ≤ 100000000) → Calls Tryz.prog 59 #[.agg #[.slice a.x t.is.length a.c1, .slice a.y t.rs.length a.c2, .int .i64 t.now, .string t.key, .int .i64 t.qu, .slice a.p t.ss.length a.c3, .slice a.q t.es.length a.c4, .int .i64 t.dr], .agg #[.slice a'.x t.is.length a'.c1, .slice a'.y t.rs.length a'.c2, .int .i64 t.now, .string t.key, .int .i64 t.qu, .slice a'.p t.ss.length a'.c3, .slice a'.q t.es.length a'.c4, .int .i64 t.dr]] w fun r w' => r = .returned (.bool true) ∧ Below w.heap.size w w') := fun a a' t w h1 h2 h3 => eqTenant_any a.x a.c1 a.y a.c2 a.p a.c3 a.q a.c4 a'.x a'.c1 a'.y a'.c2 a'.p a'.c3 a'.q a'.c4 t.is t.rs t.now t.key t.qu t.ss t.es t.dr w ⟨h1, h2⟩ h3
  have HX : Hid (TensIn w p ps ∧ TensIn w q qs) := ⟨hp, hq⟩
  have HL : Hid (ps.length = qs.length ∧ ∀ k (h1 : k < ps.length) (h2 : k < qs.length), ps[k].2 = qs[k].2) := by
    refine ⟨by simpa using congrArg List.length hpq, fun k h1 h2 => ?_⟩
    have := congrArg (fun l => l[k]?) hpq
    simpa [h1, h2] using this
  have HS : Hid (∀ e ∈ ps, e.2.is.length ≤ 100000000 ∧ e.2.rs.length ≤ 100000000 ∧ e.2.ss.length ≤ 100000000 ∧ e.2.es.length ≤ 100000000) := hs
  have h0 : ((ps.length : Int) != (ps.length : Int)) = false := by simp
  clear hp hq hpq hs
  go_enter Tryz.func28, Tryz.ntmps28
  go_wp2_with fail
  go_loopw [5] (fun i wr => ∃ k : Nat, k ≤ ps.length ∧ i = .int .i64 k ∧ Below w.heap.size w wr) (fun i _ => ps.length - (intOf i).toNat)
  case atStart => exact ⟨0, Nat.zero_le _, rfl, Below.refl _ _⟩
  case round =>
    obtain ⟨k, hk, rfl, hb⟩ := hrel
    by_cases hlt : k < ps.length
    · have hlq : k < qs.length := by have := HL.out.1; omega
      obtain ⟨g, a, t, rfl, hg, hek, hI, x0, x1, x2, x3, x4, x5, x6, x7⟩ := (HX.out.1.below hb).at k hlt
      obtain ⟨g', a', t', rfl, hg', hek', hI', y0, y1, y2, y3, y4, y5, y6, y7⟩ := (HX.out.2.below hb).at k hlq
      have ht := HL.out.2 k hlt hlq
      have hS := HS.out _ (List.getElem_mem hlt)
      rw [hek] at hS
      rw [hek, hek'] at ht
      simp only at ht hS
      subst ht
      have HEr : Hid (∀ d os, Calls Tryz.prog 59 #[.agg #[.slice a.x t.is.length a.c1, .slice a.y t.rs.length a.c2, .int .i64 t.now, .string t.key, .int .i64 t.qu, .slice a.p t.ss.length a.c3, .slice a.q t.es.length a.c4, .int .i64 t.dr], .agg #[.slice a'.x t.is.length a'.c1, .slice a'.y t.rs.length a'.c2, .int .i64 t.now, .string t.key, .int .i64 t.qu, .slice a'.p t.ss.length a'.c3, .slice a'.q t.es.length a'.c4, .int .i64 t.dr]] (grow (redrawn wr d) os) fun e w'' => e = .returned (.bool true) ∧ ∃ p : Regrown, w'' = grow (redrawn wr p.d) p.os) := fun d os => Calls.regrown_of (HE.out a a' t _ (hI.below (below_regrown wr d os)) (hI'.below (below_regrown wr d os)) hS)
      clear HE hek hek' hI hI' hS HX HL HS
      generalize a.x = ax at *
      generalize a.y = ay at *
      generalize a.p = ap at *
      generalize a.q = aq at *
      generalize a.c1 = ac1 at *
      generalize a.c2 = ac2 at *
      generalize a.c3 = ac3 at *
      generalize a.c4 = ac4 at *
      generalize t.is.length = tn1 at *
      generalize t.rs.length = tn2 at *
      generalize t.ss.length = tn3 at *
      generalize t.es.length = tn4 at *
      generalize t.now = tw at *
      generalize t.key = tk at *
      generalize t.qu = tq at *
      generalize t.dr = td at *
      generalize a'.x = vx at *
      generalize a'.y = vy at *
      generalize a'.p = vp at *
      generalize a'.q = vq at *
      generalize a'.c1 = vc1 at *
      generalize a'.c2 = vc2 at *
      generalize a'.c3 = vc3 at *
      generalize a'.c4 = vc4 at *
      replace x0 := cell_regrown x0
      replace y0 := cell_regrown y0
      replace x1 := cell_regrown x1
      replace y1 := cell_regrown y1
      replace x2 := cell_regrown x2
      replace y2 := cell_regrown y2
      replace x3 := cell_regrown x3
      replace y3 := cell_regrown y3
      replace x4 := cell_regrown x4
      replace y4 := cell_regrown y4
      replace x5 := cell_regrown x5
      replace y5 := cell_regrown y5
      replace x6 := cell_regrown x6
      replace y6 := cell_regrown y6
      replace x7 := cell_regrown x7
      replace y7 := cell_regrown y7
      go_wp2_with fail
      refine wp_region_quiet_below (by kernel_rfl) (by kernel_rfl) ?_
      repeat (go_big_quiet_step ((go_at_call 59; exact HEr.out _ _)))
      refine wpQuiet_nil ?_
      intro w1 hw'
      obtain ⟨⟨dq, osq⟩, hw''⟩ := hw'
      have hbq := below_regrown wr dq osq
      rw [← hw''] at hbq
      clear hw'' osq dq x0 x1 x2 x3 x4 x5 x6 x7 y0 y1 y2 y3 y4 y5 y6 y7 HEr
      have hb2 := hb.trans (hbq.mono hb.size)
      clear hbq
      go_wp2
      go_roundw
      case rel => exact ⟨k + 1, hlt, by go_num, hb2⟩
      case measure => simp [intOf]; omega
    · obtain rfl : k = ps.length := by omega
      clear hlt hk
      go_wp2
      go_ret
      exact ⟨rfl, hb⟩
end Go.Proofs.YtialedffpaoacaaGreatDoor
/- The laws' own look: Leaks and lists of them are as themselves. (Written by gen_lks.py.) -/
namespace Go.Proofs.YtialedffpaoacaaGreatDoor
open Go.RowKit Go.Sort

theorem boxes6L {w w1 : World} {xs ys : List Value} {t u : TypeId} (h : Below ((w.alloc (.cells xs.toArray t)).alloc (.cells ys.toArray u)).heap.size ((w.alloc (.cells xs.toArray t)).alloc (.cells ys.toArray u)) w1) :
    (∀ k v, xs[k]? = some v → w1.cell? ⟨w.heap.size, k, none⟩ = some v) ∧ (∀ k v, ys[k]? = some v → w1.cell? ⟨w.heap.size + 1, k, none⟩ = some v) ∧ Below w.heap.size w w1 := by
  have q0 := (Row.new w t xs).alloc (.cells ys.toArray u)
  have q1 := Row.new (w.alloc (.cells xs.toArray t)) u ys
  have p0 := q0.below h q0.lt
  have p1 := q1.below h q1.lt
  have e1 : (w.alloc (.cells xs.toArray t)).heap.size = w.heap.size + 1 := by simp
  rw [e1] at p1
  exact ⟨fun k v hv => (p0.cell k).trans hv, fun k v hv => (p1.cell k).trans hv, ((ent_new0 w _).alloc (by simp) _).trans (h.mono (by simp; omega))⟩
set_option maxRecDepth 100000 in
theorem eqLeak_same (e : Lk) (w : World) : Calls Tryz.prog 61 #[lkV e, lkV e] w fun r w' => r = .returned (.bool true) ∧ Below w.heap.size w w' := by
  obtain ⟨fr, tt, a, l, ad, tg⟩ := e
  unfold lkV lkA
  have HN : Hid (∀ w, Calls Tryz.prog 110 #[.agg #[.int .i64 a, .int .i64 l], .agg #[.int .i64 a, .int .i64 l]] w fun e w' => e = .returned (.bool true) ∧ Below w.heap.size w w') := eqNet_same a l
  have e0 : (fr != fr) = false := by simp
  have e1 : (tt != tt) = false := by simp
  have e2 : (ad != ad) = false := by simp
  have e3 : (tg != tg) = false := by simp
  go_enter Tryz.func61, Tryz.ntmps61
  go_wp2_with fail
  refine (HN.out _).mono ?_
  rintro e w1 ⟨rfl, hb1⟩
  obtain ⟨k0, k1, hB⟩ := boxes6L (xs := [.int .i64 fr, .int .i64 tt, .int .i64 a, .int .i64 l, .int .i64 ad, .int .i64 tg]) (ys := [.int .i64 fr, .int .i64 tt, .int .i64 a, .int .i64 l, .int .i64 ad, .int .i64 tg]) hb1
  have c4 := k0 4 _ rfl
  have d4 := k1 4 _ rfl
  have c5 := k0 5 _ rfl
  have d5 := k1 5 _ rfl
  clear k0 k1 hb1 HN
  go_wp2
  go_ret
  exact ⟨rfl, hB⟩
set_option maxRecDepth 100000 in
theorem eqLeakS_any (p q : Option Addr) (c0 d0 : Nat) (es : List Lk) (w : World) (hp : LksIn w p es) (hq : LksIn w q es) (hn : es.length ≤ 100000000) : Calls Tryz.prog 30 #[.slice p es.length c0, .slice q es.length d0] w fun r w' => r = .returned (.bool true) ∧ Below w.heap.size w w' := by
  have HE : Hid (∀ e w, Calls Tryz.prog 61 #[lkV e, lkV e] w fun r w' => r = .returned (.bool true) ∧ Below w.heap.size w w') := eqLeak_same
  have HX : Hid (LksIn w p es ∧ LksIn w q es) := ⟨hp, hq⟩
  have h0 : ((es.length : Int) != (es.length : Int)) = false := by simp
  clear hp hq
  go_enter Tryz.func30, Tryz.ntmps30
  go_wp2_with fail
  go_loopw [5] (fun i wr => ∃ k : Nat, k ≤ es.length ∧ i = .int .i64 k ∧ Below w.heap.size w wr) (fun i _ => es.length - (intOf i).toNat)
  case atStart => exact ⟨0, Nat.zero_le _, rfl, Below.refl _ _⟩
  case round =>
    obtain ⟨k, hk, rfl, hb⟩ := hrel
    by_cases hlt : k < es.length
    · obtain ⟨g, fr, tt, a, l, ad, tg, rfl, hg, hek, x0, x1, x2, x3, x4, x5⟩ := (HX.out.1.below hb).at k hlt
      obtain ⟨g', fr', tt', a', l', ad', tg', rfl, hg', hek', y0, y1, y2, y3, y4, y5⟩ := (HX.out.2.below hb).at k hlt
      rw [hek] at hek'
      simp only [Lk.mk.injEq] at hek'
      obtain ⟨rfl, rfl, rfl, rfl, rfl, rfl⟩ := hek'
      have HEk : Hid (∀ w, Calls Tryz.prog 61 #[.agg #[.int .i64 fr, .int .i64 tt, .int .i64 a, .int .i64 l, .int .i64 ad, .int .i64 tg], .agg #[.int .i64 fr, .int .i64 tt, .int .i64 a, .int .i64 l, .int .i64 ad, .int .i64 tg]] w fun r w' => r = .returned (.bool true) ∧ Below w.heap.size w w') := HE.out ⟨fr, tt, a, l, ad, tg⟩
      clear HE hek HX
      replace x0 := cell_regrown x0
      replace y0 := cell_regrown y0
      replace x1 := cell_regrown x1
      replace y1 := cell_regrown y1
      replace x2 := cell_regrown x2
      replace y2 := cell_regrown y2
      replace x3 := cell_regrown x3
      replace y3 := cell_regrown y3
      replace x4 := cell_regrown x4
      replace y4 := cell_regrown y4
      replace x5 := cell_regrown x5
      replace y5 := cell_regrown y5
      go_wp2_with fail
      refine wp_region_quiet_below (by kernel_rfl) (by kernel_rfl) ?_
      repeat (go_big_quiet_step ((go_at_call 61; exact Calls.regrown_of (HEk.out _))))
      refine wpQuiet_nil ?_
      intro w1 hw'
      obtain ⟨⟨dq, osq⟩, hw''⟩ := hw'
      have hbq := below_regrown wr dq osq
      rw [← hw''] at hbq
      clear hw'' osq dq x0 x1 x2 x3 x4 x5 y0 y1 y2 y3 y4 y5 HEk
      have hb2 := hb.trans (hbq.mono hb.size)
      clear hbq
      go_wp2
      go_roundw
      case rel => exact ⟨k + 1, hlt, by go_num, hb2⟩
      case measure => simp [intOf]; omega
    · obtain rfl : k = es.length := by omega
      clear hlt hk
      go_wp2
      go_ret
      exact ⟨rfl, hb⟩
end Go.Proofs.YtialedffpaoacaaGreatDoor
/- TenantRight, of the program and of the model. (Written by gen_ten.py.) -/
namespace Go.Proofs.YtialedffpaoacaaGreatDoor
open Go.RowKit Go.Sort

def tenB (is : List If) (rs : List Rt) (now : Int) (key : ByteArray) (qu : Int) (ss : List Sn) (es : List Se) (dr : Int) : Bool := instB is rs now && (inKey key && (decide (1 ≤ qu) && (decide (qu ≤ 6) && (ringB ss qu && (heardB es && inTime dr)))))
theorem Below.same {B : Nat} {w w' : World} (h : w = w') : Below B w w' := by subst h; exact Below.refl _ _
set_option maxRecDepth 100000 in
set_option maxHeartbeats 4000000 in
theorem implTenant_any (x : Option Addr) (c1 : Nat) (y : Option Addr) (c2 : Nat) (p : Option Addr) (c3 : Nat) (q : Option Addr) (c4 : Nat) (is : List If) (rs : List Rt) (now : Int) (key : ByteArray) (qu : Int) (ss : List Sn) (es : List Se) (dr : Int) (w : World) (h : IfsIn w x is ∧ RtsIn w y rs ∧ SnsIn w p ss ∧ SesIn w q es) (hc1 : is.length ≤ c1) (hk : key.size ≤ maxLen) (hx : ∀ s ∈ ss, s.tx.size ≤ 100000000) (hn : is.length ≤ 100000000 ∧ rs.length ≤ 100000000 ∧ ss.length ≤ 100000000 ∧ es.length ≤ 100000000) :
    Calls Tryz.prog 94 #[tenV x is.length c1 y rs.length c2 now key qu p ss.length c3 q es.length c4 dr] w fun e w' => e = .returned (.bool (tenB is rs now key qu ss es dr)) ∧ Below w.heap.size w w' := by
  have HI : Hid (∀ w, IfsIn w x is → RtsIn w y rs → Calls Tryz.prog 99 #[.agg #[.slice x is.length c1, .slice y rs.length c2, .int .i64 now]] w fun e w' => e = .returned (.bool (instB is rs now)) ∧ Below w.heap.size w w') := fun w a b => implInst_any x c1 y c2 is rs now w a hc1 b hn.1 hn.2.1
  have HK : Hid (∀ w, Calls Tryz.prog 133 #[.string key] w fun e w' => e = .returned (.bool (inKey key)) ∧ w = w') := fun w => keyRight_any key w hk
  have HS : Hid (∀ w, SnsIn w p ss → Calls Tryz.prog 134 #[.slice p ss.length c3, .int .i64 qu] w fun e w' => e = .returned (.bool (ringB ss qu)) ∧ Below w.heap.size w w') := fun w a => ringRight_any p c3 ss qu w a hn.2.2.1 hx
  have HE : Hid (∀ w, SesIn w q es → Calls Tryz.prog 135 #[.slice q es.length c4] w fun e w' => e = .returned (.bool (heardB es)) ∧ Below w.heap.size w w') := fun w a => heardRight_any q c4 es w a hn.2.2.2
  have HT : Hid (∀ w, Calls Tryz.prog 55 #[.int .i64 dr] w fun e w' => e = .returned (.bool (inTime dr)) ∧ w = w') := fun w => isTime_any dr w
  have HX : Hid (IfsIn w x is ∧ RtsIn w y rs ∧ SnsIn w p ss ∧ SesIn w q es) := h
  have HR : Hid (tenB is rs now key qu ss es dr = (instB is rs now && (inKey key && (decide (1 ≤ qu) && (decide (qu ≤ 6) && (ringB ss qu && (heardB es && inTime dr))))))) := rfl
  clear h hn hk hx hc1
  generalize tenB is rs now key qu ss es dr = RES at *
  generalize instB is rs now = B1 at *
  generalize inKey key = B2 at *
  generalize ringB ss qu = B3 at *
  generalize heardB es = B4 at *
  generalize inTime dr = B5 at *
  unfold tenV
  generalize is.length = n1 at *
  generalize rs.length = n2 at *
  generalize ss.length = n3 at *
  generalize es.length = n4 at *
  have HQ : Hid _ := And.intro (Row.new w 55 [.slice x n1 c1, .slice y n2 c2, .int .i64 now, .string key, .int .i64 qu, .slice p n3 c3, .slice q n4 c4, .int .i64 dr]) (ent_new0 w (.cells #[.slice x n1 c1, .slice y n2 c2, .int .i64 now, .string key, .int .i64 qu, .slice p n3 c3, .slice q n4 c4, .int .i64 dr] 55))
  go_enter Tryz.func94, Tryz.ntmps94
  go_wp2_with fail
  obtain ⟨r0, hB⟩ := HQ.out
  clear HQ
  refine (HI.out _ (HX.out.1.below hB) (HX.out.2.1.below hB)).mono ?_
  rintro e w1 ⟨rfl, hb1⟩
  have r0 := r0.below hb1 r0.lt
  have hB := hB.trans (hb1.mono hB.size)
  clear hb1
  have hR := HR.out
  clear HR HI
  cases B1
  · simp only [Bool.false_and] at hR
    go_wp2
    go_ret
    exact ⟨by first | rfl | (rw [hR]; rfl) | (rw [← hR]; rfl), hB⟩
  rw [Bool.true_and] at hR
  have s0 : w1.cell? ⟨w.heap.size, 0, none⟩ = some (.slice x n1 c1) := r0.cell 0
  have s1 : w1.cell? ⟨w.heap.size, 1, none⟩ = some (.slice y n2 c2) := r0.cell 1
  have s2 : w1.cell? ⟨w.heap.size, 2, none⟩ = some (.int .i64 now) := r0.cell 2
  have s3 : w1.cell? ⟨w.heap.size, 3, none⟩ = some (.string key) := r0.cell 3
  have s4 : w1.cell? ⟨w.heap.size, 4, none⟩ = some (.int .i64 qu) := r0.cell 4
  have s5 : w1.cell? ⟨w.heap.size, 5, none⟩ = some (.slice p n3 c3) := r0.cell 5
  have s6 : w1.cell? ⟨w.heap.size, 6, none⟩ = some (.slice q n4 c4) := r0.cell 6
  have s7 : w1.cell? ⟨w.heap.size, 7, none⟩ = some (.int .i64 dr) := r0.cell 7
  go_wp2_with fail
  clear s0 s1 s2 s3 s4 s5 s6 s7
  refine (HK.out _).mono ?_
  rintro e w2 ⟨rfl, rfl⟩
  clear HK
  cases B2
  · simp only [Bool.false_and] at hR
    go_wp2
    go_ret
    exact ⟨by first | rfl | (rw [hR]; rfl) | (rw [← hR]; rfl), hB⟩
  rw [Bool.true_and] at hR
  have s0 : w1.cell? ⟨w.heap.size, 0, none⟩ = some (.slice x n1 c1) := r0.cell 0
  have s1 : w1.cell? ⟨w.heap.size, 1, none⟩ = some (.slice y n2 c2) := r0.cell 1
  have s2 : w1.cell? ⟨w.heap.size, 2, none⟩ = some (.int .i64 now) := r0.cell 2
  have s3 : w1.cell? ⟨w.heap.size, 3, none⟩ = some (.string key) := r0.cell 3
  have s4 : w1.cell? ⟨w.heap.size, 4, none⟩ = some (.int .i64 qu) := r0.cell 4
  have s5 : w1.cell? ⟨w.heap.size, 5, none⟩ = some (.slice p n3 c3) := r0.cell 5
  have s6 : w1.cell? ⟨w.heap.size, 6, none⟩ = some (.slice q n4 c4) := r0.cell 6
  have s7 : w1.cell? ⟨w.heap.size, 7, none⟩ = some (.int .i64 dr) := r0.cell 7
  by_cases k1 : 1 ≤ qu
  case neg =>
    have d1 : decide (1 ≤ qu) = false := by simpa using k1
    rw [d1, Bool.false_and] at hR
    go_wp2
    go_ret
    exact ⟨by first | rfl | (rw [hR]; rfl) | (rw [← hR]; rfl), hB⟩
  have d1 : decide (1 ≤ qu) = true := by simpa using k1
  rw [d1, Bool.true_and] at hR
  by_cases k2 : qu ≤ 6
  case neg =>
    have d2 : decide (qu ≤ 6) = false := by simpa using k2
    rw [d2, Bool.false_and] at hR
    go_wp2
    go_ret
    exact ⟨by first | rfl | (rw [hR]; rfl) | (rw [← hR]; rfl), hB⟩
  have d2 : decide (qu ≤ 6) = true := by simpa using k2
  rw [d2, Bool.true_and] at hR
  go_wp2_with fail
  clear s0 s1 s2 s3 s4 s5 s6 s7
  refine (HS.out _ (HX.out.2.2.1.below hB)).mono ?_
  rintro e w3 ⟨rfl, hb3⟩
  have r0 := r0.below hb3 r0.lt
  have hB := hB.trans (hb3.mono hB.size)
  clear hb3
  clear HS
  cases B3
  · simp only [Bool.false_and] at hR
    go_wp2
    go_ret
    exact ⟨by first | rfl | (rw [hR]; rfl) | (rw [← hR]; rfl), hB⟩
  rw [Bool.true_and] at hR
  have s0 : w3.cell? ⟨w.heap.size, 0, none⟩ = some (.slice x n1 c1) := r0.cell 0
  have s1 : w3.cell? ⟨w.heap.size, 1, none⟩ = some (.slice y n2 c2) := r0.cell 1
  have s2 : w3.cell? ⟨w.heap.size, 2, none⟩ = some (.int .i64 now) := r0.cell 2
  have s3 : w3.cell? ⟨w.heap.size, 3, none⟩ = some (.string key) := r0.cell 3
  have s4 : w3.cell? ⟨w.heap.size, 4, none⟩ = some (.int .i64 qu) := r0.cell 4
  have s5 : w3.cell? ⟨w.heap.size, 5, none⟩ = some (.slice p n3 c3) := r0.cell 5
  have s6 : w3.cell? ⟨w.heap.size, 6, none⟩ = some (.slice q n4 c4) := r0.cell 6
  have s7 : w3.cell? ⟨w.heap.size, 7, none⟩ = some (.int .i64 dr) := r0.cell 7
  go_wp2_with fail
  clear s0 s1 s2 s3 s4 s5 s6 s7
  refine (HE.out _ (HX.out.2.2.2.below hB)).mono ?_
  rintro e w4 ⟨rfl, hb4⟩
  have r0 := r0.below hb4 r0.lt
  have hB := hB.trans (hb4.mono hB.size)
  clear hb4
  clear HE
  cases B4
  · simp only [Bool.false_and] at hR
    go_wp2
    go_ret
    exact ⟨by first | rfl | (rw [hR]; rfl) | (rw [← hR]; rfl), hB⟩
  rw [Bool.true_and] at hR
  have s0 : w4.cell? ⟨w.heap.size, 0, none⟩ = some (.slice x n1 c1) := r0.cell 0
  have s1 : w4.cell? ⟨w.heap.size, 1, none⟩ = some (.slice y n2 c2) := r0.cell 1
  have s2 : w4.cell? ⟨w.heap.size, 2, none⟩ = some (.int .i64 now) := r0.cell 2
  have s3 : w4.cell? ⟨w.heap.size, 3, none⟩ = some (.string key) := r0.cell 3
  have s4 : w4.cell? ⟨w.heap.size, 4, none⟩ = some (.int .i64 qu) := r0.cell 4
  have s5 : w4.cell? ⟨w.heap.size, 5, none⟩ = some (.slice p n3 c3) := r0.cell 5
  have s6 : w4.cell? ⟨w.heap.size, 6, none⟩ = some (.slice q n4 c4) := r0.cell 6
  have s7 : w4.cell? ⟨w.heap.size, 7, none⟩ = some (.int .i64 dr) := r0.cell 7
  go_wp2_with fail
  clear s0 s1 s2 s3 s4 s5 s6 s7
  refine (HT.out _).mono ?_
  rintro e w5 ⟨rfl, rfl⟩
  clear HT
  go_wp2
  go_ret
  exact ⟨by first | rfl | (rw [hR]; rfl) | (rw [← hR]; rfl), hB⟩
set_option maxRecDepth 100000 in
set_option maxHeartbeats 4000000 in
theorem specTenant_any (x : Option Addr) (c1 : Nat) (y : Option Addr) (c2 : Nat) (p : Option Addr) (c3 : Nat) (q : Option Addr) (c4 : Nat) (is : List If) (rs : List Rt) (now : Int) (key : ByteArray) (qu : Int) (ss : List Sn) (es : List Se) (dr : Int) (w : World) (h : IfsIn w x is ∧ RtsIn w y rs ∧ SnsIn w p ss ∧ SesIn w q es) (hc1 : is.length ≤ c1) (hk : key.size ≤ maxLen) (hx : ∀ s ∈ ss, s.tx.size ≤ 100000000) (hn : is.length ≤ 100000000 ∧ rs.length ≤ 100000000 ∧ ss.length ≤ 100000000 ∧ es.length ≤ 100000000) :
    Calls Tryz.prog 42 #[tenV x is.length c1 y rs.length c2 now key qu p ss.length c3 q es.length c4 dr] w fun e w' => e = .returned (.bool (tenB is rs now key qu ss es dr)) ∧ Below w.heap.size w w' := by
  have HI : Hid (∀ w, IfsIn w x is → RtsIn w y rs → Calls Tryz.prog 80 #[.agg #[.slice x is.length c1, .slice y rs.length c2, .int .i64 now]] w fun e w' => e = .returned (.bool (instB is rs now)) ∧ Below w.heap.size w w') := fun w a b => specInst_any x c1 y c2 is rs now w a hc1 b hn.1 hn.2.1
  have HK : Hid (∀ w, Calls Tryz.prog 81 #[.string key] w fun e w' => e = .returned (.bool (inKey key)) ∧ w = w') := fun w => specKey_any key w hk
  have HQ6 : Hid (∀ w, Calls Tryz.prog 43 #[.int .i64 qu, .int .i64 1, .int .i64 6] w fun e w' => e = .returned (.bool (decide (1 ≤ qu ∧ qu ≤ 6))) ∧ w = w') := fun w => l03Is_any qu 1 6 w
  have HF : Hid (∀ a w, Calls Tryz.prog 43 #[.int .i64 a, .int .i64 0, .int .i64 2] w fun e w' => e = .returned (.bool (decide (0 ≤ a ∧ a ≤ 2))) ∧ w = w') := fun a w => l03Is_any a 0 2 w
  have HE : Hid (∀ w, SesIn w q es → Calls Tryz.prog 82 #[.slice q es.length c4] w fun e w' => e = .returned (.bool (heardB es)) ∧ Below w.heap.size w w') := fun w a => specHeard_any q c4 es w a hn.2.2.2
  have HT : Hid (∀ w, Calls Tryz.prog 41 #[.int .i64 dr] w fun e w' => e = .returned (.bool (inTime dr)) ∧ w = w') := fun w => l03Time_any dr w
  have HX : Hid (IfsIn w x is ∧ RtsIn w y rs ∧ SnsIn w p ss ∧ SesIn w q es) := h
  have HR : Hid (tenB is rs now key qu ss es dr = (instB is rs now && (inKey key && (decide (1 ≤ qu ∧ qu ≤ 6) && (ringB ss qu && (heardB es && inTime dr)))))) := by show _ = _; unfold tenB; rw [Bool.decide_and, Bool.and_assoc]
  have HL : Hid (qu < (ss.length : Int) → ringB ss qu = false) := fun h => ringB_long (by omega)
  have HB1 : Hid (∀ k (hk : k < ss.length), snB ss[k] = false → ringB ss qu = false) := fun k hk h => ringB_bad hk h
  have HG : Hid ((ss.length : Int) ≤ qu → (∀ j (hj : j < ss.length), snB ss[j] = true) → ringB ss qu = true) := fun a b => ringB_good a b
  have HZ : Hid (∀ s ∈ ss, s.tx.size ≤ 100000000) := hx
  have hn3 := hn.2.2.1
  clear h hn hk hx hc1
  generalize tenB is rs now key qu ss es dr = RES at *
  generalize instB is rs now = B1 at *
  generalize inKey key = B2 at *
  generalize ringB ss qu = B3 at *
  generalize heardB es = B4 at *
  generalize inTime dr = B5 at *
  unfold tenV
  generalize is.length = n1 at *
  generalize rs.length = n2 at *
  generalize es.length = n4 at *
  have HQ : Hid _ := And.intro (Row.new w 55 [.slice x n1 c1, .slice y n2 c2, .int .i64 now, .string key, .int .i64 qu, .slice p ss.length c3, .slice q n4 c4, .int .i64 dr]) (ent_new0 w (.cells #[.slice x n1 c1, .slice y n2 c2, .int .i64 now, .string key, .int .i64 qu, .slice p ss.length c3, .slice q n4 c4, .int .i64 dr] 55))
  go_enter Tryz.func42, Tryz.ntmps42
  go_wp2_with fail
  obtain ⟨r0, hB⟩ := HQ.out
  clear HQ
  refine (HI.out _ (HX.out.1.below hB) (HX.out.2.1.below hB)).mono ?_
  rintro e w1 ⟨rfl, hb1⟩
  have r0 := r0.below hb1 r0.lt
  have hB := hB.trans (hb1.mono hB.size)
  clear hb1
  have hR := HR.out
  clear HR HI
  cases B1
  · simp only [Bool.false_and] at hR
    go_wp2
    go_ret
    exact ⟨by first | rfl | (rw [hR]; rfl) | (rw [← hR]; rfl), hB⟩
  rw [Bool.true_and] at hR
  have s0 : w1.cell? ⟨w.heap.size, 0, none⟩ = some (.slice x n1 c1) := r0.cell 0
  have s1 : w1.cell? ⟨w.heap.size, 1, none⟩ = some (.slice y n2 c2) := r0.cell 1
  have s2 : w1.cell? ⟨w.heap.size, 2, none⟩ = some (.int .i64 now) := r0.cell 2
  have s3 : w1.cell? ⟨w.heap.size, 3, none⟩ = some (.string key) := r0.cell 3
  have s4 : w1.cell? ⟨w.heap.size, 4, none⟩ = some (.int .i64 qu) := r0.cell 4
  have s5 : w1.cell? ⟨w.heap.size, 5, none⟩ = some (.slice p ss.length c3) := r0.cell 5
  have s6 : w1.cell? ⟨w.heap.size, 6, none⟩ = some (.slice q n4 c4) := r0.cell 6
  have s7 : w1.cell? ⟨w.heap.size, 7, none⟩ = some (.int .i64 dr) := r0.cell 7
  go_wp2_with fail
  clear s0 s1 s2 s3 s4 s5 s6 s7
  refine (HK.out _).mono ?_
  rintro e w2 ⟨rfl, rfl⟩
  clear HK
  cases B2
  · simp only [Bool.false_and] at hR
    go_wp2
    go_ret
    exact ⟨by first | rfl | (rw [hR]; rfl) | (rw [← hR]; rfl), hB⟩
  rw [Bool.true_and] at hR
  have s0 : w1.cell? ⟨w.heap.size, 0, none⟩ = some (.slice x n1 c1) := r0.cell 0
  have s1 : w1.cell? ⟨w.heap.size, 1, none⟩ = some (.slice y n2 c2) := r0.cell 1
  have s2 : w1.cell? ⟨w.heap.size, 2, none⟩ = some (.int .i64 now) := r0.cell 2
  have s3 : w1.cell? ⟨w.heap.size, 3, none⟩ = some (.string key) := r0.cell 3
  have s4 : w1.cell? ⟨w.heap.size, 4, none⟩ = some (.int .i64 qu) := r0.cell 4
  have s5 : w1.cell? ⟨w.heap.size, 5, none⟩ = some (.slice p ss.length c3) := r0.cell 5
  have s6 : w1.cell? ⟨w.heap.size, 6, none⟩ = some (.slice q n4 c4) := r0.cell 6
  have s7 : w1.cell? ⟨w.heap.size, 7, none⟩ = some (.int .i64 dr) := r0.cell 7
  go_wp2_with fail
  clear s0 s1 s2 s3 s4 s5 s6 s7
  refine (HQ6.out _).mono ?_
  rintro e w3 ⟨rfl, rfl⟩
  clear HQ6
  by_cases k1 : 1 ≤ qu ∧ qu ≤ 6
  case neg =>
    have d1 : decide (1 ≤ qu ∧ qu ≤ 6) = false := decide_eq_false k1
    rw [d1, Bool.false_and] at hR
    rw [d1]
    go_wp2
    go_ret
    exact ⟨by first | rfl | (rw [hR]; rfl) | (rw [← hR]; rfl), hB⟩
  have d1 : decide (1 ≤ qu ∧ qu ≤ 6) = true := decide_eq_true k1
  rw [d1, Bool.true_and] at hR
  rw [d1]
  have K1 : Hid _ := k1
  clear d1 k1
  have s0 : w1.cell? ⟨w.heap.size, 0, none⟩ = some (.slice x n1 c1) := r0.cell 0
  have s1 : w1.cell? ⟨w.heap.size, 1, none⟩ = some (.slice y n2 c2) := r0.cell 1
  have s2 : w1.cell? ⟨w.heap.size, 2, none⟩ = some (.int .i64 now) := r0.cell 2
  have s3 : w1.cell? ⟨w.heap.size, 3, none⟩ = some (.string key) := r0.cell 3
  have s4 : w1.cell? ⟨w.heap.size, 4, none⟩ = some (.int .i64 qu) := r0.cell 4
  have s5 : w1.cell? ⟨w.heap.size, 5, none⟩ = some (.slice p ss.length c3) := r0.cell 5
  have s6 : w1.cell? ⟨w.heap.size, 6, none⟩ = some (.slice q n4 c4) := r0.cell 6
  have s7 : w1.cell? ⟨w.heap.size, 7, none⟩ = some (.int .i64 dr) := r0.cell 7
  by_cases k2 : (ss.length : Int) ≤ qu
  case neg =>
    have d2 : decide (qu < (ss.length : Int)) = true := by simp; omega
    have hL := HL.out (by omega)
    subst hL
    simp only [Bool.false_and] at hR
    go_wp2
    go_ret
    exact ⟨by first | rfl | (rw [hR]; rfl) | (rw [← hR]; rfl), hB⟩
  have d2 : decide (qu < (ss.length : Int)) = false := by simp; omega
  have K2 : Hid ((ss.length : Int) ≤ qu) := k2
  clear k2
  go_wp2_with fail
  clear s0 s1 s2 s3 s4 s5 s6 s7 d2
  refine (HE.out _ (HX.out.2.2.2.below hB)).mono ?_
  rintro e w4 ⟨rfl, hb4⟩
  have r0 := r0.below hb4 r0.lt
  have hB := hB.trans (hb4.mono hB.size)
  clear hb4
  clear HE
  cases B4
  · simp only [Bool.false_and, Bool.and_false] at hR
    go_wp2
    go_ret
    exact ⟨by first | rfl | (rw [hR]; rfl) | (rw [← hR]; rfl), hB⟩
  rw [Bool.true_and] at hR
  have s0 : w4.cell? ⟨w.heap.size, 0, none⟩ = some (.slice x n1 c1) := r0.cell 0
  have s1 : w4.cell? ⟨w.heap.size, 1, none⟩ = some (.slice y n2 c2) := r0.cell 1
  have s2 : w4.cell? ⟨w.heap.size, 2, none⟩ = some (.int .i64 now) := r0.cell 2
  have s3 : w4.cell? ⟨w.heap.size, 3, none⟩ = some (.string key) := r0.cell 3
  have s4 : w4.cell? ⟨w.heap.size, 4, none⟩ = some (.int .i64 qu) := r0.cell 4
  have s5 : w4.cell? ⟨w.heap.size, 5, none⟩ = some (.slice p ss.length c3) := r0.cell 5
  have s6 : w4.cell? ⟨w.heap.size, 6, none⟩ = some (.slice q n4 c4) := r0.cell 6
  have s7 : w4.cell? ⟨w.heap.size, 7, none⟩ = some (.int .i64 dr) := r0.cell 7
  go_wp2_with fail
  clear s0 s1 s2 s3 s4 s5 s6 s7
  refine (HT.out _).mono ?_
  rintro e w5 ⟨rfl, rfl⟩
  clear HT
  cases B5
  · simp only [Bool.and_false] at hR
    go_wp2
    go_ret
    exact ⟨by first | rfl | (rw [hR]; rfl) | (rw [← hR]; rfl), hB⟩
  rw [Bool.and_true] at hR
  have HRR : Hid (RES = B3) := hR
  have HB4 : Hid _ := And.intro r0 hB
  clear hR r0 hB
  go_wp2_with fail
  go_loopw [3] (fun i wr => ∃ k : Nat, k ≤ ss.length ∧ i = .int .i64 k ∧ (∀ j (hj : j < ss.length), j < k → snB ss[j] = true) ∧ Row wr w.heap.size 55 [.slice x n1 c1, .slice y n2 c2, .int .i64 now, .string key, .int .i64 qu, .slice p ss.length c3, .slice q n4 c4, .int .i64 dr] ∧ Below w.heap.size w wr) (fun i _ => ss.length - (intOf i).toNat)
  case atStart => exact ⟨0, Nat.zero_le _, rfl, fun j _ hj => absurd hj (by omega), HB4.out.1, HB4.out.2⟩
  case round =>
    clear HB4
    obtain ⟨k, hk, rfl, ha, rk, hBk⟩ := hrel
    have s5 : wr.cell? ⟨w.heap.size, 5, none⟩ = some (.slice p ss.length c3) := rk.cell 5
    by_cases hlt : k < ss.length
    · have d1 : decide ((k : Int) < (ss.length : Int)) = true := by simpa using hlt
      obtain ⟨g, fc, tx, rfl, hg, hek, c0, c1⟩ := (HX.out.2.2.1.below hBk).at k hlt
      have hsz := HZ.out ss[k] (List.getElem_mem hlt)
      have HBad : Hid (snB ss[k] = false → B3 = false) := HB1.out k hlt
      have HNx : Hid (snB ss[k] = true → ∀ j (hj : j < ss.length), j < k + 1 → snB ss[j] = true) := fun h j hj hjk => by
        rcases Nat.lt_or_ge j k with h' | h'
        · exact ha j hj h'
        · obtain rfl : j = k := by omega
          exact h
      rw [hek] at HBad HNx hsz
      simp only at hsz
      have e1 : snB ⟨fc, tx⟩ = (decide (0 ≤ fc ∧ fc ≤ 2) && decide (tx.size ≤ 1000)) := rfl
      rw [e1] at HBad HNx
      have HBB : Hid _ := And.intro rk hBk
      have HFk : Hid (∀ w, Calls Tryz.prog 43 #[.int .i64 fc, .int .i64 0, .int .i64 2] w fun e w' => e = .returned (.bool (decide (0 ≤ fc ∧ fc ≤ 2))) ∧ w = w') := HF.out fc
      clear HB1 HG ha hek e1 rk hBk HF
      go_wp2_with fail
      refine (HFk.out _).mono ?_
      rintro e w2 ⟨rfl, rfl⟩
      cases hL : decide (0 ≤ fc ∧ fc ≤ 2)
      · have hR := HBad.out (by rw [hL]; rfl)
        have hR := HRR.out.trans hR
        clear hL HRR HBad
        go_wp2
        go_ret
        exact ⟨by first | rfl | (rw [hR]; rfl) | (rw [← hR]; rfl), HBB.out.2⟩
      · have hL2 : Hid _ := hL
        clear hL
        by_cases z4 : 1000 < tx.size
        · have z5 : decide (1000 < (tx.size : Int)) = true := by simp; omega
          have hR := HBad.out (by rw [decide_eq_false (show ¬ tx.size ≤ 1000 by omega), Bool.and_false])
          have hR := HRR.out.trans hR
          clear HRR HBad
          go_wp2
          go_ret
          exact ⟨by first | rfl | (rw [hR]; rfl) | (rw [← hR]; rfl), HBB.out.2⟩
        · have z5 : decide (1000 < (tx.size : Int)) = false := by simp; omega
          have HN := HNx.out (by rw [hL2.out, decide_eq_true (show tx.size ≤ 1000 by omega)]; rfl)
          have HNN : Hid _ := HN
          clear HN HNx HBad hL2
          go_wp2_with fail
          clear c0 c1 s5
          go_roundw
          case rel => exact ⟨k + 1, hlt, by go_num, HNN.out, HBB.out.1, HBB.out.2⟩
          case measure => simp [intOf]; omega
    · obtain rfl : k = ss.length := by omega
      have d1 : decide ((ss.length : Int) < (ss.length : Int)) = false := by simp
      have hR := HRR.out.trans (HG.out K2.out (fun j hj => ha j hj hj))
      clear hlt hk HB1 HG HX ha HRR
      go_wp2
      go_ret
      exact ⟨by first | rfl | (rw [hR]; rfl) | (rw [← hR]; rfl), hBk⟩
end Go.Proofs.YtialedffpaoacaaGreatDoor
/- LeaksRight, of the program and of the model. (Written by gen_lksr.py.) -/
namespace Go.Proofs.YtialedffpaoacaaGreatDoor
open Go.RowKit Go.Sort

def lksB (rs : List Lk) : Bool := decide (rs.length ≤ 4) && rs.all lkB
theorem lksB_bad {rs : List Lk} {k : Nat} (hk : k < rs.length) (h : lkB rs[k] = false) : lksB rs = false := by
  unfold lksB
  have : rs.all lkB = false := by rw [List.all_eq_false]; exact ⟨rs[k], List.getElem_mem hk, by simp [h]⟩
  rw [this, Bool.and_false]
theorem lksB_good {rs : List Lk} (h4 : rs.length ≤ 4) (h : ∀ j (hj : j < rs.length), lkB rs[j] = true) : lksB rs = true := by
  unfold lksB
  have : rs.all lkB = true := by
    rw [List.all_eq_true]
    intro x hx
    obtain ⟨j, hj, rfl⟩ := List.mem_iff_getElem.1 hx
    exact h j hj
  rw [this, decide_eq_true h4]
  rfl
theorem lksB_long {rs : List Lk} (h4 : ¬ rs.length ≤ 4) : lksB rs = false := by
  unfold lksB
  rw [decide_eq_false h4]
  rfl
set_option maxRecDepth 100000 in
set_option maxHeartbeats 2000000 in
theorem implLeaks_any (p : Option Addr) (cap : Nat) (rs : List Lk) (w : World) (h : LksIn w p rs) (hn : rs.length ≤ 100000000) :
    Calls Tryz.prog 54 #[.slice p rs.length cap] w fun e w' => e = .returned (.bool (lksB rs)) ∧ Below w.heap.size w w' := by
  have HX : Hid (LksIn w p rs) := h
  have HE : Hid (∀ f w, Calls Tryz.prog 98 #[lkV f] w fun e w' => e = .returned (.bool (lkB f)) ∧ Below w.heap.size w w') := implLeak_any
  have HB1 : Hid (∀ k (hk : k < rs.length), lkB rs[k] = false → lksB rs = false) := fun k hk h => lksB_bad hk h
  have HG : Hid (rs.length ≤ 4 → (∀ j (hj : j < rs.length), lkB rs[j] = true) → lksB rs = true) := fun a b => lksB_good a b
  clear h
  by_cases h4 : rs.length ≤ 4
  case neg =>
    have hR := lksB_long h4
    have d0 : decide (4 < (rs.length : Int)) = true := by simp; omega
    clear HB1 HG HX HE
    go_enter Tryz.func54, Tryz.ntmps54
    go_wp2
    go_ret
    exact ⟨by rw [hR]; rfl, Below.refl _ _⟩
  have d0 : decide (4 < (rs.length : Int)) = false := by simp; omega
  go_enter Tryz.func54, Tryz.ntmps54
  go_wp2_with fail
  go_loopw [10] (fun i wr => ∃ k : Nat, k ≤ rs.length ∧ i = .int .i64 k ∧ (∀ j (hj : j < rs.length), j < k → lkB rs[j] = true) ∧ Below w.heap.size w wr) (fun i _ => rs.length - (intOf i).toNat)
  case atStart => exact ⟨0, Nat.zero_le _, rfl, fun j _ hj => absurd hj (by omega), Below.refl _ _⟩
  case round =>
    obtain ⟨k, hk, rfl, ha, hB⟩ := hrel
    by_cases hlt : k < rs.length
    · have d1 : decide ((k : Int) < (rs.length : Int)) = true := by simpa using hlt
      obtain ⟨g, fr, tt, a, l, ad, tg, rfl, hg, hek, c0, c1, c2, c3, c4, c5⟩ := (HX.out.below hB).at k hlt
      have HEk : Hid (∀ w, Calls Tryz.prog 98 #[.agg #[.int .i64 fr, .int .i64 tt, .int .i64 a, .int .i64 l, .int .i64 ad, .int .i64 tg]] w fun e w' => e = .returned (.bool (lkB ⟨fr, tt, a, l, ad, tg⟩)) ∧ Below w.heap.size w w') := HE.out ⟨fr, tt, a, l, ad, tg⟩
      have HBad : Hid (lkB rs[k] = false → lksB rs = false) := HB1.out k hlt
      have HNx : Hid (lkB rs[k] = true → ∀ j (hj : j < rs.length), j < k + 1 → lkB rs[j] = true) := fun h j hj hjk => by
        rcases Nat.lt_or_ge j k with h' | h'
        · exact ha j hj h'
        · obtain rfl : j = k := by omega
          exact h
      rw [hek] at HBad HNx
      have hB := hB.alloc hB.size (.cells #[.int .i64 fr, .int .i64 tt, .int .i64 a, .int .i64 l, .int .i64 ad, .int .i64 tg] 113)
      clear HB1 HG ha HE hek
      go_wp2_with fail
      clear c0 c1 c2 c3 c4 c5
      refine (HEk.out _).mono ?_
      rintro e w2 ⟨rfl, hb2⟩
      have hB := hB.trans (hb2.mono hB.size)
      clear hb2 HEk
      cases hL : lkB ⟨fr, tt, a, l, ad, tg⟩
      · have hR := HBad.out hL
        go_wp2
        go_ret
        exact ⟨by rw [hR]; rfl, hB⟩
      · go_wp2_with fail
        go_roundw
        case rel => exact ⟨k + 1, hlt, by go_num, HNx.out hL, hB⟩
        case measure => simp [intOf]; omega
    · obtain rfl : k = rs.length := by omega
      have d1 : decide ((rs.length : Int) < (rs.length : Int)) = false := by simp
      have hR := HG.out h4 (fun j hj => ha j hj hj)
      clear hlt hk HB1 HG HX ha
      go_wp2
      go_ret
      exact ⟨by rw [hR]; rfl, hB⟩
set_option maxRecDepth 100000 in
set_option maxHeartbeats 2000000 in
theorem specLeaks_any (p : Option Addr) (cap : Nat) (rs : List Lk) (w : World) (h : LksIn w p rs) (hn : rs.length ≤ 100000000) :
    Calls Tryz.prog 40 #[.slice p rs.length cap] w fun e w' => e = .returned (.bool (lksB rs)) ∧ Below w.heap.size w w' := by
  have HX : Hid (LksIn w p rs) := h
  have HE : Hid (∀ f w, Calls Tryz.prog 79 #[lkV f] w fun e w' => e = .returned (.bool (lkB f)) ∧ Below w.heap.size w w') := specLeak_any
  have HB1 : Hid (∀ k (hk : k < rs.length), lkB rs[k] = false → lksB rs = false) := fun k hk h => lksB_bad hk h
  have HG : Hid (rs.length ≤ 4 → (∀ j (hj : j < rs.length), lkB rs[j] = true) → lksB rs = true) := fun a b => lksB_good a b
  clear h
  go_enter Tryz.func40, Tryz.ntmps40
  go_wp2_with fail
  go_loopw [3] (fun i wr => ∃ k : Nat, k ≤ rs.length ∧ i = .int .i64 k ∧ (∀ j (hj : j < rs.length), j < k → lkB rs[j] = true) ∧ k ≤ 5 ∧ Below w.heap.size w wr) (fun i _ => rs.length - (intOf i).toNat)
  case atStart => exact ⟨0, Nat.zero_le _, rfl, fun j _ hj => absurd hj (by omega), by omega, Below.refl _ _⟩
  case round =>
    obtain ⟨k, hk, rfl, ha, h5, hB⟩ := hrel
    by_cases hlt : k < rs.length ∧ k ≤ 4
    · have d1 : decide ((k : Int) < (rs.length : Int)) = true := by simpa using hlt.1
      have d2 : decide ((k : Int) ≤ 4) = true := by simp; omega
      have hlt := hlt.1
      obtain ⟨g, fr, tt, a, l, ad, tg, rfl, hg, hek, c0, c1, c2, c3, c4, c5⟩ := (HX.out.below hB).at k hlt
      have HEk : Hid (∀ w, Calls Tryz.prog 79 #[.agg #[.int .i64 fr, .int .i64 tt, .int .i64 a, .int .i64 l, .int .i64 ad, .int .i64 tg]] w fun e w' => e = .returned (.bool (lkB ⟨fr, tt, a, l, ad, tg⟩)) ∧ Below w.heap.size w w') := HE.out ⟨fr, tt, a, l, ad, tg⟩
      have HBad : Hid (lkB rs[k] = false → lksB rs = false) := HB1.out k hlt
      have HNx : Hid (lkB rs[k] = true → ∀ j (hj : j < rs.length), j < k + 1 → lkB rs[j] = true) := fun h j hj hjk => by
        rcases Nat.lt_or_ge j k with h' | h'
        · exact ha j hj h'
        · obtain rfl : j = k := by omega
          exact h
      rw [hek] at HBad HNx
      clear HB1 HG ha HE hek
      go_wp2_with fail
      refine (HEk.out _).mono ?_
      rintro e w2 ⟨rfl, hb2⟩
      have hB := hB.trans (hb2.mono hB.size)
      clear hb2 HEk
      cases hL : lkB ⟨fr, tt, a, l, ad, tg⟩
      · have hR := HBad.out hL
        go_wp2
        go_ret
        exact ⟨by rw [hR]; rfl, hB⟩
      · go_wp2_with fail
        go_roundw
        case rel => exact ⟨k + 1, hlt, by go_num, HNx.out hL, by omega, hB⟩
        case measure => simp [intOf]; omega
    · have hR : lksB rs = decide (rs.length ≤ 4) := by
        by_cases h4 : rs.length ≤ 4
        · rw [decide_eq_true h4]
          exact HG.out h4 (fun j hj => ha j hj (by omega))
        · rw [decide_eq_false h4]
          exact lksB_long h4
      clear HB1 HG HX ha
      by_cases hk2 : k < rs.length
      · have d1 : decide ((k : Int) < (rs.length : Int)) = true := by simpa using hk2
        have d2 : decide ((k : Int) ≤ 4) = false := by simp; omega
        clear hlt hk
        go_wp2
        go_ret
        exact ⟨ret_bool (by rw [hR]; exact decide_eq_decide.2 (by omega)), hB⟩
      · have d1 : decide ((k : Int) < (rs.length : Int)) = false := by simp; omega
        clear hlt hk
        go_wp2
        go_ret
        exact ⟨ret_bool (by rw [hR]; exact decide_eq_decide.2 (by omega)), hB⟩
end Go.Proofs.YtialedffpaoacaaGreatDoor
/- Right boxes, in plain lists. (Written by gen_box.py.) -/
namespace Go.Proofs.YtialedffpaoacaaGreatDoor
open Go.RowKit Go.Sort

def tenT (t : Tn) : Bool := tenB t.is t.rs t.now t.key t.qu t.ss t.es t.dr
def tnOk (ts : List Tn) (t : Tn) : Bool := tenT t && decide (t.now = ts[0]!.now)
def tensB (ts : List Tn) : Bool := decide (1 ≤ ts.length) && (decide (ts.length ≤ 3) && ts.all (tnOk ts))
theorem tensB_few {ts : List Tn} (h : ¬ 1 ≤ ts.length) : tensB ts = false := by unfold tensB; rw [decide_eq_false h, Bool.false_and]
theorem tensB_many {ts : List Tn} (h : ¬ ts.length ≤ 3) : tensB ts = false := by unfold tensB; rw [decide_eq_false h, Bool.false_and, Bool.and_false]
theorem tensB_bad {ts : List Tn} {k : Nat} (hk : k < ts.length) (h : tnOk ts ts[k] = false) : tensB ts = false := by
  unfold tensB
  have : ts.all (tnOk ts) = false := by rw [List.all_eq_false]; exact ⟨ts[k], List.getElem_mem hk, by simp [h]⟩
  rw [this, Bool.and_false, Bool.and_false]
theorem tensB_good {ts : List Tn} (h1 : 1 ≤ ts.length) (h3 : ts.length ≤ 3) (h : ∀ j (hj : j < ts.length), tnOk ts ts[j] = true) : tensB ts = true := by
  unfold tensB
  have : ts.all (tnOk ts) = true := List.all_eq_true.2 fun x hx => by
    obtain ⟨j, hj, rfl⟩ := List.mem_iff_getElem.1 hx
    exact h j hj
  rw [this, decide_eq_true h1, decide_eq_true h3]
  rfl
/-- The tenant is there; so is its iface. -/
def inTn (ts : List Tn) (n : Int) : Bool := decide (0 ≤ n) && decide (n < (ts.length : Int))
def inFc (ts : List Tn) (n i : Int) : Bool := inTn ts n && (decide (0 ≤ i) && decide (i < ((ts[n.toNat]!).is.length : Int)))
def bdB (ts : List Tn) (b : Bd) : Bool := decide (0 ≤ b.po) && (decide (b.po ≤ 3) && (decide (1 ≤ b.vl) && (decide (b.vl ≤ 4094) && inFc ts b.tn b.ic)))
def bdLt (a b : Bd) : Bool := decide (a.po < b.po ∨ a.po = b.po ∧ a.vl < b.vl)
def bdUp (l : List Bd) (k : Nat) : Bool := decide (k = 0) || bdLt l[k - 1]! l[k]!
def bindsB (ts : List Tn) (l : List Bd) : Bool := decide (l.length ≤ 9) && ((List.range l.length).all fun k => bdB ts l[k]! && bdUp l k)
theorem bindsB_bad {ts : List Tn} {l : List Bd} {k : Nat} (hk : k < l.length) (h : (bdB ts l[k]! && bdUp l k) = false) : bindsB ts l = false := by
  unfold bindsB
  have : ((List.range l.length).all fun k => bdB ts l[k]! && bdUp l k) = false := by rw [List.all_eq_false]; exact ⟨k, List.mem_range.2 hk, by rw [h]; simp⟩
  rw [this, Bool.and_false]
theorem bindsB_good {ts : List Tn} {l : List Bd} (h9 : l.length ≤ 9) (h : ∀ j, j < l.length → (bdB ts l[j]! && bdUp l j) = true) : bindsB ts l = true := by
  unfold bindsB
  have : ((List.range l.length).all fun k => bdB ts l[k]! && bdUp l k) = true := List.all_eq_true.2 fun x hx => h x (List.mem_range.1 hx)
  rw [this, Bool.and_true]
  exact decide_eq_true h9
theorem bindsB_long {ts : List Tn} {l : List Bd} (h9 : ¬ l.length ≤ 9) : bindsB ts l = false := by unfold bindsB; rw [decide_eq_false h9, Bool.false_and]
def boxB (ts : List Tn) (bs : List Bd) (ls : List Lk) (lost : Int) : Bool := tensB ts && (bindsB ts bs && (lksB ls && inTime lost))
theorem tn_at {ps : List TnP} {k : Nat} {a : Tp} {t : Tn} (hk : k < ps.length) (h : ps[k] = (a, t)) : (ps.map (·.2))[k]! = t := by
  rw [getElem!_pos _ k (by simpa using hk), List.getElem_map, h]
theorem tn_at' {ps : List TnP} {k : Nat} {a : Tp} {t : Tn} (hk : k < ps.length) (h : ps[k] = (a, t)) : (ps.map (·.2))[k]'(by simpa using hk) = t := by rw [List.getElem_map, h]
theorem get_bangB (l : List Bd) (k : Nat) (hk : k < l.length) : l[k]! = l[k] := getElem!_pos l k hk
/-- No list of it is longer than a machine bears. -/
def TnM (t : Tn) : Prop := (t.is.length ≤ 100000000 ∧ t.rs.length ≤ 100000000 ∧ t.ss.length ≤ 100000000 ∧ t.es.length ≤ 100000000) ∧ t.key.size ≤ maxLen ∧ (∀ s ∈ t.ss, s.tx.size ≤ 100000000)
/-- Its ifaces' list is no longer than its room. -/
def TpC (a : Tp) (t : Tn) : Prop := t.is.length ≤ a.c1
end Go.Proofs.YtialedffpaoacaaGreatDoor
/- A Box: its value; measured, handed over, alike. (Written by gen_boxa.py.) -/
namespace Go.Proofs.YtialedffpaoacaaGreatDoor
open Go.RowKit Go.Sort

theorem box4 {w w1 : World} {x0 x1 x2 x3 : Value} {t : TypeId} (h : Below (w.alloc (.cells #[x0, x1, x2, x3] t)).heap.size (w.alloc (.cells #[x0, x1, x2, x3] t)) w1) :
    Row w1 w.heap.size t [x0, x1, x2, x3] ∧ Below w.heap.size w w1 := by
  have q := Row.new w t [x0, x1, x2, x3]
  exact ⟨q.below h q.lt, (ent_new0 w _).trans (h.mono (by simp))⟩
set_option maxRecDepth 100000 in
set_option maxHeartbeats 4000000 in
theorem szLeakSL_any (x : Option Addr) (len cap : Nat) (L : Int) (w : World) (hl : len ≤ maxLen) (h0 : 0 ≤ L) (h1 : L ≤ 1048576) : Calls Tryz.prog 16 #[.slice x len cap, .int .i64 L] w fun e w' => e = .returned (.int .i64 (if (len : Int) ≤ L then L - (len : Int) else -1)) ∧ w = w' := by
  unfold maxLen at hl
  have z : IntKind.i64.wrap (L - (len : Int)) = L - (len : Int) := wrap_i64_in _ (by omega) (by omega)
  by_cases h : (len : Int) ≤ L
  · rw [if_pos h]
    have d : decide (L - (len : Int) < 0) = false := by simp; omega
    go_enter Tryz.func16, Tryz.ntmps16
    go_wp2
    go_ret
    exact ⟨rfl, rfl⟩
  · rw [if_neg h]
    have d : decide (L - (len : Int) < 0) = true := by simp; omega
    go_enter Tryz.func16, Tryz.ntmps16
    go_wp2
    go_ret
    exact ⟨rfl, rfl⟩
set_option maxRecDepth 100000 in
set_option maxHeartbeats 4000000 in
theorem szBox_any (p : Option Addr) (c1 : Nat) (q : Option Addr) (c2 : Nat) (r : Option Addr) (c3 : Nat) (ps : List TnP) (l : List Bd) (ls : List Lk) (lost : Int) (L : Int) (w : World) (h : ArgTs w p ps.length ps ∧ ArgBd w q l.length l ∧ ArgL w r ls.length ls) (h0 : 0 ≤ L) (hL : L ≤ 1048576) :
    Calls Tryz.prog 5 #[.agg #[.slice p ps.length c1, .slice q l.length c2, .slice r ls.length c3, .int .i64 lost], .int .i64 L] w fun e w' => (∃ v : Int, e = .returned (.int .i64 v) ∧ v ≤ L ∧ (v < 0 ∨ 0 ≤ v ∧ ps.length ≤ 1048576 ∧ l.length ≤ 1048576 ∧ ls.length ≤ 1048576 ∧ ∀ e ∈ ps, TnS e.2)) ∧ Below w.heap.size w w' := by
  have HA : Hid (∀ w1, Below w.heap.size w w1 → Calls Tryz.prog 14 #[.slice p ps.length c1, .int .i64 L] w1 fun e w' => (∃ v : Int, e = .returned (.int .i64 v) ∧ v ≤ L ∧ (v < 0 ∨ 0 ≤ v ∧ ps.length ≤ 1048576 ∧ ∀ e ∈ ps, TnS e.2)) ∧ Below w1.heap.size w1 w') := fun w1 hb => szTenantS_any p c1 ps L w1 (h.1.below hb) h0 hL
  have HC : Hid (∀ L : Int, 0 ≤ L → L ≤ 1048576 → ∀ w, Calls Tryz.prog 15 #[.slice q l.length c2, .int .i64 L] w fun e w' => e = .returned (.int .i64 (if (l.length : Int) ≤ L then L - (l.length : Int) else -1)) ∧ w = w') := fun L a b w => szBindS_any q l.length c2 L w h.2.1.2.1 a b
  have HD : Hid (∀ L : Int, 0 ≤ L → L ≤ 1048576 → ∀ w, Calls Tryz.prog 16 #[.slice r ls.length c3, .int .i64 L] w fun e w' => e = .returned (.int .i64 (if (ls.length : Int) ≤ L then L - (ls.length : Int) else -1)) ∧ w = w') := fun L a b w => szLeakSL_any r ls.length c3 L w h.2.2.2.1 a b
  clear h
  generalize ps.length = n1 at *
  generalize l.length = n2 at *
  generalize ls.length = n3 at *
  go_enter Tryz.func5, Tryz.ntmps5
  go_wp2_with fail
  refine (HA.out _ (ent_new0 w _)).mono ?_
  rintro e w1 ⟨⟨v1, rfl, hv1, hc1⟩, hb1⟩
  obtain ⟨r0, hB⟩ := box4 hb1
  clear hb1 HA
  rcases hc1 with hc1 | ⟨g1, m1, m2⟩
  · have d1 : decide (v1 < 0) = true := by simpa using hc1
    clear hc1
    go_wp2
    go_ret
    exact ⟨⟨_, rfl, by omega, .inl (by omega)⟩, hB⟩
  have d1 : decide (v1 < 0) = false := by simp; omega
  have y1 : w1.cell? ⟨w.heap.size, 1, none⟩ = some (.slice q n2 c2) := r0.cell 1
  go_wp2_with fail
  refine (HC.out v1 (by omega) (by omega) _).mono ?_
  rintro e w2 ⟨rfl, rfl⟩
  clear y1
  by_cases k2 : (n2 : Int) ≤ v1
  case neg =>
    rw [if_neg k2]
    go_wp2
    go_ret
    exact ⟨⟨_, rfl, by omega, .inl (by omega)⟩, hB⟩
  rw [if_pos k2]
  have d2 : decide (v1 - (n2 : Int) < 0) = false := by simp; omega
  have y2 : w1.cell? ⟨w.heap.size, 2, none⟩ = some (.slice r n3 c3) := r0.cell 2
  go_wp2_with fail
  refine (HD.out (v1 - (n2 : Int)) (by omega) (by omega) _).mono ?_
  rintro e w2 ⟨rfl, rfl⟩
  clear y2
  by_cases k3 : (n3 : Int) ≤ v1 - (n2 : Int)
  case neg =>
    rw [if_neg k3]
    go_wp2
    go_ret
    exact ⟨⟨_, rfl, by omega, .inl (by omega)⟩, hB⟩
  rw [if_pos k3]
  have d3 : decide (v1 - (n2 : Int) - (n3 : Int) < 0) = false := by simp; omega
  go_wp2
  go_ret
  exact ⟨⟨_, rfl, by omega, .inr ⟨by omega, m1, by omega, by omega, m2⟩⟩, hB⟩
set_option maxRecDepth 100000 in
set_option maxHeartbeats 4000000 in
theorem toBox_any (p : Option Addr) (c1 : Nat) (q : Option Addr) (c2 : Nat) (r : Option Addr) (c3 : Nat) (ps : List TnP) (l : List Bd) (ls : List Lk) (lost : Int) (w : World) (h : ArgTs w p ps.length ps ∧ ArgBd w q l.length l ∧ ArgL w r ls.length ls) (hn : ps.length ≤ 1048576 ∧ l.length ≤ 1048576 ∧ ls.length ≤ 1048576 ∧ ∀ e ∈ ps, TnS e.2) :
    Calls Tryz.prog 7 #[.agg #[.slice p ps.length c1, .slice q l.length c2, .slice r ls.length c3, .int .i64 lost]] w fun e w' => ∃ (g : Nat) (qs : List TnP) (h u : Nat), e = .returned (.agg #[.slice (some ⟨g, 0, none⟩) ps.length ps.length, .slice (some ⟨h, 0, none⟩) l.length l.length, .slice (some ⟨u, 0, none⟩) ls.length ls.length, .int .i64 lost]) ∧ w.heap.size ≤ g ∧ w.heap.size ≤ h ∧ w.heap.size ≤ u ∧ qs.map (·.2) = ps.map (·.2) ∧ Row w' g 55 (rowT qs) ∧ (∀ e ∈ qs, PlT w' (g + 1) e.1 e.2) ∧ Row w' h 77 (rowBd l) ∧ Row w' u 113 (rowL ls) ∧ Below w.heap.size w w' := by
  have HI : Hid (∀ w, ArgTs w p ps.length ps → Calls Tryz.prog 21 #[.slice p ps.length c1] w fun e w' => ∃ (g : Nat) (qs : List TnP), e = .returned (.slice (some ⟨g, 0, none⟩) ps.length ps.length) ∧ w.heap.size ≤ g ∧ qs.map (·.2) = ps.map (·.2) ∧ Row w' g 55 (rowT qs) ∧ (∀ e ∈ qs, PlT w' (g + 1) e.1 e.2) ∧ Below w.heap.size w w') := fun w h => toTenantS_any p c1 ps w h hn.1 hn.2.2.2
  have HS : Hid (∀ w, ArgBd w q l.length l → Calls Tryz.prog 22 #[.slice q l.length c2] w fun e w' => ∃ g, e = .returned (.slice (some ⟨g, 0, none⟩) l.length l.length) ∧ w.heap.size ≤ g ∧ Row w' g 77 (rowBd l) ∧ Below w.heap.size w w') := fun w h => toBindS_any q c2 l w h hn.2.1
  have HE0 : Hid (∀ w, ArgL w r ls.length ls → Calls Tryz.prog 23 #[.slice r ls.length c3] w fun e w' => ∃ g, e = .returned (.slice (some ⟨g, 0, none⟩) ls.length ls.length) ∧ w.heap.size ≤ g ∧ Row w' g 113 (rowL ls) ∧ Below w.heap.size w w') := fun w h => toLeakS_any r c3 ls w h hn.2.2.1
  have HX : Hid (ArgTs w p ps.length ps ∧ ArgBd w q l.length l ∧ ArgL w r ls.length ls) := h
  clear h hn
  generalize ps.length = n1 at *
  generalize l.length = n2 at *
  generalize ls.length = n3 at *
  obtain ⟨W, hW, q0, q1, q2, hB, hS⟩ := three_new w [.slice p n1 c1, .slice q n2 c2, .slice r n3 c3, .int .i64 lost] [.slice none 0 0, .slice none 0 0, .slice none 0 0, .int .i64 0] [.slice none 0 0, .slice none 0 0, .slice none 0 0, .int .i64 0] 26 33 33
  have HW : Hid _ := hW
  have HQ : Hid _ := And.intro q0 (And.intro q1 (And.intro q2 (And.intro hB hS)))
  clear hW q0 q1 q2 hB hS
  go_enter Tryz.func7, Tryz.ntmps7
  go_wp2_with fail
  rw [← HW.out]
  obtain ⟨q0, q1, q2, hB, hS⟩ := HQ.out
  refine (HI.out _ (HX.out.1.below hB)).mono ?_
  rintro e w1 ⟨g, qs, rfl, hg, hqm, rg, hp, hb1⟩
  have q0 := q0.below hb1 q0.lt
  have q1 := q1.below hb1 q1.lt
  have q2 := q2.below hb1 q2.lt
  have hB := hB.trans (hb1.mono hB.size)
  have hs := hb1.size
  clear hb1
  clear HI HW HQ
  have x1 : w1.cell? ⟨w.heap.size, 1, none⟩ = some (.slice q n2 c2) := q0.cell 1
  have a0 : w1.cell? ⟨(w.heap.size + 1 + 1), 0, none⟩ = some (.slice none 0 0) := q2.cell 0
  have f0 : w1.frozen? ⟨(w.heap.size + 1 + 1), 0, none⟩ = false := q2.frozen 0
  have ng : g ≠ (w.heap.size + 1 + 1) := by omega
  have HE : Hid (Row (w1.setCell ⟨(w.heap.size + 1 + 1), 0, none⟩ (.slice (some ⟨g, 0, none⟩) n1 n1)) w.heap.size 26 [.slice p n1 c1, .slice q n2 c2, .slice r n3 c3, .int .i64 lost] ∧ Row (w1.setCell ⟨(w.heap.size + 1 + 1), 0, none⟩ (.slice (some ⟨g, 0, none⟩) n1 n1)) (w.heap.size + 1) 33 [.slice none 0 0, .slice none 0 0, .slice none 0 0, .int .i64 0] ∧ Row (w1.setCell ⟨(w.heap.size + 1 + 1), 0, none⟩ (.slice (some ⟨g, 0, none⟩) n1 n1)) (w.heap.size + 1 + 1) 33 [.slice (some ⟨g, 0, none⟩) n1 n1, .slice none 0 0, .slice none 0 0, .int .i64 0] ∧ Row (w1.setCell ⟨(w.heap.size + 1 + 1), 0, none⟩ (.slice (some ⟨g, 0, none⟩) n1 n1)) g 55 (rowT qs) ∧ (∀ e ∈ qs, PlT (w1.setCell ⟨(w.heap.size + 1 + 1), 0, none⟩ (.slice (some ⟨g, 0, none⟩) n1 n1)) (g + 1) e.1 e.2) ∧ Below w.heap.size w (w1.setCell ⟨(w.heap.size + 1 + 1), 0, none⟩ (.slice (some ⟨g, 0, none⟩) n1 n1)) ∧ (w1.setCell ⟨(w.heap.size + 1 + 1), 0, none⟩ (.slice (some ⟨g, 0, none⟩) n1 n1)).heap.size = w1.heap.size) := ⟨(q0).other 0 (.slice (some ⟨g, 0, none⟩) n1 n1) (by omega), (q1).other 0 (.slice (some ⟨g, 0, none⟩) n1 n1) (by omega), (q2).set 0 (.slice (some ⟨g, 0, none⟩) n1 n1), (rg).other 0 (.slice (some ⟨g, 0, none⟩) n1 n1) ng, fun e he => (hp e he).kept (w' := _) (b := (w.heap.size + 1 + 1)) (by omega) (fun b_ t_ l_ hne hr => hr.other 0 (.slice (some ⟨g, 0, none⟩) n1 n1) hne), (hB.setCell (p := ⟨(w.heap.size + 1 + 1), 0, none⟩) (by show w.heap.size ≤ (w.heap.size + 1 + 1); omega) (.slice (some ⟨g, 0, none⟩) n1 n1)), by simp⟩
  clear q0 q1 q2 hB hp rg
  go_wp2_with fail
  generalize (w1.setCell ⟨(w.heap.size + 1 + 1), 0, none⟩ (.slice (some ⟨g, 0, none⟩) n1 n1)) = W1 at *
  obtain ⟨q0, q1, q2, rg, hp, hB, hS⟩ := HE.out
  clear HE a0 f0 ng
  refine (HS.out _ (HX.out.2.1.below hB)).mono ?_
  rintro e w2 ⟨h, rfl, hh, rh, hb2⟩
  have q0 := q0.below hb2 q0.lt
  have q1 := q1.below hb2 q1.lt
  have q2 := q2.below hb2 q2.lt
  have rg := rg.below hb2 rg.lt
  have hp := fun e he => (hp e he).below hb2
  have hB := hB.trans (hb2.mono hB.size)
  have hs := hb2.size
  clear hb2
  clear HS x1
  have x2 : w2.cell? ⟨w.heap.size, 2, none⟩ = some (.slice r n3 c3) := q0.cell 2
  have a1 : w2.cell? ⟨(w.heap.size + 1 + 1), 1, none⟩ = some (.slice none 0 0) := q2.cell 1
  have f1 : w2.frozen? ⟨(w.heap.size + 1 + 1), 1, none⟩ = false := q2.frozen 1
  have ng : g ≠ (w.heap.size + 1 + 1) := by omega
  have nh : h ≠ (w.heap.size + 1 + 1) := by omega
  have HE : Hid (Row (w2.setCell ⟨(w.heap.size + 1 + 1), 1, none⟩ (.slice (some ⟨h, 0, none⟩) n2 n2)) w.heap.size 26 [.slice p n1 c1, .slice q n2 c2, .slice r n3 c3, .int .i64 lost] ∧ Row (w2.setCell ⟨(w.heap.size + 1 + 1), 1, none⟩ (.slice (some ⟨h, 0, none⟩) n2 n2)) (w.heap.size + 1) 33 [.slice none 0 0, .slice none 0 0, .slice none 0 0, .int .i64 0] ∧ Row (w2.setCell ⟨(w.heap.size + 1 + 1), 1, none⟩ (.slice (some ⟨h, 0, none⟩) n2 n2)) (w.heap.size + 1 + 1) 33 [.slice (some ⟨g, 0, none⟩) n1 n1, .slice (some ⟨h, 0, none⟩) n2 n2, .slice none 0 0, .int .i64 0] ∧ Row (w2.setCell ⟨(w.heap.size + 1 + 1), 1, none⟩ (.slice (some ⟨h, 0, none⟩) n2 n2)) g 55 (rowT qs) ∧ Row (w2.setCell ⟨(w.heap.size + 1 + 1), 1, none⟩ (.slice (some ⟨h, 0, none⟩) n2 n2)) h 77 (rowBd l) ∧ (∀ e ∈ qs, PlT (w2.setCell ⟨(w.heap.size + 1 + 1), 1, none⟩ (.slice (some ⟨h, 0, none⟩) n2 n2)) (g + 1) e.1 e.2) ∧ Below w.heap.size w (w2.setCell ⟨(w.heap.size + 1 + 1), 1, none⟩ (.slice (some ⟨h, 0, none⟩) n2 n2)) ∧ (w2.setCell ⟨(w.heap.size + 1 + 1), 1, none⟩ (.slice (some ⟨h, 0, none⟩) n2 n2)).heap.size = w2.heap.size) := ⟨(q0).other 1 (.slice (some ⟨h, 0, none⟩) n2 n2) (by omega), (q1).other 1 (.slice (some ⟨h, 0, none⟩) n2 n2) (by omega), (q2).set 1 (.slice (some ⟨h, 0, none⟩) n2 n2), (rg).other 1 (.slice (some ⟨h, 0, none⟩) n2 n2) ng, (rh).other 1 (.slice (some ⟨h, 0, none⟩) n2 n2) nh, fun e he => (hp e he).kept (w' := _) (b := (w.heap.size + 1 + 1)) (by omega) (fun b_ t_ l_ hne hr => hr.other 1 (.slice (some ⟨h, 0, none⟩) n2 n2) hne), (hB.setCell (p := ⟨(w.heap.size + 1 + 1), 1, none⟩) (by show w.heap.size ≤ (w.heap.size + 1 + 1); omega) (.slice (some ⟨h, 0, none⟩) n2 n2)), by simp⟩
  clear q0 q1 q2 hB hp rg rh
  go_wp2_with fail
  generalize (w2.setCell ⟨(w.heap.size + 1 + 1), 1, none⟩ (.slice (some ⟨h, 0, none⟩) n2 n2)) = W2 at *
  obtain ⟨q0, q1, q2, rg, rh, hp, hB, hS⟩ := HE.out
  clear HE a1 f1 ng nh
  refine (HE0.out _ (HX.out.2.2.below hB)).mono ?_
  rintro e w3 ⟨u, rfl, hu, ru, hb3⟩
  have q0 := q0.below hb3 q0.lt
  have q1 := q1.below hb3 q1.lt
  have q2 := q2.below hb3 q2.lt
  have rg := rg.below hb3 rg.lt
  have rh := rh.below hb3 rh.lt
  have hp := fun e he => (hp e he).below hb3
  have hB := hB.trans (hb3.mono hB.size)
  have hs := hb3.size
  clear hb3
  clear HE0 HX x2
  have x3 : w3.cell? ⟨w.heap.size, 3, none⟩ = some (.int .i64 lost) := q0.cell 3
  have a0 : w3.cell? ⟨(w.heap.size + 1 + 1), 0, none⟩ = some (.slice (some ⟨g, 0, none⟩) n1 n1) := q2.cell 0
  have a1 : w3.cell? ⟨(w.heap.size + 1 + 1), 1, none⟩ = some (.slice (some ⟨h, 0, none⟩) n2 n2) := q2.cell 1
  have a2 : w3.cell? ⟨(w.heap.size + 1 + 1), 2, none⟩ = some (.slice none 0 0) := q2.cell 2
  have a3 : w3.cell? ⟨(w.heap.size + 1 + 1), 3, none⟩ = some (.int .i64 0) := q2.cell 3
  have f2 : w3.frozen? ⟨(w.heap.size + 1 + 1), 2, none⟩ = false := q2.frozen 2
  have f3 : w3.frozen? ⟨(w.heap.size + 1 + 1), 3, none⟩ = false := q2.frozen 3
  have b0 : w3.cell? ⟨(w.heap.size + 1), 0, none⟩ = some (.slice none 0 0) := q1.cell 0
  have b1 : w3.cell? ⟨(w.heap.size + 1), 1, none⟩ = some (.slice none 0 0) := q1.cell 1
  have b2 : w3.cell? ⟨(w.heap.size + 1), 2, none⟩ = some (.slice none 0 0) := q1.cell 2
  have b3 : w3.cell? ⟨(w.heap.size + 1), 3, none⟩ = some (.int .i64 0) := q1.cell 3
  have e0 : w3.frozen? ⟨(w.heap.size + 1), 0, none⟩ = false := q1.frozen 0
  have e1 : w3.frozen? ⟨(w.heap.size + 1), 1, none⟩ = false := q1.frozen 1
  have e2 : w3.frozen? ⟨(w.heap.size + 1), 2, none⟩ = false := q1.frozen 2
  have e3 : w3.frozen? ⟨(w.heap.size + 1), 3, none⟩ = false := q1.frozen 3
  have ng2 : g ≠ (w.heap.size + 1 + 1) := by omega
  have nh2 : h ≠ (w.heap.size + 1 + 1) := by omega
  have nu2 : u ≠ (w.heap.size + 1 + 1) := by omega
  have ng1 : g ≠ (w.heap.size + 1) := by omega
  have nh1 : h ≠ (w.heap.size + 1) := by omega
  have nu1 : u ≠ (w.heap.size + 1) := by omega
  have n12 : (w.heap.size + 1) ≠ (w.heap.size + 1 + 1) := by omega
  have HF : Hid (Row ((((((w3.setCell ⟨(w.heap.size + 1 + 1), 2, none⟩ (.slice (some ⟨u, 0, none⟩) n3 n3)).setCell ⟨(w.heap.size + 1 + 1), 3, none⟩ (.int .i64 lost)).setCell ⟨(w.heap.size + 1), 0, none⟩ (.slice (some ⟨g, 0, none⟩) n1 n1)).setCell ⟨(w.heap.size + 1), 1, none⟩ (.slice (some ⟨h, 0, none⟩) n2 n2)).setCell ⟨(w.heap.size + 1), 2, none⟩ (.slice (some ⟨u, 0, none⟩) n3 n3)).setCell ⟨(w.heap.size + 1), 3, none⟩ (.int .i64 lost)) (w.heap.size + 1) 33 [.slice (some ⟨g, 0, none⟩) n1 n1, .slice (some ⟨h, 0, none⟩) n2 n2, .slice (some ⟨u, 0, none⟩) n3 n3, .int .i64 lost] ∧ Row ((((((w3.setCell ⟨(w.heap.size + 1 + 1), 2, none⟩ (.slice (some ⟨u, 0, none⟩) n3 n3)).setCell ⟨(w.heap.size + 1 + 1), 3, none⟩ (.int .i64 lost)).setCell ⟨(w.heap.size + 1), 0, none⟩ (.slice (some ⟨g, 0, none⟩) n1 n1)).setCell ⟨(w.heap.size + 1), 1, none⟩ (.slice (some ⟨h, 0, none⟩) n2 n2)).setCell ⟨(w.heap.size + 1), 2, none⟩ (.slice (some ⟨u, 0, none⟩) n3 n3)).setCell ⟨(w.heap.size + 1), 3, none⟩ (.int .i64 lost)) g 55 (rowT qs) ∧ Row ((((((w3.setCell ⟨(w.heap.size + 1 + 1), 2, none⟩ (.slice (some ⟨u, 0, none⟩) n3 n3)).setCell ⟨(w.heap.size + 1 + 1), 3, none⟩ (.int .i64 lost)).setCell ⟨(w.heap.size + 1), 0, none⟩ (.slice (some ⟨g, 0, none⟩) n1 n1)).setCell ⟨(w.heap.size + 1), 1, none⟩ (.slice (some ⟨h, 0, none⟩) n2 n2)).setCell ⟨(w.heap.size + 1), 2, none⟩ (.slice (some ⟨u, 0, none⟩) n3 n3)).setCell ⟨(w.heap.size + 1), 3, none⟩ (.int .i64 lost)) h 77 (rowBd l) ∧ Row ((((((w3.setCell ⟨(w.heap.size + 1 + 1), 2, none⟩ (.slice (some ⟨u, 0, none⟩) n3 n3)).setCell ⟨(w.heap.size + 1 + 1), 3, none⟩ (.int .i64 lost)).setCell ⟨(w.heap.size + 1), 0, none⟩ (.slice (some ⟨g, 0, none⟩) n1 n1)).setCell ⟨(w.heap.size + 1), 1, none⟩ (.slice (some ⟨h, 0, none⟩) n2 n2)).setCell ⟨(w.heap.size + 1), 2, none⟩ (.slice (some ⟨u, 0, none⟩) n3 n3)).setCell ⟨(w.heap.size + 1), 3, none⟩ (.int .i64 lost)) u 113 (rowL ls) ∧ (∀ e ∈ qs, PlT ((((((w3.setCell ⟨(w.heap.size + 1 + 1), 2, none⟩ (.slice (some ⟨u, 0, none⟩) n3 n3)).setCell ⟨(w.heap.size + 1 + 1), 3, none⟩ (.int .i64 lost)).setCell ⟨(w.heap.size + 1), 0, none⟩ (.slice (some ⟨g, 0, none⟩) n1 n1)).setCell ⟨(w.heap.size + 1), 1, none⟩ (.slice (some ⟨h, 0, none⟩) n2 n2)).setCell ⟨(w.heap.size + 1), 2, none⟩ (.slice (some ⟨u, 0, none⟩) n3 n3)).setCell ⟨(w.heap.size + 1), 3, none⟩ (.int .i64 lost)) (g + 1) e.1 e.2) ∧ Below w.heap.size w ((((((w3.setCell ⟨(w.heap.size + 1 + 1), 2, none⟩ (.slice (some ⟨u, 0, none⟩) n3 n3)).setCell ⟨(w.heap.size + 1 + 1), 3, none⟩ (.int .i64 lost)).setCell ⟨(w.heap.size + 1), 0, none⟩ (.slice (some ⟨g, 0, none⟩) n1 n1)).setCell ⟨(w.heap.size + 1), 1, none⟩ (.slice (some ⟨h, 0, none⟩) n2 n2)).setCell ⟨(w.heap.size + 1), 2, none⟩ (.slice (some ⟨u, 0, none⟩) n3 n3)).setCell ⟨(w.heap.size + 1), 3, none⟩ (.int .i64 lost))) := ⟨((((((q1).other 2 (.slice (some ⟨u, 0, none⟩) n3 n3) n12).other 3 (.int .i64 lost) n12).set 0 (.slice (some ⟨g, 0, none⟩) n1 n1)).set 1 (.slice (some ⟨h, 0, none⟩) n2 n2)).set 2 (.slice (some ⟨u, 0, none⟩) n3 n3)).set 3 (.int .i64 lost), ((((((rg).other 2 (.slice (some ⟨u, 0, none⟩) n3 n3) ng2).other 3 (.int .i64 lost) ng2).other 0 (.slice (some ⟨g, 0, none⟩) n1 n1) ng1).other 1 (.slice (some ⟨h, 0, none⟩) n2 n2) ng1).other 2 (.slice (some ⟨u, 0, none⟩) n3 n3) ng1).other 3 (.int .i64 lost) ng1, ((((((rh).other 2 (.slice (some ⟨u, 0, none⟩) n3 n3) nh2).other 3 (.int .i64 lost) nh2).other 0 (.slice (some ⟨g, 0, none⟩) n1 n1) nh1).other 1 (.slice (some ⟨h, 0, none⟩) n2 n2) nh1).other 2 (.slice (some ⟨u, 0, none⟩) n3 n3) nh1).other 3 (.int .i64 lost) nh1, ((((((ru).other 2 (.slice (some ⟨u, 0, none⟩) n3 n3) nu2).other 3 (.int .i64 lost) nu2).other 0 (.slice (some ⟨g, 0, none⟩) n1 n1) nu1).other 1 (.slice (some ⟨h, 0, none⟩) n2 n2) nu1).other 2 (.slice (some ⟨u, 0, none⟩) n3 n3) nu1).other 3 (.int .i64 lost) nu1, fun e he => ((((((hp e he).kept (b := (w.heap.size + 1 + 1)) (by omega) (fun b_ t_ l_ hne hr => hr.other 2 (.slice (some ⟨u, 0, none⟩) n3 n3) hne)).kept (b := (w.heap.size + 1 + 1)) (by omega) (fun b_ t_ l_ hne hr => hr.other 3 (.int .i64 lost) hne)).kept (b := (w.heap.size + 1)) (by omega) (fun b_ t_ l_ hne hr => hr.other 0 (.slice (some ⟨g, 0, none⟩) n1 n1) hne)).kept (b := (w.heap.size + 1)) (by omega) (fun b_ t_ l_ hne hr => hr.other 1 (.slice (some ⟨h, 0, none⟩) n2 n2) hne)).kept (b := (w.heap.size + 1)) (by omega) (fun b_ t_ l_ hne hr => hr.other 2 (.slice (some ⟨u, 0, none⟩) n3 n3) hne)).kept (b := (w.heap.size + 1)) (by omega) (fun b_ t_ l_ hne hr => hr.other 3 (.int .i64 lost) hne), ((((((hB.setCell (p := ⟨(w.heap.size + 1 + 1), 2, none⟩) (by show w.heap.size ≤ (w.heap.size + 1 + 1); omega) (.slice (some ⟨u, 0, none⟩) n3 n3)).setCell (p := ⟨(w.heap.size + 1 + 1), 3, none⟩) (by show w.heap.size ≤ (w.heap.size + 1 + 1); omega) (.int .i64 lost)).setCell (p := ⟨(w.heap.size + 1), 0, none⟩) (by show w.heap.size ≤ (w.heap.size + 1); omega) (.slice (some ⟨g, 0, none⟩) n1 n1)).setCell (p := ⟨(w.heap.size + 1), 1, none⟩) (by show w.heap.size ≤ (w.heap.size + 1); omega) (.slice (some ⟨h, 0, none⟩) n2 n2)).setCell (p := ⟨(w.heap.size + 1), 2, none⟩) (by show w.heap.size ≤ (w.heap.size + 1); omega) (.slice (some ⟨u, 0, none⟩) n3 n3)).setCell (p := ⟨(w.heap.size + 1), 3, none⟩) (by show w.heap.size ≤ (w.heap.size + 1); omega) (.int .i64 lost))⟩
  clear q0 q1 q2 rg rh ru hB hp
  go_wp2_with fail
  have hF := HF.out
  clear HF x3 a0 b0 e0 a1 b1 e1 a2 b2 e2 a3 b3 e3 f2 f3
  generalize ((((((w3.setCell ⟨(w.heap.size + 1 + 1), 2, none⟩ (.slice (some ⟨u, 0, none⟩) n3 n3)).setCell ⟨(w.heap.size + 1 + 1), 3, none⟩ (.int .i64 lost)).setCell ⟨(w.heap.size + 1), 0, none⟩ (.slice (some ⟨g, 0, none⟩) n1 n1)).setCell ⟨(w.heap.size + 1), 1, none⟩ (.slice (some ⟨h, 0, none⟩) n2 n2)).setCell ⟨(w.heap.size + 1), 2, none⟩ (.slice (some ⟨u, 0, none⟩) n3 n3)).setCell ⟨(w.heap.size + 1), 3, none⟩ (.int .i64 lost)) = Y at *
  obtain ⟨k1, k2, k3, k4, k5, k6⟩ := hF
  have e0 : Y.cell? ⟨(w.heap.size + 1), 0, none⟩ = some (.slice (some ⟨g, 0, none⟩) n1 n1) := k1.cell 0
  have e1 : Y.cell? ⟨(w.heap.size + 1), 1, none⟩ = some (.slice (some ⟨h, 0, none⟩) n2 n2) := k1.cell 1
  have e2 : Y.cell? ⟨(w.heap.size + 1), 2, none⟩ = some (.slice (some ⟨u, 0, none⟩) n3 n3) := k1.cell 2
  have e3 : Y.cell? ⟨(w.heap.size + 1), 3, none⟩ = some (.int .i64 lost) := k1.cell 3
  exact bodyPost_ret (v := .agg #[.slice (some ⟨g, 0, none⟩) n1 n1, .slice (some ⟨h, 0, none⟩) n2 n2, .slice (some ⟨u, 0, none⟩) n3 n3, .int .i64 lost]) (by simp [results, Tryz.results7, go_sem, e0, e1, e2, e3]) rfl ⟨g, qs, h, u, rfl, by omega, by omega, by omega, hqm, k2, k5, k3, k4, k6⟩
set_option maxRecDepth 100000 in
set_option maxHeartbeats 4000000 in
theorem eqBox_any (p0 : Option Addr) (a1 : Nat) (q0 : Option Addr) (a2 : Nat) (r0 : Option Addr) (a3 : Nat) (p1 : Option Addr) (b1 : Nat) (q1 : Option Addr) (b2 : Nat) (r1 : Option Addr) (b3 : Nat) (ps qs : List TnP) (l : List Bd) (ls : List Lk) (lost : Int) (w : World) (h : (TensIn w p0 ps ∧ BdsIn w q0 l ∧ LksIn w r0 ls) ∧ (TensIn w p1 qs ∧ BdsIn w q1 l ∧ LksIn w r1 ls)) (hpq : ps.map (·.2) = qs.map (·.2)) (hn : ps.length ≤ 1048576 ∧ l.length ≤ 1048576 ∧ ls.length ≤ 1048576 ∧ ∀ e ∈ ps, TnS e.2) :
    Calls Tryz.prog 9 #[.agg #[.slice p0 ps.length a1, .slice q0 l.length a2, .slice r0 ls.length a3, .int .i64 lost], .agg #[.slice p1 ps.length b1, .slice q1 l.length b2, .slice r1 ls.length b3, .int .i64 lost]] w fun e w' => e = .returned (.bool true) ∧ Below w.heap.size w w' := by
  have HI : Hid (∀ w, TensIn w p0 ps → TensIn w p1 qs → Calls Tryz.prog 28 #[.slice p0 ps.length a1, .slice p1 ps.length b1] w fun e w' => e = .returned (.bool true) ∧ Below w.heap.size w w') := fun w a b => eqTenantS_any p0 p1 a1 b1 ps qs w a b hpq (by omega) (fun e he => by have := hn.2.2.2 e he; unfold TnS at this; omega)
  have HS : Hid (∀ w, BdsIn w q0 l → BdsIn w q1 l → Calls Tryz.prog 29 #[.slice q0 l.length a2, .slice q1 l.length b2] w fun e w' => e = .returned (.bool true) ∧ Below w.heap.size w w') := fun w a b => eqBindS_any q0 q1 a2 b2 l w a b (by omega)
  have HE0 : Hid (∀ w, LksIn w r0 ls → LksIn w r1 ls → Calls Tryz.prog 30 #[.slice r0 ls.length a3, .slice r1 ls.length b3] w fun e w' => e = .returned (.bool true) ∧ Below w.heap.size w w') := fun w a b => eqLeakS_any r0 r1 a3 b3 ls w a b (by omega)
  have HX : Hid ((TensIn w p0 ps ∧ BdsIn w q0 l ∧ LksIn w r0 ls) ∧ (TensIn w p1 qs ∧ BdsIn w q1 l ∧ LksIn w r1 ls)) := h
  clear h hn hpq
  generalize ps.length = n1 at *
  generalize l.length = n2 at *
  generalize ls.length = n3 at *
  have k0 := (Row.new w 33 [.slice p0 n1 a1, .slice q0 n2 a2, .slice r0 n3 a3, .int .i64 lost]).alloc (.cells #[.slice p1 n1 b1, .slice q1 n2 b2, .slice r1 n3 b3, .int .i64 lost] 33)
  have k1 := Row.new (w.alloc (.cells #[.slice p0 n1 a1, .slice q0 n2 a2, .slice r0 n3 a3, .int .i64 lost] 33)) 33 [.slice p1 n1 b1, .slice q1 n2 b2, .slice r1 n3 b3, .int .i64 lost]
  rw [show (w.alloc (.cells #[.slice p0 n1 a1, .slice q0 n2 a2, .slice r0 n3 a3, .int .i64 lost] 33)).heap.size = w.heap.size + 1 by simp] at k1
  have hB : Below w.heap.size w ((w.alloc (.cells #[.slice p0 n1 a1, .slice q0 n2 a2, .slice r0 n3 a3, .int .i64 lost] 33)).alloc (.cells #[.slice p1 n1 b1, .slice q1 n2 b2, .slice r1 n3 b3, .int .i64 lost] 33)) := (ent_new0 w _).alloc (by simp) _
  have HQ : Hid _ := And.intro k0 (And.intro k1 hB)
  clear k0 k1 hB
  have dn2 : (lost != lost) = false := by simp
  go_enter Tryz.func9, Tryz.ntmps9
  go_wp2_with fail
  obtain ⟨k0, k1, hB⟩ := HQ.out
  clear HQ
  refine (HI.out _ (HX.out.1.1.below hB) (HX.out.2.1.below hB)).mono ?_
  rintro e w1 ⟨rfl, hb1⟩
  have k0 := k0.below hb1 k0.lt
  have k1 := k1.below hb1 k1.lt
  have hB := hB.trans (hb1.mono hB.size)
  clear hb1
  have s0 : w1.cell? ⟨w.heap.size, 0, none⟩ = some (.slice p0 n1 a1) := k0.cell 0
  have s1 : w1.cell? ⟨w.heap.size, 1, none⟩ = some (.slice q0 n2 a2) := k0.cell 1
  have s2 : w1.cell? ⟨w.heap.size, 2, none⟩ = some (.slice r0 n3 a3) := k0.cell 2
  have s3 : w1.cell? ⟨w.heap.size, 3, none⟩ = some (.int .i64 lost) := k0.cell 3
  have t0 : w1.cell? ⟨w.heap.size + 1, 0, none⟩ = some (.slice p1 n1 b1) := k1.cell 0
  have t1 : w1.cell? ⟨w.heap.size + 1, 1, none⟩ = some (.slice q1 n2 b2) := k1.cell 1
  have t2 : w1.cell? ⟨w.heap.size + 1, 2, none⟩ = some (.slice r1 n3 b3) := k1.cell 2
  have t3 : w1.cell? ⟨w.heap.size + 1, 3, none⟩ = some (.int .i64 lost) := k1.cell 3
  go_wp2_with fail
  clear s0 s1 s2 s3 t0 t1 t2 t3
  refine (HS.out _ (HX.out.1.2.1.below hB) (HX.out.2.2.1.below hB)).mono ?_
  rintro e w2 ⟨rfl, hb2⟩
  have k0 := k0.below hb2 k0.lt
  have k1 := k1.below hb2 k1.lt
  have hB := hB.trans (hb2.mono hB.size)
  clear hb2
  have s0 : w2.cell? ⟨w.heap.size, 0, none⟩ = some (.slice p0 n1 a1) := k0.cell 0
  have s1 : w2.cell? ⟨w.heap.size, 1, none⟩ = some (.slice q0 n2 a2) := k0.cell 1
  have s2 : w2.cell? ⟨w.heap.size, 2, none⟩ = some (.slice r0 n3 a3) := k0.cell 2
  have s3 : w2.cell? ⟨w.heap.size, 3, none⟩ = some (.int .i64 lost) := k0.cell 3
  have t0 : w2.cell? ⟨w.heap.size + 1, 0, none⟩ = some (.slice p1 n1 b1) := k1.cell 0
  have t1 : w2.cell? ⟨w.heap.size + 1, 1, none⟩ = some (.slice q1 n2 b2) := k1.cell 1
  have t2 : w2.cell? ⟨w.heap.size + 1, 2, none⟩ = some (.slice r1 n3 b3) := k1.cell 2
  have t3 : w2.cell? ⟨w.heap.size + 1, 3, none⟩ = some (.int .i64 lost) := k1.cell 3
  go_wp2_with fail
  clear s0 s1 s2 s3 t0 t1 t2 t3
  refine (HE0.out _ (HX.out.1.2.2.below hB) (HX.out.2.2.2.below hB)).mono ?_
  rintro e w3 ⟨rfl, hb3⟩
  have k0 := k0.below hb3 k0.lt
  have k1 := k1.below hb3 k1.lt
  have hB := hB.trans (hb3.mono hB.size)
  clear hb3
  have s0 : w3.cell? ⟨w.heap.size, 0, none⟩ = some (.slice p0 n1 a1) := k0.cell 0
  have s1 : w3.cell? ⟨w.heap.size, 1, none⟩ = some (.slice q0 n2 a2) := k0.cell 1
  have s2 : w3.cell? ⟨w.heap.size, 2, none⟩ = some (.slice r0 n3 a3) := k0.cell 2
  have s3 : w3.cell? ⟨w.heap.size, 3, none⟩ = some (.int .i64 lost) := k0.cell 3
  have t0 : w3.cell? ⟨w.heap.size + 1, 0, none⟩ = some (.slice p1 n1 b1) := k1.cell 0
  have t1 : w3.cell? ⟨w.heap.size + 1, 1, none⟩ = some (.slice q1 n2 b2) := k1.cell 1
  have t2 : w3.cell? ⟨w.heap.size + 1, 2, none⟩ = some (.slice r1 n3 b3) := k1.cell 2
  have t3 : w3.cell? ⟨w.heap.size + 1, 3, none⟩ = some (.int .i64 lost) := k1.cell 3
  go_wp2
  go_ret
  exact ⟨rfl, hB⟩
end Go.Proofs.YtialedffpaoacaaGreatDoor
