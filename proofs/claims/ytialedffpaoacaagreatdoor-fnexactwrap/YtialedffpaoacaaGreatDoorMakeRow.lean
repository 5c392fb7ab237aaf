/- 'make([]T, n)' of one-cell values. -/
import Derived.Test.YtialedffpaoacaaGreatDoorOwn
namespace Go.Proofs.YtialedffpaoacaaGreatDoor
open Go.RowKit

theorem wpList_make_row {P : Program} {w : World} {ops : Array Oper} {rest : List Oper} {o : Oper} {a : Act} {Q : Exit → Act → World → Prop}
    (hgd : o.guard = none) (l c : Operand) (t : TypeId) (hop : o.op = Op.makeSlice t l c)
    (e : TypeId) (ht : P.underlying t = some (.slice e)) (z : Value) (hz : z.cells = #[z]) (by_ : Nat) (hby : by_ ≤ 64) (hi : (P.info? e).map (fun i => (i.zero, i.size, i.bytes)) = some (some z, 1, by_))
    (L : Int) (n : Nat) (hl : a.eval l = .int .i64 L) (hc : a.eval c = .int .i64 L) (hL : L = (n : Int)) (hn : n ≤ 1000000000)
    (B : Nat) (w0 : World) (hb : Below B w0 w) (hB : B ≤ w.heap.size)
    (h : ∀ w', Row w' w.heap.size e (List.replicate n z) → Below B w0 w' → w.heap.size < w'.heap.size → wpList P ops Q rest (a.put o.dst (.slice (some ⟨w.heap.size, 0, none⟩) n n)) w') : wpList P ops Q (o :: rest) a w := by
  obtain ⟨i0, hi0, hz0, hz1, hz2⟩ := info_parts hi
  refine wpList_make_full w hgd l c t hop B e i0 z 1 ht hi0 hz0 hz1 .i64 .i64 L L n hl hc hL hL (by rw [hz2]; have := Nat.mul_le_mul_right n hby; omega) (by unfold maxLen; omega) hB ?_
  intro w' hown hgrow
  rcases hown.2 with ⟨h', _⟩ | ⟨g, cap, cur, h', hbg, hg, hnc, hcm, hcs, htake⟩
  · simp at h'
  · simp only [Value.slice.injEq, Option.some.injEq, Addr.mk.injEq, and_true, true_and] at h'
    obtain ⟨rfl, rfl⟩ := h'
    refine h w' ?_ (hb.trans ((Below.refl B w).grown hgrow hB (by intro k hk; cases hk))) ((Array.getElem?_eq_some_iff.1 hg).1)
    unfold Row
    rw [hg]
    have e1 : cur.toList = (madeCells z.cells (n * 1)).toList := by
      rw [← htake, List.take_of_length_le (by simp [hcs])]
    have e2 : (madeCells z.cells (n * 1)).toList = List.replicate n z := by
      rw [hz]
      simp [madeCells]
      rw [List.eq_replicate_iff]
      simp [Nat.mod_one]
    rw [e2] at e1
    rw [← e1]
def valI (x : Nat) : Value := .int .i64 (x : Int)
def valsI (l : List Nat) : List Value := l.map valI
theorem valsI_length (l : List Nat) : (valsI l).length = l.length := by simp [valsI]
theorem valsI_append (l m : List Nat) : valsI (l ++ m) = valsI l ++ valsI m := by simp [valsI]
theorem valsI_get (l : List Nat) (k : Nat) (h : k < l.length) : (valsI l)[k]? = some (.int .i64 ((l.getD k 0 : Nat) : Int)) := by
  simp [valsI, valI, h]
theorem valsI_one (l : List Nat) : ∀ v ∈ valsI l, v.oneCell' = true := by
  intro v hv
  simp only [valsI, List.mem_map] at hv
  obtain ⟨b, _, rfl⟩ := hv
  rfl
theorem valsU_replicate (n : Nat) : valsU (List.replicate n 0) = List.replicate n (.int .u32 0) := by simp [valsU, valU]
end Go.Proofs.YtialedffpaoacaaGreatDoor
