/- Texts that stand on each other, in one file: Bytes. -/
import Derived.WalkKit
import Derived.ProofKit
import Derived.Laws.IdiomStrings
import Derived.Laws.CopyOwn
import Derived.Lib.Strings
/- Rows of bytes that a call makes itself: what is owned, how it grows byte by byte, what text it gives. -/
namespace Go.Proofs.YtialedffpaoacaaGreatDoor
open Go.RowKit

def cellsB (l : List UInt8) : List Value := l.map fun b => Value.int .u8 (b.toNat : Int)
/-- The slice value v of bytes owns just the bytes l, in memory from block 'base' on. -/
def OwnB (w : World) (base : Nat) (e : TypeId) (v : Value) (l : List UInt8) : Prop := w.ownsRow base e 1 v l.length (cellsB l)

theorem OwnB.nil (w : World) (base : Nat) (e : TypeId) : OwnB w base e (.slice none 0 0) [] := World.ownsRow_nil w base e 1
theorem OwnB.alloc {w : World} {base : Nat} {e : TypeId} {v : Value} {l : List UInt8} (h : OwnB w base e v l) (o : Obj) : OwnB (w.alloc o) base e v l := World.ownsRow.alloc h o
theorem OwnB.made (w : World) (base : Nat) (e : TypeId) (hb : base ≤ w.heap.size) : OwnB (w.alloc (.cells #[] e)) base e (.slice (some ⟨w.heap.size, 0, none⟩) 0 0) [] := by
  refine ⟨rfl, .inr ⟨w.heap.size, 0, #[], rfl, hb, ?_, Nat.le_refl _, Nat.zero_le _, rfl, rfl⟩⟩
  show (w.heap.push _)[w.heap.size]? = _
  simp

/-- What 'string(v)' gives of an owned row. -/
theorem OwnB.text {P : Program} {w : World} {base : Nat} {e : TypeId} {v : Value} {l : List UInt8} (h : OwnB w base e v l) (hl : l ≠ []) (src dst : TypeId) (hs : P.underlying src = some (.slice e)) (he : P.underlying e = some (.int .u8)) (hd : P.underlying dst = some .string) :
    (∃ g cap, v = .slice (some ⟨g, 0, none⟩) l.length cap) ∧ (convert src dst v).run P w = .ok (.string ⟨l.toArray⟩) w := by
  have h0 := h
  rcases h.2 with ⟨_, hn⟩ | ⟨g, cap, cur, rfl, _⟩
  · cases l with
    | nil => exact absurd rfl hl
    | cons a l => simp at hn
  · refine ⟨⟨g, cap, rfl⟩, ?_⟩
    refine run_convert_bytes_back w src dst e ⟨g, 0, none⟩ cap l hs he hd ?_
    intro j hj
    have hc := World.ownsRow.cellAt h0 j (by omega)
    have ea : (⟨g, 0, none⟩ : Addr).add j = ⟨g, j, none⟩ := by unfold Addr.add; split <;> simp_all
    rw [ea, hc]
    simp [cellsB, hj]

theorem byte_of_int (b : Int) (h0 : 0 ≤ b) (h1 : b < 256) : ((UInt8.ofNat b.toNat).toNat : Int) = b := by
  have : b.toNat % 256 = b.toNat := Nat.mod_eq_of_lt (by omega)
  simp [UInt8.toNat_ofNat', this]; omega

/-- 'v = append(v, b)', v an owned row of bytes (or nil), b laid in a block of its own just ahead. -/
theorem wpList_append_byte {P : Program} {w : World} {ops : Array Oper} {rest : List Oper} {o : Oper} {a : Act} {Q : Exit → Act → World → Prop} (hgd : o.guard = none) (s x : Operand) (t : TypeId)
    (ho : o.op = .call { callee := .builtin .append, args := #[s, x], argTypes := #[t, t] })
    (base : Nat) (e : TypeId) (ht : P.underlying t = some (.slice e)) (hi : (P.info? e).map (fun i => (i.zero, i.size, i.bytes)) = some (some (.int .u8 0), 1, 1))
    (v : Value) (l : List UInt8) (hs : a.eval s = v) (hown : OwnB w base e v l)
    (g : Nat) (b : Int) (hx : a.eval x = .slice (some ⟨g, 0, none⟩) 1 1) (hc : w.cell? ⟨g, 0, none⟩ = some (.int .u8 b)) (hb : 0 ≤ b ∧ b < 256)
    (hlen : l.length ≤ 1000000000000) (hbase : base ≤ w.heap.size)
    (h : ∀ v' w', OwnB w' base e v' (l ++ [UInt8.ofNat b.toNat]) → Below base w w' → wpList P ops Q rest (a.put o.dst v') w') : wpList P ops Q (o :: rest) a w := by
  obtain ⟨i0, hi0, hz0, hz1, hz2⟩ := info_parts hi
  refine wpList_append_own w hgd s x t ho base e i0 (.int .u8 0) 1 1 ht hi0 hz0 hz1 hz2 rfl (by decide) v l.length (cellsB l) hs hown ⟨g, 0, none⟩ 1 1 [.int .u8 b] hx rfl ?_ ?_ ?_ ?_ hbase ?_
  · intro j u hj
    match j, hj with
    | 0, hj => simp at hj; subst hj; simpa [Addr.add] using hc
  · intro u hu; simp at hu; subst hu; rfl
  · unfold maxLen; omega
  · omega
  · intro v' w' hown' hgrow _
    refine h v' w' ?_ ?_
    · unfold OwnB
      rw [show (l ++ [UInt8.ofNat b.toNat]).length = l.length + 1 by simp, show cellsB (l ++ [UInt8.ofNat b.toNat]) = cellsB l ++ [.int .u8 b] by simp only [cellsB, List.map_append, List.map_cons, List.map_nil, byte_of_int b hb.1 hb.2]]
      exact hown'
    · refine (Below.refl base w).grown hgrow hbase ?_
      intro k hk
      exact (hown.lt k hk).1

/-- Block g is a row of just the bytes l. -/
def RowB (w : World) (g : Nat) (e : TypeId) (l : List UInt8) : Prop := w.heap[g]? = some (.cells (cellsB l).toArray e (0, 0))
theorem cellsB_length (l : List UInt8) : (cellsB l).length = l.length := by simp [cellsB]
theorem cellsB_one (l : List UInt8) : ∀ v ∈ cellsB l, v.oneCell' = true := by
  intro v hv
  simp only [cellsB, List.mem_map] at hv
  obtain ⟨b, _, rfl⟩ := hv
  rfl
theorem cellsB_append (l m : List UInt8) : cellsB (l ++ m) = cellsB l ++ cellsB m := by simp [cellsB]
theorem cellsB_take (l : List UInt8) (k : Nat) : (cellsB l).take k = cellsB (l.take k) := by simp [cellsB]
theorem cellsB_drop (l : List UInt8) (k : Nat) : (cellsB l).drop k = cellsB (l.drop k) := by simp [cellsB]

theorem RowB.own {w : World} {g : Nat} {e : TypeId} {l : List UInt8} (h : RowB w g e l) (base cap : Nat) (hb : base ≤ g) (hc : cap = l.length) (hm : l.length ≤ maxLen) : OwnB w base e (.slice (some ⟨g, 0, none⟩) l.length cap) l := by
  subst hc
  exact ⟨by rw [cellsB_length]; omega, .inr ⟨g, l.length, _, rfl, hb, h, Nat.le_refl _, hm, by simp [cellsB_length], by rw [Nat.mul_one]; exact List.take_of_length_le (by simp [cellsB_length])⟩⟩

theorem OwnB.textAt {P : Program} {w : World} {base : Nat} {e : TypeId} {g cap : Nat} {l : List UInt8} (h0 : OwnB w base e (.slice (some ⟨g, 0, none⟩) l.length cap) l) (src dst : TypeId) (hs : P.underlying src = some (.slice e)) (he : P.underlying e = some (.int .u8)) (hd : P.underlying dst = some .string) :
    (convert src dst (.slice (some ⟨g, 0, none⟩) l.length cap)).run P w = .ok (.string ⟨l.toArray⟩) w := by
  refine run_convert_bytes_back w src dst e ⟨g, 0, none⟩ cap l hs he hd ?_
  intro j hj
  have hc := World.ownsRow.cellAt h0 j (by omega)
  have ea : (⟨g, 0, none⟩ : Addr).add j = ⟨g, j, none⟩ := by unfold Addr.add; split <;> simp_all
  rw [ea, hc]
  simp [cellsB, hj]

/-- m laid over l from place off on. -/
def overB (l : List UInt8) (off : Nat) (m : List UInt8) : List UInt8 := l.take off ++ (m ++ l.drop (off + m.length))
theorem overB_length (l : List UInt8) (off : Nat) (m : List UInt8) (h : off + m.length ≤ l.length) : (overB l off m).length = l.length := by simp [overB]; omega

/-- 'copy(dst, t)' from a text that fits, dst within a row of bytes. -/
theorem run_copy_text {P : Program} (w : World) (dT sT ty elem : TypeId) (g o dLen dCap : Nat) (s : ByteArray) (l : List UInt8) (t : TypeId)
    (hu : P.underlying dT = some (.slice elem)) (hs : (P.info? elem).map (·.size) = some 1) (hg : RowB w g t l) (hle : s.size ≤ dLen) (hfit : o + s.size ≤ l.length) :
    (Builtin.copy_ #[dT, sT] ty #[.slice (some ⟨g, o, none⟩) dLen dCap, .string s]).run P w =
      .ok (goInt s.size) (w.setRow g (cellsB (overB l o s.data.toList)).toArray) := by
  have hss : s.data.toList.length = s.size := by simp
  have hlen : (cellsB s.data.toList).length = s.size := by rw [cellsB_length, hss]
  have hst := run_storeCells_at P g o t (cellsB s.data.toList) 0 (cellsB l).toArray w hg (by rw [hlen]; simpa [cellsB_length] using hfit) (cellsB_one _)
  have hmin : Nat.min s.size dLen = s.size := Nat.min_eq_left hle
  have htk : List.take s.size (List.map (fun b : UInt8 => Value.int IntKind.u8 (b.toNat : Int)) s.data.toList) = cellsB s.data.toList := by
    rw [List.take_of_length_le (by rw [List.length_map, hss]; exact Nat.le_refl _)]
    rfl
  rw [hlen] at hst
  simp only [Nat.add_zero] at hst
  have hover : (cellsB (overB l o s.data.toList)).toArray = (List.take o (cellsB l).toArray.toList ++ cellsB s.data.toList ++ List.drop (o + s.size) (cellsB l).toArray.toList).toArray := by
    rw [overB, cellsB_append, cellsB_append, cellsB_take, cellsB_drop, hss, List.append_assoc]
  cases hq : P.info? elem with
  | none => simp [hq] at hs
  | some i =>
    simp [Builtin.copy_, run_underlying hu, Builtin.lenOf, Builtin.firstCells, sizeOf, typeInfo, hq, hmin]
    rw [htk, hst, hover]
    simp [Result.andThen]

theorem run_copy_text_none {P : Program} (w : World) (dT sT ty elem : TypeId) (d : Option Addr) (dLen dCap : Nat) (s : ByteArray)
    (hu : P.underlying dT = some (.slice elem)) (hs : (P.info? elem).map (·.size) = some 1) (h0 : s.size = 0) :
    (Builtin.copy_ #[dT, sT] ty #[.slice d dLen dCap, .string s]).run P w = .ok (goInt 0) w := by
  cases hq : P.info? elem with
  | none => simp [hq] at hs
  | some i =>
    cases d <;> simp [Builtin.copy_, run_underlying hu, Builtin.lenOf, Builtin.firstCells, sizeOf, typeInfo, hq, h0, storeCells]

/-- The same, with what becomes of the world: laid ahead of the walk as an equation. -/
theorem copy_text_run {P : Program} {w : World} (dT sT ty elem : TypeId) (hu : P.underlying dT = some (.slice elem)) (hsz : (P.info? elem).map (·.size) = some 1)
    (dp : Option Addr) (dLen dCap : Nat) (t : ByteArray) {g : Nat} (off : Nat) {l : List UInt8} {e : TypeId} (hg : RowB w g e l) (hle : t.size ≤ dLen) (hpos : 0 < t.size → dp = some ⟨g, off, none⟩) (hfit : off + t.size ≤ l.length)
    {B : Nat} {w0 : World} (hb : Below B w0 w) (hBg : B ≤ g) :
    ∃ w', RowB w' g e (overB l off t.data.toList) ∧ Below B w0 w' ∧ w'.heap.size = w.heap.size ∧ (Builtin.copy_ #[dT, sT] ty #[.slice dp dLen dCap, .string t]).run P w = .ok (goInt t.size) w' := by
  by_cases h0 : t.size = 0
  · have hrun := run_copy_text_none (P := P) w dT sT ty elem dp dLen dCap t hu hsz h0
    have hl : t.data.toList = [] := List.eq_nil_of_length_eq_zero (by simpa using h0)
    exact ⟨w, by rw [hl]; simpa [overB] using hg, hb, rfl, by rw [hrun, h0]; rfl⟩
  · obtain rfl := hpos (by omega)
    have hrun := run_copy_text (P := P) w dT sT ty elem g off dLen dCap t l e hu hsz hg hle hfit
    exact ⟨_, setRow_heap w g _ _ e _ hg, below_setRow hb hBg _, by simp [World.setRow], hrun⟩

/-- 'make([]byte, n)'. -/
theorem wpList_make_bytes {P : Program} {w : World} {ops : Array Oper} {rest : List Oper} {o : Oper} {a : Act} {Q : Exit → Act → World → Prop}
    (hgd : o.guard = none) (l c : Operand) (t : TypeId) (hop : o.op = Op.makeSlice t l c)
    (e : TypeId) (ht : P.underlying t = some (.slice e)) (hi : (P.info? e).map (fun i => (i.zero, i.size, i.bytes)) = some (some (.int .u8 0), 1, 1))
    (L : Int) (n : Nat) (hl : a.eval l = .int .i64 L) (hc : a.eval c = .int .i64 L) (hL : L = (n : Int)) (hn : n ≤ 100000000000000)
    (B : Nat) (w0 : World) (hb : Below B w0 w) (hB : B ≤ w.heap.size)
    (h : ∀ w', RowB w' w.heap.size e (List.replicate n 0) → Below B w0 w' → w.heap.size < w'.heap.size → wpList P ops Q rest (a.put o.dst (.slice (some ⟨w.heap.size, 0, none⟩) n n)) w') : wpList P ops Q (o :: rest) a w := by
  obtain ⟨i0, hi0, hz0, hz1, hz2⟩ := info_parts hi
  refine wpList_make_full w hgd l c t hop B e i0 (.int .u8 0) 1 ht hi0 hz0 hz1 .i64 .i64 L L n hl hc hL hL (by rw [hz2]; omega) (by unfold maxLen; omega) hB ?_
  intro w' hown hgrow
  rcases hown.2 with ⟨h', _⟩ | ⟨g, cap, cur, h', hbg, hg, hnc, hcm, hcs, htake⟩
  · simp at h'
  · simp only [Value.slice.injEq, Option.some.injEq, Addr.mk.injEq, and_true, true_and] at h'
    obtain ⟨rfl, rfl⟩ := h'
    refine h w' ?_ (hb.trans ((Below.refl B w).grown hgrow hB (by intro k hk; cases hk))) ((Array.getElem?_eq_some_iff.1 hg).1)
    unfold RowB
    rw [hg]
    have e1 : cur.toList = (madeCells (Value.int IntKind.u8 0).cells (n * 1)).toList := by
      rw [← htake, List.take_of_length_le (by simp [hcs])]
    have e2 : (madeCells (Value.int IntKind.u8 0).cells (n * 1)).toList = cellsB (List.replicate n 0) := by
      simp [cellsB, madeCells, Value.cells]
      rw [List.eq_replicate_iff]
      simp [Nat.mod_one]
    rw [e2] at e1
    rw [← e1]
end Go.Proofs.YtialedffpaoacaaGreatDoor
