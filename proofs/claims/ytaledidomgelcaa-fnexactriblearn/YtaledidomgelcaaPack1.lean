/- Texts that stand on each other, in one file: AddrMath, Bytes, Bits, Base, Pow, MaskI, LookA, NetOf, EntD, TimeI, Rt, RowV, OpenRt, Rts, Four2, LessI. -/
import Derived.WalkKit
import Derived.Laws.BitsAllLaws
import Derived.ProofKit
import Derived.Laws.IdiomStrings
import Derived.Laws.CopyOwn
import Derived.Lib.Strings
import Derived.Test.YtaledidomgelcaaRows
import Derived.BigGuardPart
import Derived.Laws.ShiftsVarLaws
import Derived.Laws.StructEq
import Derived.BigQuiet
import Derived.Lib.QuietBelow
import Derived.WalkSmall
import Derived.Deep.RegionWith
import Derived.Deep.RegionHeld3
import Derived.Deep.QuietTactic
import Derived.BigRegion
import Derived.Lib.SmallJoins
import Derived.Deep.Slices
import Derived.OwnWalk
/- Plain numbers under addresses: masks, cuts, and what shifts and 'and' make of them. -/
namespace Go.Proofs.Ytaledidomgelcaa

theorem ofInt_i64 (a : Nat) (ha : a < 9223372036854775808) : (BitVec.ofInt 64 (a : Int)).toNat = a := by
  rw [BitVec.ofInt_natCast, BitVec.toNat_ofNat]; exact Nat.mod_eq_of_lt (by omega)
theorem i64_and_nat (a b : Nat) (ha : a < 9223372036854775808) (hb : b < 9223372036854775808) : bits .and .i64 (a : Int) (b : Int) = ((a &&& b : Nat) : Int) := by
  have hx : a &&& b < 2 ^ 63 := Nat.and_lt_two_pow _ (by omega)
  show IntKind.i64.wrap ((BitVec.ofInt 64 (a : Int) &&& BitVec.ofInt 64 (b : Int)).toNat : Int) = _
  rw [BitVec.toNat_and, ofInt_i64 a ha, ofInt_i64 b hb, IntKind.wrap_i64]
  omega
theorem i64_or_nat (a b : Nat) (ha : a < 9223372036854775808) (hb : b < 9223372036854775808) : bits .or .i64 (a : Int) (b : Int) = ((a ||| b : Nat) : Int) := by
  have hx : a ||| b < 2 ^ 63 := Nat.or_lt_two_pow (by omega) (by omega)
  show IntKind.i64.wrap ((BitVec.ofInt 64 (a : Int) ||| BitVec.ofInt 64 (b : Int)).toNat : Int) = _
  rw [BitVec.toNat_or, ofInt_i64 a ha, ofInt_i64 b hb, IntKind.wrap_i64]
  omega
theorem pow_split (j : Nat) (h : j ≤ 32) : (2 : Nat) ^ 32 - 2 ^ j = (2 ^ (32 - j) - 1) * 2 ^ j := by
  rw [Nat.sub_mul, ← Nat.pow_add, Nat.one_mul]
  congr 2
  omega
theorem nat_and_mask (a j : Nat) (ha : a < 4294967296) (hj : j ≤ 32) : a &&& (4294967296 - 2 ^ j) = a / 2 ^ j * 2 ^ j := by
  rw [show (4294967296 : Nat) = 2 ^ 32 from rfl, pow_split j hj]
  apply Nat.eq_of_testBit_eq
  intro i
  rw [Nat.testBit_and, Nat.testBit_mul_two_pow, Nat.testBit_mul_two_pow, Nat.testBit_two_pow_sub_one, Nat.testBit_div_two_pow]
  by_cases h : j ≤ i
  · by_cases h2 : i < 32
    · have h3 : i - j < 32 - j := by omega
      simp [h, h3]
    · have h3 : a.testBit i = false := Nat.testBit_lt_two_pow (Nat.lt_of_lt_of_le ha (by rw [show (4294967296 : Nat) = 2 ^ 32 from rfl]; exact Nat.pow_le_pow_right (by decide) (by omega)))
      simp [h, h3]
  · simp [h]

/-- What a length leaves out: two to the bits behind it. -/
def gap (l : Int) : Nat := 2 ^ (32 - l.toNat)
theorem gap_fin : ∀ k : Fin 33, 1 ≤ 2 ^ (32 - k.val) ∧ 2 ^ (32 - k.val) ≤ 4294967296 := by decide
theorem gap_pos (l : Int) : 1 ≤ gap l := Nat.two_pow_pos _
theorem gap_le (l : Int) : gap l ≤ 4294967296 := by
  unfold gap; rw [show (4294967296 : Nat) = 2 ^ 32 from rfl]; exact Nat.pow_le_pow_right (by decide) (by omega)
theorem gap_pow (l : Int) (h0 : 0 ≤ l) (h1 : l ≤ 32) : gap l = 2 ^ (32 - l).toNat := by
  unfold gap; congr 1; omega
/-- An address without the bits behind the first ones. -/
def cutV (a l : Int) : Int := a / (gap l : Int) * (gap l : Int)
theorem cutV_le (a l : Int) (h : 0 ≤ a) : 0 ≤ cutV a l ∧ cutV a l ≤ a := by
  have hg := gap_pos l
  have hg' : (0 : Int) < (gap l : Int) := by omega
  unfold cutV
  constructor
  · exact Int.mul_nonneg (Int.ediv_nonneg h (by omega)) (by omega)
  · exact Int.ediv_mul_le a (by omega)
def maskV (l : Int) : Int := if 0 ≤ l ∧ l ≤ 32 then 4294967296 - (gap l : Int) else 0
theorem maskV_in (l : Int) (h0 : 0 ≤ l) (h1 : l ≤ 32) : maskV l = 4294967296 - (gap l : Int) := if_pos ⟨h0, h1⟩
theorem maskV_out (l : Int) (h : ¬ (0 ≤ l ∧ l ≤ 32)) : maskV l = 0 := if_neg h
theorem maskV_range (l : Int) : 0 ≤ maskV l ∧ maskV l ≤ 4294967295 := by
  unfold maskV
  have := gap_le l
  have := gap_pos l
  split <;> omega
theorem and_mask (a l : Int) (h0 : 0 ≤ a) (h1 : a ≤ 4294967295) (hl0 : 0 ≤ l) (hl1 : l ≤ 32) : bits .and .i64 a (maskV l) = cutV a l := by
  obtain ⟨A, rfl⟩ := Int.eq_ofNat_of_zero_le h0
  rw [maskV_in l hl0 hl1]
  have hg := gap_le l
  rw [show (4294967296 : Int) - (gap l : Int) = ((4294967296 - gap l : Nat) : Int) by omega, i64_and_nat A _ (by omega) (by omega)]
  unfold cutV gap
  rw [nat_and_mask A (32 - l.toNat) (by omega) (by omega)]
  push_cast
  rfl
/-- A shift down and up again. -/
theorem down_up_fin : ∀ k : Fin 33, (4294967295 / 2 ^ k.val) * 2 ^ k.val = 4294967296 - 2 ^ k.val := by decide
theorem down_up (l : Int) (h0 : 0 ≤ l) (h1 : l ≤ 32) : (4294967295 : Int) / 2 ^ (32 - l).toNat * 2 ^ (32 - l).toNat = maskV l := by
  rw [maskV_in l h0 h1, gap_pow l h0 h1]
  have h := down_up_fin ⟨(32 - l).toNat, by omega⟩
  have hg := gap_le l
  rw [gap_pow l h0 h1] at hg
  simp only at h
  have e : ((2 : Int) ^ (32 - l).toNat) = ((2 ^ (32 - l).toNat : Nat) : Int) := by simp
  rw [e]
  generalize 2 ^ (32 - l).toNat = G at *
  have h2 : ((4294967295 : Int) / (G : Int) * (G : Int)) = ((4294967295 / G * G : Nat) : Int) := by simp
  rw [h2, h]
  omega
/-- Masks of different lengths differ. -/
theorem gap_step (k : Nat) (h : k + 1 ≤ 32) : gap (k : Int) = 2 * gap ((k + 1 : Nat) : Int) := by
  unfold gap
  rw [Int.toNat_natCast, Int.toNat_natCast, show 32 - k = (32 - (k + 1)) + 1 by omega, Nat.pow_succ]
  omega
theorem cutV_cut (a l : Int) : cutV (cutV a l) l = cutV a l := by
  have hg := gap_pos l
  unfold cutV
  rw [Int.mul_ediv_cancel _ (by omega)]
end Go.Proofs.Ytaledidomgelcaa
/- Rows of bytes that a call makes itself: what is owned, how it grows byte by byte, what text it gives. -/
namespace Go.Proofs.Ytaledidomgelcaa
open Go.RowKit

def cellsB (l : List UInt8) : List Value := l.map fun b => Value.int .u8 (b.toNat : Int)
/-- The slice value v of bytes owns just the bytes l, in memory from block 'base' on. -/
def OwnB (w : World) (base : Nat) (e : TypeId) (v : Value) (l : List UInt8) : Prop := w.ownsRow base e 1 v l.length (cellsB l)

theorem OwnB.nil (w : World) (base : Nat) (e : TypeId) : OwnB w base e (.slice none 0 0) [] := World.ownsRow_nil w base e 1
theorem OwnB.alloc {w : World} {base : Nat} {e : TypeId} {v : Value} {l : List UInt8} (h : OwnB w base e v l) (o : Obj) : OwnB (w.alloc o) base e v l := World.ownsRow.alloc h o
theorem OwnB.made (w : World) (base : Nat) (e : TypeId) (hb : base ≤ w.heap.size) : OwnB (w.alloc (.cells #[] e)) base e (.slice (some ⟨w.heap.size, 0, none⟩) 0 0) [] := by
  refine ⟨rfl, .inr ⟨w.heap.size, 0, #[], rfl, hb, ?_, Nat.le_refl _, Nat.zero_le _, rfl, rfl⟩⟩
  show (w.heap.push _)[w.heap.size]? = _
  simp

/-- What 'string(v)' gives of an owned row. -/
theorem OwnB.text {P : Program} {w : World} {base : Nat} {e : TypeId} {v : Value} {l : List UInt8} (h : OwnB w base e v l) (hl : l ≠ []) (src dst : TypeId) (hs : P.underlying src = some (.slice e)) (he : P.underlying e = some (.int .u8)) (hd : P.underlying dst = some .string) :
    (∃ g cap, v = .slice (some ⟨g, 0, none⟩) l.length cap) ∧ (convert src dst v).run P w = .ok (.string ⟨l.toArray⟩) w := by
  have h0 := h
  rcases h.2 with ⟨_, hn⟩ | ⟨g, cap, cur, rfl, _⟩
  · cases l with
    | nil => exact absurd rfl hl
    | cons a l => simp at hn
  · refine ⟨⟨g, cap, rfl⟩, ?_⟩
    refine run_convert_bytes_back w src dst e ⟨g, 0, none⟩ cap l hs he hd ?_
    intro j hj
    have hc := World.ownsRow.cellAt h0 j (by omega)
    have ea : (⟨g, 0, none⟩ : Addr).add j = ⟨g, j, none⟩ := by unfold Addr.add; split <;> simp_all
    rw [ea, hc]
    simp [cellsB, hj]

theorem byte_of_int (b : Int) (h0 : 0 ≤ b) (h1 : b < 256) : ((UInt8.ofNat b.toNat).toNat : Int) = b := by
  have : b.toNat % 256 = b.toNat := Nat.mod_eq_of_lt (by omega)
  simp [UInt8.toNat_ofNat', this]; omega

/-- 'v = append(v, b)', v an owned row of bytes (or nil), b laid in a block of its own just ahead. -/
theorem wpList_append_byte {P : Program} {w : World} {ops : Array Oper} {rest : List Oper} {o : Oper} {a : Act} {Q : Exit → Act → World → Prop} (hgd : o.guard = none) (s x : Operand) (t : TypeId)
    (ho : o.op = .call { callee := .builtin .append, args := #[s, x], argTypes := #[t, t] })
    (base : Nat) (e : TypeId) (ht : P.underlying t = some (.slice e)) (hi : (P.info? e).map (fun i => (i.zero, i.size, i.bytes)) = some (some (.int .u8 0), 1, 1))
    (v : Value) (l : List UInt8) (hs : a.eval s = v) (hown : OwnB w base e v l)
    (g : Nat) (b : Int) (hx : a.eval x = .slice (some ⟨g, 0, none⟩) 1 1) (hc : w.cell? ⟨g, 0, none⟩ = some (.int .u8 b)) (hb : 0 ≤ b ∧ b < 256)
    (hlen : l.length ≤ 1000000000000) (hbase : base ≤ w.heap.size)
    (h : ∀ v' w', OwnB w' base e v' (l ++ [UInt8.ofNat b.toNat]) → Below base w w' → wpList P ops Q rest (a.put o.dst v') w') : wpList P ops Q (o :: rest) a w := by
  obtain ⟨i0, hi0, hz0, hz1, hz2⟩ := info_parts hi
  refine wpList_append_own w hgd s x t ho base e i0 (.int .u8 0) 1 1 ht hi0 hz0 hz1 hz2 rfl (by decide) v l.length (cellsB l) hs hown ⟨g, 0, none⟩ 1 1 [.int .u8 b] hx rfl ?_ ?_ ?_ ?_ hbase ?_
  · intro j u hj
    match j, hj with
    | 0, hj => simp at hj; subst hj; simpa [Addr.add] using hc
  · intro u hu; simp at hu; subst hu; rfl
  · unfold maxLen; omega
  · omega
  · intro v' w' hown' hgrow _
    refine h v' w' ?_ ?_
    · unfold OwnB
      rw [show (l ++ [UInt8.ofNat b.toNat]).length = l.length + 1 by simp, show cellsB (l ++ [UInt8.ofNat b.toNat]) = cellsB l ++ [.int .u8 b] by simp only [cellsB, List.map_append, List.map_cons, List.map_nil, byte_of_int b hb.1 hb.2]]
      exact hown'
    · refine (Below.refl base w).grown hgrow hbase ?_
      intro k hk
      exact (hown.lt k hk).1

/-- Block g is a row of just the bytes l. -/
def RowB (w : World) (g : Nat) (e : TypeId) (l : List UInt8) : Prop := w.heap[g]? = some (.cells (cellsB l).toArray e (0, 0))
theorem cellsB_length (l : List UInt8) : (cellsB l).length = l.length := by simp [cellsB]
theorem cellsB_one (l : List UInt8) : ∀ v ∈ cellsB l, v.oneCell' = true := by
  intro v hv
  simp only [cellsB, List.mem_map] at hv
  obtain ⟨b, _, rfl⟩ := hv
  rfl
theorem cellsB_append (l m : List UInt8) : cellsB (l ++ m) = cellsB l ++ cellsB m := by simp [cellsB]
theorem cellsB_take (l : List UInt8) (k : Nat) : (cellsB l).take k = cellsB (l.take k) := by simp [cellsB]
theorem cellsB_drop (l : List UInt8) (k : Nat) : (cellsB l).drop k = cellsB (l.drop k) := by simp [cellsB]

theorem RowB.own {w : World} {g : Nat} {e : TypeId} {l : List UInt8} (h : RowB w g e l) (base cap : Nat) (hb : base ≤ g) (hc : cap = l.length) (hm : l.length ≤ maxLen) : OwnB w base e (.slice (some ⟨g, 0, none⟩) l.length cap) l := by
  subst hc
  exact ⟨by rw [cellsB_length]; omega, .inr ⟨g, l.length, _, rfl, hb, h, Nat.le_refl _, hm, by simp [cellsB_length], by rw [Nat.mul_one]; exact List.take_of_length_le (by simp [cellsB_length])⟩⟩

theorem OwnB.textAt {P : Program} {w : World} {base : Nat} {e : TypeId} {g cap : Nat} {l : List UInt8} (h0 : OwnB w base e (.slice (some ⟨g, 0, none⟩) l.length cap) l) (src dst : TypeId) (hs : P.underlying src = some (.slice e)) (he : P.underlying e = some (.int .u8)) (hd : P.underlying dst = some .string) :
    (convert src dst (.slice (some ⟨g, 0, none⟩) l.length cap)).run P w = .ok (.string ⟨l.toArray⟩) w := by
  refine run_convert_bytes_back w src dst e ⟨g, 0, none⟩ cap l hs he hd ?_
  intro j hj
  have hc := World.ownsRow.cellAt h0 j (by omega)
  have ea : (⟨g, 0, none⟩ : Addr).add j = ⟨g, j, none⟩ := by unfold Addr.add; split <;> simp_all
  rw [ea, hc]
  simp [cellsB, hj]

/-- m laid over l from place off on. -/
def overB (l : List UInt8) (off : Nat) (m : List UInt8) : List UInt8 := l.take off ++ (m ++ l.drop (off + m.length))
theorem overB_length (l : List UInt8) (off : Nat) (m : List UInt8) (h : off + m.length ≤ l.length) : (overB l off m).length = l.length := by simp [overB]; omega

/-- 'copy(dst, t)' from a text that fits, dst within a row of bytes. -/
theorem run_copy_text {P : Program} (w : World) (dT sT ty elem : TypeId) (g o dLen dCap : Nat) (s : ByteArray) (l : List UInt8) (t : TypeId)
    (hu : P.underlying dT = some (.slice elem)) (hs : (P.info? elem).map (·.size) = some 1) (hg : RowB w g t l) (hle : s.size ≤ dLen) (hfit : o + s.size ≤ l.length) :
    (Builtin.copy_ #[dT, sT] ty #[.slice (some ⟨g, o, none⟩) dLen dCap, .string s]).run P w =
      .ok (goInt s.size) (w.setRow g (cellsB (overB l o s.data.toList)).toArray) := by
  have hss : s.data.toList.length = s.size := by simp
  have hlen : (cellsB s.data.toList).length = s.size := by rw [cellsB_length, hss]
  have hst := run_storeCells_at P g o t (cellsB s.data.toList) 0 (cellsB l).toArray w hg (by rw [hlen]; simpa [cellsB_length] using hfit) (cellsB_one _)
  have hmin : Nat.min s.size dLen = s.size := Nat.min_eq_left hle
  have htk : List.take s.size (List.map (fun b : UInt8 => Value.int IntKind.u8 (b.toNat : Int)) s.data.toList) = cellsB s.data.toList := by
    rw [List.take_of_length_le (by rw [List.length_map, hss]; exact Nat.le_refl _)]
    rfl
  rw [hlen] at hst
  simp only [Nat.add_zero] at hst
  have hover : (cellsB (overB l o s.data.toList)).toArray = (List.take o (cellsB l).toArray.toList ++ cellsB s.data.toList ++ List.drop (o + s.size) (cellsB l).toArray.toList).toArray := by
    rw [overB, cellsB_append, cellsB_append, cellsB_take, cellsB_drop, hss, List.append_assoc]
  cases hq : P.info? elem with
  | none => simp [hq] at hs
  | some i =>
    simp [Builtin.copy_, run_underlying hu, Builtin.lenOf, Builtin.firstCells, sizeOf, typeInfo, hq, hmin]
    rw [htk, hst, hover]
    simp [Result.andThen]

theorem run_copy_text_none {P : Program} (w : World) (dT sT ty elem : TypeId) (d : Option Addr) (dLen dCap : Nat) (s : ByteArray)
    (hu : P.underlying dT = some (.slice elem)) (hs : (P.info? elem).map (·.size) = some 1) (h0 : s.size = 0) :
    (Builtin.copy_ #[dT, sT] ty #[.slice d dLen dCap, .string s]).run P w = .ok (goInt 0) w := by
  cases hq : P.info? elem with
  | none => simp [hq] at hs
  | some i =>
    cases d <;> simp [Builtin.copy_, run_underlying hu, Builtin.lenOf, Builtin.firstCells, sizeOf, typeInfo, hq, h0, storeCells]

/-- The same, with what becomes of the world: laid ahead of the walk as an equation. -/
theorem copy_text_run {P : Program} {w : World} (dT sT ty elem : TypeId) (hu : P.underlying dT = some (.slice elem)) (hsz : (P.info? elem).map (·.size) = some 1)
    (dp : Option Addr) (dLen dCap : Nat) (t : ByteArray) {g : Nat} (off : Nat) {l : List UInt8} {e : TypeId} (hg : RowB w g e l) (hle : t.size ≤ dLen) (hpos : 0 < t.size → dp = some ⟨g, off, none⟩) (hfit : off + t.size ≤ l.length)
    {B : Nat} {w0 : World} (hb : Below B w0 w) (hBg : B ≤ g) :
    ∃ w', RowB w' g e (overB l off t.data.toList) ∧ Below B w0 w' ∧ w'.heap.size = w.heap.size ∧ (Builtin.copy_ #[dT, sT] ty #[.slice dp dLen dCap, .string t]).run P w = .ok (goInt t.size) w' := by
  by_cases h0 : t.size = 0
  · have hrun := run_copy_text_none (P := P) w dT sT ty elem dp dLen dCap t hu hsz h0
    have hl : t.data.toList = [] := List.eq_nil_of_length_eq_zero (by simpa using h0)
    exact ⟨w, by rw [hl]; simpa [overB] using hg, hb, rfl, by rw [hrun, h0]; rfl⟩
  · obtain rfl := hpos (by omega)
    have hrun := run_copy_text (P := P) w dT sT ty elem g off dLen dCap t l e hu hsz hg hle hfit
    exact ⟨_, setRow_heap w g _ _ e _ hg, below_setRow hb hBg _, by simp [World.setRow], hrun⟩

/-- 'make([]byte, n)'. -/
theorem wpList_make_bytes {P : Program} {w : World} {ops : Array Oper} {rest : List Oper} {o : Oper} {a : Act} {Q : Exit → Act → World → Prop}
    (hgd : o.guard = none) (l c : Operand) (t : TypeId) (hop : o.op = Op.makeSlice t l c)
    (e : TypeId) (ht : P.underlying t = some (.slice e)) (hi : (P.info? e).map (fun i => (i.zero, i.size, i.bytes)) = some (some (.int .u8 0), 1, 1))
    (L : Int) (n : Nat) (hl : a.eval l = .int .i64 L) (hc : a.eval c = .int .i64 L) (hL : L = (n : Int)) (hn : n ≤ 100000000000000)
    (B : Nat) (w0 : World) (hb : Below B w0 w) (hB : B ≤ w.heap.size)
    (h : ∀ w', RowB w' w.heap.size e (List.replicate n 0) → Below B w0 w' → w.heap.size < w'.heap.size → wpList P ops Q rest (a.put o.dst (.slice (some ⟨w.heap.size, 0, none⟩) n n)) w') : wpList P ops Q (o :: rest) a w := by
  obtain ⟨i0, hi0, hz0, hz1, hz2⟩ := info_parts hi
  refine wpList_make_full w hgd l c t hop B e i0 (.int .u8 0) 1 ht hi0 hz0 hz1 .i64 .i64 L L n hl hc hL hL (by rw [hz2]; omega) (by unfold maxLen; omega) hB ?_
  intro w' hown hgrow
  rcases hown.2 with ⟨h', _⟩ | ⟨g, cap, cur, h', hbg, hg, hnc, hcm, hcs, htake⟩
  · simp at h'
  · simp only [Value.slice.injEq, Option.some.injEq, Addr.mk.injEq, and_true, true_and] at h'
    obtain ⟨rfl, rfl⟩ := h'
    refine h w' ?_ (hb.trans ((Below.refl B w).grown hgrow hB (by intro k hk; cases hk))) ((Array.getElem?_eq_some_iff.1 hg).1)
    unfold RowB
    rw [hg]
    have e1 : cur.toList = (madeCells (Value.int IntKind.u8 0).cells (n * 1)).toList := by
      rw [← htake, List.take_of_length_le (by simp [hcs])]
    have e2 : (madeCells (Value.int IntKind.u8 0).cells (n * 1)).toList = cellsB (List.replicate n 0) := by
      simp [cellsB, madeCells, Value.cells]
      rw [List.eq_replicate_iff]
      simp [Nat.mod_one]
    rw [e2] at e1
    rw [← e1]
end Go.Proofs.Ytaledidomgelcaa
/- Small laws on bits: all ones put against a number. -/
namespace Go.Proofs.Ytaledidomgelcaa
theorem nat_ones_xor (n x : Nat) (h : x < 2 ^ n) : (2 ^ n - 1) ^^^ x = 2 ^ n - 1 - x := by
  have e := congrArg BitVec.toNat (BitVec.allOnes_xor (x := BitVec.ofNat n x))
  simp only [BitVec.toNat_xor, BitVec.toNat_allOnes, BitVec.toNat_ofNat, BitVec.toNat_not, Nat.mod_eq_of_lt h] at e
  exact e
theorem ones_u64 (x : Int) (h0 : 0 ≤ x) (h1 : x < 18446744073709551616) : bits .xor .u64 IntKind.u64.max x = 18446744073709551615 - x := by
  have em : IntKind.u64.max = 18446744073709551615 := by decide
  rw [em, u64_xor _ _ (by omega) (by omega) h0 h1]
  have := nat_ones_xor 64 x.toNat (by omega)
  rw [show (18446744073709551615 : Int).toNat = 2 ^ 64 - 1 by decide, this]
  omega
theorem ones_u32 (x : Int) (h0 : 0 ≤ x) (h1 : x < 4294967296) : bits .xor .u32 IntKind.u32.max x = 4294967295 - x := by
  have em : IntKind.u32.max = 4294967295 := by decide
  rw [em, u32_xor _ _ (by omega) (by omega) h0 h1]
  have := nat_ones_xor 32 x.toNat (by omega)
  rw [show (4294967295 : Int).toNat = 2 ^ 32 - 1 by decide, this]
  omega
theorem fold_neg (n : Int) (h0 : -9223372036854775808 ≤ n) (h : n < 0) : bits .xor .u64 IntKind.u64.max (IntKind.u64.wrap (IntKind.u64.wrap n * 2)) = -2 * n - 1 := by
  rw [IntKind.wrap_u64, IntKind.wrap_u64, ones_u64 _ (by omega) (by omega)]
  omega
end Go.Proofs.Ytaledidomgelcaa
/- Small facts on this translation and on ends of calls. -/
namespace Go.Proofs.Ytaledidomgelcaa
open Go.RowKit

theorem ret_u64 {a b : Int} (h : a = b) : Ending.returned (.int .u64 a) = .returned (.int .u64 b) := by rw [h]
theorem ret_u32 {a b : Int} (h : a = b) : Ending.returned (.int .u32 a) = .returned (.int .u32 b) := by rw [h]
theorem ret_i64 {a b : Int} (h : a = b) : Ending.returned (.int .i64 a) = .returned (.int .i64 b) := by rw [h]
theorem ret_bool {a b : Bool} (h : a = b) : Ending.returned (.bool a) = .returned (.bool b) := by rw [h]
theorem bounds_i64 {n : Int} (h : (Lit.int .i64 n).wf = true) : -9223372036854775808 ≤ n ∧ n ≤ 9223372036854775807 := by
  simp [Lit.wf, IntKind.min, IntKind.max, IntKind.bits, IntKind.signed] at h; omega
theorem take_next (s : ByteArray) (k : Nat) (h : k < s.size) : s.data.toList.take (k + 1) = s.data.toList.take k ++ [s[k]] := by
  rw [List.take_succ_eq_append_getElem (by simpa using h)]; rfl
theorem take_all (s : ByteArray) (k : Nat) (h : ¬ k < s.size) : s.data.toList.take k = s.data.toList := List.take_of_length_le (by simp; omega)
theorem wrap_i64_in (x : Int) (h0 : -9223372036854775808 ≤ x) (h1 : x ≤ 9223372036854775807) : IntKind.i64.wrap x = x := by
  rw [IntKind.wrap_i64]; omega
theorem bcell {W w1 : World} (hb : Below W.heap.size W w1) : (∀ b o, b < W.heap.size → w1.cell? ⟨b, o, none⟩ = W.cell? ⟨b, o, none⟩) ∧ (∀ b o, b < W.heap.size → w1.frozen? ⟨b, o, none⟩ = W.frozen? ⟨b, o, none⟩) :=
  ⟨fun b o h => hb.cell (p := ⟨b, o, none⟩) h, fun b o h => hb.frozen (p := ⟨b, o, none⟩) h⟩
theorem text_ne {a b : ByteArray} (h : a ≠ b) : (a.toList == b.toList) = false := by
  rw [ByteArray.toList_eq, ByteArray.toList_eq]
  simp only [beq_eq_false_iff_ne, ne_eq]
  intro e
  exact h (ByteArray.ext (Array.toList_inj.1 e))
end Go.Proofs.Ytaledidomgelcaa
/- Powers of two of the model, and its look at limits. -/
namespace Go.Proofs.Ytaledidomgelcaa
open Go.RowKit

theorem wrap64_in (x : Int) (h0 : -9223372036854775808 ≤ x) (h1 : x ≤ 9223372036854775807) : wrap64 x = x := by unfold wrap64; omega
set_option maxRecDepth 100000 in
theorem l03Is_any (n a b : Int) (w : World) :
    Calls Try.prog 38 #[.int .i64 n, .int .i64 a, .int .i64 b] w fun e w' => e = .returned (.bool (decide (a ≤ n ∧ n ≤ b))) ∧ w = w' := by
  by_cases h1 : a ≤ n
  · by_cases h2 : n ≤ b
    · go_enter Try.func38, Try.ntmps38
      go_wp2
      go_ret
      exact ⟨ret_bool (by simp; omega), rfl⟩
    · go_enter Try.func38, Try.ntmps38
      go_wp2
      go_ret
      exact ⟨ret_bool (by simp; omega), rfl⟩
  · go_enter Try.func38, Try.ntmps38
    go_wp2
    go_ret
    exact ⟨ret_bool (by simp; omega), rfl⟩
set_option maxRecDepth 100000 in
theorem l03Pow_any (k : Nat) (w : World) (hk : k ≤ 32) :
    Calls Try.prog 99 #[.int .i64 (k : Int)] w fun e w' => e = .returned (.int .i64 ((2 ^ k : Nat) : Int)) ∧ w = w' := by
  have hb : ∀ j, j ≤ 32 → (2 : Nat) ^ j ≤ 4294967296 := fun j hj => by rw [show (4294967296 : Nat) = 2 ^ 32 from rfl]; exact Nat.pow_le_pow_right (by decide) hj
  have HB : Hid (∀ j, j ≤ 32 → (2 : Nat) ^ j ≤ 4294967296) := hb
  have HS : Hid (∀ j, (2 : Nat) ^ (j + 1) = 2 * 2 ^ j) := fun j => by show _ = _; rw [Nat.pow_succ]; omega
  have H0 : Hid ((2 : Nat) ^ 0 = 1) := rfl
  clear hb
  generalize hP : (fun j : Nat => (2 : Nat) ^ j) = P
  have e : ∀ j : Nat, (2 : Nat) ^ j = P j := fun j => by rw [← hP]
  simp only [e] at HB HS H0 ⊢
  clear e hP
  go_enter Try.func99, Try.ntmps99
  go_wp2_with fail
  go_loop [0, 3] (fun x n => ∃ j : Nat, j ≤ k ∧ x = .int .i64 ((k - j : Nat) : Int) ∧ n = .int .i64 (P j : Int)) (fun x _ => (intOf x).toNat)
  case atStart => exact ⟨0, by omega, rfl, by rw [H0.out]; rfl⟩
  case round =>
    obtain ⟨j, hj, rfl, rfl⟩ := hrel
    by_cases hlt : j < k
    · have hb := HB.out (j + 1) (by omega)
      have hs := HS.out j
      have HSJ : Hid (P (j + 1) = 2 * P j) := hs
      have hb2 : P j ≤ 2147483648 := by omega
      clear hs hb
      go_wp2
      go_round
      case rel => exact ⟨j + 1, by omega, by go_num, by rw [HSJ.out]; go_num⟩
      case measure => simp [intOf]; omega
    · obtain rfl : j = k := by omega
      go_wp2
      go_ret
      exact ⟨rfl, rfl⟩
theorem l03Pow_at (l x : Int) (w : World) (h0 : 0 ≤ l) (h1 : l ≤ 32) (hx : x = 32 - l) :
    Calls Try.prog 99 #[.int .i64 x] w fun e w' => e = .returned (.int .i64 (gap l : Int)) ∧ w = w' := by
  obtain ⟨k, rfl⟩ := Int.eq_ofNat_of_zero_le h0
  have h := l03Pow_any (32 - k) w (by omega)
  rw [show x = ((32 - k : Nat) : Int) by omega]
  exact h
end Go.Proofs.Ytaledidomgelcaa
/- Masks of the program. -/
namespace Go.Proofs.Ytaledidomgelcaa
open Go.RowKit

set_option maxRecDepth 100000 in
theorem implMask_any (l : Int) (w : World) :
    Calls Try.prog 103 #[.int .i64 l] w fun e w' => e = .returned (.int .i64 (maskV l)) ∧ w = w' := by
  by_cases h0 : 0 ≤ l
  · by_cases h1 : l ≤ 32
    · have hd : Hid _ := down_up l h0 h1
      have hr := maskV_range l
      go_enter Try.func103, Try.ntmps103
      go_wp2
      go_ret
      exact ⟨ret_i64 (by rw [hd.out, wrap64_in _ (by omega) (by omega)]), rfl⟩
    · rw [maskV_out l (by omega)]
      go_enter Try.func103, Try.ntmps103
      go_wp2
      go_ret
      exact ⟨rfl, rfl⟩
  · rw [maskV_out l (by omega)]
    go_enter Try.func103, Try.ntmps103
    go_wp2
    go_ret
    exact ⟨rfl, rfl⟩
end Go.Proofs.Ytaledidomgelcaa
/- Is it an address? Asked by the program and by the model. -/
namespace Go.Proofs.Ytaledidomgelcaa
open Go.RowKit

def inAddr (a : Int) : Bool := decide (0 ≤ a ∧ a ≤ 4294967295)
set_option maxRecDepth 100000 in
theorem isAddr_any (a : Int) (w : World) : Calls Try.prog 95 #[.int .i64 a] w fun e w' => e = .returned (.bool (inAddr a)) ∧ w = w' := by
  by_cases h1 : 0 ≤ a
  · by_cases h2 : a ≤ 4294967295
    · go_enter Try.func95, Try.ntmps95
      go_wp2
      go_ret
      exact ⟨ret_bool (by simp [inAddr]; omega), rfl⟩
    · go_enter Try.func95, Try.ntmps95
      go_wp2
      go_ret
      exact ⟨ret_bool (by simp [inAddr]; omega), rfl⟩
  · go_enter Try.func95, Try.ntmps95
    go_wp2
    go_ret
    exact ⟨ret_bool (by simp [inAddr]; omega), rfl⟩
set_option maxRecDepth 100000 in
theorem l03Addr_any (a : Int) (w : World) : Calls Try.prog 75 #[.int .i64 a] w fun e w' => e = .returned (.bool (inAddr a)) ∧ w = w' := by
  have HB : Hid (decide (0 ≤ a ∧ a ≤ 4294967295) = inAddr a) := rfl
  go_enter Try.func75, Try.ntmps75
  go_wp2_with fail
  refine (l03Is_any a 0 4294967295 _).mono ?_
  rintro e w1 ⟨rfl, rfl⟩
  rw [HB.out]
  go_wp2
  go_ret
  exact ⟨rfl, rfl⟩
end Go.Proofs.Ytaledidomgelcaa
/- Nets: made, right, of the program and of the model. -/
namespace Go.Proofs.Ytaledidomgelcaa
open Go.RowKit Go.Sort

theorem quiet_eqA {P : Program} {f : FuncId} {args : Array Value} {w : World} {n : Nat} {v : Value}
    (h : Calls P f args (w.drewN n) fun e w' => e = .returned v ∧ w.drewN n = w') : Calls P f args (w.drewN n) fun e w'' => e = .returned v ∧ ∃ m, w'' = w.drewN m :=
  h.mono fun _ _ ⟨he, hm⟩ => ⟨he, n, hm.symm⟩
theorem cell2_0 (w : World) (x y : Value) (t : TypeId) : (w.alloc (.cells #[x, y] t)).cell? ⟨w.heap.size, 0, none⟩ = some x := by
  rw [cell_of_row _ _ _ _ t _ (heap_alloc_new w _)]; simp
theorem cell2_1 (w : World) (x y : Value) (t : TypeId) : (w.alloc (.cells #[x, y] t)).cell? ⟨w.heap.size, 1, none⟩ = some y := by
  rw [cell_of_row _ _ _ _ t _ (heap_alloc_new w _)]; simp
theorem cell2_later {w w0 w1 : World} {x y : Value} {t : TypeId} (h0 : w0 = w.alloc (.cells #[x, y] t)) (h : Below w0.heap.size w0 w1) : w1.cell? ⟨w.heap.size, 0, none⟩ = some x ∧ w1.cell? ⟨w.heap.size, 1, none⟩ = some y ∧ w.heap.size < w1.heap.size ∧ Below w.heap.size w w1 := by
  subst h0
  refine ⟨?_, ?_, ?_, ?_⟩
  · rw [h.cell (p := ⟨w.heap.size, 0, none⟩) (by simp)]; exact cell2_0 w x y t
  · rw [h.cell (p := ⟨w.heap.size, 1, none⟩) (by simp)]; exact cell2_1 w x y t
  · have := h.size; simp at this; omega
  · exact ((Below.refl _ _).alloc (Nat.le_refl _) _).trans (h.mono (by simp))
theorem cell2_laterH {w w0 w1 : World} {x y : Value} {t : TypeId} (h0 : w0.heap = (w.alloc (.cells #[x, y] t)).heap) (hb : Below w.heap.size w w0) (h : Below w0.heap.size w0 w1) : w1.cell? ⟨w.heap.size, 0, none⟩ = some x ∧ w1.cell? ⟨w.heap.size, 1, none⟩ = some y ∧ w.heap.size < w1.heap.size ∧ Below w.heap.size w w1 := by
  have hz : w0.heap.size = w.heap.size + 1 := by rw [h0]; simp
  have hr : w0.heap[w.heap.size]? = some (.cells #[x, y] t) := by rw [h0]; exact heap_alloc_new w _
  refine ⟨?_, ?_, ?_, ?_⟩
  · rw [h.cell (p := ⟨w.heap.size, 0, none⟩) (by simp [hz]), cell_of_row _ _ _ _ t _ hr]; simp
  · rw [h.cell (p := ⟨w.heap.size, 1, none⟩) (by simp [hz]), cell_of_row _ _ _ _ t _ hr]; simp
  · have := h.size; omega
  · exact hb.trans (h.mono (by omega))
def netV (a l : Int) : Value := .agg #[.int .i64 a, .int .i64 l]
def inLen (l : Int) : Bool := decide (0 ≤ l ∧ l ≤ 32)
def netA (a l : Int) : Int := if 0 ≤ a ∧ a ≤ 4294967295 ∧ 0 ≤ l ∧ l ≤ 32 then cutV a l else 0
def netN (a l : Int) : Int := if 0 ≤ a ∧ a ≤ 4294967295 ∧ 0 ≤ l ∧ l ≤ 32 then l else 0
def rightB (a l : Int) : Bool := decide (0 ≤ a ∧ a ≤ 4294967295 ∧ 0 ≤ l ∧ l ≤ 32 ∧ cutV a l = a)
theorem netA_in {a l : Int} (h : 0 ≤ a ∧ a ≤ 4294967295 ∧ 0 ≤ l ∧ l ≤ 32) : netA a l = cutV a l := if_pos h
theorem netN_in {a l : Int} (h : 0 ≤ a ∧ a ≤ 4294967295 ∧ 0 ≤ l ∧ l ≤ 32) : netN a l = l := if_pos h
theorem netA_out {a l : Int} (h : ¬ (0 ≤ a ∧ a ≤ 4294967295 ∧ 0 ≤ l ∧ l ≤ 32)) : netA a l = 0 := if_neg h
theorem netN_out {a l : Int} (h : ¬ (0 ≤ a ∧ a ≤ 4294967295 ∧ 0 ≤ l ∧ l ≤ 32)) : netN a l = 0 := if_neg h
/-- A net is what is made of its address and its length just where it is right. -/
theorem right_iff (a l : Int) : rightB a l = (netA a l == a && netN a l == l) := by
  unfold rightB
  by_cases h : 0 ≤ a ∧ a ≤ 4294967295 ∧ 0 ≤ l ∧ l ≤ 32
  · rw [netA_in h, netN_in h]
    by_cases hc : cutV a l = a
    · simp [h, hc]
    · simp [hc]
  · rw [netA_out h, netN_out h]
    have h2 : ¬ (0 ≤ a ∧ a ≤ 4294967295 ∧ 0 ≤ l ∧ l ≤ 32 ∧ cutV a l = a) := fun e => h ⟨e.1, e.2.1, e.2.2.1, e.2.2.2.1⟩
    rw [decide_eq_false h2]
    symm
    by_cases ha : a = 0
    · subst ha
      have : ¬ (0 : Int) = l := by omega
      simp [this]
    · have : ¬ (0 : Int) = a := fun e => ha e.symm
      simp [this]
set_option maxRecDepth 100000 in
theorem l03Cut_any (a l : Int) (w : World) (h0 : 0 ≤ a) (h1 : a ≤ 4294967295) (hl0 : 0 ≤ l) (hl1 : l ≤ 32) :
    Calls Try.prog 76 #[.int .i64 a, .int .i64 l] w fun e w' => e = .returned (.int .i64 (cutV a l)) ∧ w = w' := by
  have HC : Hid (∀ w, Calls Try.prog 99 #[.int .i64 (32 - l)] w fun e w' => e = .returned (.int .i64 (gap l : Int)) ∧ w = w') := fun w => l03Pow_at l (32 - l) w hl0 hl1 rfl
  have hg1 := gap_pos l
  have hg2 := gap_le l
  have hcl := cutV_le a l h0
  have HV : Hid (cutV a l = a / (gap l : Int) * (gap l : Int)) := rfl
  have hgz : (((gap l : Nat) : Int) == 0) = false := by simp; omega
  have ht : a.tdiv (gap l : Int) = a / (gap l : Int) := Int.tdiv_eq_ediv_of_nonneg h0
  have hq0 : 0 ≤ a / (gap l : Int) := Int.ediv_nonneg h0 (by omega)
  have hq1 : a / (gap l : Int) ≤ a := Int.ediv_le_self _ h0
  have HT : Hid _ := ht
  generalize gap l = G at *
  generalize cutV a l = C at *
  go_enter Try.func76, Try.ntmps76
  go_wp2_with fail
  refine (HC.out _).mono ?_
  rintro e w1 ⟨rfl, rfl⟩
  go_wp2
  go_ret
  exact ⟨ret_i64 (by rw [← HV.out, wrap64_in _ (by omega) (by omega)]), rfl⟩
theorem isLen_dec (l : Int) : inLen l = decide (0 ≤ l ∧ l ≤ 32) := rfl
set_option maxRecDepth 100000 in
theorem isLen_any (a : Int) (w : World) : Calls Try.prog 102 #[.int .i64 a] w fun e w' => e = .returned (.bool (inLen a)) ∧ w = w' := by
  by_cases h1 : 0 ≤ a
  · by_cases h2 : a ≤ 32
    · go_enter Try.func102, Try.ntmps102
      go_wp2
      go_ret
      exact ⟨ret_bool (by simp [inLen]; omega), rfl⟩
    · go_enter Try.func102, Try.ntmps102
      go_wp2
      go_ret
      exact ⟨ret_bool (by simp [inLen]; omega), rfl⟩
  · go_enter Try.func102, Try.ntmps102
    go_wp2
    go_ret
    exact ⟨ret_bool (by simp [inLen]; omega), rfl⟩
set_option maxRecDepth 100000 in
theorem implNetOf_at (a l : Int) (w : World) : Calls Try.prog 81 #[.int .i64 a, .int .i64 l] w fun e w' => e = .returned (netV (netA a l) (netN a l)) ∧ w.alloc (.cells #[.int .i64 (netA a l), .int .i64 (netN a l)] 35) = w' := by
  have HI : Hid (∀ w, Calls Try.prog 95 #[.int .i64 a] w fun e w' => e = .returned (.bool (inAddr a)) ∧ w = w') := isAddr_any a
  have HJ : Hid (∀ w, Calls Try.prog 102 #[.int .i64 l] w fun e w' => e = .returned (.bool (inLen l)) ∧ w = w') := isLen_any l
  have HM : Hid (∀ w, Calls Try.prog 103 #[.int .i64 l] w fun e w' => e = .returned (.int .i64 (maskV l)) ∧ w = w') := implMask_any l
  by_cases h : 0 ≤ a ∧ a ≤ 4294967295 ∧ 0 ≤ l ∧ l ≤ 32
  · have HA : Hid _ := and_mask a l h.1 h.2.1 h.2.2.1 h.2.2.2
    rw [netA_in h, netN_in h]
    have ha : inAddr a = true := by simp [inAddr]; omega
    have hl : inLen l = true := by simp [inLen]; omega
    rw [ha] at HI
    rw [hl] at HJ
    clear ha hl h
    generalize maskV l = M at *
    generalize cutV a l = C at *
    unfold netV
    go_enter Try.func81, Try.ntmps81
    go_wp2_with fail
    refine (HI.out _).mono ?_
    rintro e w1 ⟨rfl, rfl⟩
    go_wp2_with fail
    refine (HJ.out _).mono ?_
    rintro e w1 ⟨rfl, rfl⟩
    go_wp2_with fail
    refine (HM.out _).mono ?_
    rintro e w1 ⟨rfl, rfl⟩
    go_wp2
    refine bodyPost_ret (v := .agg #[.int .i64 C, .int .i64 l]) (by rw [← HA.out]; simp [results, Try.results81, go_sem]) rfl ⟨rfl, by rw [← HA.out]⟩
  · rw [netA_out h, netN_out h]
    unfold netV
    by_cases ha : 0 ≤ a ∧ a ≤ 4294967295
    · have hl : inLen l = false := by simp [inLen]; omega
      have ha' : inAddr a = true := by simp [inAddr]; omega
      rw [ha'] at HI
      rw [hl] at HJ
      clear ha hl h HM ha'
      go_enter Try.func81, Try.ntmps81
      go_wp2_with fail
      refine (HI.out _).mono ?_
      rintro e w1 ⟨rfl, rfl⟩
      go_wp2_with fail
      refine (HJ.out _).mono ?_
      rintro e w1 ⟨rfl, rfl⟩
      go_wp2
      refine bodyPost_ret (v := .agg #[.int .i64 0, .int .i64 0]) (by simp [results, Try.results81, go_sem]) rfl ⟨rfl, rfl⟩
    · have ha' : inAddr a = false := by simp [inAddr]; omega
      rw [ha'] at HI
      clear ha h HM ha' HJ
      go_enter Try.func81, Try.ntmps81
      go_wp2_with fail
      refine (HI.out _).mono ?_
      rintro e w1 ⟨rfl, rfl⟩
      go_wp2
      refine bodyPost_ret (v := .agg #[.int .i64 0, .int .i64 0]) (by simp [results, Try.results81, go_sem]) rfl ⟨rfl, rfl⟩
theorem implNetOf_any (a l : Int) (w : World) : Calls Try.prog 81 #[.int .i64 a, .int .i64 l] w fun e w' => e = .returned (netV (netA a l) (netN a l)) ∧ Below w.heap.size w w' :=
  (implNetOf_at a l w).mono fun _ _ ⟨he, hw⟩ => ⟨he, hw ▸ (Below.refl _ _).alloc (Nat.le_refl _) _⟩
set_option maxRecDepth 100000 in
theorem implRight_any (a l : Int) (w : World) : Calls Try.prog 43 #[netV a l] w fun e w' => e = .returned (.bool (rightB a l)) ∧ Below w.heap.size w w' := by
  have HR : Hid _ := right_iff a l
  have HN : Hid (∀ w, Calls Try.prog 81 #[.int .i64 a, .int .i64 l] w fun e w' => e = .returned (netV (netA a l) (netN a l)) ∧ Below w.heap.size w w') := implNetOf_any a l
  generalize rightB a l = R at *
  generalize netA a l = A at *
  generalize netN a l = N at *
  unfold netV at *
  obtain ⟨b1, e1⟩ : ∃ b, (A == a) = b := ⟨_, rfl⟩
  obtain ⟨b2, e2⟩ : ∃ b, (N == l) = b := ⟨_, rfl⟩
  rw [e1, e2] at HR
  have cN : ∀ d os, Calls Try.prog 81 #[.int .i64 a, .int .i64 l] (grow (redrawn (w.alloc (.cells #[.int .i64 a, .int .i64 l] 35)) d) os) fun e w'' => e = .returned (.agg #[.int .i64 A, .int .i64 N]) ∧ ∃ p : Regrown, w'' = grow (redrawn (w.alloc (.cells #[.int .i64 a, .int .i64 l] 35)) p.d) p.os := fun d os => Calls.regrown_of (HN.out _)
  have HC : Hid _ := cN
  clear cN
  have k0 := cell_regrown (cell2_0 w (.int .i64 a) (.int .i64 l) 35)
  have k1 := cell_regrown (cell2_1 w (.int .i64 a) (.int .i64 l) 35)
  cases b1 <;> cases b2
  all_goals
    go_enter Try.func43, Try.ntmps43
    go_wp2_with fail
    refine wp_region_quiet_below (by kernel_rfl) (by kernel_rfl) ?_
    repeat (go_big_quiet_step (exact HC.out _ _))
    refine wpQuiet_nil ?_
    intro _ hw'
    obtain ⟨⟨dq, osq⟩, hw''⟩ := hw'
    subst hw''
    go_wp2
    go_ret
    exact ⟨ret_bool (by rw [HR.out]; rfl), ((Below.refl _ _).alloc (Nat.le_refl _) _).trans ((below_regrown _ dq osq).mono (by simp))⟩
set_option maxRecDepth 100000 in
theorem specRight_any (a l : Int) (w : World) : Calls Try.prog 37 #[netV a l] w fun e w' => e = .returned (.bool (rightB a l)) ∧ Below w.heap.size w w' := by
  have HI : Hid (∀ w, Calls Try.prog 75 #[.int .i64 a] w fun e w' => e = .returned (.bool (inAddr a)) ∧ w = w') := l03Addr_any a
  have HJ : Hid (∀ w, Calls Try.prog 38 #[.int .i64 l, .int .i64 0, .int .i64 32] w fun e w' => e = .returned (.bool (inLen l)) ∧ w = w') := l03Is_any l 0 32
  unfold netV
  by_cases ha : 0 ≤ a ∧ a ≤ 4294967295
  · have ha' : inAddr a = true := by simp [inAddr]; omega
    rw [ha'] at HI
    by_cases hl : 0 ≤ l ∧ l ≤ 32
    · have hl' : inLen l = true := by simp [inLen]; omega
      rw [hl'] at HJ
      have HM : Hid (∀ w, Calls Try.prog 76 #[.int .i64 a, .int .i64 l] w fun e w' => e = .returned (.int .i64 (cutV a l)) ∧ w = w') := fun w => l03Cut_any a l w ha.1 ha.2 hl.1 hl.2
      have HR : Hid ((cutV a l == a) = rightB a l) := by
        show _ = _
        unfold rightB
        by_cases hc : cutV a l = a
        · simp [hc]; omega
        · simp [hc]
      clear ha hl ha' hl'
      generalize rightB a l = R at *
      generalize cutV a l = C at *
      go_enter Try.func37, Try.ntmps37
      go_wp2_with fail
      go_quiet ((first | (go_at_call 75; exact quiet_eqA (HI.out _)) | (go_at_call 38; exact quiet_eqA (HJ.out _)) | (go_at_call 76; exact quiet_eqA (HM.out _))))
      go_wp2
      go_ret
      exact ⟨ret_bool HR.out, below_drewN ((Below.refl _ _).alloc (Nat.le_refl _) _) _⟩
    · have hl' : inLen l = false := by simp [inLen]; omega
      rw [hl'] at HJ
      have HR : Hid (rightB a l = false) := by show _ = _; simp [rightB]; omega
      clear ha hl ha' hl'
      generalize rightB a l = R at *
      go_enter Try.func37, Try.ntmps37
      go_wp2_with fail
      go_quiet ((first | (go_at_call 75; exact quiet_eqA (HI.out _)) | (go_at_call 38; exact quiet_eqA (HJ.out _))))
      go_wp2
      go_ret
      exact ⟨ret_bool HR.out.symm, below_drewN ((Below.refl _ _).alloc (Nat.le_refl _) _) _⟩
  · have ha' : inAddr a = false := by simp [inAddr]; omega
    rw [ha'] at HI
    have HR : Hid (rightB a l = false) := by show _ = _; simp [rightB]; omega
    clear ha ha' HJ
    generalize rightB a l = R at *
    go_enter Try.func37, Try.ntmps37
    go_wp2_with fail
    go_quiet ((go_at_call 75; exact quiet_eqA (HI.out _)))
    go_wp2
    go_ret
    exact ⟨ret_bool HR.out.symm, below_drewN ((Below.refl _ _).alloc (Nat.le_refl _) _) _⟩
end Go.Proofs.Ytaledidomgelcaa
/- Is an entry right? Asked by the program. -/
namespace Go.Proofs.Ytaledidomgelcaa
open Go.RowKit Go.Sort

/-- An entry: its net (a, l), the next one n, its metric m, its tag t. -/
structure Ent where
  a : Int
  l : Int
  n : Int
  m : Int
  t : Int
instance : Inhabited Ent := ⟨⟨0, 0, 0, 0, 0⟩⟩
def entL (e : Ent) : List Value := [.int .i64 e.a, .int .i64 e.l, .int .i64 e.n, .int .i64 e.m, .int .i64 e.t]
def entV (e : Ent) : Value := .agg #[.int .i64 e.a, .int .i64 e.l, .int .i64 e.n, .int .i64 e.m, .int .i64 e.t]
def inMet (m : Int) : Bool := decide (1 ≤ m ∧ m ≤ 16)
def inTag (m : Int) : Bool := decide (0 ≤ m ∧ m ≤ 65535)
def entB (e : Ent) : Bool := rightB e.a e.l && inAddr e.n && inMet e.m && inTag e.t
theorem ent_new0 (w : World) (o : Obj) : Below w.heap.size w (w.alloc o) := (Below.refl _ _).alloc (Nat.le_refl _) _
set_option maxRecDepth 100000 in
theorem isWordE_any (a : Int) (w : World) : Calls Try.prog 105 #[.int .i64 a] w fun e w' => e = .returned (.bool (inTag a)) ∧ w = w' := by
  by_cases h1 : 0 ≤ a
  · by_cases h2 : a ≤ 65535
    · go_enter Try.func105, Try.ntmps105
      go_wp2
      go_ret
      exact ⟨ret_bool (by simp [inTag]; omega), rfl⟩
    · go_enter Try.func105, Try.ntmps105
      go_wp2
      go_ret
      exact ⟨ret_bool (by simp [inTag]; omega), rfl⟩
  · go_enter Try.func105, Try.ntmps105
    go_wp2
    go_ret
    exact ⟨ret_bool (by simp [inTag]; omega), rfl⟩
/-- Five cells that a call has laid: what they hold behind a later one. -/
theorem box5 {w w1 : World} {x0 x1 x2 x3 x4 : Value} {t : TypeId} (h : Below (w.alloc (.cells #[x0, x1, x2, x3, x4] t)).heap.size (w.alloc (.cells #[x0, x1, x2, x3, x4] t)) w1) :
    w1.cell? ⟨w.heap.size, 0, none⟩ = some x0 ∧ w1.cell? ⟨w.heap.size, 1, none⟩ = some x1 ∧ w1.cell? ⟨w.heap.size, 2, none⟩ = some x2 ∧ w1.cell? ⟨w.heap.size, 3, none⟩ = some x3 ∧ w1.cell? ⟨w.heap.size, 4, none⟩ = some x4 ∧ Below w.heap.size w w1 := by
  have hlt : w.heap.size < (w.alloc (.cells #[x0, x1, x2, x3, x4] t)).heap.size := by simp
  have hz : ∀ k, (w.alloc (.cells #[x0, x1, x2, x3, x4] t)).cell? ⟨w.heap.size, k, none⟩ = #[x0, x1, x2, x3, x4][k]? := fun k => cell_of_row _ _ k _ t _ (heap_alloc_new w _)
  refine ⟨?_, ?_, ?_, ?_, ?_, (ent_new0 w _).trans (h.mono (by simp))⟩ <;> (rw [h.cell (p := ⟨w.heap.size, _, none⟩) hlt, hz]; rfl)
set_option maxRecDepth 100000 in
theorem implEntryRight_any (e : Ent) (w : World) : Calls Try.prog 87 #[entV e] w fun r w' => r = .returned (.bool (entB e)) ∧ Below w.heap.size w w' := by
  obtain ⟨a, l, n, m, t⟩ := e
  unfold entV entB
  have HR : Hid (∀ w, Calls Try.prog 43 #[.agg #[.int .i64 a, .int .i64 l]] w fun e w' => e = .returned (.bool (rightB a l)) ∧ Below w.heap.size w w') := implRight_any a l
  have HA : Hid (∀ w, Calls Try.prog 95 #[.int .i64 n] w fun e w' => e = .returned (.bool (inAddr n)) ∧ w = w') := isAddr_any n
  have HW : Hid (∀ w, Calls Try.prog 105 #[.int .i64 t] w fun e w' => e = .returned (.bool (inTag t)) ∧ w = w') := isWordE_any t
  have HM : Hid (inMet m = (decide (1 ≤ m) && decide (m ≤ 16))) := by show _ = _; simp [inMet, Bool.decide_and]
  generalize rightB a l = R at *
  generalize inAddr n = N at *
  generalize inTag t = T at *
  rw [HM.out]
  clear HM
  go_enter Try.func87, Try.ntmps87
  go_wp2_with fail
  refine (HR.out _).mono ?_
  rintro e w1 ⟨rfl, hb1⟩
  obtain ⟨c0, c1, c2, c3, c4, hB⟩ := box5 hb1
  clear hb1 HR
  cases R
  · go_wp2
    go_ret
    exact ⟨rfl, hB⟩
  · go_wp2_with fail
    refine (HA.out _).mono ?_
    rintro e w2 ⟨rfl, rfl⟩
    cases N
    · go_wp2
      go_ret
      exact ⟨rfl, hB⟩
    · by_cases h1 : 1 ≤ m
      · by_cases h2 : m ≤ 16
        · go_wp2_with fail
          refine (HW.out _).mono ?_
          rintro e w2 ⟨rfl, rfl⟩
          go_wp2
          go_ret
          exact ⟨ret_bool (by simp [h1, h2]), hB⟩
        · go_wp2
          go_ret
          exact ⟨ret_bool (by simp; omega), hB⟩
      · go_wp2
        go_ret
        exact ⟨ret_bool (by simp; omega), hB⟩
end Go.Proofs.Ytaledidomgelcaa
/- Times, of the program and of the model. -/
namespace Go.Proofs.Ytaledidomgelcaa
open Go.RowKit

def inTime (n : Int) : Bool := decide (0 ≤ n ∧ n ≤ 1000000)
set_option maxRecDepth 100000 in
theorem isTime_any (a : Int) (w : World) : Calls Try.prog 100 #[.int .i64 a] w fun e w' => e = .returned (.bool (inTime a)) ∧ w = w' := by
  by_cases h1 : 0 ≤ a
  · by_cases h2 : a ≤ 1000000
    · go_enter Try.func100, Try.ntmps100
      go_wp2
      go_ret
      exact ⟨ret_bool (by simp [inTime]; omega), rfl⟩
    · go_enter Try.func100, Try.ntmps100
      go_wp2
      go_ret
      exact ⟨ret_bool (by simp [inTime]; omega), rfl⟩
  · go_enter Try.func100, Try.ntmps100
    go_wp2
    go_ret
    exact ⟨ret_bool (by simp [inTime]; omega), rfl⟩
set_option maxRecDepth 100000 in
theorem l03Time_any (a : Int) (w : World) : Calls Try.prog 98 #[.int .i64 a] w fun e w' => e = .returned (.bool (inTime a)) ∧ w = w' := by
  have HT : Hid (∀ w, Calls Try.prog 38 #[.int .i64 a, .int .i64 0, .int .i64 1000000] w fun e w' => e = .returned (.bool (inTime a)) ∧ w = w') := l03Is_any a 0 1000000
  generalize inTime a = T at *
  go_enter Try.func98, Try.ntmps98
  go_wp2_with fail
  refine (HT.out _).mono ?_
  rintro e w1 ⟨rfl, rfl⟩
  go_wp2
  go_ret
  exact ⟨rfl, rfl⟩
end Go.Proofs.Ytaledidomgelcaa
/- Is a route right? Asked by the program and by the model. -/
namespace Go.Proofs.Ytaledidomgelcaa
open Go.RowKit Go.Sort

/-- A route: its net (a, l), its metric m, the next one n, its iface i, its tag t, its times u (Until) and b (Bin), its mark c. -/
structure Rt where
  a : Int
  l : Int
  m : Int
  n : Int
  i : Int
  t : Int
  u : Int
  b : Int
  c : Bool
instance : Inhabited Rt := ⟨⟨0, 0, 0, 0, 0, 0, 0, 0, false⟩⟩
def rtA (r : Rt) : Array Value := #[.int .i64 r.a, .int .i64 r.l, .int .i64 r.m, .int .i64 r.n, .int .i64 r.i, .int .i64 r.t, .int .i64 r.u, .int .i64 r.b, .bool r.c]
def rtV (r : Rt) : Value := .agg (rtA r)
def inIf (i : Int) : Bool := decide (0 ≤ i ∧ i ≤ 3)
def rtE (r : Rt) : Ent := ⟨r.a, r.l, r.n, r.m, r.t⟩
def saidB (r : Rt) : Bool := entB (rtE r) && inIf r.i
def timesB (r : Rt) : Bool := if r.n = 0 then decide (r.u = 0) && decide (r.b = 0) else if r.m < 16 then decide (0 < r.u) && decide (r.b = 0) else decide (r.u = 0) && decide (0 < r.b)
def routeB (r : Rt) : Bool := saidB r && !(decide (r.n = 0) && decide (r.m = 16)) && (inTime r.u && inTime r.b && timesB r)
theorem entV_rt (r : Rt) : entV (rtE r) = .agg #[.int .i64 r.a, .int .i64 r.l, .int .i64 r.n, .int .i64 r.m, .int .i64 r.t] := rfl
/-- Nine cells that a call has laid: what they hold behind a later one. -/
theorem box9 {w w1 : World} {x0 x1 x2 x3 x4 x5 x6 x7 x8 : Value} {t : TypeId} (h : Below (w.alloc (.cells #[x0, x1, x2, x3, x4, x5, x6, x7, x8] t)).heap.size (w.alloc (.cells #[x0, x1, x2, x3, x4, x5, x6, x7, x8] t)) w1) :
    w1.cell? ⟨w.heap.size, 0, none⟩ = some x0 ∧ w1.cell? ⟨w.heap.size, 1, none⟩ = some x1 ∧ w1.cell? ⟨w.heap.size, 2, none⟩ = some x2 ∧ w1.cell? ⟨w.heap.size, 3, none⟩ = some x3 ∧ w1.cell? ⟨w.heap.size, 4, none⟩ = some x4 ∧ w1.cell? ⟨w.heap.size, 5, none⟩ = some x5 ∧ w1.cell? ⟨w.heap.size, 6, none⟩ = some x6 ∧ w1.cell? ⟨w.heap.size, 7, none⟩ = some x7 ∧ w1.cell? ⟨w.heap.size, 8, none⟩ = some x8 ∧ Below w.heap.size w w1 := by
  have hlt : w.heap.size < (w.alloc (.cells #[x0, x1, x2, x3, x4, x5, x6, x7, x8] t)).heap.size := by simp
  have hz : ∀ k, (w.alloc (.cells #[x0, x1, x2, x3, x4, x5, x6, x7, x8] t)).cell? ⟨w.heap.size, k, none⟩ = #[x0, x1, x2, x3, x4, x5, x6, x7, x8][k]? := fun k => cell_of_row _ _ k _ t _ (heap_alloc_new w _)
  refine ⟨?_, ?_, ?_, ?_, ?_, ?_, ?_, ?_, ?_, (ent_new0 w _).trans (h.mono (by simp))⟩ <;> (rw [h.cell (p := ⟨w.heap.size, _, none⟩) hlt, hz]; rfl)
theorem inIf_dec (i : Int) : inIf i = (decide (0 ≤ i) && decide (i ≤ 3)) := by simp [inIf, Bool.decide_and]
set_option maxRecDepth 100000 in
theorem isIface_any (a : Int) (w : World) : Calls Try.prog 44 #[.int .i64 a] w fun e w' => e = .returned (.bool (inIf a)) ∧ w = w' := by
  by_cases h1 : 0 ≤ a
  · by_cases h2 : a ≤ 3
    · go_enter Try.func44, Try.ntmps44
      go_wp2
      go_ret
      exact ⟨ret_bool (by simp [inIf]; omega), rfl⟩
    · go_enter Try.func44, Try.ntmps44
      go_wp2
      go_ret
      exact ⟨ret_bool (by simp [inIf]; omega), rfl⟩
  · go_enter Try.func44, Try.ntmps44
    go_wp2
    go_ret
    exact ⟨ret_bool (by simp [inIf]; omega), rfl⟩
theorem rt_new (w : World) (r : Rt) (t : TypeId) : Below w.heap.size w (w.alloc (.cells (rtA r) t)) := ent_new0 w _
set_option maxRecDepth 100000 in
theorem isOwn_any (r : Rt) (w : World) : Calls Try.prog 52 #[rtV r] w fun e w' => e = .returned (.bool (decide (r.n = 0))) ∧ Below w.heap.size w w' := by
  obtain ⟨a, l, m, n, i, t, u, b, c⟩ := r
  unfold rtV rtA
  have hb := ent_new0 w (.cells #[.int .i64 a, .int .i64 l, .int .i64 m, .int .i64 n, .int .i64 i, .int .i64 t, .int .i64 u, .int .i64 b, .bool c] 46)
  obtain ⟨c0, c1, c2, c3, c4, c5, c6, c7, c8, hB⟩ := box9 (Below.refl _ (w.alloc (.cells #[.int .i64 a, .int .i64 l, .int .i64 m, .int .i64 n, .int .i64 i, .int .i64 t, .int .i64 u, .int .i64 b, .bool c] 46)))
  go_enter Try.func52, Try.ntmps52
  go_wp2
  go_ret
  exact ⟨ret_bool (by rw [Bool.eq_iff_iff]; simp), hb⟩
set_option maxRecDepth 100000 in
theorem saidRight_any (r : Rt) (w : World) : Calls Try.prog 51 #[rtV r] w fun e w' => e = .returned (.bool (saidB r)) ∧ Below w.heap.size w w' := by
  obtain ⟨a, l, m, n, i, t, u, b, c⟩ := r
  have HE : Hid (∀ w, Calls Try.prog 87 #[.agg #[.int .i64 a, .int .i64 l, .int .i64 n, .int .i64 m, .int .i64 t]] w fun e w' => e = .returned (.bool (entB ⟨a, l, n, m, t⟩)) ∧ Below w.heap.size w w') := implEntryRight_any ⟨a, l, n, m, t⟩
  have HI : Hid (∀ w, Calls Try.prog 44 #[.int .i64 i] w fun e w' => e = .returned (.bool (inIf i)) ∧ w = w') := isIface_any i
  have HS : Hid (saidB ⟨a, l, m, n, i, t, u, b, c⟩ = (entB ⟨a, l, n, m, t⟩ && inIf i)) := rfl
  rw [HS.out]
  clear HS
  unfold rtV rtA
  generalize entB ⟨a, l, n, m, t⟩ = E at *
  generalize inIf i = I at *
  obtain ⟨d0, d1, d2, d3, d4, d5, d6, d7, d8, -⟩ := box9 (Below.refl _ (w.alloc (.cells #[.int .i64 a, .int .i64 l, .int .i64 m, .int .i64 n, .int .i64 i, .int .i64 t, .int .i64 u, .int .i64 b, .bool c] 46)))
  go_enter Try.func51, Try.ntmps51
  go_wp2_with fail
  refine (HE.out _).mono ?_
  rintro e w1 ⟨rfl, hb1⟩
  obtain ⟨c0, c1, c2, c3, c4, c5, c6, c7, c8, hB⟩ := box9 hb1
  clear hb1 HE d0 d1 d2 d3 d4 d5 d6 d7 d8
  cases E
  · go_wp2
    go_ret
    exact ⟨rfl, hB⟩
  · go_wp2_with fail
    refine (HI.out _).mono ?_
    rintro e w2 ⟨rfl, rfl⟩
    go_wp2
    go_ret
    exact ⟨rfl, hB⟩
set_option maxRecDepth 100000 in
theorem timesRight_any (r : Rt) (w : World) : Calls Try.prog 101 #[rtV r] w fun e w' => e = .returned (.bool (timesB r)) ∧ Below w.heap.size w w' := by
  obtain ⟨a, l, m, n, i, t, u, b, c⟩ := r
  have HO : Hid (∀ w, Calls Try.prog 52 #[.agg #[.int .i64 a, .int .i64 l, .int .i64 m, .int .i64 n, .int .i64 i, .int .i64 t, .int .i64 u, .int .i64 b, .bool c]] w fun e w' => e = .returned (.bool (decide (n = 0))) ∧ Below w.heap.size w w') := isOwn_any ⟨a, l, m, n, i, t, u, b, c⟩
  have HT : Hid (timesB ⟨a, l, m, n, i, t, u, b, c⟩ = if n = 0 then decide (u = 0) && decide (b = 0) else if m < 16 then decide (0 < u) && decide (b = 0) else decide (u = 0) && decide (0 < b)) := rfl
  rw [HT.out]
  clear HT
  unfold rtV rtA
  obtain ⟨d0, d1, d2, d3, d4, d5, d6, d7, d8, -⟩ := box9 (Below.refl _ (w.alloc (.cells #[.int .i64 a, .int .i64 l, .int .i64 m, .int .i64 n, .int .i64 i, .int .i64 t, .int .i64 u, .int .i64 b, .bool c] 46)))
  go_enter Try.func101, Try.ntmps101
  go_wp2_with fail
  refine (HO.out _).mono ?_
  rintro e w1 ⟨rfl, hb1⟩
  obtain ⟨c0, c1, c2, c3, c4, c5, c6, c7, c8, hB⟩ := box9 hb1
  clear hb1 HO d0 d1 d2 d3 d4 d5 d6 d7 d8
  by_cases hn : n = 0
  · have dn : decide (n = 0) = true := decide_eq_true hn
    rw [dn]
    by_cases hu : u = 0
    · have eu : (u == 0) = true := by simpa using hu
      go_wp2
      go_ret
      exact ⟨ret_bool (by first | rfl | (rw [Bool.eq_iff_iff]; simp; done) | (simp; omega)), hB⟩
    · have eu : (u == 0) = false := by simpa using hu
      go_wp2
      go_ret
      exact ⟨ret_bool (by first | rfl | (rw [Bool.eq_iff_iff]; simp; done) | (simp; omega)), hB⟩
  · have dn : decide (n = 0) = false := decide_eq_false hn
    rw [dn]
    by_cases hm : m < 16
    · by_cases hu : 0 < u
      · go_wp2
        go_ret
        exact ⟨ret_bool (by first | rfl | (rw [Bool.eq_iff_iff]; simp; done) | (simp; omega)), hB⟩
      · go_wp2
        go_ret
        exact ⟨ret_bool (by first | rfl | (rw [Bool.eq_iff_iff]; simp; done) | (simp; omega)), hB⟩
    · by_cases hu : u = 0
      · have eu : (u == 0) = true := by simpa using hu
        go_wp2
        go_ret
        exact ⟨ret_bool (by first | rfl | (rw [Bool.eq_iff_iff]; simp; done) | (simp; omega)), hB⟩
      · have eu : (u == 0) = false := by simpa using hu
        go_wp2
        go_ret
        exact ⟨ret_bool (by first | rfl | (rw [Bool.eq_iff_iff]; simp; done) | (simp; omega)), hB⟩
set_option maxRecDepth 100000 in
theorem implRoute_any (r : Rt) (w : World) : Calls Try.prog 79 #[rtV r] w fun e w' => e = .returned (.bool (routeB r)) ∧ Below w.heap.size w w' := by
  obtain ⟨a, l, m, n, i, t, u, b, c⟩ := r
  have HS : Hid (∀ w, Calls Try.prog 51 #[.agg #[.int .i64 a, .int .i64 l, .int .i64 m, .int .i64 n, .int .i64 i, .int .i64 t, .int .i64 u, .int .i64 b, .bool c]] w fun e w' => e = .returned (.bool (saidB ⟨a, l, m, n, i, t, u, b, c⟩)) ∧ Below w.heap.size w w') := saidRight_any ⟨a, l, m, n, i, t, u, b, c⟩
  have HO : Hid (∀ w, Calls Try.prog 52 #[.agg #[.int .i64 a, .int .i64 l, .int .i64 m, .int .i64 n, .int .i64 i, .int .i64 t, .int .i64 u, .int .i64 b, .bool c]] w fun e w' => e = .returned (.bool (decide (n = 0))) ∧ Below w.heap.size w w') := isOwn_any ⟨a, l, m, n, i, t, u, b, c⟩
  have HT : Hid (∀ w, Calls Try.prog 101 #[.agg #[.int .i64 a, .int .i64 l, .int .i64 m, .int .i64 n, .int .i64 i, .int .i64 t, .int .i64 u, .int .i64 b, .bool c]] w fun e w' => e = .returned (.bool (timesB ⟨a, l, m, n, i, t, u, b, c⟩)) ∧ Below w.heap.size w w') := timesRight_any ⟨a, l, m, n, i, t, u, b, c⟩
  have HU : Hid (∀ w, Calls Try.prog 100 #[.int .i64 u] w fun e w' => e = .returned (.bool (inTime u)) ∧ w = w') := isTime_any u
  have HB : Hid (∀ w, Calls Try.prog 100 #[.int .i64 b] w fun e w' => e = .returned (.bool (inTime b)) ∧ w = w') := isTime_any b
  have HE : Hid (routeB ⟨a, l, m, n, i, t, u, b, c⟩ = (saidB ⟨a, l, m, n, i, t, u, b, c⟩ && !(decide (n = 0) && decide (m = 16)) && (inTime u && inTime b && timesB ⟨a, l, m, n, i, t, u, b, c⟩))) := rfl
  rw [HE.out]
  clear HE
  unfold rtV rtA
  generalize saidB ⟨a, l, m, n, i, t, u, b, c⟩ = S at *
  generalize timesB ⟨a, l, m, n, i, t, u, b, c⟩ = T at *
  generalize inTime u = U at *
  generalize inTime b = B at *
  generalize decide (n = 0) = N at *
  obtain ⟨d0, d1, d2, d3, d4, d5, d6, d7, d8, -⟩ := box9 (Below.refl _ (w.alloc (.cells #[.int .i64 a, .int .i64 l, .int .i64 m, .int .i64 n, .int .i64 i, .int .i64 t, .int .i64 u, .int .i64 b, .bool c] 46)))
  go_enter Try.func79, Try.ntmps79
  go_wp2_with fail
  refine (HS.out _).mono ?_
  rintro e w1 ⟨rfl, hb1⟩
  obtain ⟨c0, c1, c2, c3, c4, c5, c6, c7, c8, hB⟩ := box9 hb1
  clear HS d0 d1 d2 d3 d4 d5 d6 d7 d8
  cases S
  · go_wp2
    go_ret
    exact ⟨rfl, hB⟩
  go_wp2_with fail
  refine (HO.out _).mono ?_
  rintro e w2 ⟨rfl, hb2⟩
  clear c0 c1 c2 c3 c4 c5 c6 c7 c8 hB
  obtain ⟨c0, c1, c2, c3, c4, c5, c6, c7, c8, hB⟩ := box9 (hb1.trans (hb2.mono hb1.size))
  clear hb1 hb2
  by_cases hd : (N && decide (m = 16)) = true
  · have hN : N = true := by cases N <;> simp_all
    have hm : (m == 16) = true := by cases N <;> simp_all
    subst hN
    go_wp2
    go_ret
    exact ⟨ret_bool (by rw [hd]; rfl), hB⟩
  have HD : Hid ((N && decide (m = 16)) = false) := (by simpa using hd : (N && decide (m = 16)) = false)
  have hm : N = true → (m == 16) = false := by intro h; subst h; simpa using hd
  clear hd
  cases N
  · go_wp2_with fail
    refine (HU.out _).mono ?_
    rintro e w3 ⟨rfl, rfl⟩
    cases U
    · go_wp2
      go_ret
      exact ⟨ret_bool (by rw [HD.out]; rfl), hB⟩
    go_wp2_with fail
    refine (HB.out _).mono ?_
    rintro e w3 ⟨rfl, rfl⟩
    cases B
    · go_wp2
      go_ret
      exact ⟨ret_bool (by rw [HD.out]; rfl), hB⟩
    go_wp2_with fail
    refine (HT.out _).mono ?_
    rintro e w3 ⟨rfl, hb3⟩
    go_wp2
    go_ret
    exact ⟨ret_bool (by rw [HD.out]; rfl), hB.trans (hb3.mono hB.size)⟩
  · have hm' := hm rfl
    go_wp2_with fail
    refine (HU.out _).mono ?_
    rintro e w3 ⟨rfl, rfl⟩
    cases U
    · go_wp2
      go_ret
      exact ⟨ret_bool (by rw [HD.out]; rfl), hB⟩
    go_wp2_with fail
    refine (HB.out _).mono ?_
    rintro e w3 ⟨rfl, rfl⟩
    cases B
    · go_wp2
      go_ret
      exact ⟨ret_bool (by rw [HD.out]; rfl), hB⟩
    go_wp2_with fail
    refine (HT.out _).mono ?_
    rintro e w3 ⟨rfl, hb3⟩
    go_wp2
    go_ret
    exact ⟨ret_bool (by rw [HD.out]; rfl), hB.trans (hb3.mono hB.size)⟩
theorem routeB_spec (r : Rt) : routeB r = (rightB r.a r.l && (inMet r.m && (inAddr r.n && (inIf r.i && (inTag r.t && (inTime r.u && inTime r.b)))))
    && (if r.n = 0 then decide (r.u = 0) && decide (r.b = 0) && decide (r.m < 16) else if r.m < 16 then decide (0 < r.u) && decide (r.b = 0) else decide (r.u = 0) && decide (0 < r.b))) := by
  obtain ⟨a, l, m, n, i, t, u, b, c⟩ := r
  simp only [routeB, saidB, entB, rtE, timesB]
  by_cases hn : n = 0
  · simp only [hn, if_true, decide_true, Bool.true_and]
    by_cases hm : inMet m = true
    · have : decide (m < 16) = !decide (m = 16) := by
        have h := hm; simp [inMet] at h
        by_cases h6 : m = 16
        · simp [h6]
        · simp [h6]; omega
      rw [this, hm]
      cases rightB a l <;> cases inAddr 0 <;> cases inIf i <;> cases inTag t <;> cases inTime u <;> cases inTime b <;> cases decide (u = 0) <;> cases decide (b = 0) <;> cases decide (m = 16) <;> rfl
    · simp [hm]
  · simp only [hn, if_false, decide_false, Bool.false_and, Bool.not_false, Bool.and_true]
    by_cases hm : m < 16
    · simp only [hm, if_true]
      cases rightB a l <;> cases inMet m <;> cases inAddr n <;> cases inIf i <;> cases inTag t <;> cases inTime u <;> cases inTime b <;> rfl
    · simp only [hm, if_false]
      cases rightB a l <;> cases inMet m <;> cases inAddr n <;> cases inIf i <;> cases inTag t <;> cases inTime u <;> cases inTime b <;> rfl
set_option maxRecDepth 100000 in
set_option maxHeartbeats 1000000 in
theorem specRoute_any (r : Rt) (w : World) : Calls Try.prog 73 #[rtV r] w fun e w' => e = .returned (.bool (routeB r)) ∧ Below w.heap.size w w' := by
  rw [routeB_spec]
  obtain ⟨a, l, m, n, i, t, u, b, c⟩ := r
  have HR : Hid (∀ w, Calls Try.prog 37 #[.agg #[.int .i64 a, .int .i64 l]] w fun e w' => e = .returned (.bool (rightB a l)) ∧ Below w.heap.size w w') := specRight_any a l
  have HM : Hid (∀ w, Calls Try.prog 38 #[.int .i64 m, .int .i64 1, .int .i64 16] w fun e w' => e = .returned (.bool (inMet m)) ∧ w = w') := l03Is_any m 1 16
  have HA : Hid (∀ w, Calls Try.prog 75 #[.int .i64 n] w fun e w' => e = .returned (.bool (inAddr n)) ∧ w = w') := l03Addr_any n
  have HI : Hid (∀ w, Calls Try.prog 38 #[.int .i64 i, .int .i64 0, .int .i64 3] w fun e w' => e = .returned (.bool (inIf i)) ∧ w = w') := l03Is_any i 0 3
  have HG : Hid (∀ w, Calls Try.prog 38 #[.int .i64 t, .int .i64 0, .int .i64 65535] w fun e w' => e = .returned (.bool (inTag t)) ∧ w = w') := l03Is_any t 0 65535
  have HU : Hid (∀ w, Calls Try.prog 98 #[.int .i64 u] w fun e w' => e = .returned (.bool (inTime u)) ∧ w = w') := l03Time_any u
  have HB : Hid (∀ w, Calls Try.prog 98 #[.int .i64 b] w fun e w' => e = .returned (.bool (inTime b)) ∧ w = w') := l03Time_any b
  unfold rtV rtA
  show Calls _ _ _ _ fun e w' => e = .returned (.bool (rightB a l && (inMet m && (inAddr n && (inIf i && (inTag t && (inTime u && inTime b))))) && (if n = 0 then decide (u = 0) && decide (b = 0) && decide (m < 16) else if m < 16 then decide (0 < u) && decide (b = 0) else decide (u = 0) && decide (0 < b)))) ∧ _
  generalize hX : (if n = 0 then decide (u = 0) && decide (b = 0) && decide (m < 16) else if m < 16 then decide (0 < u) && decide (b = 0) else decide (u = 0) && decide (0 < b)) = X
  have HX : Hid _ := hX
  clear hX
  generalize rightB a l = R at *
  generalize inMet m = M at *
  generalize inAddr n = N at *
  generalize inIf i = I at *
  generalize inTag t = G at *
  generalize inTime u = U at *
  generalize inTime b = B at *
  obtain ⟨d0, d1, d2, d3, d4, d5, d6, d7, d8, -⟩ := box9 (Below.refl _ (w.alloc (.cells #[.int .i64 a, .int .i64 l, .int .i64 m, .int .i64 n, .int .i64 i, .int .i64 t, .int .i64 u, .int .i64 b, .bool c] 46)))
  go_enter Try.func73, Try.ntmps73
  go_wp2_with fail
  refine (HR.out _).mono ?_
  rintro e w1 ⟨rfl, hb1⟩
  obtain ⟨c0, c1, c2, c3, c4, c5, c6, c7, c8, hB⟩ := box9 hb1
  clear hb1 HR d0 d1 d2 d3 d4 d5 d6 d7 d8
  cases R
  · go_wp2
    go_ret
    exact ⟨rfl, hB⟩
  go_wp2_with fail
  refine (HM.out _).mono ?_
  rintro e w2 ⟨rfl, rfl⟩
  cases M
  · go_wp2
    go_ret
    exact ⟨rfl, hB⟩
  go_wp2_with fail
  refine (HA.out _).mono ?_
  rintro e w2 ⟨rfl, rfl⟩
  cases N
  · go_wp2
    go_ret
    exact ⟨rfl, hB⟩
  go_wp2_with fail
  refine (HI.out _).mono ?_
  rintro e w2 ⟨rfl, rfl⟩
  cases I
  · go_wp2
    go_ret
    exact ⟨rfl, hB⟩
  go_wp2_with fail
  refine (HG.out _).mono ?_
  rintro e w2 ⟨rfl, rfl⟩
  cases G
  · go_wp2
    go_ret
    exact ⟨rfl, hB⟩
  go_wp2_with fail
  refine (HU.out _).mono ?_
  rintro e w2 ⟨rfl, rfl⟩
  cases U
  · go_wp2
    go_ret
    exact ⟨rfl, hB⟩
  go_wp2_with fail
  refine (HB.out _).mono ?_
  rintro e w2 ⟨rfl, rfl⟩
  cases B
  · go_wp2
    go_ret
    exact ⟨rfl, hB⟩
  by_cases hn : n = 0
  · have en : (n == 0) = true := by simpa using hn
    by_cases hu : u = 0
    · by_cases hb : b = 0
      · have HX2 : Hid (X = decide (m < 16)) := by show _ = _; rw [← HX.out]; simp [hn, hu, hb]
        have eu : (u == 0) = true := by simpa using hu
        have eb : (b == 0) = true := by simpa using hb
        clear HX
        go_wp2
        go_ret
        exact ⟨ret_bool (by rw [HX2.out]; first | rfl | (rw [Bool.eq_iff_iff]; simp)), hB⟩
      · have HX2 : Hid (X = false) := by show _ = _; rw [← HX.out]; simp [hn, hu, hb]
        have eu : (u == 0) = true := by simpa using hu
        have eb : (b == 0) = false := by simpa using hb
        clear HX
        go_wp2
        go_ret
        exact ⟨ret_bool (by rw [HX2.out]; rfl), hB⟩
    · have HX2 : Hid (X = false) := by show _ = _; rw [← HX.out]; simp [hn, hu]
      have eu : (u == 0) = false := by simpa using hu
      clear HX
      go_wp2
      go_ret
      exact ⟨ret_bool (by rw [HX2.out]; rfl), hB⟩
  · have en : (n == 0) = false := by simpa using hn
    by_cases hm : m < 16
    · have dm : decide (m < 16) = true := decide_eq_true hm
      by_cases hu : 0 < u
      · have HX2 : Hid (X = decide (b = 0)) := by show _ = _; rw [← HX.out]; simp [hn, hm, hu]
        have du : decide (0 < u) = true := decide_eq_true hu
        clear HX
        go_wp2
        go_ret
        exact ⟨ret_bool (by rw [HX2.out]; first | rfl | (rw [Bool.eq_iff_iff]; simp)), hB⟩
      · have HX2 : Hid (X = false) := by show _ = _; rw [← HX.out]; simp [hn, hm, hu]
        have du : decide (0 < u) = false := decide_eq_false hu
        clear HX
        go_wp2
        go_ret
        exact ⟨ret_bool (by rw [HX2.out]; rfl), hB⟩
    · have dm : decide (m < 16) = false := decide_eq_false hm
      by_cases hu : u = 0
      · have HX2 : Hid (X = decide (0 < b)) := by show _ = _; rw [← HX.out]; simp [hn, hm, hu]
        have eu : (u == 0) = true := by simpa using hu
        clear HX
        go_wp2
        go_ret
        exact ⟨ret_bool (by rw [HX2.out]; first | rfl | (rw [Bool.eq_iff_iff]; simp)), hB⟩
      · have HX2 : Hid (X = false) := by show _ = _; rw [← HX.out]; simp [hn, hm, hu]
        have eu : (u == 0) = false := by simpa using hu
        clear HX
        go_wp2
        go_ret
        exact ⟨ret_bool (by rw [HX2.out]; rfl), hB⟩
end Go.Proofs.Ytaledidomgelcaa
/- Rows of one-cell values that a call makes itself. -/
namespace Go.Proofs.Ytaledidomgelcaa
open Go.RowKit

/-- Block g holds just the cells l, of type t, none of them frozen. -/
def Row (w : World) (g : Nat) (t : TypeId) (l : List Value) : Prop := w.heap[g]? = some (.cells l.toArray t (0, 0))
theorem Row.lt {w : World} {g : Nat} {t : TypeId} {l : List Value} (h : Row w g t l) : g < w.heap.size := (Array.getElem?_eq_some_iff.1 h).1
theorem Row.cell {w : World} {g : Nat} {t : TypeId} {l : List Value} (h : Row w g t l) (k : Nat) : w.cell? ⟨g, k, none⟩ = l[k]? := by
  rw [cell_of_row w g k _ t _ h]; simp
theorem Row.frozen {w : World} {g : Nat} {t : TypeId} {l : List Value} (h : Row w g t l) (k : Nat) : w.frozen? ⟨g, k, none⟩ = false := by
  unfold World.frozen?
  have h' : w.heap[g]? = some (.cells l.toArray t (0, 0)) := h
  simp [h']
theorem Row.set {w : World} {g : Nat} {t : TypeId} {l : List Value} (h : Row w g t l) (k : Nat) (v : Value) : Row (w.setCell ⟨g, k, none⟩ v) g t (l.set k v) := by
  unfold Row World.setCell
  have h' : w.heap[g]? = some (.cells l.toArray t (0, 0)) := h
  simp [h', Array.getElem?_modify]
theorem Row.other {w : World} {g g' : Nat} {t : TypeId} {l : List Value} (h : Row w g t l) (k : Nat) (v : Value) (hne : g ≠ g') : Row (w.setCell ⟨g', k, none⟩ v) g t l := by
  unfold Row
  rw [Below.heap_setCell w _ v g hne]
  exact h
theorem Row.drewN {w : World} {g : Nat} {t : TypeId} {l : List Value} (h : Row w g t l) (n : Nat) : Row (w.drewN n) g t l := h
theorem Row.below {B : Nat} {w w' : World} {g : Nat} {t : TypeId} {l : List Value} (h : Row w g t l) (hb : Below B w w') (hg : g < B) : Row w' g t l := by
  unfold Row
  rw [hb.block g hg]
  exact h
theorem Row.alloc {w : World} {g : Nat} {t : TypeId} {l : List Value} (h : Row w g t l) (o : Obj) : Row (w.alloc o) g t l := by
  unfold Row
  rw [Below.heap_alloc w o g h.lt]
  exact h
theorem Row.new (w : World) (t : TypeId) (l : List Value) : Row (w.alloc (.cells l.toArray t (0, 0))) w.heap.size t l := heap_alloc_new w _

theorem Row.put {w : World} {g : Nat} {t : TypeId} {l : List Value} (h : Row w g t l) (l' : List Value) : Row (w.setRow g l'.toArray) g t l' := setRow_heap w g _ _ t _ h
theorem Row.putOther {w : World} {g g' : Nat} {t : TypeId} {l : List Value} (h : Row w g t l) (cs : Array Value) (hne : g ≠ g') : Row (w.setRow g' cs) g t l := by
  unfold Row World.setRow
  have h' : w.heap[g]? = some (.cells l.toArray t (0, 0)) := h
  simp only [Array.getElem?_modify]
  rw [if_neg (Ne.symm hne)]
  exact h'
end Go.Proofs.Ytaledidomgelcaa
/- The laws' own routes, and lists of them, handed in: opened. (Written by gen_rts.py.) -/
namespace Go.Proofs.Ytaledidomgelcaa
open Go.ChangeShapes Go.WideShapes Go.RowKit Go.Deep Go.WideElems Go.Maps Go.Joins

def rtL (r : Rt) : List Value := [.int .i64 r.a, .int .i64 r.l, .int .i64 r.m, .int .i64 r.n, .int .i64 r.i, .int .i64 r.t, .int .i64 r.u, .int .i64 r.b, .bool r.c]
theorem rtL_rtA (r : Rt) : (rtA r).toList = rtL r := rfl
theorem array9 {α : Type} {cs : Array α} (h : cs.size = 9) : ∃ c0 c1 c2 c3 c4 c5 c6 c7 c8, cs = #[c0, c1, c2, c3, c4, c5, c6, c7, c8] := by
  obtain ⟨l⟩ := cs
  match l, h with
  | [c0, c1, c2, c3, c4, c5, c6, c7, c8], _ => exact ⟨c0, c1, c2, c3, c4, c5, c6, c7, c8, rfl⟩
/-- All eight numbers of a route are of 64 bits. -/
def RtW (r : Rt) : Prop := (Lit.int .i64 r.a).wf = true ∧ (Lit.int .i64 r.l).wf = true ∧ (Lit.int .i64 r.m).wf = true ∧ (Lit.int .i64 r.n).wf = true ∧ (Lit.int .i64 r.i).wf = true ∧ (Lit.int .i64 r.t).wf = true ∧ (Lit.int .i64 r.u).wf = true ∧ (Lit.int .i64 r.b).wf = true
theorem Try.cellsRoute : Try.prog.cellsOf 43 = 9 := by kernel_rfl
theorem Try.cellsNetR : Try.prog.cellsOf 26 = 2 := by kernel_rfl
theorem Try.cellsIntR : Try.prog.cellsOf 2 = 1 := by kernel_rfl
theorem Try.cellsBoolR : Try.prog.cellsOf 4 = 1 := by kernel_rfl
section
variable {H : Type} {enc : TypeId × Value → H} {w : World} {base : Nat} {spare : Nat → Bool} {held : Bool}
set_option maxRecDepth 100000 in
theorem open_rt {fuel : Nat} {cs : List Value} {x : DataW H × List MemPlace} (h : DataW.trod enc Try.prog w base spare held fuel 43 cs = some x) : ∃ r : Rt, cs = rtL r ∧ RtW r := by
  obtain ⟨xs, n, _, _, hl, hx, hg⟩ := DataW.trod_struct Try.underlying43 h
  rw [Try.cellsRoute] at hl
  match cs, hl, xs, hx with
  | [c0, c1, c2, c3, c4, c5, c6, c7, c8], _, [y0, y1, y2, y3, y4, y5, y6, y7], _ =>
    have h0 : DataW.trod enc Try.prog w base spare held n 26 ((([c0, c1, c2, c3, c4, c5, c6, c7, c8] : List Value).drop 0).take (Try.prog.cellsOf 26)) = [y0, y1, y2, y3, y4, y5, y6, y7][0]? := hg 0 _ rfl
    rw [Try.cellsNetR] at h0
    replace h0 : DataW.trod enc Try.prog w base spare held n 26 [c0, c1] = some y0 := h0
    have h1 : DataW.trod enc Try.prog w base spare held n 2 ((([c0, c1, c2, c3, c4, c5, c6, c7, c8] : List Value).drop 2).take (Try.prog.cellsOf 2)) = [y0, y1, y2, y3, y4, y5, y6, y7][1]? := hg 1 _ rfl
    rw [Try.cellsIntR] at h1
    replace h1 : DataW.trod enc Try.prog w base spare held n 2 [c2] = some y1 := h1
    have h2 : DataW.trod enc Try.prog w base spare held n 2 ((([c0, c1, c2, c3, c4, c5, c6, c7, c8] : List Value).drop 3).take (Try.prog.cellsOf 2)) = [y0, y1, y2, y3, y4, y5, y6, y7][2]? := hg 2 _ rfl
    rw [Try.cellsIntR] at h2
    replace h2 : DataW.trod enc Try.prog w base spare held n 2 [c3] = some y2 := h2
    have h3 : DataW.trod enc Try.prog w base spare held n 2 ((([c0, c1, c2, c3, c4, c5, c6, c7, c8] : List Value).drop 4).take (Try.prog.cellsOf 2)) = [y0, y1, y2, y3, y4, y5, y6, y7][3]? := hg 3 _ rfl
    rw [Try.cellsIntR] at h3
    replace h3 : DataW.trod enc Try.prog w base spare held n 2 [c4] = some y3 := h3
    have h4 : DataW.trod enc Try.prog w base spare held n 2 ((([c0, c1, c2, c3, c4, c5, c6, c7, c8] : List Value).drop 5).take (Try.prog.cellsOf 2)) = [y0, y1, y2, y3, y4, y5, y6, y7][4]? := hg 4 _ rfl
    rw [Try.cellsIntR] at h4
    replace h4 : DataW.trod enc Try.prog w base spare held n 2 [c5] = some y4 := h4
    have h5 : DataW.trod enc Try.prog w base spare held n 2 ((([c0, c1, c2, c3, c4, c5, c6, c7, c8] : List Value).drop 6).take (Try.prog.cellsOf 2)) = [y0, y1, y2, y3, y4, y5, y6, y7][5]? := hg 5 _ rfl
    rw [Try.cellsIntR] at h5
    replace h5 : DataW.trod enc Try.prog w base spare held n 2 [c6] = some y5 := h5
    have h6 : DataW.trod enc Try.prog w base spare held n 2 ((([c0, c1, c2, c3, c4, c5, c6, c7, c8] : List Value).drop 7).take (Try.prog.cellsOf 2)) = [y0, y1, y2, y3, y4, y5, y6, y7][6]? := hg 6 _ rfl
    rw [Try.cellsIntR] at h6
    replace h6 : DataW.trod enc Try.prog w base spare held n 2 [c7] = some y6 := h6
    have h7 : DataW.trod enc Try.prog w base spare held n 4 ((([c0, c1, c2, c3, c4, c5, c6, c7, c8] : List Value).drop 8).take (Try.prog.cellsOf 4)) = [y0, y1, y2, y3, y4, y5, y6, y7][7]? := hg 7 _ rfl
    rw [Try.cellsBoolR] at h7
    replace h7 : DataW.trod enc Try.prog w base spare held n 4 [c8] = some y7 := h7
    obtain ⟨zs, k, _, _, _, hz, hk⟩ := DataW.trod_struct Try.underlying26 h0
    match zs, hz with
    | [z0, z1], _ =>
      have k0 : DataW.trod enc Try.prog w base spare held k 2 ((([c0, c1] : List Value).drop 0).take (Try.prog.cellsOf 2)) = [z0, z1][0]? := hk 0 _ rfl
      rw [Try.cellsIntR] at k0
      replace k0 : DataW.trod enc Try.prog w base spare held k 2 [c0] = some z0 := k0
      have k1 : DataW.trod enc Try.prog w base spare held k 2 ((([c0, c1] : List Value).drop 1).take (Try.prog.cellsOf 2)) = [z0, z1][1]? := hk 1 _ rfl
      rw [Try.cellsIntR] at k1
      replace k1 : DataW.trod enc Try.prog w base spare held k 2 [c1] = some z1 := k1
      obtain ⟨a, ea, _, wa⟩ := DataW.trod_int Try.underlying2 k0
      obtain ⟨l, el, _, wl⟩ := DataW.trod_int Try.underlying2 k1
      obtain ⟨m, em, _, wm⟩ := DataW.trod_int Try.underlying2 h1
      obtain ⟨n, en, _, wn⟩ := DataW.trod_int Try.underlying2 h2
      obtain ⟨i, ei, _, wi⟩ := DataW.trod_int Try.underlying2 h3
      obtain ⟨t, et, _, wt⟩ := DataW.trod_int Try.underlying2 h4
      obtain ⟨u, eu, _, wu⟩ := DataW.trod_int Try.underlying2 h5
      obtain ⟨b, eb, _, wb⟩ := DataW.trod_int Try.underlying2 h6
      obtain ⟨c, ec, _⟩ := DataW.trod_bool Try.underlying4 h7
      simp only [List.cons.injEq, and_true] at ea el em en ei et eu eb ec
      subst ea el em en ei et eu eb ec
      exact ⟨⟨a, l, m, n, i, t, u, b, c⟩, rfl, wa, wl, wm, wn, wi, wt, wu, wb⟩
set_option maxRecDepth 100000 in
theorem open_rtV {r : Reach} {b0 : Nat} {v : Value} {d : DataW H} {p : List MemPlace} (hv : Value.okWide Try.prog w r b0 43 v) (h : DataW.Trod enc Try.prog w base spare held 43 v d p) :
    ∃ e : Rt, v = rtV e ∧ RtW e := by
  obtain ⟨cs, rfl, hsz⟩ := okWide_struct Try.underlying43 hv
  obtain ⟨c0, c1, c2, c3, c4, c5, c6, c7, c8, rfl⟩ := array9 (hsz.trans Try.cellsRoute)
  obtain ⟨fuel, hf⟩ := h
  obtain ⟨e, he, hw⟩ := open_rt hf
  refine ⟨e, ?_, hw⟩
  simp only [Value.cells, rtL] at he
  simp only [List.cons.injEq, and_true] at he
  obtain ⟨rfl, rfl, rfl, rfl, rfl, rfl, rfl, rfl, rfl⟩ := he
  rfl
end
end Go.Proofs.Ytaledidomgelcaa
/- Lists of routes in memory. (Written by gen_rts.py.) -/
namespace Go.Proofs.Ytaledidomgelcaa
open Go.RowKit Go.Sort

def rowR (rs : List Rt) : List Value := rs.flatMap rtL
theorem rtL_length (r : Rt) : (rtL r).length = 9 := rfl
theorem rowR_length (rs : List Rt) : (rowR rs).length = 9 * rs.length := by
  induction rs with
  | nil => rfl
  | cons e es ih => simp only [rowR, List.flatMap_cons, List.length_append, List.length_cons] at ih ⊢; rw [ih, rtL_length]; omega
theorem rowR_append (a b : List Rt) : rowR (a ++ b) = rowR a ++ rowR b := by simp [rowR]
theorem rowR_cons (e : Rt) (es : List Rt) : rowR (e :: es) = rtL e ++ rowR es := rfl
theorem rowR_get (es : List Rt) (i k : Nat) (hi : i < es.length) (hk : k < 9) : (rowR es)[i * 9 + k]? = (rtL es[i])[k]? := by
  induction es generalizing i with
  | nil => simp at hi
  | cons e es ih =>
    rw [rowR_cons]
    match i with
    | 0 => rw [Nat.zero_mul, Nat.zero_add, List.getElem?_append_left (by rw [rtL_length]; omega)]; rfl
    | i + 1 =>
      rw [List.getElem?_append_right (by rw [rtL_length]; omega), rtL_length, show (i + 1) * 9 + k - 9 = i * 9 + k by omega, ih i (by simpa using hi)]
      rfl
theorem rowR_one (es : List Rt) : ∀ u ∈ rowR es, u.oneCell' = true := by
  intro u hu
  simp only [rowR, List.mem_flatMap, rtL, List.mem_cons, List.not_mem_nil, or_false] at hu
  obtain ⟨e, _, h⟩ := hu
  rcases h with h | h | h | h | h | h | h | h | h <;> (rw [h]; rfl)
/-- The slice (p, rs.length) holds the routes rs. -/
def RtsIn (w : World) (p : Option Addr) (rs : List Rt) : Prop := rs = [] ∨ ∃ g, p = some ⟨g, 0, none⟩ ∧ g < w.heap.size ∧ ∀ j u, (rowR rs)[j]? = some u → w.cell? ⟨g, j, none⟩ = some u
theorem RtsIn.below {w w' : World} {p : Option Addr} {rs : List Rt} (h : RtsIn w p rs) (hb : Below w.heap.size w w') : RtsIn w' p rs := by
  rcases h with h | ⟨g, hp, hg, hc⟩
  · exact .inl h
  · refine .inr ⟨g, hp, by have := hb.size; omega, fun j u hj => ?_⟩
    rw [hb.cell (p := ⟨g, j, none⟩) hg]
    exact hc j u hj
theorem RtsIn.alloc {w : World} {p : Option Addr} {rs : List Rt} (h : RtsIn w p rs) (o : Obj) : RtsIn (w.alloc o) p rs := h.below (ent_new0 w o)
theorem RtsIn.at {w : World} {p : Option Addr} {rs : List Rt} (h : RtsIn w p rs) (i : Nat) (hi : i < rs.length) : ∃ g a l m n ii t u b c, p = some ⟨g, 0, none⟩ ∧ g < w.heap.size ∧ rs[i] = ⟨a, l, m, n, ii, t, u, b, c⟩ ∧ w.cell? ⟨g, i * 9, none⟩ = some (.int .i64 a) ∧ w.cell? ⟨g, i * 9 + 1, none⟩ = some (.int .i64 l) ∧ w.cell? ⟨g, i * 9 + 2, none⟩ = some (.int .i64 m) ∧ w.cell? ⟨g, i * 9 + 3, none⟩ = some (.int .i64 n) ∧ w.cell? ⟨g, i * 9 + 4, none⟩ = some (.int .i64 ii) ∧ w.cell? ⟨g, i * 9 + 5, none⟩ = some (.int .i64 t) ∧ w.cell? ⟨g, i * 9 + 6, none⟩ = some (.int .i64 u) ∧ w.cell? ⟨g, i * 9 + 7, none⟩ = some (.int .i64 b) ∧ w.cell? ⟨g, i * 9 + 8, none⟩ = some (.bool c) := by
  rcases h with rfl | ⟨g, hp, hg, hc⟩
  · simp at hi
  · exact ⟨g, rs[i].a, rs[i].l, rs[i].m, rs[i].n, rs[i].i, rs[i].t, rs[i].u, rs[i].b, rs[i].c, hp, hg, rfl, hc _ _ (rowR_get rs i 0 hi (by omega)), hc _ _ (rowR_get rs i 1 hi (by omega)), hc _ _ (rowR_get rs i 2 hi (by omega)), hc _ _ (rowR_get rs i 3 hi (by omega)), hc _ _ (rowR_get rs i 4 hi (by omega)), hc _ _ (rowR_get rs i 5 hi (by omega)), hc _ _ (rowR_get rs i 6 hi (by omega)), hc _ _ (rowR_get rs i 7 hi (by omega)), hc _ _ (rowR_get rs i 8 hi (by omega))⟩
def ribV (p : Option Addr) (n cap : Nat) : Value := .agg #[.slice p n cap]
theorem rtsIn_row {w : World} {g : Nat} {t : TypeId} {rs : List Rt} (h : Row w g t (rowR rs)) : RtsIn w (some ⟨g, 0, none⟩) rs := .inr ⟨g, rfl, h.lt, fun j _ hj => (h.cell j).trans hj⟩
end Go.Proofs.Ytaledidomgelcaa
/- Two nets handed in: their cells, later. -/
namespace Go.Proofs.Ytaledidomgelcaa
open Go.RowKit Go.Sort

theorem row_alloc_old {w : World} {b : Nat} {o : Obj} {o' : Obj} (h : w.heap[b]? = some o') : (w.alloc o).heap[b]? = some o' := by
  rw [Below.heap_alloc w o b (Array.getElem?_eq_some_iff.1 h).1]; exact h
theorem four_new (w : World) (x y u v : Value) (t s : TypeId) : ((w.alloc (.cells #[x, y] t)).alloc (.cells #[u, v] s)).cell? ⟨w.heap.size, 0, none⟩ = some x ∧ ((w.alloc (.cells #[x, y] t)).alloc (.cells #[u, v] s)).cell? ⟨w.heap.size, 1, none⟩ = some y ∧ ((w.alloc (.cells #[x, y] t)).alloc (.cells #[u, v] s)).cell? ⟨w.heap.size + 1, 0, none⟩ = some u ∧ ((w.alloc (.cells #[x, y] t)).alloc (.cells #[u, v] s)).cell? ⟨w.heap.size + 1, 1, none⟩ = some v := by
  have h1 := row_alloc_old (o := .cells #[u, v] s) (heap_alloc_new w (.cells #[x, y] t))
  have h2 := heap_alloc_new (w.alloc (.cells #[x, y] t)) (.cells #[u, v] s)
  rw [show (w.alloc (.cells #[x, y] t)).heap.size = w.heap.size + 1 by simp] at h2
  refine ⟨?_, ?_, ?_, ?_⟩
  · rw [cell_of_row _ _ _ _ t _ h1]; simp
  · rw [cell_of_row _ _ _ _ t _ h1]; simp
  · rw [cell_of_row _ _ _ _ s _ h2]; simp
  · rw [cell_of_row _ _ _ _ s _ h2]; simp
theorem four_later {w w1 : World} {x y u v : Value} {t s : TypeId} (h : Below ((w.alloc (.cells #[x, y] t)).alloc (.cells #[u, v] s)).heap.size ((w.alloc (.cells #[x, y] t)).alloc (.cells #[u, v] s)) w1) :
    w1.cell? ⟨w.heap.size, 0, none⟩ = some x ∧ w1.cell? ⟨w.heap.size, 1, none⟩ = some y ∧ w1.cell? ⟨w.heap.size + 1, 0, none⟩ = some u ∧ w1.cell? ⟨w.heap.size + 1, 1, none⟩ = some v ∧ w.heap.size + 1 < w1.heap.size ∧ Below w.heap.size w w1 := by
  obtain ⟨h1, h2, h3, h4⟩ := four_new w x y u v t s
  have hz : ((w.alloc (.cells #[x, y] t)).alloc (.cells #[u, v] s)).heap.size = w.heap.size + 2 := by simp
  refine ⟨?_, ?_, ?_, ?_, ?_, ?_⟩
  · rw [h.cell (p := ⟨w.heap.size, 0, none⟩) (by rw [hz]; simp)]; exact h1
  · rw [h.cell (p := ⟨w.heap.size, 1, none⟩) (by rw [hz]; simp)]; exact h2
  · rw [h.cell (p := ⟨w.heap.size + 1, 0, none⟩) (by rw [hz]; simp)]; exact h3
  · rw [h.cell (p := ⟨w.heap.size + 1, 1, none⟩) (by rw [hz]; simp)]; exact h4
  · have := h.size; omega
  · exact (((Below.refl _ _).alloc (Nat.le_refl _) _).alloc (by simp) _).trans (h.mono (by omega))
theorem four_more {w1 w2 : World} {b c : Nat} {x y u v : Value} (h0 : w1.cell? ⟨b, 0, none⟩ = some x) (h1 : w1.cell? ⟨b, 1, none⟩ = some y) (h2 : w1.cell? ⟨c, 0, none⟩ = some u) (h3 : w1.cell? ⟨c, 1, none⟩ = some v) (hb : Below w1.heap.size w1 w2) :
    w2.cell? ⟨b, 0, none⟩ = some x ∧ w2.cell? ⟨b, 1, none⟩ = some y ∧ w2.cell? ⟨c, 0, none⟩ = some u ∧ w2.cell? ⟨c, 1, none⟩ = some v :=
  ⟨by rw [hb.cell (p := ⟨b, 0, none⟩) (World.block_lt_of_cell? w1 _ h0)]; exact h0, by rw [hb.cell (p := ⟨b, 1, none⟩) (World.block_lt_of_cell? w1 _ h1)]; exact h1,
   by rw [hb.cell (p := ⟨c, 0, none⟩) (World.block_lt_of_cell? w1 _ h2)]; exact h2, by rw [hb.cell (p := ⟨c, 1, none⟩) (World.block_lt_of_cell? w1 _ h3)]; exact h3⟩
end Go.Proofs.Ytaledidomgelcaa
/- NetLess of the program; less, of the model. -/
namespace Go.Proofs.Ytaledidomgelcaa
open Go.RowKit Go.Sort

def lessB (a l b m : Int) : Bool := rightB a l && (rightB b m && (decide (a < b) || (a == b && decide (l < m))))
set_option maxRecDepth 100000 in
theorem l03Less_any (a l b m : Int) (w : World) : Calls Try.prog 74 #[netV a l, netV b m] w fun e w' => e = .returned (.bool (decide (a < b) || (a == b && decide (l < m)))) ∧ Below w.heap.size w w' := by
  unfold netV
  rcases Int.lt_trichotomy a b with h | h | h
  · have d1 : decide (a < b) = true := by simpa using h
    go_enter Try.func74, Try.ntmps74
    go_wp2
    go_ret
    exact ⟨ret_bool (by simp [h]), ((Below.refl _ _).alloc (Nat.le_refl _) _).alloc (by simp) _⟩
  · subst h
    have d1 : decide (a < a) = false := by simp
    have d2 : (a == a) = true := by simp
    go_enter Try.func74, Try.ntmps74
    go_wp2
    all_goals
      go_ret
      exact ⟨ret_bool (by simp [*]), ((Below.refl _ _).alloc (Nat.le_refl _) _).alloc (by simp) _⟩
  · have d1 : decide (a < b) = false := by simp; omega
    have d2 : (a == b) = false := by simp; omega
    go_enter Try.func74, Try.ntmps74
    go_wp2
    go_ret
    exact ⟨ret_bool (by simp [d1, d2]), ((Below.refl _ _).alloc (Nat.le_refl _) _).alloc (by simp) _⟩
set_option maxRecDepth 100000 in
theorem implLess_any (a l b m : Int) (w : World) : Calls Try.prog 80 #[netV a l, netV b m] w fun e w' => e = .returned (.bool (lessB a l b m)) ∧ Below w.heap.size w w' := by
  have HR : Hid (∀ w, Calls Try.prog 43 #[netV a l] w fun e w' => e = .returned (.bool (rightB a l)) ∧ Below w.heap.size w w') := implRight_any a l
  have HS : Hid (∀ w, Calls Try.prog 43 #[netV b m] w fun e w' => e = .returned (.bool (rightB b m)) ∧ Below w.heap.size w w') := implRight_any b m
  have HW : Hid (lessB a l b m = (rightB a l && (rightB b m && (decide (a < b) || (a == b && decide (l < m)))))) := rfl
  generalize lessB a l b m = R at *
  generalize rightB a l = R1 at *
  generalize rightB b m = R2 at *
  unfold netV at *
  cases R1
  · go_enter Try.func80, Try.ntmps80
    go_wp2_with fail
    refine (HR.out _).mono ?_
    rintro e w1 ⟨rfl, hb1⟩
    obtain ⟨c0, c1, c2, c3, hs1, hB1⟩ := four_later hb1
    clear hb1
    go_wp2
    go_ret
    exact ⟨ret_bool (by rw [HW.out]; simp), hB1⟩
  · cases R2
    · go_enter Try.func80, Try.ntmps80
      go_wp2_with fail
      refine (HR.out _).mono ?_
      rintro e w1 ⟨rfl, hb1⟩
      obtain ⟨c0, c1, c2, c3, hs1, hB1⟩ := four_later hb1
      clear hb1
      go_wp2_with fail
      refine (HS.out _).mono ?_
      rintro e w2 ⟨rfl, hb2⟩
      have hB2 := hB1.trans (hb2.mono hB1.size)
      clear c0 c1 c2 c3 hb2
      go_wp2
      go_ret
      exact ⟨ret_bool (by rw [HW.out]; simp), hB2⟩
    · by_cases hab : a = b
      · have d1 : (a != b) = false := by simpa using hab
        have HAB : Hid (a = b) := hab
        clear hab
        go_enter Try.func80, Try.ntmps80
        go_wp2_with fail
        refine (HR.out _).mono ?_
        rintro e w1 ⟨rfl, hb1⟩
        obtain ⟨c0, c1, c2, c3, hs1, hB1⟩ := four_later hb1
        clear hb1
        go_wp2_with fail
        refine (HS.out _).mono ?_
        rintro e w2 ⟨rfl, hb2⟩
        obtain ⟨e0, e1, e2, e3⟩ := four_more c0 c1 c2 c3 hb2
        have hB2 := hB1.trans (hb2.mono hB1.size)
        clear c0 c1 c2 c3 hb2
        go_wp2
        go_ret
        refine ⟨ret_bool ?_, hB2⟩
        rw [HW.out, HAB.out]
        simp
      · have d1 : (a != b) = true := by simpa using hab
        have HAB : Hid (¬ a = b) := hab
        clear hab
        go_enter Try.func80, Try.ntmps80
        go_wp2_with fail
        refine (HR.out _).mono ?_
        rintro e w1 ⟨rfl, hb1⟩
        obtain ⟨c0, c1, c2, c3, hs1, hB1⟩ := four_later hb1
        clear hb1
        go_wp2_with fail
        refine (HS.out _).mono ?_
        rintro e w2 ⟨rfl, hb2⟩
        obtain ⟨e0, e1, e2, e3⟩ := four_more c0 c1 c2 c3 hb2
        have hB2 := hB1.trans (hb2.mono hB1.size)
        clear c0 c1 c2 c3 hb2
        go_wp2
        go_ret
        refine ⟨ret_bool ?_, hB2⟩
        rw [HW.out]
        simp [HAB.out]
end Go.Proofs.Ytaledidomgelcaa
