/- Texts that stand on each other, in one file: AddrMath, Bytes, Bits, Base, Pow, MaskI, LookA, NetOf, Covers, CoverL, CoversS, RowV, EntD, Iff, OpenIf, Ifs, ToIfs, ToNet, ToIf, MakeIfs, AppI, TimeI. -/
import Derived.WalkKit
import Derived.Laws.BitsAllLaws
import Derived.ProofKit
import Derived.Laws.IdiomStrings
import Derived.Laws.CopyOwn
import Derived.Lib.Strings
import Derived.Test.YtflmbkjnlgibnaaRows
import Derived.BigGuardPart
import Derived.Laws.ShiftsVarLaws
import Derived.Laws.StructEq
import Derived.BigQuiet
import Derived.Lib.QuietBelow
import Derived.WalkSmall
import Derived.Deep.RegionWith
import Derived.Deep.RegionHeld3
import Derived.Deep.QuietTactic
import Derived.BigRegion
import Derived.Lib.SmallJoins
import Derived.Deep.Slices
import Derived.OwnWalk
/- Plain numbers under addresses: masks, cuts, and what shifts and 'and' make of them. -/
namespace Go.Proofs.Ytflmbkjnlgibnaa

theorem ofInt_i64 (a : Nat) (ha : a < 9223372036854775808) : (BitVec.ofInt 64 (a : Int)).toNat = a := by
  rw [BitVec.ofInt_natCast, BitVec.toNat_ofNat]; exact Nat.mod_eq_of_lt (by omega)
theorem i64_and_nat (a b : Nat) (ha : a < 9223372036854775808) (hb : b < 9223372036854775808) : bits .and .i64 (a : Int) (b : Int) = ((a &&& b : Nat) : Int) := by
  have hx : a &&& b < 2 ^ 63 := Nat.and_lt_two_pow _ (by omega)
  show IntKind.i64.wrap ((BitVec.ofInt 64 (a : Int) &&& BitVec.ofInt 64 (b : Int)).toNat : Int) = _
  rw [BitVec.toNat_and, ofInt_i64 a ha, ofInt_i64 b hb, IntKind.wrap_i64]
  omega
theorem i64_or_nat (a b : Nat) (ha : a < 9223372036854775808) (hb : b < 9223372036854775808) : bits .or .i64 (a : Int) (b : Int) = ((a ||| b : Nat) : Int) := by
  have hx : a ||| b < 2 ^ 63 := Nat.or_lt_two_pow (by omega) (by omega)
  show IntKind.i64.wrap ((BitVec.ofInt 64 (a : Int) ||| BitVec.ofInt 64 (b : Int)).toNat : Int) = _
  rw [BitVec.toNat_or, ofInt_i64 a ha, ofInt_i64 b hb, IntKind.wrap_i64]
  omega
theorem pow_split (j : Nat) (h : j ≤ 32) : (2 : Nat) ^ 32 - 2 ^ j = (2 ^ (32 - j) - 1) * 2 ^ j := by
  rw [Nat.sub_mul, ← Nat.pow_add, Nat.one_mul]
  congr 2
  omega
theorem nat_and_mask (a j : Nat) (ha : a < 4294967296) (hj : j ≤ 32) : a &&& (4294967296 - 2 ^ j) = a / 2 ^ j * 2 ^ j := by
  rw [show (4294967296 : Nat) = 2 ^ 32 from rfl, pow_split j hj]
  apply Nat.eq_of_testBit_eq
  intro i
  rw [Nat.testBit_and, Nat.testBit_mul_two_pow, Nat.testBit_mul_two_pow, Nat.testBit_two_pow_sub_one, Nat.testBit_div_two_pow]
  by_cases h : j ≤ i
  · by_cases h2 : i < 32
    · have h3 : i - j < 32 - j := by omega
      simp [h, h3]
    · have h3 : a.testBit i = false := Nat.testBit_lt_two_pow (Nat.lt_of_lt_of_le ha (by rw [show (4294967296 : Nat) = 2 ^ 32 from rfl]; exact Nat.pow_le_pow_right (by decide) (by omega)))
      simp [h, h3]
  · simp [h]

/-- What a length leaves out: two to the bits behind it. -/
def gap (l : Int) : Nat := 2 ^ (32 - l.toNat)
theorem gap_fin : ∀ k : Fin 33, 1 ≤ 2 ^ (32 - k.val) ∧ 2 ^ (32 - k.val) ≤ 4294967296 := by decide
theorem gap_pos (l : Int) : 1 ≤ gap l := Nat.two_pow_pos _
theorem gap_le (l : Int) : gap l ≤ 4294967296 := by
  unfold gap; rw [show (4294967296 : Nat) = 2 ^ 32 from rfl]; exact Nat.pow_le_pow_right (by decide) (by omega)
theorem gap_pow (l : Int) (h0 : 0 ≤ l) (h1 : l ≤ 32) : gap l = 2 ^ (32 - l).toNat := by
  unfold gap; congr 1; omega
/-- An address without the bits behind the first ones. -/
def cutV (a l : Int) : Int := a / (gap l : Int) * (gap l : Int)
theorem cutV_le (a l : Int) (h : 0 ≤ a) : 0 ≤ cutV a l ∧ cutV a l ≤ a := by
  have hg := gap_pos l
  have hg' : (0 : Int) < (gap l : Int) := by omega
  unfold cutV
  constructor
  · exact Int.mul_nonneg (Int.ediv_nonneg h (by omega)) (by omega)
  · exact Int.ediv_mul_le a (by omega)
def maskV (l : Int) : Int := if 0 ≤ l ∧ l ≤ 32 then 4294967296 - (gap l : Int) else 0
theorem maskV_in (l : Int) (h0 : 0 ≤ l) (h1 : l ≤ 32) : maskV l = 4294967296 - (gap l : Int) := if_pos ⟨h0, h1⟩
theorem maskV_out (l : Int) (h : ¬ (0 ≤ l ∧ l ≤ 32)) : maskV l = 0 := if_neg h
theorem maskV_range (l : Int) : 0 ≤ maskV l ∧ maskV l ≤ 4294967295 := by
  unfold maskV
  have := gap_le l
  have := gap_pos l
  split <;> omega
theorem and_mask (a l : Int) (h0 : 0 ≤ a) (h1 : a ≤ 4294967295) (hl0 : 0 ≤ l) (hl1 : l ≤ 32) : bits .and .i64 a (maskV l) = cutV a l := by
  obtain ⟨A, rfl⟩ := Int.eq_ofNat_of_zero_le h0
  rw [maskV_in l hl0 hl1]
  have hg := gap_le l
  rw [show (4294967296 : Int) - (gap l : Int) = ((4294967296 - gap l : Nat) : Int) by omega, i64_and_nat A _ (by omega) (by omega)]
  unfold cutV gap
  rw [nat_and_mask A (32 - l.toNat) (by omega) (by omega)]
  push_cast
  rfl
/-- A shift down and up again. -/
theorem down_up_fin : ∀ k : Fin 33, (4294967295 / 2 ^ k.val) * 2 ^ k.val = 4294967296 - 2 ^ k.val := by decide
theorem down_up (l : Int) (h0 : 0 ≤ l) (h1 : l ≤ 32) : (4294967295 : Int) / 2 ^ (32 - l).toNat * 2 ^ (32 - l).toNat = maskV l := by
  rw [maskV_in l h0 h1, gap_pow l h0 h1]
  have h := down_up_fin ⟨(32 - l).toNat, by omega⟩
  have hg := gap_le l
  rw [gap_pow l h0 h1] at hg
  simp only at h
  have e : ((2 : Int) ^ (32 - l).toNat) = ((2 ^ (32 - l).toNat : Nat) : Int) := by simp
  rw [e]
  generalize 2 ^ (32 - l).toNat = G at *
  have h2 : ((4294967295 : Int) / (G : Int) * (G : Int)) = ((4294967295 / G * G : Nat) : Int) := by simp
  rw [h2, h]
  omega
/-- Masks of different lengths differ. -/
theorem gap_step (k : Nat) (h : k + 1 ≤ 32) : gap (k : Int) = 2 * gap ((k + 1 : Nat) : Int) := by
  unfold gap
  rw [Int.toNat_natCast, Int.toNat_natCast, show 32 - k = (32 - (k + 1)) + 1 by omega, Nat.pow_succ]
  omega
theorem cutV_cut (a l : Int) : cutV (cutV a l) l = cutV a l := by
  have hg := gap_pos l
  unfold cutV
  rw [Int.mul_ediv_cancel _ (by omega)]
end Go.Proofs.Ytflmbkjnlgibnaa
/- Rows of bytes that a call makes itself: what is owned, how it grows byte by byte, what text it gives. -/
namespace Go.Proofs.Ytflmbkjnlgibnaa
open Go.RowKit

def cellsB (l : List UInt8) : List Value := l.map fun b => Value.int .u8 (b.toNat : Int)
/-- The slice value v of bytes owns just the bytes l, in memory from block 'base' on. -/
def OwnB (w : World) (base : Nat) (e : TypeId) (v : Value) (l : List UInt8) : Prop := w.ownsRow base e 1 v l.length (cellsB l)

theorem OwnB.nil (w : World) (base : Nat) (e : TypeId) : OwnB w base e (.slice none 0 0) [] := World.ownsRow_nil w base e 1
theorem OwnB.alloc {w : World} {base : Nat} {e : TypeId} {v : Value} {l : List UInt8} (h : OwnB w base e v l) (o : Obj) : OwnB (w.alloc o) base e v l := World.ownsRow.alloc h o
theorem OwnB.made (w : World) (base : Nat) (e : TypeId) (hb : base ≤ w.heap.size) : OwnB (w.alloc (.cells #[] e)) base e (.slice (some ⟨w.heap.size, 0, none⟩) 0 0) [] := by
  refine ⟨rfl, .inr ⟨w.heap.size, 0, #[], rfl, hb, ?_, Nat.le_refl _, Nat.zero_le _, rfl, rfl⟩⟩
  show (w.heap.push _)[w.heap.size]? = _
  simp

/-- What 'string(v)' gives of an owned row. -/
theorem OwnB.text {P : Program} {w : World} {base : Nat} {e : TypeId} {v : Value} {l : List UInt8} (h : OwnB w base e v l) (hl : l ≠ []) (src dst : TypeId) (hs : P.underlying src = some (.slice e)) (he : P.underlying e = some (.int .u8)) (hd : P.underlying dst = some .string) :
    (∃ g cap, v = .slice (some ⟨g, 0, none⟩) l.length cap) ∧ (convert src dst v).run P w = .ok (.string ⟨l.toArray⟩) w := by
  have h0 := h
  rcases h.2 with ⟨_, hn⟩ | ⟨g, cap, cur, rfl, _⟩
  · cases l with
    | nil => exact absurd rfl hl
    | cons a l => simp at hn
  · refine ⟨⟨g, cap, rfl⟩, ?_⟩
    refine run_convert_bytes_back w src dst e ⟨g, 0, none⟩ cap l hs he hd ?_
    intro j hj
    have hc := World.ownsRow.cellAt h0 j (by omega)
    have ea : (⟨g, 0, none⟩ : Addr).add j = ⟨g, j, none⟩ := by unfold Addr.add; split <;> simp_all
    rw [ea, hc]
    simp [cellsB, hj]

theorem byte_of_int (b : Int) (h0 : 0 ≤ b) (h1 : b < 256) : ((UInt8.ofNat b.toNat).toNat : Int) = b := by
  have : b.toNat % 256 = b.toNat := Nat.mod_eq_of_lt (by omega)
  simp [UInt8.toNat_ofNat', this]; omega

/-- 'v = append(v, b)', v an owned row of bytes (or nil), b laid in a block of its own just ahead. -/
theorem wpList_append_byte {P : Program} {w : World} {ops : Array Oper} {rest : List Oper} {o : Oper} {a : Act} {Q : Exit → Act → World → Prop} (hgd : o.guard = none) (s x : Operand) (t : TypeId)
    (ho : o.op = .call { callee := .builtin .append, args := #[s, x], argTypes := #[t, t] })
    (base : Nat) (e : TypeId) (ht : P.underlying t = some (.slice e)) (hi : (P.info? e).map (fun i => (i.zero, i.size, i.bytes)) = some (some (.int .u8 0), 1, 1))
    (v : Value) (l : List UInt8) (hs : a.eval s = v) (hown : OwnB w base e v l)
    (g : Nat) (b : Int) (hx : a.eval x = .slice (some ⟨g, 0, none⟩) 1 1) (hc : w.cell? ⟨g, 0, none⟩ = some (.int .u8 b)) (hb : 0 ≤ b ∧ b < 256)
    (hlen : l.length ≤ 1000000000000) (hbase : base ≤ w.heap.size)
    (h : ∀ v' w', OwnB w' base e v' (l ++ [UInt8.ofNat b.toNat]) → Below base w w' → wpList P ops Q rest (a.put o.dst v') w') : wpList P ops Q (o :: rest) a w := by
  obtain ⟨i0, hi0, hz0, hz1, hz2⟩ := info_parts hi
  refine wpList_append_own w hgd s x t ho base e i0 (.int .u8 0) 1 1 ht hi0 hz0 hz1 hz2 rfl (by decide) v l.length (cellsB l) hs hown ⟨g, 0, none⟩ 1 1 [.int .u8 b] hx rfl ?_ ?_ ?_ ?_ hbase ?_
  · intro j u hj
    match j, hj with
    | 0, hj => simp at hj; subst hj; simpa [Addr.add] using hc
  · intro u hu; simp at hu; subst hu; rfl
  · unfold maxLen; omega
  · omega
  · intro v' w' hown' hgrow _
    refine h v' w' ?_ ?_
    · unfold OwnB
      rw [show (l ++ [UInt8.ofNat b.toNat]).length = l.length + 1 by simp, show cellsB (l ++ [UInt8.ofNat b.toNat]) = cellsB l ++ [.int .u8 b] by simp only [cellsB, List.map_append, List.map_cons, List.map_nil, byte_of_int b hb.1 hb.2]]
      exact hown'
    · refine (Below.refl base w).grown hgrow hbase ?_
      intro k hk
      exact (hown.lt k hk).1

/-- Block g is a row of just the bytes l. -/
def RowB (w : World) (g : Nat) (e : TypeId) (l : List UInt8) : Prop := w.heap[g]? = some (.cells (cellsB l).toArray e (0, 0))
theorem cellsB_length (l : List UInt8) : (cellsB l).length = l.length := by simp [cellsB]
theorem cellsB_one (l : List UInt8) : ∀ v ∈ cellsB l, v.oneCell' = true := by
  intro v hv
  simp only [cellsB, List.mem_map] at hv
  obtain ⟨b, _, rfl⟩ := hv
  rfl
theorem cellsB_append (l m : List UInt8) : cellsB (l ++ m) = cellsB l ++ cellsB m := by simp [cellsB]
theorem cellsB_take (l : List UInt8) (k : Nat) : (cellsB l).take k = cellsB (l.take k) := by simp [cellsB]
theorem cellsB_drop (l : List UInt8) (k : Nat) : (cellsB l).drop k = cellsB (l.drop k) := by simp [cellsB]

theorem RowB.own {w : World} {g : Nat} {e : TypeId} {l : List UInt8} (h : RowB w g e l) (base cap : Nat) (hb : base ≤ g) (hc : cap = l.length) (hm : l.length ≤ maxLen) : OwnB w base e (.slice (some ⟨g, 0, none⟩) l.length cap) l := by
  subst hc
  exact ⟨by rw [cellsB_length]; omega, .inr ⟨g, l.length, _, rfl, hb, h, Nat.le_refl _, hm, by simp [cellsB_length], by rw [Nat.mul_one]; exact List.take_of_length_le (by simp [cellsB_length])⟩⟩

theorem OwnB.textAt {P : Program} {w : World} {base : Nat} {e : TypeId} {g cap : Nat} {l : List UInt8} (h0 : OwnB w base e (.slice (some ⟨g, 0, none⟩) l.length cap) l) (src dst : TypeId) (hs : P.underlying src = some (.slice e)) (he : P.underlying e = some (.int .u8)) (hd : P.underlying dst = some .string) :
    (convert src dst (.slice (some ⟨g, 0, none⟩) l.length cap)).run P w = .ok (.string ⟨l.toArray⟩) w := by
  refine run_convert_bytes_back w src dst e ⟨g, 0, none⟩ cap l hs he hd ?_
  intro j hj
  have hc := World.ownsRow.cellAt h0 j (by omega)
  have ea : (⟨g, 0, none⟩ : Addr).add j = ⟨g, j, none⟩ := by unfold Addr.add; split <;> simp_all
  rw [ea, hc]
  simp [cellsB, hj]

/-- m laid over l from place off on. -/
def overB (l : List UInt8) (off : Nat) (m : List UInt8) : List UInt8 := l.take off ++ (m ++ l.drop (off + m.length))
theorem overB_length (l : List UInt8) (off : Nat) (m : List UInt8) (h : off + m.length ≤ l.length) : (overB l off m).length = l.length := by simp [overB]; omega

/-- 'copy(dst, t)' from a text that fits, dst within a row of bytes. -/
theorem run_copy_text {P : Program} (w : World) (dT sT ty elem : TypeId) (g o dLen dCap : Nat) (s : ByteArray) (l : List UInt8) (t : TypeId)
    (hu : P.underlying dT = some (.slice elem)) (hs : (P.info? elem).map (·.size) = some 1) (hg : RowB w g t l) (hle : s.size ≤ dLen) (hfit : o + s.size ≤ l.length) :
    (Builtin.copy_ #[dT, sT] ty #[.slice (some ⟨g, o, none⟩) dLen dCap, .string s]).run P w =
      .ok (goInt s.size) (w.setRow g (cellsB (overB l o s.data.toList)).toArray) := by
  have hss : s.data.toList.length = s.size := by simp
  have hlen : (cellsB s.data.toList).length = s.size := by rw [cellsB_length, hss]
  have hst := run_storeCells_at P g o t (cellsB s.data.toList) 0 (cellsB l).toArray w hg (by rw [hlen]; simpa [cellsB_length] using hfit) (cellsB_one _)
  have hmin : Nat.min s.size dLen = s.size := Nat.min_eq_left hle
  have htk : List.take s.size (List.map (fun b : UInt8 => Value.int IntKind.u8 (b.toNat : Int)) s.data.toList) = cellsB s.data.toList := by
    rw [List.take_of_length_le (by rw [List.length_map, hss]; exact Nat.le_refl _)]
    rfl
  rw [hlen] at hst
  simp only [Nat.add_zero] at hst
  have hover : (cellsB (overB l o s.data.toList)).toArray = (List.take o (cellsB l).toArray.toList ++ cellsB s.data.toList ++ List.drop (o + s.size) (cellsB l).toArray.toList).toArray := by
    rw [overB, cellsB_append, cellsB_append, cellsB_take, cellsB_drop, hss, List.append_assoc]
  cases hq : P.info? elem with
  | none => simp [hq] at hs
  | some i =>
    simp [Builtin.copy_, run_underlying hu, Builtin.lenOf, Builtin.firstCells, sizeOf, typeInfo, hq, hmin]
    rw [htk, hst, hover]
    simp [Result.andThen]

theorem run_copy_text_none {P : Program} (w : World) (dT sT ty elem : TypeId) (d : Option Addr) (dLen dCap : Nat) (s : ByteArray)
    (hu : P.underlying dT = some (.slice elem)) (hs : (P.info? elem).map (·.size) = some 1) (h0 : s.size = 0) :
    (Builtin.copy_ #[dT, sT] ty #[.slice d dLen dCap, .string s]).run P w = .ok (goInt 0) w := by
  cases hq : P.info? elem with
  | none => simp [hq] at hs
  | some i =>
    cases d <;> simp [Builtin.copy_, run_underlying hu, Builtin.lenOf, Builtin.firstCells, sizeOf, typeInfo, hq, h0, storeCells]

/-- The same, with what becomes of the world: laid ahead of the walk as an equation. -/
theorem copy_text_run {P : Program} {w : World} (dT sT ty elem : TypeId) (hu : P.underlying dT = some (.slice elem)) (hsz : (P.info? elem).map (·.size) = some 1)
    (dp : Option Addr) (dLen dCap : Nat) (t : ByteArray) {g : Nat} (off : Nat) {l : List UInt8} {e : TypeId} (hg : RowB w g e l) (hle : t.size ≤ dLen) (hpos : 0 < t.size → dp = some ⟨g, off, none⟩) (hfit : off + t.size ≤ l.length)
    {B : Nat} {w0 : World} (hb : Below B w0 w) (hBg : B ≤ g) :
    ∃ w', RowB w' g e (overB l off t.data.toList) ∧ Below B w0 w' ∧ w'.heap.size = w.heap.size ∧ (Builtin.copy_ #[dT, sT] ty #[.slice dp dLen dCap, .string t]).run P w = .ok (goInt t.size) w' := by
  by_cases h0 : t.size = 0
  · have hrun := run_copy_text_none (P := P) w dT sT ty elem dp dLen dCap t hu hsz h0
    have hl : t.data.toList = [] := List.eq_nil_of_length_eq_zero (by simpa using h0)
    exact ⟨w, by rw [hl]; simpa [overB] using hg, hb, rfl, by rw [hrun, h0]; rfl⟩
  · obtain rfl := hpos (by omega)
    have hrun := run_copy_text (P := P) w dT sT ty elem g off dLen dCap t l e hu hsz hg hle hfit
    exact ⟨_, setRow_heap w g _ _ e _ hg, below_setRow hb hBg _, by simp [World.setRow], hrun⟩

/-- 'make([]byte, n)'. -/
theorem wpList_make_bytes {P : Program} {w : World} {ops : Array Oper} {rest : List Oper} {o : Oper} {a : Act} {Q : Exit → Act → World → Prop}
    (hgd : o.guard = none) (l c : Operand) (t : TypeId) (hop : o.op = Op.makeSlice t l c)
    (e : TypeId) (ht : P.underlying t = some (.slice e)) (hi : (P.info? e).map (fun i => (i.zero, i.size, i.bytes)) = some (some (.int .u8 0), 1, 1))
    (L : Int) (n : Nat) (hl : a.eval l = .int .i64 L) (hc : a.eval c = .int .i64 L) (hL : L = (n : Int)) (hn : n ≤ 100000000000000)
    (B : Nat) (w0 : World) (hb : Below B w0 w) (hB : B ≤ w.heap.size)
    (h : ∀ w', RowB w' w.heap.size e (List.replicate n 0) → Below B w0 w' → w.heap.size < w'.heap.size → wpList P ops Q rest (a.put o.dst (.slice (some ⟨w.heap.size, 0, none⟩) n n)) w') : wpList P ops Q (o :: rest) a w := by
  obtain ⟨i0, hi0, hz0, hz1, hz2⟩ := info_parts hi
  refine wpList_make_full w hgd l c t hop B e i0 (.int .u8 0) 1 ht hi0 hz0 hz1 .i64 .i64 L L n hl hc hL hL (by rw [hz2]; omega) (by unfold maxLen; omega) hB ?_
  intro w' hown hgrow
  rcases hown.2 with ⟨h', _⟩ | ⟨g, cap, cur, h', hbg, hg, hnc, hcm, hcs, htake⟩
  · simp at h'
  · simp only [Value.slice.injEq, Option.some.injEq, Addr.mk.injEq, and_true, true_and] at h'
    obtain ⟨rfl, rfl⟩ := h'
    refine h w' ?_ (hb.trans ((Below.refl B w).grown hgrow hB (by intro k hk; cases hk))) ((Array.getElem?_eq_some_iff.1 hg).1)
    unfold RowB
    rw [hg]
    have e1 : cur.toList = (madeCells (Value.int IntKind.u8 0).cells (n * 1)).toList := by
      rw [← htake, List.take_of_length_le (by simp [hcs])]
    have e2 : (madeCells (Value.int IntKind.u8 0).cells (n * 1)).toList = cellsB (List.replicate n 0) := by
      simp [cellsB, madeCells, Value.cells]
      rw [List.eq_replicate_iff]
      simp [Nat.mod_one]
    rw [e2] at e1
    rw [← e1]
end Go.Proofs.Ytflmbkjnlgibnaa
/- Small laws on bits: all ones put against a number. -/
namespace Go.Proofs.Ytflmbkjnlgibnaa
theorem nat_ones_xor (n x : Nat) (h : x < 2 ^ n) : (2 ^ n - 1) ^^^ x = 2 ^ n - 1 - x := by
  have e := congrArg BitVec.toNat (BitVec.allOnes_xor (x := BitVec.ofNat n x))
  simp only [BitVec.toNat_xor, BitVec.toNat_allOnes, BitVec.toNat_ofNat, BitVec.toNat_not, Nat.mod_eq_of_lt h] at e
  exact e
theorem ones_u64 (x : Int) (h0 : 0 ≤ x) (h1 : x < 18446744073709551616) : bits .xor .u64 IntKind.u64.max x = 18446744073709551615 - x := by
  have em : IntKind.u64.max = 18446744073709551615 := by decide
  rw [em, u64_xor _ _ (by omega) (by omega) h0 h1]
  have := nat_ones_xor 64 x.toNat (by omega)
  rw [show (18446744073709551615 : Int).toNat = 2 ^ 64 - 1 by decide, this]
  omega
theorem ones_u32 (x : Int) (h0 : 0 ≤ x) (h1 : x < 4294967296) : bits .xor .u32 IntKind.u32.max x = 4294967295 - x := by
  have em : IntKind.u32.max = 4294967295 := by decide
  rw [em, u32_xor _ _ (by omega) (by omega) h0 h1]
  have := nat_ones_xor 32 x.toNat (by omega)
  rw [show (4294967295 : Int).toNat = 2 ^ 32 - 1 by decide, this]
  omega
theorem fold_neg (n : Int) (h0 : -9223372036854775808 ≤ n) (h : n < 0) : bits .xor .u64 IntKind.u64.max (IntKind.u64.wrap (IntKind.u64.wrap n * 2)) = -2 * n - 1 := by
  rw [IntKind.wrap_u64, IntKind.wrap_u64, ones_u64 _ (by omega) (by omega)]
  omega
end Go.Proofs.Ytflmbkjnlgibnaa
/- Small facts on this translation and on ends of calls. -/
namespace Go.Proofs.Ytflmbkjnlgibnaa
open Go.RowKit

theorem ret_u64 {a b : Int} (h : a = b) : Ending.returned (.int .u64 a) = .returned (.int .u64 b) := by rw [h]
theorem ret_u32 {a b : Int} (h : a = b) : Ending.returned (.int .u32 a) = .returned (.int .u32 b) := by rw [h]
theorem ret_i64 {a b : Int} (h : a = b) : Ending.returned (.int .i64 a) = .returned (.int .i64 b) := by rw [h]
theorem ret_bool {a b : Bool} (h : a = b) : Ending.returned (.bool a) = .returned (.bool b) := by rw [h]
theorem bounds_i64 {n : Int} (h : (Lit.int .i64 n).wf = true) : -9223372036854775808 ≤ n ∧ n ≤ 9223372036854775807 := by
  simp [Lit.wf, IntKind.min, IntKind.max, IntKind.bits, IntKind.signed] at h; omega
theorem take_next (s : ByteArray) (k : Nat) (h : k < s.size) : s.data.toList.take (k + 1) = s.data.toList.take k ++ [s[k]] := by
  rw [List.take_succ_eq_append_getElem (by simpa using h)]; rfl
theorem take_all (s : ByteArray) (k : Nat) (h : ¬ k < s.size) : s.data.toList.take k = s.data.toList := List.take_of_length_le (by simp; omega)
theorem wrap_i64_in (x : Int) (h0 : -9223372036854775808 ≤ x) (h1 : x ≤ 9223372036854775807) : IntKind.i64.wrap x = x := by
  rw [IntKind.wrap_i64]; omega
theorem bcell {W w1 : World} (hb : Below W.heap.size W w1) : (∀ b o, b < W.heap.size → w1.cell? ⟨b, o, none⟩ = W.cell? ⟨b, o, none⟩) ∧ (∀ b o, b < W.heap.size → w1.frozen? ⟨b, o, none⟩ = W.frozen? ⟨b, o, none⟩) :=
  ⟨fun b o h => hb.cell (p := ⟨b, o, none⟩) h, fun b o h => hb.frozen (p := ⟨b, o, none⟩) h⟩
theorem text_ne {a b : ByteArray} (h : a ≠ b) : (a.toList == b.toList) = false := by
  rw [ByteArray.toList_eq, ByteArray.toList_eq]
  simp only [beq_eq_false_iff_ne, ne_eq]
  intro e
  exact h (ByteArray.ext (Array.toList_inj.1 e))
end Go.Proofs.Ytflmbkjnlgibnaa
/- Powers of two of the model, and its look at limits. -/
namespace Go.Proofs.Ytflmbkjnlgibnaa
open Go.RowKit

theorem wrap64_in (x : Int) (h0 : -9223372036854775808 ≤ x) (h1 : x ≤ 9223372036854775807) : wrap64 x = x := by unfold wrap64; omega
set_option maxRecDepth 100000 in
theorem l03Is_any (n a b : Int) (w : World) :
    Calls Try.prog 42 #[.int .i64 n, .int .i64 a, .int .i64 b] w fun e w' => e = .returned (.bool (decide (a ≤ n ∧ n ≤ b))) ∧ w = w' := by
  by_cases h1 : a ≤ n
  · by_cases h2 : n ≤ b
    · go_enter Try.func42, Try.ntmps42
      go_wp2
      go_ret
      exact ⟨ret_bool (by simp; omega), rfl⟩
    · go_enter Try.func42, Try.ntmps42
      go_wp2
      go_ret
      exact ⟨ret_bool (by simp; omega), rfl⟩
  · go_enter Try.func42, Try.ntmps42
    go_wp2
    go_ret
    exact ⟨ret_bool (by simp; omega), rfl⟩
set_option maxRecDepth 100000 in
theorem l03Pow_any (k : Nat) (w : World) (hk : k ≤ 32) :
    Calls Try.prog 107 #[.int .i64 (k : Int)] w fun e w' => e = .returned (.int .i64 ((2 ^ k : Nat) : Int)) ∧ w = w' := by
  have hb : ∀ j, j ≤ 32 → (2 : Nat) ^ j ≤ 4294967296 := fun j hj => by rw [show (4294967296 : Nat) = 2 ^ 32 from rfl]; exact Nat.pow_le_pow_right (by decide) hj
  have HB : Hid (∀ j, j ≤ 32 → (2 : Nat) ^ j ≤ 4294967296) := hb
  have HS : Hid (∀ j, (2 : Nat) ^ (j + 1) = 2 * 2 ^ j) := fun j => by show _ = _; rw [Nat.pow_succ]; omega
  have H0 : Hid ((2 : Nat) ^ 0 = 1) := rfl
  clear hb
  generalize hP : (fun j : Nat => (2 : Nat) ^ j) = P
  have e : ∀ j : Nat, (2 : Nat) ^ j = P j := fun j => by rw [← hP]
  simp only [e] at HB HS H0 ⊢
  clear e hP
  go_enter Try.func107, Try.ntmps107
  go_wp2_with fail
  go_loop [0, 3] (fun x n => ∃ j : Nat, j ≤ k ∧ x = .int .i64 ((k - j : Nat) : Int) ∧ n = .int .i64 (P j : Int)) (fun x _ => (intOf x).toNat)
  case atStart => exact ⟨0, by omega, rfl, by rw [H0.out]; rfl⟩
  case round =>
    obtain ⟨j, hj, rfl, rfl⟩ := hrel
    by_cases hlt : j < k
    · have hb := HB.out (j + 1) (by omega)
      have hs := HS.out j
      have HSJ : Hid (P (j + 1) = 2 * P j) := hs
      have hb2 : P j ≤ 2147483648 := by omega
      clear hs hb
      go_wp2
      go_round
      case rel => exact ⟨j + 1, by omega, by go_num, by rw [HSJ.out]; go_num⟩
      case measure => simp [intOf]; omega
    · obtain rfl : j = k := by omega
      go_wp2
      go_ret
      exact ⟨rfl, rfl⟩
theorem l03Pow_at (l x : Int) (w : World) (h0 : 0 ≤ l) (h1 : l ≤ 32) (hx : x = 32 - l) :
    Calls Try.prog 107 #[.int .i64 x] w fun e w' => e = .returned (.int .i64 (gap l : Int)) ∧ w = w' := by
  obtain ⟨k, rfl⟩ := Int.eq_ofNat_of_zero_le h0
  have h := l03Pow_any (32 - k) w (by omega)
  rw [show x = ((32 - k : Nat) : Int) by omega]
  exact h
end Go.Proofs.Ytflmbkjnlgibnaa
/- Masks of the program. -/
namespace Go.Proofs.Ytflmbkjnlgibnaa
open Go.RowKit

set_option maxRecDepth 100000 in
theorem implMask_any (l : Int) (w : World) :
    Calls Try.prog 109 #[.int .i64 l] w fun e w' => e = .returned (.int .i64 (maskV l)) ∧ w = w' := by
  by_cases h0 : 0 ≤ l
  · by_cases h1 : l ≤ 32
    · have hd : Hid _ := down_up l h0 h1
      have hr := maskV_range l
      go_enter Try.func109, Try.ntmps109
      go_wp2
      go_ret
      exact ⟨ret_i64 (by rw [hd.out, wrap64_in _ (by omega) (by omega)]), rfl⟩
    · rw [maskV_out l (by omega)]
      go_enter Try.func109, Try.ntmps109
      go_wp2
      go_ret
      exact ⟨rfl, rfl⟩
  · rw [maskV_out l (by omega)]
    go_enter Try.func109, Try.ntmps109
    go_wp2
    go_ret
    exact ⟨rfl, rfl⟩
end Go.Proofs.Ytflmbkjnlgibnaa
/- Is it an address? Asked by the program and by the model. -/
namespace Go.Proofs.Ytflmbkjnlgibnaa
open Go.RowKit

def inAddr (a : Int) : Bool := decide (0 ≤ a ∧ a ≤ 4294967295)
set_option maxRecDepth 100000 in
theorem isAddr_any (a : Int) (w : World) : Calls Try.prog 106 #[.int .i64 a] w fun e w' => e = .returned (.bool (inAddr a)) ∧ w = w' := by
  by_cases h1 : 0 ≤ a
  · by_cases h2 : a ≤ 4294967295
    · go_enter Try.func106, Try.ntmps106
      go_wp2
      go_ret
      exact ⟨ret_bool (by simp [inAddr]; omega), rfl⟩
    · go_enter Try.func106, Try.ntmps106
      go_wp2
      go_ret
      exact ⟨ret_bool (by simp [inAddr]; omega), rfl⟩
  · go_enter Try.func106, Try.ntmps106
    go_wp2
    go_ret
    exact ⟨ret_bool (by simp [inAddr]; omega), rfl⟩
set_option maxRecDepth 100000 in
theorem l03Addr_any (a : Int) (w : World) : Calls Try.prog 89 #[.int .i64 a] w fun e w' => e = .returned (.bool (inAddr a)) ∧ w = w' := by
  have HB : Hid (decide (0 ≤ a ∧ a ≤ 4294967295) = inAddr a) := rfl
  go_enter Try.func89, Try.ntmps89
  go_wp2_with fail
  refine (l03Is_any a 0 4294967295 _).mono ?_
  rintro e w1 ⟨rfl, rfl⟩
  rw [HB.out]
  go_wp2
  go_ret
  exact ⟨rfl, rfl⟩
end Go.Proofs.Ytflmbkjnlgibnaa
/- Nets: made, right, of the program and of the model. -/
namespace Go.Proofs.Ytflmbkjnlgibnaa
open Go.RowKit Go.Sort

theorem quiet_eqA {P : Program} {f : FuncId} {args : Array Value} {w : World} {n : Nat} {v : Value}
    (h : Calls P f args (w.drewN n) fun e w' => e = .returned v ∧ w.drewN n = w') : Calls P f args (w.drewN n) fun e w'' => e = .returned v ∧ ∃ m, w'' = w.drewN m :=
  h.mono fun _ _ ⟨he, hm⟩ => ⟨he, n, hm.symm⟩
theorem cell2_0 (w : World) (x y : Value) (t : TypeId) : (w.alloc (.cells #[x, y] t)).cell? ⟨w.heap.size, 0, none⟩ = some x := by
  rw [cell_of_row _ _ _ _ t _ (heap_alloc_new w _)]; simp
theorem cell2_1 (w : World) (x y : Value) (t : TypeId) : (w.alloc (.cells #[x, y] t)).cell? ⟨w.heap.size, 1, none⟩ = some y := by
  rw [cell_of_row _ _ _ _ t _ (heap_alloc_new w _)]; simp
theorem cell2_later {w w0 w1 : World} {x y : Value} {t : TypeId} (h0 : w0 = w.alloc (.cells #[x, y] t)) (h : Below w0.heap.size w0 w1) : w1.cell? ⟨w.heap.size, 0, none⟩ = some x ∧ w1.cell? ⟨w.heap.size, 1, none⟩ = some y ∧ w.heap.size < w1.heap.size ∧ Below w.heap.size w w1 := by
  subst h0
  refine ⟨?_, ?_, ?_, ?_⟩
  · rw [h.cell (p := ⟨w.heap.size, 0, none⟩) (by simp)]; exact cell2_0 w x y t
  · rw [h.cell (p := ⟨w.heap.size, 1, none⟩) (by simp)]; exact cell2_1 w x y t
  · have := h.size; simp at this; omega
  · exact ((Below.refl _ _).alloc (Nat.le_refl _) _).trans (h.mono (by simp))
theorem cell2_laterH {w w0 w1 : World} {x y : Value} {t : TypeId} (h0 : w0.heap = (w.alloc (.cells #[x, y] t)).heap) (hb : Below w.heap.size w w0) (h : Below w0.heap.size w0 w1) : w1.cell? ⟨w.heap.size, 0, none⟩ = some x ∧ w1.cell? ⟨w.heap.size, 1, none⟩ = some y ∧ w.heap.size < w1.heap.size ∧ Below w.heap.size w w1 := by
  have hz : w0.heap.size = w.heap.size + 1 := by rw [h0]; simp
  have hr : w0.heap[w.heap.size]? = some (.cells #[x, y] t) := by rw [h0]; exact heap_alloc_new w _
  refine ⟨?_, ?_, ?_, ?_⟩
  · rw [h.cell (p := ⟨w.heap.size, 0, none⟩) (by simp [hz]), cell_of_row _ _ _ _ t _ hr]; simp
  · rw [h.cell (p := ⟨w.heap.size, 1, none⟩) (by simp [hz]), cell_of_row _ _ _ _ t _ hr]; simp
  · have := h.size; omega
  · exact hb.trans (h.mono (by omega))
def netV (a l : Int) : Value := .agg #[.int .i64 a, .int .i64 l]
def inLen (l : Int) : Bool := decide (0 ≤ l ∧ l ≤ 32)
def netA (a l : Int) : Int := if 0 ≤ a ∧ a ≤ 4294967295 ∧ 0 ≤ l ∧ l ≤ 32 then cutV a l else 0
def netN (a l : Int) : Int := if 0 ≤ a ∧ a ≤ 4294967295 ∧ 0 ≤ l ∧ l ≤ 32 then l else 0
def rightB (a l : Int) : Bool := decide (0 ≤ a ∧ a ≤ 4294967295 ∧ 0 ≤ l ∧ l ≤ 32 ∧ cutV a l = a)
theorem netA_in {a l : Int} (h : 0 ≤ a ∧ a ≤ 4294967295 ∧ 0 ≤ l ∧ l ≤ 32) : netA a l = cutV a l := if_pos h
theorem netN_in {a l : Int} (h : 0 ≤ a ∧ a ≤ 4294967295 ∧ 0 ≤ l ∧ l ≤ 32) : netN a l = l := if_pos h
theorem netA_out {a l : Int} (h : ¬ (0 ≤ a ∧ a ≤ 4294967295 ∧ 0 ≤ l ∧ l ≤ 32)) : netA a l = 0 := if_neg h
theorem netN_out {a l : Int} (h : ¬ (0 ≤ a ∧ a ≤ 4294967295 ∧ 0 ≤ l ∧ l ≤ 32)) : netN a l = 0 := if_neg h
/-- A net is what is made of its address and its length just where it is right. -/
theorem right_iff (a l : Int) : rightB a l = (netA a l == a && netN a l == l) := by
  unfold rightB
  by_cases h : 0 ≤ a ∧ a ≤ 4294967295 ∧ 0 ≤ l ∧ l ≤ 32
  · rw [netA_in h, netN_in h]
    by_cases hc : cutV a l = a
    · simp [h, hc]
    · simp [hc]
  · rw [netA_out h, netN_out h]
    have h2 : ¬ (0 ≤ a ∧ a ≤ 4294967295 ∧ 0 ≤ l ∧ l ≤ 32 ∧ cutV a l = a) := fun e => h ⟨e.1, e.2.1, e.2.2.1, e.2.2.2.1⟩
    rw [decide_eq_false h2]
    symm
    by_cases ha : a = 0
    · subst ha
      have : ¬ (0 : Int) = l := by omega
      simp [this]
    · have : ¬ (0 : Int) = a := fun e => ha e.symm
      simp [this]
set_option maxRecDepth 100000 in
theorem l03Cut_any (a l : Int) (w : World) (h0 : 0 ≤ a) (h1 : a ≤ 4294967295) (hl0 : 0 ≤ l) (hl1 : l ≤ 32) :
    Calls Try.prog 93 #[.int .i64 a, .int .i64 l] w fun e w' => e = .returned (.int .i64 (cutV a l)) ∧ w = w' := by
  have HC : Hid (∀ w, Calls Try.prog 107 #[.int .i64 (32 - l)] w fun e w' => e = .returned (.int .i64 (gap l : Int)) ∧ w = w') := fun w => l03Pow_at l (32 - l) w hl0 hl1 rfl
  have hg1 := gap_pos l
  have hg2 := gap_le l
  have hcl := cutV_le a l h0
  have HV : Hid (cutV a l = a / (gap l : Int) * (gap l : Int)) := rfl
  have hgz : (((gap l : Nat) : Int) == 0) = false := by simp; omega
  have ht : a.tdiv (gap l : Int) = a / (gap l : Int) := Int.tdiv_eq_ediv_of_nonneg h0
  have hq0 : 0 ≤ a / (gap l : Int) := Int.ediv_nonneg h0 (by omega)
  have hq1 : a / (gap l : Int) ≤ a := Int.ediv_le_self _ h0
  have HT : Hid _ := ht
  generalize gap l = G at *
  generalize cutV a l = C at *
  go_enter Try.func93, Try.ntmps93
  go_wp2_with fail
  refine (HC.out _).mono ?_
  rintro e w1 ⟨rfl, rfl⟩
  go_wp2
  go_ret
  exact ⟨ret_i64 (by rw [← HV.out, wrap64_in _ (by omega) (by omega)]), rfl⟩
theorem isLen_dec (l : Int) : inLen l = decide (0 ≤ l ∧ l ≤ 32) := rfl
set_option maxRecDepth 100000 in
theorem isLen_any (a : Int) (w : World) : Calls Try.prog 108 #[.int .i64 a] w fun e w' => e = .returned (.bool (inLen a)) ∧ w = w' := by
  by_cases h1 : 0 ≤ a
  · by_cases h2 : a ≤ 32
    · go_enter Try.func108, Try.ntmps108
      go_wp2
      go_ret
      exact ⟨ret_bool (by simp [inLen]; omega), rfl⟩
    · go_enter Try.func108, Try.ntmps108
      go_wp2
      go_ret
      exact ⟨ret_bool (by simp [inLen]; omega), rfl⟩
  · go_enter Try.func108, Try.ntmps108
    go_wp2
    go_ret
    exact ⟨ret_bool (by simp [inLen]; omega), rfl⟩
set_option maxRecDepth 100000 in
theorem implNetOf_at (a l : Int) (w : World) : Calls Try.prog 94 #[.int .i64 a, .int .i64 l] w fun e w' => e = .returned (netV (netA a l) (netN a l)) ∧ w.alloc (.cells #[.int .i64 (netA a l), .int .i64 (netN a l)] 62) = w' := by
  have HI : Hid (∀ w, Calls Try.prog 106 #[.int .i64 a] w fun e w' => e = .returned (.bool (inAddr a)) ∧ w = w') := isAddr_any a
  have HJ : Hid (∀ w, Calls Try.prog 108 #[.int .i64 l] w fun e w' => e = .returned (.bool (inLen l)) ∧ w = w') := isLen_any l
  have HM : Hid (∀ w, Calls Try.prog 109 #[.int .i64 l] w fun e w' => e = .returned (.int .i64 (maskV l)) ∧ w = w') := implMask_any l
  by_cases h : 0 ≤ a ∧ a ≤ 4294967295 ∧ 0 ≤ l ∧ l ≤ 32
  · have HA : Hid _ := and_mask a l h.1 h.2.1 h.2.2.1 h.2.2.2
    rw [netA_in h, netN_in h]
    have ha : inAddr a = true := by simp [inAddr]; omega
    have hl : inLen l = true := by simp [inLen]; omega
    rw [ha] at HI
    rw [hl] at HJ
    clear ha hl h
    generalize maskV l = M at *
    generalize cutV a l = C at *
    unfold netV
    go_enter Try.func94, Try.ntmps94
    go_wp2_with fail
    refine (HI.out _).mono ?_
    rintro e w1 ⟨rfl, rfl⟩
    go_wp2_with fail
    refine (HJ.out _).mono ?_
    rintro e w1 ⟨rfl, rfl⟩
    go_wp2_with fail
    refine (HM.out _).mono ?_
    rintro e w1 ⟨rfl, rfl⟩
    go_wp2
    refine bodyPost_ret (v := .agg #[.int .i64 C, .int .i64 l]) (by rw [← HA.out]; simp [results, Try.results94, go_sem]) rfl ⟨rfl, by rw [← HA.out]⟩
  · rw [netA_out h, netN_out h]
    unfold netV
    by_cases ha : 0 ≤ a ∧ a ≤ 4294967295
    · have hl : inLen l = false := by simp [inLen]; omega
      have ha' : inAddr a = true := by simp [inAddr]; omega
      rw [ha'] at HI
      rw [hl] at HJ
      clear ha hl h HM ha'
      go_enter Try.func94, Try.ntmps94
      go_wp2_with fail
      refine (HI.out _).mono ?_
      rintro e w1 ⟨rfl, rfl⟩
      go_wp2_with fail
      refine (HJ.out _).mono ?_
      rintro e w1 ⟨rfl, rfl⟩
      go_wp2
      refine bodyPost_ret (v := .agg #[.int .i64 0, .int .i64 0]) (by simp [results, Try.results94, go_sem]) rfl ⟨rfl, rfl⟩
    · have ha' : inAddr a = false := by simp [inAddr]; omega
      rw [ha'] at HI
      clear ha h HM ha' HJ
      go_enter Try.func94, Try.ntmps94
      go_wp2_with fail
      refine (HI.out _).mono ?_
      rintro e w1 ⟨rfl, rfl⟩
      go_wp2
      refine bodyPost_ret (v := .agg #[.int .i64 0, .int .i64 0]) (by simp [results, Try.results94, go_sem]) rfl ⟨rfl, rfl⟩
theorem implNetOf_any (a l : Int) (w : World) : Calls Try.prog 94 #[.int .i64 a, .int .i64 l] w fun e w' => e = .returned (netV (netA a l) (netN a l)) ∧ Below w.heap.size w w' :=
  (implNetOf_at a l w).mono fun _ _ ⟨he, hw⟩ => ⟨he, hw ▸ (Below.refl _ _).alloc (Nat.le_refl _) _⟩
set_option maxRecDepth 100000 in
theorem implRight_any (a l : Int) (w : World) : Calls Try.prog 66 #[netV a l] w fun e w' => e = .returned (.bool (rightB a l)) ∧ Below w.heap.size w w' := by
  have HR : Hid _ := right_iff a l
  have HN : Hid (∀ w, Calls Try.prog 94 #[.int .i64 a, .int .i64 l] w fun e w' => e = .returned (netV (netA a l) (netN a l)) ∧ Below w.heap.size w w') := implNetOf_any a l
  generalize rightB a l = R at *
  generalize netA a l = A at *
  generalize netN a l = N at *
  unfold netV at *
  obtain ⟨b1, e1⟩ : ∃ b, (A == a) = b := ⟨_, rfl⟩
  obtain ⟨b2, e2⟩ : ∃ b, (N == l) = b := ⟨_, rfl⟩
  rw [e1, e2] at HR
  have cN : ∀ d os, Calls Try.prog 94 #[.int .i64 a, .int .i64 l] (grow (redrawn (w.alloc (.cells #[.int .i64 a, .int .i64 l] 62)) d) os) fun e w'' => e = .returned (.agg #[.int .i64 A, .int .i64 N]) ∧ ∃ p : Regrown, w'' = grow (redrawn (w.alloc (.cells #[.int .i64 a, .int .i64 l] 62)) p.d) p.os := fun d os => Calls.regrown_of (HN.out _)
  have HC : Hid _ := cN
  clear cN
  have k0 := cell_regrown (cell2_0 w (.int .i64 a) (.int .i64 l) 62)
  have k1 := cell_regrown (cell2_1 w (.int .i64 a) (.int .i64 l) 62)
  cases b1 <;> cases b2
  all_goals
    go_enter Try.func66, Try.ntmps66
    go_wp2_with fail
    refine wp_region_quiet_below (by kernel_rfl) (by kernel_rfl) ?_
    repeat (go_big_quiet_step (exact HC.out _ _))
    refine wpQuiet_nil ?_
    intro _ hw'
    obtain ⟨⟨dq, osq⟩, hw''⟩ := hw'
    subst hw''
    go_wp2
    go_ret
    exact ⟨ret_bool (by rw [HR.out]; rfl), ((Below.refl _ _).alloc (Nat.le_refl _) _).trans ((below_regrown _ dq osq).mono (by simp))⟩
set_option maxRecDepth 100000 in
theorem specRight_any (a l : Int) (w : World) : Calls Try.prog 63 #[netV a l] w fun e w' => e = .returned (.bool (rightB a l)) ∧ Below w.heap.size w w' := by
  have HI : Hid (∀ w, Calls Try.prog 89 #[.int .i64 a] w fun e w' => e = .returned (.bool (inAddr a)) ∧ w = w') := l03Addr_any a
  have HJ : Hid (∀ w, Calls Try.prog 42 #[.int .i64 l, .int .i64 0, .int .i64 32] w fun e w' => e = .returned (.bool (inLen l)) ∧ w = w') := l03Is_any l 0 32
  unfold netV
  by_cases ha : 0 ≤ a ∧ a ≤ 4294967295
  · have ha' : inAddr a = true := by simp [inAddr]; omega
    rw [ha'] at HI
    by_cases hl : 0 ≤ l ∧ l ≤ 32
    · have hl' : inLen l = true := by simp [inLen]; omega
      rw [hl'] at HJ
      have HM : Hid (∀ w, Calls Try.prog 93 #[.int .i64 a, .int .i64 l] w fun e w' => e = .returned (.int .i64 (cutV a l)) ∧ w = w') := fun w => l03Cut_any a l w ha.1 ha.2 hl.1 hl.2
      have HR : Hid ((cutV a l == a) = rightB a l) := by
        show _ = _
        unfold rightB
        by_cases hc : cutV a l = a
        · simp [hc]; omega
        · simp [hc]
      clear ha hl ha' hl'
      generalize rightB a l = R at *
      generalize cutV a l = C at *
      go_enter Try.func63, Try.ntmps63
      go_wp2_with fail
      go_quiet ((first | (go_at_call 89; exact quiet_eqA (HI.out _)) | (go_at_call 42; exact quiet_eqA (HJ.out _)) | (go_at_call 93; exact quiet_eqA (HM.out _))))
      go_wp2
      go_ret
      exact ⟨ret_bool HR.out, below_drewN ((Below.refl _ _).alloc (Nat.le_refl _) _) _⟩
    · have hl' : inLen l = false := by simp [inLen]; omega
      rw [hl'] at HJ
      have HR : Hid (rightB a l = false) := by show _ = _; simp [rightB]; omega
      clear ha hl ha' hl'
      generalize rightB a l = R at *
      go_enter Try.func63, Try.ntmps63
      go_wp2_with fail
      go_quiet ((first | (go_at_call 89; exact quiet_eqA (HI.out _)) | (go_at_call 42; exact quiet_eqA (HJ.out _))))
      go_wp2
      go_ret
      exact ⟨ret_bool HR.out.symm, below_drewN ((Below.refl _ _).alloc (Nat.le_refl _) _) _⟩
  · have ha' : inAddr a = false := by simp [inAddr]; omega
    rw [ha'] at HI
    have HR : Hid (rightB a l = false) := by show _ = _; simp [rightB]; omega
    clear ha ha' HJ
    generalize rightB a l = R at *
    go_enter Try.func63, Try.ntmps63
    go_wp2_with fail
    go_quiet ((go_at_call 89; exact quiet_eqA (HI.out _)))
    go_wp2
    go_ret
    exact ⟨ret_bool HR.out.symm, below_drewN ((Below.refl _ _).alloc (Nat.le_refl _) _) _⟩
end Go.Proofs.Ytflmbkjnlgibnaa
/- Covers, of the program and of the model. -/
namespace Go.Proofs.Ytflmbkjnlgibnaa
open Go.RowKit Go.Sort

def coversB (a l x : Int) : Bool := rightB a l && (inAddr x && cutV x l == a)
theorem covers_iff (a l x : Int) (hr : rightB a l = true) (hx : inAddr x = true) : (netA x l == a && netN x l == l) = coversB a l x := by
  have h : 0 ≤ a ∧ a ≤ 4294967295 ∧ 0 ≤ l ∧ l ≤ 32 ∧ cutV a l = a := by simpa [rightB] using hr
  have h2 : 0 ≤ x ∧ x ≤ 4294967295 := by simpa [inAddr] using hx
  have h3 : 0 ≤ x ∧ x ≤ 4294967295 ∧ 0 ≤ l ∧ l ≤ 32 := ⟨h2.1, h2.2, h.2.2.1, h.2.2.2.1⟩
  unfold coversB
  rw [netA_in h3, netN_in h3, hr, hx]
  simp
theorem same_below {P : Program} {f : FuncId} {args : Array Value} {w : World} {v : Value} (h : Calls P f args w fun e w' => e = .returned v ∧ w = w') : Calls P f args w fun e w' => e = .returned v ∧ Below w.heap.size w w' :=
  h.mono fun _ _ ⟨he, hw⟩ => ⟨he, hw ▸ Below.refl _ _⟩
theorem k2 (w : World) (x y : Value) (t : TypeId) : (∀ d os, (grow (redrawn (w.alloc (.cells #[x, y] t)) d) os).cell? ⟨w.heap.size, 0, none⟩ = some x) ∧ (∀ d os, (grow (redrawn (w.alloc (.cells #[x, y] t)) d) os).cell? ⟨w.heap.size, 1, none⟩ = some y) :=
  ⟨cell_regrown (cell2_0 w x y t), cell_regrown (cell2_1 w x y t)⟩
set_option maxRecDepth 100000 in
theorem implCovers_any (a l x : Int) (w : World) : Calls Try.prog 91 #[netV a l, .int .i64 x] w fun e w' => e = .returned (.bool (coversB a l x)) ∧ Below w.heap.size w w' := by
  have HN : Hid (∀ w, Calls Try.prog 94 #[.int .i64 x, .int .i64 l] w fun e w' => e = .returned (netV (netA x l) (netN x l)) ∧ Below w.heap.size w w') := implNetOf_any x l
  have HR : Hid (∀ w, Calls Try.prog 66 #[netV a l] w fun e w' => e = .returned (.bool (rightB a l)) ∧ Below w.heap.size w w') := implRight_any a l
  have HA : Hid (∀ w, Calls Try.prog 106 #[.int .i64 x] w fun e w' => e = .returned (.bool (inAddr x)) ∧ w = w') := isAddr_any x
  obtain ⟨k0, k1⟩ := k2 w (.int .i64 a) (.int .i64 l) 62
  by_cases hr : rightB a l = true
  · by_cases hx : inAddr x = true
    · have HC : Hid _ := covers_iff a l x hr hx
      rw [hr] at HR
      rw [hx] at HA
      generalize coversB a l x = R at *
      generalize netA x l = A at *
      generalize netN x l = N at *
      unfold netV at *
      clear hr hx
      obtain ⟨b1, e1⟩ : ∃ b, (A == a) = b := ⟨_, rfl⟩
      obtain ⟨b2, e2⟩ : ∃ b, (N == l) = b := ⟨_, rfl⟩
      rw [e1, e2] at HC
      cases b1 <;> cases b2
      all_goals
        go_enter Try.func91, Try.ntmps91
        go_wp2_with fail
        refine wp_region_quiet_below (by kernel_rfl) (by kernel_rfl) ?_
        repeat (go_big_quiet_step (first | (go_at_call 66; exact Calls.regrown_of (HR.out _)) | (go_at_call 106; exact Calls.regrown_of (same_below (HA.out _))) | (go_at_call 94; exact Calls.regrown_of (HN.out _))))
        refine wpQuiet_nil ?_
        intro _ hw'
        obtain ⟨⟨dq, osq⟩, hw''⟩ := hw'
        subst hw''
        go_wp2
        go_ret
        exact ⟨ret_bool (by rw [← HC.out]; rfl), ((Below.refl _ _).alloc (Nat.le_refl _) _).trans ((below_regrown _ dq osq).mono (by simp))⟩
    · have hx' : inAddr x = false := by simpa using hx
      have HC : Hid (coversB a l x = false) := by show _ = _; unfold coversB; rw [hx']; simp
      rw [hr] at HR
      rw [hx'] at HA
      generalize coversB a l x = R at *
      unfold netV at *
      clear hr hx hx' HN
      go_enter Try.func91, Try.ntmps91
      go_wp2_with fail
      refine wp_region_quiet_below (by kernel_rfl) (by kernel_rfl) ?_
      repeat (go_big_quiet_step (first | (go_at_call 66; exact Calls.regrown_of (HR.out _)) | (go_at_call 106; exact Calls.regrown_of (same_below (HA.out _)))))
      refine wpQuiet_nil ?_
      intro _ hw'
      obtain ⟨⟨dq, osq⟩, hw''⟩ := hw'
      subst hw''
      go_wp2
      go_ret
      exact ⟨ret_bool HC.out.symm, ((Below.refl _ _).alloc (Nat.le_refl _) _).trans ((below_regrown _ dq osq).mono (by simp))⟩
  · have hr' : rightB a l = false := by simpa using hr
    have HC : Hid (coversB a l x = false) := by show _ = _; unfold coversB; rw [hr']; simp
    rw [hr'] at HR
    generalize coversB a l x = R at *
    unfold netV at *
    clear hr hr' HN HA
    go_enter Try.func91, Try.ntmps91
    go_wp2_with fail
    refine wp_region_quiet_below (by kernel_rfl) (by kernel_rfl) ?_
    repeat (go_big_quiet_step ((go_at_call 66; exact Calls.regrown_of (HR.out _))))
    refine wpQuiet_nil ?_
    intro _ hw'
    obtain ⟨⟨dq, osq⟩, hw''⟩ := hw'
    subst hw''
    go_wp2
    go_ret
    exact ⟨ret_bool HC.out.symm, ((Below.refl _ _).alloc (Nat.le_refl _) _).trans ((below_regrown _ dq osq).mono (by simp))⟩
end Go.Proofs.Ytflmbkjnlgibnaa
/- The model's look whether a net covers an address. -/
namespace Go.Proofs.Ytflmbkjnlgibnaa
open Go.RowKit Go.Sort

set_option maxRecDepth 100000 in
theorem l03Covers_any (a l x : Int) (w : World) (hx0 : 0 ≤ x) (hx1 : x ≤ 4294967295) (hl0 : 0 ≤ l) (hl1 : l ≤ 32) : Calls Try.prog 90 #[netV a l, .int .i64 x] w fun e w' => e = .returned (.bool (cutV x l == a)) ∧ Below w.heap.size w w' := by
  have HM : Hid (∀ w, Calls Try.prog 93 #[.int .i64 x, .int .i64 l] w fun e w' => e = .returned (.int .i64 (cutV x l)) ∧ w = w') := fun w => l03Cut_any x l w hx0 hx1 hl0 hl1
  generalize cutV x l = C at *
  unfold netV
  go_enter Try.func90, Try.ntmps90
  go_wp2_with fail
  go_quiet ((go_at_call 93; exact quiet_eqA (HM.out _)))
  go_wp2
  go_ret
  exact ⟨rfl, below_drewN ((Below.refl _ _).alloc (Nat.le_refl _) _) _⟩
end Go.Proofs.Ytflmbkjnlgibnaa
/- Covers of the model. -/
namespace Go.Proofs.Ytflmbkjnlgibnaa
open Go.RowKit Go.Sort

set_option maxRecDepth 100000 in
theorem specCovers_any (a l x : Int) (w : World) : Calls Try.prog 95 #[netV a l, .int .i64 x] w fun e w' => e = .returned (.bool (coversB a l x)) ∧ Below w.heap.size w w' := by
  have HR : Hid (∀ w, Calls Try.prog 63 #[netV a l] w fun e w' => e = .returned (.bool (rightB a l)) ∧ Below w.heap.size w w') := specRight_any a l
  have HA : Hid (∀ w, Calls Try.prog 89 #[.int .i64 x] w fun e w' => e = .returned (.bool (inAddr x)) ∧ w = w') := l03Addr_any x
  by_cases hr : rightB a l = true
  · by_cases hx : inAddr x = true
    · have h : 0 ≤ a ∧ a ≤ 4294967295 ∧ 0 ≤ l ∧ l ≤ 32 ∧ cutV a l = a := by simpa [rightB] using hr
      have h2 : 0 ≤ x ∧ x ≤ 4294967295 := by simpa [inAddr] using hx
      have HL : Hid (∀ w, Calls Try.prog 90 #[netV a l, .int .i64 x] w fun e w' => e = .returned (.bool (coversB a l x)) ∧ Below w.heap.size w w') := by
        intro w
        have := l03Covers_any a l x w h2.1 h2.2 h.2.2.1 h.2.2.2.1
        unfold coversB
        rw [hr, hx]
        simpa using this
      rw [hr] at HR
      rw [hx] at HA
      clear h h2 hr hx
      generalize coversB a l x = R at *
      unfold netV at *
      go_enter Try.func95, Try.ntmps95
      go_wp2_with fail
      refine (HR.out _).mono ?_
      rintro e w1 ⟨rfl, hb1⟩
      obtain ⟨c0, c1, hs1, hB1⟩ := cell2_later rfl hb1
      clear hb1
      go_wp2_with fail
      refine (HA.out _).mono ?_
      rintro e w2 ⟨rfl, rfl⟩
      go_wp2_with fail
      refine (HL.out _).mono ?_
      rintro e w2 ⟨rfl, hb2⟩
      go_wp2
      go_ret
      exact ⟨rfl, hB1.trans (hb2.mono hB1.size)⟩
    · have hx' : inAddr x = false := by simpa using hx
      have HC : Hid (coversB a l x = false) := by show _ = _; unfold coversB; rw [hx']; simp
      rw [hr] at HR
      rw [hx'] at HA
      clear hr hx hx'
      generalize coversB a l x = R at *
      unfold netV at *
      go_enter Try.func95, Try.ntmps95
      go_wp2_with fail
      refine (HR.out _).mono ?_
      rintro e w1 ⟨rfl, hb1⟩
      obtain ⟨c0, c1, hs1, hB1⟩ := cell2_later rfl hb1
      clear hb1
      go_wp2_with fail
      refine (HA.out _).mono ?_
      rintro e w2 ⟨rfl, rfl⟩
      go_wp2
      go_ret
      exact ⟨ret_bool HC.out.symm, hB1⟩
  · have hr' : rightB a l = false := by simpa using hr
    have HC : Hid (coversB a l x = false) := by show _ = _; unfold coversB; rw [hr']; simp
    rw [hr'] at HR
    clear hr hr' HA
    generalize coversB a l x = R at *
    unfold netV at *
    go_enter Try.func95, Try.ntmps95
    go_wp2_with fail
    refine (HR.out _).mono ?_
    rintro e w1 ⟨rfl, hb1⟩
    obtain ⟨c0, c1, hs1, hB1⟩ := cell2_later rfl hb1
    clear hb1
    go_wp2
    go_ret
    exact ⟨ret_bool HC.out.symm, hB1⟩
end Go.Proofs.Ytflmbkjnlgibnaa
/- Rows of one-cell values that a call makes itself. -/
namespace Go.Proofs.Ytflmbkjnlgibnaa
open Go.RowKit

/-- Block g holds just the cells l, of type t, none of them frozen. -/
def Row (w : World) (g : Nat) (t : TypeId) (l : List Value) : Prop := w.heap[g]? = some (.cells l.toArray t (0, 0))
theorem Row.lt {w : World} {g : Nat} {t : TypeId} {l : List Value} (h : Row w g t l) : g < w.heap.size := (Array.getElem?_eq_some_iff.1 h).1
theorem Row.cell {w : World} {g : Nat} {t : TypeId} {l : List Value} (h : Row w g t l) (k : Nat) : w.cell? ⟨g, k, none⟩ = l[k]? := by
  rw [cell_of_row w g k _ t _ h]; simp
theorem Row.frozen {w : World} {g : Nat} {t : TypeId} {l : List Value} (h : Row w g t l) (k : Nat) : w.frozen? ⟨g, k, none⟩ = false := by
  unfold World.frozen?
  have h' : w.heap[g]? = some (.cells l.toArray t (0, 0)) := h
  simp [h']
theorem Row.set {w : World} {g : Nat} {t : TypeId} {l : List Value} (h : Row w g t l) (k : Nat) (v : Value) : Row (w.setCell ⟨g, k, none⟩ v) g t (l.set k v) := by
  unfold Row World.setCell
  have h' : w.heap[g]? = some (.cells l.toArray t (0, 0)) := h
  simp [h', Array.getElem?_modify]
theorem Row.other {w : World} {g g' : Nat} {t : TypeId} {l : List Value} (h : Row w g t l) (k : Nat) (v : Value) (hne : g ≠ g') : Row (w.setCell ⟨g', k, none⟩ v) g t l := by
  unfold Row
  rw [Below.heap_setCell w _ v g hne]
  exact h
theorem Row.drewN {w : World} {g : Nat} {t : TypeId} {l : List Value} (h : Row w g t l) (n : Nat) : Row (w.drewN n) g t l := h
theorem Row.below {B : Nat} {w w' : World} {g : Nat} {t : TypeId} {l : List Value} (h : Row w g t l) (hb : Below B w w') (hg : g < B) : Row w' g t l := by
  unfold Row
  rw [hb.block g hg]
  exact h
theorem Row.alloc {w : World} {g : Nat} {t : TypeId} {l : List Value} (h : Row w g t l) (o : Obj) : Row (w.alloc o) g t l := by
  unfold Row
  rw [Below.heap_alloc w o g h.lt]
  exact h
theorem Row.new (w : World) (t : TypeId) (l : List Value) : Row (w.alloc (.cells l.toArray t (0, 0))) w.heap.size t l := heap_alloc_new w _

theorem Row.put {w : World} {g : Nat} {t : TypeId} {l : List Value} (h : Row w g t l) (l' : List Value) : Row (w.setRow g l'.toArray) g t l' := setRow_heap w g _ _ t _ h
theorem Row.putOther {w : World} {g g' : Nat} {t : TypeId} {l : List Value} (h : Row w g t l) (cs : Array Value) (hne : g ≠ g') : Row (w.setRow g' cs) g t l := by
  unfold Row World.setRow
  have h' : w.heap[g]? = some (.cells l.toArray t (0, 0)) := h
  simp only [Array.getElem?_modify]
  rw [if_neg (Ne.symm hne)]
  exact h'
end Go.Proofs.Ytflmbkjnlgibnaa
/- Is an entry right? Asked by the program. -/
namespace Go.Proofs.Ytflmbkjnlgibnaa
open Go.RowKit Go.Sort

/-- An entry: its net (a, l), the next one n, its metric m, its tag t. -/
structure Ent where
  a : Int
  l : Int
  n : Int
  m : Int
  t : Int
instance : Inhabited Ent := ⟨⟨0, 0, 0, 0, 0⟩⟩
def entL (e : Ent) : List Value := [.int .i64 e.a, .int .i64 e.l, .int .i64 e.n, .int .i64 e.m, .int .i64 e.t]
def entV (e : Ent) : Value := .agg #[.int .i64 e.a, .int .i64 e.l, .int .i64 e.n, .int .i64 e.m, .int .i64 e.t]
def inMet (m : Int) : Bool := decide (1 ≤ m ∧ m ≤ 16)
def inTag (m : Int) : Bool := decide (0 ≤ m ∧ m ≤ 65535)
def entB (e : Ent) : Bool := rightB e.a e.l && inAddr e.n && inMet e.m && inTag e.t
theorem ent_new0 (w : World) (o : Obj) : Below w.heap.size w (w.alloc o) := (Below.refl _ _).alloc (Nat.le_refl _) _
set_option maxRecDepth 100000 in
theorem isWordE_any (a : Int) (w : World) : Calls Try.prog 67 #[.int .i64 a] w fun e w' => e = .returned (.bool (inTag a)) ∧ w = w' := by
  by_cases h1 : 0 ≤ a
  · by_cases h2 : a ≤ 65535
    · go_enter Try.func67, Try.ntmps67
      go_wp2
      go_ret
      exact ⟨ret_bool (by simp [inTag]; omega), rfl⟩
    · go_enter Try.func67, Try.ntmps67
      go_wp2
      go_ret
      exact ⟨ret_bool (by simp [inTag]; omega), rfl⟩
  · go_enter Try.func67, Try.ntmps67
    go_wp2
    go_ret
    exact ⟨ret_bool (by simp [inTag]; omega), rfl⟩
/-- Five cells that a call has laid: what they hold behind a later one. -/
theorem box5 {w w1 : World} {x0 x1 x2 x3 x4 : Value} {t : TypeId} (h : Below (w.alloc (.cells #[x0, x1, x2, x3, x4] t)).heap.size (w.alloc (.cells #[x0, x1, x2, x3, x4] t)) w1) :
    w1.cell? ⟨w.heap.size, 0, none⟩ = some x0 ∧ w1.cell? ⟨w.heap.size, 1, none⟩ = some x1 ∧ w1.cell? ⟨w.heap.size, 2, none⟩ = some x2 ∧ w1.cell? ⟨w.heap.size, 3, none⟩ = some x3 ∧ w1.cell? ⟨w.heap.size, 4, none⟩ = some x4 ∧ Below w.heap.size w w1 := by
  have hlt : w.heap.size < (w.alloc (.cells #[x0, x1, x2, x3, x4] t)).heap.size := by simp
  have hz : ∀ k, (w.alloc (.cells #[x0, x1, x2, x3, x4] t)).cell? ⟨w.heap.size, k, none⟩ = #[x0, x1, x2, x3, x4][k]? := fun k => cell_of_row _ _ k _ t _ (heap_alloc_new w _)
  refine ⟨?_, ?_, ?_, ?_, ?_, (ent_new0 w _).trans (h.mono (by simp))⟩ <;> (rw [h.cell (p := ⟨w.heap.size, _, none⟩) hlt, hz]; rfl)
set_option maxRecDepth 100000 in
theorem implEntryRight_any (e : Ent) (w : World) : Calls Try.prog 110 #[entV e] w fun r w' => r = .returned (.bool (entB e)) ∧ Below w.heap.size w w' := by
  obtain ⟨a, l, n, m, t⟩ := e
  unfold entV entB
  have HR : Hid (∀ w, Calls Try.prog 66 #[.agg #[.int .i64 a, .int .i64 l]] w fun e w' => e = .returned (.bool (rightB a l)) ∧ Below w.heap.size w w') := implRight_any a l
  have HA : Hid (∀ w, Calls Try.prog 106 #[.int .i64 n] w fun e w' => e = .returned (.bool (inAddr n)) ∧ w = w') := isAddr_any n
  have HW : Hid (∀ w, Calls Try.prog 67 #[.int .i64 t] w fun e w' => e = .returned (.bool (inTag t)) ∧ w = w') := isWordE_any t
  have HM : Hid (inMet m = (decide (1 ≤ m) && decide (m ≤ 16))) := by show _ = _; simp [inMet, Bool.decide_and]
  generalize rightB a l = R at *
  generalize inAddr n = N at *
  generalize inTag t = T at *
  rw [HM.out]
  clear HM
  go_enter Try.func110, Try.ntmps110
  go_wp2_with fail
  refine (HR.out _).mono ?_
  rintro e w1 ⟨rfl, hb1⟩
  obtain ⟨c0, c1, c2, c3, c4, hB⟩ := box5 hb1
  clear hb1 HR
  cases R
  · go_wp2
    go_ret
    exact ⟨rfl, hB⟩
  · go_wp2_with fail
    refine (HA.out _).mono ?_
    rintro e w2 ⟨rfl, rfl⟩
    cases N
    · go_wp2
      go_ret
      exact ⟨rfl, hB⟩
    · by_cases h1 : 1 ≤ m
      · by_cases h2 : m ≤ 16
        · go_wp2_with fail
          refine (HW.out _).mono ?_
          rintro e w2 ⟨rfl, rfl⟩
          go_wp2
          go_ret
          exact ⟨ret_bool (by simp [h1, h2]), hB⟩
        · go_wp2
          go_ret
          exact ⟨ret_bool (by simp; omega), hB⟩
      · go_wp2
        go_ret
        exact ⟨ret_bool (by simp; omega), hB⟩
end Go.Proofs.Ytflmbkjnlgibnaa
/- An Iface: its value; right, by the program and by the model. (Written by gen_if.py.) -/
namespace Go.Proofs.Ytflmbkjnlgibnaa
open Go.RowKit Go.Sort

/-- An Iface: its address, its net (address and length), its cost, whether it is up. -/
structure If where
  d : Int
  a : Int
  l : Int
  c : Int
  u : Bool
deriving Inhabited
def ifA (f : If) : Array Value := #[.int .i64 f.d, .int .i64 f.a, .int .i64 f.l, .int .i64 f.c, .bool f.u]
def ifV (f : If) : Value := .agg (ifA f)
def ifB (f : If) : Bool := coversB f.a f.l f.d && (decide (1 ≤ f.c) && decide (f.c ≤ 15))
theorem box5i {w w1 : World} {x0 x1 x2 x3 x4 : Value} {t : TypeId} (h : Below (w.alloc (.cells #[x0, x1, x2, x3, x4] t)).heap.size (w.alloc (.cells #[x0, x1, x2, x3, x4] t)) w1) :
    w1.cell? ⟨w.heap.size, 0, none⟩ = some x0 ∧ w1.cell? ⟨w.heap.size, 1, none⟩ = some x1 ∧ w1.cell? ⟨w.heap.size, 2, none⟩ = some x2 ∧ w1.cell? ⟨w.heap.size, 3, none⟩ = some x3 ∧ w1.cell? ⟨w.heap.size, 4, none⟩ = some x4 ∧ Below w.heap.size w w1 := by
  have q := Row.new w t [x0, x1, x2, x3, x4]
  have q := q.below h q.lt
  exact ⟨q.cell 0, q.cell 1, q.cell 2, q.cell 3, q.cell 4, (ent_new0 w _).trans (h.mono (by simp))⟩
set_option maxRecDepth 100000 in
theorem implIface_any (f : If) (w : World) : Calls Try.prog 75 #[ifV f] w fun e w' => e = .returned (.bool (ifB f)) ∧ Below w.heap.size w w' := by
  have HC : Hid (∀ w, Calls Try.prog 91 #[.agg #[.int .i64 f.a, .int .i64 f.l], .int .i64 f.d] w fun e w' => e = .returned (.bool (coversB f.a f.l f.d)) ∧ Below w.heap.size w w') := implCovers_any f.a f.l f.d
  obtain ⟨d, a, l, c, u⟩ := f
  unfold ifV ifA ifB
  simp only at HC ⊢
  generalize coversB a l d = B at *
  go_enter Try.func75, Try.ntmps75
  go_wp2_with fail
  refine (HC.out _).mono ?_
  rintro e w1 ⟨rfl, hb1⟩
  obtain ⟨c0, c1, c2, c3, c4, hB⟩ := box5i hb1
  clear hb1 HC
  cases B
  · go_wp2
    go_ret
    exact ⟨ret_bool (by simp), hB⟩
  · by_cases h1 : 1 ≤ c
    · by_cases h2 : c ≤ 15
      · go_wp2
        go_ret
        exact ⟨ret_bool (by simp [h1, h2]), hB⟩
      · go_wp2
        go_ret
        exact ⟨ret_bool (by simp; omega), hB⟩
    · go_wp2
      go_ret
      exact ⟨ret_bool (by simp; omega), hB⟩
theorem covers_right {a l d : Int} (h : rightB a l = false) : coversB a l d = false := by
  unfold coversB
  rw [h]
  rfl
set_option maxRecDepth 100000 in
theorem specIface_any (f : If) (w : World) : Calls Try.prog 71 #[ifV f] w fun e w' => e = .returned (.bool (ifB f)) ∧ Below w.heap.size w w' := by
  have HR : Hid (∀ w, Calls Try.prog 63 #[.agg #[.int .i64 f.a, .int .i64 f.l]] w fun e w' => e = .returned (.bool (rightB f.a f.l)) ∧ Below w.heap.size w w') := specRight_any f.a f.l
  have HC : Hid (∀ w, Calls Try.prog 95 #[.agg #[.int .i64 f.a, .int .i64 f.l], .int .i64 f.d] w fun e w' => e = .returned (.bool (coversB f.a f.l f.d)) ∧ Below w.heap.size w w') := specCovers_any f.a f.l f.d
  have HI : Hid (∀ w, Calls Try.prog 42 #[.int .i64 f.c, .int .i64 1, .int .i64 15] w fun e w' => e = .returned (.bool (decide (1 ≤ f.c) && decide (f.c ≤ 15))) ∧ w = w') := fun w => (l03Is_any f.c 1 15 w).mono fun e w' h => by rw [← Bool.decide_and]; exact h
  obtain ⟨d, a, l, c, u⟩ := f
  unfold ifV ifA ifB
  simp only at HC HR HI ⊢
  have hcr := @covers_right a l d
  generalize coversB a l d = B at *
  generalize (decide (1 ≤ c) && decide (c ≤ 15)) = D at *
  go_enter Try.func71, Try.ntmps71
  go_wp2_with fail
  refine (HR.out _).mono ?_
  rintro e w1 ⟨rfl, hb1⟩
  have hb1' := hb1
  obtain ⟨c0, c1, c2, c3, c4, hB⟩ := box5i hb1
  clear HR hb1
  cases hr : rightB a l
  · have hB0 := hcr hr
    clear hcr hr HC HI
    subst hB0
    go_wp2
    go_ret
    exact ⟨rfl, hB⟩
  · clear hcr hr
    go_wp2_with fail
    refine (HC.out _).mono ?_
    rintro e w2 ⟨rfl, hb2⟩
    have hB2 := hB.trans (hb2.mono hB.size)
    obtain ⟨c0, c1, c2, c3, c4, -⟩ := box5i (hb1'.trans (hb2.mono hb1'.size))
    clear HC hb2 hB hb1'
    cases B
    · go_wp2
      go_ret
      exact ⟨rfl, hB2⟩
    · go_wp2_with fail
      refine (HI.out _).mono ?_
      rintro e w3 ⟨rfl, rfl⟩
      go_wp2
      go_ret
      exact ⟨rfl, hB2⟩
end Go.Proofs.Ytflmbkjnlgibnaa
/- The laws' own Ifaces handed in: opened. (Written by gen_if.py.) -/
namespace Go.Proofs.Ytflmbkjnlgibnaa
open Go.ChangeShapes Go.WideShapes Go.RowKit Go.Deep Go.WideElems Go.Maps Go.Joins

def ifL (f : If) : List Value := [.int .i64 f.d, .int .i64 f.a, .int .i64 f.l, .int .i64 f.c, .bool f.u]
theorem array5i {α : Type} {cs : Array α} (h : cs.size = 5) : ∃ c0 c1 c2 c3 c4, cs = #[c0, c1, c2, c3, c4] := by
  obtain ⟨l⟩ := cs
  match l, h with
  | [c0, c1, c2, c3, c4], _ => exact ⟨c0, c1, c2, c3, c4, rfl⟩
/-- All four numbers of an Iface are of 64 bits. -/
def IfW (f : If) : Prop := (Lit.int .i64 f.d).wf = true ∧ (Lit.int .i64 f.a).wf = true ∧ (Lit.int .i64 f.l).wf = true ∧ (Lit.int .i64 f.c).wf = true
theorem Try.cellsIface : Try.prog.cellsOf 88 = 5 := by kernel_rfl
theorem Try.cellsNetI : Try.prog.cellsOf 58 = 2 := by kernel_rfl
theorem Try.cellsIntI : Try.prog.cellsOf 2 = 1 := by kernel_rfl
theorem Try.cellsBoolI : Try.prog.cellsOf 4 = 1 := by kernel_rfl
section
variable {H : Type} {enc : TypeId × Value → H} {w : World} {base : Nat} {spare : Nat → Bool} {held : Bool}
set_option maxRecDepth 100000 in
theorem open_if {fuel : Nat} {cs : List Value} {x : DataW H × List MemPlace} (h : DataW.trod enc Try.prog w base spare held fuel 88 cs = some x) : ∃ f : If, cs = ifL f ∧ IfW f := by
  obtain ⟨xs, n, _, _, hl, hx, hg⟩ := DataW.trod_struct Try.underlying88 h
  rw [Try.cellsIface] at hl
  match cs, hl, xs, hx with
  | [c0, c1, c2, c3, c4], _, [y0, y1, y2, y3], _ =>
    have h0 : DataW.trod enc Try.prog w base spare held n 2 ((([c0, c1, c2, c3, c4] : List Value).drop 0).take (Try.prog.cellsOf 2)) = [y0, y1, y2, y3][0]? := hg 0 _ rfl
    rw [Try.cellsIntI] at h0
    replace h0 : DataW.trod enc Try.prog w base spare held n 2 [c0] = some y0 := h0
    have h1 : DataW.trod enc Try.prog w base spare held n 58 ((([c0, c1, c2, c3, c4] : List Value).drop 1).take (Try.prog.cellsOf 58)) = [y0, y1, y2, y3][1]? := hg 1 _ rfl
    rw [Try.cellsNetI] at h1
    replace h1 : DataW.trod enc Try.prog w base spare held n 58 [c1, c2] = some y1 := h1
    have h2 : DataW.trod enc Try.prog w base spare held n 2 ((([c0, c1, c2, c3, c4] : List Value).drop 3).take (Try.prog.cellsOf 2)) = [y0, y1, y2, y3][2]? := hg 2 _ rfl
    rw [Try.cellsIntI] at h2
    replace h2 : DataW.trod enc Try.prog w base spare held n 2 [c3] = some y2 := h2
    have h3 : DataW.trod enc Try.prog w base spare held n 4 ((([c0, c1, c2, c3, c4] : List Value).drop 4).take (Try.prog.cellsOf 4)) = [y0, y1, y2, y3][3]? := hg 3 _ rfl
    rw [Try.cellsBoolI] at h3
    replace h3 : DataW.trod enc Try.prog w base spare held n 4 [c4] = some y3 := h3
    obtain ⟨zs, k, _, _, _, hz, hk⟩ := DataW.trod_struct Try.underlying58 h1
    match zs, hz with
    | [z0, z1], _ =>
      have k0 : DataW.trod enc Try.prog w base spare held k 2 ((([c1, c2] : List Value).drop 0).take (Try.prog.cellsOf 2)) = [z0, z1][0]? := hk 0 _ rfl
      rw [Try.cellsIntI] at k0
      replace k0 : DataW.trod enc Try.prog w base spare held k 2 [c1] = some z0 := k0
      have k1 : DataW.trod enc Try.prog w base spare held k 2 ((([c1, c2] : List Value).drop 1).take (Try.prog.cellsOf 2)) = [z0, z1][1]? := hk 1 _ rfl
      rw [Try.cellsIntI] at k1
      replace k1 : DataW.trod enc Try.prog w base spare held k 2 [c2] = some z1 := k1
      obtain ⟨d, ed, _, wd⟩ := DataW.trod_int Try.underlying2 h0
      obtain ⟨a, ea, _, wa⟩ := DataW.trod_int Try.underlying2 k0
      obtain ⟨l, el, _, wl⟩ := DataW.trod_int Try.underlying2 k1
      obtain ⟨c, ec, _, wc⟩ := DataW.trod_int Try.underlying2 h2
      obtain ⟨u, eu, _⟩ := DataW.trod_bool Try.underlying4 h3
      simp only [List.cons.injEq, and_true] at ed ea el ec eu
      subst ed ea el ec eu
      exact ⟨⟨d, a, l, c, u⟩, rfl, wd, wa, wl, wc⟩
set_option maxRecDepth 100000 in
theorem open_ifV {r : Reach} {b0 : Nat} {v : Value} {d : DataW H} {p : List MemPlace} (hv : Value.okWide Try.prog w r b0 88 v) (h : DataW.Trod enc Try.prog w base spare held 88 v d p) :
    ∃ f : If, v = ifV f ∧ IfW f := by
  obtain ⟨cs, rfl, hsz⟩ := okWide_struct Try.underlying88 hv
  obtain ⟨c0, c1, c2, c3, c4, rfl⟩ := array5i (hsz.trans Try.cellsIface)
  obtain ⟨fuel, hf⟩ := h
  obtain ⟨f, he, hw⟩ := open_if hf
  refine ⟨f, ?_, hw⟩
  simp only [Value.cells, ifL] at he
  simp only [List.cons.injEq, and_true] at he
  obtain ⟨rfl, rfl, rfl, rfl, rfl⟩ := he
  rfl
end
end Go.Proofs.Ytflmbkjnlgibnaa
/- Lists of Ifaces in memory. (Written by gen_ifs.py.) -/
namespace Go.Proofs.Ytflmbkjnlgibnaa
open Go.RowKit Go.Sort

def rowI (rs : List If) : List Value := rs.flatMap ifL
theorem ifL_length (r : If) : (ifL r).length = 5 := rfl
theorem rowI_length (rs : List If) : (rowI rs).length = 5 * rs.length := by
  induction rs with
  | nil => rfl
  | cons e es ih => simp only [rowI, List.flatMap_cons, List.length_append, List.length_cons] at ih ⊢; rw [ih, ifL_length]; omega
theorem rowI_append (a b : List If) : rowI (a ++ b) = rowI a ++ rowI b := by simp [rowI]
theorem rowI_cons (e : If) (es : List If) : rowI (e :: es) = ifL e ++ rowI es := rfl
theorem rowI_get (es : List If) (i k : Nat) (hi : i < es.length) (hk : k < 5) : (rowI es)[i * 5 + k]? = (ifL es[i])[k]? := by
  induction es generalizing i with
  | nil => simp at hi
  | cons e es ih =>
    rw [rowI_cons]
    match i with
    | 0 => rw [Nat.zero_mul, Nat.zero_add, List.getElem?_append_left (by rw [ifL_length]; omega)]; rfl
    | i + 1 =>
      rw [List.getElem?_append_right (by rw [ifL_length]; omega), ifL_length, show (i + 1) * 5 + k - 5 = i * 5 + k by omega, ih i (by simpa using hi)]
      rfl
theorem rowI_one (es : List If) : ∀ u ∈ rowI es, u.oneCell' = true := by
  intro u hu
  simp only [rowI, List.mem_flatMap, ifL, List.mem_cons, List.not_mem_nil, or_false] at hu
  obtain ⟨e, _, h⟩ := hu
  rcases h with h | h | h | h | h <;> (rw [h]; rfl)
/-- The slice (p, rs.length) holds the Ifaces rs. -/
def IfsIn (w : World) (p : Option Addr) (rs : List If) : Prop := rs = [] ∨ ∃ g, p = some ⟨g, 0, none⟩ ∧ g < w.heap.size ∧ ∀ j u, (rowI rs)[j]? = some u → w.cell? ⟨g, j, none⟩ = some u
theorem IfsIn.below {w w' : World} {p : Option Addr} {rs : List If} (h : IfsIn w p rs) (hb : Below w.heap.size w w') : IfsIn w' p rs := by
  rcases h with h | ⟨g, hp, hg, hc⟩
  · exact .inl h
  · refine .inr ⟨g, hp, by have := hb.size; omega, fun j u hj => ?_⟩
    rw [hb.cell (p := ⟨g, j, none⟩) hg]
    exact hc j u hj
theorem IfsIn.alloc {w : World} {p : Option Addr} {rs : List If} (h : IfsIn w p rs) (o : Obj) : IfsIn (w.alloc o) p rs := h.below (ent_new0 w o)
theorem IfsIn.at {w : World} {p : Option Addr} {rs : List If} (h : IfsIn w p rs) (i : Nat) (hi : i < rs.length) : ∃ g d a l c u, p = some ⟨g, 0, none⟩ ∧ g < w.heap.size ∧ rs[i] = ⟨d, a, l, c, u⟩ ∧ w.cell? ⟨g, i * 5, none⟩ = some (.int .i64 d) ∧ w.cell? ⟨g, i * 5 + 1, none⟩ = some (.int .i64 a) ∧ w.cell? ⟨g, i * 5 + 2, none⟩ = some (.int .i64 l) ∧ w.cell? ⟨g, i * 5 + 3, none⟩ = some (.int .i64 c) ∧ w.cell? ⟨g, i * 5 + 4, none⟩ = some (.bool u) := by
  rcases h with rfl | ⟨g, hp, hg, hc⟩
  · simp at hi
  · exact ⟨g, rs[i].d, rs[i].a, rs[i].l, rs[i].c, rs[i].u, hp, hg, rfl, hc _ _ (rowI_get rs i 0 hi (by omega)), hc _ _ (rowI_get rs i 1 hi (by omega)), hc _ _ (rowI_get rs i 2 hi (by omega)), hc _ _ (rowI_get rs i 3 hi (by omega)), hc _ _ (rowI_get rs i 4 hi (by omega))⟩
theorem ifsIn_row {w : World} {g : Nat} {t : TypeId} {rs : List If} (h : Row w g t (rowI rs)) : IfsIn w (some ⟨g, 0, none⟩) rs := .inr ⟨g, rfl, h.lt, fun j _ hj => (h.cell j).trans hj⟩
end Go.Proofs.Ytflmbkjnlgibnaa
/- The laws' own lists of Ifaces: opened. (Written by gen_ifs.py.) -/
namespace Go.Proofs.Ytflmbkjnlgibnaa
open Go.ChangeShapes Go.WideShapes Go.RowKit Go.Sort Go.Deep Go.Joins

/-- The slice (x, len) that was handed in holds the Ifaces rs. -/
def ArgI (w : World) (x : Option Addr) (len : Nat) (rs : List If) : Prop := rs.length = len ∧ len ≤ maxLen ∧ (∀ e ∈ rs, IfW e) ∧ ∀ i, (h : i < rs.length) → ∃ p, x = some p ∧ w.cell? (p.add (i * 5)) = some (.int .i64 rs[i].d) ∧ w.cell? (p.add (i * 5 + 1)) = some (.int .i64 rs[i].a) ∧ w.cell? (p.add (i * 5 + 2)) = some (.int .i64 rs[i].l) ∧ w.cell? (p.add (i * 5 + 3)) = some (.int .i64 rs[i].c) ∧ w.cell? (p.add (i * 5 + 4)) = some (.bool rs[i].u)
theorem ArgI.below {w w' : World} {x : Option Addr} {len : Nat} {rs : List If} (h : ArgI w x len rs) (hb : Below w.heap.size w w') : ArgI w' x len rs := by
  obtain ⟨h1, h2, h3, h4⟩ := h
  refine ⟨h1, h2, h3, fun i hi => ?_⟩
  obtain ⟨p, hp, c0, c1, c2, c3, c4⟩ := h4 i hi
  have hk : ∀ k v, w.cell? (p.add k) = some v → w'.cell? (p.add k) = some v := fun k v hv => by rw [hb.cell (World.block_lt_of_cell? w _ hv)]; exact hv
  exact ⟨p, hp, hk _ _ c0, hk _ _ c1, hk _ _ c2, hk _ _ c3, hk _ _ c4⟩
theorem addr_moreI (p : Addr) (m j : Nat) (hj : j ≠ 0) : p.add (m + j) = ⟨(p.add m).block, (p.add m).off + j, none⟩ := by
  rw [← Addr.add_add]
  generalize p.add m = q
  unfold Addr.add
  rw [if_neg hj]
theorem ArgI.at {w : World} {x : Option Addr} {len : Nat} {rs : List If} (h : ArgI w x len rs) (i : Nat) (hi : i < rs.length) : ∃ p d a l c u, x = some p ∧ rs[i] = ⟨d, a, l, c, u⟩ ∧ w.cell? (p.add (i * 5)) = some (.int .i64 d) ∧ w.cell? ⟨(p.add (i * 5)).block, (p.add (i * 5)).off + 1, none⟩ = some (.int .i64 a) ∧ w.cell? ⟨(p.add (i * 5)).block, (p.add (i * 5)).off + 2, none⟩ = some (.int .i64 l) ∧ w.cell? ⟨(p.add (i * 5)).block, (p.add (i * 5)).off + 3, none⟩ = some (.int .i64 c) ∧ w.cell? ⟨(p.add (i * 5)).block, (p.add (i * 5)).off + 4, none⟩ = some (.bool u) := by
  obtain ⟨p, hp, c0, c1, c2, c3, c4⟩ := h.2.2.2 i hi
  rw [addr_moreI _ _ _ (by omega)] at c1 c2 c3 c4
  exact ⟨p, _, _, _, _, _, hp, rfl, c0, c1, c2, c3, c4⟩
section
variable {H : Type} {enc : TypeId × Value → H} {w : World} {base : Nat} {spare : Nat → Bool} {held : Bool}
set_option maxRecDepth 100000 in
theorem open_ifs {fuel : Nat} {v : Value} {x : DataW H × List MemPlace} (h : DataW.trod enc Try.prog w base spare held fuel 22 [v] = some x) : ∃ y len cap rs, v = .slice y len cap ∧ ArgI w y len rs := by
  rcases open_slice Try.underlying22 h with ⟨h0, _⟩ | ⟨a, len, cap, m, n, D, Pl, h0, hb, hl, hm, hmm, _, hx⟩
  · simp only [List.cons.injEq, and_true] at h0
    exact ⟨none, 0, 0, [], h0, rfl, Nat.zero_le _, by simp, fun i hi => absurd hi (by simp)⟩
  · simp only [List.cons.injEq, and_true] at h0
    have hlm : len ≤ m := by rw [hmm]; split <;> omega
    have each : ∀ i, i < m → ∃ e : If, IfW e ∧ w.cell? (a.add (i * 5)) = some (.int .i64 e.d) ∧ w.cell? (a.add (i * 5 + 1)) = some (.int .i64 e.a) ∧ w.cell? (a.add (i * 5 + 2)) = some (.int .i64 e.l) ∧ w.cell? (a.add (i * 5 + 3)) = some (.int .i64 e.c) ∧ w.cell? (a.add (i * 5 + 4)) = some (.bool e.u) := by
      intro i hi
      obtain ⟨cs', h1, h2⟩ := hx i hi
      rw [Try.cellsIface] at h1
      obtain ⟨e, rfl, hw⟩ := open_if h2
      obtain ⟨_, _, hcell⟩ := World.cells?_some h1
      have hadd : ∀ j k, (a.add j).add k = a.add (j + k) := fun j k => by
        unfold Addr.add
        by_cases hj : j = 0
        · subst hj; by_cases hk : k = 0 <;> simp [hk]
        · by_cases hk : k = 0
          · simp [hj, hk]
          · simp [hj, hk, Nat.add_assoc]
      refine ⟨e, hw, ?_⟩
      have k0 := hcell 0 (by omega)
      have k1 := hcell 1 (by omega)
      have k2 := hcell 2 (by omega)
      have k3 := hcell 3 (by omega)
      have k4 := hcell 4 (by omega)
      simp only [hadd, Nat.add_zero, ifL] at k0 k1 k2 k3 k4
      exact ⟨by simpa using k0, by simpa using k1, by simpa using k2, by simpa using k3, by simpa using k4⟩
    obtain ⟨E, hE⟩ := choose_lt (α := If) (p := fun i e => IfW e ∧ w.cell? (a.add (i * 5)) = some (.int .i64 e.d) ∧ w.cell? (a.add (i * 5 + 1)) = some (.int .i64 e.a) ∧ w.cell? (a.add (i * 5 + 2)) = some (.int .i64 e.l) ∧ w.cell? (a.add (i * 5 + 3)) = some (.int .i64 e.c) ∧ w.cell? (a.add (i * 5 + 4)) = some (.bool e.u)) each
    refine ⟨some a, len, cap, (List.range len).map E, h0, by simp, by omega, ?_, ?_⟩
    · intro e he
      simp only [List.mem_map, List.mem_range] at he
      obtain ⟨i, hi, rfl⟩ := he
      exact (hE i (by omega)).1
    · intro i hi
      simp only [List.length_map, List.length_range] at hi
      refine ⟨a, rfl, ?_⟩
      simp only [List.getElem_map, List.getElem_range]
      exact (hE i (by omega)).2
end
end Go.Proofs.Ytflmbkjnlgibnaa
/- The laws' own nets, handed over. -/
namespace Go.Proofs.Ytflmbkjnlgibnaa
open Go.RowKit Go.Sort

set_option maxRecDepth 100000 in
theorem toNet_any (a l : Int) (w : World) : Calls Try.prog 64 #[netV a l] w fun e w' => e = .returned (netV a l) ∧ Below w.heap.size w w' := by
  unfold netV
  go_enter Try.func64, Try.ntmps64
  go_wp2
  refine bodyPost_ret (v := .agg #[.int .i64 a, .int .i64 l]) (by simp [results, Try.results64, go_sem]) rfl ⟨rfl, ?_⟩
  exact (((Below.refl _ _).alloc (Nat.le_refl _) _).alloc (by simp) _).alloc (by simp; omega) _
theorem below_next {B : Nat} {w w1 w2 : World} (h : Below B w w1) (h2 : Below w1.heap.size w1 w2) (hB : B ≤ w1.heap.size) : Below B w w2 := h.trans (h2.mono hB)
theorem two_later {w1 w2 : World} {b : Nat} {x y : Value} (h0 : w1.cell? ⟨b, 0, none⟩ = some x) (h1 : w1.cell? ⟨b, 1, none⟩ = some y) (hb : Below w1.heap.size w1 w2) : w2.cell? ⟨b, 0, none⟩ = some x ∧ w2.cell? ⟨b, 1, none⟩ = some y :=
  ⟨by rw [hb.cell (p := ⟨b, 0, none⟩) (World.block_lt_of_cell? w1 _ h0)]; exact h0, by rw [hb.cell (p := ⟨b, 1, none⟩) (World.block_lt_of_cell? w1 _ h1)]; exact h1⟩
end Go.Proofs.Ytflmbkjnlgibnaa
/- An Iface handed over by the laws. (Written by gen_if.py.) -/
namespace Go.Proofs.Ytflmbkjnlgibnaa
open Go.RowKit Go.Sort

theorem three_new (w : World) (x y z : List Value) (t1 t2 t3 : TypeId) : ∃ W, W = ((w.alloc (.cells x.toArray t1)).alloc (.cells y.toArray t2)).alloc (.cells z.toArray t3) ∧ Row W w.heap.size t1 x ∧ Row W (w.heap.size + 1) t2 y ∧ Row W (w.heap.size + 1 + 1) t3 z ∧ Below w.heap.size w W ∧ W.heap.size = w.heap.size + 1 + 1 + 1 := by
  have q0 := ((Row.new w t1 x).alloc (.cells y.toArray t2)).alloc (.cells z.toArray t3)
  have q1 := (Row.new (w.alloc (.cells x.toArray t1)) t2 y).alloc (.cells z.toArray t3)
  have q2 := Row.new ((w.alloc (.cells x.toArray t1)).alloc (.cells y.toArray t2)) t3 z
  rw [show (w.alloc (.cells x.toArray t1)).heap.size = w.heap.size + 1 by simp] at q1
  rw [show ((w.alloc (.cells x.toArray t1)).alloc (.cells y.toArray t2)).heap.size = w.heap.size + 1 + 1 by simp] at q2
  exact ⟨_, rfl, q0, q1, q2, ((ent_new0 w _).alloc (by simp) _).alloc (by simp; omega) _, by simp⟩
set_option maxRecDepth 100000 in
set_option maxHeartbeats 1000000 in
theorem toIface_any (f : If) (w : World) : Calls Try.prog 49 #[ifV f] w fun e w' => e = .returned (ifV f) ∧ Below w.heap.size w w' := by
  have HT : Hid (∀ w, Calls Try.prog 64 #[.agg #[.int .i64 f.a, .int .i64 f.l]] w fun e w' => e = .returned (.agg #[.int .i64 f.a, .int .i64 f.l]) ∧ Below w.heap.size w w') := toNet_any f.a f.l
  obtain ⟨d, a, l, c, u⟩ := f
  unfold ifV ifA
  simp only at HT ⊢
  obtain ⟨W, hW, q0, q1, q2, hB, hS⟩ := three_new w [.int .i64 d, .int .i64 a, .int .i64 l, .int .i64 c, .bool u] [.int .i64 0, .int .i64 0, .int .i64 0, .int .i64 0, .bool false] [.int .i64 d, .int .i64 0, .int .i64 0, .int .i64 0, .bool false] 88 82 82
  have HW : Hid _ := hW
  have HQ : Hid _ := And.intro q0 (And.intro q1 (And.intro q2 (And.intro hB hS)))
  clear hW q0 q1 q2 hB hS
  go_enter Try.func49, Try.ntmps49
  go_wp2_with fail
  refine (HT.out _).mono ?_
  rintro e w1 ⟨rfl, hb1⟩
  rw [← HW.out] at hb1
  obtain ⟨q0, q1, q2, hB, hS⟩ := HQ.out
  have p0 := q0.below hb1 q0.lt
  have p1 := q1.below hb1 q1.lt
  have p2 := q2.below hb1 q2.lt
  have hB := hB.trans (hb1.mono (by omega))
  clear q0 q1 q2 hb1 HW HQ HT
  have a0 : w1.cell? ⟨w.heap.size, 0, none⟩ = some (.int .i64 d) := p0.cell 0
  have a1 : w1.cell? ⟨w.heap.size, 1, none⟩ = some (.int .i64 a) := p0.cell 1
  have a2 : w1.cell? ⟨w.heap.size, 2, none⟩ = some (.int .i64 l) := p0.cell 2
  have a3 : w1.cell? ⟨w.heap.size, 3, none⟩ = some (.int .i64 c) := p0.cell 3
  have a4 : w1.cell? ⟨w.heap.size, 4, none⟩ = some (.bool u) := p0.cell 4
  have b0 : w1.cell? ⟨w.heap.size + 1, 0, none⟩ = some (.int .i64 0) := p1.cell 0
  have f0 := p1.frozen 0
  have b1 : w1.cell? ⟨w.heap.size + 1, 1, none⟩ = some (.int .i64 0) := p1.cell 1
  have f1 := p1.frozen 1
  have b2 : w1.cell? ⟨w.heap.size + 1, 2, none⟩ = some (.int .i64 0) := p1.cell 2
  have f2 := p1.frozen 2
  have b3 : w1.cell? ⟨w.heap.size + 1, 3, none⟩ = some (.int .i64 0) := p1.cell 3
  have f3 := p1.frozen 3
  have b4 : w1.cell? ⟨w.heap.size + 1, 4, none⟩ = some (.bool false) := p1.cell 4
  have f4 := p1.frozen 4
  have d0 : w1.cell? ⟨w.heap.size + 1 + 1, 0, none⟩ = some (.int .i64 d) := p2.cell 0
  have g0 := p2.frozen 0
  have d1 : w1.cell? ⟨w.heap.size + 1 + 1, 1, none⟩ = some (.int .i64 0) := p2.cell 1
  have g1 := p2.frozen 1
  have d2 : w1.cell? ⟨w.heap.size + 1 + 1, 2, none⟩ = some (.int .i64 0) := p2.cell 2
  have g2 := p2.frozen 2
  have d3 : w1.cell? ⟨w.heap.size + 1 + 1, 3, none⟩ = some (.int .i64 0) := p2.cell 3
  have g3 := p2.frozen 3
  have d4 : w1.cell? ⟨w.heap.size + 1 + 1, 4, none⟩ = some (.bool false) := p2.cell 4
  have g4 := p2.frozen 4
  have HE : Hid (Row ((((((((((w1.setCell ⟨w.heap.size + 1 + 1, 1, none⟩ (.int .i64 a)).setCell ⟨w.heap.size + 1 + 1, 2, none⟩ (.int .i64 l)).setCell ⟨w.heap.size + 1 + 1, 3, none⟩ (.int .i64 c)).setCell ⟨w.heap.size + 1 + 1, 4, none⟩ (.bool u)).setCell ⟨w.heap.size + 1, 0, none⟩ (.int .i64 d)).setCell ⟨w.heap.size + 1, 1, none⟩ (.int .i64 a)).setCell ⟨w.heap.size + 1, 2, none⟩ (.int .i64 l)).setCell ⟨w.heap.size + 1, 3, none⟩ (.int .i64 c)).setCell ⟨w.heap.size + 1, 4, none⟩ (.bool u))) (w.heap.size + 1) 82 [.int .i64 d, .int .i64 a, .int .i64 l, .int .i64 c, .bool u] ∧ Below w.heap.size w ((((((((((w1.setCell ⟨w.heap.size + 1 + 1, 1, none⟩ (.int .i64 a)).setCell ⟨w.heap.size + 1 + 1, 2, none⟩ (.int .i64 l)).setCell ⟨w.heap.size + 1 + 1, 3, none⟩ (.int .i64 c)).setCell ⟨w.heap.size + 1 + 1, 4, none⟩ (.bool u)).setCell ⟨w.heap.size + 1, 0, none⟩ (.int .i64 d)).setCell ⟨w.heap.size + 1, 1, none⟩ (.int .i64 a)).setCell ⟨w.heap.size + 1, 2, none⟩ (.int .i64 l)).setCell ⟨w.heap.size + 1, 3, none⟩ (.int .i64 c)).setCell ⟨w.heap.size + 1, 4, none⟩ (.bool u)))) := ⟨(((((((((p1.other 1 (.int .i64 a) (by omega)).other 2 (.int .i64 l) (by omega)).other 3 (.int .i64 c) (by omega)).other 4 (.bool u) (by omega)).set 0 (.int .i64 d)).set 1 (.int .i64 a)).set 2 (.int .i64 l)).set 3 (.int .i64 c)).set 4 (.bool u)), (((((((((hB.setCell (p := ⟨w.heap.size + 1 + 1, 1, none⟩) (by show w.heap.size ≤ w.heap.size + 1 + 1; omega) (.int .i64 a)).setCell (p := ⟨w.heap.size + 1 + 1, 2, none⟩) (by show w.heap.size ≤ w.heap.size + 1 + 1; omega) (.int .i64 l)).setCell (p := ⟨w.heap.size + 1 + 1, 3, none⟩) (by show w.heap.size ≤ w.heap.size + 1 + 1; omega) (.int .i64 c)).setCell (p := ⟨w.heap.size + 1 + 1, 4, none⟩) (by show w.heap.size ≤ w.heap.size + 1 + 1; omega) (.bool u)).setCell (p := ⟨w.heap.size + 1, 0, none⟩) (by show w.heap.size ≤ w.heap.size + 1; omega) (.int .i64 d)).setCell (p := ⟨w.heap.size + 1, 1, none⟩) (by show w.heap.size ≤ w.heap.size + 1; omega) (.int .i64 a)).setCell (p := ⟨w.heap.size + 1, 2, none⟩) (by show w.heap.size ≤ w.heap.size + 1; omega) (.int .i64 l)).setCell (p := ⟨w.heap.size + 1, 3, none⟩) (by show w.heap.size ≤ w.heap.size + 1; omega) (.int .i64 c)).setCell (p := ⟨w.heap.size + 1, 4, none⟩) (by show w.heap.size ≤ w.heap.size + 1; omega) (.bool u))⟩
  clear p0 p1 p2 hB
  go_wp2_with fail
  obtain ⟨h1, h2⟩ := HE.out
  clear HE a0 b0 d0 f0 g0 a1 b1 d1 f1 g1 a2 b2 d2 f2 g2 a3 b3 d3 f3 g3 a4 b4 d4 f4 g4
  generalize (((((((((w1.setCell ⟨w.heap.size + 1 + 1, 1, none⟩ (.int .i64 a)).setCell ⟨w.heap.size + 1 + 1, 2, none⟩ (.int .i64 l)).setCell ⟨w.heap.size + 1 + 1, 3, none⟩ (.int .i64 c)).setCell ⟨w.heap.size + 1 + 1, 4, none⟩ (.bool u)).setCell ⟨w.heap.size + 1, 0, none⟩ (.int .i64 d)).setCell ⟨w.heap.size + 1, 1, none⟩ (.int .i64 a)).setCell ⟨w.heap.size + 1, 2, none⟩ (.int .i64 l)).setCell ⟨w.heap.size + 1, 3, none⟩ (.int .i64 c)).setCell ⟨w.heap.size + 1, 4, none⟩ (.bool u)) = Y at *
  have e0 : Y.cell? ⟨w.heap.size + 1, 0, none⟩ = some (.int .i64 d) := h1.cell 0
  have e1 : Y.cell? ⟨w.heap.size + 1, 1, none⟩ = some (.int .i64 a) := h1.cell 1
  have e2 : Y.cell? ⟨w.heap.size + 1, 2, none⟩ = some (.int .i64 l) := h1.cell 2
  have e3 : Y.cell? ⟨w.heap.size + 1, 3, none⟩ = some (.int .i64 c) := h1.cell 3
  have e4 : Y.cell? ⟨w.heap.size + 1, 4, none⟩ = some (.bool u) := h1.cell 4
  exact bodyPost_ret (v := .agg #[.int .i64 d, .int .i64 a, .int .i64 l, .int .i64 c, .bool u]) (by simp [results, Try.results49, go_sem, e0, e1, e2, e3, e4]) rfl ⟨rfl, h2⟩
end Go.Proofs.Ytflmbkjnlgibnaa
/- The laws' own lists of Ifaces measured and handed over. (Written by gen_ifs.py.) -/
namespace Go.Proofs.Ytflmbkjnlgibnaa
open Go.RowKit Go.Sort

def fiveI (w : World) (g o : Nat) (x0 x1 x2 x3 x4 : Value) : World := (((((w.setCell ⟨g, o, none⟩ x0).setCell ⟨g, o + 1, none⟩ x1).setCell ⟨g, o + 2, none⟩ x2).setCell ⟨g, o + 3, none⟩ x3).setCell ⟨g, o + 4, none⟩ x4)
theorem fiveI_below {B : Nat} {w0 w : World} (h : Below B w0 w) (g o : Nat) (hg : B ≤ g) (x0 x1 x2 x3 x4 : Value) : Below B w0 (fiveI w g o x0 x1 x2 x3 x4) := (((((h.setCell (p := ⟨g, o, none⟩) hg x0).setCell (p := ⟨g, o + 1, none⟩) hg x1).setCell (p := ⟨g, o + 2, none⟩) hg x2).setCell (p := ⟨g, o + 3, none⟩) hg x3).setCell (p := ⟨g, o + 4, none⟩) hg x4)
theorem fiveI_row {w : World} {g : Nat} {t : TypeId} {l : List Value} (h : Row w g t l) (o : Nat) (x0 x1 x2 x3 x4 : Value) : Row (fiveI w g o x0 x1 x2 x3 x4) g t (((((l.set (o) x0).set (o + 1) x1).set (o + 2) x2).set (o + 3) x3).set (o + 4) x4) := (((((h.set (o) x0).set (o + 1) x1).set (o + 2) x2).set (o + 3) x3).set (o + 4) x4)
theorem fiveI_other {w : World} {b g : Nat} {t : TypeId} {l : List Value} (h : Row w b t l) (hne : b ≠ g) (o : Nat) (x0 x1 x2 x3 x4 : Value) : Row (fiveI w g o x0 x1 x2 x3 x4) b t l := (((((h.other (o) x0 hne).other (o + 1) x1 hne).other (o + 2) x2 hne).other (o + 3) x3 hne).other (o + 4) x4 hne)
theorem set5i (A R : List Value) (k : Nat) (hA : A.length = k * 5) (z0 z1 z2 z3 z4 x0 x1 x2 x3 x4 : Value) : ((((((A ++ ([z0, z1, z2, z3, z4] ++ R)).set (k * 5) x0).set (k * 5 + 1) x1).set (k * 5 + 2) x2).set (k * 5 + 3) x3).set (k * 5 + 4) x4) = A ++ ([x0, x1, x2, x3, x4] ++ R) := by
  have e : ∀ (L : List Value) (j : Nat) (x : Value), (A ++ L).set (k * 5 + j) x = A ++ L.set j x := fun L j x => by
    rw [List.set_append, if_neg (by omega), hA, Nat.add_sub_cancel_left]
  have e0 : ∀ (L : List Value) (x : Value), (A ++ L).set (k * 5) x = A ++ L.set 0 x := fun L x => e L 0 x
  rw [e0, e, e, e, e]
  rfl
theorem Row.someI {w : World} {g : Nat} {t : TypeId} {l : List Value} (h : Row w g t l) (k : Nat) (hk : k < l.length) : ∃ v, w.cell? ⟨g, k, none⟩ = some v := ⟨l[k], by rw [h.cell, List.getElem?_eq_getElem hk]⟩
theorem Try.infoI : (Try.prog.info? 82).map (fun i => (i.zero, i.size, i.bytes)) = some (some (.agg #[.int .i64 0, .int .i64 0, .int .i64 0, .int .i64 0, .bool false]), 5, 40) := by kernel_rfl
def zeroIf : If := ⟨0, 0, 0, 0, false⟩
theorem rowI_zero_get (n i : Nat) (h : i < n * 5) : (rowI (List.replicate n zeroIf))[i]? = some (if i % 5 = 4 then .bool false else .int .i64 0) := by
  have hi : i / 5 < (List.replicate n zeroIf).length := by simp; omega
  have := rowI_get (List.replicate n zeroIf) (i / 5) (i % 5) hi (by omega)
  rw [show i / 5 * 5 + i % 5 = i by omega] at this
  rw [this, List.getElem_replicate]
  have h9 : i % 5 = 0 ∨ i % 5 = 1 ∨ i % 5 = 2 ∨ i % 5 = 3 ∨ i % 5 = 4 := by omega
  rcases h9 with h | h | h | h | h <;> (rw [h]; rfl)
theorem made_zeroI (n : Nat) : (madeCells (Value.agg #[.int .i64 0, .int .i64 0, .int .i64 0, .int .i64 0, .bool false]).cells (n * 5)).toList = rowI (List.replicate n zeroIf) := by
  apply List.ext_getElem?
  intro i
  by_cases h : i < n * 5
  · rw [rowI_zero_get n i h]
    simp only [madeCells, Value.cells, Array.toList_map, List.getElem?_map]
    have h9 : i % 5 = 0 ∨ i % 5 = 1 ∨ i % 5 = 2 ∨ i % 5 = 3 ∨ i % 5 = 4 := by omega
    rcases h9 with h9 | h9 | h9 | h9 | h9 <;> simp [h9, h]
  · rw [List.getElem?_eq_none (by simp [madeCells]; omega), List.getElem?_eq_none (by rw [rowI_length]; simp; omega)]
set_option maxRecDepth 100000 in
/-- 'make([]Iface, n)'. -/
theorem wpList_make_ifs {w : World} {ops : Array Oper} {rest : List Oper} {o : Oper} {a : Act} {Q : Exit → Act → World → Prop}
    (hgd : o.guard = none) (l c : Operand) (hop : o.op = Op.makeSlice 30 l c)
    (L : Int) (n : Nat) (hl : a.eval l = .int .i64 L) (hc : a.eval c = .int .i64 L) (hL : L = (n : Int)) (hn : n ≤ 100000000)
    (B : Nat) (w0 : World) (hb : Below B w0 w) (hB : B ≤ w.heap.size)
    (h : ∀ w', Row w' w.heap.size 82 (rowI (List.replicate n zeroIf)) → Below B w0 w' → wpList Try.prog ops Q rest (a.put o.dst (.slice (some ⟨w.heap.size, 0, none⟩) n n)) w') : wpList Try.prog ops Q (o :: rest) a w := by
  obtain ⟨i0, hi0, hz0, hz1, hz2⟩ := info_parts Try.infoI
  refine wpList_make_full w hgd l c 30 hop B 82 i0 _ 5 Try.underlying30 hi0 hz0 hz1 .i64 .i64 L L n hl hc hL hL (by rw [hz2]; omega) (by unfold maxLen; omega) hB ?_
  intro w' hown hgrow
  rcases hown.2 with ⟨h', _⟩ | ⟨g, cap, cur, h', hbg, hg, hnc, hcm, hcs, htake⟩
  · simp at h'
  · simp only [Value.slice.injEq, Option.some.injEq, Addr.mk.injEq, and_true, true_and] at h'
    obtain ⟨rfl, rfl⟩ := h'
    refine h w' ?_ (hb.trans ((Below.refl B w).grown hgrow hB (by intro k hk; cases hk)))
    unfold Row
    rw [hg, ← made_zeroI, ← htake, List.take_of_length_le (by simp [hcs])]
theorem rowI_set (es : List If) (k : Nat) (hk : k < es.length) (d a l c : Int) (u : Bool) (he : es[k] = ⟨d, a, l, c, u⟩) :
    ((((((rowI (es.take k ++ List.replicate (es.length - k) zeroIf)).set (k * 5) (.int .i64 d)).set (k * 5 + 1) (.int .i64 a)).set (k * 5 + 2) (.int .i64 l)).set (k * 5 + 3) (.int .i64 c)).set (k * 5 + 4) (.bool u)) = rowI (es.take (k + 1) ++ List.replicate (es.length - (k + 1)) zeroIf) := by
  have e1 : es.length - k = (es.length - (k + 1)) + 1 := by omega
  rw [e1, List.replicate_succ, rowI_append, rowI_cons, List.take_succ_eq_append_getElem hk, List.append_assoc, rowI_append, List.singleton_append, rowI_cons, he]
  exact set5i _ _ k (by rw [rowI_length, List.length_take]; omega) _ _ _ _ _ _ _ _ _ _
set_option maxRecDepth 100000 in
theorem szIfaceS_any (x : Option Addr) (len cap : Nat) (w : World) (hl : len ≤ maxLen) : Calls Try.prog 14 #[.slice x len cap, .int .i64 1048576] w fun e w' => e = .returned (.int .i64 (if len ≤ 1048576 then 1048576 - (len : Int) else -1)) ∧ w = w' := by
  unfold maxLen at hl
  by_cases h : len ≤ 1048576
  · rw [if_pos h]
    have d : decide (1048576 - (len : Int) < 0) = false := by simp; omega
    go_enter Try.func14, Try.ntmps14
    go_wp2
    go_ret
    exact ⟨rfl, rfl⟩
  · rw [if_neg h]
    have d : decide (1048576 - (len : Int) < 0) = true := by simp; omega
    go_enter Try.func14, Try.ntmps14
    go_wp2
    go_ret
    exact ⟨rfl, rfl⟩
set_option maxRecDepth 100000 in
theorem toIfaceS_any (x : Option Addr) (cap : Nat) (es : List If) (w : World) (h : ArgI w x es.length es) (hn : es.length ≤ 1048576) :
    Calls Try.prog 16 #[.slice x es.length cap] w fun e w' => ∃ g, e = .returned (.slice (some ⟨g, 0, none⟩) es.length es.length) ∧ w.heap.size ≤ g ∧ Row w' g 82 (rowI es) ∧ Below w.heap.size w w' := by
  have HE : Hid (∀ e w, Calls Try.prog 49 #[ifV e] w fun r w' => r = .returned (ifV e) ∧ Below w.heap.size w w') := toIface_any
  have HX : Hid (ArgI w x es.length es) := h
  clear h
  go_enter Try.func16, Try.ntmps16
  go_wp2_with (at_make; refine wpList_make_ifs rfl _ _ rfl _ es.length rfl rfl rfl (by omega) w.heap.size w (Below.refl _ _) (Nat.le_refl _) ?_)
  intro w0 hr0 hb0
  have hz : es.take 0 ++ List.replicate (es.length - 0) zeroIf = List.replicate es.length zeroIf := by simp
  rw [← hz] at hr0
  clear hz
  go_wp2_with fail
  go_loopw [4] (fun i wr => ∃ k : Nat, k ≤ es.length ∧ i = .int .i64 k ∧ Row wr w.heap.size 82 (rowI (es.take k ++ List.replicate (es.length - k) zeroIf)) ∧ Below w.heap.size w wr) (fun i _ => es.length - (intOf i).toNat)
  case atStart => exact ⟨0, Nat.zero_le _, rfl, hr0, hb0⟩
  case round =>
    obtain ⟨k, hk, rfl, hr, hb⟩ := hrel
    by_cases hlt : k < es.length
    · obtain ⟨p, d, a, l, c, u, rfl, hek, c0, c1, c2, c3, c4⟩ := (HX.out.below hb).at k hlt
      have HEk : Hid (∀ w, Calls Try.prog 49 #[.agg #[.int .i64 d, .int .i64 a, .int .i64 l, .int .i64 c, .bool u]] w fun r w' => r = .returned (.agg #[.int .i64 d, .int .i64 a, .int .i64 l, .int .i64 c, .bool u]) ∧ Below w.heap.size w w') := HE.out ⟨d, a, l, c, u⟩
      have hset := rowI_set es k hlt d a l c u hek
      have HS : Hid _ := hset
      clear hset HE hek hr0 hb0
      go_wp2_with fail
      refine (HEk.out _).mono ?_
      rintro e w1 ⟨rfl, hb1⟩
      have hr1 := hr.below hb1 hr.lt
      have hB1 := hb.trans (hb1.mono hb.size)
      clear c0 c1 c2 c3 c4 hb1 HEk hr hb
      have hlr : (rowI (es.take k ++ List.replicate (es.length - k) zeroIf)).length = es.length * 5 := by rw [rowI_length]; simp; omega
      obtain ⟨z0, hz0⟩ := Row.someI hr1 (k * 5) (by omega)
      obtain ⟨z1, hz1⟩ := Row.someI hr1 (k * 5 + 1) (by omega)
      obtain ⟨z2, hz2⟩ := Row.someI hr1 (k * 5 + 2) (by omega)
      obtain ⟨z3, hz3⟩ := Row.someI hr1 (k * 5 + 3) (by omega)
      obtain ⟨z4, hz4⟩ := Row.someI hr1 (k * 5 + 4) (by omega)
      have f0 := hr1.frozen (k * 5)
      have f1 := hr1.frozen (k * 5 + 1)
      have f2 := hr1.frozen (k * 5 + 2)
      have f3 := hr1.frozen (k * 5 + 3)
      have f4 := hr1.frozen (k * 5 + 4)
      have hr2 := fiveI_row hr1 (k * 5) (.int .i64 d) (.int .i64 a) (.int .i64 l) (.int .i64 c) (.bool u)
      rw [HS.out] at hr2
      have hB2 := fiveI_below hB1 w.heap.size (k * 5) (Nat.le_refl _) (.int .i64 d) (.int .i64 a) (.int .i64 l) (.int .i64 c) (.bool u)
      unfold fiveI at hr2 hB2
      have HH : Hid _ := And.intro hr2 hB2
      clear hr1 hB1 HS hlr hr2 hB2
      go_wp2_with fail
      go_roundw
      case rel => exact ⟨k + 1, hlt, by go_num, HH.out.1, HH.out.2⟩
      case measure => simp [intOf]; omega
    · obtain rfl : k = es.length := by omega
      rw [List.take_length, Nat.sub_self, List.replicate_zero, List.append_nil] at hr
      clear hlt hk
      go_wp2
      go_ret
      exact ⟨_, rfl, Nat.le_refl _, hr, hb⟩
end Go.Proofs.Ytflmbkjnlgibnaa
/- Ifaces appended to a list of the call's own; owned lists of Ifaces. (Written by gen_near.py.) -/
namespace Go.Proofs.Ytflmbkjnlgibnaa
open Go.RowKit Go.Sort

theorem ownsI_none {w : World} {base : Nat} {v : Value} {n : Nat} {xs : List Value} (h : w.ownsRow base 82 5 v n xs) (ty : TypeId) : (Builtin.append_ #[30, 30] ty #[v, .slice none 0 0]).run Try.prog w = .ok v w := by
  obtain ⟨i0, hi0, _, _, _⟩ := info_parts Try.infoI
  exact run_append_owned_none w base _ ty 82 i0 5 Try.underlying30 hi0 v n xs h
theorem run_append_ifs (w : World) (base : Nat) (v : Value) (ls ms : List If) (q : Option Addr) (c : Nat) (ty : TypeId) (hown : w.ownsRow base 82 5 v ls.length (rowI ls)) (hq0 : q = none → ms = [] ∧ c = 0)
    (hq : ∀ ad, q = some ad → ∀ j u, (rowI ms)[j]? = some u → w.cell? (ad.add j) = some u) (hlen : ls.length + ms.length ≤ 1000000000) (hbase : base ≤ w.heap.size) :
    ∃ v' w', (Builtin.append_ #[30, 30] ty #[v, .slice q ms.length c]).run Try.prog w = .ok v' w' ∧ w'.ownsRow base 82 5 v' (ls ++ ms).length (rowI (ls ++ ms)) ∧ Below base w w' := by
  obtain ⟨i0, hi0, hz0, hz1, hz2⟩ := info_parts Try.infoI
  cases q with
  | none =>
    obtain ⟨rfl, rfl⟩ := hq0 rfl
    exact ⟨v, w, ownsI_none hown ty, by rw [List.append_nil]; exact hown, Below.refl _ _⟩
  | some ad =>
    obtain ⟨v', w', hr, h2, h3, _⟩ := run_append_own (P := Try.prog) w base _ ty 82 i0 _ 5 40 Try.underlying30 hi0 hz0 hz1 hz2 rfl (by decide) v ls.length (rowI ls) hown ad ms.length c (rowI ms) (by rw [rowI_length]; omega) (hq ad rfl) (rowI_one ms) (by unfold maxLen; omega) (by omega) hbase
    refine ⟨v', w', hr, ?_, (Below.refl base w).grown h3 hbase fun k hk => (World.ownsRow.lt hown k hk).1⟩
    rw [List.length_append, rowI_append]
    exact h2
theorem ifsIn_none {w : World} {p : Option Addr} {rs : List If} (h : IfsIn w p rs) : p = none → rs = [] := by
  rintro rfl
  rcases h with h | ⟨g, e, _⟩
  · exact h
  · cases e
theorem ownsI_shape {w : World} {base n : Nat} {v : Value} {xs : List Value} (h : w.ownsRow base 82 5 v n xs) : ∃ q c, v = .slice q n c := by
  rcases h.2 with ⟨h1, h2⟩ | ⟨g, cap, cur, h1, _⟩
  · exact ⟨none, 0, by rw [h1, h2]⟩
  · exact ⟨_, _, h1⟩
theorem ownsI_below {w w' : World} {base n : Nat} {v : Value} {xs : List Value} (h : w.ownsRow base 82 5 v n xs) (hb : Below w.heap.size w w') : w'.ownsRow base 82 5 v n xs :=
  World.ownsRow.kept h (row := none) ⟨hb.os, hb.tape, hb.output, hb.size, fun k hk _ => hb.block k hk⟩ (by cases v.ownBlock <;> simp)
theorem ownsI_mono {w : World} {base base' n : Nat} {v : Value} {xs : List Value} (h : w.ownsRow base 82 5 v n xs) (hb : base' ≤ base) : w.ownsRow base' 82 5 v n xs := by
  rcases h.2 with ⟨h1, h2⟩ | ⟨g, cap, cur, h1, h2, h3, h4, h5, h6, h7⟩
  · exact ⟨h.1, .inl ⟨h1, h2⟩⟩
  · exact ⟨h.1, .inr ⟨g, cap, cur, h1, by omega, h3, h4, h5, h6, h7⟩⟩
theorem ownsI_opened {w : World} {base : Nat} {p : Option Addr} {cv : Nat} {es : List If} (h : w.ownsRow base 82 5 (.slice p es.length cv) es.length (rowI es)) : es = [] ∨ ∃ g rest, p = some ⟨g, 0, none⟩ ∧ base ≤ g ∧ es.length ≤ cv ∧ cv ≤ maxLen ∧ Row w g 82 (rowI es ++ rest) ∧ (rowI es ++ rest).length = cv * 5 := by
  rcases h.2 with ⟨_, h2⟩ | ⟨g, cap, cur, h1, h2, h3, h4, h5, h6, h7⟩
  · exact .inl (List.length_eq_zero_iff.1 h2)
  · simp only [Value.slice.injEq] at h1
    obtain ⟨rfl, -, rfl⟩ := h1
    refine .inr ⟨g, cur.toList.drop (es.length * 5), rfl, h2, h4, h5, ?_, ?_⟩
    · unfold Row
      rw [← h7, List.take_append_drop]
      simpa using h3
    · rw [← h7, List.take_append_drop]
      simpa using h6
theorem ownsI_shut {w : World} {base g n cv : Nat} {es : List If} {rest : List Value} (hn : n = es.length) (hb : base ≤ g) (h4 : n ≤ cv) (h5 : cv ≤ maxLen) (hr : Row w g 82 (rowI es ++ rest)) (hl : (rowI es ++ rest).length = cv * 5) : w.ownsRow base 82 5 (.slice (some ⟨g, 0, none⟩) n cv) n (rowI es) := by
  subst hn
  refine ⟨by rw [rowI_length]; omega, .inr ⟨g, cv, (rowI es ++ rest).toArray, rfl, hb, hr, h4, h5, by simpa using hl, ?_⟩⟩
  simp only [List.take_append_of_le_length (show es.length * 5 ≤ (rowI es).length by rw [rowI_length]; omega)]
  rw [List.take_of_length_le (by rw [rowI_length]; omega)]
theorem ifsIn_rest {w : World} {g : Nat} {t : TypeId} {es : List If} {rest : List Value} (h : Row w g t (rowI es ++ rest)) : IfsIn w (some ⟨g, 0, none⟩) es := .inr ⟨g, rfl, h.lt, fun j u hj => by rw [h.cell, List.getElem?_append_left (List.getElem?_eq_some_iff.1 hj).1]; exact hj⟩
theorem ownsI_in {w : World} {base : Nat} {p : Option Addr} {n cv : Nat} {es : List If} (hn : n = es.length) (h : w.ownsRow base 82 5 (.slice p n cv) n (rowI es)) : IfsIn w p es := by
  subst hn
  rcases ownsI_opened h with h0 | ⟨g, rest, rfl, -, -, -, hr, -⟩
  · exact .inl h0
  · exact ifsIn_rest hr
end Go.Proofs.Ytflmbkjnlgibnaa
/- Times, of the program and of the model. -/
namespace Go.Proofs.Ytflmbkjnlgibnaa
open Go.RowKit

def inTime (n : Int) : Bool := decide (0 ≤ n ∧ n ≤ 1000000)
set_option maxRecDepth 100000 in
theorem isTime_any (a : Int) (w : World) : Calls Try.prog 100 #[.int .i64 a] w fun e w' => e = .returned (.bool (inTime a)) ∧ w = w' := by
  by_cases h1 : 0 ≤ a
  · by_cases h2 : a ≤ 1000000
    · go_enter Try.func100, Try.ntmps100
      go_wp2
      go_ret
      exact ⟨ret_bool (by simp [inTime]; omega), rfl⟩
    · go_enter Try.func100, Try.ntmps100
      go_wp2
      go_ret
      exact ⟨ret_bool (by simp [inTime]; omega), rfl⟩
  · go_enter Try.func100, Try.ntmps100
    go_wp2
    go_ret
    exact ⟨ret_bool (by simp [inTime]; omega), rfl⟩
set_option maxRecDepth 100000 in
theorem l03Time_any (a : Int) (w : World) : Calls Try.prog 96 #[.int .i64 a] w fun e w' => e = .returned (.bool (inTime a)) ∧ w = w' := by
  have HT : Hid (∀ w, Calls Try.prog 42 #[.int .i64 a, .int .i64 0, .int .i64 1000000] w fun e w' => e = .returned (.bool (inTime a)) ∧ w = w') := l03Is_any a 0 1000000
  generalize inTime a = T at *
  go_enter Try.func96, Try.ntmps96
  go_wp2_with fail
  refine (HT.out _).mono ?_
  rintro e w1 ⟨rfl, rfl⟩
  go_wp2
  go_ret
  exact ⟨rfl, rfl⟩
end Go.Proofs.Ytflmbkjnlgibnaa
