/- Texts that stand on each other, in one file: AddrMath, Pow, MaskI, LookA, NetOf, Ent, Ents, WireMath, RipMath, Cuts, MaskS, MaskOf, LenOf, RipRd, Pieces, TextB, Words, Begins, OwnE, Errs, Gotos. -/
import Derived.WalkKit
import Derived.Laws.BitsAllLaws
import Derived.Test.YtkkhjeigndcmaaaDoorBase
import Derived.Laws.ShiftsVarLaws
import Derived.Laws.StructEq
import Derived.BigQuiet
import Derived.Lib.QuietBelow
import Derived.WalkSmall
import Derived.Deep.RegionWith
import Derived.Test.YtkkhjeigndcmaaaDoorRowV
import Derived.Test.YtkkhjeigndcmaaaDoorOwnV
import Derived.Test.YtkkhjeigndcmaaaDoorBaseB
import Derived.OwnWalk
import Derived.LaidEql
import Derived.Stop.Asserts
import Derived.RowKitTokens
import Derived.ScopeJumps
import Derived.WalkMore
/- Plain numbers under addresses: masks, cuts, and what shifts and 'and' make of them. -/
namespace Go.Proofs.YtkkhjeigndcmaaaDoor

theorem ofInt_i64 (a : Nat) (ha : a < 9223372036854775808) : (BitVec.ofInt 64 (a : Int)).toNat = a := by
  rw [BitVec.ofInt_natCast, BitVec.toNat_ofNat]; exact Nat.mod_eq_of_lt (by omega)
theorem i64_and_nat (a b : Nat) (ha : a < 9223372036854775808) (hb : b < 9223372036854775808) : bits .and .i64 (a : Int) (b : Int) = ((a &&& b : Nat) : Int) := by
  have hx : a &&& b < 2 ^ 63 := Nat.and_lt_two_pow _ (by omega)
  show IntKind.i64.wrap ((BitVec.ofInt 64 (a : Int) &&& BitVec.ofInt 64 (b : Int)).toNat : Int) = _
  rw [BitVec.toNat_and, ofInt_i64 a ha, ofInt_i64 b hb, IntKind.wrap_i64]
  omega
theorem i64_or_nat (a b : Nat) (ha : a < 9223372036854775808) (hb : b < 9223372036854775808) : bits .or .i64 (a : Int) (b : Int) = ((a ||| b : Nat) : Int) := by
  have hx : a ||| b < 2 ^ 63 := Nat.or_lt_two_pow (by omega) (by omega)
  show IntKind.i64.wrap ((BitVec.ofInt 64 (a : Int) ||| BitVec.ofInt 64 (b : Int)).toNat : Int) = _
  rw [BitVec.toNat_or, ofInt_i64 a ha, ofInt_i64 b hb, IntKind.wrap_i64]
  omega
theorem pow_split (j : Nat) (h : j ≤ 32) : (2 : Nat) ^ 32 - 2 ^ j = (2 ^ (32 - j) - 1) * 2 ^ j := by
  rw [Nat.sub_mul, ← Nat.pow_add, Nat.one_mul]
  congr 2
  omega
theorem nat_and_mask (a j : Nat) (ha : a < 4294967296) (hj : j ≤ 32) : a &&& (4294967296 - 2 ^ j) = a / 2 ^ j * 2 ^ j := by
  rw [show (4294967296 : Nat) = 2 ^ 32 from rfl, pow_split j hj]
  apply Nat.eq_of_testBit_eq
  intro i
  rw [Nat.testBit_and, Nat.testBit_mul_two_pow, Nat.testBit_mul_two_pow, Nat.testBit_two_pow_sub_one, Nat.testBit_div_two_pow]
  by_cases h : j ≤ i
  · by_cases h2 : i < 32
    · have h3 : i - j < 32 - j := by omega
      simp [h, h3]
    · have h3 : a.testBit i = false := Nat.testBit_lt_two_pow (Nat.lt_of_lt_of_le ha (by rw [show (4294967296 : Nat) = 2 ^ 32 from rfl]; exact Nat.pow_le_pow_right (by decide) (by omega)))
      simp [h, h3]
  · simp [h]

/-- What a length leaves out: two to the bits behind it. -/
def gap (l : Int) : Nat := 2 ^ (32 - l.toNat)
theorem gap_fin : ∀ k : Fin 33, 1 ≤ 2 ^ (32 - k.val) ∧ 2 ^ (32 - k.val) ≤ 4294967296 := by decide
theorem gap_pos (l : Int) : 1 ≤ gap l := Nat.two_pow_pos _
theorem gap_le (l : Int) : gap l ≤ 4294967296 := by
  unfold gap; rw [show (4294967296 : Nat) = 2 ^ 32 from rfl]; exact Nat.pow_le_pow_right (by decide) (by omega)
theorem gap_pow (l : Int) (h0 : 0 ≤ l) (h1 : l ≤ 32) : gap l = 2 ^ (32 - l).toNat := by
  unfold gap; congr 1; omega
/-- An address without the bits behind the first ones. -/
def cutV (a l : Int) : Int := a / (gap l : Int) * (gap l : Int)
theorem cutV_le (a l : Int) (h : 0 ≤ a) : 0 ≤ cutV a l ∧ cutV a l ≤ a := by
  have hg := gap_pos l
  have hg' : (0 : Int) < (gap l : Int) := by omega
  unfold cutV
  constructor
  · exact Int.mul_nonneg (Int.ediv_nonneg h (by omega)) (by omega)
  · exact Int.ediv_mul_le a (by omega)
def maskV (l : Int) : Int := if 0 ≤ l ∧ l ≤ 32 then 4294967296 - (gap l : Int) else 0
theorem maskV_in (l : Int) (h0 : 0 ≤ l) (h1 : l ≤ 32) : maskV l = 4294967296 - (gap l : Int) := if_pos ⟨h0, h1⟩
theorem maskV_out (l : Int) (h : ¬ (0 ≤ l ∧ l ≤ 32)) : maskV l = 0 := if_neg h
theorem maskV_range (l : Int) : 0 ≤ maskV l ∧ maskV l ≤ 4294967295 := by
  unfold maskV
  have := gap_le l
  have := gap_pos l
  split <;> omega
theorem and_mask (a l : Int) (h0 : 0 ≤ a) (h1 : a ≤ 4294967295) (hl0 : 0 ≤ l) (hl1 : l ≤ 32) : bits .and .i64 a (maskV l) = cutV a l := by
  obtain ⟨A, rfl⟩ := Int.eq_ofNat_of_zero_le h0
  rw [maskV_in l hl0 hl1]
  have hg := gap_le l
  rw [show (4294967296 : Int) - (gap l : Int) = ((4294967296 - gap l : Nat) : Int) by omega, i64_and_nat A _ (by omega) (by omega)]
  unfold cutV gap
  rw [nat_and_mask A (32 - l.toNat) (by omega) (by omega)]
  push_cast
  rfl
/-- A shift down and up again. -/
theorem down_up_fin : ∀ k : Fin 33, (4294967295 / 2 ^ k.val) * 2 ^ k.val = 4294967296 - 2 ^ k.val := by decide
theorem down_up (l : Int) (h0 : 0 ≤ l) (h1 : l ≤ 32) : (4294967295 : Int) / 2 ^ (32 - l).toNat * 2 ^ (32 - l).toNat = maskV l := by
  rw [maskV_in l h0 h1, gap_pow l h0 h1]
  have h := down_up_fin ⟨(32 - l).toNat, by omega⟩
  have hg := gap_le l
  rw [gap_pow l h0 h1] at hg
  simp only at h
  have e : ((2 : Int) ^ (32 - l).toNat) = ((2 ^ (32 - l).toNat : Nat) : Int) := by simp
  rw [e]
  generalize 2 ^ (32 - l).toNat = G at *
  have h2 : ((4294967295 : Int) / (G : Int) * (G : Int)) = ((4294967295 / G * G : Nat) : Int) := by simp
  rw [h2, h]
  omega
/-- Masks of different lengths differ. -/
theorem gap_step (k : Nat) (h : k + 1 ≤ 32) : gap (k : Int) = 2 * gap ((k + 1 : Nat) : Int) := by
  unfold gap
  rw [Int.toNat_natCast, Int.toNat_natCast, show 32 - k = (32 - (k + 1)) + 1 by omega, Nat.pow_succ]
  omega
theorem cutV_cut (a l : Int) : cutV (cutV a l) l = cutV a l := by
  have hg := gap_pos l
  unfold cutV
  rw [Int.mul_ediv_cancel _ (by omega)]
end Go.Proofs.YtkkhjeigndcmaaaDoor
/- Powers of two of the model, and its look at limits. -/
namespace Go.Proofs.YtkkhjeigndcmaaaDoor
open Go.RowKit

theorem wrap64_in (x : Int) (h0 : -9223372036854775808 ≤ x) (h1 : x ≤ 9223372036854775807) : wrap64 x = x := by unfold wrap64; omega
set_option maxRecDepth 100000 in
theorem l03Is_any (n a b : Int) (w : World) :
    Calls Tryd.prog 20 #[.int .i64 n, .int .i64 a, .int .i64 b] w fun e w' => e = .returned (.bool (decide (a ≤ n ∧ n ≤ b))) ∧ w = w' := by
  by_cases h1 : a ≤ n
  · by_cases h2 : n ≤ b
    · go_enter Tryd.func20, Tryd.ntmps20
      go_wp2
      go_ret
      exact ⟨ret_bool (by simp; omega), rfl⟩
    · go_enter Tryd.func20, Tryd.ntmps20
      go_wp2
      go_ret
      exact ⟨ret_bool (by simp; omega), rfl⟩
  · go_enter Tryd.func20, Tryd.ntmps20
    go_wp2
    go_ret
    exact ⟨ret_bool (by simp; omega), rfl⟩
set_option maxRecDepth 100000 in
theorem l03Pow_any (k : Nat) (w : World) (hk : k ≤ 32) :
    Calls Tryd.prog 55 #[.int .i64 (k : Int)] w fun e w' => e = .returned (.int .i64 ((2 ^ k : Nat) : Int)) ∧ w = w' := by
  have hb : ∀ j, j ≤ 32 → (2 : Nat) ^ j ≤ 4294967296 := fun j hj => by rw [show (4294967296 : Nat) = 2 ^ 32 from rfl]; exact Nat.pow_le_pow_right (by decide) hj
  have HB : Hid (∀ j, j ≤ 32 → (2 : Nat) ^ j ≤ 4294967296) := hb
  have HS : Hid (∀ j, (2 : Nat) ^ (j + 1) = 2 * 2 ^ j) := fun j => by show _ = _; rw [Nat.pow_succ]; omega
  have H0 : Hid ((2 : Nat) ^ 0 = 1) := rfl
  clear hb
  generalize hP : (fun j : Nat => (2 : Nat) ^ j) = P
  have e : ∀ j : Nat, (2 : Nat) ^ j = P j := fun j => by rw [← hP]
  simp only [e] at HB HS H0 ⊢
  clear e hP
  go_enter Tryd.func55, Tryd.ntmps55
  go_wp2_with fail
  go_loop [0, 3] (fun x n => ∃ j : Nat, j ≤ k ∧ x = .int .i64 ((k - j : Nat) : Int) ∧ n = .int .i64 (P j : Int)) (fun x _ => (intOf x).toNat)
  case atStart => exact ⟨0, by omega, rfl, by rw [H0.out]; rfl⟩
  case round =>
    obtain ⟨j, hj, rfl, rfl⟩ := hrel
    by_cases hlt : j < k
    · have hb := HB.out (j + 1) (by omega)
      have hs := HS.out j
      have HSJ : Hid (P (j + 1) = 2 * P j) := hs
      have hb2 : P j ≤ 2147483648 := by omega
      clear hs hb
      go_wp2
      go_round
      case rel => exact ⟨j + 1, by omega, by go_num, by rw [HSJ.out]; go_num⟩
      case measure => simp [intOf]; omega
    · obtain rfl : j = k := by omega
      go_wp2
      go_ret
      exact ⟨rfl, rfl⟩
theorem l03Pow_at (l x : Int) (w : World) (h0 : 0 ≤ l) (h1 : l ≤ 32) (hx : x = 32 - l) :
    Calls Tryd.prog 55 #[.int .i64 x] w fun e w' => e = .returned (.int .i64 (gap l : Int)) ∧ w = w' := by
  obtain ⟨k, rfl⟩ := Int.eq_ofNat_of_zero_le h0
  have h := l03Pow_any (32 - k) w (by omega)
  rw [show x = ((32 - k : Nat) : Int) by omega]
  exact h
end Go.Proofs.YtkkhjeigndcmaaaDoor
/- Masks of the program. -/
namespace Go.Proofs.YtkkhjeigndcmaaaDoor
open Go.RowKit

set_option maxRecDepth 100000 in
theorem implMask_any (l : Int) (w : World) :
    Calls Tryd.prog 72 #[.int .i64 l] w fun e w' => e = .returned (.int .i64 (maskV l)) ∧ w = w' := by
  by_cases h0 : 0 ≤ l
  · by_cases h1 : l ≤ 32
    · have hd : Hid _ := down_up l h0 h1
      have hr := maskV_range l
      go_enter Tryd.func72, Tryd.ntmps72
      go_wp2
      go_ret
      exact ⟨ret_i64 (by rw [hd.out, wrap64_in _ (by omega) (by omega)]), rfl⟩
    · rw [maskV_out l (by omega)]
      go_enter Tryd.func72, Tryd.ntmps72
      go_wp2
      go_ret
      exact ⟨rfl, rfl⟩
  · rw [maskV_out l (by omega)]
    go_enter Tryd.func72, Tryd.ntmps72
    go_wp2
    go_ret
    exact ⟨rfl, rfl⟩
end Go.Proofs.YtkkhjeigndcmaaaDoor
/- Is it an address? Asked by the program and by the model. -/
namespace Go.Proofs.YtkkhjeigndcmaaaDoor
open Go.RowKit

def inAddr (a : Int) : Bool := decide (0 ≤ a ∧ a ≤ 4294967295)
set_option maxRecDepth 100000 in
theorem isAddr_any (a : Int) (w : World) : Calls Tryd.prog 74 #[.int .i64 a] w fun e w' => e = .returned (.bool (inAddr a)) ∧ w = w' := by
  by_cases h1 : 0 ≤ a
  · by_cases h2 : a ≤ 4294967295
    · go_enter Tryd.func74, Tryd.ntmps74
      go_wp2
      go_ret
      exact ⟨ret_bool (by simp [inAddr]; omega), rfl⟩
    · go_enter Tryd.func74, Tryd.ntmps74
      go_wp2
      go_ret
      exact ⟨ret_bool (by simp [inAddr]; omega), rfl⟩
  · go_enter Tryd.func74, Tryd.ntmps74
    go_wp2
    go_ret
    exact ⟨ret_bool (by simp [inAddr]; omega), rfl⟩
set_option maxRecDepth 100000 in
theorem l03Addr_any (a : Int) (w : World) : Calls Tryd.prog 57 #[.int .i64 a] w fun e w' => e = .returned (.bool (inAddr a)) ∧ w = w' := by
  have HB : Hid (decide (0 ≤ a ∧ a ≤ 4294967295) = inAddr a) := rfl
  go_enter Tryd.func57, Tryd.ntmps57
  go_wp2_with fail
  refine (l03Is_any a 0 4294967295 _).mono ?_
  rintro e w1 ⟨rfl, rfl⟩
  rw [HB.out]
  go_wp2
  go_ret
  exact ⟨rfl, rfl⟩
end Go.Proofs.YtkkhjeigndcmaaaDoor
/- Nets: made, right, of the program and of the model. -/
namespace Go.Proofs.YtkkhjeigndcmaaaDoor
open Go.RowKit Go.Sort

theorem quiet_eqA {P : Program} {f : FuncId} {args : Array Value} {w : World} {n : Nat} {v : Value}
    (h : Calls P f args (w.drewN n) fun e w' => e = .returned v ∧ w.drewN n = w') : Calls P f args (w.drewN n) fun e w'' => e = .returned v ∧ ∃ m, w'' = w.drewN m :=
  h.mono fun _ _ ⟨he, hm⟩ => ⟨he, n, hm.symm⟩
theorem cell2_0 (w : World) (x y : Value) (t : TypeId) : (w.alloc (.cells #[x, y] t)).cell? ⟨w.heap.size, 0, none⟩ = some x := by
  rw [cell_of_row _ _ _ _ t _ (heap_alloc_new w _)]; simp
theorem cell2_1 (w : World) (x y : Value) (t : TypeId) : (w.alloc (.cells #[x, y] t)).cell? ⟨w.heap.size, 1, none⟩ = some y := by
  rw [cell_of_row _ _ _ _ t _ (heap_alloc_new w _)]; simp
theorem cell2_later {w w0 w1 : World} {x y : Value} {t : TypeId} (h0 : w0 = w.alloc (.cells #[x, y] t)) (h : Below w0.heap.size w0 w1) : w1.cell? ⟨w.heap.size, 0, none⟩ = some x ∧ w1.cell? ⟨w.heap.size, 1, none⟩ = some y ∧ w.heap.size < w1.heap.size ∧ Below w.heap.size w w1 := by
  subst h0
  refine ⟨?_, ?_, ?_, ?_⟩
  · rw [h.cell (p := ⟨w.heap.size, 0, none⟩) (by simp)]; exact cell2_0 w x y t
  · rw [h.cell (p := ⟨w.heap.size, 1, none⟩) (by simp)]; exact cell2_1 w x y t
  · have := h.size; simp at this; omega
  · exact ((Below.refl _ _).alloc (Nat.le_refl _) _).trans (h.mono (by simp))
theorem cell2_laterH {w w0 w1 : World} {x y : Value} {t : TypeId} (h0 : w0.heap = (w.alloc (.cells #[x, y] t)).heap) (hb : Below w.heap.size w w0) (h : Below w0.heap.size w0 w1) : w1.cell? ⟨w.heap.size, 0, none⟩ = some x ∧ w1.cell? ⟨w.heap.size, 1, none⟩ = some y ∧ w.heap.size < w1.heap.size ∧ Below w.heap.size w w1 := by
  have hz : w0.heap.size = w.heap.size + 1 := by rw [h0]; simp
  have hr : w0.heap[w.heap.size]? = some (.cells #[x, y] t) := by rw [h0]; exact heap_alloc_new w _
  refine ⟨?_, ?_, ?_, ?_⟩
  · rw [h.cell (p := ⟨w.heap.size, 0, none⟩) (by simp [hz]), cell_of_row _ _ _ _ t _ hr]; simp
  · rw [h.cell (p := ⟨w.heap.size, 1, none⟩) (by simp [hz]), cell_of_row _ _ _ _ t _ hr]; simp
  · have := h.size; omega
  · exact hb.trans (h.mono (by omega))
def netV (a l : Int) : Value := .agg #[.int .i64 a, .int .i64 l]
def inLen (l : Int) : Bool := decide (0 ≤ l ∧ l ≤ 32)
def netA (a l : Int) : Int := if 0 ≤ a ∧ a ≤ 4294967295 ∧ 0 ≤ l ∧ l ≤ 32 then cutV a l else 0
def netN (a l : Int) : Int := if 0 ≤ a ∧ a ≤ 4294967295 ∧ 0 ≤ l ∧ l ≤ 32 then l else 0
def rightB (a l : Int) : Bool := decide (0 ≤ a ∧ a ≤ 4294967295 ∧ 0 ≤ l ∧ l ≤ 32 ∧ cutV a l = a)
theorem netA_in {a l : Int} (h : 0 ≤ a ∧ a ≤ 4294967295 ∧ 0 ≤ l ∧ l ≤ 32) : netA a l = cutV a l := if_pos h
theorem netN_in {a l : Int} (h : 0 ≤ a ∧ a ≤ 4294967295 ∧ 0 ≤ l ∧ l ≤ 32) : netN a l = l := if_pos h
theorem netA_out {a l : Int} (h : ¬ (0 ≤ a ∧ a ≤ 4294967295 ∧ 0 ≤ l ∧ l ≤ 32)) : netA a l = 0 := if_neg h
theorem netN_out {a l : Int} (h : ¬ (0 ≤ a ∧ a ≤ 4294967295 ∧ 0 ≤ l ∧ l ≤ 32)) : netN a l = 0 := if_neg h
/-- A net is what is made of its address and its length just where it is right. -/
theorem right_iff (a l : Int) : rightB a l = (netA a l == a && netN a l == l) := by
  unfold rightB
  by_cases h : 0 ≤ a ∧ a ≤ 4294967295 ∧ 0 ≤ l ∧ l ≤ 32
  · rw [netA_in h, netN_in h]
    by_cases hc : cutV a l = a
    · simp [h, hc]
    · simp [hc]
  · rw [netA_out h, netN_out h]
    have h2 : ¬ (0 ≤ a ∧ a ≤ 4294967295 ∧ 0 ≤ l ∧ l ≤ 32 ∧ cutV a l = a) := fun e => h ⟨e.1, e.2.1, e.2.2.1, e.2.2.2.1⟩
    rw [decide_eq_false h2]
    symm
    by_cases ha : a = 0
    · subst ha
      have : ¬ (0 : Int) = l := by omega
      simp [this]
    · have : ¬ (0 : Int) = a := fun e => ha e.symm
      simp [this]
set_option maxRecDepth 100000 in
theorem l03Cut_any (a l : Int) (w : World) (h0 : 0 ≤ a) (h1 : a ≤ 4294967295) (hl0 : 0 ≤ l) (hl1 : l ≤ 32) :
    Calls Tryd.prog 67 #[.int .i64 a, .int .i64 l] w fun e w' => e = .returned (.int .i64 (cutV a l)) ∧ w = w' := by
  have HC : Hid (∀ w, Calls Tryd.prog 55 #[.int .i64 (32 - l)] w fun e w' => e = .returned (.int .i64 (gap l : Int)) ∧ w = w') := fun w => l03Pow_at l (32 - l) w hl0 hl1 rfl
  have hg1 := gap_pos l
  have hg2 := gap_le l
  have hcl := cutV_le a l h0
  have HV : Hid (cutV a l = a / (gap l : Int) * (gap l : Int)) := rfl
  have hgz : (((gap l : Nat) : Int) == 0) = false := by simp; omega
  have ht : a.tdiv (gap l : Int) = a / (gap l : Int) := Int.tdiv_eq_ediv_of_nonneg h0
  have hq0 : 0 ≤ a / (gap l : Int) := Int.ediv_nonneg h0 (by omega)
  have hq1 : a / (gap l : Int) ≤ a := Int.ediv_le_self _ h0
  have HT : Hid _ := ht
  generalize gap l = G at *
  generalize cutV a l = C at *
  go_enter Tryd.func67, Tryd.ntmps67
  go_wp2_with fail
  refine (HC.out _).mono ?_
  rintro e w1 ⟨rfl, rfl⟩
  go_wp2
  go_ret
  exact ⟨ret_i64 (by rw [← HV.out, wrap64_in _ (by omega) (by omega)]), rfl⟩
theorem isLen_dec (l : Int) : inLen l = decide (0 ≤ l ∧ l ≤ 32) := rfl
set_option maxRecDepth 100000 in
theorem isLen_any (a : Int) (w : World) : Calls Tryd.prog 78 #[.int .i64 a] w fun e w' => e = .returned (.bool (inLen a)) ∧ w = w' := by
  by_cases h1 : 0 ≤ a
  · by_cases h2 : a ≤ 32
    · go_enter Tryd.func78, Tryd.ntmps78
      go_wp2
      go_ret
      exact ⟨ret_bool (by simp [inLen]; omega), rfl⟩
    · go_enter Tryd.func78, Tryd.ntmps78
      go_wp2
      go_ret
      exact ⟨ret_bool (by simp [inLen]; omega), rfl⟩
  · go_enter Tryd.func78, Tryd.ntmps78
    go_wp2
    go_ret
    exact ⟨ret_bool (by simp [inLen]; omega), rfl⟩
set_option maxRecDepth 100000 in
theorem implNetOf_at (a l : Int) (w : World) : Calls Tryd.prog 79 #[.int .i64 a, .int .i64 l] w fun e w' => e = .returned (netV (netA a l) (netN a l)) ∧ w.alloc (.cells #[.int .i64 (netA a l), .int .i64 (netN a l)] 49) = w' := by
  have HI : Hid (∀ w, Calls Tryd.prog 74 #[.int .i64 a] w fun e w' => e = .returned (.bool (inAddr a)) ∧ w = w') := isAddr_any a
  have HJ : Hid (∀ w, Calls Tryd.prog 78 #[.int .i64 l] w fun e w' => e = .returned (.bool (inLen l)) ∧ w = w') := isLen_any l
  have HM : Hid (∀ w, Calls Tryd.prog 72 #[.int .i64 l] w fun e w' => e = .returned (.int .i64 (maskV l)) ∧ w = w') := implMask_any l
  by_cases h : 0 ≤ a ∧ a ≤ 4294967295 ∧ 0 ≤ l ∧ l ≤ 32
  · have HA : Hid _ := and_mask a l h.1 h.2.1 h.2.2.1 h.2.2.2
    rw [netA_in h, netN_in h]
    have ha : inAddr a = true := by simp [inAddr]; omega
    have hl : inLen l = true := by simp [inLen]; omega
    rw [ha] at HI
    rw [hl] at HJ
    clear ha hl h
    generalize maskV l = M at *
    generalize cutV a l = C at *
    unfold netV
    go_enter Tryd.func79, Tryd.ntmps79
    go_wp2_with fail
    refine (HI.out _).mono ?_
    rintro e w1 ⟨rfl, rfl⟩
    go_wp2_with fail
    refine (HJ.out _).mono ?_
    rintro e w1 ⟨rfl, rfl⟩
    go_wp2_with fail
    refine (HM.out _).mono ?_
    rintro e w1 ⟨rfl, rfl⟩
    go_wp2
    refine bodyPost_ret (v := .agg #[.int .i64 C, .int .i64 l]) (by rw [← HA.out]; simp [results, Tryd.results79, go_sem]) rfl ⟨rfl, by rw [← HA.out]⟩
  · rw [netA_out h, netN_out h]
    unfold netV
    by_cases ha : 0 ≤ a ∧ a ≤ 4294967295
    · have hl : inLen l = false := by simp [inLen]; omega
      have ha' : inAddr a = true := by simp [inAddr]; omega
      rw [ha'] at HI
      rw [hl] at HJ
      clear ha hl h HM ha'
      go_enter Tryd.func79, Tryd.ntmps79
      go_wp2_with fail
      refine (HI.out _).mono ?_
      rintro e w1 ⟨rfl, rfl⟩
      go_wp2_with fail
      refine (HJ.out _).mono ?_
      rintro e w1 ⟨rfl, rfl⟩
      go_wp2
      refine bodyPost_ret (v := .agg #[.int .i64 0, .int .i64 0]) (by simp [results, Tryd.results79, go_sem]) rfl ⟨rfl, rfl⟩
    · have ha' : inAddr a = false := by simp [inAddr]; omega
      rw [ha'] at HI
      clear ha h HM ha' HJ
      go_enter Tryd.func79, Tryd.ntmps79
      go_wp2_with fail
      refine (HI.out _).mono ?_
      rintro e w1 ⟨rfl, rfl⟩
      go_wp2
      refine bodyPost_ret (v := .agg #[.int .i64 0, .int .i64 0]) (by simp [results, Tryd.results79, go_sem]) rfl ⟨rfl, rfl⟩
theorem implNetOf_any (a l : Int) (w : World) : Calls Tryd.prog 79 #[.int .i64 a, .int .i64 l] w fun e w' => e = .returned (netV (netA a l) (netN a l)) ∧ Below w.heap.size w w' :=
  (implNetOf_at a l w).mono fun _ _ ⟨he, hw⟩ => ⟨he, hw ▸ (Below.refl _ _).alloc (Nat.le_refl _) _⟩
set_option maxRecDepth 100000 in
theorem implRight_any (a l : Int) (w : World) : Calls Tryd.prog 73 #[netV a l] w fun e w' => e = .returned (.bool (rightB a l)) ∧ Below w.heap.size w w' := by
  have HR : Hid _ := right_iff a l
  have HN : Hid (∀ w, Calls Tryd.prog 79 #[.int .i64 a, .int .i64 l] w fun e w' => e = .returned (netV (netA a l) (netN a l)) ∧ Below w.heap.size w w') := implNetOf_any a l
  generalize rightB a l = R at *
  generalize netA a l = A at *
  generalize netN a l = N at *
  unfold netV at *
  obtain ⟨b1, e1⟩ : ∃ b, (A == a) = b := ⟨_, rfl⟩
  obtain ⟨b2, e2⟩ : ∃ b, (N == l) = b := ⟨_, rfl⟩
  rw [e1, e2] at HR
  have cN : ∀ d os, Calls Tryd.prog 79 #[.int .i64 a, .int .i64 l] (grow (redrawn (w.alloc (.cells #[.int .i64 a, .int .i64 l] 49)) d) os) fun e w'' => e = .returned (.agg #[.int .i64 A, .int .i64 N]) ∧ ∃ p : Regrown, w'' = grow (redrawn (w.alloc (.cells #[.int .i64 a, .int .i64 l] 49)) p.d) p.os := fun d os => Calls.regrown_of (HN.out _)
  have HC : Hid _ := cN
  clear cN
  have k0 := cell_regrown (cell2_0 w (.int .i64 a) (.int .i64 l) 49)
  have k1 := cell_regrown (cell2_1 w (.int .i64 a) (.int .i64 l) 49)
  cases b1 <;> cases b2
  all_goals
    go_enter Tryd.func73, Tryd.ntmps73
    go_wp2_with fail
    refine wp_region_quiet_below (by kernel_rfl) (by kernel_rfl) ?_
    repeat (go_big_quiet_step (exact HC.out _ _))
    refine wpQuiet_nil ?_
    intro _ hw'
    obtain ⟨⟨dq, osq⟩, hw''⟩ := hw'
    subst hw''
    go_wp2
    go_ret
    exact ⟨ret_bool (by rw [HR.out]; rfl), ((Below.refl _ _).alloc (Nat.le_refl _) _).trans ((below_regrown _ dq osq).mono (by simp))⟩
set_option maxRecDepth 100000 in
theorem specRight_any (a l : Int) (w : World) : Calls Tryd.prog 56 #[netV a l] w fun e w' => e = .returned (.bool (rightB a l)) ∧ Below w.heap.size w w' := by
  have HI : Hid (∀ w, Calls Tryd.prog 57 #[.int .i64 a] w fun e w' => e = .returned (.bool (inAddr a)) ∧ w = w') := l03Addr_any a
  have HJ : Hid (∀ w, Calls Tryd.prog 20 #[.int .i64 l, .int .i64 0, .int .i64 32] w fun e w' => e = .returned (.bool (inLen l)) ∧ w = w') := l03Is_any l 0 32
  unfold netV
  by_cases ha : 0 ≤ a ∧ a ≤ 4294967295
  · have ha' : inAddr a = true := by simp [inAddr]; omega
    rw [ha'] at HI
    by_cases hl : 0 ≤ l ∧ l ≤ 32
    · have hl' : inLen l = true := by simp [inLen]; omega
      rw [hl'] at HJ
      have HM : Hid (∀ w, Calls Tryd.prog 67 #[.int .i64 a, .int .i64 l] w fun e w' => e = .returned (.int .i64 (cutV a l)) ∧ w = w') := fun w => l03Cut_any a l w ha.1 ha.2 hl.1 hl.2
      have HR : Hid ((cutV a l == a) = rightB a l) := by
        show _ = _
        unfold rightB
        by_cases hc : cutV a l = a
        · simp [hc]; omega
        · simp [hc]
      clear ha hl ha' hl'
      generalize rightB a l = R at *
      generalize cutV a l = C at *
      go_enter Tryd.func56, Tryd.ntmps56
      go_wp2_with fail
      go_quiet ((first | (go_at_call 57; exact quiet_eqA (HI.out _)) | (go_at_call 20; exact quiet_eqA (HJ.out _)) | (go_at_call 67; exact quiet_eqA (HM.out _))))
      go_wp2
      go_ret
      exact ⟨ret_bool HR.out, below_drewN ((Below.refl _ _).alloc (Nat.le_refl _) _) _⟩
    · have hl' : inLen l = false := by simp [inLen]; omega
      rw [hl'] at HJ
      have HR : Hid (rightB a l = false) := by show _ = _; simp [rightB]; omega
      clear ha hl ha' hl'
      generalize rightB a l = R at *
      go_enter Tryd.func56, Tryd.ntmps56
      go_wp2_with fail
      go_quiet ((first | (go_at_call 57; exact quiet_eqA (HI.out _)) | (go_at_call 20; exact quiet_eqA (HJ.out _))))
      go_wp2
      go_ret
      exact ⟨ret_bool HR.out.symm, below_drewN ((Below.refl _ _).alloc (Nat.le_refl _) _) _⟩
  · have ha' : inAddr a = false := by simp [inAddr]; omega
    rw [ha'] at HI
    have HR : Hid (rightB a l = false) := by show _ = _; simp [rightB]; omega
    clear ha ha' HJ
    generalize rightB a l = R at *
    go_enter Tryd.func56, Tryd.ntmps56
    go_wp2_with fail
    go_quiet ((go_at_call 57; exact quiet_eqA (HI.out _)))
    go_wp2
    go_ret
    exact ⟨ret_bool HR.out.symm, below_drewN ((Below.refl _ _).alloc (Nat.le_refl _) _) _⟩
end Go.Proofs.YtkkhjeigndcmaaaDoor
/- Is an entry right? Asked by the program and by the model. -/
namespace Go.Proofs.YtkkhjeigndcmaaaDoor
open Go.RowKit Go.Sort

/-- An entry: its net (a, l), the next one n, its metric m, its tag t. -/
structure Ent where
  a : Int
  l : Int
  n : Int
  m : Int
  t : Int
instance : Inhabited Ent := ⟨⟨0, 0, 0, 0, 0⟩⟩
def entL (e : Ent) : List Value := [.int .i64 e.a, .int .i64 e.l, .int .i64 e.n, .int .i64 e.m, .int .i64 e.t]
def entV (e : Ent) : Value := .agg #[.int .i64 e.a, .int .i64 e.l, .int .i64 e.n, .int .i64 e.m, .int .i64 e.t]
def inMet (m : Int) : Bool := decide (1 ≤ m ∧ m ≤ 16)
def inTag (m : Int) : Bool := decide (0 ≤ m ∧ m ≤ 65535)
def entB (e : Ent) : Bool := rightB e.a e.l && inAddr e.n && inMet e.m && inTag e.t
theorem ent_new0 (w : World) (o : Obj) : Below w.heap.size w (w.alloc o) := (Below.refl _ _).alloc (Nat.le_refl _) _
set_option maxRecDepth 100000 in
theorem isWordE_any (a : Int) (w : World) : Calls Tryd.prog 75 #[.int .i64 a] w fun e w' => e = .returned (.bool (inTag a)) ∧ w = w' := by
  by_cases h1 : 0 ≤ a
  · by_cases h2 : a ≤ 65535
    · go_enter Tryd.func75, Tryd.ntmps75
      go_wp2
      go_ret
      exact ⟨ret_bool (by simp [inTag]; omega), rfl⟩
    · go_enter Tryd.func75, Tryd.ntmps75
      go_wp2
      go_ret
      exact ⟨ret_bool (by simp [inTag]; omega), rfl⟩
  · go_enter Tryd.func75, Tryd.ntmps75
    go_wp2
    go_ret
    exact ⟨ret_bool (by simp [inTag]; omega), rfl⟩
/-- Five cells that a call has laid: what they hold behind a later one. -/
theorem box5 {w w1 : World} {x0 x1 x2 x3 x4 : Value} {t : TypeId} (h : Below (w.alloc (.cells #[x0, x1, x2, x3, x4] t)).heap.size (w.alloc (.cells #[x0, x1, x2, x3, x4] t)) w1) :
    w1.cell? ⟨w.heap.size, 0, none⟩ = some x0 ∧ w1.cell? ⟨w.heap.size, 1, none⟩ = some x1 ∧ w1.cell? ⟨w.heap.size, 2, none⟩ = some x2 ∧ w1.cell? ⟨w.heap.size, 3, none⟩ = some x3 ∧ w1.cell? ⟨w.heap.size, 4, none⟩ = some x4 ∧ Below w.heap.size w w1 := by
  have hlt : w.heap.size < (w.alloc (.cells #[x0, x1, x2, x3, x4] t)).heap.size := by simp
  have hz : ∀ k, (w.alloc (.cells #[x0, x1, x2, x3, x4] t)).cell? ⟨w.heap.size, k, none⟩ = #[x0, x1, x2, x3, x4][k]? := fun k => cell_of_row _ _ k _ t _ (heap_alloc_new w _)
  refine ⟨?_, ?_, ?_, ?_, ?_, (ent_new0 w _).trans (h.mono (by simp))⟩ <;> (rw [h.cell (p := ⟨w.heap.size, _, none⟩) hlt, hz]; rfl)
set_option maxRecDepth 100000 in
theorem implEntryRight_any (e : Ent) (w : World) : Calls Tryd.prog 65 #[entV e] w fun r w' => r = .returned (.bool (entB e)) ∧ Below w.heap.size w w' := by
  obtain ⟨a, l, n, m, t⟩ := e
  unfold entV entB
  have HR : Hid (∀ w, Calls Tryd.prog 73 #[.agg #[.int .i64 a, .int .i64 l]] w fun e w' => e = .returned (.bool (rightB a l)) ∧ Below w.heap.size w w') := implRight_any a l
  have HA : Hid (∀ w, Calls Tryd.prog 74 #[.int .i64 n] w fun e w' => e = .returned (.bool (inAddr n)) ∧ w = w') := isAddr_any n
  have HW : Hid (∀ w, Calls Tryd.prog 75 #[.int .i64 t] w fun e w' => e = .returned (.bool (inTag t)) ∧ w = w') := isWordE_any t
  have HM : Hid (inMet m = (decide (1 ≤ m) && decide (m ≤ 16))) := by show _ = _; simp [inMet, Bool.decide_and]
  generalize rightB a l = R at *
  generalize inAddr n = N at *
  generalize inTag t = T at *
  rw [HM.out]
  clear HM
  go_enter Tryd.func65, Tryd.ntmps65
  go_wp2_with fail
  refine (HR.out _).mono ?_
  rintro e w1 ⟨rfl, hb1⟩
  obtain ⟨c0, c1, c2, c3, c4, hB⟩ := box5 hb1
  clear hb1 HR
  cases R
  · go_wp2
    go_ret
    exact ⟨rfl, hB⟩
  · go_wp2_with fail
    refine (HA.out _).mono ?_
    rintro e w2 ⟨rfl, rfl⟩
    cases N
    · go_wp2
      go_ret
      exact ⟨rfl, hB⟩
    · by_cases h1 : 1 ≤ m
      · by_cases h2 : m ≤ 16
        · go_wp2_with fail
          refine (HW.out _).mono ?_
          rintro e w2 ⟨rfl, rfl⟩
          go_wp2
          go_ret
          exact ⟨ret_bool (by simp [h1, h2]), hB⟩
        · go_wp2
          go_ret
          exact ⟨ret_bool (by simp; omega), hB⟩
      · go_wp2
        go_ret
        exact ⟨ret_bool (by simp; omega), hB⟩
set_option maxRecDepth 100000 in
theorem specEntryRight_any (e : Ent) (w : World) : Calls Tryd.prog 38 #[entV e] w fun r w' => r = .returned (.bool (entB e)) ∧ Below w.heap.size w w' := by
  obtain ⟨a, l, n, m, t⟩ := e
  unfold entV entB
  have HR : Hid (∀ w, Calls Tryd.prog 56 #[.agg #[.int .i64 a, .int .i64 l]] w fun e w' => e = .returned (.bool (rightB a l)) ∧ Below w.heap.size w w') := specRight_any a l
  have HA : Hid (∀ w, Calls Tryd.prog 57 #[.int .i64 n] w fun e w' => e = .returned (.bool (inAddr n)) ∧ w = w') := l03Addr_any n
  have HM : Hid (∀ w, Calls Tryd.prog 20 #[.int .i64 m, .int .i64 1, .int .i64 16] w fun e w' => e = .returned (.bool (inMet m)) ∧ w = w') := l03Is_any m 1 16
  have HW : Hid (∀ w, Calls Tryd.prog 20 #[.int .i64 t, .int .i64 0, .int .i64 65535] w fun e w' => e = .returned (.bool (inTag t)) ∧ w = w') := l03Is_any t 0 65535
  generalize rightB a l = R at *
  generalize inAddr n = N at *
  generalize inTag t = T at *
  generalize inMet m = M at *
  go_enter Tryd.func38, Tryd.ntmps38
  go_wp2_with fail
  refine (HR.out _).mono ?_
  rintro e w1 ⟨rfl, hb1⟩
  obtain ⟨c0, c1, c2, c3, c4, hB⟩ := box5 hb1
  clear hb1 HR
  cases R
  · go_wp2
    go_ret
    exact ⟨rfl, hB⟩
  · go_wp2_with fail
    refine (HA.out _).mono ?_
    rintro e w2 ⟨rfl, rfl⟩
    cases N
    · go_wp2
      go_ret
      exact ⟨rfl, hB⟩
    · go_wp2_with fail
      refine (HM.out _).mono ?_
      rintro e w2 ⟨rfl, rfl⟩
      cases M
      · go_wp2
        go_ret
        exact ⟨rfl, hB⟩
      · go_wp2_with fail
        refine (HW.out _).mono ?_
        rintro e w2 ⟨rfl, rfl⟩
        go_wp2
        go_ret
        exact ⟨rfl, hB⟩
end Go.Proofs.YtkkhjeigndcmaaaDoor
/- Lists of entries in memory. -/
namespace Go.Proofs.YtkkhjeigndcmaaaDoor
open Go.RowKit Go.Sort

def rowE (es : List Ent) : List Value := es.flatMap entL
theorem entL_length (e : Ent) : (entL e).length = 5 := rfl
theorem rowE_length (es : List Ent) : (rowE es).length = 5 * es.length := by
  induction es with
  | nil => rfl
  | cons e es ih => simp only [rowE, List.flatMap_cons, List.length_append, List.length_cons] at ih ⊢; rw [ih, entL_length]; omega
theorem rowE_append (a b : List Ent) : rowE (a ++ b) = rowE a ++ rowE b := by simp [rowE]
theorem rowE_cons (e : Ent) (es : List Ent) : rowE (e :: es) = entL e ++ rowE es := rfl
theorem rowE_get (es : List Ent) (i k : Nat) (hi : i < es.length) (hk : k < 5) : (rowE es)[i * 5 + k]? = (entL es[i])[k]? := by
  induction es generalizing i with
  | nil => simp at hi
  | cons e es ih =>
    rw [rowE_cons]
    match i with
    | 0 => rw [Nat.zero_mul, Nat.zero_add, List.getElem?_append_left (by rw [entL_length]; omega)]; rfl
    | i + 1 =>
      rw [List.getElem?_append_right (by rw [entL_length]; omega), entL_length, show (i + 1) * 5 + k - 5 = i * 5 + k by omega, ih i (by simpa using hi)]
      rfl
theorem rowE_one (es : List Ent) : ∀ u ∈ rowE es, u.oneCell' = true := by
  intro u hu
  simp only [rowE, List.mem_flatMap, entL, List.mem_cons, List.not_mem_nil, or_false] at hu
  obtain ⟨e, _, h⟩ := hu
  rcases h with h | h | h | h | h <;> (rw [h]; rfl)
/-- The slice (p, es.length) holds the entries es. -/
def EntsIn (w : World) (p : Option Addr) (es : List Ent) : Prop := es = [] ∨ ∃ g, p = some ⟨g, 0, none⟩ ∧ g < w.heap.size ∧ ∀ j u, (rowE es)[j]? = some u → w.cell? ⟨g, j, none⟩ = some u
theorem EntsIn.below {w w' : World} {p : Option Addr} {es : List Ent} (h : EntsIn w p es) (hb : Below w.heap.size w w') : EntsIn w' p es := by
  rcases h with h | ⟨g, hp, hg, hc⟩
  · exact .inl h
  · refine .inr ⟨g, hp, by have := hb.size; omega, fun j u hj => ?_⟩
    rw [hb.cell (p := ⟨g, j, none⟩) hg]
    exact hc j u hj
theorem EntsIn.alloc {w : World} {p : Option Addr} {es : List Ent} (h : EntsIn w p es) (o : Obj) : EntsIn (w.alloc o) p es := h.below (ent_new0 w o)
theorem EntsIn.at {w : World} {p : Option Addr} {es : List Ent} (h : EntsIn w p es) (i : Nat) (hi : i < es.length) : ∃ g a l n m t, p = some ⟨g, 0, none⟩ ∧ g < w.heap.size ∧ es[i] = ⟨a, l, n, m, t⟩ ∧ w.cell? ⟨g, i * 5, none⟩ = some (.int .i64 a) ∧ w.cell? ⟨g, i * 5 + 1, none⟩ = some (.int .i64 l) ∧ w.cell? ⟨g, i * 5 + 2, none⟩ = some (.int .i64 n) ∧ w.cell? ⟨g, i * 5 + 3, none⟩ = some (.int .i64 m) ∧ w.cell? ⟨g, i * 5 + 4, none⟩ = some (.int .i64 t) := by
  rcases h with rfl | ⟨g, hp, hg, hc⟩
  · simp at hi
  · exact ⟨g, es[i].a, es[i].l, es[i].n, es[i].m, es[i].t, hp, hg, rfl, hc _ _ (rowE_get es i 0 hi (by omega)), hc _ _ (rowE_get es i 1 hi (by omega)), hc _ _ (rowE_get es i 2 hi (by omega)), hc _ _ (rowE_get es i 3 hi (by omega)), hc _ _ (rowE_get es i 4 hi (by omega))⟩
def ripB (c : Int) (es : List Ent) : Bool := decide (c = 1 ∨ c = 2) && decide (es.length ≤ 8) && es.all entB
def ripV (c : Int) (p : Option Addr) (n cap : Nat) : Value := .agg #[.int .i64 c, .slice p n cap]
theorem all_next (es : List Ent) (k : Nat) (h : k < es.length) (ha : (es.take k).all entB = true) : (es.take (k + 1)).all entB = entB es[k] := by
  rw [List.take_succ_eq_append_getElem h, List.all_append, ha]; simp
theorem all_bad (es : List Ent) (k : Nat) (h : k < es.length) (ha : entB es[k] = false) : es.all entB = false := by
  rw [List.all_eq_false]; exact ⟨es[k], List.getElem_mem h, by rw [ha]; simp⟩
theorem ripB_bad (c : Int) (es : List Ent) (k : Nat) (h : k < es.length) (ha : entB es[k] = false) : ripB c es = false := by
  unfold ripB; rw [all_bad es k h ha, Bool.and_false]
end Go.Proofs.YtkkhjeigndcmaaaDoor
/- Words, their sums, datagrams and frames, in plain lists of bytes. -/
namespace Go.Proofs.YtkkhjeigndcmaaaDoor

def wordL (n : Int) : List UInt8 := [UInt8.ofNat (n / 256 % 256).toNat, UInt8.ofNat (n % 256).toNat]
def wordsL (ns : List Int) : List UInt8 := ns.flatMap wordL
theorem wordsL_nil : wordsL [] = [] := rfl
theorem wordsL_cons (n : Int) (ns : List Int) : wordsL (n :: ns) = wordL n ++ wordsL ns := rfl
theorem wordsL_append (a b : List Int) : wordsL (a ++ b) = wordsL a ++ wordsL b := by simp [wordsL]
theorem wordL_length (n : Int) : (wordL n).length = 2 := rfl
theorem wordsL_length (ns : List Int) : (wordsL ns).length = 2 * ns.length := by
  induction ns with
  | nil => rfl
  | cons a l ih => rw [wordsL_cons, List.length_append, ih, wordL_length, List.length_cons]; omega
theorem wordL_low (n : Int) : wordL (n % 65536) = wordL n := by
  unfold wordL
  rw [show n % 65536 / 256 % 256 = n / 256 % 256 by omega, show n % 65536 % 256 = n % 256 by omega]
/-- The sum of words, byte by byte; 'true': at a higher byte. -/
def ra : Bool → List UInt8 → Nat
  | _, [] => 0
  | true, a :: l => 256 * a.toNat + ra false l
  | false, a :: l => a.toNat + ra true l
theorem ra_nil (b : Bool) : ra b [] = 0 := by cases b <;> rfl
theorem ra_le (b : Bool) (l : List UInt8) : ra b l ≤ 65280 * l.length := by
  induction l generalizing b with
  | nil => rw [ra_nil]; omega
  | cons a l ih =>
    have ha : a.toNat < 256 := a.toNat_lt
    cases b
    · have := ih true; simp only [ra, List.length_cons]; omega
    · have := ih false; simp only [ra, List.length_cons]; omega
theorem ra_at (l : List UInt8) (i : Nat) (h : i < l.length) (b : Bool) : ra b (l.drop i) = (if b then 256 * l[i].toNat else l[i].toNat) + ra (!b) (l.drop (i + 1)) := by
  rw [List.drop_eq_getElem_cons h]
  cases b <;> simp [ra]
theorem ra_at2 (l : List UInt8) (i : Nat) (h : i + 1 < l.length) : ra true (l.drop i) = 256 * l[i].toNat + l[i + 1].toNat + ra true (l.drop (i + 2)) := by
  rw [List.drop_eq_getElem_cons (i := i) (by omega), List.drop_eq_getElem_cons h, show i + 2 = i + 1 + 1 from rfl]
  simp only [ra]
  omega
theorem ra_at1 (l : List UInt8) (i : Nat) (h : i < l.length) (h2 : ¬ i + 1 < l.length) : ra true (l.drop i) = 256 * l[i].toNat := by
  rw [List.drop_eq_getElem_cons h, List.drop_eq_nil_of_le (by omega)]
  simp [ra]
/-- What is above 65535 added to what is below, again and again. -/
def foldN (n : Nat) : Nat := if n = 0 then 0 else (n - 1) % 65535 + 1
theorem foldN_small (n : Nat) (h : n ≤ 65535) : foldN n = n := by unfold foldN; split <;> omega
theorem foldN_le (n : Nat) : foldN n ≤ 65535 := by unfold foldN; split <;> omega
theorem foldN_step (n : Nat) (h : 65535 < n) : foldN (n / 65536 + n % 65536) = foldN n := by
  unfold foldN; rw [if_neg (by omega), if_neg (by omega)]; omega
def sumN (l : List UInt8) : Nat := 65535 - foldN (ra true l)
theorem sumN_le (l : List UInt8) : sumN l ≤ 65535 := by unfold sumN; omega
/-- The number in some bytes, the highest first. -/
def numL (l : List UInt8) : Nat := l.foldl (fun n b => 256 * n + b.toNat) 0
theorem numL_take (l : List UInt8) (i : Nat) (h : i < l.length) : numL (l.take (i + 1)) = 256 * numL (l.take i) + l[i].toNat := by
  unfold numL
  rw [List.take_succ_eq_append_getElem h, List.foldl_append]; rfl
theorem numL_lt (l : List UInt8) : numL l < 256 ^ l.length := by
  unfold numL
  have : ∀ (l : List UInt8) (n k : Nat), n < 256 ^ k → l.foldl (fun n b => 256 * n + b.toNat) n < 256 ^ (k + l.length) := by
    intro l
    induction l with
    | nil => intro n k h; simpa using h
    | cons a l ih =>
      intro n k h
      have ha : a.toNat < 256 := a.toNat_lt
      have := ih (256 * n + a.toNat) (k + 1) (by rw [Nat.pow_succ]; omega)
      rw [List.foldl_cons, List.length_cons, show k + (l.length + 1) = k + 1 + l.length by omega]
      exact this
  have := this l 0 0 (by simp)
  simpa using this

/-- A datagram's head with a sum, and what stands behind it. -/
def headL (s d ttl : Int) (n : Nat) (sum : Int) : List UInt8 := wordsL [17664, 28 + (n : Int), 0, 0, ttl * 256 + 17, sum, s / 65536, s, d / 65536, d]
def bodyL (sp dp : Int) (t : List UInt8) (sum : Int) : List UInt8 := wordsL [sp, dp, 8 + (t.length : Int), sum] ++ t
def aheadL (s d : Int) (n : Nat) : List UInt8 := wordsL [s / 65536, s, d / 65536, d, 17, 8 + (n : Int)]
theorem headL_length (s d ttl : Int) (n : Nat) (sum : Int) : (headL s d ttl n sum).length = 20 := by rw [headL, wordsL_length]; rfl
theorem bodyL_length (sp dp : Int) (t : List UInt8) (sum : Int) : (bodyL sp dp t sum).length = 8 + t.length := by rw [bodyL, List.length_append, wordsL_length]; rfl
def bsumN (s d sp dp : Int) (t : List UInt8) : Nat := if sumN (aheadL s d t.length ++ bodyL sp dp t 0) = 0 then 65535 else sumN (aheadL s d t.length ++ bodyL sp dp t 0)
theorem bsumN_le (s d sp dp : Int) (t : List UInt8) : bsumN s d sp dp t ≤ 65535 := by
  unfold bsumN; split
  · omega
  · exact sumN_le _
def dgL (s d sp dp ttl : Int) (t : List UInt8) : List UInt8 := headL s d ttl t.length (sumN (headL s d ttl t.length 0)) ++ bodyL sp dp t (bsumN s d sp dp t)
theorem dgL_length (s d sp dp ttl : Int) (t : List UInt8) : (dgL s d sp dp ttl t).length = 28 + t.length := by
  rw [dgL, List.length_append, headL_length, bodyL_length]; omega
/-- A frame's bytes. -/
def frL (v : Int) (t : List UInt8) : List UInt8 := wordsL [0, 0, 0, 0, 0, 0, 33024, v, 2048] ++ t
theorem frL_length (v : Int) (t : List UInt8) : (frL v t).length = 18 + t.length := by rw [frL, List.length_append, wordsL_length]; rfl
/-- A datagram's text without its sums. -/
def bareL (l : List UInt8) : List UInt8 := l.take 10 ++ ((l.drop 12).take 14 ++ l.drop 28)
def bareZ (l : List UInt8) : List UInt8 := l.take 10 ++ ([0, 0] ++ ((l.drop 12).take 14 ++ ([0, 0] ++ l.drop 28)))
theorem bare_iff (a b : List UInt8) (ha : 28 ≤ a.length) (hb : 28 ≤ b.length) : bareZ a = bareZ b ↔ bareL a = bareL b := by
  have h1 : (a.take 10).length = (b.take 10).length := by simp; omega
  have h2 : ((a.drop 12).take 14).length = ((b.drop 12).take 14).length := by simp; omega
  unfold bareZ bareL
  constructor
  · intro h
    obtain ⟨e1, h⟩ := List.append_inj h h1
    obtain ⟨_, h⟩ := List.append_inj h rfl
    obtain ⟨e2, h⟩ := List.append_inj h h2
    obtain ⟨_, e3⟩ := List.append_inj h rfl
    rw [e1, e2, e3]
  · intro h
    obtain ⟨e1, h⟩ := List.append_inj h h1
    obtain ⟨e2, e3⟩ := List.append_inj h h2
    rw [e1, e2, e3]
end Go.Proofs.YtkkhjeigndcmaaaDoor
/- What routers say, in plain lists of bytes. -/
namespace Go.Proofs.YtkkhjeigndcmaaaDoor
open Go.RowKit Go.Sort

def entNs (e : Ent) : List Int := [2, e.t, e.a / 65536, e.a, maskV e.l / 65536, maskV e.l, e.n / 65536, e.n, 0, e.m]
def entBy (e : Ent) : List UInt8 := wordsL (entNs e)
theorem entBy_length (e : Ent) : (entBy e).length = 20 := by unfold entBy; rw [wordsL_length]; rfl
def entsBy (es : List Ent) : List UInt8 := es.flatMap entBy
theorem entsBy_cons (e : Ent) (es : List Ent) : entsBy (e :: es) = entBy e ++ entsBy es := rfl
theorem entsBy_append (a b : List Ent) : entsBy (a ++ b) = entsBy a ++ entsBy b := by simp [entsBy]
theorem entsBy_length (es : List Ent) : (entsBy es).length = 20 * es.length := by
  induction es with
  | nil => rfl
  | cons e es ih => rw [entsBy_cons, List.length_append, entBy_length, ih, List.length_cons]; omega
theorem entsBy_next (es : List Ent) (k : Nat) (h : k < es.length) : entsBy (es.take (k + 1)) = entsBy (es.take k) ++ entBy es[k] := by
  rw [List.take_succ_eq_append_getElem h, entsBy_append]; simp [entsBy]
def ripHd (c : Int) : List UInt8 := wordsL [c * 256 + 2, 0]
theorem ripHd_length (c : Int) : (ripHd c).length = 4 := rfl
def ripL (c : Int) (es : List Ent) : List UInt8 := ripHd c ++ entsBy es
theorem ripL_length (c : Int) (es : List Ent) : (ripL c es).length = 4 + 20 * es.length := by rw [ripL, List.length_append, ripHd_length, entsBy_length]
def ripT (c : Int) (es : List Ent) : ByteArray := ⟨(ripL c es).toArray⟩
def ripO (c : Int) (es : List Ent) : ByteArray := if ripB c es = true then ripT c es else ByteArray.empty
theorem ripT_size (c : Int) (es : List Ent) : (ripT c es).size = 4 + 20 * es.length := by
  show (ripL c es).toArray.size = _
  rw [List.size_toArray, ripL_length]
theorem ripB_spec {c : Int} {es : List Ent} (h : ripB c es = true) : (c = 1 ∨ c = 2) ∧ es.length ≤ 8 ∧ es.all entB = true := by
  simp only [ripB, Bool.and_eq_true, decide_eq_true_eq] at h
  exact ⟨h.1.1, h.1.2, h.2⟩
theorem all_at {es : List Ent} (h : es.all entB = true) (k : Nat) (hk : k < es.length) : entB es[k] = true := List.all_eq_true.1 h _ (List.getElem_mem hk)
theorem entB_spec {a l n m t : Int} (h : entB ⟨a, l, n, m, t⟩ = true) : (0 ≤ a ∧ a ≤ 4294967295) ∧ (0 ≤ l ∧ l ≤ 32) ∧ cutV a l = a ∧ (0 ≤ n ∧ n ≤ 4294967295) ∧ (1 ≤ m ∧ m ≤ 16) ∧ (0 ≤ t ∧ t ≤ 65535) := by
  simp only [entB, rightB, inAddr, inMet, inTag, Bool.and_eq_true, decide_eq_true_eq] at h
  obtain ⟨⟨⟨⟨h1, h2, h3, h4, h5⟩, h6⟩, h7⟩, h8⟩ := h
  exact ⟨⟨h1, h2⟩, ⟨h3, h4⟩, h5, h6, h7, h8⟩
end Go.Proofs.YtkkhjeigndcmaaaDoor
/- Pieces of a row of bytes, and the numbers in them. -/
namespace Go.Proofs.YtkkhjeigndcmaaaDoor
open Go.RowKit

def cutL (l : List UInt8) (a b : Nat) : List UInt8 := (l.take b).drop a
theorem cutL_length (l : List UInt8) (a b : Nat) (h : b ≤ l.length) : (cutL l a b).length = b - a := by simp [cutL]; omega
theorem cutL_extract (t : ByteArray) (a b : Nat) : (t.extract a b).data.toList = cutL t.data.toList a b := by
  simp [cutL, ByteArray.extract, ByteArray.copySlice, List.drop_take]
theorem byteN (x : Int) (h0 : 0 ≤ x) (h1 : x < 256) : (UInt8.ofNat x.toNat).toNat = x.toNat := by
  rw [UInt8.toNat_ofNat']; omega
theorem num_word (n : Int) (h0 : 0 ≤ n) (h1 : n ≤ 65535) : (numL (wordL n) : Int) = n := by
  have e1 := byteN (n / 256 % 256) (by omega) (by omega)
  have e2 := byteN (n % 256) (by omega) (by omega)
  simp only [numL, wordL, List.foldl_cons, List.foldl_nil, e1, e2]
  omega
theorem num_four (n : Int) (h0 : 0 ≤ n) (h1 : n ≤ 4294967295) : (numL (wordL (n / 65536) ++ wordL n) : Int) = n := by
  have e1 := byteN (n / 65536 / 256 % 256) (by omega) (by omega)
  have e2 := byteN (n / 65536 % 256) (by omega) (by omega)
  have e3 := byteN (n / 256 % 256) (by omega) (by omega)
  have e4 := byteN (n % 256) (by omega) (by omega)
  simp only [numL, wordL, List.cons_append, List.nil_append, List.foldl_cons, List.foldl_nil, e1, e2, e3, e4]
  omega
end Go.Proofs.YtkkhjeigndcmaaaDoor
/- Masks of the model. -/
namespace Go.Proofs.YtkkhjeigndcmaaaDoor
open Go.RowKit

set_option maxRecDepth 100000 in
theorem specMask_any (l : Int) (w : World) :
    Calls Tryd.prog 36 #[.int .i64 l] w fun e w' => e = .returned (.int .i64 (maskV l)) ∧ w = w' := by
  by_cases h : 0 ≤ l ∧ l ≤ 32
  · have hm := maskV_in l h.1 h.2
    have HM : Hid _ := hm
    have HC : Hid (∀ w, Calls Tryd.prog 55 #[.int .i64 (32 - l)] w fun e w' => e = .returned (.int .i64 (gap l : Int)) ∧ w = w') := fun w => l03Pow_at l (32 - l) w h.1 h.2 rfl
    have hd : decide (0 ≤ l ∧ l ≤ 32) = true := by simpa using h
    have hg := gap_le l
    have hg1 := gap_pos l
    obtain ⟨h0, h1⟩ := h
    clear hm
    go_enter Tryd.func36, Tryd.ntmps36
    go_wp2_with fail
    refine (l03Is_any l 0 32 _).mono ?_
    rintro e w1 ⟨rfl, rfl⟩
    rw [hd]
    go_wp2_with fail
    refine (HC.out _).mono ?_
    rintro e w1 ⟨rfl, rfl⟩
    go_wp2
    go_ret
    exact ⟨ret_i64 (by rw [HM.out]), rfl⟩
  · rw [maskV_out l h]
    have hd : decide (0 ≤ l ∧ l ≤ 32) = false := by simpa using h
    go_enter Tryd.func36, Tryd.ntmps36
    go_wp2_with fail
    refine (l03Is_any l 0 32 _).mono ?_
    rintro e w1 ⟨rfl, rfl⟩
    rw [hd]
    go_wp2
    go_ret
    exact ⟨rfl, rfl⟩
end Go.Proofs.YtkkhjeigndcmaaaDoor
/- Masks, of the program and of the model. -/
/- Lengths of masks, of the program and of the model. -/
namespace Go.Proofs.YtkkhjeigndcmaaaDoor
open Go.RowKit

/-- The first length, from k on, whose mask this is. -/
def lenFrom (m : Int) : Nat → Nat → Int
  | 0, _ => -1
  | f + 1, k => if maskV (k : Int) = m then (k : Int) else lenFrom m f (k + 1)
def lenM (m : Int) : Int := lenFrom m 33 0
theorem lenFrom_hit (m : Int) (k : Nat) (hk : k < 33) (h : maskV (k : Int) = m) : lenFrom m (33 - k) k = (k : Int) := by
  rw [show 33 - k = (32 - k) + 1 by omega]; simp only [lenFrom]; rw [if_pos h]
theorem lenFrom_miss (m : Int) (k : Nat) (hk : k < 33) (h : ¬ maskV (k : Int) = m) : lenFrom m (33 - k) k = lenFrom m (33 - (k + 1)) (k + 1) := by
  rw [show 33 - k = (32 - k) + 1 by omega]; simp only [lenFrom]; rw [if_neg h, show 33 - (k + 1) = 32 - k by omega]
set_option maxRecDepth 100000 in
theorem implLen_any (m : Int) (w : World) :
    Calls Tryd.prog 64 #[.int .i64 m] w fun e w' => e = .returned (.int .i64 (lenM m)) ∧ w = w' := by
  have HM : Hid (∀ (l : Int) (w : World), Calls Tryd.prog 72 #[.int .i64 l] w fun e w' => e = .returned (.int .i64 (maskV l)) ∧ w = w') := implMask_any
  have HH : Hid _ := lenFrom_hit m
  have HX : Hid _ := lenFrom_miss m
  have H0 : Hid (lenM m = lenFrom m (33 - 0) 0) := rfl
  have HE : Hid (lenFrom m (33 - 33) 33 = -1) := rfl
  generalize lenM m = R at *
  generalize lenFrom m = F at *
  generalize maskV = M at *
  go_enter Tryd.func64, Tryd.ntmps64
  go_wp2_with fail
  go_loop [4] (fun i => ∃ k : Nat, k ≤ 33 ∧ i = .int .i64 (k : Int) ∧ Hid (R = F (33 - k) k)) (fun i => 33 - (intOf i).toNat)
  case atStart => exact ⟨0, by omega, rfl, H0⟩
  case round =>
    obtain ⟨k, hk, rfl, HR⟩ := hrel
    by_cases hlt : k < 33
    · have hh := HH.out k hlt
      have hx := HX.out k hlt
      have HHH : Hid _ := hh
      have HXX : Hid _ := hx
      clear hh hx
      go_wp2_with fail
      refine (HM.out _ _).mono ?_
      rintro e w1 ⟨rfl, rfl⟩
      by_cases hm : M (k : Int) = m
      · have hb : (M (k : Int) == m) = true := by simpa using hm
        have HMM : Hid _ := hm
        clear hm
        generalize M (k : Int) = mk at *
        go_wp2
        go_ret
        exact ⟨ret_i64 (by rw [HR.out, HHH.out HMM.out]), rfl⟩
      · have hb : (M (k : Int) == m) = false := by simpa using hm
        have HMM : Hid (¬ M (k : Int) = m) := hm
        clear hm
        generalize M (k : Int) = mk at *
        go_wp2
        go_round
        case rel => exact ⟨k + 1, by omega, by go_num, by show _ = _; rw [HR.out, HXX.out HMM.out]⟩
        case measure => simp [intOf]; omega
    · obtain rfl : k = 33 := by omega
      rw [show ((33 : Nat) : Int) = 33 from rfl]
      go_wp2
      go_ret
      exact ⟨ret_i64 (by rw [HR.out, HE.out]), rfl⟩
set_option maxRecDepth 100000 in
theorem specLen_any (m : Int) (w : World) :
    Calls Tryd.prog 23 #[.int .i64 m] w fun e w' => e = .returned (.int .i64 (lenM m)) ∧ w = w' := by
  have HM : Hid (∀ (l : Int) (w : World), Calls Tryd.prog 36 #[.int .i64 l] w fun e w' => e = .returned (.int .i64 (maskV l)) ∧ w = w') := specMask_any
  have HH : Hid _ := lenFrom_hit m
  have HX : Hid _ := lenFrom_miss m
  have H0 : Hid (lenM m = lenFrom m (33 - 0) 0) := rfl
  have HE : Hid (lenFrom m (33 - 33) 33 = -1) := rfl
  generalize lenM m = R at *
  generalize lenFrom m = F at *
  generalize maskV = M at *
  go_enter Tryd.func23, Tryd.ntmps23
  go_wp2_with fail
  go_loop [3] (fun i => ∃ k : Nat, k ≤ 33 ∧ i = .int .i64 (k : Int) ∧ Hid (R = F (33 - k) k)) (fun i => 33 - (intOf i).toNat)
  case atStart => exact ⟨0, by omega, rfl, H0⟩
  case round =>
    obtain ⟨k, hk, rfl, HR⟩ := hrel
    by_cases hlt : k < 33
    · have hh := HH.out k hlt
      have hx := HX.out k hlt
      have HHH : Hid _ := hh
      have HXX : Hid _ := hx
      clear hh hx
      go_wp2_with fail
      refine (HM.out _ _).mono ?_
      rintro e w1 ⟨rfl, rfl⟩
      by_cases hm : M (k : Int) = m
      · have hb : (M (k : Int) == m) = true := by simpa using hm
        have HMM : Hid _ := hm
        clear hm
        generalize M (k : Int) = mk at *
        go_wp2
        go_ret
        exact ⟨ret_i64 (by rw [HR.out, HHH.out HMM.out]), rfl⟩
      · have hb : (M (k : Int) == m) = false := by simpa using hm
        have HMM : Hid (¬ M (k : Int) = m) := hm
        clear hm
        generalize M (k : Int) = mk at *
        go_wp2
        go_round
        case rel => exact ⟨k + 1, by omega, by go_num, by show _ = _; rw [HR.out, HXX.out HMM.out]⟩
        case measure => simp [intOf]; omega
    · obtain rfl : k = 33 := by omega
      rw [show ((33 : Nat) : Int) = 33 from rfl]
      go_wp2
      go_ret
      exact ⟨ret_i64 (by rw [HR.out, HE.out]), rfl⟩
end Go.Proofs.YtkkhjeigndcmaaaDoor
/- What routers say, read: in plain lists of bytes. -/
namespace Go.Proofs.YtkkhjeigndcmaaaDoor
open Go.RowKit Go.Sort

theorem lenMask_nat : ∀ k : Nat, k < 33 → lenM (maskV (k : Int)) = (k : Int) := by decide
theorem lenMask (m : Int) (h0 : 0 ≤ m) (h1 : m ≤ 32) : lenM (maskV m) = m := by
  obtain ⟨k, rfl⟩ := Int.eq_ofNat_of_zero_le h0
  exact lenMask_nat k (by omega)
theorem lenFrom_mask (m : Int) : ∀ f k : Nat, 0 ≤ lenFrom m f k → maskV (lenFrom m f k) = m
  | 0, k, h => by simp [lenFrom] at h
  | f + 1, k, h => by
    simp only [lenFrom] at h ⊢
    split at h
    · rename_i hm; rw [if_pos hm]; exact hm
    · rename_i hm; rw [if_neg hm]; exact lenFrom_mask m f (k + 1) h
theorem maskLen (m : Int) (h : 0 ≤ lenM m) : maskV (lenM m) = m := lenFrom_mask m 33 0 h
/-- The entry in the first twenty bytes. -/
def readE (l : List UInt8) : Ent := ⟨(numL (cutL l 4 8) : Nat), lenM (numL (cutL l 8 12) : Nat), (numL (cutL l 12 16) : Nat), (numL (cutL l 16 20) : Nat), (numL (cutL l 2 4) : Nat)⟩
theorem readE_by (e : Ent) (he : entB e = true) (r : List UInt8) : readE (entBy e ++ r) = e := by
  obtain ⟨a, l, n, m, t⟩ := e
  obtain ⟨ha, hl, _, hn, hm, ht⟩ := entB_spec he
  have hmr := maskV_range l
  have c1 : cutL (entBy ⟨a, l, n, m, t⟩ ++ r) 4 8 = wordL (a / 65536) ++ wordL a := rfl
  have c2 : cutL (entBy ⟨a, l, n, m, t⟩ ++ r) 8 12 = wordL (maskV l / 65536) ++ wordL (maskV l) := rfl
  have c3 : cutL (entBy ⟨a, l, n, m, t⟩ ++ r) 12 16 = wordL (n / 65536) ++ wordL n := rfl
  have c4 : cutL (entBy ⟨a, l, n, m, t⟩ ++ r) 16 20 = wordL 0 ++ wordL m := rfl
  have c5 : cutL (entBy ⟨a, l, n, m, t⟩ ++ r) 2 4 = wordL t := rfl
  have e4 : wordL 0 ++ wordL m = wordL (m / 65536) ++ wordL m := by rw [show m / 65536 = 0 by omega]
  unfold readE
  rw [c1, c2, c3, c4, e4, c5, num_four a ha.1 ha.2, num_four (maskV l) hmr.1 hmr.2, num_four n hn.1 hn.2, num_four m (by omega) (by omega), num_word t ht.1 ht.2, lenMask l hl.1 hl.2]
theorem word_num (a b : UInt8) : wordL (numL [a, b] : Nat) = [a, b] := by
  have h1 := a.toNat_lt
  have h2 := b.toNat_lt
  unfold wordL numL
  simp only [List.foldl_cons, List.foldl_nil]
  congr 1
  · apply UInt8.toNat_inj.1; rw [UInt8.toNat_ofNat']; omega
  · congr 1; apply UInt8.toNat_inj.1; rw [UInt8.toNat_ofNat']; omega
theorem four_num (a b c d : UInt8) : wordL ((numL [a, b, c, d] : Nat) / 65536) ++ wordL (numL [a, b, c, d] : Nat) = [a, b, c, d] := by
  have h1 := a.toNat_lt
  have h2 := b.toNat_lt
  have h3 := c.toNat_lt
  have h4 := d.toNat_lt
  unfold wordL numL
  simp only [List.foldl_cons, List.foldl_nil, List.cons_append, List.nil_append]
  congr 1
  · apply UInt8.toNat_inj.1; rw [UInt8.toNat_ofNat']; omega
  · congr 1
    · apply UInt8.toNat_inj.1; rw [UInt8.toNat_ofNat']; omega
    · congr 1
      · apply UInt8.toNat_inj.1; rw [UInt8.toNat_ofNat']; omega
      · congr 1; apply UInt8.toNat_inj.1; rw [UInt8.toNat_ofNat']; omega
def isEnt (l : List UInt8) : Prop := 20 ≤ l.length ∧ l.take 2 = [0, 2]
def isMark (l : List UInt8) : Prop := 8 ≤ l.length ∧ l.take 4 = [255, 255, 0, 3]
instance (l : List UInt8) : Decidable (isEnt l) := by unfold isEnt; infer_instance
instance (l : List UInt8) : Decidable (isMark l) := by unfold isMark; infer_instance
theorem list4 {l : List UInt8} (n : Nat) (h : n + 4 ≤ l.length) : ∃ a b c d r, l = a :: b :: c :: d :: r ∧ n ≤ r.length := by
  match l, h with
  | a :: b :: c :: d :: r, h => exact ⟨a, b, c, d, r, rfl, by simp at h; omega⟩
theorem list20 {l : List UInt8} (h : 20 ≤ l.length) : ∃ b0 b1 b2 b3 b4 b5 b6 b7 b8 b9 c0 c1 c2 c3 c4 c5 c6 c7 c8 c9 r, l = b0 :: b1 :: b2 :: b3 :: b4 :: b5 :: b6 :: b7 :: b8 :: b9 :: c0 :: c1 :: c2 :: c3 :: c4 :: c5 :: c6 :: c7 :: c8 :: c9 :: r := by
  obtain ⟨b0, b1, b2, b3, l1, rfl, h1⟩ := list4 16 h
  obtain ⟨b4, b5, b6, b7, l2, rfl, h2⟩ := list4 12 h1
  obtain ⟨b8, b9, c0, c1, l3, rfl, h3⟩ := list4 8 h2
  obtain ⟨c2, c3, c4, c5, l4, rfl, h4⟩ := list4 4 h3
  obtain ⟨c6, c7, c8, c9, r, rfl, _⟩ := list4 0 h4
  exact ⟨b0, b1, b2, b3, b4, b5, b6, b7, b8, b9, c0, c1, c2, c3, c4, c5, c6, c7, c8, c9, r, rfl⟩
/-- An entry that is right, and begins as one: its bytes are those that were read. -/
theorem entBy_read (l : List UInt8) (h : isEnt l) (he : entB (readE l) = true) : entBy (readE l) = l.take 20 := by
  obtain ⟨h20, h2⟩ := h
  obtain ⟨b0, b1, b2, b3, b4, b5, b6, b7, b8, b9, c0, c1, c2, c3, c4, c5, c6, c7, c8, c9, r, rfl⟩ := list20 h20
  simp only [List.take_succ_cons, List.take_zero, List.cons.injEq, and_true] at h2
  obtain ⟨rfl, rfl⟩ := h2
  have hR : readE (0 :: 2 :: b2 :: b3 :: b4 :: b5 :: b6 :: b7 :: b8 :: b9 :: c0 :: c1 :: c2 :: c3 :: c4 :: c5 :: c6 :: c7 :: c8 :: c9 :: r) = ⟨(numL [b4, b5, b6, b7] : Nat), lenM (numL [b8, b9, c0, c1] : Nat), (numL [c2, c3, c4, c5] : Nat), (numL [c6, c7, c8, c9] : Nat), (numL [b2, b3] : Nat)⟩ := rfl
  rw [hR] at he ⊢
  obtain ⟨_, hl, _, _, hm, _⟩ := entB_spec he
  have hmask := maskLen _ hl.1
  have hz : wordL 0 = wordL ((numL [c6, c7, c8, c9] : Nat) / 65536) := by rw [show ((numL [c6, c7, c8, c9] : Nat) : Int) / 65536 = 0 by omega]
  unfold entBy entNs
  simp only [hmask]
  rw [show wordsL [2, ((numL [b2, b3] : Nat) : Int), ((numL [b4, b5, b6, b7] : Nat) : Int) / 65536, ((numL [b4, b5, b6, b7] : Nat) : Int), ((numL [b8, b9, c0, c1] : Nat) : Int) / 65536, ((numL [b8, b9, c0, c1] : Nat) : Int), ((numL [c2, c3, c4, c5] : Nat) : Int) / 65536, ((numL [c2, c3, c4, c5] : Nat) : Int), 0, ((numL [c6, c7, c8, c9] : Nat) : Int)] = wordL 2 ++ (wordL (numL [b2, b3] : Nat) ++ ((wordL ((numL [b4, b5, b6, b7] : Nat) / 65536) ++ wordL (numL [b4, b5, b6, b7] : Nat)) ++ ((wordL ((numL [b8, b9, c0, c1] : Nat) / 65536) ++ wordL (numL [b8, b9, c0, c1] : Nat)) ++ ((wordL ((numL [c2, c3, c4, c5] : Nat) / 65536) ++ wordL (numL [c2, c3, c4, c5] : Nat)) ++ (wordL 0 ++ wordL (numL [c6, c7, c8, c9] : Nat)))))) by simp [wordsL]]
  rw [hz, word_num, four_num, four_num, four_num, four_num]
  rfl
/-- The first k entries, wherever they are read. -/
def readEs (l : List UInt8) : Nat → List Ent
  | 0 => []
  | k + 1 => readEs l k ++ [readE (l.drop (20 * k))]
theorem readEs_length (l : List UInt8) (k : Nat) : (readEs l k).length = k := by
  induction k with
  | zero => rfl
  | succ k ih => simp [readEs, ih]
theorem readEs_by (es : List Ent) (h : es.all entB = true) (r : List UInt8) : ∀ k, k ≤ es.length → readEs (entsBy es ++ r) k = es.take k
  | 0, _ => rfl
  | k + 1, hk => by
    have hlt : k < es.length := by omega
    rw [readEs, readEs_by es h r k (by omega), List.take_succ_eq_append_getElem hlt]
    congr 2
    have e1 : entsBy es = entsBy (es.take k) ++ entsBy (es.drop k) := by rw [← entsBy_append, List.take_append_drop]
    have e2 : (entsBy (es.take k)).length = 20 * k := by rw [entsBy_length, List.length_take]; omega
    rw [e1, List.append_assoc, List.drop_left' e2, List.drop_eq_getElem_cons hlt, entsBy_cons, List.append_assoc]
    exact readE_by _ (all_at h k hlt) _
/-- Entries one behind the other, as far as k. -/
def EntsTo (l : List UInt8) (k : Nat) : Prop := 20 * k ≤ l.length ∧ ∀ j, j < k → isEnt (l.drop (20 * j))
theorem EntsTo.by (es : List Ent) (r : List UInt8) : EntsTo (entsBy es ++ r) es.length := by
  refine ⟨by rw [List.length_append, entsBy_length]; omega, fun j hj => ?_⟩
  have e1 : entsBy es = entsBy (es.take j) ++ entsBy (es.drop j) := by rw [← entsBy_append, List.take_append_drop]
  have e2 : (entsBy (es.take j)).length = 20 * j := by rw [entsBy_length, List.length_take]; omega
  rw [e1, List.append_assoc, List.drop_left' e2, List.drop_eq_getElem_cons hj, entsBy_cons, List.append_assoc]
  refine ⟨by rw [List.length_append, entBy_length]; omega, rfl⟩
theorem EntsTo.text (l : List UInt8) (k : Nat) (h : EntsTo l k) (ha : (readEs l k).all entB = true) : entsBy (readEs l k) = l.take (20 * k) := by
  induction k with
  | zero => rfl
  | succ k ih =>
    have hk : EntsTo l k := ⟨by have := h.1; omega, fun j hj => h.2 j (by omega)⟩
    rw [readEs, List.all_append, Bool.and_eq_true] at ha
    have hb : entB (readE (l.drop (20 * k))) = true := by simpa using ha.2
    rw [readEs, entsBy_append, ih hk ha.1, show entsBy [readE (l.drop (20 * k))] = entBy (readE (l.drop (20 * k))) by simp [entsBy], entBy_read _ (h.2 k (by omega)) hb, show 20 * (k + 1) = 20 * k + 20 by omega, List.take_add]
theorem ent_mark {l : List UInt8} (h1 : isEnt l) (h2 : isMark l) : False := by
  obtain ⟨h20, h1⟩ := h1
  obtain ⟨b0, b1, b2, b3, b4, b5, b6, b7, b8, b9, c0, c1, c2, c3, c4, c5, c6, c7, c8, c9, r, rfl⟩ := list20 h20
  have h3 := h2.2
  simp only [List.take_succ_cons, List.take_zero, List.cons.injEq, and_true] at h1 h3
  rw [h1.1] at h3
  exact absurd h3.1 (by decide)
/-- The end is found in one place alone. -/
theorem EntsTo.one {l : List UInt8} {j k : Nat} (hj : EntsTo l j) (hk : EntsTo l k) (nj : ¬ isEnt (l.drop (20 * j))) (nk : ¬ isEnt (l.drop (20 * k))) : j = k := by
  rcases Nat.lt_trichotomy j k with h | h | h
  · exact absurd (hk.2 j h) nj
  · exact h
  · exact absurd (hj.2 k h) nk
end Go.Proofs.YtkkhjeigndcmaaaDoor
/- Bytes cut, read as a number, and summed, of the program. -/
namespace Go.Proofs.YtkkhjeigndcmaaaDoor
open Go.RowKit

/-- The bytes l lie in block g from offset o on. -/
def BytesIn (w : World) (g o : Nat) (l : List UInt8) : Prop := ∀ j, (h : j < l.length) → w.cell? ⟨g, o + j, none⟩ = some (.int .u8 (l[j].toNat : Int))
theorem BytesIn.below {B : Nat} {w w' : World} {g o : Nat} {l : List UInt8} (h : BytesIn w g o l) (hb : Below B w w') (hg : g < B) : BytesIn w' g o l := by
  intro j hj
  rw [hb.cell (p := ⟨g, o + j, none⟩) hg]
  exact h j hj
theorem BytesIn.of_cells {w : World} {g : Nat} {l : List UInt8} (h : ∀ j u, (cellsB l)[j]? = some u → w.cell? ⟨g, j, none⟩ = some u) : BytesIn w g 0 l := by
  intro j hj
  rw [Nat.zero_add]
  exact h j _ (by simp [cellsB, hj])
theorem BytesIn.piece {w : World} {g o : Nat} {l : List UInt8} (h : BytesIn w g o l) (a b : Nat) (hb : b ≤ l.length) (_ : a ≤ b) : BytesIn w g (if b = a then o else o + a) ((l.take b).drop a) := by
  intro j hj
  rw [List.length_drop, List.length_take] at hj
  rw [if_neg (by omega), List.getElem_drop, List.getElem_take, Nat.add_assoc]
  exact h (a + j) (by omega)
theorem Tryd.elemB : Tryd.prog.elem 56 = 5 := by kernel_rfl
set_option maxRecDepth 100000 in
theorem piece_run (g o n cap l h : Nat) (w : World) (hlh : l ≤ h) (hc : h ≤ cap) :
    (Instr.slice 56 (.slice (some ⟨g, o, none⟩) n cap) (some (.int .i64 (l : Int))) (some (.int .i64 (h : Int))) (some (.int .i64 (h : Int)))).run Tryd.prog w = .ok (.slice (some ⟨g, if h = l then o else o + l, none⟩) (h - l) (h - l)) w := by
  have hu : Tryd.prog.underlying 56 = some (.slice (Tryd.prog.elem 56)) := Tryd.underlying56
  have hr := run_slice_lhm (P := Tryd.prog) (w := w) (t := 56) (a := some ⟨g, o, none⟩) (len := n) (cap := cap) hu .i64 .i64 .i64 (l : Int) (h : Int) (h : Int) (by omega) (by omega) (by omega) (by omega)
  rw [hr]
  have hsize : (sizeOf (Tryd.prog.elem 56)).run Tryd.prog w = .ok 1 w := by kernel_rfl
  rw [hsize]
  simp only [Result.andThen, sliced, Int.toNat_natCast, Nat.mul_one]
  by_cases e : h = l
  · simp [e]
  · rw [if_neg e, if_neg e]
    simp only [Option.map_some]
    congr 4
    unfold Addr.add; split <;> simp_all
set_option maxRecDepth 100000 in
theorem piece_any (g o n cap l h : Nat) (w : World) (hlh : l ≤ h) (hc : h ≤ cap) :
    Calls Tryd.prog 45 #[.slice (some ⟨g, o, none⟩) n cap, .int .i64 (l : Int), .int .i64 (h : Int)] w fun e w' => e = .returned (.slice (some ⟨g, if h = l then o else o + l, none⟩) (h - l) (h - l)) ∧ w = w' := by
  have hr := piece_run g o n cap l h w hlh hc
  generalize (if h = l then o else o + l) = o' at *
  generalize h - l = d at *
  go_enter Tryd.func45, Tryd.ntmps45
  go_wp2
  go_ret
  exact ⟨rfl, rfl⟩
theorem or_low (a n : Nat) (ha : a < 1099511627776) (hn : n ≤ 255) : bits .or .i64 ((a : Int) * 256) (n : Int) = ((256 * a + n : Nat) : Int) := by
  have h := i64_or_nat (a * 256) n (by omega) (by omega)
  rw [show ((a : Int) * 256) = ((a * 256 : Nat) : Int) by omega, h]
  have := Nat.two_pow_add_eq_or_of_lt (i := 8) (b := n) (by omega) a
  rw [Nat.mul_comm a 256]
  exact congrArg _ this.symm
theorem and_word (x : Nat) (h : x < 9223372036854775808) : bits .and .i64 (x : Int) 65535 = ((x % 65536 : Nat) : Int) := by
  have := i64_and_nat x 65535 h (by omega)
  rw [show ((65535 : Nat) : Int) = 65535 from rfl] at this
  rw [this, show (65535 : Nat) = 2 ^ 16 - 1 from rfl, Nat.and_two_pow_sub_one_eq_mod]
set_option maxRecDepth 100000 in
theorem numberOf_any (l : List UInt8) (g o cap : Nat) (w : World) (hl : l.length ≤ 4) (hB : BytesIn w g o l) :
    Calls Tryd.prog 44 #[.slice (some ⟨g, o, none⟩) l.length cap] w fun e w' => e = .returned (.int .i64 (numL l : Int)) ∧ w = w' := by
  have HP : Hid (∀ k, k ≤ 4 → numL (l.take k) < 4294967296) := by
    intro k hk
    have h1 := numL_lt (l.take k)
    have h2 : 256 ^ (l.take k).length ≤ 256 ^ 4 := Nat.pow_le_pow_right (by decide) (by rw [List.length_take]; omega)
    omega
  have H0 : Hid (numL (l.take 0) = 0) := rfl
  have HS : Hid (∀ k, (h : k < l.length) → numL (l.take (k + 1)) = 256 * numL (l.take k) + l[k].toNat) := numL_take l
  have HE : Hid (numL (l.take l.length) = numL l) := by rw [Hid, List.take_length]
  generalize numL l = R at *
  generalize hf : (fun k => numL (l.take k)) = f
  have e : ∀ k, numL (l.take k) = f k := fun k => by rw [← hf]
  simp only [e] at HP H0 HS HE
  clear e hf
  go_enter Tryd.func44, Tryd.ntmps44
  go_wp2_with fail
  go_loop [3, 8] (fun v i => ∃ k : Nat, k ≤ l.length ∧ i = .int .i64 (k : Int) ∧ v = .int .i64 (f k : Int)) (fun _ i => l.length - (intOf i).toNat)
  case atStart => exact ⟨0, by omega, rfl, by rw [H0.out]; rfl⟩
  case round =>
    obtain ⟨k, hk, rfl, rfl⟩ := hrel
    by_cases hlt : k < l.length
    · have hc1 := hB k hlt
      have hb := l[k].toNat_lt
      have hf1 := HP.out k (by omega)
      have HN := HS.out k hlt
      have HO : Hid _ := or_low (f k) l[k].toNat (by omega) (by omega)
      have hw1 := wrap_i64_in ((f k : Int) * 256) (by omega) (by omega)
      have hN : Hid (f (k + 1) = 256 * f k + l[k].toNat) := HN
      clear HN
      generalize l[k].toNat = c at *
      generalize hfk : f k = n at *
      clear hfk
      go_wp2
      go_round
      case rel => exact ⟨k + 1, by omega, by go_num, by rw [hN.out, ← HO.out]⟩
      case measure => simp [intOf]; omega
    · obtain rfl : k = l.length := by omega
      rw [HE.out]
      go_wp2
      go_ret
      exact ⟨rfl, rfl⟩
end Go.Proofs.YtkkhjeigndcmaaaDoor
/- '[]byte(t)' and 'string(b)', where the bytes are only read. -/
namespace Go.Proofs.YtkkhjeigndcmaaaDoor
open Go.RowKit

theorem text_bytes (w : World) (t : ByteArray) :
    ∃ g cap w', (convert 9 56 (.string t)).run Tryd.prog w = .ok (.slice (some ⟨g, 0, none⟩) t.size cap) w' ∧ t.size ≤ cap ∧ BytesIn w' g 0 t.data.toList ∧ w.heap.size ≤ g ∧ g < w'.heap.size ∧ Below w.heap.size w w' := by
  have hr := run_bytes_of_string (P := Tryd.prog) w 9 56 5 t Tryd.underlying9 Tryd.underlying56 Tryd.underlying5
  have hge := grownCap_ge w t.size 0 5
  refine ⟨_, _, _, hr, hge, ?_, Nat.le_refl _, ?_, ((Below.refl _ w).drew).alloc (Nat.le_refl _) _⟩
  · intro j hj
    rw [Nat.zero_add]
    rw [cell_of_row _ w.heap.size j _ 5 _ (heap_alloc_new w.drew _)]
    have hj2 : j < t.size := by simpa using hj
    have hj3 : j < t.data.size := hj2
    simp only [bytesRow, Array.getElem?_append, Array.size_map]
    rw [if_pos hj3, Array.getElem?_map, Array.getElem?_eq_getElem hj3]
    rfl
  · show w.heap.size < (w.heap.push _).size
    simp
theorem bytes_text (w : World) (g o cap : Nat) (l : List UInt8) (n : Nat) (hn : n = l.length) (h : BytesIn w g o l) :
    (convert 56 9 (.slice (some ⟨g, o, none⟩) n cap)).run Tryd.prog w = .ok (.string ⟨l.toArray⟩) w := by
  subst hn
  refine run_convert_bytes_back w 56 9 5 ⟨g, o, none⟩ cap l Tryd.underlying56 Tryd.underlying5 Tryd.underlying9 ?_
  intro j hj
  rw [show (⟨g, o, none⟩ : Addr).add j = ⟨g, o + j, none⟩ by unfold Addr.add; split <;> simp_all]
  exact h j hj
theorem box3' {w w0 w1 : World} {x y z : Value} {t : TypeId} (h0 : w0 = w.alloc (.cells #[x, y, z] t)) (h : Below w0.heap.size w0 w1) : w1.cell? ⟨w.heap.size, 0, none⟩ = some x ∧ w1.cell? ⟨w.heap.size, 1, none⟩ = some y ∧ w1.cell? ⟨w.heap.size, 2, none⟩ = some z := by
  subst h0
  have hr := heap_alloc_new w (.cells #[x, y, z] t)
  refine ⟨?_, ?_, ?_⟩
  · rw [h.cell (p := ⟨w.heap.size, 0, none⟩) (by simp), cell_of_row _ _ _ _ t _ hr]; simp
  · rw [h.cell (p := ⟨w.heap.size, 1, none⟩) (by simp), cell_of_row _ _ _ _ t _ hr]; simp
  · rw [h.cell (p := ⟨w.heap.size, 2, none⟩) (by simp), cell_of_row _ _ _ _ t _ hr]; simp
end Go.Proofs.YtkkhjeigndcmaaaDoor
/- Words put together, of the program. -/
namespace Go.Proofs.YtkkhjeigndcmaaaDoor
open Go.RowKit

def valsN (l : List Int) : List Value := l.map (Value.int .i64)
theorem valsN_length (l : List Int) : (valsN l).length = l.length := by simp [valsN]
theorem word_cells (n : Int) : cellsB (wordL n) = [.int .u8 (n / 256 % 256), .int .u8 (n % 256)] := by
  have e0 : ((UInt8.ofNat (n / 256 % 256).toNat).toNat : Int) = n / 256 % 256 := byte_of_int _ (by omega) (by omega)
  have e1 : ((UInt8.ofNat (n % 256).toNat).toNat : Int) = n % 256 := byte_of_int _ (by omega) (by omega)
  simp only [wordL, cellsB, List.map_cons, List.map_nil, e0, e1]
theorem words_next (ns : List Int) (k : Nat) (h : k < ns.length) : wordsL (ns.take (k + 1)) = wordsL (ns.take k) ++ wordL ns[k] := by
  rw [List.take_succ_eq_append_getElem h, wordsL_append]; simp [wordsL]
set_option maxRecDepth 100000 in
theorem implWords_any (ns : List Int) (g cap : Nat) (w : World) (hr : Row w g 2 (valsN ns)) (hc : cap = ns.length) (hn : ns.length ≤ 1000) (hw : ∀ n ∈ ns, (-9223372036854775808 : Int) ≤ n ∧ n ≤ 9223372036854775807) :
    Calls Tryd.prog 63 #[.slice (some ⟨g, 0, none⟩) ns.length cap] w fun e w' => ∃ v, e = .returned v ∧ Own w' w.heap.size 5 v (cellsB (wordsL ns)) ∧ Below w.heap.size w w' := by
  obtain ⟨i0, hi0, hz0, hz1, hz2⟩ := info_parts Tryd.infoB
  have hw2 := wrap_i64_in (2 * (ns.length : Int)) (by omega) (by omega)
  subst hc
  go_enter Tryd.func63, Tryd.ntmps63
  go_wp2_with (at_make; refine wpList_make_own _ rfl _ _ 56 rfl w.heap.size 5 i0 (.int .u8 0) 1 Tryd.underlying56 hi0 hz0 hz1 .i64 .i64 (2 * (ns.length : Int)) (2 * ns.length) rfl rfl (by omega) (by rw [hz2]; omega) (by unfold maxLen; omega) (Nat.le_refl _) ?_)
  intro w1 hown hgrow
  have hb1 : Below w.heap.size w w1 := (Below.refl _ _).grown hgrow (Nat.le_refl _) (by intro k hk; cases hk)
  have hown1 : Own w1 w.heap.size 5 (.slice (some ⟨w.heap.size, 0, none⟩) 0 (2 * ns.length)) (cellsB (wordsL (ns.take 0))) := hown
  clear hown hgrow hw2 hi0 hz0 hz1 hz2
  go_wp2_with fail
  go_loopw [3, 12] (fun v i wr => ∃ k : Nat, k ≤ ns.length ∧ i = .int .i64 k ∧ Own wr w.heap.size 5 v (cellsB (wordsL (ns.take k))) ∧ Below w.heap.size w wr) (fun _ i _ => ns.length - (intOf i).toNat)
  case atStart => exact ⟨0, by omega, rfl, hown1, hb1⟩
  case round =>
    clear hown1 hb1
    obtain ⟨k, hk, rfl, hown, hbel⟩ := hrel
    have hsz := hbel.size
    by_cases hlt : k < ns.length
    · have hr2 := hr.below hbel hr.lt
      have HT : Hid (wordsL (ns.take (k + 1)) = wordsL (ns.take k) ++ wordL ns[k]) := words_next ns k hlt
      have hc := hr2.cell k
      have hkn : (valsN ns)[k]? = some (.int .i64 ns[k]) := by simp [valsN, hlt]
      rw [hkn] at hc
      have hx := hw ns[k] (List.getElem_mem hlt)
      have hol : (wordsL (ns.take k)).length ≤ 2000 := by rw [wordsL_length, List.length_take]; omega
      clear hkn hr2 hr hw
      generalize ns[k] = x at *
      generalize wordsL (ns.take k) = l at *
      go_wp2_with (at_builtin; refine wpList_append_vals rfl _ _ 56 rfl w.heap.size 5 Tryd.underlying56 (.int .u8 0) rfl 1 (by omega) Tryd.infoB _ (cellsB l) (cellsB (wordL x)) rfl (hown.alloc _) wr.heap.size 2 rfl ?c1 ?c2 ?c3 ?c4 ?_)
      case c1 =>
        rw [word_cells x]
        intro i u hu
        rw [(Row.new wr 5 [.int .u8 (x / 256 % 256), .int .u8 (x % 256)]).cell i]
        exact hu
      case c2 => exact cellsB_one _
      case c3 => simp [cellsB_length, wordL]; omega
      case c4 => simp; omega
      · intro v' w4 hown4 hbel4
        rw [← cellsB_append, ← HT.out] at hown4
        go_wp2
        go_roundw
        case rel => exact ⟨k + 1, by omega, by go_num, hown4, (hbel.alloc hsz _).trans hbel4⟩
        case measure => simp [intOf]; omega
    · obtain rfl : k = ns.length := by omega
      rw [List.take_length] at hown
      go_wp2
      go_ret
      exact ⟨_, rfl, hown, hbel⟩
end Go.Proofs.YtkkhjeigndcmaaaDoor
/- Pieces of bytes: where they begin with words; entries in them; of the program. -/
namespace Go.Proofs.YtkkhjeigndcmaaaDoor
open Go.RowKit Go.Sort

theorem piece_off (g o n cap a b : Nat) (x y : Int) (hx : x = a) (hy : y = b) (hab : a < b) (hb : b ≤ cap) (p k : Nat) (hp : p = o + a) (hk : k = b - a) (w : World) :
    Calls Tryd.prog 45 #[.slice (some ⟨g, o, none⟩) n cap, .int .i64 x, .int .i64 y] w fun e w' => e = .returned (.slice (some ⟨g, p, none⟩) k k) ∧ w = w' := by
  have := piece_any g o n cap a b w (by omega) hb
  rw [if_neg (by omega), ← hk, ← hp, ← hx, ← hy] at this
  exact this
theorem BytesIn.off {w : World} {g o : Nat} {l : List UInt8} (h : BytesIn w g o l) (a b : Nat) (hb : b ≤ l.length) (hab : a < b) (p : Nat) (hp : p = o + a) : BytesIn w g p (cutL l a b) := by
  have := h.piece a b hb (by omega)
  rwa [if_neg (by omega), ← hp] at this
theorem number_off (l : List UInt8) (g p a b k : Nat) (hk : k = b - a) (hb : b ≤ l.length) (h4 : b - a ≤ 4) (w : World) (hB : BytesIn w g p (cutL l a b)) :
    Calls Tryd.prog 44 #[.slice (some ⟨g, p, none⟩) k k] w fun e w' => e = .returned (.int .i64 (numL (cutL l a b) : Nat)) ∧ w = w' := by
  have hl := cutL_length l a b hb
  have := numberOf_any (cutL l a b) g p k w (by omega) hB
  rw [hl, ← hk] at this
  exact this
set_option maxRecDepth 100000 in
set_option maxHeartbeats 1000000 in
theorem entryOf_any (l : List UInt8) (g o : Nat) (w : World) (hl : l.length = 20) (hB : BytesIn w g o l) (hg : g < w.heap.size) :
    Calls Tryd.prog 47 #[.slice (some ⟨g, o, none⟩) 20 20] w fun e w' => e = .returned (entV (readE l)) ∧ Below w.heap.size w w' := by
  have HB : Hid (∀ a b p, b ≤ 20 → a < b → p = o + a → BytesIn (w.alloc (.cells #[.int .i64 0, .int .i64 0, .int .i64 0, .int .i64 0, .int .i64 0] 51)) g p (cutL l a b)) := fun a b p hb hab hp => (hB.below (ent_new0 w _) hg).off a b (by omega) hab p hp
  have HP1 : Hid (∀ w, Calls Tryd.prog 45 #[.slice (some ⟨g, o, none⟩) 20 20, .int .i64 4, .int .i64 8] w fun e w' => e = .returned (.slice (some ⟨g, o + 4, none⟩) 4 4) ∧ w = w') := piece_off g o 20 20 4 8 4 8 rfl rfl (by omega) (by omega) _ _ rfl rfl
  have HP2 : Hid (∀ w, Calls Tryd.prog 45 #[.slice (some ⟨g, o, none⟩) 20 20, .int .i64 8, .int .i64 12] w fun e w' => e = .returned (.slice (some ⟨g, o + 8, none⟩) 4 4) ∧ w = w') := piece_off g o 20 20 8 12 8 12 rfl rfl (by omega) (by omega) _ _ rfl rfl
  have HP3 : Hid (∀ w, Calls Tryd.prog 45 #[.slice (some ⟨g, o, none⟩) 20 20, .int .i64 12, .int .i64 16] w fun e w' => e = .returned (.slice (some ⟨g, o + 12, none⟩) 4 4) ∧ w = w') := piece_off g o 20 20 12 16 12 16 rfl rfl (by omega) (by omega) _ _ rfl rfl
  have HP4 : Hid (∀ w, Calls Tryd.prog 45 #[.slice (some ⟨g, o, none⟩) 20 20, .int .i64 16, .int .i64 20] w fun e w' => e = .returned (.slice (some ⟨g, o + 16, none⟩) 4 4) ∧ w = w') := piece_off g o 20 20 16 20 16 20 rfl rfl (by omega) (by omega) _ _ rfl rfl
  have HP5 : Hid (∀ w, Calls Tryd.prog 45 #[.slice (some ⟨g, o, none⟩) 20 20, .int .i64 2, .int .i64 4] w fun e w' => e = .returned (.slice (some ⟨g, o + 2, none⟩) 2 2) ∧ w = w') := piece_off g o 20 20 2 4 2 4 rfl rfl (by omega) (by omega) _ _ rfl rfl
  have HN1 : Hid (∀ w, BytesIn w g (o + 4) (cutL l 4 8) → Calls Tryd.prog 44 #[.slice (some ⟨g, o + 4, none⟩) 4 4] w fun e w' => e = .returned (.int .i64 (numL (cutL l 4 8) : Nat)) ∧ w = w') := number_off l g _ 4 8 4 rfl (by omega) (by omega)
  have HN2 : Hid (∀ w, BytesIn w g (o + 8) (cutL l 8 12) → Calls Tryd.prog 44 #[.slice (some ⟨g, o + 8, none⟩) 4 4] w fun e w' => e = .returned (.int .i64 (numL (cutL l 8 12) : Nat)) ∧ w = w') := number_off l g _ 8 12 4 rfl (by omega) (by omega)
  have HN3 : Hid (∀ w, BytesIn w g (o + 12) (cutL l 12 16) → Calls Tryd.prog 44 #[.slice (some ⟨g, o + 12, none⟩) 4 4] w fun e w' => e = .returned (.int .i64 (numL (cutL l 12 16) : Nat)) ∧ w = w') := number_off l g _ 12 16 4 rfl (by omega) (by omega)
  have HN4 : Hid (∀ w, BytesIn w g (o + 16) (cutL l 16 20) → Calls Tryd.prog 44 #[.slice (some ⟨g, o + 16, none⟩) 4 4] w fun e w' => e = .returned (.int .i64 (numL (cutL l 16 20) : Nat)) ∧ w = w') := number_off l g _ 16 20 4 rfl (by omega) (by omega)
  have HN5 : Hid (∀ w, BytesIn w g (o + 2) (cutL l 2 4) → Calls Tryd.prog 44 #[.slice (some ⟨g, o + 2, none⟩) 2 2] w fun e w' => e = .returned (.int .i64 (numL (cutL l 2 4) : Nat)) ∧ w = w') := number_off l g _ 2 4 2 rfl (by omega) (by omega)
  have HL : Hid (∀ w, Calls Tryd.prog 64 #[.int .i64 (numL (cutL l 8 12) : Nat)] w fun e w' => e = .returned (.int .i64 (lenM (numL (cutL l 8 12) : Nat))) ∧ w = w') := implLen_any _
  unfold entV readE
  simp only
  clear hB
  generalize lenM (numL (cutL l 8 12) : Nat) = LV at *
  generalize numL (cutL l 4 8) = V1 at *
  generalize numL (cutL l 8 12) = V2 at *
  generalize numL (cutL l 12 16) = V3 at *
  generalize numL (cutL l 16 20) = V4 at *
  generalize numL (cutL l 2 4) = V5 at *
  go_enter Tryd.func47, Tryd.ntmps47
  go_wp2_with fail
  refine (HP1.out _).mono ?_
  rintro e w1 ⟨rfl, rfl⟩
  go_wp2_with fail
  refine (HN1.out _ (HB.out 4 8 _ (by omega) (by omega) rfl)).mono ?_
  rintro e w1 ⟨rfl, rfl⟩
  go_wp2_with fail
  refine (HP2.out _).mono ?_
  rintro e w1 ⟨rfl, rfl⟩
  go_wp2_with fail
  refine (HN2.out _ (HB.out 8 12 _ (by omega) (by omega) rfl)).mono ?_
  rintro e w1 ⟨rfl, rfl⟩
  go_wp2_with fail
  refine (HL.out _).mono ?_
  rintro e w1 ⟨rfl, rfl⟩
  go_wp2_with fail
  refine (HP3.out _).mono ?_
  rintro e w1 ⟨rfl, rfl⟩
  go_wp2_with fail
  refine (HN3.out _ (HB.out 12 16 _ (by omega) (by omega) rfl)).mono ?_
  rintro e w1 ⟨rfl, rfl⟩
  go_wp2_with fail
  refine (HP4.out _).mono ?_
  rintro e w1 ⟨rfl, rfl⟩
  go_wp2_with fail
  refine (HN4.out _ (HB.out 16 20 _ (by omega) (by omega) rfl)).mono ?_
  rintro e w1 ⟨rfl, rfl⟩
  go_wp2_with fail
  refine (HP5.out _).mono ?_
  rintro e w1 ⟨rfl, rfl⟩
  go_wp2_with fail
  refine (HN5.out _ (HB.out 2 4 _ (by omega) (by omega) rfl)).mono ?_
  rintro e w1 ⟨rfl, rfl⟩
  go_wp2
  refine bodyPost_ret (v := .agg #[.int .i64 (V1 : Int), .int .i64 LV, .int .i64 (V3 : Int), .int .i64 (V4 : Int), .int .i64 (V5 : Int)]) (by simp [results, Tryd.results47, go_sem]) rfl ⟨rfl, ?_⟩
  exact ent_new0 _ _
set_option maxRecDepth 100000 in
theorem bytesEqual_any (g o c g2 o2 c2 : Nat) (l m : List UInt8) (w : World) (hl : BytesIn w g o l) (hm : BytesIn w g2 o2 m) :
    Calls Tryd.prog 71 #[.slice (some ⟨g, o, none⟩) l.length c, .slice (some ⟨g2, o2, none⟩) m.length c2] w fun e w' => e = .returned (.bool (decide (l = m))) ∧ w = w' := by
  have h1 := bytes_text w g o c l l.length rfl hl
  have h2 := bytes_text w g2 o2 c2 m m.length rfl hm
  have h3 : ((⟨l.toArray⟩ : ByteArray).toList == (⟨m.toArray⟩ : ByteArray).toList) = decide (l = m) := by
    rw [ByteArray.toList_eq, ByteArray.toList_eq]
    by_cases e : l = m
    · simp [e]
    · simp [e]
  generalize decide (l = m) = D at *
  generalize (⟨l.toArray⟩ : ByteArray) = L at *
  generalize (⟨m.toArray⟩ : ByteArray) = M at *
  go_enter Tryd.func71, Tryd.ntmps71
  go_wp2
  go_ret
  exact ⟨ret_bool (by first | rfl | (simp; exact h3)), rfl⟩
set_option maxRecDepth 100000 in
theorem upto_run (g o n cap k : Nat) (w : World) (hk : k ≤ cap) :
    (Instr.slice 56 (.slice (some ⟨g, o, none⟩) n cap) none (some (.int .i64 (k : Int))) none).run Tryd.prog w = .ok (.slice (some ⟨g, o, none⟩) k cap) w := by
  have hu : Tryd.prog.underlying 56 = some (.slice (Tryd.prog.elem 56)) := Tryd.underlying56
  have hr := run_slice_h (P := Tryd.prog) (w := w) (t := 56) (a := some ⟨g, o, none⟩) (len := n) (cap := cap) hu .i64 (k : Int) (by omega) (by omega)
  rw [hr]
  have hsize : (sizeOf (Tryd.prog.elem 56)).run Tryd.prog w = .ok 1 w := by kernel_rfl
  rw [hsize]
  simp [Result.andThen, sliced, Addr.add]
set_option maxRecDepth 100000 in
theorem hasPrefix_any (g o c g2 o2 c2 : Nat) (l m : List UInt8) (w : World) (hl : BytesIn w g o l) (hm : BytesIn w g2 o2 m) (hc : l.length ≤ c) :
    Calls Tryd.prog 62 #[.slice (some ⟨g, o, none⟩) l.length c, .slice (some ⟨g2, o2, none⟩) m.length c2] w fun e w' => e = .returned (.bool (decide (l.take m.length = m))) ∧ w = w' := by
  by_cases hle : m.length ≤ l.length
  · have d1 : decide ((m.length : Int) ≤ (l.length : Int)) = true := by simp; omega
    have hs := upto_run g o l.length c m.length w (by omega)
    have hlt : (l.take m.length).length = m.length := by simp; omega
    have HE := bytesEqual_any g o c g2 o2 c2 (l.take m.length) m w (fun j hj => by rw [hl j (by omega)]; simp) hm
    rw [hlt] at HE
    have HE' : Hid (Calls Tryd.prog 71 #[.slice (some ⟨g, o, none⟩) m.length c, .slice (some ⟨g2, o2, none⟩) m.length c2] w fun e w' => e = .returned (.bool (decide (l.take m.length = m))) ∧ w = w') := HE
    clear HE
    generalize decide (l.take m.length = m) = D at *
    go_enter Tryd.func62, Tryd.ntmps62
    go_wp2_with fail
    refine (HE'.out).mono ?_
    rintro e w1 ⟨rfl, rfl⟩
    go_wp2
    go_ret
    exact ⟨rfl, rfl⟩
  · have d1 : decide ((m.length : Int) ≤ (l.length : Int)) = false := by simp; omega
    have HD : Hid (decide (l.take m.length = m) = false) := by
      show _ = _
      rw [decide_eq_false_iff_not]
      intro e
      have := congrArg List.length e
      simp at this
      omega
    rw [HD.out]
    go_enter Tryd.func62, Tryd.ntmps62
    go_wp2
    go_ret
    exact ⟨rfl, rfl⟩
theorem BytesIn.own {w : World} {base : Nat} {v : Value} {l : List UInt8} (h : Own w base 5 v (cellsB l)) (hl : l ≠ []) : ∃ g cap, v = .slice (some ⟨g, 0, none⟩) l.length cap ∧ BytesIn w g 0 l := by
  obtain ⟨g, cap, hv, _, _, _, hc⟩ := h.form (by intro e; have := congrArg List.length e; rw [cellsB_length] at this; exact hl (List.length_eq_zero_iff.1 (by simpa using this)))
  rw [cellsB_length] at hv
  exact ⟨g, cap, hv, BytesIn.of_cells hc⟩
set_option maxRecDepth 100000 in
theorem begins_any (g o c : Nat) (l : List UInt8) (size : Nat) (gm : Nat) (ns : List Int) (w : World) (hl : BytesIn w g o l) (hg : g < w.heap.size) (hc : l.length ≤ c) (hr : Row w gm 2 (valsN ns)) (hn : ns ≠ []) (hn2 : ns.length ≤ 1000) (hw : ∀ n ∈ ns, (-9223372036854775808 : Int) ≤ n ∧ n ≤ 9223372036854775807) :
    Calls Tryd.prog 46 #[.slice (some ⟨g, o, none⟩) l.length c, .int .i64 (size : Int), .slice (some ⟨gm, 0, none⟩) ns.length ns.length] w fun e w' => e = .returned (.bool (decide (size ≤ l.length ∧ l.take (2 * ns.length) = wordsL ns))) ∧ Below w.heap.size w w' := by
  have HW : Hid (Calls Tryd.prog 63 #[.slice (some ⟨gm, 0, none⟩) ns.length ns.length] w fun e w' => ∃ v, e = .returned v ∧ Own w' w.heap.size 5 v (cellsB (wordsL ns)) ∧ Below w.heap.size w w') := implWords_any ns gm ns.length w hr rfl hn2 hw
  have hwl := wordsL_length ns
  have hne : wordsL ns ≠ [] := by
    intro e
    rw [e] at hwl
    exact hn (List.length_eq_zero_iff.1 (by simp at hwl; omega))
  have HP : Hid (∀ g2 c2 w, BytesIn w g o l → BytesIn w g2 0 (wordsL ns) → Calls Tryd.prog 62 #[.slice (some ⟨g, o, none⟩) l.length c, .slice (some ⟨g2, 0, none⟩) (wordsL ns).length c2] w fun e w' => e = .returned (.bool (decide (l.take (wordsL ns).length = wordsL ns))) ∧ w = w') := fun g2 c2 w h1 h2 => hasPrefix_any g o c g2 0 c2 l (wordsL ns) w h1 h2 hc
  have HL : Hid (BytesIn w g o l) := hl
  have HE : Hid ((wordsL ns).length = 2 * ns.length) := hwl
  clear hl hr hw hwl
  by_cases hsz : size ≤ l.length
  · have d1 : decide ((size : Int) ≤ (l.length : Int)) = true := by simp; omega
    have HD : Hid (decide (size ≤ l.length ∧ l.take (2 * ns.length) = wordsL ns) = decide (l.take (wordsL ns).length = wordsL ns)) := by show _ = _; rw [HE.out]; simp [hsz]
    rw [HD.out]
    generalize decide (l.take (wordsL ns).length = wordsL ns) = D at *
    go_enter Tryd.func46, Tryd.ntmps46
    go_wp2_with fail
    refine (HW.out).mono ?_
    rintro e w1 ⟨v, rfl, ho, hb1⟩
    obtain ⟨g2, c2, rfl, hB2⟩ := BytesIn.own ho hne
    have HL1 : Hid _ := HL.out.below hb1 hg
    clear ho
    go_wp2_with fail
    refine (HP.out g2 c2 _ HL1.out hB2).mono ?_
    rintro e w2 ⟨rfl, rfl⟩
    go_wp2
    go_ret
    exact ⟨rfl, hb1⟩
  · have d1 : decide ((size : Int) ≤ (l.length : Int)) = false := by simp; omega
    have HD : Hid (decide (size ≤ l.length ∧ l.take (2 * ns.length) = wordsL ns) = false) := by show _ = _; simp [hsz]
    rw [HD.out]
    go_enter Tryd.func46, Tryd.ntmps46
    go_wp2
    go_ret
    exact ⟨rfl, Below.refl _ _⟩
end Go.Proofs.YtkkhjeigndcmaaaDoor
/- Lists of entries that a call makes by appending. -/
namespace Go.Proofs.YtkkhjeigndcmaaaDoor
open Go.RowKit Go.Sort

theorem Tryd.infoEn : (Tryd.prog.info? 51).map (fun i => (i.zero, i.size, i.bytes)) = some (some (.agg #[.int .i64 0, .int .i64 0, .int .i64 0, .int .i64 0, .int .i64 0]), 5, 40) := by kernel_rfl
/-- The slice value v owns just the entries es, in memory from block 'base' on. -/
def OwnE (w : World) (base : Nat) (v : Value) (es : List Ent) : Prop := w.ownsRow base 51 5 v es.length (rowE es)
theorem OwnE.nil (w : World) (base : Nat) : OwnE w base (.slice none 0 0) [] := World.ownsRow_nil w base _ 5
theorem OwnE.alloc {w : World} {base : Nat} {v : Value} {es : List Ent} (h : OwnE w base v es) (o : Obj) : OwnE (w.alloc o) base v es := World.ownsRow.alloc h o
theorem OwnE.of_block {w w' : World} {base : Nat} {v : Value} {es : List Ent} (h : OwnE w base v es) (hb : ∀ g, g < w.heap.size → base ≤ g → w'.heap[g]? = w.heap[g]?) : OwnE w' base v es := by
  refine ⟨h.1, ?_⟩
  rcases h.2 with h2 | ⟨g, cap, cur, hv, hg0, hg, h3⟩
  · exact .inl h2
  · refine .inr ⟨g, cap, cur, hv, hg0, ?_, h3⟩
    rw [hb g (Array.getElem?_eq_some_iff.1 hg).1 hg0]
    exact hg
theorem OwnE.below {w w' : World} {base : Nat} {v : Value} {es : List Ent} (h : OwnE w base v es) (hb : Below w.heap.size w w') : OwnE w' base v es := h.of_block fun g hg _ => hb.block g hg
theorem OwnE.set {w : World} {base : Nat} {v : Value} {es : List Ent} (h : OwnE w base v es) (p : Addr) (hp : p.block < base) (u : Value) : OwnE (w.setCell p u) base v es := h.of_block fun g _ hg => Below.heap_setCell w p u g (by omega)
theorem OwnE.mono {w : World} {base base' : Nat} {v : Value} {es : List Ent} (h : OwnE w base v es) (hb : base' ≤ base) : OwnE w base' v es := by
  refine ⟨h.1, ?_⟩
  rcases h.2 with h2 | ⟨g, cap, cur, hv, hg0, h3⟩
  · exact .inl h2
  · exact .inr ⟨g, cap, cur, hv, by omega, h3⟩
theorem OwnE.form {w : World} {base : Nat} {v : Value} {es : List Ent} (h : OwnE w base v es) : ∃ p cap, v = .slice p es.length cap ∧ EntsIn w p es := by
  have h0 := h
  rcases h.2 with ⟨hv, hn⟩ | ⟨g, cap, cur, rfl, hg0, hg, hnc, _⟩
  · exact ⟨none, 0, by rw [hn]; exact hv, .inl (List.length_eq_zero_iff.1 hn)⟩
  · refine ⟨some ⟨g, 0, none⟩, cap, rfl, .inr ⟨g, rfl, (Array.getElem?_eq_some_iff.1 hg).1, fun j u hj => ?_⟩⟩
    have := World.ownsRow.cells h0 rfl j u hj
    have ea : (⟨g, 0, none⟩ : Addr).add j = ⟨g, j, none⟩ := by unfold Addr.add; split <;> simp_all
    rwa [ea] at this
set_option maxRecDepth 100000 in
/-- 'v = append(v, e)', e laid in a block of its own just ahead. -/
theorem wpList_append_ent {w : World} {ops : Array Oper} {rest : List Oper} {o : Oper} {a : Act} {Q : Exit → Act → World → Prop} (hgd : o.guard = none) (s x : Operand)
    (ho : o.op = .call { callee := .builtin .append, args := #[s, x], argTypes := #[22, 22] })
    (base : Nat) (v : Value) (es : List Ent) (hs : a.eval s = v) (hown : OwnE w base v es) (g c : Nat) (e : Ent) (hx : a.eval x = .slice (some ⟨g, 0, none⟩) 1 c) (hr : Row w g 51 (entL e))
    (hlen : es.length ≤ 1000000) (hbase : base ≤ w.heap.size)
    (h : ∀ v' w', OwnE w' base v' (es ++ [e]) → Below base w w' → wpList Tryd.prog ops Q rest (a.put o.dst v') w') : wpList Tryd.prog ops Q (o :: rest) a w := by
  obtain ⟨i0, hi0, hz0, hz1, hz2⟩ := info_parts Tryd.infoEn
  refine wpList_append_own w hgd s x 22 ho base 51 i0 _ 5 40 Tryd.underlying22 hi0 hz0 hz1 hz2 rfl (by decide) v es.length (rowE es) hs hown ⟨g, 0, none⟩ 1 c (entL e) hx rfl ?_ ?_ ?_ ?_ hbase ?_
  · intro j u hj
    have ea : (⟨g, 0, none⟩ : Addr).add j = ⟨g, j, none⟩ := by unfold Addr.add; split <;> simp_all
    rw [ea, hr.cell]
    exact hj
  · intro u hu
    have := rowE_one [e] u (by simpa [rowE] using hu)
    exact this
  · unfold maxLen; omega
  · omega
  · intro v' w' hown' hgrow _
    refine h v' w' ?_ ((Below.refl base w).grown hgrow hbase fun k hk => (World.ownsRow.lt hown k hk).1)
    unfold OwnE
    rw [List.length_append, rowE_append, show rowE [e] = entL e by simp [rowE]]
    exact hown'
end Go.Proofs.YtkkhjeigndcmaaaDoor
/- Errors of the program: what its variables hold, errors.Is at them (Go's own text of it is walked), and the code of each. -/
namespace Go.Proofs.YtkkhjeigndcmaaaDoor
open Go.RowKit Go.Extern.Stop Go.Stop Go.Extern

/-- The variable of the i-th error. -/
def errG : Nat → Nat
  | 0 => 3
  | 1 => 4
  | 2 => 5
  | 3 => 0
  | 4 => 1
  | 5 => 2
  | _ => 0
/-- The value of the error at an address. -/
def errV (a : Addr) : Value := .iface 107 (.pointer (some a))
/-- The six variables hold six different errors of errors.New's make. -/
def ErrsIn (w : World) (A : Nat → Addr) : Prop := (∀ i, i < 6 → w.cell? ⟨errG i, 0, none⟩ = some (errV (A i))) ∧ (∀ i, i < 6 → ∃ c t, w.heap[(A i).block]? = some (.cells c t (0, 0))) ∧ ∀ i j, i < 6 → j < 6 → i ≠ j → A i ≠ A j
theorem ErrsIn.below {w w' : World} {A : Nat → Addr} (h : ErrsIn w A) (hb : Below w.heap.size w w') : ErrsIn w' A := by
  refine ⟨fun i hi => ?_, fun i hi => ?_, h.2.2⟩
  · rw [hb.cell (p := ⟨errG i, 0, none⟩) (World.block_lt_of_cell? w _ (h.1 i hi))]; exact h.1 i hi
  · obtain ⟨c, t, hc⟩ := h.2.1 i hi
    exact ⟨c, t, by rw [hb.block _ (Array.getElem?_eq_some_iff.1 hc).1]; exact hc⟩
theorem Tryd.isTypeOf (v : Value) (w : World) : (Extern.ReflectliteType.typeOf #[.iface 107 v]).run Tryd.prog w = .ok (.iface 85 (.agg #[.pointer (some ⟨7, 107, none⟩)])) w := by kernel_rfl
/-- The model's entry for (rtype).Comparable. -/
def cmpF : Array Value → Sem Value := Extern.ReflectliteType.method fun t => do Extern.Rtype.noPackHeld "Comparable" t; pure (.bool (← typeInfo t).comparable)
theorem Tryd.isComparable (w : World) : (cmpF #[.agg #[.pointer (some ⟨7, 107, none⟩)]]).run Tryd.prog w = .ok (.bool true) w := by kernel_rfl
theorem Tryd.isMethodComparable (v : Value) (w : World) : (Go.method 244 85 v "Comparable").run Tryd.prog w = .ok (101, v) w := by kernel_rfl
theorem Tryd.isComp : (Tryd.prog.info? 107).map (·.comparable) = some true := by kernel_rfl
theorem Tryd.isSize : (Tryd.prog.info? 132).map (·.size) = some 1 := by kernel_rfl
theorem Tryd.noIsE (v : Value) (xT : TypeId) (w : World) : (Instr.typeAssert (.iface 107 v) xT 87 true).run Tryd.prog w = .ok (.tuple #[.nilIface, .bool false]) w := run_typeAssert_lacksB Tryd.underlying87 (by kernel_rfl) (by kernel_rfl) v xT w
theorem Tryd.noUnwrapE (v : Value) (xT : TypeId) (w : World) : (Instr.typeAssert (.iface 107 v) xT 90 true).run Tryd.prog w = .ok (.tuple #[.nilIface, .bool false]) w := run_typeAssert_lacksB Tryd.underlying90 (by kernel_rfl) (by kernel_rfl) v xT w
theorem Tryd.noUnwrapsE (v : Value) (xT : TypeId) (w : World) : (Instr.typeAssert (.iface 107 v) xT 92 true).run Tryd.prog w = .ok (.tuple #[.nilIface, .bool false]) w := run_typeAssert_lacksB Tryd.underlying92 (by kernel_rfl) (by kernel_rfl) v xT w
set_option maxRecDepth 100000 in
theorem is_same (a : Addr) (w : World) :
    Calls Tryd.prog 30 #[.iface 107 (.pointer (some a)), .iface 107 (.pointer (some a))] w fun e w' => e = .returned (.bool true) ∧ w = w' := by
  obtain ⟨i, hi, hcmp⟩ := Option.map_eq_some_iff.1 Tryd.isComp
  obtain ⟨j, hj, hjs⟩ := Option.map_eq_some_iff.1 Tryd.isSize
  have h8 := @run_callFunc_extern Tryd.prog 50 _ Extern.ReflectliteType.typeOf Tryd.func50 (by kernel_rfl) (by kernel_rfl) (by kernel_rfl) (by kernel_rfl)
  have h32 := @run_callFunc_extern Tryd.prog 101 _ cmpF Tryd.func101 (by kernel_rfl) (by kernel_rfl) (by kernel_rfl) (by kernel_rfl)
  have tT := Tryd.isTypeOf
  have cT := Tryd.isComparable
  have mR := Tryd.isMethodComparable
  have heq := run_eql_iface_ptr_same (P := Tryd.prog) w a Tryd.underlying38 Tryd.underlying107 hi hcmp hj
  go_enter Tryd.func30, Tryd.ntmps30
  go_wp2
  refine wp_loop_rounds 1 ?_
  rw [rounds_succ]
  go_wp2
  go_ret
  exact ⟨rfl, rfl⟩
set_option maxRecDepth 100000 in
theorem is_other (a b : Addr) (ca cb : Array Value) (ta tb : TypeId) (w : World) (hne : a ≠ b) (ha : w.heap[a.block]? = some (.cells ca ta (0, 0))) (hb : w.heap[b.block]? = some (.cells cb tb (0, 0))) :
    Calls Tryd.prog 30 #[.iface 107 (.pointer (some a)), .iface 107 (.pointer (some b))] w fun e w' => e = .returned (.bool false) ∧ w = w' := by
  obtain ⟨i, hi, hcmp⟩ := Option.map_eq_some_iff.1 Tryd.isComp
  obtain ⟨j, hj, hjs⟩ := Option.map_eq_some_iff.1 Tryd.isSize
  have h8 := @run_callFunc_extern Tryd.prog 50 _ Extern.ReflectliteType.typeOf Tryd.func50 (by kernel_rfl) (by kernel_rfl) (by kernel_rfl) (by kernel_rfl)
  have h32 := @run_callFunc_extern Tryd.prog 101 _ cmpF Tryd.func101 (by kernel_rfl) (by kernel_rfl) (by kernel_rfl) (by kernel_rfl)
  have tT := Tryd.isTypeOf
  have cT := Tryd.isComparable
  have mR := Tryd.isMethodComparable
  have nE := Tryd.noIsE
  have uE := Tryd.noUnwrapE
  have vE := Tryd.noUnwrapsE
  have heq := run_eql_iface_ptr_other (P := Tryd.prog) w Tryd.underlying38 Tryd.underlying107 hi hcmp hj (by rw [hjs]; decide) hne ha hb
  go_enter Tryd.func30, Tryd.ntmps30
  go_wp2
  refine wp_loop_rounds 1 ?_
  rw [rounds_succ]
  go_wp2
  go_ret
  exact ⟨rfl, rfl⟩
theorem is_errs (A : Nat → Addr) (w : World) (h : ErrsIn w A) (i j : Nat) (hi : i < 6) (hj : j < 6) : Calls Tryd.prog 30 #[errV (A i), errV (A j)] w fun e w' => e = .returned (.bool (decide (i = j))) ∧ w = w' := by
  by_cases hij : i = j
  · subst hij
    rw [decide_eq_true rfl]
    exact is_same (A i) w
  · rw [decide_eq_false hij]
    obtain ⟨c, t, hc⟩ := h.2.1 i hi
    obtain ⟨d, u, hd⟩ := h.2.1 j hj
    exact is_other (A i) (A j) c d t u w (h.2.2 i j hi hj hij) hc hd
set_option maxRecDepth 100000 in
theorem ripCode_nil (w : World) : Calls Tryd.prog 16 #[.nilIface] w fun e w' => e = .returned (.int .i64 0) ∧ w = w' := by
  go_enter Tryd.func16, Tryd.ntmps16
  go_wp2
  go_ret
  exact ⟨rfl, rfl⟩
set_option maxRecDepth 100000 in
theorem ripCode_Long (A : Nat → Addr) (w : World) (h : ErrsIn w A) : Calls Tryd.prog 16 #[errV (A 0)] w fun e w' => e = .returned (.int .i64 2) ∧ w = w' := by
  have c0 : w.cell? ⟨3, 0, none⟩ = some (.iface 107 (.pointer (some (A 0)))) := h.1 0 (by omega)
  have c1 : w.cell? ⟨4, 0, none⟩ = some (.iface 107 (.pointer (some (A 1)))) := h.1 1 (by omega)
  have c2 : w.cell? ⟨5, 0, none⟩ = some (.iface 107 (.pointer (some (A 2)))) := h.1 2 (by omega)
  have c3 : w.cell? ⟨0, 0, none⟩ = some (.iface 107 (.pointer (some (A 3)))) := h.1 3 (by omega)
  have c4 : w.cell? ⟨1, 0, none⟩ = some (.iface 107 (.pointer (some (A 4)))) := h.1 4 (by omega)
  have c5 : w.cell? ⟨2, 0, none⟩ = some (.iface 107 (.pointer (some (A 5)))) := h.1 5 (by omega)
  have H0 : Hid (Calls Tryd.prog 30 #[.iface 107 (.pointer (some (A 0))), .iface 107 (.pointer (some (A 0)))] w fun e w' => e = .returned (.bool true) ∧ w = w') := is_errs A w h 0 0 (by omega) (by omega)
  unfold errV
  clear h
  go_enter Tryd.func16, Tryd.ntmps16
  go_wp2_with fail
  refine (H0.out).mono ?_
  rintro e w1 ⟨rfl, rfl⟩
  go_wp2
  go_ret
  exact ⟨rfl, rfl⟩
set_option maxRecDepth 100000 in
theorem ripCode_Form (A : Nat → Addr) (w : World) (h : ErrsIn w A) : Calls Tryd.prog 16 #[errV (A 1)] w fun e w' => e = .returned (.int .i64 1) ∧ w = w' := by
  have c0 : w.cell? ⟨3, 0, none⟩ = some (.iface 107 (.pointer (some (A 0)))) := h.1 0 (by omega)
  have c1 : w.cell? ⟨4, 0, none⟩ = some (.iface 107 (.pointer (some (A 1)))) := h.1 1 (by omega)
  have c2 : w.cell? ⟨5, 0, none⟩ = some (.iface 107 (.pointer (some (A 2)))) := h.1 2 (by omega)
  have c3 : w.cell? ⟨0, 0, none⟩ = some (.iface 107 (.pointer (some (A 3)))) := h.1 3 (by omega)
  have c4 : w.cell? ⟨1, 0, none⟩ = some (.iface 107 (.pointer (some (A 4)))) := h.1 4 (by omega)
  have c5 : w.cell? ⟨2, 0, none⟩ = some (.iface 107 (.pointer (some (A 5)))) := h.1 5 (by omega)
  have H0 : Hid (Calls Tryd.prog 30 #[.iface 107 (.pointer (some (A 1))), .iface 107 (.pointer (some (A 0)))] w fun e w' => e = .returned (.bool false) ∧ w = w') := is_errs A w h 1 0 (by omega) (by omega)
  have H1 : Hid (Calls Tryd.prog 30 #[.iface 107 (.pointer (some (A 1))), .iface 107 (.pointer (some (A 1)))] w fun e w' => e = .returned (.bool true) ∧ w = w') := is_errs A w h 1 1 (by omega) (by omega)
  unfold errV
  clear h
  go_enter Tryd.func16, Tryd.ntmps16
  go_wp2_with fail
  refine (H0.out).mono ?_
  rintro e w1 ⟨rfl, rfl⟩
  go_wp2_with fail
  refine (H1.out).mono ?_
  rintro e w1 ⟨rfl, rfl⟩
  go_wp2
  go_ret
  exact ⟨rfl, rfl⟩
set_option maxRecDepth 100000 in
theorem ripCode_Short (A : Nat → Addr) (w : World) (h : ErrsIn w A) : Calls Tryd.prog 16 #[errV (A 2)] w fun e w' => e = .returned (.int .i64 4) ∧ w = w' := by
  have c0 : w.cell? ⟨3, 0, none⟩ = some (.iface 107 (.pointer (some (A 0)))) := h.1 0 (by omega)
  have c1 : w.cell? ⟨4, 0, none⟩ = some (.iface 107 (.pointer (some (A 1)))) := h.1 1 (by omega)
  have c2 : w.cell? ⟨5, 0, none⟩ = some (.iface 107 (.pointer (some (A 2)))) := h.1 2 (by omega)
  have c3 : w.cell? ⟨0, 0, none⟩ = some (.iface 107 (.pointer (some (A 3)))) := h.1 3 (by omega)
  have c4 : w.cell? ⟨1, 0, none⟩ = some (.iface 107 (.pointer (some (A 4)))) := h.1 4 (by omega)
  have c5 : w.cell? ⟨2, 0, none⟩ = some (.iface 107 (.pointer (some (A 5)))) := h.1 5 (by omega)
  have H0 : Hid (Calls Tryd.prog 30 #[.iface 107 (.pointer (some (A 2))), .iface 107 (.pointer (some (A 0)))] w fun e w' => e = .returned (.bool false) ∧ w = w') := is_errs A w h 2 0 (by omega) (by omega)
  have H1 : Hid (Calls Tryd.prog 30 #[.iface 107 (.pointer (some (A 2))), .iface 107 (.pointer (some (A 1)))] w fun e w' => e = .returned (.bool false) ∧ w = w') := is_errs A w h 2 1 (by omega) (by omega)
  have H2 : Hid (Calls Tryd.prog 30 #[.iface 107 (.pointer (some (A 2))), .iface 107 (.pointer (some (A 2)))] w fun e w' => e = .returned (.bool true) ∧ w = w') := is_errs A w h 2 2 (by omega) (by omega)
  unfold errV
  clear h
  go_enter Tryd.func16, Tryd.ntmps16
  go_wp2_with fail
  refine (H0.out).mono ?_
  rintro e w1 ⟨rfl, rfl⟩
  go_wp2_with fail
  refine (H1.out).mono ?_
  rintro e w1 ⟨rfl, rfl⟩
  go_wp2_with fail
  refine (H2.out).mono ?_
  rintro e w1 ⟨rfl, rfl⟩
  go_wp2
  go_ret
  exact ⟨rfl, rfl⟩
set_option maxRecDepth 100000 in
theorem ripCode_Mac (A : Nat → Addr) (w : World) (h : ErrsIn w A) : Calls Tryd.prog 16 #[errV (A 3)] w fun e w' => e = .returned (.int .i64 5) ∧ w = w' := by
  have c0 : w.cell? ⟨3, 0, none⟩ = some (.iface 107 (.pointer (some (A 0)))) := h.1 0 (by omega)
  have c1 : w.cell? ⟨4, 0, none⟩ = some (.iface 107 (.pointer (some (A 1)))) := h.1 1 (by omega)
  have c2 : w.cell? ⟨5, 0, none⟩ = some (.iface 107 (.pointer (some (A 2)))) := h.1 2 (by omega)
  have c3 : w.cell? ⟨0, 0, none⟩ = some (.iface 107 (.pointer (some (A 3)))) := h.1 3 (by omega)
  have c4 : w.cell? ⟨1, 0, none⟩ = some (.iface 107 (.pointer (some (A 4)))) := h.1 4 (by omega)
  have c5 : w.cell? ⟨2, 0, none⟩ = some (.iface 107 (.pointer (some (A 5)))) := h.1 5 (by omega)
  have H0 : Hid (Calls Tryd.prog 30 #[.iface 107 (.pointer (some (A 3))), .iface 107 (.pointer (some (A 0)))] w fun e w' => e = .returned (.bool false) ∧ w = w') := is_errs A w h 3 0 (by omega) (by omega)
  have H1 : Hid (Calls Tryd.prog 30 #[.iface 107 (.pointer (some (A 3))), .iface 107 (.pointer (some (A 1)))] w fun e w' => e = .returned (.bool false) ∧ w = w') := is_errs A w h 3 1 (by omega) (by omega)
  have H2 : Hid (Calls Tryd.prog 30 #[.iface 107 (.pointer (some (A 3))), .iface 107 (.pointer (some (A 2)))] w fun e w' => e = .returned (.bool false) ∧ w = w') := is_errs A w h 3 2 (by omega) (by omega)
  have H3 : Hid (Calls Tryd.prog 30 #[.iface 107 (.pointer (some (A 3))), .iface 107 (.pointer (some (A 3)))] w fun e w' => e = .returned (.bool true) ∧ w = w') := is_errs A w h 3 3 (by omega) (by omega)
  unfold errV
  clear h
  go_enter Tryd.func16, Tryd.ntmps16
  go_wp2_with fail
  refine (H0.out).mono ?_
  rintro e w1 ⟨rfl, rfl⟩
  go_wp2_with fail
  refine (H1.out).mono ?_
  rintro e w1 ⟨rfl, rfl⟩
  go_wp2_with fail
  refine (H2.out).mono ?_
  rintro e w1 ⟨rfl, rfl⟩
  go_wp2_with fail
  refine (H3.out).mono ?_
  rintro e w1 ⟨rfl, rfl⟩
  go_wp2
  go_ret
  exact ⟨rfl, rfl⟩
set_option maxRecDepth 100000 in
theorem ripCode_None (A : Nat → Addr) (w : World) (h : ErrsIn w A) : Calls Tryd.prog 16 #[errV (A 4)] w fun e w' => e = .returned (.int .i64 3) ∧ w = w' := by
  have c0 : w.cell? ⟨3, 0, none⟩ = some (.iface 107 (.pointer (some (A 0)))) := h.1 0 (by omega)
  have c1 : w.cell? ⟨4, 0, none⟩ = some (.iface 107 (.pointer (some (A 1)))) := h.1 1 (by omega)
  have c2 : w.cell? ⟨5, 0, none⟩ = some (.iface 107 (.pointer (some (A 2)))) := h.1 2 (by omega)
  have c3 : w.cell? ⟨0, 0, none⟩ = some (.iface 107 (.pointer (some (A 3)))) := h.1 3 (by omega)
  have c4 : w.cell? ⟨1, 0, none⟩ = some (.iface 107 (.pointer (some (A 4)))) := h.1 4 (by omega)
  have c5 : w.cell? ⟨2, 0, none⟩ = some (.iface 107 (.pointer (some (A 5)))) := h.1 5 (by omega)
  have H0 : Hid (Calls Tryd.prog 30 #[.iface 107 (.pointer (some (A 4))), .iface 107 (.pointer (some (A 0)))] w fun e w' => e = .returned (.bool false) ∧ w = w') := is_errs A w h 4 0 (by omega) (by omega)
  have H1 : Hid (Calls Tryd.prog 30 #[.iface 107 (.pointer (some (A 4))), .iface 107 (.pointer (some (A 1)))] w fun e w' => e = .returned (.bool false) ∧ w = w') := is_errs A w h 4 1 (by omega) (by omega)
  have H2 : Hid (Calls Tryd.prog 30 #[.iface 107 (.pointer (some (A 4))), .iface 107 (.pointer (some (A 2)))] w fun e w' => e = .returned (.bool false) ∧ w = w') := is_errs A w h 4 2 (by omega) (by omega)
  have H3 : Hid (Calls Tryd.prog 30 #[.iface 107 (.pointer (some (A 4))), .iface 107 (.pointer (some (A 3)))] w fun e w' => e = .returned (.bool false) ∧ w = w') := is_errs A w h 4 3 (by omega) (by omega)
  have H5 : Hid (Calls Tryd.prog 30 #[.iface 107 (.pointer (some (A 4))), .iface 107 (.pointer (some (A 5)))] w fun e w' => e = .returned (.bool false) ∧ w = w') := is_errs A w h 4 5 (by omega) (by omega)
  unfold errV
  clear h
  go_enter Tryd.func16, Tryd.ntmps16
  go_wp2_with fail
  refine (H0.out).mono ?_
  rintro e w1 ⟨rfl, rfl⟩
  go_wp2_with fail
  refine (H1.out).mono ?_
  rintro e w1 ⟨rfl, rfl⟩
  go_wp2_with fail
  refine (H2.out).mono ?_
  rintro e w1 ⟨rfl, rfl⟩
  go_wp2_with fail
  refine (H3.out).mono ?_
  rintro e w1 ⟨rfl, rfl⟩
  go_wp2_with fail
  refine (H5.out).mono ?_
  rintro e w1 ⟨rfl, rfl⟩
  go_wp2
  go_ret
  exact ⟨rfl, rfl⟩
set_option maxRecDepth 100000 in
theorem ripCode_Old (A : Nat → Addr) (w : World) (h : ErrsIn w A) : Calls Tryd.prog 16 #[errV (A 5)] w fun e w' => e = .returned (.int .i64 8) ∧ w = w' := by
  have c0 : w.cell? ⟨3, 0, none⟩ = some (.iface 107 (.pointer (some (A 0)))) := h.1 0 (by omega)
  have c1 : w.cell? ⟨4, 0, none⟩ = some (.iface 107 (.pointer (some (A 1)))) := h.1 1 (by omega)
  have c2 : w.cell? ⟨5, 0, none⟩ = some (.iface 107 (.pointer (some (A 2)))) := h.1 2 (by omega)
  have c3 : w.cell? ⟨0, 0, none⟩ = some (.iface 107 (.pointer (some (A 3)))) := h.1 3 (by omega)
  have c4 : w.cell? ⟨1, 0, none⟩ = some (.iface 107 (.pointer (some (A 4)))) := h.1 4 (by omega)
  have c5 : w.cell? ⟨2, 0, none⟩ = some (.iface 107 (.pointer (some (A 5)))) := h.1 5 (by omega)
  have H0 : Hid (Calls Tryd.prog 30 #[.iface 107 (.pointer (some (A 5))), .iface 107 (.pointer (some (A 0)))] w fun e w' => e = .returned (.bool false) ∧ w = w') := is_errs A w h 5 0 (by omega) (by omega)
  have H1 : Hid (Calls Tryd.prog 30 #[.iface 107 (.pointer (some (A 5))), .iface 107 (.pointer (some (A 1)))] w fun e w' => e = .returned (.bool false) ∧ w = w') := is_errs A w h 5 1 (by omega) (by omega)
  have H2 : Hid (Calls Tryd.prog 30 #[.iface 107 (.pointer (some (A 5))), .iface 107 (.pointer (some (A 2)))] w fun e w' => e = .returned (.bool false) ∧ w = w') := is_errs A w h 5 2 (by omega) (by omega)
  have H3 : Hid (Calls Tryd.prog 30 #[.iface 107 (.pointer (some (A 5))), .iface 107 (.pointer (some (A 3)))] w fun e w' => e = .returned (.bool false) ∧ w = w') := is_errs A w h 5 3 (by omega) (by omega)
  have H5 : Hid (Calls Tryd.prog 30 #[.iface 107 (.pointer (some (A 5))), .iface 107 (.pointer (some (A 5)))] w fun e w' => e = .returned (.bool true) ∧ w = w') := is_errs A w h 5 5 (by omega) (by omega)
  unfold errV
  clear h
  go_enter Tryd.func16, Tryd.ntmps16
  go_wp2_with fail
  refine (H0.out).mono ?_
  rintro e w1 ⟨rfl, rfl⟩
  go_wp2_with fail
  refine (H1.out).mono ?_
  rintro e w1 ⟨rfl, rfl⟩
  go_wp2_with fail
  refine (H2.out).mono ?_
  rintro e w1 ⟨rfl, rfl⟩
  go_wp2_with fail
  refine (H3.out).mono ?_
  rintro e w1 ⟨rfl, rfl⟩
  go_wp2_with fail
  refine (H5.out).mono ?_
  rintro e w1 ⟨rfl, rfl⟩
  go_wp2
  go_ret
  exact ⟨rfl, rfl⟩
def errC : Nat → Int
  | 0 => 2
  | 1 => 1
  | 2 => 4
  | 3 => 5
  | 4 => 3
  | 5 => 8
  | _ => 0
theorem ripCode_errs (A : Nat → Addr) (w : World) (h : ErrsIn w A) (i : Nat) (hi : i < 6) : Calls Tryd.prog 16 #[errV (A i)] w fun e w' => e = .returned (.int .i64 (errC i)) ∧ w = w' := by
  obtain rfl | rfl | rfl | rfl | rfl | rfl : i = 0 ∨ i = 1 ∨ i = 2 ∨ i = 3 ∨ i = 4 ∨ i = 5 := by omega
  · exact ripCode_Long A w h
  · exact ripCode_Form A w h
  · exact ripCode_Short A w h
  · exact ripCode_Mac A w h
  · exact ripCode_None A w h
  · exact ripCode_Old A w h
end Go.Proofs.YtkkhjeigndcmaaaDoor
/- A scope in which the run jumps to several labels: what holds at each jump, and a measure that every pass from a label lowers. -/
namespace Go.Proofs.YtkkhjeigndcmaaaDoor
open Go

/-- As Q; by a goto to label l: J l. -/
def Exit.jumps (J : Nat → Act → World → Prop) (Q : Exit → Act → World → Prop) : Exit → Act → World → Prop
  | .goto l, a, w => J l a w
  | e, a, w => Q e a w

theorem wp_scope_labels {P : Program} {a : Act} {w : World} {Q : Exit → Act → World → Prop} {c : Code} (J : Nat → Act → World → Prop) (μ : Nat → Act → World → Nat)
    (first : c.wp P (Exit.jumps J Q) a w)
    (pass : ∀ l a w, J l a w → ∃ rest, findLabel c l = some rest ∧ rest.wp P (Exit.jumps (fun l' a' w' => J l' a' w' ∧ μ l' a' w' < μ l a w) Q) a w) : (Code.scope c).wp P Q a w := by
  intro b k cs
  have key : ∀ n l a w, μ l a w = n → J l a w → ∃ rest, findLabel c l = some rest ∧ ∃ e a' w', Q e a' w' ∧ Arrives P (lone (b.at a (.code rest :: .inScope c :: k)) cs w) b k cs e a' w' := by
    intro n
    induction n using Nat.strongRecOn with
    | _ n ih =>
      intro l a w hn hJ
      obtain ⟨rest, hf, hp⟩ := pass l a w hJ
      refine ⟨rest, hf, ?_⟩
      obtain ⟨e, a₁, w₁, hq, harr⟩ := hp b (.inScope c :: k) cs
      cases e with
      | normal => exact ⟨.normal, a₁, w₁, hq, Steps.trans harr (.one step_inScope)⟩
      | exit id => exact ⟨.exit id, a₁, w₁, hq, fun k' hk => harr k' (by simp [exitTo, hk])⟩
      | goto l' =>
        obtain ⟨hJ', hlt⟩ := hq
        obtain ⟨rest', hf', e₂, a₂, w₂, hq₂, harr₂⟩ := ih _ (by omega) l' a₁ w₁ rfl hJ'
        have hg : gotoIn l' (.inScope c :: k) = some (.code rest' :: .inScope c :: k) := by simp [gotoIn, hf']
        exact ⟨e₂, a₂, w₂, hq₂, .of_steps (harr _ hg) harr₂⟩
      | ret => exact ⟨_, a₁, w₁, hq, harr⟩
      | panic ch => exact ⟨_, a₁, w₁, hq, harr⟩
      | outgrown => exact ⟨_, a₁, w₁, hq, harr⟩
  obtain ⟨e, a₁, w₁, hq, harr⟩ := first b (.inScope c :: k) cs
  cases e with
  | normal => exact ⟨.normal, a₁, w₁, hq, .head step_scope (Steps.trans harr (.one step_inScope))⟩
  | exit id => exact ⟨.exit id, a₁, w₁, hq, fun k' hk => .head step_scope (harr k' (by simp [exitTo, hk]))⟩
  | goto l' =>
    obtain ⟨rest, hf, e₂, a₂, w₂, hq₂, harr₂⟩ := key _ l' a₁ w₁ rfl hq
    have hg : gotoIn l' (.inScope c :: k) = some (.code rest :: .inScope c :: k) := by simp [gotoIn, hf]
    exact ⟨e₂, a₂, w₂, hq₂, .of_steps (.head step_scope (harr _ hg)) harr₂⟩
  | ret => exact ⟨_, a₁, w₁, hq, .of_steps (.one step_scope) harr⟩
  | panic ch => exact ⟨_, a₁, w₁, hq, .of_steps (.one step_scope) harr⟩
  | outgrown => exact ⟨_, a₁, w₁, hq, .of_steps (.one step_scope) harr⟩
end Go.Proofs.YtkkhjeigndcmaaaDoor
