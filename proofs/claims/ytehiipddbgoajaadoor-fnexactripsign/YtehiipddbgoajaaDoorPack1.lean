/- Texts that stand on each other, in one file: AddrMath, Pow, MaskI, LookA, NetOf, Ent, ToNet, EqNet, ToEnt, OpenEnt, Ents, ToEnts, ToRip, EqEnts, Steady, StabW, RipLaw, WireMath, RipMath, SignM. -/
import Derived.WalkKit
import Derived.Laws.BitsAllLaws
import Derived.Test.YtehiipddbgoajaaDoorBase
import Derived.Laws.ShiftsVarLaws
import Derived.Laws.StructEq
import Derived.BigQuiet
import Derived.Lib.QuietBelow
import Derived.WalkSmall
import Derived.Deep.RegionWith
import Derived.Test.YtehiipddbgoajaaDoorRowV
import Derived.Lib.SmallJoins
import Derived.Deep.Slices
import Derived.OwnWalk
import Derived.Test.YtehiipddbgoajaaDoorTail
import Derived.Test.YtehiipddbgoajaaDoorOwnV
import Derived.Test.YtehiipddbgoajaaDoorBaseB
import Derived.Test.YtehiipddbgoajaaDoorShaMath
/- Plain numbers under addresses: masks, cuts, and what shifts and 'and' make of them. -/
namespace Go.Proofs.YtehiipddbgoajaaDoor

theorem ofInt_i64 (a : Nat) (ha : a < 9223372036854775808) : (BitVec.ofInt 64 (a : Int)).toNat = a := by
  rw [BitVec.ofInt_natCast, BitVec.toNat_ofNat]; exact Nat.mod_eq_of_lt (by omega)
theorem i64_and_nat (a b : Nat) (ha : a < 9223372036854775808) (hb : b < 9223372036854775808) : bits .and .i64 (a : Int) (b : Int) = ((a &&& b : Nat) : Int) := by
  have hx : a &&& b < 2 ^ 63 := Nat.and_lt_two_pow _ (by omega)
  show IntKind.i64.wrap ((BitVec.ofInt 64 (a : Int) &&& BitVec.ofInt 64 (b : Int)).toNat : Int) = _
  rw [BitVec.toNat_and, ofInt_i64 a ha, ofInt_i64 b hb, IntKind.wrap_i64]
  omega
theorem i64_or_nat (a b : Nat) (ha : a < 9223372036854775808) (hb : b < 9223372036854775808) : bits .or .i64 (a : Int) (b : Int) = ((a ||| b : Nat) : Int) := by
  have hx : a ||| b < 2 ^ 63 := Nat.or_lt_two_pow (by omega) (by omega)
  show IntKind.i64.wrap ((BitVec.ofInt 64 (a : Int) ||| BitVec.ofInt 64 (b : Int)).toNat : Int) = _
  rw [BitVec.toNat_or, ofInt_i64 a ha, ofInt_i64 b hb, IntKind.wrap_i64]
  omega
theorem pow_split (j : Nat) (h : j ≤ 32) : (2 : Nat) ^ 32 - 2 ^ j = (2 ^ (32 - j) - 1) * 2 ^ j := by
  rw [Nat.sub_mul, ← Nat.pow_add, Nat.one_mul]
  congr 2
  omega
theorem nat_and_mask (a j : Nat) (ha : a < 4294967296) (hj : j ≤ 32) : a &&& (4294967296 - 2 ^ j) = a / 2 ^ j * 2 ^ j := by
  rw [show (4294967296 : Nat) = 2 ^ 32 from rfl, pow_split j hj]
  apply Nat.eq_of_testBit_eq
  intro i
  rw [Nat.testBit_and, Nat.testBit_mul_two_pow, Nat.testBit_mul_two_pow, Nat.testBit_two_pow_sub_one, Nat.testBit_div_two_pow]
  by_cases h : j ≤ i
  · by_cases h2 : i < 32
    · have h3 : i - j < 32 - j := by omega
      simp [h, h3]
    · have h3 : a.testBit i = false := Nat.testBit_lt_two_pow (Nat.lt_of_lt_of_le ha (by rw [show (4294967296 : Nat) = 2 ^ 32 from rfl]; exact Nat.pow_le_pow_right (by decide) (by omega)))
      simp [h, h3]
  · simp [h]

/-- What a length leaves out: two to the bits behind it. -/
def gap (l : Int) : Nat := 2 ^ (32 - l.toNat)
theorem gap_fin : ∀ k : Fin 33, 1 ≤ 2 ^ (32 - k.val) ∧ 2 ^ (32 - k.val) ≤ 4294967296 := by decide
theorem gap_pos (l : Int) : 1 ≤ gap l := Nat.two_pow_pos _
theorem gap_le (l : Int) : gap l ≤ 4294967296 := by
  unfold gap; rw [show (4294967296 : Nat) = 2 ^ 32 from rfl]; exact Nat.pow_le_pow_right (by decide) (by omega)
theorem gap_pow (l : Int) (h0 : 0 ≤ l) (h1 : l ≤ 32) : gap l = 2 ^ (32 - l).toNat := by
  unfold gap; congr 1; omega
/-- An address without the bits behind the first ones. -/
def cutV (a l : Int) : Int := a / (gap l : Int) * (gap l : Int)
theorem cutV_le (a l : Int) (h : 0 ≤ a) : 0 ≤ cutV a l ∧ cutV a l ≤ a := by
  have hg := gap_pos l
  have hg' : (0 : Int) < (gap l : Int) := by omega
  unfold cutV
  constructor
  · exact Int.mul_nonneg (Int.ediv_nonneg h (by omega)) (by omega)
  · exact Int.ediv_mul_le a (by omega)
def maskV (l : Int) : Int := if 0 ≤ l ∧ l ≤ 32 then 4294967296 - (gap l : Int) else 0
theorem maskV_in (l : Int) (h0 : 0 ≤ l) (h1 : l ≤ 32) : maskV l = 4294967296 - (gap l : Int) := if_pos ⟨h0, h1⟩
theorem maskV_out (l : Int) (h : ¬ (0 ≤ l ∧ l ≤ 32)) : maskV l = 0 := if_neg h
theorem maskV_range (l : Int) : 0 ≤ maskV l ∧ maskV l ≤ 4294967295 := by
  unfold maskV
  have := gap_le l
  have := gap_pos l
  split <;> omega
theorem and_mask (a l : Int) (h0 : 0 ≤ a) (h1 : a ≤ 4294967295) (hl0 : 0 ≤ l) (hl1 : l ≤ 32) : bits .and .i64 a (maskV l) = cutV a l := by
  obtain ⟨A, rfl⟩ := Int.eq_ofNat_of_zero_le h0
  rw [maskV_in l hl0 hl1]
  have hg := gap_le l
  rw [show (4294967296 : Int) - (gap l : Int) = ((4294967296 - gap l : Nat) : Int) by omega, i64_and_nat A _ (by omega) (by omega)]
  unfold cutV gap
  rw [nat_and_mask A (32 - l.toNat) (by omega) (by omega)]
  push_cast
  rfl
/-- A shift down and up again. -/
theorem down_up_fin : ∀ k : Fin 33, (4294967295 / 2 ^ k.val) * 2 ^ k.val = 4294967296 - 2 ^ k.val := by decide
theorem down_up (l : Int) (h0 : 0 ≤ l) (h1 : l ≤ 32) : (4294967295 : Int) / 2 ^ (32 - l).toNat * 2 ^ (32 - l).toNat = maskV l := by
  rw [maskV_in l h0 h1, gap_pow l h0 h1]
  have h := down_up_fin ⟨(32 - l).toNat, by omega⟩
  have hg := gap_le l
  rw [gap_pow l h0 h1] at hg
  simp only at h
  have e : ((2 : Int) ^ (32 - l).toNat) = ((2 ^ (32 - l).toNat : Nat) : Int) := by simp
  rw [e]
  generalize 2 ^ (32 - l).toNat = G at *
  have h2 : ((4294967295 : Int) / (G : Int) * (G : Int)) = ((4294967295 / G * G : Nat) : Int) := by simp
  rw [h2, h]
  omega
/-- Masks of different lengths differ. -/
theorem gap_step (k : Nat) (h : k + 1 ≤ 32) : gap (k : Int) = 2 * gap ((k + 1 : Nat) : Int) := by
  unfold gap
  rw [Int.toNat_natCast, Int.toNat_natCast, show 32 - k = (32 - (k + 1)) + 1 by omega, Nat.pow_succ]
  omega
theorem cutV_cut (a l : Int) : cutV (cutV a l) l = cutV a l := by
  have hg := gap_pos l
  unfold cutV
  rw [Int.mul_ediv_cancel _ (by omega)]
end Go.Proofs.YtehiipddbgoajaaDoor
/- Powers of two of the model, and its look at limits. -/
namespace Go.Proofs.YtehiipddbgoajaaDoor
open Go.RowKit

theorem wrap64_in (x : Int) (h0 : -9223372036854775808 ≤ x) (h1 : x ≤ 9223372036854775807) : wrap64 x = x := by unfold wrap64; omega
set_option maxRecDepth 100000 in
theorem l03Is_any (n a b : Int) (w : World) :
    Calls Tryd.prog 25 #[.int .i64 n, .int .i64 a, .int .i64 b] w fun e w' => e = .returned (.bool (decide (a ≤ n ∧ n ≤ b))) ∧ w = w' := by
  by_cases h1 : a ≤ n
  · by_cases h2 : n ≤ b
    · go_enter Tryd.func25, Tryd.ntmps25
      go_wp2
      go_ret
      exact ⟨ret_bool (by simp; omega), rfl⟩
    · go_enter Tryd.func25, Tryd.ntmps25
      go_wp2
      go_ret
      exact ⟨ret_bool (by simp; omega), rfl⟩
  · go_enter Tryd.func25, Tryd.ntmps25
    go_wp2
    go_ret
    exact ⟨ret_bool (by simp; omega), rfl⟩
set_option maxRecDepth 100000 in
theorem l03Pow_any (k : Nat) (w : World) (hk : k ≤ 32) :
    Calls Tryd.prog 49 #[.int .i64 (k : Int)] w fun e w' => e = .returned (.int .i64 ((2 ^ k : Nat) : Int)) ∧ w = w' := by
  have hb : ∀ j, j ≤ 32 → (2 : Nat) ^ j ≤ 4294967296 := fun j hj => by rw [show (4294967296 : Nat) = 2 ^ 32 from rfl]; exact Nat.pow_le_pow_right (by decide) hj
  have HB : Hid (∀ j, j ≤ 32 → (2 : Nat) ^ j ≤ 4294967296) := hb
  have HS : Hid (∀ j, (2 : Nat) ^ (j + 1) = 2 * 2 ^ j) := fun j => by show _ = _; rw [Nat.pow_succ]; omega
  have H0 : Hid ((2 : Nat) ^ 0 = 1) := rfl
  clear hb
  generalize hP : (fun j : Nat => (2 : Nat) ^ j) = P
  have e : ∀ j : Nat, (2 : Nat) ^ j = P j := fun j => by rw [← hP]
  simp only [e] at HB HS H0 ⊢
  clear e hP
  go_enter Tryd.func49, Tryd.ntmps49
  go_wp2_with fail
  go_loop [0, 3] (fun x n => ∃ j : Nat, j ≤ k ∧ x = .int .i64 ((k - j : Nat) : Int) ∧ n = .int .i64 (P j : Int)) (fun x _ => (intOf x).toNat)
  case atStart => exact ⟨0, by omega, rfl, by rw [H0.out]; rfl⟩
  case round =>
    obtain ⟨j, hj, rfl, rfl⟩ := hrel
    by_cases hlt : j < k
    · have hb := HB.out (j + 1) (by omega)
      have hs := HS.out j
      have HSJ : Hid (P (j + 1) = 2 * P j) := hs
      have hb2 : P j ≤ 2147483648 := by omega
      clear hs hb
      go_wp2
      go_round
      case rel => exact ⟨j + 1, by omega, by go_num, by rw [HSJ.out]; go_num⟩
      case measure => simp [intOf]; omega
    · obtain rfl : j = k := by omega
      go_wp2
      go_ret
      exact ⟨rfl, rfl⟩
theorem l03Pow_at (l x : Int) (w : World) (h0 : 0 ≤ l) (h1 : l ≤ 32) (hx : x = 32 - l) :
    Calls Tryd.prog 49 #[.int .i64 x] w fun e w' => e = .returned (.int .i64 (gap l : Int)) ∧ w = w' := by
  obtain ⟨k, rfl⟩ := Int.eq_ofNat_of_zero_le h0
  have h := l03Pow_any (32 - k) w (by omega)
  rw [show x = ((32 - k : Nat) : Int) by omega]
  exact h
end Go.Proofs.YtehiipddbgoajaaDoor
/- Masks of the program. -/
namespace Go.Proofs.YtehiipddbgoajaaDoor
open Go.RowKit

set_option maxRecDepth 100000 in
theorem implMask_any (l : Int) (w : World) :
    Calls Tryd.prog 74 #[.int .i64 l] w fun e w' => e = .returned (.int .i64 (maskV l)) ∧ w = w' := by
  by_cases h0 : 0 ≤ l
  · by_cases h1 : l ≤ 32
    · have hd : Hid _ := down_up l h0 h1
      have hr := maskV_range l
      go_enter Tryd.func74, Tryd.ntmps74
      go_wp2
      go_ret
      exact ⟨ret_i64 (by rw [hd.out, wrap64_in _ (by omega) (by omega)]), rfl⟩
    · rw [maskV_out l (by omega)]
      go_enter Tryd.func74, Tryd.ntmps74
      go_wp2
      go_ret
      exact ⟨rfl, rfl⟩
  · rw [maskV_out l (by omega)]
    go_enter Tryd.func74, Tryd.ntmps74
    go_wp2
    go_ret
    exact ⟨rfl, rfl⟩
end Go.Proofs.YtehiipddbgoajaaDoor
/- Is it an address? Asked by the program and by the model. -/
namespace Go.Proofs.YtehiipddbgoajaaDoor
open Go.RowKit

def inAddr (a : Int) : Bool := decide (0 ≤ a ∧ a ≤ 4294967295)
set_option maxRecDepth 100000 in
theorem isAddr_any (a : Int) (w : World) : Calls Tryd.prog 80 #[.int .i64 a] w fun e w' => e = .returned (.bool (inAddr a)) ∧ w = w' := by
  by_cases h1 : 0 ≤ a
  · by_cases h2 : a ≤ 4294967295
    · go_enter Tryd.func80, Tryd.ntmps80
      go_wp2
      go_ret
      exact ⟨ret_bool (by simp [inAddr]; omega), rfl⟩
    · go_enter Tryd.func80, Tryd.ntmps80
      go_wp2
      go_ret
      exact ⟨ret_bool (by simp [inAddr]; omega), rfl⟩
  · go_enter Tryd.func80, Tryd.ntmps80
    go_wp2
    go_ret
    exact ⟨ret_bool (by simp [inAddr]; omega), rfl⟩
set_option maxRecDepth 100000 in
theorem l03Addr_any (a : Int) (w : World) : Calls Tryd.prog 58 #[.int .i64 a] w fun e w' => e = .returned (.bool (inAddr a)) ∧ w = w' := by
  have HB : Hid (decide (0 ≤ a ∧ a ≤ 4294967295) = inAddr a) := rfl
  go_enter Tryd.func58, Tryd.ntmps58
  go_wp2_with fail
  refine (l03Is_any a 0 4294967295 _).mono ?_
  rintro e w1 ⟨rfl, rfl⟩
  rw [HB.out]
  go_wp2
  go_ret
  exact ⟨rfl, rfl⟩
end Go.Proofs.YtehiipddbgoajaaDoor
/- Nets: made, right, of the program and of the model. -/
namespace Go.Proofs.YtehiipddbgoajaaDoor
open Go.RowKit Go.Sort

theorem quiet_eqA {P : Program} {f : FuncId} {args : Array Value} {w : World} {n : Nat} {v : Value}
    (h : Calls P f args (w.drewN n) fun e w' => e = .returned v ∧ w.drewN n = w') : Calls P f args (w.drewN n) fun e w'' => e = .returned v ∧ ∃ m, w'' = w.drewN m :=
  h.mono fun _ _ ⟨he, hm⟩ => ⟨he, n, hm.symm⟩
theorem cell2_0 (w : World) (x y : Value) (t : TypeId) : (w.alloc (.cells #[x, y] t)).cell? ⟨w.heap.size, 0, none⟩ = some x := by
  rw [cell_of_row _ _ _ _ t _ (heap_alloc_new w _)]; simp
theorem cell2_1 (w : World) (x y : Value) (t : TypeId) : (w.alloc (.cells #[x, y] t)).cell? ⟨w.heap.size, 1, none⟩ = some y := by
  rw [cell_of_row _ _ _ _ t _ (heap_alloc_new w _)]; simp
theorem cell2_later {w w0 w1 : World} {x y : Value} {t : TypeId} (h0 : w0 = w.alloc (.cells #[x, y] t)) (h : Below w0.heap.size w0 w1) : w1.cell? ⟨w.heap.size, 0, none⟩ = some x ∧ w1.cell? ⟨w.heap.size, 1, none⟩ = some y ∧ w.heap.size < w1.heap.size ∧ Below w.heap.size w w1 := by
  subst h0
  refine ⟨?_, ?_, ?_, ?_⟩
  · rw [h.cell (p := ⟨w.heap.size, 0, none⟩) (by simp)]; exact cell2_0 w x y t
  · rw [h.cell (p := ⟨w.heap.size, 1, none⟩) (by simp)]; exact cell2_1 w x y t
  · have := h.size; simp at this; omega
  · exact ((Below.refl _ _).alloc (Nat.le_refl _) _).trans (h.mono (by simp))
theorem cell2_laterH {w w0 w1 : World} {x y : Value} {t : TypeId} (h0 : w0.heap = (w.alloc (.cells #[x, y] t)).heap) (hb : Below w.heap.size w w0) (h : Below w0.heap.size w0 w1) : w1.cell? ⟨w.heap.size, 0, none⟩ = some x ∧ w1.cell? ⟨w.heap.size, 1, none⟩ = some y ∧ w.heap.size < w1.heap.size ∧ Below w.heap.size w w1 := by
  have hz : w0.heap.size = w.heap.size + 1 := by rw [h0]; simp
  have hr : w0.heap[w.heap.size]? = some (.cells #[x, y] t) := by rw [h0]; exact heap_alloc_new w _
  refine ⟨?_, ?_, ?_, ?_⟩
  · rw [h.cell (p := ⟨w.heap.size, 0, none⟩) (by simp [hz]), cell_of_row _ _ _ _ t _ hr]; simp
  · rw [h.cell (p := ⟨w.heap.size, 1, none⟩) (by simp [hz]), cell_of_row _ _ _ _ t _ hr]; simp
  · have := h.size; omega
  · exact hb.trans (h.mono (by omega))
def netV (a l : Int) : Value := .agg #[.int .i64 a, .int .i64 l]
def inLen (l : Int) : Bool := decide (0 ≤ l ∧ l ≤ 32)
def netA (a l : Int) : Int := if 0 ≤ a ∧ a ≤ 4294967295 ∧ 0 ≤ l ∧ l ≤ 32 then cutV a l else 0
def netN (a l : Int) : Int := if 0 ≤ a ∧ a ≤ 4294967295 ∧ 0 ≤ l ∧ l ≤ 32 then l else 0
def rightB (a l : Int) : Bool := decide (0 ≤ a ∧ a ≤ 4294967295 ∧ 0 ≤ l ∧ l ≤ 32 ∧ cutV a l = a)
theorem netA_in {a l : Int} (h : 0 ≤ a ∧ a ≤ 4294967295 ∧ 0 ≤ l ∧ l ≤ 32) : netA a l = cutV a l := if_pos h
theorem netN_in {a l : Int} (h : 0 ≤ a ∧ a ≤ 4294967295 ∧ 0 ≤ l ∧ l ≤ 32) : netN a l = l := if_pos h
theorem netA_out {a l : Int} (h : ¬ (0 ≤ a ∧ a ≤ 4294967295 ∧ 0 ≤ l ∧ l ≤ 32)) : netA a l = 0 := if_neg h
theorem netN_out {a l : Int} (h : ¬ (0 ≤ a ∧ a ≤ 4294967295 ∧ 0 ≤ l ∧ l ≤ 32)) : netN a l = 0 := if_neg h
/-- A net is what is made of its address and its length just where it is right. -/
theorem right_iff (a l : Int) : rightB a l = (netA a l == a && netN a l == l) := by
  unfold rightB
  by_cases h : 0 ≤ a ∧ a ≤ 4294967295 ∧ 0 ≤ l ∧ l ≤ 32
  · rw [netA_in h, netN_in h]
    by_cases hc : cutV a l = a
    · simp [h, hc]
    · simp [hc]
  · rw [netA_out h, netN_out h]
    have h2 : ¬ (0 ≤ a ∧ a ≤ 4294967295 ∧ 0 ≤ l ∧ l ≤ 32 ∧ cutV a l = a) := fun e => h ⟨e.1, e.2.1, e.2.2.1, e.2.2.2.1⟩
    rw [decide_eq_false h2]
    symm
    by_cases ha : a = 0
    · subst ha
      have : ¬ (0 : Int) = l := by omega
      simp [this]
    · have : ¬ (0 : Int) = a := fun e => ha e.symm
      simp [this]
set_option maxRecDepth 100000 in
theorem l03Cut_any (a l : Int) (w : World) (h0 : 0 ≤ a) (h1 : a ≤ 4294967295) (hl0 : 0 ≤ l) (hl1 : l ≤ 32) :
    Calls Tryd.prog 71 #[.int .i64 a, .int .i64 l] w fun e w' => e = .returned (.int .i64 (cutV a l)) ∧ w = w' := by
  have HC : Hid (∀ w, Calls Tryd.prog 49 #[.int .i64 (32 - l)] w fun e w' => e = .returned (.int .i64 (gap l : Int)) ∧ w = w') := fun w => l03Pow_at l (32 - l) w hl0 hl1 rfl
  have hg1 := gap_pos l
  have hg2 := gap_le l
  have hcl := cutV_le a l h0
  have HV : Hid (cutV a l = a / (gap l : Int) * (gap l : Int)) := rfl
  have hgz : (((gap l : Nat) : Int) == 0) = false := by simp; omega
  have ht : a.tdiv (gap l : Int) = a / (gap l : Int) := Int.tdiv_eq_ediv_of_nonneg h0
  have hq0 : 0 ≤ a / (gap l : Int) := Int.ediv_nonneg h0 (by omega)
  have hq1 : a / (gap l : Int) ≤ a := Int.ediv_le_self _ h0
  have HT : Hid _ := ht
  generalize gap l = G at *
  generalize cutV a l = C at *
  go_enter Tryd.func71, Tryd.ntmps71
  go_wp2_with fail
  refine (HC.out _).mono ?_
  rintro e w1 ⟨rfl, rfl⟩
  go_wp2
  go_ret
  exact ⟨ret_i64 (by rw [← HV.out, wrap64_in _ (by omega) (by omega)]), rfl⟩
theorem isLen_dec (l : Int) : inLen l = decide (0 ≤ l ∧ l ≤ 32) := rfl
set_option maxRecDepth 100000 in
theorem isLen_any (a : Int) (w : World) : Calls Tryd.prog 84 #[.int .i64 a] w fun e w' => e = .returned (.bool (inLen a)) ∧ w = w' := by
  by_cases h1 : 0 ≤ a
  · by_cases h2 : a ≤ 32
    · go_enter Tryd.func84, Tryd.ntmps84
      go_wp2
      go_ret
      exact ⟨ret_bool (by simp [inLen]; omega), rfl⟩
    · go_enter Tryd.func84, Tryd.ntmps84
      go_wp2
      go_ret
      exact ⟨ret_bool (by simp [inLen]; omega), rfl⟩
  · go_enter Tryd.func84, Tryd.ntmps84
    go_wp2
    go_ret
    exact ⟨ret_bool (by simp [inLen]; omega), rfl⟩
set_option maxRecDepth 100000 in
theorem implNetOf_at (a l : Int) (w : World) : Calls Tryd.prog 87 #[.int .i64 a, .int .i64 l] w fun e w' => e = .returned (netV (netA a l) (netN a l)) ∧ w.alloc (.cells #[.int .i64 (netA a l), .int .i64 (netN a l)] 42) = w' := by
  have HI : Hid (∀ w, Calls Tryd.prog 80 #[.int .i64 a] w fun e w' => e = .returned (.bool (inAddr a)) ∧ w = w') := isAddr_any a
  have HJ : Hid (∀ w, Calls Tryd.prog 84 #[.int .i64 l] w fun e w' => e = .returned (.bool (inLen l)) ∧ w = w') := isLen_any l
  have HM : Hid (∀ w, Calls Tryd.prog 74 #[.int .i64 l] w fun e w' => e = .returned (.int .i64 (maskV l)) ∧ w = w') := implMask_any l
  by_cases h : 0 ≤ a ∧ a ≤ 4294967295 ∧ 0 ≤ l ∧ l ≤ 32
  · have HA : Hid _ := and_mask a l h.1 h.2.1 h.2.2.1 h.2.2.2
    rw [netA_in h, netN_in h]
    have ha : inAddr a = true := by simp [inAddr]; omega
    have hl : inLen l = true := by simp [inLen]; omega
    rw [ha] at HI
    rw [hl] at HJ
    clear ha hl h
    generalize maskV l = M at *
    generalize cutV a l = C at *
    unfold netV
    go_enter Tryd.func87, Tryd.ntmps87
    go_wp2_with fail
    refine (HI.out _).mono ?_
    rintro e w1 ⟨rfl, rfl⟩
    go_wp2_with fail
    refine (HJ.out _).mono ?_
    rintro e w1 ⟨rfl, rfl⟩
    go_wp2_with fail
    refine (HM.out _).mono ?_
    rintro e w1 ⟨rfl, rfl⟩
    go_wp2
    refine bodyPost_ret (v := .agg #[.int .i64 C, .int .i64 l]) (by rw [← HA.out]; simp [results, Tryd.results87, go_sem]) rfl ⟨rfl, by rw [← HA.out]⟩
  · rw [netA_out h, netN_out h]
    unfold netV
    by_cases ha : 0 ≤ a ∧ a ≤ 4294967295
    · have hl : inLen l = false := by simp [inLen]; omega
      have ha' : inAddr a = true := by simp [inAddr]; omega
      rw [ha'] at HI
      rw [hl] at HJ
      clear ha hl h HM ha'
      go_enter Tryd.func87, Tryd.ntmps87
      go_wp2_with fail
      refine (HI.out _).mono ?_
      rintro e w1 ⟨rfl, rfl⟩
      go_wp2_with fail
      refine (HJ.out _).mono ?_
      rintro e w1 ⟨rfl, rfl⟩
      go_wp2
      refine bodyPost_ret (v := .agg #[.int .i64 0, .int .i64 0]) (by simp [results, Tryd.results87, go_sem]) rfl ⟨rfl, rfl⟩
    · have ha' : inAddr a = false := by simp [inAddr]; omega
      rw [ha'] at HI
      clear ha h HM ha' HJ
      go_enter Tryd.func87, Tryd.ntmps87
      go_wp2_with fail
      refine (HI.out _).mono ?_
      rintro e w1 ⟨rfl, rfl⟩
      go_wp2
      refine bodyPost_ret (v := .agg #[.int .i64 0, .int .i64 0]) (by simp [results, Tryd.results87, go_sem]) rfl ⟨rfl, rfl⟩
theorem implNetOf_any (a l : Int) (w : World) : Calls Tryd.prog 87 #[.int .i64 a, .int .i64 l] w fun e w' => e = .returned (netV (netA a l) (netN a l)) ∧ Below w.heap.size w w' :=
  (implNetOf_at a l w).mono fun _ _ ⟨he, hw⟩ => ⟨he, hw ▸ (Below.refl _ _).alloc (Nat.le_refl _) _⟩
set_option maxRecDepth 100000 in
theorem implRight_any (a l : Int) (w : World) : Calls Tryd.prog 79 #[netV a l] w fun e w' => e = .returned (.bool (rightB a l)) ∧ Below w.heap.size w w' := by
  have HR : Hid _ := right_iff a l
  have HN : Hid (∀ w, Calls Tryd.prog 87 #[.int .i64 a, .int .i64 l] w fun e w' => e = .returned (netV (netA a l) (netN a l)) ∧ Below w.heap.size w w') := implNetOf_any a l
  generalize rightB a l = R at *
  generalize netA a l = A at *
  generalize netN a l = N at *
  unfold netV at *
  obtain ⟨b1, e1⟩ : ∃ b, (A == a) = b := ⟨_, rfl⟩
  obtain ⟨b2, e2⟩ : ∃ b, (N == l) = b := ⟨_, rfl⟩
  rw [e1, e2] at HR
  have cN : ∀ d os, Calls Tryd.prog 87 #[.int .i64 a, .int .i64 l] (grow (redrawn (w.alloc (.cells #[.int .i64 a, .int .i64 l] 42)) d) os) fun e w'' => e = .returned (.agg #[.int .i64 A, .int .i64 N]) ∧ ∃ p : Regrown, w'' = grow (redrawn (w.alloc (.cells #[.int .i64 a, .int .i64 l] 42)) p.d) p.os := fun d os => Calls.regrown_of (HN.out _)
  have HC : Hid _ := cN
  clear cN
  have k0 := cell_regrown (cell2_0 w (.int .i64 a) (.int .i64 l) 42)
  have k1 := cell_regrown (cell2_1 w (.int .i64 a) (.int .i64 l) 42)
  cases b1 <;> cases b2
  all_goals
    go_enter Tryd.func79, Tryd.ntmps79
    go_wp2_with fail
    refine wp_region_quiet_below (by kernel_rfl) (by kernel_rfl) ?_
    repeat (go_big_quiet_step (exact HC.out _ _))
    refine wpQuiet_nil ?_
    intro _ hw'
    obtain ⟨⟨dq, osq⟩, hw''⟩ := hw'
    subst hw''
    go_wp2
    go_ret
    exact ⟨ret_bool (by rw [HR.out]; rfl), ((Below.refl _ _).alloc (Nat.le_refl _) _).trans ((below_regrown _ dq osq).mono (by simp))⟩
set_option maxRecDepth 100000 in
theorem specRight_any (a l : Int) (w : World) : Calls Tryd.prog 57 #[netV a l] w fun e w' => e = .returned (.bool (rightB a l)) ∧ Below w.heap.size w w' := by
  have HI : Hid (∀ w, Calls Tryd.prog 58 #[.int .i64 a] w fun e w' => e = .returned (.bool (inAddr a)) ∧ w = w') := l03Addr_any a
  have HJ : Hid (∀ w, Calls Tryd.prog 25 #[.int .i64 l, .int .i64 0, .int .i64 32] w fun e w' => e = .returned (.bool (inLen l)) ∧ w = w') := l03Is_any l 0 32
  unfold netV
  by_cases ha : 0 ≤ a ∧ a ≤ 4294967295
  · have ha' : inAddr a = true := by simp [inAddr]; omega
    rw [ha'] at HI
    by_cases hl : 0 ≤ l ∧ l ≤ 32
    · have hl' : inLen l = true := by simp [inLen]; omega
      rw [hl'] at HJ
      have HM : Hid (∀ w, Calls Tryd.prog 71 #[.int .i64 a, .int .i64 l] w fun e w' => e = .returned (.int .i64 (cutV a l)) ∧ w = w') := fun w => l03Cut_any a l w ha.1 ha.2 hl.1 hl.2
      have HR : Hid ((cutV a l == a) = rightB a l) := by
        show _ = _
        unfold rightB
        by_cases hc : cutV a l = a
        · simp [hc]; omega
        · simp [hc]
      clear ha hl ha' hl'
      generalize rightB a l = R at *
      generalize cutV a l = C at *
      go_enter Tryd.func57, Tryd.ntmps57
      go_wp2_with fail
      go_quiet ((first | (go_at_call 58; exact quiet_eqA (HI.out _)) | (go_at_call 25; exact quiet_eqA (HJ.out _)) | (go_at_call 71; exact quiet_eqA (HM.out _))))
      go_wp2
      go_ret
      exact ⟨ret_bool HR.out, below_drewN ((Below.refl _ _).alloc (Nat.le_refl _) _) _⟩
    · have hl' : inLen l = false := by simp [inLen]; omega
      rw [hl'] at HJ
      have HR : Hid (rightB a l = false) := by show _ = _; simp [rightB]; omega
      clear ha hl ha' hl'
      generalize rightB a l = R at *
      go_enter Tryd.func57, Tryd.ntmps57
      go_wp2_with fail
      go_quiet ((first | (go_at_call 58; exact quiet_eqA (HI.out _)) | (go_at_call 25; exact quiet_eqA (HJ.out _))))
      go_wp2
      go_ret
      exact ⟨ret_bool HR.out.symm, below_drewN ((Below.refl _ _).alloc (Nat.le_refl _) _) _⟩
  · have ha' : inAddr a = false := by simp [inAddr]; omega
    rw [ha'] at HI
    have HR : Hid (rightB a l = false) := by show _ = _; simp [rightB]; omega
    clear ha ha' HJ
    generalize rightB a l = R at *
    go_enter Tryd.func57, Tryd.ntmps57
    go_wp2_with fail
    go_quiet ((go_at_call 58; exact quiet_eqA (HI.out _)))
    go_wp2
    go_ret
    exact ⟨ret_bool HR.out.symm, below_drewN ((Below.refl _ _).alloc (Nat.le_refl _) _) _⟩
end Go.Proofs.YtehiipddbgoajaaDoor
/- Is an entry right? Asked by the program and by the model. -/
namespace Go.Proofs.YtehiipddbgoajaaDoor
open Go.RowKit Go.Sort

/-- An entry: its net (a, l), the next one n, its metric m, its tag t. -/
structure Ent where
  a : Int
  l : Int
  n : Int
  m : Int
  t : Int
instance : Inhabited Ent := ⟨⟨0, 0, 0, 0, 0⟩⟩
def entL (e : Ent) : List Value := [.int .i64 e.a, .int .i64 e.l, .int .i64 e.n, .int .i64 e.m, .int .i64 e.t]
def entV (e : Ent) : Value := .agg #[.int .i64 e.a, .int .i64 e.l, .int .i64 e.n, .int .i64 e.m, .int .i64 e.t]
def inMet (m : Int) : Bool := decide (1 ≤ m ∧ m ≤ 16)
def inTag (m : Int) : Bool := decide (0 ≤ m ∧ m ≤ 65535)
def entB (e : Ent) : Bool := rightB e.a e.l && inAddr e.n && inMet e.m && inTag e.t
theorem ent_new0 (w : World) (o : Obj) : Below w.heap.size w (w.alloc o) := (Below.refl _ _).alloc (Nat.le_refl _) _
set_option maxRecDepth 100000 in
theorem isWordE_any (a : Int) (w : World) : Calls Tryd.prog 81 #[.int .i64 a] w fun e w' => e = .returned (.bool (inTag a)) ∧ w = w' := by
  by_cases h1 : 0 ≤ a
  · by_cases h2 : a ≤ 65535
    · go_enter Tryd.func81, Tryd.ntmps81
      go_wp2
      go_ret
      exact ⟨ret_bool (by simp [inTag]; omega), rfl⟩
    · go_enter Tryd.func81, Tryd.ntmps81
      go_wp2
      go_ret
      exact ⟨ret_bool (by simp [inTag]; omega), rfl⟩
  · go_enter Tryd.func81, Tryd.ntmps81
    go_wp2
    go_ret
    exact ⟨ret_bool (by simp [inTag]; omega), rfl⟩
/-- Five cells that a call has laid: what they hold behind a later one. -/
theorem box5 {w w1 : World} {x0 x1 x2 x3 x4 : Value} {t : TypeId} (h : Below (w.alloc (.cells #[x0, x1, x2, x3, x4] t)).heap.size (w.alloc (.cells #[x0, x1, x2, x3, x4] t)) w1) :
    w1.cell? ⟨w.heap.size, 0, none⟩ = some x0 ∧ w1.cell? ⟨w.heap.size, 1, none⟩ = some x1 ∧ w1.cell? ⟨w.heap.size, 2, none⟩ = some x2 ∧ w1.cell? ⟨w.heap.size, 3, none⟩ = some x3 ∧ w1.cell? ⟨w.heap.size, 4, none⟩ = some x4 ∧ Below w.heap.size w w1 := by
  have hlt : w.heap.size < (w.alloc (.cells #[x0, x1, x2, x3, x4] t)).heap.size := by simp
  have hz : ∀ k, (w.alloc (.cells #[x0, x1, x2, x3, x4] t)).cell? ⟨w.heap.size, k, none⟩ = #[x0, x1, x2, x3, x4][k]? := fun k => cell_of_row _ _ k _ t _ (heap_alloc_new w _)
  refine ⟨?_, ?_, ?_, ?_, ?_, (ent_new0 w _).trans (h.mono (by simp))⟩ <;> (rw [h.cell (p := ⟨w.heap.size, _, none⟩) hlt, hz]; rfl)
set_option maxRecDepth 100000 in
theorem implEntryRight_any (e : Ent) (w : World) : Calls Tryd.prog 70 #[entV e] w fun r w' => r = .returned (.bool (entB e)) ∧ Below w.heap.size w w' := by
  obtain ⟨a, l, n, m, t⟩ := e
  unfold entV entB
  have HR : Hid (∀ w, Calls Tryd.prog 79 #[.agg #[.int .i64 a, .int .i64 l]] w fun e w' => e = .returned (.bool (rightB a l)) ∧ Below w.heap.size w w') := implRight_any a l
  have HA : Hid (∀ w, Calls Tryd.prog 80 #[.int .i64 n] w fun e w' => e = .returned (.bool (inAddr n)) ∧ w = w') := isAddr_any n
  have HW : Hid (∀ w, Calls Tryd.prog 81 #[.int .i64 t] w fun e w' => e = .returned (.bool (inTag t)) ∧ w = w') := isWordE_any t
  have HM : Hid (inMet m = (decide (1 ≤ m) && decide (m ≤ 16))) := by show _ = _; simp [inMet, Bool.decide_and]
  generalize rightB a l = R at *
  generalize inAddr n = N at *
  generalize inTag t = T at *
  rw [HM.out]
  clear HM
  go_enter Tryd.func70, Tryd.ntmps70
  go_wp2_with fail
  refine (HR.out _).mono ?_
  rintro e w1 ⟨rfl, hb1⟩
  obtain ⟨c0, c1, c2, c3, c4, hB⟩ := box5 hb1
  clear hb1 HR
  cases R
  · go_wp2
    go_ret
    exact ⟨rfl, hB⟩
  · go_wp2_with fail
    refine (HA.out _).mono ?_
    rintro e w2 ⟨rfl, rfl⟩
    cases N
    · go_wp2
      go_ret
      exact ⟨rfl, hB⟩
    · by_cases h1 : 1 ≤ m
      · by_cases h2 : m ≤ 16
        · go_wp2_with fail
          refine (HW.out _).mono ?_
          rintro e w2 ⟨rfl, rfl⟩
          go_wp2
          go_ret
          exact ⟨ret_bool (by simp [h1, h2]), hB⟩
        · go_wp2
          go_ret
          exact ⟨ret_bool (by simp; omega), hB⟩
      · go_wp2
        go_ret
        exact ⟨ret_bool (by simp; omega), hB⟩
set_option maxRecDepth 100000 in
theorem specEntryRight_any (e : Ent) (w : World) : Calls Tryd.prog 39 #[entV e] w fun r w' => r = .returned (.bool (entB e)) ∧ Below w.heap.size w w' := by
  obtain ⟨a, l, n, m, t⟩ := e
  unfold entV entB
  have HR : Hid (∀ w, Calls Tryd.prog 57 #[.agg #[.int .i64 a, .int .i64 l]] w fun e w' => e = .returned (.bool (rightB a l)) ∧ Below w.heap.size w w') := specRight_any a l
  have HA : Hid (∀ w, Calls Tryd.prog 58 #[.int .i64 n] w fun e w' => e = .returned (.bool (inAddr n)) ∧ w = w') := l03Addr_any n
  have HM : Hid (∀ w, Calls Tryd.prog 25 #[.int .i64 m, .int .i64 1, .int .i64 16] w fun e w' => e = .returned (.bool (inMet m)) ∧ w = w') := l03Is_any m 1 16
  have HW : Hid (∀ w, Calls Tryd.prog 25 #[.int .i64 t, .int .i64 0, .int .i64 65535] w fun e w' => e = .returned (.bool (inTag t)) ∧ w = w') := l03Is_any t 0 65535
  generalize rightB a l = R at *
  generalize inAddr n = N at *
  generalize inTag t = T at *
  generalize inMet m = M at *
  go_enter Tryd.func39, Tryd.ntmps39
  go_wp2_with fail
  refine (HR.out _).mono ?_
  rintro e w1 ⟨rfl, hb1⟩
  obtain ⟨c0, c1, c2, c3, c4, hB⟩ := box5 hb1
  clear hb1 HR
  cases R
  · go_wp2
    go_ret
    exact ⟨rfl, hB⟩
  · go_wp2_with fail
    refine (HA.out _).mono ?_
    rintro e w2 ⟨rfl, rfl⟩
    cases N
    · go_wp2
      go_ret
      exact ⟨rfl, hB⟩
    · go_wp2_with fail
      refine (HM.out _).mono ?_
      rintro e w2 ⟨rfl, rfl⟩
      cases M
      · go_wp2
        go_ret
        exact ⟨rfl, hB⟩
      · go_wp2_with fail
        refine (HW.out _).mono ?_
        rintro e w2 ⟨rfl, rfl⟩
        go_wp2
        go_ret
        exact ⟨rfl, hB⟩
end Go.Proofs.YtehiipddbgoajaaDoor
/- The laws' own nets, handed over. -/
namespace Go.Proofs.YtehiipddbgoajaaDoor
open Go.RowKit Go.Sort

set_option maxRecDepth 100000 in
theorem toNet_any (a l : Int) (w : World) : Calls Tryd.prog 61 #[netV a l] w fun e w' => e = .returned (netV a l) ∧ Below w.heap.size w w' := by
  unfold netV
  go_enter Tryd.func61, Tryd.ntmps61
  go_wp2
  refine bodyPost_ret (v := .agg #[.int .i64 a, .int .i64 l]) (by simp [results, Tryd.results61, go_sem]) rfl ⟨rfl, ?_⟩
  exact (((Below.refl _ _).alloc (Nat.le_refl _) _).alloc (by simp) _).alloc (by simp; omega) _
theorem below_next {B : Nat} {w w1 w2 : World} (h : Below B w w1) (h2 : Below w1.heap.size w1 w2) (hB : B ≤ w1.heap.size) : Below B w w2 := h.trans (h2.mono hB)
theorem two_later {w1 w2 : World} {b : Nat} {x y : Value} (h0 : w1.cell? ⟨b, 0, none⟩ = some x) (h1 : w1.cell? ⟨b, 1, none⟩ = some y) (hb : Below w1.heap.size w1 w2) : w2.cell? ⟨b, 0, none⟩ = some x ∧ w2.cell? ⟨b, 1, none⟩ = some y :=
  ⟨by rw [hb.cell (p := ⟨b, 0, none⟩) (World.block_lt_of_cell? w1 _ h0)]; exact h0, by rw [hb.cell (p := ⟨b, 1, none⟩) (World.block_lt_of_cell? w1 _ h1)]; exact h1⟩
end Go.Proofs.YtehiipddbgoajaaDoor
/- The laws' own look: a net is as itself. -/
namespace Go.Proofs.YtehiipddbgoajaaDoor
open Go.RowKit Go.Sort

set_option maxRecDepth 100000 in
theorem eqNet_same (a l : Int) (w : World) : Calls Tryd.prog 67 #[netV a l, netV a l] w fun e w' => e = .returned (.bool true) ∧ Below w.heap.size w w' := by
  have h1 : (a != a) = false := by simp
  have h2 : (l != l) = false := by simp
  unfold netV
  go_enter Tryd.func67, Tryd.ntmps67
  go_wp2
  go_ret
  exact ⟨rfl, ((Below.refl _ _).alloc (Nat.le_refl _) _).alloc (by simp) _⟩
end Go.Proofs.YtehiipddbgoajaaDoor
/- The laws' own entries, handed over; an entry is as itself. -/
namespace Go.Proofs.YtehiipddbgoajaaDoor
open Go.RowKit Go.Sort

/-- Five stores one behind the other into one block. -/
def five (w : World) (g : Nat) (x0 x1 x2 x3 x4 : Value) : World := ((((w.setCell ⟨g, 0, none⟩ x0).setCell ⟨g, 1, none⟩ x1).setCell ⟨g, 2, none⟩ x2).setCell ⟨g, 3, none⟩ x3).setCell ⟨g, 4, none⟩ x4
theorem five_below {B : Nat} {w0 w : World} (h : Below B w0 w) (g : Nat) (hg : B ≤ g) (x0 x1 x2 x3 x4 : Value) : Below B w0 (five w g x0 x1 x2 x3 x4) :=
  ((((h.setCell (p := ⟨g, 0, none⟩) hg x0).setCell (p := ⟨g, 1, none⟩) hg x1).setCell (p := ⟨g, 2, none⟩) hg x2).setCell (p := ⟨g, 3, none⟩) hg x3).setCell (p := ⟨g, 4, none⟩) hg x4
theorem five_row {w : World} {g : Nat} {t : TypeId} {y0 y1 y2 y3 y4 : Value} (h : Row w g t [y0, y1, y2, y3, y4]) (x0 x1 x2 x3 x4 : Value) : Row (five w g x0 x1 x2 x3 x4) g t [x0, x1, x2, x3, x4] :=
  ((((h.set 0 x0).set 1 x1).set 2 x2).set 3 x3).set 4 x4
theorem five_other {w : World} {g : Nat} {t : TypeId} {l : List Value} (h : Row w g t l) (k : Nat) (hk : g ≠ k) (x0 x1 x2 x3 x4 : Value) : Row (five w k x0 x1 x2 x3 x4) g t l :=
  ((((h.other 0 x0 hk).other 1 x1 hk).other 2 x2 hk).other 3 x3 hk).other 4 x4 hk
set_option maxRecDepth 100000 in
theorem toEntry_any (e : Ent) (w : World) : Calls Tryd.prog 43 #[entV e] w fun r w' => r = .returned (entV e) ∧ Below w.heap.size w w' := by
  obtain ⟨a, l, n, m, t⟩ := e
  unfold entV
  have HT : Hid (∀ w, Calls Tryd.prog 61 #[.agg #[.int .i64 a, .int .i64 l]] w fun e w' => e = .returned (.agg #[.int .i64 a, .int .i64 l]) ∧ Below w.heap.size w w') := toNet_any a l
  go_enter Tryd.func43, Tryd.ntmps43
  go_wp2_with fail
  refine (HT.out _).mono ?_
  rintro e w1 ⟨rfl, hb1⟩
  have q0 := ((Row.new w 69 [.int .i64 a, .int .i64 l, .int .i64 n, .int .i64 m, .int .i64 t]).alloc (.cells #[.int .i64 0, .int .i64 0, .int .i64 0, .int .i64 0, .int .i64 0] 44)).alloc (.cells #[.int .i64 0, .int .i64 0, .int .i64 0, .int .i64 0, .int .i64 0] 44)
  have q1 := (Row.new (w.alloc (.cells #[.int .i64 a, .int .i64 l, .int .i64 n, .int .i64 m, .int .i64 t] 69)) 44 [.int .i64 0, .int .i64 0, .int .i64 0, .int .i64 0, .int .i64 0]).alloc (.cells #[.int .i64 0, .int .i64 0, .int .i64 0, .int .i64 0, .int .i64 0] 44)
  have q2 := Row.new ((w.alloc (.cells #[.int .i64 a, .int .i64 l, .int .i64 n, .int .i64 m, .int .i64 t] 69)).alloc (.cells #[.int .i64 0, .int .i64 0, .int .i64 0, .int .i64 0, .int .i64 0] 44)) 44 [.int .i64 0, .int .i64 0, .int .i64 0, .int .i64 0, .int .i64 0]
  have hB : Below w.heap.size w w1 := (((ent_new0 w _).alloc (by simp) _).alloc (by simp; omega) _).trans (hb1.mono (by simp; omega))
  have p0 := q0.below hb1 q0.lt
  have p1 := q1.below hb1 q1.lt
  have p2 := q2.below hb1 q2.lt
  clear q0 q1 q2 hb1
  have h0 : (w.alloc (.cells #[.int .i64 a, .int .i64 l, .int .i64 n, .int .i64 m, .int .i64 t] 69)).heap.size = w.heap.size + 1 := by simp
  have h1 : ((w.alloc (.cells #[.int .i64 a, .int .i64 l, .int .i64 n, .int .i64 m, .int .i64 t] 69)).alloc (.cells #[.int .i64 0, .int .i64 0, .int .i64 0, .int .i64 0, .int .i64 0] 44)).heap.size = w.heap.size + 1 + 1 := by simp
  rw [h0] at p1
  rw [h1] at p2
  clear h0 h1
  have a2 : w1.cell? ⟨w.heap.size, 2, none⟩ = some (.int .i64 n) := p0.cell 2
  have a3 : w1.cell? ⟨w.heap.size, 3, none⟩ = some (.int .i64 m) := p0.cell 3
  have a4 : w1.cell? ⟨w.heap.size, 4, none⟩ = some (.int .i64 t) := p0.cell 4
  have b0 : w1.cell? ⟨w.heap.size + 1, 0, none⟩ = some (.int .i64 0) := p1.cell 0
  have b1 : w1.cell? ⟨w.heap.size + 1, 1, none⟩ = some (.int .i64 0) := p1.cell 1
  have b2 : w1.cell? ⟨w.heap.size + 1, 2, none⟩ = some (.int .i64 0) := p1.cell 2
  have b3 : w1.cell? ⟨w.heap.size + 1, 3, none⟩ = some (.int .i64 0) := p1.cell 3
  have b4 : w1.cell? ⟨w.heap.size + 1, 4, none⟩ = some (.int .i64 0) := p1.cell 4
  have d0 : w1.cell? ⟨w.heap.size + 1 + 1, 0, none⟩ = some (.int .i64 0) := p2.cell 0
  have d1 : w1.cell? ⟨w.heap.size + 1 + 1, 1, none⟩ = some (.int .i64 0) := p2.cell 1
  have d2 : w1.cell? ⟨w.heap.size + 1 + 1, 2, none⟩ = some (.int .i64 0) := p2.cell 2
  have d3 : w1.cell? ⟨w.heap.size + 1 + 1, 3, none⟩ = some (.int .i64 0) := p2.cell 3
  have d4 : w1.cell? ⟨w.heap.size + 1 + 1, 4, none⟩ = some (.int .i64 0) := p2.cell 4
  have f0 := p1.frozen 0
  have f1 := p1.frozen 1
  have f2 := p1.frozen 2
  have f3 := p1.frozen 3
  have f4 := p1.frozen 4
  have g0 := p2.frozen 0
  have g1 := p2.frozen 1
  have g2 := p2.frozen 2
  have g3 := p2.frozen 3
  have g4 := p2.frozen 4
  have P1 : Hid (Row w1 (w.heap.size + 1) 44 [.int .i64 0, .int .i64 0, .int .i64 0, .int .i64 0, .int .i64 0]) := p1
  clear p0 p1 p2
  go_wp2_with fail
  have hBB := five_below (five_below hB (w.heap.size + 1 + 1) (by omega) (.int .i64 a) (.int .i64 l) (.int .i64 n) (.int .i64 m) (.int .i64 t)) (w.heap.size + 1) (by omega) (.int .i64 a) (.int .i64 l) (.int .i64 n) (.int .i64 m) (.int .i64 t)
  have hRR := five_row (five_other P1.out (w.heap.size + 1 + 1) (by omega) (.int .i64 a) (.int .i64 l) (.int .i64 n) (.int .i64 m) (.int .i64 t)) (.int .i64 a) (.int .i64 l) (.int .i64 n) (.int .i64 m) (.int .i64 t)
  unfold five at hBB hRR
  generalize ((((((((((w1.setCell { block := w.heap.size + 1 + 1, off := 0 } (Value.int IntKind.i64 a)).setCell { block := w.heap.size + 1 + 1, off := 1 } (Value.int IntKind.i64 l)).setCell { block := w.heap.size + 1 + 1, off := 2 } (Value.int IntKind.i64 n)).setCell { block := w.heap.size + 1 + 1, off := 3 } (Value.int IntKind.i64 m)).setCell { block := w.heap.size + 1 + 1, off := 4 } (Value.int IntKind.i64 t)).setCell { block := w.heap.size + 1, off := 0 } (Value.int IntKind.i64 a)).setCell { block := w.heap.size + 1, off := 1 } (Value.int IntKind.i64 l)).setCell { block := w.heap.size + 1, off := 2 } (Value.int IntKind.i64 n)).setCell { block := w.heap.size + 1, off := 3 } (Value.int IntKind.i64 m)).setCell { block := w.heap.size + 1, off := 4 } (Value.int IntKind.i64 t)) = W at *
  clear b0 b1 b2 b3 b4 d0 d1 d2 d3 d4 f0 f1 f2 f3 f4 g0 g1 g2 g3 g4 a2 a3 a4 P1 hB HT
  have b0 : W.cell? ⟨w.heap.size + 1, 0, none⟩ = some (.int .i64 a) := hRR.cell 0
  have b1 : W.cell? ⟨w.heap.size + 1, 1, none⟩ = some (.int .i64 l) := hRR.cell 1
  have b2 : W.cell? ⟨w.heap.size + 1, 2, none⟩ = some (.int .i64 n) := hRR.cell 2
  have b3 : W.cell? ⟨w.heap.size + 1, 3, none⟩ = some (.int .i64 m) := hRR.cell 3
  have b4 : W.cell? ⟨w.heap.size + 1, 4, none⟩ = some (.int .i64 t) := hRR.cell 4
  clear hRR
  refine bodyPost_ret (v := .agg #[.int .i64 a, .int .i64 l, .int .i64 n, .int .i64 m, .int .i64 t]) (by simp [results, Tryd.results43, go_sem, b0, b1, b2, b3, b4]) rfl ⟨rfl, hBB⟩
end Go.Proofs.YtehiipddbgoajaaDoor
/- The laws' own entries, and lists of them, handed in: opened. -/
namespace Go.Proofs.YtehiipddbgoajaaDoor
open Go.ChangeShapes Go.WideShapes Go.RowKit Go.Deep Go.WideElems Go.Maps Go.Joins

theorem array5 {α : Type} {cs : Array α} (h : cs.size = 5) : ∃ c0 c1 c2 c3 c4, cs = #[c0, c1, c2, c3, c4] := by
  obtain ⟨l⟩ := cs
  match l, h with
  | [c0, c1, c2, c3, c4], _ => exact ⟨c0, c1, c2, c3, c4, rfl⟩
/-- All five numbers of an entry are of 64 bits. -/
def EntW (e : Ent) : Prop := (Lit.int .i64 e.a).wf = true ∧ (Lit.int .i64 e.l).wf = true ∧ (Lit.int .i64 e.n).wf = true ∧ (Lit.int .i64 e.m).wf = true ∧ (Lit.int .i64 e.t).wf = true
theorem Tryd.cellsEntry : Tryd.prog.cellsOf 69 = 5 := by kernel_rfl
theorem Tryd.cellsNetL : Tryd.prog.cellsOf 67 = 2 := by kernel_rfl
theorem Tryd.cellsInt : Tryd.prog.cellsOf 2 = 1 := by kernel_rfl
section
variable {H : Type} {enc : TypeId × Value → H} {w : World} {base : Nat} {spare : Nat → Bool} {held : Bool}
set_option maxRecDepth 100000 in
theorem open_ent {fuel : Nat} {cs : List Value} {x : DataW H × List MemPlace} (h : DataW.trod enc Tryd.prog w base spare held fuel 69 cs = some x) : ∃ e : Ent, cs = entL e ∧ EntW e := by
  obtain ⟨xs, n, _, _, hl, hx, hg⟩ := DataW.trod_struct Tryd.underlying69 h
  rw [Tryd.cellsEntry] at hl
  match cs, hl, xs, hx with
  | [c0, c1, c2, c3, c4], _, [y0, y1, y2, y3], _ =>
    have h0 : DataW.trod enc Tryd.prog w base spare held n 67 ((([c0, c1, c2, c3, c4] : List Value).drop 0).take (Tryd.prog.cellsOf 67)) = [y0, y1, y2, y3][0]? := hg 0 _ rfl
    rw [Tryd.cellsNetL] at h0
    replace h0 : DataW.trod enc Tryd.prog w base spare held n 67 [c0, c1] = some y0 := h0
    have h1 : DataW.trod enc Tryd.prog w base spare held n 2 ((([c0, c1, c2, c3, c4] : List Value).drop 2).take (Tryd.prog.cellsOf 2)) = [y0, y1, y2, y3][1]? := hg 1 _ rfl
    rw [Tryd.cellsInt] at h1
    replace h1 : DataW.trod enc Tryd.prog w base spare held n 2 [c2] = some y1 := h1
    have h2 : DataW.trod enc Tryd.prog w base spare held n 2 ((([c0, c1, c2, c3, c4] : List Value).drop 3).take (Tryd.prog.cellsOf 2)) = [y0, y1, y2, y3][2]? := hg 2 _ rfl
    rw [Tryd.cellsInt] at h2
    replace h2 : DataW.trod enc Tryd.prog w base spare held n 2 [c3] = some y2 := h2
    have h3 : DataW.trod enc Tryd.prog w base spare held n 2 ((([c0, c1, c2, c3, c4] : List Value).drop 4).take (Tryd.prog.cellsOf 2)) = [y0, y1, y2, y3][3]? := hg 3 _ rfl
    rw [Tryd.cellsInt] at h3
    replace h3 : DataW.trod enc Tryd.prog w base spare held n 2 [c4] = some y3 := h3
    obtain ⟨zs, k, _, _, _, hz, hk⟩ := DataW.trod_struct Tryd.underlying67 h0
    match zs, hz with
    | [z0, z1], _ =>
      have k0 : DataW.trod enc Tryd.prog w base spare held k 2 ((([c0, c1] : List Value).drop 0).take (Tryd.prog.cellsOf 2)) = [z0, z1][0]? := hk 0 _ rfl
      rw [Tryd.cellsInt] at k0
      replace k0 : DataW.trod enc Tryd.prog w base spare held k 2 [c0] = some z0 := k0
      have k1 : DataW.trod enc Tryd.prog w base spare held k 2 ((([c0, c1] : List Value).drop 1).take (Tryd.prog.cellsOf 2)) = [z0, z1][1]? := hk 1 _ rfl
      rw [Tryd.cellsInt] at k1
      replace k1 : DataW.trod enc Tryd.prog w base spare held k 2 [c1] = some z1 := k1
      obtain ⟨a, ea, _, wa⟩ := DataW.trod_int Tryd.underlying2 k0
      obtain ⟨l, el, _, wl⟩ := DataW.trod_int Tryd.underlying2 k1
      obtain ⟨p, ep, _, wp⟩ := DataW.trod_int Tryd.underlying2 h1
      obtain ⟨m, em, _, wm⟩ := DataW.trod_int Tryd.underlying2 h2
      obtain ⟨t, et, _, wt⟩ := DataW.trod_int Tryd.underlying2 h3
      simp only [List.cons.injEq, and_true] at ea el ep em et
      subst ea el ep em et
      exact ⟨⟨a, l, p, m, t⟩, rfl, wa, wl, wp, wm, wt⟩
set_option maxRecDepth 100000 in
theorem open_entV {r : Reach} {b0 : Nat} {v : Value} {d : DataW H} {p : List MemPlace} (hv : Value.okWide Tryd.prog w r b0 69 v) (h : DataW.Trod enc Tryd.prog w base spare held 69 v d p) :
    ∃ e : Ent, v = entV e ∧ EntW e := by
  obtain ⟨cs, rfl, hsz⟩ := okWide_struct Tryd.underlying69 hv
  obtain ⟨c0, c1, c2, c3, c4, rfl⟩ := array5 (hsz.trans Tryd.cellsEntry)
  obtain ⟨fuel, hf⟩ := h
  obtain ⟨e, he, hw⟩ := open_ent hf
  refine ⟨e, ?_, hw⟩
  simp only [Value.cells, entL] at he
  simp only [List.cons.injEq, and_true] at he
  obtain ⟨rfl, rfl, rfl, rfl, rfl⟩ := he
  rfl
end
end Go.Proofs.YtehiipddbgoajaaDoor
/- Lists of entries in memory. -/
namespace Go.Proofs.YtehiipddbgoajaaDoor
open Go.RowKit Go.Sort

def rowE (es : List Ent) : List Value := es.flatMap entL
theorem entL_length (e : Ent) : (entL e).length = 5 := rfl
theorem rowE_length (es : List Ent) : (rowE es).length = 5 * es.length := by
  induction es with
  | nil => rfl
  | cons e es ih => simp only [rowE, List.flatMap_cons, List.length_append, List.length_cons] at ih ⊢; rw [ih, entL_length]; omega
theorem rowE_append (a b : List Ent) : rowE (a ++ b) = rowE a ++ rowE b := by simp [rowE]
theorem rowE_cons (e : Ent) (es : List Ent) : rowE (e :: es) = entL e ++ rowE es := rfl
theorem rowE_get (es : List Ent) (i k : Nat) (hi : i < es.length) (hk : k < 5) : (rowE es)[i * 5 + k]? = (entL es[i])[k]? := by
  induction es generalizing i with
  | nil => simp at hi
  | cons e es ih =>
    rw [rowE_cons]
    match i with
    | 0 => rw [Nat.zero_mul, Nat.zero_add, List.getElem?_append_left (by rw [entL_length]; omega)]; rfl
    | i + 1 =>
      rw [List.getElem?_append_right (by rw [entL_length]; omega), entL_length, show (i + 1) * 5 + k - 5 = i * 5 + k by omega, ih i (by simpa using hi)]
      rfl
theorem rowE_one (es : List Ent) : ∀ u ∈ rowE es, u.oneCell' = true := by
  intro u hu
  simp only [rowE, List.mem_flatMap, entL, List.mem_cons, List.not_mem_nil, or_false] at hu
  obtain ⟨e, _, h⟩ := hu
  rcases h with h | h | h | h | h <;> (rw [h]; rfl)
/-- The slice (p, es.length) holds the entries es. -/
def EntsIn (w : World) (p : Option Addr) (es : List Ent) : Prop := es = [] ∨ ∃ g, p = some ⟨g, 0, none⟩ ∧ g < w.heap.size ∧ ∀ j u, (rowE es)[j]? = some u → w.cell? ⟨g, j, none⟩ = some u
theorem EntsIn.below {w w' : World} {p : Option Addr} {es : List Ent} (h : EntsIn w p es) (hb : Below w.heap.size w w') : EntsIn w' p es := by
  rcases h with h | ⟨g, hp, hg, hc⟩
  · exact .inl h
  · refine .inr ⟨g, hp, by have := hb.size; omega, fun j u hj => ?_⟩
    rw [hb.cell (p := ⟨g, j, none⟩) hg]
    exact hc j u hj
theorem EntsIn.alloc {w : World} {p : Option Addr} {es : List Ent} (h : EntsIn w p es) (o : Obj) : EntsIn (w.alloc o) p es := h.below (ent_new0 w o)
theorem EntsIn.at {w : World} {p : Option Addr} {es : List Ent} (h : EntsIn w p es) (i : Nat) (hi : i < es.length) : ∃ g a l n m t, p = some ⟨g, 0, none⟩ ∧ g < w.heap.size ∧ es[i] = ⟨a, l, n, m, t⟩ ∧ w.cell? ⟨g, i * 5, none⟩ = some (.int .i64 a) ∧ w.cell? ⟨g, i * 5 + 1, none⟩ = some (.int .i64 l) ∧ w.cell? ⟨g, i * 5 + 2, none⟩ = some (.int .i64 n) ∧ w.cell? ⟨g, i * 5 + 3, none⟩ = some (.int .i64 m) ∧ w.cell? ⟨g, i * 5 + 4, none⟩ = some (.int .i64 t) := by
  rcases h with rfl | ⟨g, hp, hg, hc⟩
  · simp at hi
  · exact ⟨g, es[i].a, es[i].l, es[i].n, es[i].m, es[i].t, hp, hg, rfl, hc _ _ (rowE_get es i 0 hi (by omega)), hc _ _ (rowE_get es i 1 hi (by omega)), hc _ _ (rowE_get es i 2 hi (by omega)), hc _ _ (rowE_get es i 3 hi (by omega)), hc _ _ (rowE_get es i 4 hi (by omega))⟩
def ripB (c : Int) (es : List Ent) : Bool := decide (c = 1 ∨ c = 2) && decide (es.length ≤ 8) && es.all entB
def ripV (c : Int) (p : Option Addr) (n cap : Nat) : Value := .agg #[.int .i64 c, .slice p n cap]
theorem all_next (es : List Ent) (k : Nat) (h : k < es.length) (ha : (es.take k).all entB = true) : (es.take (k + 1)).all entB = entB es[k] := by
  rw [List.take_succ_eq_append_getElem h, List.all_append, ha]; simp
theorem all_bad (es : List Ent) (k : Nat) (h : k < es.length) (ha : entB es[k] = false) : es.all entB = false := by
  rw [List.all_eq_false]; exact ⟨es[k], List.getElem_mem h, by rw [ha]; simp⟩
theorem ripB_bad (c : Int) (es : List Ent) (k : Nat) (h : k < es.length) (ha : entB es[k] = false) : ripB c es = false := by
  unfold ripB; rw [all_bad es k h ha, Bool.and_false]
end Go.Proofs.YtehiipddbgoajaaDoor
/- The laws' own Rips: opened, measured, handed over. -/
namespace Go.Proofs.YtehiipddbgoajaaDoor
open Go.ChangeShapes Go.WideShapes Go.RowKit Go.Sort Go.Deep Go.Joins

/-- The slice (x, len) that was handed in holds the entries es. -/
def ArgE (w : World) (x : Option Addr) (len : Nat) (es : List Ent) : Prop := es.length = len ∧ len ≤ maxLen ∧ (∀ e ∈ es, EntW e) ∧ ∀ i, (h : i < es.length) → ∃ p, x = some p ∧ w.cell? (p.add (i * 5)) = some (.int .i64 es[i].a) ∧ w.cell? (p.add (i * 5 + 1)) = some (.int .i64 es[i].l) ∧ w.cell? (p.add (i * 5 + 2)) = some (.int .i64 es[i].n) ∧ w.cell? (p.add (i * 5 + 3)) = some (.int .i64 es[i].m) ∧ w.cell? (p.add (i * 5 + 4)) = some (.int .i64 es[i].t)
theorem ArgE.below {w w' : World} {x : Option Addr} {len : Nat} {es : List Ent} (h : ArgE w x len es) (hb : Below w.heap.size w w') : ArgE w' x len es := by
  obtain ⟨h1, h2, h3, h4⟩ := h
  refine ⟨h1, h2, h3, fun i hi => ?_⟩
  obtain ⟨p, hp, c0, c1, c2, c3, c4⟩ := h4 i hi
  have hk : ∀ k v, w.cell? (p.add k) = some v → w'.cell? (p.add k) = some v := fun k v hv => by rw [hb.cell (World.block_lt_of_cell? w _ hv)]; exact hv
  exact ⟨p, hp, hk _ _ c0, hk _ _ c1, hk _ _ c2, hk _ _ c3, hk _ _ c4⟩
theorem addr_more (p : Addr) (m j : Nat) (hj : j ≠ 0) : p.add (m + j) = ⟨(p.add m).block, (p.add m).off + j, none⟩ := by
  rw [← Addr.add_add]
  generalize p.add m = q
  unfold Addr.add
  rw [if_neg hj]
theorem ArgE.at {w : World} {x : Option Addr} {len : Nat} {es : List Ent} (h : ArgE w x len es) (i : Nat) (hi : i < es.length) : ∃ p a l n m t, x = some p ∧ es[i] = ⟨a, l, n, m, t⟩ ∧ w.cell? (p.add (i * 5)) = some (.int .i64 a) ∧ w.cell? ⟨(p.add (i * 5)).block, (p.add (i * 5)).off + 1, none⟩ = some (.int .i64 l) ∧ w.cell? ⟨(p.add (i * 5)).block, (p.add (i * 5)).off + 2, none⟩ = some (.int .i64 n) ∧ w.cell? ⟨(p.add (i * 5)).block, (p.add (i * 5)).off + 3, none⟩ = some (.int .i64 m) ∧ w.cell? ⟨(p.add (i * 5)).block, (p.add (i * 5)).off + 4, none⟩ = some (.int .i64 t) := by
  obtain ⟨p, hp, c0, c1, c2, c3, c4⟩ := h.2.2.2 i hi
  rw [addr_more _ _ _ (by omega)] at c1 c2 c3 c4
  exact ⟨p, _, _, _, _, _, hp, rfl, c0, c1, c2, c3, c4⟩
section
variable {H : Type} {enc : TypeId × Value → H} {w : World} {base : Nat} {spare : Nat → Bool} {held : Bool}
set_option maxRecDepth 100000 in
theorem open_ents {fuel : Nat} {v : Value} {x : DataW H × List MemPlace} (h : DataW.trod enc Tryd.prog w base spare held fuel 31 [v] = some x) : ∃ y len cap es, v = .slice y len cap ∧ ArgE w y len es := by
  rcases open_slice Tryd.underlying31 h with ⟨h0, _⟩ | ⟨a, len, cap, m, n, D, Pl, h0, hb, hl, hm, hmm, _, hx⟩
  · simp only [List.cons.injEq, and_true] at h0
    exact ⟨none, 0, 0, [], h0, rfl, Nat.zero_le _, by simp, fun i hi => absurd hi (by simp)⟩
  · simp only [List.cons.injEq, and_true] at h0
    have hlm : len ≤ m := by rw [hmm]; split <;> omega
    have each : ∀ i, i < m → ∃ e : Ent, EntW e ∧ w.cell? (a.add (i * 5)) = some (.int .i64 e.a) ∧ w.cell? (a.add (i * 5 + 1)) = some (.int .i64 e.l) ∧ w.cell? (a.add (i * 5 + 2)) = some (.int .i64 e.n) ∧ w.cell? (a.add (i * 5 + 3)) = some (.int .i64 e.m) ∧ w.cell? (a.add (i * 5 + 4)) = some (.int .i64 e.t) := by
      intro i hi
      obtain ⟨cs', h1, h2⟩ := hx i hi
      rw [Tryd.cellsEntry] at h1
      obtain ⟨e, rfl, hw⟩ := open_ent h2
      obtain ⟨_, _, hcell⟩ := World.cells?_some h1
      have hadd : ∀ j k, (a.add j).add k = a.add (j + k) := fun j k => by
        unfold Addr.add
        by_cases hj : j = 0
        · subst hj; by_cases hk : k = 0 <;> simp [hk]
        · by_cases hk : k = 0
          · simp [hj, hk]
          · simp [hj, hk, Nat.add_assoc]
      refine ⟨e, hw, ?_⟩
      have k0 := hcell 0 (by omega)
      have k1 := hcell 1 (by omega)
      have k2 := hcell 2 (by omega)
      have k3 := hcell 3 (by omega)
      have k4 := hcell 4 (by omega)
      simp only [hadd, Nat.add_zero, entL] at k0 k1 k2 k3 k4
      exact ⟨by simpa using k0, by simpa using k1, by simpa using k2, by simpa using k3, by simpa using k4⟩
    obtain ⟨E, hE⟩ := choose_lt (α := Ent) (p := fun i e => EntW e ∧ w.cell? (a.add (i * 5)) = some (.int .i64 e.a) ∧ w.cell? (a.add (i * 5 + 1)) = some (.int .i64 e.l) ∧ w.cell? (a.add (i * 5 + 2)) = some (.int .i64 e.n) ∧ w.cell? (a.add (i * 5 + 3)) = some (.int .i64 e.m) ∧ w.cell? (a.add (i * 5 + 4)) = some (.int .i64 e.t)) each
    refine ⟨some a, len, cap, (List.range len).map E, h0, by simp, by omega, ?_, ?_⟩
    · intro e he
      simp only [List.mem_map, List.mem_range] at he
      obtain ⟨i, hi, rfl⟩ := he
      exact (hE i (by omega)).1
    · intro i hi
      simp only [List.length_map, List.length_range] at hi
      refine ⟨a, rfl, ?_⟩
      simp only [List.getElem_map, List.getElem_range]
      exact (hE i (by omega)).2
set_option maxRecDepth 100000 in
theorem open_ripV {r : Reach} {b0 : Nat} {v : Value} {d : DataW H} {p : List MemPlace} (hv : Value.okWide Tryd.prog w r b0 33 v) (h : DataW.Trod enc Tryd.prog w base spare held 33 v d p) :
    ∃ c y len cap es, v = ripV c y len cap ∧ ArgE w y len es := by
  obtain ⟨c0, c1, y0, y1, m, rfl, _, _, h0, h1⟩ := open_agg2 Tryd.underlying33 (by kernel_rfl) (by kernel_rfl) hv h
  obtain ⟨c, ec, _, _⟩ := DataW.trod_int Tryd.underlying2 h0
  obtain ⟨y, len, cap, es, rfl, hA⟩ := open_ents h1
  simp only [List.cons.injEq, and_true] at ec
  subst ec
  exact ⟨c, y, len, cap, es, rfl, hA⟩
end
end Go.Proofs.YtehiipddbgoajaaDoor
/- The laws' own Rips measured and handed over. -/
namespace Go.Proofs.YtehiipddbgoajaaDoor
open Go.RowKit Go.Sort

theorem Tryd.infoE : (Tryd.prog.info? 44).map (fun i => (i.zero, i.size, i.bytes)) = some (some (.agg #[.int .i64 0, .int .i64 0, .int .i64 0, .int .i64 0, .int .i64 0]), 5, 40) := by kernel_rfl
def zeroEnt : Ent := ⟨0, 0, 0, 0, 0⟩
theorem rowE_zero (n : Nat) : rowE (List.replicate n zeroEnt) = List.replicate (n * 5) (.int .i64 0) := by
  induction n with
  | zero => rfl
  | succ n ih =>
    rw [List.replicate_succ, rowE_cons, ih, show (n + 1) * 5 = 5 + n * 5 by omega, ← List.replicate_append_replicate]
    rfl
theorem made_zero (n : Nat) : (madeCells (Value.agg #[.int .i64 0, .int .i64 0, .int .i64 0, .int .i64 0, .int .i64 0]).cells (n * 5)).toList = List.replicate (n * 5) (.int .i64 0) := by
  rw [List.eq_replicate_iff]
  refine ⟨by simp [madeCells], fun b hb => ?_⟩
  simp only [madeCells, Value.cells, Array.toList_map, List.mem_map] at hb
  obtain ⟨i, _, rfl⟩ := hb
  have h5 : i % 5 = 0 ∨ i % 5 = 1 ∨ i % 5 = 2 ∨ i % 5 = 3 ∨ i % 5 = 4 := by omega
  rcases h5 with h | h | h | h | h <;> simp [h]
set_option maxRecDepth 100000 in
/-- 'make([]Entry, n)'. -/
theorem wpList_make_ents {w : World} {ops : Array Oper} {rest : List Oper} {o : Oper} {a : Act} {Q : Exit → Act → World → Prop}
    (hgd : o.guard = none) (l c : Operand) (hop : o.op = Op.makeSlice 22 l c)
    (L : Int) (n : Nat) (hl : a.eval l = .int .i64 L) (hc : a.eval c = .int .i64 L) (hL : L = (n : Int)) (hn : n ≤ 100000000)
    (B : Nat) (w0 : World) (hb : Below B w0 w) (hB : B ≤ w.heap.size)
    (h : ∀ w', Row w' w.heap.size 44 (rowE (List.replicate n zeroEnt)) → Below B w0 w' → wpList Tryd.prog ops Q rest (a.put o.dst (.slice (some ⟨w.heap.size, 0, none⟩) n n)) w') : wpList Tryd.prog ops Q (o :: rest) a w := by
  obtain ⟨i0, hi0, hz0, hz1, hz2⟩ := info_parts Tryd.infoE
  refine wpList_make_full w hgd l c 22 hop B 44 i0 _ 5 Tryd.underlying22 hi0 hz0 hz1 .i64 .i64 L L n hl hc hL hL (by rw [hz2]; omega) (by unfold maxLen; omega) hB ?_
  intro w' hown hgrow
  rcases hown.2 with ⟨h', _⟩ | ⟨g, cap, cur, h', hbg, hg, hnc, hcm, hcs, htake⟩
  · simp at h'
  · simp only [Value.slice.injEq, Option.some.injEq, Addr.mk.injEq, and_true, true_and] at h'
    obtain ⟨rfl, rfl⟩ := h'
    refine h w' ?_ (hb.trans ((Below.refl B w).grown hgrow hB (by intro k hk; cases hk)))
    unfold Row
    rw [hg, rowE_zero, ← made_zero, ← htake, List.take_of_length_le (by simp [hcs])]
theorem set5 (A R : List Value) (k : Nat) (hA : A.length = k * 5) (z0 z1 z2 z3 z4 x0 x1 x2 x3 x4 : Value) : (((((A ++ ([z0, z1, z2, z3, z4] ++ R)).set (k * 5) x0).set (k * 5 + 1) x1).set (k * 5 + 2) x2).set (k * 5 + 3) x3).set (k * 5 + 4) x4 = A ++ ([x0, x1, x2, x3, x4] ++ R) := by
  have e : ∀ (L : List Value) (j : Nat) (x : Value), (A ++ L).set (k * 5 + j) x = A ++ L.set j x := fun L j x => by
    rw [List.set_append, if_neg (by omega), hA, Nat.add_sub_cancel_left]
  have e0 : ∀ (L : List Value) (x : Value), (A ++ L).set (k * 5) x = A ++ L.set 0 x := fun L x => e L 0 x
  rw [e0, e, e, e, e]
  rfl
theorem rowE_set (es : List Ent) (k : Nat) (hk : k < es.length) (a l n m t : Int) (he : es[k] = ⟨a, l, n, m, t⟩) :
    (((((rowE (es.take k ++ List.replicate (es.length - k) zeroEnt)).set (k * 5) (.int .i64 a)).set (k * 5 + 1) (.int .i64 l)).set (k * 5 + 2) (.int .i64 n)).set (k * 5 + 3) (.int .i64 m)).set (k * 5 + 4) (.int .i64 t) = rowE (es.take (k + 1) ++ List.replicate (es.length - (k + 1)) zeroEnt) := by
  have e1 : es.length - k = (es.length - (k + 1)) + 1 := by omega
  rw [e1, List.replicate_succ, rowE_append, rowE_cons, List.take_succ_eq_append_getElem hk, List.append_assoc, rowE_append, List.singleton_append, rowE_cons, he]
  exact set5 _ _ k (by rw [rowE_length, List.length_take]; omega) _ _ _ _ _ _ _ _ _ _
theorem Row.some {w : World} {g : Nat} {t : TypeId} {l : List Value} (h : Row w g t l) (k : Nat) (hk : k < l.length) : ∃ v, w.cell? ⟨g, k, none⟩ = some v := ⟨l[k], by rw [h.cell, List.getElem?_eq_getElem hk]⟩
def five5 (w : World) (g o : Nat) (x0 x1 x2 x3 x4 : Value) : World := ((((w.setCell ⟨g, o, none⟩ x0).setCell ⟨g, o + 1, none⟩ x1).setCell ⟨g, o + 2, none⟩ x2).setCell ⟨g, o + 3, none⟩ x3).setCell ⟨g, o + 4, none⟩ x4
theorem five5_below {B : Nat} {w0 w : World} (h : Below B w0 w) (g o : Nat) (hg : B ≤ g) (x0 x1 x2 x3 x4 : Value) : Below B w0 (five5 w g o x0 x1 x2 x3 x4) :=
  ((((h.setCell (p := ⟨g, o, none⟩) hg x0).setCell (p := ⟨g, o + 1, none⟩) hg x1).setCell (p := ⟨g, o + 2, none⟩) hg x2).setCell (p := ⟨g, o + 3, none⟩) hg x3).setCell (p := ⟨g, o + 4, none⟩) hg x4
theorem five5_row {w : World} {g : Nat} {t : TypeId} {l : List Value} (h : Row w g t l) (o : Nat) (x0 x1 x2 x3 x4 : Value) : Row (five5 w g o x0 x1 x2 x3 x4) g t (((((l.set o x0).set (o + 1) x1).set (o + 2) x2).set (o + 3) x3).set (o + 4) x4) :=
  ((((h.set o x0).set (o + 1) x1).set (o + 2) x2).set (o + 3) x3).set (o + 4) x4
set_option maxRecDepth 100000 in
theorem szEntryS_any (x : Option Addr) (len cap : Nat) (w : World) (hl : len ≤ maxLen) : Calls Tryd.prog 22 #[.slice x len cap, .int .i64 1048576] w fun e w' => e = .returned (.int .i64 (if len ≤ 1048576 then 1048576 - (len : Int) else -1)) ∧ w = w' := by
  unfold maxLen at hl
  by_cases h : len ≤ 1048576
  · rw [if_pos h]
    have d : decide (1048576 - (len : Int) < 0) = false := by simp; omega
    go_enter Tryd.func22, Tryd.ntmps22
    go_wp2
    go_ret
    exact ⟨rfl, rfl⟩
  · rw [if_neg h]
    have d : decide (1048576 - (len : Int) < 0) = true := by simp; omega
    go_enter Tryd.func22, Tryd.ntmps22
    go_wp2
    go_ret
    exact ⟨rfl, rfl⟩
set_option maxRecDepth 100000 in
theorem szRip_any (c : Int) (x : Option Addr) (len cap : Nat) (w : World) (hl : len ≤ maxLen) : Calls Tryd.prog 10 #[ripV c x len cap, .int .i64 1048576] w fun e w' => e = .returned (.int .i64 (if len ≤ 1048576 then 1048576 - (len : Int) else -1)) ∧ Below w.heap.size w w' := by
  have HS : Hid (∀ w, Calls Tryd.prog 22 #[.slice x len cap, .int .i64 1048576] w fun e w' => e = .returned (.int .i64 (if len ≤ 1048576 then 1048576 - (len : Int) else -1)) ∧ w = w') := fun w => szEntryS_any x len cap w hl
  unfold maxLen at hl
  unfold ripV
  by_cases h : len ≤ 1048576
  · rw [if_pos h] at *
    have d : decide (1048576 - (len : Int) < 0) = false := by simp; omega
    go_enter Tryd.func10, Tryd.ntmps10
    go_wp2_with fail
    refine (HS.out _).mono ?_
    rintro e w1 ⟨rfl, rfl⟩
    go_wp2
    go_ret
    exact ⟨rfl, ent_new0 w _⟩
  · rw [if_neg h] at *
    go_enter Tryd.func10, Tryd.ntmps10
    go_wp2_with fail
    refine (HS.out _).mono ?_
    rintro e w1 ⟨rfl, rfl⟩
    go_wp2
    go_ret
    exact ⟨rfl, ent_new0 w _⟩
set_option maxRecDepth 100000 in
theorem toEntryS_any (x : Option Addr) (cap : Nat) (es : List Ent) (w : World) (h : ArgE w x es.length es) (hn : es.length ≤ 1048576) :
    Calls Tryd.prog 27 #[.slice x es.length cap] w fun e w' => ∃ g, e = .returned (.slice (some ⟨g, 0, none⟩) es.length es.length) ∧ w.heap.size ≤ g ∧ Row w' g 44 (rowE es) ∧ Below w.heap.size w w' := by
  have HE : Hid (∀ e w, Calls Tryd.prog 43 #[entV e] w fun r w' => r = .returned (entV e) ∧ Below w.heap.size w w') := toEntry_any
  have HX : Hid (ArgE w x es.length es) := h
  clear h
  go_enter Tryd.func27, Tryd.ntmps27
  go_wp2_with (at_make; refine wpList_make_ents rfl _ _ rfl _ es.length rfl rfl rfl (by omega) w.heap.size w (Below.refl _ _) (Nat.le_refl _) ?_)
  intro w0 hr0 hb0
  have hz : es.take 0 ++ List.replicate (es.length - 0) zeroEnt = List.replicate es.length zeroEnt := by simp
  rw [← hz] at hr0
  clear hz
  go_wp2_with fail
  go_loopw [4] (fun i wr => ∃ k : Nat, k ≤ es.length ∧ i = .int .i64 k ∧ Row wr w.heap.size 44 (rowE (es.take k ++ List.replicate (es.length - k) zeroEnt)) ∧ Below w.heap.size w wr) (fun i _ => es.length - (intOf i).toNat)
  case atStart => exact ⟨0, Nat.zero_le _, rfl, hr0, hb0⟩
  case round =>
    obtain ⟨k, hk, rfl, hr, hb⟩ := hrel
    by_cases hlt : k < es.length
    · obtain ⟨p, a, l, n, m, t, rfl, hek, c0, c1, c2, c3, c4⟩ := (HX.out.below hb).at k hlt
      have HEk : Hid (∀ w, Calls Tryd.prog 43 #[.agg #[.int .i64 a, .int .i64 l, .int .i64 n, .int .i64 m, .int .i64 t]] w fun r w' => r = .returned (.agg #[.int .i64 a, .int .i64 l, .int .i64 n, .int .i64 m, .int .i64 t]) ∧ Below w.heap.size w w') := HE.out ⟨a, l, n, m, t⟩
      have hset := rowE_set es k hlt a l n m t hek
      have HS : Hid _ := hset
      clear hset HE hek hr0 hb0
      go_wp2_with fail
      refine (HEk.out _).mono ?_
      rintro e w1 ⟨rfl, hb1⟩
      have hr1 := hr.below hb1 hr.lt
      have hB1 := hb.trans (hb1.mono hb.size)
      clear c0 c1 c2 c3 c4 hb1 HEk hr hb
      have hlr : (rowE (es.take k ++ List.replicate (es.length - k) zeroEnt)).length = es.length * 5 := by rw [rowE_length]; simp; omega
      obtain ⟨z0, hz0⟩ := Row.some hr1 (k * 5) (by omega)
      obtain ⟨z1, hz1⟩ := Row.some hr1 (k * 5 + 1) (by omega)
      obtain ⟨z2, hz2⟩ := Row.some hr1 (k * 5 + 2) (by omega)
      obtain ⟨z3, hz3⟩ := Row.some hr1 (k * 5 + 3) (by omega)
      obtain ⟨z4, hz4⟩ := Row.some hr1 (k * 5 + 4) (by omega)
      have f0 := hr1.frozen (k * 5)
      have f1 := hr1.frozen (k * 5 + 1)
      have f2 := hr1.frozen (k * 5 + 2)
      have f3 := hr1.frozen (k * 5 + 3)
      have f4 := hr1.frozen (k * 5 + 4)
      have hr2 := five5_row hr1 (k * 5) (.int .i64 a) (.int .i64 l) (.int .i64 n) (.int .i64 m) (.int .i64 t)
      rw [HS.out] at hr2
      have hB2 := five5_below hB1 w.heap.size (k * 5) (Nat.le_refl _) (.int .i64 a) (.int .i64 l) (.int .i64 n) (.int .i64 m) (.int .i64 t)
      unfold five5 at hr2 hB2
      have HH : Hid _ := And.intro hr2 hB2
      clear hr1 hB1 HS hlr hr2 hB2
      go_wp2_with fail
      go_roundw
      case rel => exact ⟨k + 1, hlt, by go_num, HH.out.1, HH.out.2⟩
      case measure => simp [intOf]; omega
    · obtain rfl : k = es.length := by omega
      rw [List.take_length, Nat.sub_self, List.replicate_zero, List.append_nil] at hr
      clear hlt hk
      go_wp2
      go_ret
      exact ⟨_, rfl, Nat.le_refl _, hr, hb⟩
theorem three2 (w : World) (a0 a1 b0 b1 c0 c1 : Value) (t u y : TypeId) : ∃ W, W = ((w.alloc (.cells #[a0, a1] t)).alloc (.cells #[b0, b1] u)).alloc (.cells #[c0, c1] y) ∧ Row W w.heap.size t [a0, a1] ∧ Row W (w.heap.size + 1) u [b0, b1] ∧ Row W (w.heap.size + 1 + 1) y [c0, c1] ∧ Below w.heap.size w W ∧ W.heap.size = w.heap.size + 1 + 1 + 1 := by
  have q0 := ((Row.new w t [a0, a1]).alloc (.cells #[b0, b1] u)).alloc (.cells #[c0, c1] y)
  have q1 := (Row.new (w.alloc (.cells #[a0, a1] t)) u [b0, b1]).alloc (.cells #[c0, c1] y)
  have q2 := Row.new ((w.alloc (.cells #[a0, a1] t)).alloc (.cells #[b0, b1] u)) y [c0, c1]
  have e1 : (w.alloc (.cells #[a0, a1] t)).heap.size = w.heap.size + 1 := by simp
  have e2 : ((w.alloc (.cells #[a0, a1] t)).alloc (.cells #[b0, b1] u)).heap.size = w.heap.size + 1 + 1 := by simp
  rw [e1] at q1
  rw [e2] at q2
  exact ⟨_, rfl, q0, q1, q2, ((ent_new0 w _).alloc (by simp) _).alloc (by simp; omega) _, by simp⟩
set_option maxRecDepth 100000 in
theorem toRip_any (c : Int) (x : Option Addr) (cap : Nat) (es : List Ent) (w : World) (h : ArgE w x es.length es) (hn : es.length ≤ 1048576) :
    Calls Tryd.prog 12 #[ripV c x es.length cap] w fun e w' => ∃ g, e = .returned (ripV c (some ⟨g, 0, none⟩) es.length es.length) ∧ w.heap.size ≤ g ∧ Row w' g 44 (rowE es) ∧ Below w.heap.size w w' := by
  have HE : Hid (∀ w, ArgE w x es.length es → Calls Tryd.prog 27 #[.slice x es.length cap] w fun e w' => ∃ g, e = .returned (.slice (some ⟨g, 0, none⟩) es.length es.length) ∧ w.heap.size ≤ g ∧ Row w' g 44 (rowE es) ∧ Below w.heap.size w w') := fun w h => toEntryS_any x cap es w h hn
  have HX : Hid (ArgE w x es.length es) := h
  clear h
  unfold ripV
  generalize es.length = N at *
  obtain ⟨W, hW, q0, q1, q2, hB, hS⟩ := three2 w (.int .i64 c) (.slice x N cap) (.int .i64 0) (.slice none 0 0) (.int .i64 c) (.slice none 0 0) 33 24 24
  have HW : Hid _ := hW
  clear hW
  go_enter Tryd.func12, Tryd.ntmps12
  go_wp2_with fail
  rw [← HW.out]
  refine (HE.out _ (HX.out.below hB)).mono ?_
  rintro e w1 ⟨g, rfl, hg, hr, hb1⟩
  have p1 := q1.below hb1 q1.lt
  have p2 := q2.below hb1 q2.lt
  have hB1 := hB.trans (hb1.mono (by omega))
  have hg2 : w.heap.size + 1 + 1 < g := by omega
  clear q0 q1 q2 hb1 HW HX HE hB
  have b0 : w1.cell? ⟨w.heap.size + 1, 0, none⟩ = some (.int .i64 0) := p1.cell 0
  have b1 : w1.cell? ⟨w.heap.size + 1, 1, none⟩ = some (.slice none 0 0) := p1.cell 1
  have d0 : w1.cell? ⟨w.heap.size + 1 + 1, 0, none⟩ = some (.int .i64 c) := p2.cell 0
  have d1 : w1.cell? ⟨w.heap.size + 1 + 1, 1, none⟩ = some (.slice none 0 0) := p2.cell 1
  have f0 := p1.frozen 0
  have f1 := p1.frozen 1
  have g1 := p2.frozen 1
  have hrow : Row (((w1.setCell ⟨w.heap.size + 1 + 1, 1, none⟩ (.slice (some ⟨g, 0, none⟩) N N)).setCell ⟨w.heap.size + 1, 0, none⟩ (.int .i64 c)).setCell ⟨w.heap.size + 1, 1, none⟩ (.slice (some ⟨g, 0, none⟩) N N)) g 44 (rowE es) := ((hr.other 1 _ (by omega)).other 0 _ (by omega)).other 1 _ (by omega)
  have hres : Row (((w1.setCell ⟨w.heap.size + 1 + 1, 1, none⟩ (.slice (some ⟨g, 0, none⟩) N N)).setCell ⟨w.heap.size + 1, 0, none⟩ (.int .i64 c)).setCell ⟨w.heap.size + 1, 1, none⟩ (.slice (some ⟨g, 0, none⟩) N N)) (w.heap.size + 1) 24 [.int .i64 c, .slice (some ⟨g, 0, none⟩) N N] := ((p1.other 1 _ (by omega)).set 0 _).set 1 _
  have hbel : Below w.heap.size w (((w1.setCell ⟨w.heap.size + 1 + 1, 1, none⟩ (.slice (some ⟨g, 0, none⟩) N N)).setCell ⟨w.heap.size + 1, 0, none⟩ (.int .i64 c)).setCell ⟨w.heap.size + 1, 1, none⟩ (.slice (some ⟨g, 0, none⟩) N N)) := ((hB1.setCell (p := ⟨w.heap.size + 1 + 1, 1, none⟩) (by show w.heap.size ≤ w.heap.size + 1 + 1; omega) _).setCell (p := ⟨w.heap.size + 1, 0, none⟩) (by show w.heap.size ≤ w.heap.size + 1; omega) _).setCell (p := ⟨w.heap.size + 1, 1, none⟩) (by show w.heap.size ≤ w.heap.size + 1; omega) _
  have HH : Hid _ := And.intro hrow (And.intro hres hbel)
  clear hrow hres hbel p1 p2 hr hB1
  go_wp2_with fail
  have HH2 := HH.out
  clear HH b0 b1 d0 d1 f0 f1 g1
  generalize (((w1.setCell ⟨w.heap.size + 1 + 1, 1, none⟩ (.slice (some ⟨g, 0, none⟩) N N)).setCell ⟨w.heap.size + 1, 0, none⟩ (.int .i64 c)).setCell ⟨w.heap.size + 1, 1, none⟩ (.slice (some ⟨g, 0, none⟩) N N)) = Z at *
  obtain ⟨h1, h2, h3⟩ := HH2
  have b0 : Z.cell? ⟨w.heap.size + 1, 0, none⟩ = some (.int .i64 c) := h2.cell 0
  have b1 : Z.cell? ⟨w.heap.size + 1, 1, none⟩ = some (.slice (some ⟨g, 0, none⟩) N N) := h2.cell 1
  refine bodyPost_ret (v := .agg #[.int .i64 c, .slice (some ⟨g, 0, none⟩) N N]) (by simp [results, Tryd.results12, go_sem, b0, b1]) rfl ⟨g, rfl, by omega, h1, h3⟩
end Go.Proofs.YtehiipddbgoajaaDoor
/- The laws' own look: entries, lists of them and Rips are as themselves. -/
namespace Go.Proofs.YtehiipddbgoajaaDoor
open Go.RowKit Go.Sort

/-- Two boxes of five cells, one behind the other: what they hold behind a later call. -/
theorem boxes5 {w w1 : World} {x0 x1 x2 x3 x4 y0 y1 y2 y3 y4 : Value} {t u : TypeId} (h : Below ((w.alloc (.cells #[x0, x1, x2, x3, x4] t)).alloc (.cells #[y0, y1, y2, y3, y4] u)).heap.size ((w.alloc (.cells #[x0, x1, x2, x3, x4] t)).alloc (.cells #[y0, y1, y2, y3, y4] u)) w1) :
    (∀ k v, [x0, x1, x2, x3, x4][k]? = some v → w1.cell? ⟨w.heap.size, k, none⟩ = some v) ∧ (∀ k v, [y0, y1, y2, y3, y4][k]? = some v → w1.cell? ⟨w.heap.size + 1, k, none⟩ = some v) ∧ Below w.heap.size w w1 := by
  have q0 := (Row.new w t [x0, x1, x2, x3, x4]).alloc (.cells #[y0, y1, y2, y3, y4] u)
  have q1 := Row.new (w.alloc (.cells #[x0, x1, x2, x3, x4] t)) u [y0, y1, y2, y3, y4]
  have p0 := q0.below h q0.lt
  have p1 := q1.below h q1.lt
  have e1 : (w.alloc (.cells #[x0, x1, x2, x3, x4] t)).heap.size = w.heap.size + 1 := by simp
  rw [e1] at p1
  exact ⟨fun k v hv => (p0.cell k).trans hv, fun k v hv => (p1.cell k).trans hv, ((ent_new0 w _).alloc (by simp) _).trans (h.mono (by simp; omega))⟩
set_option maxRecDepth 100000 in
theorem eqEntry_same (e : Ent) (w : World) : Calls Tryd.prog 48 #[entV e, entV e] w fun r w' => r = .returned (.bool true) ∧ Below w.heap.size w w' := by
  obtain ⟨a, l, n, m, t⟩ := e
  unfold entV
  have HN : Hid (∀ w, Calls Tryd.prog 67 #[.agg #[.int .i64 a, .int .i64 l], .agg #[.int .i64 a, .int .i64 l]] w fun e w' => e = .returned (.bool true) ∧ Below w.heap.size w w') := eqNet_same a l
  have h1 : (n != n) = false := by simp
  have h2 : (m != m) = false := by simp
  have h3 : (t != t) = false := by simp
  go_enter Tryd.func48, Tryd.ntmps48
  go_wp2_with fail
  refine (HN.out _).mono ?_
  rintro e w1 ⟨rfl, hb1⟩
  obtain ⟨k0, k1, hB⟩ := boxes5 hb1
  have c2 := k0 2 _ rfl
  have c3 := k0 3 _ rfl
  have c4 := k0 4 _ rfl
  have d2 := k1 2 _ rfl
  have d3 := k1 3 _ rfl
  have d4 := k1 4 _ rfl
  clear k0 k1 hb1 HN
  go_wp2
  go_ret
  exact ⟨rfl, hB⟩
set_option maxRecDepth 100000 in
theorem eqEntryS_any (p q : Option Addr) (c d : Nat) (es : List Ent) (w : World) (hp : EntsIn w p es) (hq : EntsIn w q es) (hn : es.length ≤ 100000000) : Calls Tryd.prog 32 #[.slice p es.length c, .slice q es.length d] w fun r w' => r = .returned (.bool true) ∧ Below w.heap.size w w' := by
  have HE : Hid (∀ e w, Calls Tryd.prog 48 #[entV e, entV e] w fun r w' => r = .returned (.bool true) ∧ Below w.heap.size w w') := eqEntry_same
  have HX : Hid (EntsIn w p es ∧ EntsIn w q es) := ⟨hp, hq⟩
  have h0 : ((es.length : Int) != (es.length : Int)) = false := by simp
  clear hp hq
  go_enter Tryd.func32, Tryd.ntmps32
  go_wp2_with fail
  go_loopw [5] (fun i wr => ∃ k : Nat, k ≤ es.length ∧ i = .int .i64 k ∧ Below w.heap.size w wr) (fun i _ => es.length - (intOf i).toNat)
  case atStart => exact ⟨0, Nat.zero_le _, rfl, Below.refl _ _⟩
  case round =>
    obtain ⟨k, hk, rfl, hb⟩ := hrel
    by_cases hlt : k < es.length
    · obtain ⟨g, a, l, n, m, t, rfl, hg, hek, c0, c1, c2, c3, c4⟩ := (HX.out.1.below hb).at k hlt
      obtain ⟨g', a', l', n', m', t', rfl, hg', hek', d0, d1, d2, d3, d4⟩ := (HX.out.2.below hb).at k hlt
      rw [hek] at hek'
      simp only [Ent.mk.injEq] at hek'
      obtain ⟨rfl, rfl, rfl, rfl, rfl⟩ := hek'
      have HEk : Hid (∀ w, Calls Tryd.prog 48 #[.agg #[.int .i64 a, .int .i64 l, .int .i64 n, .int .i64 m, .int .i64 t], .agg #[.int .i64 a, .int .i64 l, .int .i64 n, .int .i64 m, .int .i64 t]] w fun r w' => r = .returned (.bool true) ∧ Below w.heap.size w w') := HE.out ⟨a, l, n, m, t⟩
      clear HE hek HX
      replace c0 := cell_regrown c0
      replace c1 := cell_regrown c1
      replace c2 := cell_regrown c2
      replace c3 := cell_regrown c3
      replace c4 := cell_regrown c4
      replace d0 := cell_regrown d0
      replace d1 := cell_regrown d1
      replace d2 := cell_regrown d2
      replace d3 := cell_regrown d3
      replace d4 := cell_regrown d4
      go_wp2_with fail
      refine wp_region_quiet_below (by kernel_rfl) (by kernel_rfl) ?_
      repeat (go_big_quiet_step ((go_at_call 48; exact Calls.regrown_of (HEk.out _))))
      refine wpQuiet_nil ?_
      intro w1 hw'
      obtain ⟨⟨dq, osq⟩, hw''⟩ := hw'
      have hbq := below_regrown wr dq osq
      rw [← hw''] at hbq
      clear hw'' osq dq c0 c1 c2 c3 c4 d0 d1 d2 d3 d4 HEk
      have hb2 := hb.trans (hbq.mono hb.size)
      clear hbq
      go_wp2
      go_roundw
      case rel => exact ⟨k + 1, hlt, by go_num, hb2⟩
      case measure => simp [intOf]; omega
    · obtain rfl : k = es.length := by omega
      clear hlt hk
      go_wp2
      go_ret
      exact ⟨rfl, hb⟩
set_option maxRecDepth 100000 in
theorem eqRip_any (x : Int) (p q : Option Addr) (c d : Nat) (es : List Ent) (w : World) (hp : EntsIn w p es) (hq : EntsIn w q es) (hn : es.length ≤ 100000000) : Calls Tryd.prog 14 #[ripV x p es.length c, ripV x q es.length d] w fun r w' => r = .returned (.bool true) ∧ Below w.heap.size w w' := by
  have HE : Hid (∀ w, EntsIn w p es → EntsIn w q es → Calls Tryd.prog 32 #[.slice p es.length c, .slice q es.length d] w fun r w' => r = .returned (.bool true) ∧ Below w.heap.size w w') := fun w h1 h2 => eqEntryS_any p q c d es w h1 h2 hn
  have HX : Hid (EntsIn w p es ∧ EntsIn w q es) := ⟨hp, hq⟩
  have h0 : (x != x) = false := by simp
  unfold ripV
  clear hp hq
  go_enter Tryd.func14, Tryd.ntmps14
  go_wp2_with fail
  refine (HE.out _ ((HX.out.1.alloc _).alloc _) ((HX.out.2.alloc _).alloc _)).mono ?_
  rintro e w1 ⟨rfl, hb1⟩
  have hB : Below w.heap.size w w1 := ((ent_new0 w _).alloc (by simp) _).trans (hb1.mono (by simp; omega))
  clear hb1 HE HX
  go_wp2
  go_ret
  exact ⟨rfl, hB⟩
end Go.Proofs.YtehiipddbgoajaaDoor
/- A law of our own on regions that draw their order: where each operation, whatever has come up before it, leaves in its slot a value that meets the slot's condition, and a world with some blocks laid behind, and the conditions bear that, any order ends in a frame that meets them all. -/
namespace Go.Proofs.YtehiipddbgoajaaDoor
open Go Go.RowKit

section
variable {P : Program}

/-- The slots of the operations that o waits for. -/
def depSlots (l : List Oper) (o : Oper) : List Nat := (o.after.toList.filter (Region.binds .any)).filterMap fun e => (l[e.on]?).bind (·.dst)
def steadyChk (l : List Oper) (n : Nat) : Bool :=
  ((List.range l.length).all fun j => match l[j]? with | none => true | some o => (o.after.all fun e => decide (e.on < j)) && o.guard.isNone && (match o.dst with | none => true | some d => decide (d < n))) &&
  (List.range l.length).all fun i => (List.range l.length).all fun j => decide (i = j) || ((l[i]?).bind (·.dst)).isNone || decide ((l[i]?).bind (·.dst) ≠ (l[j]?).bind (·.dst))
/-- The frame a' is as a, but for what the operations write. -/
def Agrees (l : List Oper) (a a' : Act) : Prop := a'.tmps.size = a.tmps.size ∧ a'.defers = a.defers ∧ ∀ d, (∀ o ∈ l, o.dst ≠ some d) → a'.tmps.getD d undef = a.tmps.getD d undef

theorem steadyChk_at {l : List Oper} {n j : Nat} {o : Oper} (h : steadyChk l n = true) (ho : l[j]? = some o) : (∀ e ∈ o.after, e.on < j) ∧ o.guard = none ∧ ∀ d, o.dst = some d → d < n := by
  have hlt : j < l.length := (List.getElem?_eq_some_iff.1 ho).1
  simp only [steadyChk, Bool.and_eq_true] at h
  have h1 := (List.all_eq_true.1 h.1) j (List.mem_range.2 hlt)
  simp only [ho, Bool.and_eq_true] at h1
  refine ⟨fun e he => of_decide_eq_true ((Array.all_eq_true_iff_forall_mem.1 h1.1.1) e he), by simpa using h1.1.2, fun d hd => ?_⟩
  have := h1.2
  simpa [hd] using this
theorem steadyChk_ne {l : List Oper} {n i j d : Nat} {oi oj : Oper} (h : steadyChk l n = true) (hi : l[i]? = some oi) (hj : l[j]? = some oj) (hne : i ≠ j) (hd : oi.dst = some d) : oj.dst ≠ some d := by
  have hlt : i < l.length := (List.getElem?_eq_some_iff.1 hi).1
  have hlt2 : j < l.length := (List.getElem?_eq_some_iff.1 hj).1
  simp only [steadyChk, Bool.and_eq_true] at h
  have h1 := (List.all_eq_true.1 ((List.all_eq_true.1 h.2) i (List.mem_range.2 hlt))) j (List.mem_range.2 hlt2)
  simp only [hi, hj, Option.bind_some, Bool.or_eq_true, decide_eq_true_eq] at h1
  rcases h1 with (h1 | h1) | h1
  · exact absurd h1 hne
  · rw [hd] at h1; simp at h1
  · rw [hd] at h1; exact fun e => h1 e.symm
theorem put_getD (a : Act) (d : Nat) (v : Value) (h : d < a.tmps.size) : (a.put (some d) v).tmps.getD d undef = v := by
  simp [Act.put, Array.getD_eq_getD_getElem?, h]
theorem put_getD_ne (a : Act) (dst : Option Tmp) (d : Nat) (v : Value) (h : dst ≠ some d) : (a.put dst v).tmps.getD d undef = a.tmps.getD d undef := by
  cases dst with
  | none => rfl
  | some x =>
    have hx : x ≠ d := fun e => h (by rw [e])
    simp [Act.put, Array.getD_eq_getD_getElem?, hx]
theorem put_size (a : Act) (dst : Option Tmp) (v : Value) : (a.put dst v).tmps.size = a.tmps.size := by cases dst <;> simp [Act.put]
theorem put_defers (a : Act) (dst : Option Tmp) (v : Value) : (a.put dst v).defers = a.defers := by cases dst <;> rfl

theorem act_eq (a : Act) (n : Nat) (h : a.tmps.size = n) : a = ⟨((List.range n).map fun k => a.tmps.getD k undef).toArray, a.defers⟩ := by
  subst h
  cases a with
  | mk T D =>
    simp only [Act.mk.injEq, and_true]
    apply Array.ext
    · simp
    · intro i h1 h2
      simp [Array.getD_eq_getD_getElem?, h1]
theorem wpAny_steady {l : List Oper} {Q : Exit → Act → World → Prop} {a : Act} {w : World} (m : Nat) (hml : m ≤ l.length) (G : Nat → Value → World → Prop) (hB : tailB .any l.toArray 0 m = true) (hchk : steadyChk (l.take m) a.tmps.size = true)
    (hstab : ∀ d v w1 w2, G d v w1 → Below w1.heap.size w1 w2 → G d v w2)
    (hstep : ∀ o ∈ l.take m, ∀ a' w', Below w.heap.size w w' → Agrees (l.take m) a a' → (∀ d ∈ depSlots (l.take m) o, G d (a'.tmps.getD d undef) w') → o.wp P a' w' (fun a'' w'' => ∃ v, a'' = a'.put o.dst v ∧ Below w'.heap.size w' w'' ∧ ∀ d, o.dst = some d → G d v w'') Q)
    (hfin : ∀ a' w', Below w.heap.size w w' → Agrees (l.take m) a a' → (∀ o ∈ l.take m, ∀ d, o.dst = some d → G d (a'.tmps.getD d undef) w') → wpList P l.toArray Q (l.drop m) a' w') :
    ∀ (fuel : Nat) (U : List Nat) (listed : Array Bool) (a' : Act) (w' : World), U.length = fuel → U.Nodup → listed.size = l.length → (∀ j, j < m → (listed.getD j true = false ↔ j ∈ U)) → (∀ j ∈ U, j < m) → (∀ j, m ≤ j → j < l.length → listed.getD j true = false) → ClosedL .any l.toArray listed →
      Below w.heap.size w w' → Agrees (l.take m) a a' → (∀ j o d, (l.take m)[j]? = some o → listed.getD j true = true → o.dst = some d → G d (a'.tmps.getD d undef) w') → wpAny P .any l.toArray Q (fuel + (l.length - m)) listed a' w' := by
  intro fuel
  induction fuel with
  | zero =>
    intro U listed a' w' hU _ hs hm _ ho hc hb hag hG
    have hU0 : U = [] := List.length_eq_zero_iff.1 hU
    subst hU0
    have hT : ∀ j, j < m → listed.getD j true = true := fun j hj => by
      cases h : listed.getD j true with
      | true => rfl
      | false => exact absurd ((hm j hj).1 h) (by simp)
    rw [Nat.zero_add]
    refine wpAny_tail (c := 0) (m := m) (Nat.zero_le _) hB (l.length - m) m listed a' w' (by omega) (Nat.le_refl _) hs hT ho hc ?_
    refine hfin a' w' hb hag fun o ho d hd => ?_
    obtain ⟨j, hj, rfl⟩ := List.getElem_of_mem ho
    exact hG j _ d (List.getElem?_eq_getElem hj) (hT j (by simp at hj; omega)) hd
  | succ fuel ih =>
    intro U listed a' w' hU hnd hs hm hUm ho hc hb hag hG
    rw [show fuel + 1 + (l.length - m) = (fuel + (l.length - m)) + 1 by omega]
    obtain ⟨k, hk⟩ : ∃ k, k ∈ U := by
      cases U with
      | nil => simp at hU
      | cons x _ => exact ⟨x, by simp⟩
    have hkm := hUm k hk
    have hkl := (hm k hkm).2 hk
    refine ⟨fun h0 => ?_, fun i hi => ?_⟩
    · have := ready_nil_all (md := .any) (ops := l.toArray) (by simpa using hs) (fun j o ho e he => tailB_lex hB ho e he) h0 (k + 1) k (by omega) (by simp; omega)
      rw [hkl] at this
      cases this
    · obtain ⟨hu, o, hoi, hdep⟩ := mem_ready.1 hi
      have hil : i < l.length := by simpa using (Array.getElem?_eq_some_iff.1 hoi).1
      have him : i < m := by
        rcases Nat.lt_or_ge i m with h | h
        · exact h
        · have := ready_all hB hc h hi (i - k) k (Nat.zero_le _) (by omega) (Nat.le_refl _)
          rw [hkl] at this
          cases this
      have hoL : (l.take m)[i]? = some o := by rw [List.getElem?_take, if_pos him]; simpa using hoi
      have hmem : o ∈ l.take m := List.mem_of_getElem? hoL
      obtain ⟨_, hgd, hdn⟩ := steadyChk_at hchk hoL
      have hiU : i ∈ U := (hm i him).1 hu
      unfold wpOp
      simp only [hoi]
      rw [if_pos (by simp [Region.wanted, hgd])]
      left
      have hs1 := hstep o hmem a' w' hb hag ?_
      · refine Oper.wp_mono ?_ hs1
        rintro a'' w'' ⟨v, rfl, hb2, hGv⟩
        have hset : ∀ j, (listed.setIfInBounds i true).getD j true = if j = i then true else listed.getD j true := by
          intro j
          by_cases hji : j = i
          · subst hji
            by_cases hjs : j < listed.size
            · simp [Array.getD_eq_getD_getElem?, hjs]
            · simp [Array.getD_eq_getD_getElem?, hjs]
          · rw [if_neg hji]
            simp [Array.getD_eq_getD_getElem?, Ne.symm hji]
        refine ih (U.erase i) _ _ _ (by rw [List.length_erase_of_mem hiU]; omega) (hnd.erase i) (by simpa using hs) ?_ (fun j hj => hUm j (List.mem_of_mem_erase hj)) ?_ (hc.set hi) (hb.trans (hb2.mono hb.size)) ?_ ?_
        · intro j hj
          rw [hset j, hnd.mem_erase_iff]
          by_cases hji : j = i
          · simp [hji]
          · rw [if_neg hji, hm j hj]; simp [hji]
        · intro j hj hjl
          rw [hset j, if_neg (by omega)]
          exact ho j hj hjl
        · refine ⟨by rw [put_size]; exact hag.1, by rw [put_defers]; exact hag.2.1, fun d hd => ?_⟩
          rw [put_getD_ne _ _ _ _ (hd o hmem)]
          exact hag.2.2 d hd
        · intro j oj d hj hlj hdj
          rw [hset j] at hlj
          by_cases hji : j = i
          · subst hji
            rw [hoL] at hj
            cases hj
            rw [hdj, put_getD _ _ _ (by rw [hag.1]; exact hdn d hdj)]
            exact hGv d hdj
          · rw [if_neg hji] at hlj
            rw [put_getD_ne _ _ _ _ (steadyChk_ne hchk hj hoL hji hdj)]
            exact hstab d _ _ _ (hG j oj d hj hlj hdj) hb2
      · intro d hd
        simp only [depSlots, List.mem_filterMap, List.mem_filter] at hd
        obtain ⟨e, ⟨he, hbn⟩, hed⟩ := hd
        have hlst := hdep e (by simpa using he) hbn
        cases hoe : (l.take m)[e.on]? with
        | none => simp [hoe] at hed
        | some oe =>
          simp only [hoe, Option.bind_some] at hed
          exact hG e.on oe d hoe (getD_true_of_false hlst) hed
theorem wp_region_steady {id : Nat} {Q : Exit → Act → World → Prop} {a : Act} {w : World} {l : List Oper} (m : Nat) (G : Nat → Value → World → Prop) (hm : P.follows .mixedOrders = true) (hchk : (decide (m ≤ l.length) && tailB .any l.toArray 0 m && steadyChk (l.take m) a.tmps.size) = true)
    (hstab : ∀ d v w1 w2, G d v w1 → Below w1.heap.size w1 w2 → G d v w2)
    (hstep : ∀ o ∈ l.take m, ∀ a' w', Below w.heap.size w w' → Agrees (l.take m) a a' → (∀ d ∈ depSlots (l.take m) o, G d (a'.tmps.getD d undef) w') → o.wp P a' w' (fun a'' w'' => ∃ v, a'' = a'.put o.dst v ∧ Below w'.heap.size w' w'' ∧ ∀ d, o.dst = some d → G d v w'') Q)
    (hfin : ∀ a' w', Below w.heap.size w w' → Agrees (l.take m) a a' → (∀ o ∈ l.take m, ∀ d, o.dst = some d → G d (a'.tmps.getD d undef) w') → wpList P l.toArray Q (l.drop m) a' w') :
    (Code.region id l.toArray true).wp P Q a w := by
  refine wp_region_any hm ?_
  simp only [Bool.and_eq_true, decide_eq_true_eq] at hchk
  obtain ⟨⟨hml, hB⟩, hck⟩ := hchk
  have h := wpAny_steady (P := P) (w := w) m hml G hB hck hstab hstep hfin m (List.range m) (Array.replicate l.length false) a { w with drawn := w.drawn + 1 } (by simp) List.nodup_range (by simp) ?_ (by simp) ?_ ?_ ((Below.refl w.heap.size w).drew) ⟨rfl, rfl, fun _ _ => rfl⟩ ?_
  · rw [show m + (l.length - m) = l.length by omega] at h
    simpa using h
  · intro j hj
    have hjl : j < l.length := by omega
    simp [Array.getD_eq_getD_getElem?, hjl, hj]
  · intro j _ hjl
    simp [Array.getD_eq_getD_getElem?, hjl]
  · intro k o ho hk
    have hlt : k < l.length := by simpa using (Array.getElem?_eq_some_iff.1 ho).1
    simp [Array.getD_eq_getD_getElem?, hlt] at hk
  · intro j o d hj hl _
    have hlt : j < l.length := by have := (List.getElem?_eq_some_iff.1 hj).1; simp at this; omega
    simp [Array.getD_eq_getD_getElem?, hlt] at hl
end
/-- Conditions, a slot each. -/
def SlotG (gs : List (Nat × (Value → World → Prop))) (d : Nat) (x : Value) (w : World) : Prop := ∀ p, (d, p) ∈ gs → p x w
def Stabs : List (Nat × (Value → World → Prop)) → Prop
  | [] => True
  | p :: l => (∀ x w1 w2, p.2 x w1 → Below w1.heap.size w1 w2 → p.2 x w2) ∧ Stabs l
def Is (v : Value) : Value → World → Prop := fun x _ => x = v
theorem stab_is (v : Value) : ∀ x w1 w2, Is v x w1 → Below w1.heap.size w1 w2 → Is v x w2 := fun _ _ _ h _ => h
theorem SlotG.get {gs : List (Nat × (Value → World → Prop))} {d : Nat} {x : Value} {w : World} (h : SlotG gs d x w) (k : Nat) {p : Value → World → Prop} (hk : gs[k]? = some (d, p)) : p x w := h p (List.mem_of_getElem? hk)
theorem SlotG.is {gs : List (Nat × (Value → World → Prop))} {d : Nat} {x : Value} {w : World} (h : SlotG gs d x w) (k : Nat) {v : Value} (hk : gs[k]? = some (d, Is v)) : x = v := h (Is v) (List.mem_of_getElem? hk)
theorem key_one {α : Type} : ∀ {gs : List (Nat × α)}, (gs.map (·.1)).Nodup → ∀ {d : Nat} {p q : α}, (d, p) ∈ gs → (d, q) ∈ gs → p = q
  | [], _, _, _, _, h, _ => by cases h
  | (k, r) :: gs, hn, d, p, q, h1, h2 => by
    simp only [List.map_cons, List.nodup_cons] at hn
    have hin : ∀ x, (d, x) ∈ gs → d ∈ gs.map (·.1) := fun x hx => List.mem_map.2 ⟨(d, x), hx, rfl⟩
    rcases List.mem_cons.1 h1 with e1 | h1
    · rcases List.mem_cons.1 h2 with e2 | h2
      · rw [← e2] at e1; exact (Prod.mk.inj e1).2
      · have := hin q h2
        rw [(Prod.mk.inj e1).1] at this
        exact absurd this hn.1
    · rcases List.mem_cons.1 h2 with e2 | h2
      · have := hin p h1
        rw [(Prod.mk.inj e2).1] at this
        exact absurd this hn.1
      · exact key_one hn.2 h1 h2
theorem SlotG.mk {gs : List (Nat × (Value → World → Prop))} {d : Nat} {x : Value} {w : World} (k : Nat) {p : Value → World → Prop} (hk : gs[k]? = some (d, p)) (hn : (gs.map (·.1)).Nodup) (h : p x w) : SlotG gs d x w := by
  intro q hq
  rw [key_one hn hq (List.mem_of_getElem? hk)]
  exact h
theorem Stabs.all : ∀ {gs : List (Nat × (Value → World → Prop))}, Stabs gs → ∀ d v w1 w2, SlotG gs d v w1 → Below w1.heap.size w1 w2 → SlotG gs d v w2
  | [], _, _, _, _, _, _, _ => fun p hp => by cases hp
  | (k, q) :: gs, ⟨h1, h2⟩, d, v, w1, w2, h, hb => fun p hp => by
    rcases List.mem_cons.1 hp with e | hp
    · have hq : p = q := by simpa using (Prod.mk.inj e).2
      have hp1 := h p (by rw [e]; simp)
      rw [hq] at hp1 ⊢
      exact h1 v w1 w2 hp1 hb
    · exact Stabs.all h2 d v w1 w2 (fun p hp => h p (List.mem_cons_of_mem _ hp)) hb p hp
theorem Agrees.at {l : List Oper} {a a' : Act} (h : Agrees l a a') (d : Nat) (hd : (l.all fun o => decide (o.dst ≠ some d)) = true) : a'.tmps.getD d undef = a.tmps.getD d undef :=
  h.2.2 d fun o ho => of_decide_eq_true ((List.all_eq_true.1 hd) o ho)
end Go.Proofs.YtehiipddbgoajaaDoor
/- Conditions that bear blocks laid behind; what text an owned row gives. -/
namespace Go.Proofs.YtehiipddbgoajaaDoor
open Go.RowKit

theorem stab_rowB (n : Nat) (l : List UInt8) : ∀ (x : Value) (w1 w2 : World), (∃ g, x = .slice (some ⟨g, 0, none⟩) n n ∧ RowB w1 g 5 l) → Below w1.heap.size w1 w2 → ∃ g, x = .slice (some ⟨g, 0, none⟩) n n ∧ RowB w2 g 5 l := by
  rintro x w1 w2 ⟨g, hx, hr⟩ hb
  exact ⟨g, hx, by unfold RowB at *; rw [hb.block g (Array.getElem?_eq_some_iff.1 hr).1]; exact hr⟩
theorem stab_row (n : Nat) (l : List Value) : ∀ (x : Value) (w1 w2 : World), (∃ g, x = .slice (some ⟨g, 0, none⟩) n n ∧ Row w1 g 2 l) → Below w1.heap.size w1 w2 → ∃ g, x = .slice (some ⟨g, 0, none⟩) n n ∧ Row w2 g 2 l := by
  rintro x w1 w2 ⟨g, hx, hr⟩ hb
  exact ⟨g, hx, hr.below hb hr.lt⟩
theorem stab_own (base : Nat) (l : List Value) : ∀ (x : Value) (w1 w2 : World), Own w1 base 5 x l → Below w1.heap.size w1 w2 → Own w2 base 5 x l := fun _ _ _ h hb => h.below hb
theorem stab_ptr (B : Nat) {t : TypeId} (l : List Value) : ∀ (x : Value) (w1 w2 : World), (∃ g, x = .pointer (some ⟨g, 0, none⟩) ∧ B < g ∧ Row w1 g t l) → Below w1.heap.size w1 w2 → ∃ g, x = .pointer (some ⟨g, 0, none⟩) ∧ B < g ∧ Row w2 g t l := by
  rintro x w1 w2 ⟨g, hx, hg, hr⟩ hb
  exact ⟨g, hx, hg, hr.below hb hr.lt⟩
theorem own_conv {w : World} {base : Nat} {v : Value} {l : List UInt8} {t : ByteArray} (h : Own w base 5 v (cellsB l)) (hl : l ≠ []) (ht : (⟨l.toArray⟩ : ByteArray) = t) :
    (convert 61 9 v).run Tryd.prog w = .ok (.string t) w := by
  have h' : OwnB w base 5 v l := by unfold OwnB; unfold Own at h; rwa [cellsB_length] at h
  rw [← ht]
  exact (h'.text hl 61 9 Tryd.underlying61 Tryd.underlying5 Tryd.underlying9).2
end Go.Proofs.YtehiipddbgoajaaDoor
/- What the laws on Rips have in common. -/
namespace Go.Proofs.YtehiipddbgoajaaDoor
open Go.RowKit Go.Sort

theorem entsIn_row {w : World} {g : Nat} {t : TypeId} {es : List Ent} (h : Row w g t (rowE es)) : EntsIn w (some ⟨g, 0, none⟩) es := .inr ⟨g, rfl, h.lt, fun j _ hj => (h.cell j).trans hj⟩
theorem two_after {w1 w2 : World} {b : Nat} {x y : Value} (h : w1.cell? ⟨b, 0, none⟩ = some x ∧ w1.cell? ⟨b, 1, none⟩ = some y) (hb : Below w1.heap.size w1 w2) : w2.cell? ⟨b, 0, none⟩ = some x ∧ w2.cell? ⟨b, 1, none⟩ = some y := two_later h.1 h.2 hb
theorem stab_ripRow {c : Int} {N : Nat} {t : TypeId} (l : List Value) : ∀ (x : Value) (w1 w2 : World), (∃ g, x = .agg #[.int .i64 c, .slice (some ⟨g, 0, none⟩) N N] ∧ Row w1 g t l) → Below w1.heap.size w1 w2 → ∃ g, x = .agg #[.int .i64 c, .slice (some ⟨g, 0, none⟩) N N] ∧ Row w2 g t l := by
  rintro x w1 w2 ⟨g, e, h⟩ hb
  exact ⟨g, e, h.below hb h.lt⟩
end Go.Proofs.YtehiipddbgoajaaDoor
/- Words, their sums, datagrams and frames, in plain lists of bytes. -/
namespace Go.Proofs.YtehiipddbgoajaaDoor

def wordL (n : Int) : List UInt8 := [UInt8.ofNat (n / 256 % 256).toNat, UInt8.ofNat (n % 256).toNat]
def wordsL (ns : List Int) : List UInt8 := ns.flatMap wordL
theorem wordsL_nil : wordsL [] = [] := rfl
theorem wordsL_cons (n : Int) (ns : List Int) : wordsL (n :: ns) = wordL n ++ wordsL ns := rfl
theorem wordsL_append (a b : List Int) : wordsL (a ++ b) = wordsL a ++ wordsL b := by simp [wordsL]
theorem wordL_length (n : Int) : (wordL n).length = 2 := rfl
theorem wordsL_length (ns : List Int) : (wordsL ns).length = 2 * ns.length := by
  induction ns with
  | nil => rfl
  | cons a l ih => rw [wordsL_cons, List.length_append, ih, wordL_length, List.length_cons]; omega
theorem wordL_low (n : Int) : wordL (n % 65536) = wordL n := by
  unfold wordL
  rw [show n % 65536 / 256 % 256 = n / 256 % 256 by omega, show n % 65536 % 256 = n % 256 by omega]
/-- The sum of words, byte by byte; 'true': at a higher byte. -/
def ra : Bool → List UInt8 → Nat
  | _, [] => 0
  | true, a :: l => 256 * a.toNat + ra false l
  | false, a :: l => a.toNat + ra true l
theorem ra_nil (b : Bool) : ra b [] = 0 := by cases b <;> rfl
theorem ra_le (b : Bool) (l : List UInt8) : ra b l ≤ 65280 * l.length := by
  induction l generalizing b with
  | nil => rw [ra_nil]; omega
  | cons a l ih =>
    have ha : a.toNat < 256 := a.toNat_lt
    cases b
    · have := ih true; simp only [ra, List.length_cons]; omega
    · have := ih false; simp only [ra, List.length_cons]; omega
theorem ra_at (l : List UInt8) (i : Nat) (h : i < l.length) (b : Bool) : ra b (l.drop i) = (if b then 256 * l[i].toNat else l[i].toNat) + ra (!b) (l.drop (i + 1)) := by
  rw [List.drop_eq_getElem_cons h]
  cases b <;> simp [ra]
theorem ra_at2 (l : List UInt8) (i : Nat) (h : i + 1 < l.length) : ra true (l.drop i) = 256 * l[i].toNat + l[i + 1].toNat + ra true (l.drop (i + 2)) := by
  rw [List.drop_eq_getElem_cons (i := i) (by omega), List.drop_eq_getElem_cons h, show i + 2 = i + 1 + 1 from rfl]
  simp only [ra]
  omega
theorem ra_at1 (l : List UInt8) (i : Nat) (h : i < l.length) (h2 : ¬ i + 1 < l.length) : ra true (l.drop i) = 256 * l[i].toNat := by
  rw [List.drop_eq_getElem_cons h, List.drop_eq_nil_of_le (by omega)]
  simp [ra]
/-- What is above 65535 added to what is below, again and again. -/
def foldN (n : Nat) : Nat := if n = 0 then 0 else (n - 1) % 65535 + 1
theorem foldN_small (n : Nat) (h : n ≤ 65535) : foldN n = n := by unfold foldN; split <;> omega
theorem foldN_le (n : Nat) : foldN n ≤ 65535 := by unfold foldN; split <;> omega
theorem foldN_step (n : Nat) (h : 65535 < n) : foldN (n / 65536 + n % 65536) = foldN n := by
  unfold foldN; rw [if_neg (by omega), if_neg (by omega)]; omega
def sumN (l : List UInt8) : Nat := 65535 - foldN (ra true l)
theorem sumN_le (l : List UInt8) : sumN l ≤ 65535 := by unfold sumN; omega
/-- The number in some bytes, the highest first. -/
def numL (l : List UInt8) : Nat := l.foldl (fun n b => 256 * n + b.toNat) 0
theorem numL_take (l : List UInt8) (i : Nat) (h : i < l.length) : numL (l.take (i + 1)) = 256 * numL (l.take i) + l[i].toNat := by
  unfold numL
  rw [List.take_succ_eq_append_getElem h, List.foldl_append]; rfl
theorem numL_lt (l : List UInt8) : numL l < 256 ^ l.length := by
  unfold numL
  have : ∀ (l : List UInt8) (n k : Nat), n < 256 ^ k → l.foldl (fun n b => 256 * n + b.toNat) n < 256 ^ (k + l.length) := by
    intro l
    induction l with
    | nil => intro n k h; simpa using h
    | cons a l ih =>
      intro n k h
      have ha : a.toNat < 256 := a.toNat_lt
      have := ih (256 * n + a.toNat) (k + 1) (by rw [Nat.pow_succ]; omega)
      rw [List.foldl_cons, List.length_cons, show k + (l.length + 1) = k + 1 + l.length by omega]
      exact this
  have := this l 0 0 (by simp)
  simpa using this

/-- A datagram's head with a sum, and what stands behind it. -/
def headL (s d ttl : Int) (n : Nat) (sum : Int) : List UInt8 := wordsL [17664, 28 + (n : Int), 0, 0, ttl * 256 + 17, sum, s / 65536, s, d / 65536, d]
def bodyL (sp dp : Int) (t : List UInt8) (sum : Int) : List UInt8 := wordsL [sp, dp, 8 + (t.length : Int), sum] ++ t
def aheadL (s d : Int) (n : Nat) : List UInt8 := wordsL [s / 65536, s, d / 65536, d, 17, 8 + (n : Int)]
theorem headL_length (s d ttl : Int) (n : Nat) (sum : Int) : (headL s d ttl n sum).length = 20 := by rw [headL, wordsL_length]; rfl
theorem bodyL_length (sp dp : Int) (t : List UInt8) (sum : Int) : (bodyL sp dp t sum).length = 8 + t.length := by rw [bodyL, List.length_append, wordsL_length]; rfl
def bsumN (s d sp dp : Int) (t : List UInt8) : Nat := if sumN (aheadL s d t.length ++ bodyL sp dp t 0) = 0 then 65535 else sumN (aheadL s d t.length ++ bodyL sp dp t 0)
theorem bsumN_le (s d sp dp : Int) (t : List UInt8) : bsumN s d sp dp t ≤ 65535 := by
  unfold bsumN; split
  · omega
  · exact sumN_le _
def dgL (s d sp dp ttl : Int) (t : List UInt8) : List UInt8 := headL s d ttl t.length (sumN (headL s d ttl t.length 0)) ++ bodyL sp dp t (bsumN s d sp dp t)
theorem dgL_length (s d sp dp ttl : Int) (t : List UInt8) : (dgL s d sp dp ttl t).length = 28 + t.length := by
  rw [dgL, List.length_append, headL_length, bodyL_length]; omega
/-- A frame's bytes. -/
def frL (v : Int) (t : List UInt8) : List UInt8 := wordsL [0, 0, 0, 0, 0, 0, 33024, v, 2048] ++ t
theorem frL_length (v : Int) (t : List UInt8) : (frL v t).length = 18 + t.length := by rw [frL, List.length_append, wordsL_length]; rfl
/-- A datagram's text without its sums. -/
def bareL (l : List UInt8) : List UInt8 := l.take 10 ++ ((l.drop 12).take 14 ++ l.drop 28)
def bareZ (l : List UInt8) : List UInt8 := l.take 10 ++ ([0, 0] ++ ((l.drop 12).take 14 ++ ([0, 0] ++ l.drop 28)))
theorem bare_iff (a b : List UInt8) (ha : 28 ≤ a.length) (hb : 28 ≤ b.length) : bareZ a = bareZ b ↔ bareL a = bareL b := by
  have h1 : (a.take 10).length = (b.take 10).length := by simp; omega
  have h2 : ((a.drop 12).take 14).length = ((b.drop 12).take 14).length := by simp; omega
  unfold bareZ bareL
  constructor
  · intro h
    obtain ⟨e1, h⟩ := List.append_inj h h1
    obtain ⟨_, h⟩ := List.append_inj h rfl
    obtain ⟨e2, h⟩ := List.append_inj h h2
    obtain ⟨_, e3⟩ := List.append_inj h rfl
    rw [e1, e2, e3]
  · intro h
    obtain ⟨e1, h⟩ := List.append_inj h h1
    obtain ⟨e2, e3⟩ := List.append_inj h h2
    rw [e1, e2, e3]
end Go.Proofs.YtehiipddbgoajaaDoor
/- What routers say, in plain lists of bytes. -/
namespace Go.Proofs.YtehiipddbgoajaaDoor
open Go.RowKit Go.Sort

def entNs (e : Ent) : List Int := [2, e.t, e.a / 65536, e.a, maskV e.l / 65536, maskV e.l, e.n / 65536, e.n, 0, e.m]
def entBy (e : Ent) : List UInt8 := wordsL (entNs e)
theorem entBy_length (e : Ent) : (entBy e).length = 20 := by unfold entBy; rw [wordsL_length]; rfl
def entsBy (es : List Ent) : List UInt8 := es.flatMap entBy
theorem entsBy_cons (e : Ent) (es : List Ent) : entsBy (e :: es) = entBy e ++ entsBy es := rfl
theorem entsBy_append (a b : List Ent) : entsBy (a ++ b) = entsBy a ++ entsBy b := by simp [entsBy]
theorem entsBy_length (es : List Ent) : (entsBy es).length = 20 * es.length := by
  induction es with
  | nil => rfl
  | cons e es ih => rw [entsBy_cons, List.length_append, entBy_length, ih, List.length_cons]; omega
theorem entsBy_next (es : List Ent) (k : Nat) (h : k < es.length) : entsBy (es.take (k + 1)) = entsBy (es.take k) ++ entBy es[k] := by
  rw [List.take_succ_eq_append_getElem h, entsBy_append]; simp [entsBy]
def ripHd (c : Int) : List UInt8 := wordsL [c * 256 + 2, 0]
theorem ripHd_length (c : Int) : (ripHd c).length = 4 := rfl
def ripL (c : Int) (es : List Ent) : List UInt8 := ripHd c ++ entsBy es
theorem ripL_length (c : Int) (es : List Ent) : (ripL c es).length = 4 + 20 * es.length := by rw [ripL, List.length_append, ripHd_length, entsBy_length]
def ripT (c : Int) (es : List Ent) : ByteArray := ⟨(ripL c es).toArray⟩
def ripO (c : Int) (es : List Ent) : ByteArray := if ripB c es = true then ripT c es else ByteArray.empty
theorem ripT_size (c : Int) (es : List Ent) : (ripT c es).size = 4 + 20 * es.length := by
  show (ripL c es).toArray.size = _
  rw [List.size_toArray, ripL_length]
theorem ripB_spec {c : Int} {es : List Ent} (h : ripB c es = true) : (c = 1 ∨ c = 2) ∧ es.length ≤ 8 ∧ es.all entB = true := by
  simp only [ripB, Bool.and_eq_true, decide_eq_true_eq] at h
  exact ⟨h.1.1, h.1.2, h.2⟩
theorem all_at {es : List Ent} (h : es.all entB = true) (k : Nat) (hk : k < es.length) : entB es[k] = true := List.all_eq_true.1 h _ (List.getElem_mem hk)
theorem entB_spec {a l n m t : Int} (h : entB ⟨a, l, n, m, t⟩ = true) : (0 ≤ a ∧ a ≤ 4294967295) ∧ (0 ≤ l ∧ l ≤ 32) ∧ cutV a l = a ∧ (0 ≤ n ∧ n ≤ 4294967295) ∧ (1 ≤ m ∧ m ≤ 16) ∧ (0 ≤ t ∧ t ≤ 65535) := by
  simp only [entB, rightB, inAddr, inMet, inTag, Bool.and_eq_true, decide_eq_true_eq] at h
  obtain ⟨⟨⟨⟨h1, h2, h3, h4, h5⟩, h6⟩, h7⟩, h8⟩ := h
  exact ⟨⟨h1, h2⟩, ⟨h3, h4⟩, h5, h6, h7, h8⟩
end Go.Proofs.YtehiipddbgoajaaDoor
/- What is signed, in plain texts. -/
namespace Go.Proofs.YtehiipddbgoajaaDoor
open Go.RowKit Go.Sort

def inKey (k : ByteArray) : Bool := decide (1 ≤ k.size ∧ k.size ≤ 32)
def inSeq (n : Int) : Bool := decide (1 ≤ n ∧ n ≤ 1000000)
def inTime (n : Int) : Bool := decide (0 ≤ n ∧ n ≤ 1000000)
def markL (seq : Int) : List UInt8 := wordsL [65535, 3, seq / 65536, seq]
theorem markL_length (seq : Int) : (markL seq).length = 8 := rfl
def markT (seq : Int) : ByteArray := ⟨(markL seq).toArray⟩
theorem markT_size (seq : Int) : (markT seq).size = 8 := rfl
def aheadT (c : Int) (es : List Ent) (seq : Int) : ByteArray := ripT c es ++ markT seq
theorem aheadT_size (c : Int) (es : List Ent) (seq : Int) : (aheadT c es seq).size = 12 + 20 * es.length := by
  unfold aheadT; rw [ByteArray.size_append, ripT_size, markT_size]; omega
def aheadO (c : Int) (es : List Ent) (seq : Int) : ByteArray := if ripB c es = true ∧ inSeq seq = true then aheadT c es seq else ByteArray.empty
def shortT (k t : ByteArray) : ByteArray := (macT k t).extract 0 16
theorem shortT_size (k t : ByteArray) : (shortT k t).size = 16 := by
  unfold shortT; rw [ByteArray.size_extract, macT_size]; rfl
def signT (c : Int) (es : List Ent) (k : ByteArray) (seq : Int) : ByteArray := aheadT c es seq ++ shortT k (aheadT c es seq)
theorem signT_size (c : Int) (es : List Ent) (k : ByteArray) (seq : Int) : (signT c es k seq).size = 28 + 20 * es.length := by
  unfold signT; rw [ByteArray.size_append, aheadT_size, shortT_size]; omega
def signO (c : Int) (es : List Ent) (k : ByteArray) (seq : Int) : ByteArray := if ripB c es = true ∧ inSeq seq = true ∧ inKey k = true then signT c es k seq else ByteArray.empty
theorem text_pos {a : ByteArray} (h : a.size ≠ 0) : a.toList.isEmpty = false := by
  rw [ByteArray.toList_eq, List.isEmpty_eq_false_iff]
  intro e
  exact h (by have := congrArg List.length e; simpa using this)
end Go.Proofs.YtehiipddbgoajaaDoor
