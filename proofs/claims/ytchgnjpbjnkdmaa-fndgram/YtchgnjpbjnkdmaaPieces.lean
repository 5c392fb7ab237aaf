/- Bytes cut, read as a number, and summed, of the program. -/
import Derived.Test.YtchgnjpbjnkdmaaWireMath
import Derived.Test.YtchgnjpbjnkdmaaOwnV
import Derived.Test.YtchgnjpbjnkdmaaAddrMath
import Derived.Test.YtchgnjpbjnkdmaaBaseB
import Derived.Laws.ShiftsVarLaws
namespace Go.Proofs.Ytchgnjpbjnkdmaa
open Go.RowKit

/-- The bytes l lie in block g from offset o on. -/
def BytesIn (w : World) (g o : Nat) (l : List UInt8) : Prop := ∀ j, (h : j < l.length) → w.cell? ⟨g, o + j, none⟩ = some (.int .u8 (l[j].toNat : Int))
theorem BytesIn.below {B : Nat} {w w' : World} {g o : Nat} {l : List UInt8} (h : BytesIn w g o l) (hb : Below B w w') (hg : g < B) : BytesIn w' g o l := by
  intro j hj
  rw [hb.cell (p := ⟨g, o + j, none⟩) hg]
  exact h j hj
theorem BytesIn.of_cells {w : World} {g : Nat} {l : List UInt8} (h : ∀ j u, (cellsB l)[j]? = some u → w.cell? ⟨g, j, none⟩ = some u) : BytesIn w g 0 l := by
  intro j hj
  rw [Nat.zero_add]
  exact h j _ (by simp [cellsB, hj])
theorem BytesIn.piece {w : World} {g o : Nat} {l : List UInt8} (h : BytesIn w g o l) (a b : Nat) (hb : b ≤ l.length) (_ : a ≤ b) : BytesIn w g (if b = a then o else o + a) ((l.take b).drop a) := by
  intro j hj
  rw [List.length_drop, List.length_take] at hj
  rw [if_neg (by omega), List.getElem_drop, List.getElem_take, Nat.add_assoc]
  exact h (a + j) (by omega)
theorem Try.elemB : Try.prog.elem 22 = 5 := by kernel_rfl
theorem piece_run (g o n cap l h : Nat) (w : World) (hlh : l ≤ h) (hc : h ≤ cap) :
    (Instr.slice 22 (.slice (some ⟨g, o, none⟩) n cap) (some (.int .i64 (l : Int))) (some (.int .i64 (h : Int))) (some (.int .i64 (h : Int)))).run Try.prog w = .ok (.slice (some ⟨g, if h = l then o else o + l, none⟩) (h - l) (h - l)) w := by
  have hu : Try.prog.underlying 22 = some (.slice (Try.prog.elem 22)) := Try.underlying22
  have hr := run_slice_lhm (P := Try.prog) (w := w) (t := 22) (a := some ⟨g, o, none⟩) (len := n) (cap := cap) hu .i64 .i64 .i64 (l : Int) (h : Int) (h : Int) (by omega) (by omega) (by omega) (by omega)
  rw [hr]
  have hsize : (sizeOf (Try.prog.elem 22)).run Try.prog w = .ok 1 w := by kernel_rfl
  rw [hsize]
  simp only [Result.andThen, sliced, Int.toNat_natCast, Nat.mul_one]
  by_cases e : h = l
  · simp [e]
  · rw [if_neg e, if_neg e]
    simp only [Option.map_some]
    congr 4
    unfold Addr.add; split <;> simp_all
set_option maxRecDepth 100000 in
theorem piece_any (g o n cap l h : Nat) (w : World) (hlh : l ≤ h) (hc : h ≤ cap) :
    Calls Try.prog 70 #[.slice (some ⟨g, o, none⟩) n cap, .int .i64 (l : Int), .int .i64 (h : Int)] w fun e w' => e = .returned (.slice (some ⟨g, if h = l then o else o + l, none⟩) (h - l) (h - l)) ∧ w = w' := by
  have hr := piece_run g o n cap l h w hlh hc
  generalize (if h = l then o else o + l) = o' at *
  generalize h - l = d at *
  go_enter Try.func70, Try.ntmps70
  go_wp2
  go_ret
  exact ⟨rfl, rfl⟩
theorem or_low (a n : Nat) (ha : a < 1099511627776) (hn : n ≤ 255) : bits .or .i64 ((a : Int) * 256) (n : Int) = ((256 * a + n : Nat) : Int) := by
  have h := i64_or_nat (a * 256) n (by omega) (by omega)
  rw [show ((a : Int) * 256) = ((a * 256 : Nat) : Int) by omega, h]
  have := Nat.two_pow_add_eq_or_of_lt (i := 8) (b := n) (by omega) a
  rw [Nat.mul_comm a 256]
  exact congrArg _ this.symm
theorem and_word (x : Nat) (h : x < 9223372036854775808) : bits .and .i64 (x : Int) 65535 = ((x % 65536 : Nat) : Int) := by
  have := i64_and_nat x 65535 h (by omega)
  rw [show ((65535 : Nat) : Int) = 65535 from rfl] at this
  rw [this, show (65535 : Nat) = 2 ^ 16 - 1 from rfl, Nat.and_two_pow_sub_one_eq_mod]
set_option maxRecDepth 100000 in
theorem numberOf_any (l : List UInt8) (g o cap : Nat) (w : World) (hl : l.length ≤ 4) (hB : BytesIn w g o l) :
    Calls Try.prog 69 #[.slice (some ⟨g, o, none⟩) l.length cap] w fun e w' => e = .returned (.int .i64 (numL l : Int)) ∧ w = w' := by
  have HP : Hid (∀ k, k ≤ 4 → numL (l.take k) < 4294967296) := by
    intro k hk
    have h1 := numL_lt (l.take k)
    have h2 : 256 ^ (l.take k).length ≤ 256 ^ 4 := Nat.pow_le_pow_right (by decide) (by rw [List.length_take]; omega)
    omega
  have H0 : Hid (numL (l.take 0) = 0) := rfl
  have HS : Hid (∀ k, (h : k < l.length) → numL (l.take (k + 1)) = 256 * numL (l.take k) + l[k].toNat) := numL_take l
  have HE : Hid (numL (l.take l.length) = numL l) := by rw [Hid, List.take_length]
  generalize numL l = R at *
  generalize hf : (fun k => numL (l.take k)) = f
  have e : ∀ k, numL (l.take k) = f k := fun k => by rw [← hf]
  simp only [e] at HP H0 HS HE
  clear e hf
  go_enter Try.func69, Try.ntmps69
  go_wp2_with fail
  go_loop [3, 8] (fun v i => ∃ k : Nat, k ≤ l.length ∧ i = .int .i64 (k : Int) ∧ v = .int .i64 (f k : Int)) (fun _ i => l.length - (intOf i).toNat)
  case atStart => exact ⟨0, by omega, rfl, by rw [H0.out]; rfl⟩
  case round =>
    obtain ⟨k, hk, rfl, rfl⟩ := hrel
    by_cases hlt : k < l.length
    · have hc1 := hB k hlt
      have hb := l[k].toNat_lt
      have hf1 := HP.out k (by omega)
      have HN := HS.out k hlt
      have HO : Hid _ := or_low (f k) l[k].toNat (by omega) (by omega)
      have hw1 := wrap_i64_in ((f k : Int) * 256) (by omega) (by omega)
      have hN : Hid (f (k + 1) = 256 * f k + l[k].toNat) := HN
      clear HN
      generalize l[k].toNat = c at *
      generalize hfk : f k = n at *
      clear hfk
      go_wp2
      go_round
      case rel => exact ⟨k + 1, by omega, by go_num, by rw [hN.out, ← HO.out]⟩
      case measure => simp [intOf]; omega
    · obtain rfl : k = l.length := by omega
      rw [HE.out]
      go_wp2
      go_ret
      exact ⟨rfl, rfl⟩
end Go.Proofs.Ytchgnjpbjnkdmaa
