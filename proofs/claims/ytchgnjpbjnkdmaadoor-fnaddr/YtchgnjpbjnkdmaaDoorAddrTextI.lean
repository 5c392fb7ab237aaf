/- AddrText of the program. -/
import Derived.Test.YtchgnjpbjnkdmaaDoorLibCalls
import Derived.Test.YtchgnjpbjnkdmaaDoorAddrTextS
import Derived.Test.YtchgnjpbjnkdmaaDoorRowV
import Derived.Laws.ShiftsVarLaws
namespace Go.Proofs.YtchgnjpbjnkdmaaDoor
open Go.RowKit Go.Sort
open Go.Lib (decDigits)

/-- The byte of an address that a round tells. -/
def octN (A i : Nat) : Nat := A / 2 ^ (8 * i) % 256
def octB (A i : Nat) : ByteArray := ⟨(decDigits (octN A i)).toArray⟩
theorem octN_lt (A i : Nat) : octN A i ≤ 255 := by unfold octN; omega
/-- The array of parts behind i rounds: the last i are there. -/
def partsAt (A : Nat) : Nat → List Value
  | 0 => [.string ByteArray.empty, .string ByteArray.empty, .string ByteArray.empty, .string ByteArray.empty]
  | 1 => [.string ByteArray.empty, .string ByteArray.empty, .string ByteArray.empty, .string (octB A 0)]
  | 2 => [.string ByteArray.empty, .string ByteArray.empty, .string (octB A 1), .string (octB A 0)]
  | 3 => [.string ByteArray.empty, .string (octB A 2), .string (octB A 1), .string (octB A 0)]
  | _ => [.string (octB A 3), .string (octB A 2), .string (octB A 1), .string (octB A 0)]
theorem and255 (x : Nat) (h : x < 9223372036854775808) : bits .and .i64 (x : Int) 255 = ((x % 256 : Nat) : Int) := by
  have := i64_and_nat x 255 h (by omega)
  rw [show ((255 : Nat) : Int) = 255 from rfl] at this
  rw [this, show (255 : Nat) = 2 ^ 8 - 1 from rfl, Nat.and_two_pow_sub_one_eq_mod]
theorem oct_at (A i : Nat) (hA : A ≤ 4294967295) : bits .and .i64 ((A : Int) / 2 ^ (8 * i)) 255 = (octN A i : Int) := by
  have e : ((A : Int) / 2 ^ (8 * i)) = ((A / 2 ^ (8 * i) : Nat) : Int) := by simp
  have h : A / 2 ^ (8 * i) ≤ A := Nat.div_le_self _ _
  rw [e, and255 _ (by omega)]
  rfl
theorem fmt_oct (A i : Nat) (w : World) (hT : Pow10 w) : Calls Tryd.prog 30 #[.int .i64 (octN A i : Int), .int .i64 10] w fun e w' => e = .returned (.string (octB A i)) ∧ Below w.heap.size w w' := by
  have h := octN_lt A i
  have := fmtInt_any (octN A i : Int) w (by omega) (by omega) hT
  have e : Lib.itoa (octN A i : Int) = decDigits (octN A i) := by unfold Lib.itoa; rw [if_neg (by omega), Int.toNat_natCast]
  rw [e] at this
  exact this
theorem fmt_at (A i : Nat) (x : Int) (w : World) (hA : A ≤ 4294967295) (hx : x = (A : Int) / 2 ^ (8 * i)) (hT : Pow10 w) : Calls Tryd.prog 30 #[.int .i64 (bits .and .i64 x 255), .int .i64 10] w fun e w' => e = .returned (.string (octB A i)) ∧ Below w.heap.size w w' := by
  rw [hx, oct_at A i hA]
  exact fmt_oct A i w hT
theorem octB_size (A i : Nat) : (octB A i).size ≤ 3 := by unfold octB; rw [text_size]; exact (dec3_len _ (octN_lt A i)).2
theorem octs_join (A : Nat) (hA : A ≤ 4294967295) : Lib.join ([octB A 3, octB A 2, octB A 1, octB A 0].map (·.data.toList)) (⟨#[46]⟩ : ByteArray).data.toList = addrL A := by
  unfold addrL octB octN
  rw [show A / 2 ^ (8 * 3) % 256 = A / 16777216 by omega, show A / 2 ^ (8 * 2) % 256 = A / 65536 % 256 by omega, show A / 2 ^ (8 * 1) % 256 = A / 256 % 256 by omega, show A / 2 ^ (8 * 0) % 256 = A % 256 by omega]
  simp [Lib.join]
theorem join_octs (A g : Nat) (w : World) (hA : A ≤ 4294967295) (hr : Row w g 44 (partsAt A 4)) : Calls Tryd.prog 31 #[.slice (some ⟨g, 0, none⟩) 4 4, .string ⟨#[46]⟩] w fun e w' => e = .returned (.string (addrT (A : Int))) ∧ Below w.heap.size w w' := by
  have hl := addrL_length A (by omega)
  have h := join_any g 0 4 [octB A 3, octB A 2, octB A 1, octB A 0] ⟨#[46]⟩ w ?_ hr.lt (by simp) (by simp) (by rw [octs_join A hA]; omega)
  · rw [octs_join A hA, ← addrT_in A hA] at h
    exact h
  · intro j x hj
    rw [Nat.zero_add, hr.cell]
    have : j < 4 := by have := (List.getElem?_eq_some_iff.1 hj).1; simpa using this
    obtain rfl | rfl | rfl | rfl : j = 0 ∨ j = 1 ∨ j = 2 ∨ j = 3 := by omega
    all_goals
      simp at hj
      subst hj
      rfl
set_option maxRecDepth 100000 in
theorem implAddrText_any (a : Int) (w : World) (hT : Pow10 w) : Calls Tryd.prog 8 #[.int .i64 a] w fun e w' => e = .returned (.string (addrT a)) ∧ Below w.heap.size w w' := by
  have HI : Hid (∀ w, Calls Tryd.prog 29 #[.int .i64 a] w fun e w' => e = .returned (.bool (inAddr a)) ∧ w = w') := isAddr_any a
  by_cases h : 0 ≤ a ∧ a ≤ 4294967295
  · obtain ⟨A, rfl⟩ := Int.eq_ofNat_of_zero_le h.1
    have hA : A ≤ 4294967295 := by omega
    have hi : inAddr (A : Int) = true := by simp [inAddr]; omega
    rw [hi] at HI
    have HF0 : Hid (∀ w, Pow10 w → Calls Tryd.prog 30 #[.int .i64 (bits .and .i64 (A : Int) 255), .int .i64 10] w fun e w' => e = .returned (.string (octB A 0)) ∧ Below w.heap.size w w') := fun w hT => fmt_at A 0 (A : Int) w hA (by simp) hT
    have HF1 : Hid (∀ w, Pow10 w → Calls Tryd.prog 30 #[.int .i64 (bits .and .i64 ((A : Int) / 256) 255), .int .i64 10] w fun e w' => e = .returned (.string (octB A 1)) ∧ Below w.heap.size w w') := fun w hT => fmt_at A 1 ((A : Int) / 256) w hA rfl hT
    have HF2 : Hid (∀ w, Pow10 w → Calls Tryd.prog 30 #[.int .i64 (bits .and .i64 ((A : Int) / 65536) 255), .int .i64 10] w fun e w' => e = .returned (.string (octB A 2)) ∧ Below w.heap.size w w') := fun w hT => fmt_at A 2 ((A : Int) / 65536) w hA rfl hT
    have HF3 : Hid (∀ w, Pow10 w → Calls Tryd.prog 30 #[.int .i64 (bits .and .i64 ((A : Int) / 16777216) 255), .int .i64 10] w fun e w' => e = .returned (.string (octB A 3)) ∧ Below w.heap.size w w') := fun w hT => fmt_at A 3 ((A : Int) / 16777216) w hA rfl hT
    have HTT : Hid (Pow10 w) := hT
    clear hi h hT
    go_enter Tryd.func8, Tryd.ntmps8
    go_wp2_with fail
    refine (HI.out _).mono ?_
    rintro e w1 ⟨rfl, rfl⟩
    go_wp2_with fail
    go_loopw [8] (fun i wr => ∃ k : Nat, k ≤ 4 ∧ i = .int .i64 (k : Int) ∧ Row wr w.heap.size 44 (partsAt A k) ∧ Below w.heap.size w wr) (fun i _ => 4 - (intOf i).toNat)
    case atStart => exact ⟨0, by omega, rfl, Row.new w 44 (partsAt A 0), (Below.refl _ _).alloc (Nat.le_refl _) _⟩
    case round =>
      obtain ⟨k, hk, rfl, hr, hb⟩ := hrel
      obtain rfl | rfl | rfl | rfl | rfl : k = 0 ∨ k = 1 ∨ k = 2 ∨ k = 3 ∨ k = 4 := by omega
      · rw [show ((0 : Nat) : Int) = 0 from rfl]
        go_wp2_with fail
        refine (HF0.out _ (HTT.out.below hb)).mono ?_
        rintro e w2 ⟨rfl, hb2⟩
        have r2 := hr.below hb2 hr.lt
        have hB2 := hb.trans (hb2.mono hb.size)
        have c2 := r2.cell 3
        have f2 := r2.frozen 3
        simp [partsAt] at c2
        clear hr hb hb2
        go_wp2
        go_roundw
        case rel => exact ⟨1, by omega, by go_num, r2.set 3 _, hB2.setCell (Nat.le_refl _) _⟩
        case measure => simp [intOf]
      · rw [show ((1 : Nat) : Int) = 1 from rfl]
        go_wp2_with fail
        refine (HF1.out _ (HTT.out.below hb)).mono ?_
        rintro e w2 ⟨rfl, hb2⟩
        have r2 := hr.below hb2 hr.lt
        have hB2 := hb.trans (hb2.mono hb.size)
        have c2 := r2.cell 2
        have f2 := r2.frozen 2
        simp [partsAt] at c2
        clear hr hb hb2
        go_wp2
        go_roundw
        case rel => exact ⟨2, by omega, by go_num, r2.set 2 _, hB2.setCell (Nat.le_refl _) _⟩
        case measure => simp [intOf]
      · rw [show ((2 : Nat) : Int) = 2 from rfl]
        go_wp2_with fail
        refine (HF2.out _ (HTT.out.below hb)).mono ?_
        rintro e w2 ⟨rfl, hb2⟩
        have r2 := hr.below hb2 hr.lt
        have hB2 := hb.trans (hb2.mono hb.size)
        have c2 := r2.cell 1
        have f2 := r2.frozen 1
        simp [partsAt] at c2
        clear hr hb hb2
        go_wp2
        go_roundw
        case rel => exact ⟨3, by omega, by go_num, r2.set 1 _, hB2.setCell (Nat.le_refl _) _⟩
        case measure => simp [intOf]
      · rw [show ((3 : Nat) : Int) = 3 from rfl]
        go_wp2_with fail
        refine (HF3.out _ (HTT.out.below hb)).mono ?_
        rintro e w2 ⟨rfl, hb2⟩
        have r2 := hr.below hb2 hr.lt
        have hB2 := hb.trans (hb2.mono hb.size)
        have c2 := r2.cell 0
        have f2 := r2.frozen 0
        simp [partsAt] at c2
        clear hr hb hb2
        go_wp2
        go_roundw
        case rel => exact ⟨4, by omega, by go_num, r2.set 0 _, hB2.setCell (Nat.le_refl _) _⟩
        case measure => simp [intOf]
      · rw [show ((4 : Nat) : Int) = 4 from rfl]
        go_wp2_with fail
        refine (join_octs A _ _ hA hr).mono ?_
        rintro e w2 ⟨rfl, hb2⟩
        have hB2 := hb.trans (hb2.mono hb.size)
        go_wp2
        go_ret
        exact ⟨rfl, hB2⟩
  · rw [addrT_out a h]
    have hi : inAddr a = false := by simp [inAddr]; omega
    rw [hi] at HI
    clear hi h hT
    go_enter Tryd.func8, Tryd.ntmps8
    go_wp2_with fail
    refine (HI.out _).mono ?_
    rintro e w1 ⟨rfl, rfl⟩
    go_wp2
    go_ret
    exact ⟨rfl, Below.refl _ _⟩
end Go.Proofs.YtchgnjpbjnkdmaaDoor
