/- AddrText of the model. -/
import Derived.Test.YtchgnjpbjnkdmaaDoorDec
import Derived.Test.YtchgnjpbjnkdmaaDoorAddrTxt
import Derived.Test.YtchgnjpbjnkdmaaDoorLookA
namespace Go.Proofs.YtchgnjpbjnkdmaaDoor
open Go.RowKit
open Go.Lib (decDigits)

def addrT (a : Int) : ByteArray := if 0 ≤ a ∧ a ≤ 4294967295 then ⟨(addrL a.toNat).toArray⟩ else ByteArray.empty
theorem addrT_in (a : Nat) (h : a ≤ 4294967295) : addrT (a : Int) = ⟨(addrL a).toArray⟩ := by unfold addrT; rw [if_pos (by omega), Int.toNat_natCast]
theorem addrT_out (a : Int) (h : ¬ (0 ≤ a ∧ a ≤ 4294967295)) : addrT a = ByteArray.empty := if_neg h
theorem l01Dec_at (x : Int) (N : Nat) (w : World) (hx : x = (N : Int)) (hN : N ≤ 255) :
    Calls Tryd.prog 37 #[.int .i64 x] w fun e w' => e = .returned (.string ⟨(decDigits N).toArray⟩) ∧ Below w.heap.size w w' := by
  subst hx
  exact l01Dec_any N w (by omega)
theorem dot_append (l : List UInt8) : (⟨l.toArray⟩ : ByteArray) ++ ⟨#[46]⟩ = ⟨(l ++ [46]).toArray⟩ := text_append l [46]
set_option maxRecDepth 100000 in
theorem specAddrText_any (a : Int) (w : World) : Calls Tryd.prog 14 #[.int .i64 a] w fun e w' => e = .returned (.string (addrT a)) ∧ Below w.heap.size w w' := by
  have HI : Hid (∀ w, Calls Tryd.prog 36 #[.int .i64 a] w fun e w' => e = .returned (.bool (inAddr a)) ∧ w = w') := l03Addr_any a
  by_cases h : 0 ≤ a ∧ a ≤ 4294967295
  · obtain ⟨A, rfl⟩ := Int.eq_ofNat_of_zero_le h.1
    have hA : A ≤ 4294967295 := by omega
    have hi : inAddr (A : Int) = true := by simp [inAddr]; omega
    rw [hi] at HI
    have HT : Hid (addrT (A : Int) = (⟨(decDigits (A / 16777216)).toArray⟩ : ByteArray) ++ ⟨#[46]⟩ ++ ⟨(decDigits (A / 65536 % 256)).toArray⟩ ++ ⟨#[46]⟩ ++ ⟨(decDigits (A / 256 % 256)).toArray⟩ ++ ⟨#[46]⟩ ++ ⟨(decDigits (A % 256)).toArray⟩) := by
      show _ = _
      rw [addrT_in A hA, dot_append, text_append, dot_append, text_append, dot_append, text_append]
      unfold addrL; simp
    have H1 : Hid (∀ w, Calls Tryd.prog 37 #[.int .i64 ((A : Int) / 16777216)] w fun e w' => e = .returned (.string ⟨(decDigits (A / 16777216)).toArray⟩) ∧ Below w.heap.size w w') := fun w => l01Dec_at _ _ w (by omega) (by omega)
    have H2 : Hid (∀ w, Calls Tryd.prog 37 #[.int .i64 ((A : Int) / 65536 % 256)] w fun e w' => e = .returned (.string ⟨(decDigits (A / 65536 % 256)).toArray⟩) ∧ Below w.heap.size w w') := fun w => l01Dec_at _ _ w (by omega) (by omega)
    have H3 : Hid (∀ w, Calls Tryd.prog 37 #[.int .i64 ((A : Int) / 256 % 256)] w fun e w' => e = .returned (.string ⟨(decDigits (A / 256 % 256)).toArray⟩) ∧ Below w.heap.size w w') := fun w => l01Dec_at _ _ w (by omega) (by omega)
    have H4 : Hid (∀ w, Calls Tryd.prog 37 #[.int .i64 ((A : Int) % 256)] w fun e w' => e = .returned (.string ⟨(decDigits (A % 256)).toArray⟩) ∧ Below w.heap.size w w') := fun w => l01Dec_at _ _ w (by omega) (by omega)
    have z0 : (⟨(decDigits (A / 16777216)).toArray⟩ : ByteArray).size ≤ 3 := by rw [text_size]; exact (dec3_len _ (by omega)).2
    have z1 : (⟨(decDigits (A / 65536 % 256)).toArray⟩ : ByteArray).size ≤ 3 := by rw [text_size]; exact (dec3_len _ (by omega)).2
    have z2 : (⟨(decDigits (A / 256 % 256)).toArray⟩ : ByteArray).size ≤ 3 := by rw [text_size]; exact (dec3_len _ (by omega)).2
    have z3 : (⟨(decDigits (A % 256)).toArray⟩ : ByteArray).size ≤ 3 := by rw [text_size]; exact (dec3_len _ (by omega)).2
    generalize (⟨(decDigits (A / 16777216)).toArray⟩ : ByteArray) = p0 at *
    generalize (⟨(decDigits (A / 65536 % 256)).toArray⟩ : ByteArray) = p1 at *
    generalize (⟨(decDigits (A / 256 % 256)).toArray⟩ : ByteArray) = p2 at *
    generalize (⟨(decDigits (A % 256)).toArray⟩ : ByteArray) = p3 at *
    generalize addrT (A : Int) = T at *
    clear hi h
    go_enter Tryd.func14, Tryd.ntmps14
    go_wp2_with fail
    refine (HI.out _).mono ?_
    rintro e w1 ⟨rfl, rfl⟩
    go_wp2_with fail
    refine (H1.out _).mono ?_
    rintro e w1 ⟨rfl, hb1⟩
    go_wp2_with fail
    refine (H2.out _).mono ?_
    rintro e w2 ⟨rfl, hb2⟩
    have hB2 := hb1.trans (hb2.mono hb1.size)
    clear hb1 hb2
    go_wp2_with fail
    refine (H3.out _).mono ?_
    rintro e w3 ⟨rfl, hb3⟩
    have hB3 := hB2.trans (hb3.mono hB2.size)
    clear hB2 hb3
    go_wp2_with fail
    refine (H4.out _).mono ?_
    rintro e w4 ⟨rfl, hb4⟩
    have hB4 := hB3.trans (hb4.mono hB3.size)
    clear hB3 hb4
    go_wp2
    go_ret
    exact ⟨by rw [HT.out]; rfl, hB4⟩
  · rw [addrT_out a h]
    have hi : inAddr a = false := by simp [inAddr]; omega
    rw [hi] at HI
    clear hi h
    go_enter Tryd.func14, Tryd.ntmps14
    go_wp2_with fail
    refine (HI.out _).mono ?_
    rintro e w1 ⟨rfl, rfl⟩
    go_wp2
    go_ret
    exact ⟨rfl, Below.refl _ _⟩
end Go.Proofs.YtchgnjpbjnkdmaaDoor
