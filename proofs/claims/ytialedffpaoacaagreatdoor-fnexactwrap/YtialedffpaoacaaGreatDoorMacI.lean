/- Mac of the program. -/
import Derived.Test.YtialedffpaoacaaGreatDoorMasked
namespace Go.Proofs.YtialedffpaoacaaGreatDoor
open Go.RowKit

def macV (k t : ByteArray) : ByteArray := if k.size ≤ 8000 ∧ t.size ≤ 8000 then macT k t else ByteArray.empty
theorem macV_in (k t : ByteArray) (h1 : k.size ≤ 8000) (h2 : t.size ≤ 8000) : macV k t = macT k t := if_pos ⟨h1, h2⟩
theorem macV_out (k t : ByteArray) (h : ¬ (k.size ≤ 8000 ∧ t.size ≤ 8000)) : macV k t = ByteArray.empty := if_neg h
def maskT (w : ByteArray) (m : UInt8) : ByteArray := ⟨(w.data.toList.map (· ^^^ m)).toArray⟩
theorem maskT_size (w : ByteArray) (m : UInt8) : (maskT w m).size = w.size := by
  show (w.data.toList.map (· ^^^ m)).toArray.size = w.size
  simp
theorem mac_eq (k t : ByteArray) : digestT (maskT (wholeT k) 92 ++ digestT (maskT (wholeT k) 54 ++ t)) = macT k t := by
  unfold macT macN
  apply ByteArray.ext
  simp [digestT, maskT, wholeT, padK]
set_option maxRecDepth 100000 in
set_option maxHeartbeats 1000000 in
theorem implMac_in (k t : ByteArray) (w : World) (h1 : k.size ≤ 8000) (h2 : t.size ≤ 8000) (hL : Laid w) :
    Calls Tryz.prog 183 #[.string k, .string t] w fun e w' => e = .returned (.string (macT k t)) ∧ Below w.heap.size w w' := by
  have HM : Hid _ := mac_eq k t
  have hw := wholeT_size k
  generalize macT k t = R at *
  go_enter Tryz.func183, Tryz.ntmps183
  go_wp2_with fail
  refine (implKey_any k _ h1 hL).mono ?_
  rintro e w1 ⟨rfl, hb1⟩
  generalize wholeT k = W at *
  go_wp2_with fail
  refine (implMasked_any W 54 _ rfl _ (by omega)).mono ?_
  rintro e w2 ⟨rfl, hb2⟩
  have hb2' := hb1.trans (hb2.mono hb1.size)
  have s54 := maskT_size W 54
  go_wp2_with fail
  refine (joined_any (maskT W 54) t _ (by omega) (by omega)).mono ?_
  rintro e w3 ⟨rfl, hb3⟩
  have hb3' := hb2'.trans (hb3.mono hb2'.size)
  have sj : (maskT W 54 ++ t).size = (maskT W 54).size + t.size := by simp
  generalize maskT W 54 ++ t = J at *
  go_wp2_with fail
  refine (implDigest_in J _ (by omega) (hL.below hb3')).mono ?_
  rintro e w4 ⟨rfl, hb4⟩
  have hb4' := hb3'.trans (hb4.mono hb3'.size)
  have sd := digestT_size J
  generalize digestT J = DJ at *
  go_wp2_with fail
  refine (implMasked_any W 92 _ rfl _ (by omega)).mono ?_
  rintro e w5 ⟨rfl, hb5⟩
  have hb5' := hb4'.trans (hb5.mono hb4'.size)
  have s92 := maskT_size W 92
  go_wp2_with fail
  refine (joined_any (maskT W 92) DJ _ (by omega) (by omega)).mono ?_
  rintro e w6 ⟨rfl, hb6⟩
  have hb6' := hb5'.trans (hb6.mono hb5'.size)
  have sk : (maskT W 92 ++ DJ).size = (maskT W 92).size + DJ.size := by simp
  generalize maskT W 92 ++ DJ = J2 at *
  go_wp2_with fail
  refine (implDigest_in J2 _ (by omega) (hL.below hb6')).mono ?_
  rintro e w7 ⟨rfl, hb7⟩
  rw [HM.out]
  go_wp2
  go_ret
  exact ⟨rfl, hb6'.trans (hb7.mono hb6'.size)⟩
set_option maxRecDepth 100000 in
theorem implMac_any (k t : ByteArray) (w : World) (h1 : k.size ≤ 1048576) (h2 : t.size ≤ 1048576) (hL : Laid w) :
    Calls Tryz.prog 183 #[.string k, .string t] w fun e w' => e = .returned (.string (macV k t)) ∧ Below w.heap.size w w' := by
  by_cases hk : k.size ≤ 8000
  · by_cases ht : t.size ≤ 8000
    · rw [macV_in k t hk ht]
      exact implMac_in k t w hk ht hL
    · rw [macV_out k t (by omega)]
      go_enter Tryz.func183, Tryz.ntmps183
      go_wp2
      all_goals (go_ret; exact ⟨rfl, Below.refl _ _⟩)
  · rw [macV_out k t (by omega)]
    go_enter Tryz.func183, Tryz.ntmps183
    go_wp2
    all_goals (go_ret; exact ⟨rfl, Below.refl _ _⟩)
end Go.Proofs.YtialedffpaoacaaGreatDoor
