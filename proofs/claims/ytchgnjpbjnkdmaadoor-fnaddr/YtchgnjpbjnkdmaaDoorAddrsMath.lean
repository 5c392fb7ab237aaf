/- Addresses and nets come back from their texts, lengths from their masks. -/
import Derived.Test.YtchgnjpbjnkdmaaDoorNetText
import Derived.Test.YtchgnjpbjnkdmaaDoorReadA
import Derived.Test.YtchgnjpbjnkdmaaDoorReadN
import Derived.Test.YtchgnjpbjnkdmaaDoorLenOf
namespace Go.Proofs.YtchgnjpbjnkdmaaDoor
open Go.RowKit

theorem text_list (t : ByteArray) {l : List UInt8} (h : t.data.toList = l) : t = ⟨l.toArray⟩ := by
  apply ByteArray.ext; apply Array.toList_inj.1; rw [h]
theorem readA_text (a : Int) (h : 0 ≤ a ∧ a ≤ 4294967295) : readA (addrT a) = (a, 0) := by
  obtain ⟨A, rfl⟩ := Int.eq_ofNat_of_zero_le h.1
  have hs := addrT_size (A : Int)
  refine readA_some (by omega) ?_
  rw [addrT_in A (by omega)]
  exact (addrR_iff _ A).2 ⟨by omega, rfl⟩
theorem readA_back (p : ByteArray) (h : (readA p).2 = 0) : addrT (readA p).1 = p := by
  by_cases hz : 8000 < p.size
  · rw [readA_big hz] at h; simp at h
  · cases hr : addrR p.data.toList with
    | none => rw [readA_none hz hr] at h; simp at h
    | some a =>
      rw [readA_some hz hr]
      obtain ⟨ha, hl⟩ := (addrR_iff _ a).1 hr
      show addrT (a : Int) = p
      rw [addrT_in a (by omega), text_list p hl]
theorem readN_text (a l : Int) (h : rightB a l = true) : readN (netT a l) = ((a, l), 0) := by
  have hh := of_decide_eq_true h
  obtain ⟨A, rfl⟩ := Int.eq_ofNat_of_zero_le hh.1
  obtain ⟨N, rfl⟩ := Int.eq_ofNat_of_zero_le hh.2.2.1
  have e : netT (A : Int) (N : Int) = ⟨(netL A N).toArray⟩ := by unfold netT; rw [if_pos h]; rfl
  have hlen := netL_length A N (by omega) (by omega)
  rw [e]
  refine readN_some (by rw [show (⟨(netL A N).toArray⟩ : ByteArray).size = (netL A N).length by simp [ByteArray.size]]; omega) ?_
  exact (netR_iff _ A N).2 ⟨by omega, by omega, hh.2.2.2.2, rfl⟩
theorem readN_back (q : ByteArray) (h : (readN q).2 = 0) : netT (readN q).1.1 (readN q).1.2 = q := by
  by_cases hz : 8000 < q.size
  · rw [readN_big hz] at h; simp at h
  · cases hr : netR q.data.toList with
    | none => rw [readN_none hz hr] at h; simp at h
    | some an =>
      obtain ⟨a, n⟩ := an
      rw [readN_some hz hr]
      obtain ⟨ha, hn, hc, hl⟩ := (netR_iff _ a n).1 hr
      show netT (a : Int) (n : Int) = q
      have hb : rightB (a : Int) (n : Int) = true := decide_eq_true ⟨by omega, by omega, by omega, by omega, hc⟩
      unfold netT
      rw [if_pos hb, text_list q hl]
      rfl
theorem len_mask_nat : ∀ k : Nat, k < 33 → lenV (maskV (k : Int)) = (k : Int) := by decide
theorem len_mask (m : Int) (h0 : 0 ≤ m) (h1 : m ≤ 32) : lenV (maskV m) = m := by
  obtain ⟨k, rfl⟩ := Int.eq_ofNat_of_zero_le h0
  exact len_mask_nat k (by omega)
theorem addrT_some (a : Int) (h : 0 ≤ a ∧ a ≤ 4294967295) : (addrT a).toList.isEmpty = false := by
  obtain ⟨A, rfl⟩ := Int.eq_ofNat_of_zero_le h.1
  have hl := addrL_length A (by omega)
  rw [addrT_in A (by omega), ByteArray.toList_eq, List.isEmpty_eq_false_iff]
  intro e
  have := congrArg List.length e
  simp at this
  rw [this] at hl
  simp at hl
theorem netT_some (a l : Int) (h : rightB a l = true) : (netT a l).toList.isEmpty = false := by
  have e : netT a l = ⟨(netL a.toNat l.toNat).toArray⟩ := by unfold netT; rw [if_pos h]
  rw [e, ByteArray.toList_eq, List.isEmpty_eq_false_iff]
  intro e
  have := congrArg List.length e
  simp [netL] at this
end Go.Proofs.YtchgnjpbjnkdmaaDoor
