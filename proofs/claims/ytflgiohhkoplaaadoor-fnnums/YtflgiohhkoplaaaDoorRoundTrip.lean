/- The round trips of numbers and texts, as the law on them asks for them. -/
import Derived.Test.YtflgiohhkoplaaaDoorRoundMath
namespace Go.Proofs.YtflgiohhkoplaaaDoor
open Go.RowKit

def putNumT (n : Int) : ByteArray := ⟨(putNumB n).toArray⟩
theorem putNumT_list (n : Int) : (putNumT n).data.toList = putNumB n := rfl
theorem putNumT_size (n : Int) : (putNumT n).size = (putNumB n).length := by simp [putNumT, ByteArray.size]

theorem getNumR_put (t : ByteArray) (a : Nat) (n : Int) (rest : List UInt8) (hz : t.size ≤ 8000) (h0 : -9223372036854775808 ≤ n) (h1 : n ≤ 9223372036854775807) (hd : t.data.toList.drop a = putNumB n ++ rest) :
    getNumR t (a : Int) = (n, ((a + (putNumB n).length : Nat) : Int), 0) := by
  unfold getNumR
  rw [if_neg (by omega), if_neg (by omega), Int.toNat_natCast]
  have h := getGo_put t a rest 9 0 (foldN n) 0 rfl (foldN_lt n h0 h1) (.inl rfl) hd
  rw [h]
  simp [unfold_fold, putNumB]
theorem getNumR_between (n : Int) (h0 : -9223372036854775808 ≤ n) (h1 : n ≤ 9223372036854775807) :
    getNumR ((⟨#[120, 121]⟩ : ByteArray) ++ putNumT n ++ (⟨#[122]⟩ : ByteArray)) 2 = (n, ((putNumT n).size : Int) + 2, 0) := by
  have hs := putNumB_size n
  have hz : ((⟨#[120, 121]⟩ : ByteArray) ++ putNumT n ++ (⟨#[122]⟩ : ByteArray)).size ≤ 8000 := by
    have : (putNumT n).size ≤ 10 := hs.1
    have e1 : (⟨#[120, 121]⟩ : ByteArray).size = 2 := rfl
    have e2 : (⟨#[122]⟩ : ByteArray).size = 1 := rfl
    rw [ByteArray.size_append, ByteArray.size_append, e1, e2]
    omega
  have h := getNumR_put ((⟨#[120, 121]⟩ : ByteArray) ++ putNumT n ++ (⟨#[122]⟩ : ByteArray)) 2 n [122] hz h0 h1 (by simp [putNumT])
  rw [putNumT_size]
  have e : (((2 : Nat) : Int)) = 2 := rfl
  rw [e] at h
  rw [h]
  simp only [Prod.mk.injEq, true_and, and_true]
  omega
theorem dropLast_list (t : ByteArray) : (t.extract 0 (t.size - 1)).data.toList = t.data.toList.dropLast := by
  simp [List.dropLast_eq_take]
theorem getNumR_cut (n : Int) (h0 : -9223372036854775808 ≤ n) (h1 : n ≤ 9223372036854775807) : getNumR ((putNumT n).extract 0 ((putNumT n).size - 1)) 0 = (0, 0, 4) := by
  have hs := putNumB_size n
  have hz : ((putNumT n).extract 0 ((putNumT n).size - 1)).size ≤ 8000 := by
    have : (putNumT n).size ≤ 10 := hs.1
    simp; omega
  unfold getNumR
  rw [if_neg (by omega), if_neg (by omega)]
  exact getGo_short _ 9 0 (foldN n) 0 rfl (foldN_lt n h0 h1) (by rw [List.drop_zero, dropLast_list]; rfl) (Nat.zero_le _)

theorem putTextB_in (u : ByteArray) (h : u.size ≤ 8000) : putTextB u = putNumT u.size ++ u := by simp [putTextB, h, putNumT]
theorem putTextB_out (u : ByteArray) (h : ¬ u.size ≤ 8000) : putTextB u = ByteArray.empty := by simp [putTextB, h]
theorem getTextR_of {t : ByteArray} {a : Int} {n p : Int} (hN : getNumR t a = (n, p, 0)) (h0 : 0 ≤ n) (h8 : n ≤ 8000) (hle : p ≤ (t.size : Int) - n) : getTextR t a = (t.extract p.toNat (p + n).toNat, p + n, 0) := by
  unfold getTextR
  rw [hN]
  simp only [ne_eq, not_true_eq_false, if_false]
  rw [if_neg (by omega), if_neg (by omega)]
theorem getTextR_short {t : ByteArray} {a : Int} {n p : Int} (hN : getNumR t a = (n, p, 0)) (h0 : 0 ≤ n) (h8 : n ≤ 8000) (hlt : (t.size : Int) - n < p) : getTextR t a = (ByteArray.empty, 0, 4) := by
  unfold getTextR
  rw [hN]
  simp only [ne_eq, not_true_eq_false, if_false]
  rw [if_neg (by omega), if_pos hlt]
theorem getTextR_behind (u : ByteArray) (h : u.size ≤ 8000) (hp : (putTextB u).size + 1 ≤ 8000) : getTextR ((⟨#[120]⟩ : ByteArray) ++ putTextB u) 1 = (u, ((putTextB u).size : Int) + 1, 0) := by
  have hP := putTextB_in u h
  have hz : ((⟨#[120]⟩ : ByteArray) ++ putTextB u).size = (putTextB u).size + 1 := by simp [ByteArray.size_append]; rw [Nat.add_comm]; rfl
  have hpz : (putTextB u).size = (putNumB u.size).length + u.size := by rw [hP]; simp [putNumT_size]
  have hN := getNumR_put ((⟨#[120]⟩ : ByteArray) ++ putTextB u) 1 u.size u.data.toList (by omega) (by omega) (by omega) (by rw [hP]; simp [putNumT])
  have hT := getTextR_of (a := 1) hN (by omega) (by omega) (by rw [hz, hpz]; omega)
  rw [hT]
  have e1 : (((1 + (putNumB u.size).length : Nat) : Int)).toNat = 1 + (putNumB u.size).length := by omega
  have e2 : (((1 + (putNumB u.size).length : Nat) : Int) + (u.size : Int)).toNat = 1 + (putNumB u.size).length + u.size := by omega
  rw [e1, e2]
  simp only [Prod.mk.injEq, and_true]
  refine ⟨?_, by omega⟩
  apply ByteArray.ext
  apply Array.toList_inj.1
  rw [Lib.extract_data, hP]
  have e3 : ((⟨#[120]⟩ : ByteArray) ++ (putNumT u.size ++ u)).data.toList = (120 :: putNumB u.size) ++ u.data.toList := by simp [putNumT]
  rw [e3, show 1 + (putNumB u.size).length + u.size - (1 + (putNumB u.size).length) = u.size by omega, List.drop_append_of_le_length (by simp; omega), List.drop_eq_nil_of_le (by simp; omega), List.nil_append]
  exact List.take_of_length_le (by simp)
theorem getTextR_cut (u : ByteArray) (h : u.size ≤ 8000) (hp : (putTextB u).size + 1 ≤ 8000) : (getTextR ((putTextB u).extract 0 ((putTextB u).size - 1)) 0).2.2 = 4 := by
  have hP := putTextB_in u h
  have hpz : (putTextB u).size = (putNumB u.size).length + u.size := by rw [hP]; simp [putNumT_size]
  by_cases h0 : u.size = 0
  · have hu : u = ByteArray.empty := by
      apply ByteArray.ext; apply Array.toList_inj.1
      simpa using List.eq_nil_of_length_eq_zero (l := u.data.toList) (by simpa using h0)
    have e : putTextB u = putNumT 0 := by rw [hP, h0, hu]; simp
    have hc := getNumR_cut 0 (by omega) (by omega)
    rw [e]
    unfold getTextR
    rw [hc]
    simp
  · have hl : ((putTextB u).extract 0 ((putTextB u).size - 1)).data.toList = putNumB u.size ++ u.data.toList.dropLast := by
      rw [dropLast_list, hP]
      simp only [ByteArray.data_append, Array.toList_append, putNumT_list]
      rw [List.dropLast_append_of_ne_nil (by intro h2; apply h0; have := congrArg List.length h2; simpa using this)]
    have hz : ((putTextB u).extract 0 ((putTextB u).size - 1)).size = (putTextB u).size - 1 := by simp
    have hN := getNumR_put ((putTextB u).extract 0 ((putTextB u).size - 1)) 0 u.size u.data.toList.dropLast (by omega) (by omega) (by omega) (by rw [List.drop_zero]; exact hl)
    have hT := getTextR_short (a := 0) hN (by omega) (by omega) (by rw [hz, hpz]; omega)
    have e : getTextR ((putTextB u).extract 0 ((putTextB u).size - 1)) 0 = (ByteArray.empty, 0, 4) := hT
    rw [e]
end Go.Proofs.YtflgiohhkoplaaaDoor
