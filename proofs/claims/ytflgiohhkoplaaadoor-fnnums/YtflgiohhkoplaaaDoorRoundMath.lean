/- A number, and a text, is got back from its bytes; of bytes that end too early nothing is got. -/
import Derived.Test.YtflgiohhkoplaaaDoorPutText
import Derived.Test.YtflgiohhkoplaaaDoorGetTextM
namespace Go.Proofs.YtflgiohhkoplaaaDoor
open Go.RowKit

theorem unfold_fold (n : Int) : unfoldN (foldN n) = n := by
  unfold unfoldN foldN
  split <;> split <;> omega
theorem byte_at {t : ByteArray} {k : Nat} {b : UInt8} {l : List UInt8} (h : t.data.toList.drop k = b :: l) : ∃ hk : k < t.size, t[k] = b := by
  have hlen : k < t.data.toList.length := by
    rcases Nat.lt_or_ge k t.data.toList.length with h1 | h1
    · exact h1
    · rw [List.drop_eq_nil_of_le h1] at h; simp at h
  have hk : k < t.size := by simpa using hlen
  refine ⟨hk, ?_⟩
  rw [List.drop_eq_getElem_cons hlen] at h
  exact (List.cons.inj h).1
theorem drop_next {t : ByteArray} {k : Nat} {b : UInt8} {l : List UInt8} (h : t.data.toList.drop k = b :: l) : t.data.toList.drop (k + 1) = l := by
  have := congrArg List.tail h
  simpa using this
theorem ofNat_toNat {x : Nat} (h : x < 256) : (UInt8.ofNat x).toNat = x := by simp [UInt8.toNat_ofNat', Nat.mod_eq_of_lt h]

/-- What stands there is read. -/
theorem getGo_put (t : ByteArray) (a : Nat) (rest : List UInt8) : ∀ (f i u acc : Nat), i + f = 9 → u < 2 * 128 ^ f → (i = 0 ∨ 0 < u) → t.data.toList.drop (a + i) = numB f u ++ rest →
    getGo t a (f + 1) i acc = (unfoldN (acc + u * 2 ^ (7 * i)), ((a + i + (numB f u).length : Nat) : Int), 0) := by
  intro f
  induction f with
  | zero =>
    intro i u acc hi hu h0 hd
    have hu2 : u < 2 := by simpa using hu
    simp only [numB, List.cons_append, List.nil_append] at hd
    obtain ⟨hk, hb⟩ := byte_at hd
    have hbn : t[a + i].toNat = u := by rw [hb, ofNat_toNat (by omega)]
    rw [getGo, dif_pos hk, hbn, if_neg (by omega), if_pos (by omega), if_neg (by omega)]
    simp [numB]
  | succ f ih =>
    intro i u acc hi hu h0 hd
    by_cases h128 : 128 ≤ u
    · have hd2 := hd
      rw [numB_go f u h128, List.cons_append] at hd2
      obtain ⟨hk, hb⟩ := byte_at hd2
      have hbn : t[a + i].toNat = u % 128 + 128 := by rw [hb, ofNat_toNat (by omega)]
      have hnext := ih (i + 1) (u / 128) (acc + u % 128 * 2 ^ (7 * i)) (by omega) (by rw [Nat.pow_succ] at hu; omega) (by omega) (drop_next hd2)
      rw [getGo, dif_pos hk, hbn, if_neg (by omega), if_neg (by omega), show u % 128 + 128 - 128 = u % 128 by omega, hnext]
      have e1 : acc + u % 128 * 2 ^ (7 * i) + u / 128 * 2 ^ (7 * (i + 1)) = acc + u * 2 ^ (7 * i) := by
        rw [pow_seven, ← Nat.mul_assoc, Nat.add_assoc, ← Nat.add_mul]
        congr 2
        omega
      rw [e1, numB_go f u h128]
      simp only [List.length_cons, Prod.mk.injEq, true_and, and_true]
      omega
    · have hd2 := hd
      rw [numB_stop (f + 1) u (by omega)] at hd2 ⊢
      simp only [List.cons_append, List.nil_append] at hd2
      obtain ⟨hk, hb⟩ := byte_at hd2
      have hbn : t[a + i].toNat = u := by rw [hb, ofNat_toNat (by omega)]
      rw [getGo, dif_pos hk, hbn, if_neg (by omega), if_pos (by omega), if_neg (by omega)]
      simp
/-- What ends too early. -/
theorem getGo_short (t : ByteArray) : ∀ (f i u acc : Nat), i + f = 9 → u < 2 * 128 ^ f → t.data.toList.drop i = (numB f u).dropLast → i ≤ t.size →
    getGo t 0 (f + 1) i acc = (0, 0, 4) := by
  intro f
  induction f with
  | zero =>
    intro i u acc hi hu hd hle
    simp only [numB, List.dropLast_singleton] at hd
    have hlen := congrArg List.length hd
    simp at hlen
    rw [getGo, dif_neg (by omega)]
  | succ f ih =>
    intro i u acc hi hu hd hle
    by_cases h128 : 128 ≤ u
    · have hd2 := hd
      have hne : numB f (u / 128) ≠ [] := by
        intro h; have := (numB_length f (u / 128)).2; rw [h] at this; simp at this
      rw [numB_go f u h128, List.dropLast_cons_of_ne_nil hne] at hd2
      obtain ⟨hk, hb⟩ := byte_at hd2
      have hbn : t[i].toNat = u % 128 + 128 := by rw [hb, ofNat_toNat (by omega)]
      have hk0 : 0 + i < t.size := by omega
      have hbn0 : t[0 + i].toNat = u % 128 + 128 := by simp only [Nat.zero_add]; exact hbn
      rw [getGo, dif_pos hk0, hbn0, if_neg (by omega), if_neg (by omega)]
      exact ih (i + 1) (u / 128) _ (by omega) (by rw [Nat.pow_succ] at hu; omega) (drop_next hd2) (by omega)
    · rw [numB_stop (f + 1) u (by omega)] at hd
      have hlen := congrArg List.length hd
      simp at hlen
      rw [getGo, dif_neg (by omega)]
end Go.Proofs.YtflgiohhkoplaaaDoor
