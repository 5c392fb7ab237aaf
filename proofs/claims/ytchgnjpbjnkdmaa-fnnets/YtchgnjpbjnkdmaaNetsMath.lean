/- Plain facts under the law on nets. -/
import Derived.Test.YtchgnjpbjnkdmaaWithin
import Derived.Test.YtchgnjpbjnkdmaaNetLess
import Derived.Test.YtchgnjpbjnkdmaaHalves
namespace Go.Proofs.Ytchgnjpbjnkdmaa

theorem less_anti (a l b m : Int) (h1 : rightB a l = true) (h2 : rightB b m = true) (hne : ¬ (a = b ∧ l = m)) : (lessB a l b m == lessB b m a l) = false := by
  unfold lessB
  rw [h1, h2]
  simp only [Bool.true_and]
  rcases Int.lt_trichotomy a b with h | h | h
  · have d1 : decide (a < b) = true := by simpa using h
    have d2 : decide (b < a) = false := by simp; omega
    have d3 : (b == a) = false := by simp; omega
    rw [d1, d2, d3]; rfl
  · subst h
    rcases Int.lt_trichotomy l m with g | g | g
    · have d1 : decide (l < m) = true := by simpa using g
      have d2 : decide (m < l) = false := by simp; omega
      simp [d1, d2]
    · exact absurd ⟨rfl, g⟩ hne
    · have d1 : decide (l < m) = false := by simp; omega
      have d2 : decide (m < l) = true := by simpa using g
      simp [d1, d2]
  · have d1 : decide (a < b) = false := by simp; omega
    have d2 : decide (b < a) = true := by simpa using h
    have d3 : (a == b) = false := by simp; omega
    rw [d1, d2, d3]; rfl
theorem covers_own (a l : Int) (h : 0 ≤ a ∧ a ≤ 4294967295 ∧ 0 ≤ l ∧ l ≤ 32) : coversB (netA a l) (netN a l) a = true ∧ rightB (netA a l) (netN a l) = true := by
  rw [netA_in h, netN_in h]
  have hc := cutV_le a l h.1
  have hr : rightB (cutV a l) l = true := by
    simp only [rightB, decide_eq_true_eq]
    exact ⟨hc.1, by omega, h.2.2.1, h.2.2.2, cutV_cut a l⟩
  refine ⟨?_, hr⟩
  have hi : inAddr a = true := by simp [inAddr]; omega
  unfold coversB
  rw [hr, hi]
  simp
/-- The numbers of a net that can be halved. -/
theorem half_nums (a l : Int) (h : halfB a l = true) : ∃ G q M : Int, (gap (l + 1) : Int) = G ∧ (gap l : Int) = 2 * G ∧ 0 < G ∧ a = q * (2 * G) ∧ 0 ≤ q ∧ q < M ∧ M * (2 * G) = 4294967296 ∧ 0 ≤ l ∧ l < 32 := by
  have h1 : rightB a l = true ∧ l < 32 := by simpa [halfB] using h
  have h2 : 0 ≤ a ∧ a ≤ 4294967295 ∧ 0 ≤ l ∧ l ≤ 32 ∧ cutV a l = a := by simpa [rightB] using h1.1
  obtain ⟨k, rfl⟩ := Int.eq_ofNat_of_zero_le h2.2.2.1
  have hg : gap (k : Int) = 2 * gap ((k + 1 : Nat) : Int) := gap_step k (by omega)
  have hgp := gap_pos ((k + 1 : Nat) : Int)
  have hp : (2 : Nat) ^ k * gap (k : Int) = 4294967296 := by
    unfold gap
    rw [Int.toNat_natCast, ← Nat.pow_add, show k + (32 - k) = 32 by omega]
  refine ⟨(gap ((k + 1 : Nat) : Int) : Int), a / (gap (k : Int) : Int), ((2 ^ k : Nat) : Int), rfl, by rw [hg]; simp, by omega, ?_, Int.ediv_nonneg h2.1 (by omega), ?_, ?_, h2.2.2.1, h1.2⟩
  · have hc := h2.2.2.2.2
    unfold cutV at hc
    rw [hg] at hc ⊢
    rw [show (2 * (gap ((k + 1 : Nat) : Int) : Int)) = ((2 * gap ((k + 1 : Nat) : Int) : Nat) : Int) by simp]
    exact hc.symm
  · apply Int.ediv_lt_of_lt_mul (by omega)
    rw [← Int.natCast_mul, hp]
    omega
  · rw [hg] at hp
    rw [show (2 * (gap ((k + 1 : Nat) : Int) : Int)) = ((2 * gap ((k + 1 : Nat) : Int) : Nat) : Int) by simp, ← Int.natCast_mul, hp]
    rfl
theorem mul_cut (q G : Int) (hG : 0 < G) : q * G / G * G = q * G := by rw [Int.mul_ediv_cancel _ (by omega)]
theorem half_right (a l : Int) (h : halfB a l = true) : rightB a (l + 1) = true ∧ rightB (a + (gap (l + 1) : Int)) (l + 1) = true ∧ rightB a l = true := by
  have h1 : rightB a l = true ∧ l < 32 := by simpa [halfB] using h
  have h2 : 0 ≤ a ∧ a ≤ 4294967295 ∧ 0 ≤ l ∧ l ≤ 32 ∧ cutV a l = a := by simpa [rightB] using h1.1
  obtain ⟨G, q, M, e1, e2, hG, rfl, hq0, hq1, hM, _, _⟩ := half_nums a l h
  have hle : (q + 1) * (2 * G) ≤ M * (2 * G) := Int.mul_le_mul_of_nonneg_right (by omega) (by omega)
  rw [Int.add_mul, Int.one_mul, hM] at hle
  have c1 : cutV (q * (2 * G)) (l + 1) = q * (2 * G) := by
    unfold cutV
    rw [e1, show q * (2 * G) = (2 * q) * G by rw [Int.mul_comm 2 q, Int.mul_assoc], mul_cut _ _ hG]
  have c2 : cutV (q * (2 * G) + G) (l + 1) = q * (2 * G) + G := by
    unfold cutV
    rw [e1, show q * (2 * G) + G = (2 * q + 1) * G by rw [Int.add_mul, Int.one_mul, Int.mul_comm 2 q, Int.mul_assoc], mul_cut _ _ hG]
  refine ⟨?_, ?_, h1.1⟩
  · simp only [rightB, decide_eq_true_eq]
    exact ⟨h2.1, h2.2.1, by omega, by omega, c1⟩
  · rw [e1]
    simp only [rightB, decide_eq_true_eq]
    exact ⟨by omega, by omega, by omega, by omega, c2⟩
theorem cut_div (b G q : Int) (hG : 0 < G) : b / G * G = q * G ↔ b / G = q := ⟨fun h => Int.eq_of_mul_eq_mul_right (by omega) h, fun h => by rw [h]⟩
theorem half_cover (a l b : Int) (h : halfB a l = true) (hb0 : 0 ≤ b) (hb1 : b ≤ 4294967295) : (coversB a l b != (coversB a (l + 1) b != coversB (a + (gap (l + 1) : Int)) (l + 1) b)) = false := by
  obtain ⟨r1, r2, r0⟩ := half_right a l h
  have hi : inAddr b = true := by simp [inAddr]; omega
  obtain ⟨G, q, M, e1, e2, hG, rfl, hq0, hq1, hM, _, _⟩ := half_nums a l h
  unfold coversB
  rw [r0, r1, r2, hi]
  simp only [Bool.true_and]
  have k0 : (cutV b l = q * (2 * G)) ↔ b / (2 * G) = q := by unfold cutV; rw [e2]; exact cut_div b (2 * G) q (by omega)
  have k1 : (cutV b (l + 1) = q * (2 * G)) ↔ b / G = 2 * q := by
    unfold cutV
    rw [e1, show q * (2 * G) = (2 * q) * G by rw [Int.mul_comm 2 q, Int.mul_assoc]]; exact cut_div b G (2 * q) hG
  have k2 : (cutV b (l + 1) = q * (2 * G) + (gap (l + 1) : Int)) ↔ b / G = 2 * q + 1 := by
    unfold cutV
    rw [e1, show q * (2 * G) + G = (2 * q + 1) * G by rw [Int.add_mul, Int.one_mul, Int.mul_comm 2 q, Int.mul_assoc]]; exact cut_div b G (2 * q + 1) hG
  have hd : b / (2 * G) = b / G / 2 := by rw [Int.mul_comm, Int.ediv_ediv_of_nonneg (by omega)]
  rw [hd] at k0
  generalize b / G = B at *
  have b0 : (cutV b l == q * (2 * G)) = decide (B / 2 = q) := by rw [Bool.eq_iff_iff]; simp [k0]
  have b1 : (cutV b (l + 1) == q * (2 * G)) = decide (B = 2 * q) := by rw [Bool.eq_iff_iff]; simp [k1]
  have b2 : (cutV b (l + 1) == q * (2 * G) + (gap (l + 1) : Int)) = decide (B = 2 * q + 1) := by rw [Bool.eq_iff_iff]; simp [k2]
  rw [b0, b1, b2]
  by_cases g1 : B = 2 * q
  · rw [decide_eq_true (show B / 2 = q by omega), decide_eq_true g1, decide_eq_false (show ¬ B = 2 * q + 1 by omega)]; rfl
  · by_cases g2 : B = 2 * q + 1
    · rw [decide_eq_true (show B / 2 = q by omega), decide_eq_false g1, decide_eq_true g2]; rfl
    · rw [decide_eq_false (show ¬ B / 2 = q by omega), decide_eq_false g1, decide_eq_false g2]; rfl
theorem right_in {a l : Int} (h : rightB a l = true) : 0 ≤ a ∧ a ≤ 4294967295 ∧ 0 ≤ l ∧ l ≤ 32 ∧ cutV a l = a := by simpa [rightB] using h
theorem half_within (a l : Int) (h : halfB a l = true) : withinB a l a (l + 1) = true ∧ withinB a l (a + (gap (l + 1) : Int)) (l + 1) = true := by
  obtain ⟨r1, r2, r0⟩ := half_right a l h
  obtain ⟨G, q, M, e1, e2, hG, rfl, hq0, hq1, hM, _, _⟩ := half_nums a l h
  have hr1 := right_in r1
  have hr2 := right_in r2
  have i1 : inAddr (q * (2 * G)) = true := by simp [inAddr]; omega
  have i2 : inAddr (q * (2 * G) + (gap (l + 1) : Int)) = true := by simp [inAddr]; omega
  have d : decide (l ≤ l + 1) = true := by simp; omega
  have c1 : cutV (q * (2 * G)) l = q * (2 * G) := by unfold cutV; rw [e2, mul_cut _ _ (by omega)]
  have c2 : cutV (q * (2 * G) + (gap (l + 1) : Int)) l = q * (2 * G) := by
    unfold cutV
    rw [e1, e2, Int.add_comm, Int.add_mul_ediv_right _ _ (by omega), Int.ediv_eq_zero_of_lt (by omega) (by omega), Int.zero_add]
  constructor
  · unfold withinB coversB
    rw [r0, r1, i1, d, c1]; simp
  · unfold withinB coversB
    rw [r0, r2, i2, d, c2]; simp
theorem within_covers (a l b m : Int) (h : withinB a l b m = true) : coversB a l b = true := by
  unfold withinB at h
  simp only [Bool.and_eq_true] at h
  exact h.2.2.2
end Go.Proofs.Ytchgnjpbjnkdmaa
