/- Among rising nets that cover one address the later one is the longer. -/
import Derived.Test.YtkkhjeigndcmaabBestI
import Derived.Test.YtkkhjeigndcmaabRibM
namespace Go.Proofs.Ytkkhjeigndcmaab
open Go.RowKit Go.Sort

theorem cutV_mono {x l m : Int} (_h0 : 0 ≤ l) (h : l ≤ m) (_h1 : m ≤ 32) : cutV x l ≤ cutV x m := by
  have hg : gap l = gap m * 2 ^ (m.toNat - l.toNat) := by
    unfold gap
    rw [← Nat.pow_add]
    congr 1
    omega
  have hgm := gap_pos m
  have hgl := gap_pos l
  unfold cutV
  have h2 : x / (gap l : Int) * (gap l : Int) ≤ x := Int.ediv_mul_le x (by omega)
  have h3 : x / (gap l : Int) * (gap l : Int) = (x / (gap l : Int) * ((2 ^ (m.toNat - l.toNat) : Nat) : Int)) * (gap m : Int) := by
    conv => lhs; rhs; rw [hg]
    rw [Int.natCast_mul, Int.mul_assoc, Int.mul_comm (gap m : Int)]
  rw [h3] at h2
  have h4 := Int.le_ediv_of_mul_le (show (0 : Int) < (gap m : Int) by omega) h2
  rw [h3]
  exact Int.mul_le_mul_of_nonneg_right h4 (by omega)
theorem useB_spec {x : Int} {r : Rt} (h : useB x r = true) : r.m < 16 ∧ 0 ≤ x ∧ 0 ≤ r.l ∧ r.l ≤ 32 ∧ cutV x r.l = r.a := by
  simp only [useB, coversB, rightB, inAddr, Bool.and_eq_true, decide_eq_true_eq, beq_iff_eq] at h
  omega
theorem longer {x : Int} {r s : Rt} (h : ltP r s) (hr : useB x r = true) (hs : useB x s = true) : r.l < s.l := by
  obtain ⟨_, hx, r0, r1, r2⟩ := useB_spec hr
  obtain ⟨_, _, s0, s1, s2⟩ := useB_spec hs
  apply Decidable.byContradiction
  intro hn
  have := cutV_mono (x := x) s0 (show s.l ≤ r.l by omega) r1
  unfold ltP at h
  omega
def foundU (x : Int) (rs : List Rt) : Bool := rs.any (useB x)
theorem foundU_next (x : Int) (pre : List Rt) (r : Rt) : foundU x (pre ++ [r]) = (foundU x pre || useB x r) := by simp [foundU]
theorem lastU_mem (x : Int) : ∀ (n : Nat) (rs : List Rt), rs.length = n → foundU x rs = true → lastU x rs ∈ rs ∧ useB x (lastU x rs) = true
  | 0, rs, hn, h => by
    obtain rfl := List.length_eq_zero_iff.1 hn
    simp [foundU] at h
  | n + 1, rs, hn, h => by
    have hne : rs ≠ [] := by intro e; subst e; simp at hn
    have e := (List.dropLast_concat_getLast hne).symm
    generalize hp : rs.dropLast = pre at e
    generalize rs.getLast hne = r at e
    have hl : pre.length = n := by rw [← hp, List.length_dropLast]; omega
    subst e
    rw [lastU_next]
    rw [foundU_next] at h
    by_cases hu : useB x r = true
    · rw [if_pos hu]; exact ⟨by simp, hu⟩
    · rw [if_neg hu]
      have hf : foundU x pre = true := by simpa [hu] using h
      have := lastU_mem x n pre hl hf
      exact ⟨by simp [this.1], this.2⟩
theorem best_next {rs : List Rt} (hp : rs.Pairwise ltP) {x : Int} {k : Nat} (hk : k < rs.length) (hf : foundU x (rs.take k) = true) (hu : useB x rs[k] = true) : (lastU x (rs.take k)).l < (rs[k]).l := by
  obtain ⟨h1, h2⟩ := lastU_mem x _ _ rfl hf
  obtain ⟨j, hj, e⟩ := List.mem_iff_getElem.1 h1
  rw [List.length_take] at hj
  have e' : lastU x (rs.take k) = rs[j]'(by omega) := by rw [← e]; simp
  have := (List.pairwise_iff_getElem.1 hp) j k (by omega) hk (by omega)
  rw [e'] at h2 ⊢
  exact longer this h2 hu
theorem lastU_out {x : Int} (h : inAddr x = false) (rs : List Rt) : lastU x rs = zeroR := by
  have : ∀ r, useB x r = false := fun r => by simp [useB, coversB, h]
  unfold lastU
  simp only [this]
  induction rs with
  | nil => rfl
  | cons a l ih => simpa using ih
theorem useB_right {rs : List Rt} (h : ribB rs = true) {x : Int} (hx : inAddr x = true) {k : Nat} (hk : k < rs.length) : useB x rs[k] = (decide ((rs[k]).m < 16) && (cutV x (rs[k]).l == (rs[k]).a)) := by
  have h1 := routeB_right (okAt_route ((ribB_spec h).2 k hk))
  rw [get_bang hk] at h1
  simp [useB, coversB, h1, hx]
theorem right_len {rs : List Rt} (h : ribB rs = true) {k : Nat} (hk : k < rs.length) : 0 ≤ (rs[k]).l ∧ (rs[k]).l ≤ 32 := by
  have h1 := routeB_right (okAt_route ((ribB_spec h).2 k hk))
  rw [get_bang hk] at h1
  have : 0 ≤ (rs[k]).a ∧ (rs[k]).a ≤ 4294967295 ∧ 0 ≤ (rs[k]).l ∧ (rs[k]).l ≤ 32 ∧ cutV (rs[k]).a (rs[k]).l = (rs[k]).a := by simpa [rightB] using h1
  omega
end Go.Proofs.Ytkkhjeigndcmaab
