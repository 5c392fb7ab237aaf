/- Cutting a text at a byte, however many cuts are let, so long as they are enough. -/
import Derived.Test.YtchgnjpbjnkdmaaDoorAddrTxt
namespace Go.Proofs.YtchgnjpbjnkdmaaDoor

theorem splitK_enough (c : UInt8) : ∀ (k k' : Nat) (s : List UInt8), s.count c ≤ k → s.count c ≤ k' → Lib.splitK [c] 0 k s = Lib.splitK [c] 0 k' s := by
  intro k
  induction k with
  | zero =>
    intro k' s h _
    have hn : c ∉ s := by
      intro hm
      have := List.count_pos_iff.2 hm
      omega
    rw [splitK_no c 0 s hn, splitK_no c k' s hn]
  | succ k ih =>
    intro k' s h h'
    rcases index_form c s with ⟨_, hn⟩ | ⟨p, r, rfl, hp, _⟩
    · rw [splitK_no c _ s hn, splitK_no c k' s hn]
    · have hc : (p ++ c :: r).count c = r.count c + 1 := by
        rw [List.count_append, List.count_eq_zero.2 hp, List.count_cons_self]; omega
      rw [hc] at h h'
      obtain ⟨j, rfl⟩ : ∃ j, k' = j + 1 := ⟨k' - 1, by omega⟩
      rw [splitK_hit c k p r hp, splitK_hit c j p r hp, ih j r (by omega) (by omega)]
theorem splitK_addr (l : List UInt8) : Lib.splitK [46] 0 (min 5 (l.length + 1) - 1) l = Lib.splitK [46] 0 4 l := by
  by_cases h : 4 ≤ l.length
  · rw [show min 5 (l.length + 1) - 1 = 4 by omega]
  · have hc : l.count 46 ≤ l.length := List.count_le_length
    exact splitK_enough 46 _ _ l (by omega) (by omega)
theorem splitK_len (c : UInt8) : ∀ (k : Nat) (s : List UInt8), (Lib.splitK [c] 0 k s).length ≤ k + 1
  | 0, _ => by simp [Lib.splitK]
  | k + 1, s => by
    rcases index_form c s with ⟨_, hn⟩ | ⟨p, r, rfl, hp, _⟩
    · rw [splitK_no c _ s hn]; simp
    · rw [splitK_hit c k p r hp, List.length_cons]
      have := splitK_len c k r
      omega
theorem splitK_short (c : UInt8) : ∀ (k : Nat) (s : List UInt8), ∀ p ∈ Lib.splitK [c] 0 k s, p.length ≤ s.length
  | 0, s, p, hp => by simp [Lib.splitK] at hp; rw [hp]; exact Nat.le_refl _
  | k + 1, s, q, hq => by
    rcases index_form c s with ⟨_, hn⟩ | ⟨p, r, rfl, hp, _⟩
    · rw [splitK_no c _ s hn] at hq; simp at hq; rw [hq]; exact Nat.le_refl _
    · rw [splitK_hit c k p r hp] at hq
      rcases List.mem_cons.1 hq with rfl | hq
      · simp
      · have := splitK_short c k r q hq
        simp; omega
end Go.Proofs.YtchgnjpbjnkdmaaDoor
