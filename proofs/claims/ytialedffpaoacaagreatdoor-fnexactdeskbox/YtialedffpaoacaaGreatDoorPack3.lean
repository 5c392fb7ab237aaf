/- Texts that stand on each other, in one file: DecMath. -/
import Derived.Lib.ItoaNum
import Derived.Lib.Split
import Derived.Lib.IndexLaws
import Derived.Lib.IndexBytes
/- Decimal numerals as lists of bytes: written and read back; texts cut at a byte. -/
namespace Go.Proofs.YtialedffpaoacaaGreatDoor
open Go.Lib (decDigits)

theorem dec_small {u : Nat} (h : u < 10) : decDigits u = [UInt8.ofNat (48 + u)] := by rw [decDigits, dif_pos h]
theorem dec_big {u : Nat} (h : ¬ u < 10) : decDigits u = decDigits (u / 10) ++ [UInt8.ofNat (48 + u % 10)] := by rw [decDigits, dif_neg h]
theorem dec_ne (u : Nat) : decDigits u ≠ [] := by
  by_cases h : u < 10
  · rw [dec_small h]; simp
  · rw [dec_big h]; simp
theorem dig_toNat (k : Nat) (h : k < 10) : (UInt8.ofNat (48 + k)).toNat = 48 + k := by rw [UInt8.toNat_ofNat']; omega
theorem dec_digit (u : Nat) : ∀ b ∈ decDigits u, 48 ≤ b.toNat ∧ b.toNat ≤ 57 := by
  induction u using Nat.strongRecOn with
  | _ u ih =>
    intro b hb
    by_cases h : u < 10
    · rw [dec_small h] at hb
      simp only [List.mem_singleton] at hb
      subst hb
      rw [dig_toNat u h]; omega
    · rw [dec_big h, List.mem_append, List.mem_singleton] at hb
      rcases hb with hb | rfl
      · exact ih (u / 10) (by omega) b hb
      · rw [dig_toNat _ (by omega)]; omega
theorem dec_next (u b : Nat) (hu : 0 < u) (hb : b < 10) : decDigits (u * 10 + b) = decDigits u ++ [UInt8.ofNat (48 + b)] := by
  rw [dec_big (by omega), show (u * 10 + b) / 10 = u by omega, show (u * 10 + b) % 10 = b by omega]
/-- Digits read on. -/
def valL : Nat → List UInt8 → Nat
  | n, [] => n
  | n, b :: l => valL (n * 10 + (b.toNat - 48)) l
theorem valL_append (l m : List UInt8) : ∀ n, valL n (l ++ m) = valL (valL n l) m := by
  induction l with
  | nil => intro n; rfl
  | cons b l ih => intro n; exact ih _
theorem valL_ge (l : List UInt8) : ∀ n, n ≤ valL n l := by
  induction l with
  | nil => intro n; exact Nat.le_refl _
  | cons b l ih => intro n; exact Nat.le_trans (by omega) (ih _)
theorem valL_dec (u : Nat) : valL 0 (decDigits u) = u := by
  induction u using Nat.strongRecOn with
  | _ u ih =>
    by_cases h : u < 10
    · rw [dec_small h]
      show 0 * 10 + ((UInt8.ofNat (48 + u)).toNat - 48) = u
      rw [dig_toNat u h]; omega
    · rw [dec_big h, valL_append, ih (u / 10) (by omega)]
      show u / 10 * 10 + ((UInt8.ofNat (48 + u % 10)).toNat - 48) = u
      rw [dig_toNat _ (by omega)]; omega
theorem dec_inj {a b : Nat} (h : decDigits a = decDigits b) : a = b := by rw [← valL_dec a, h, valL_dec b]
theorem dec_prefix {m n : Nat} {l : List UInt8} (h : decDigits m = decDigits n ++ l) : n ≤ m := by
  have e := congrArg (valL 0) h
  rw [valL_dec, valL_append, valL_dec] at e
  rw [e]; exact valL_ge l n
theorem dec_head {u : Nat} (hu : 0 < u) : ∃ b l, decDigits u = b :: l ∧ 49 ≤ b.toNat ∧ b.toNat ≤ 57 := by
  induction u using Nat.strongRecOn with
  | _ u ih =>
    by_cases h : u < 10
    · exact ⟨_, [], dec_small h, by rw [dig_toNat u h]; omega, by rw [dig_toNat u h]; omega⟩
    · obtain ⟨b, l, e, h1, h2⟩ := ih (u / 10) (by omega) (by omega)
      exact ⟨b, l ++ [UInt8.ofNat (48 + u % 10)], by rw [dec_big h, e]; rfl, h1, h2⟩
theorem byte_back48 (b : UInt8) (h : 48 ≤ b.toNat) : UInt8.ofNat (48 + (b.toNat - 48)) = b := by
  rw [show 48 + (b.toNat - 48) = b.toNat by omega, UInt8.ofNat_toNat]
theorem dec_cons (b : UInt8) (h1 : 48 ≤ b.toNat) (h2 : b.toNat ≤ 57) : decDigits (b.toNat - 48) = [b] := by
  rw [dec_small (by omega), byte_back48 b h1]
theorem dec_step (n : Nat) (b : UInt8) (hn : 0 < n) (h1 : 48 ≤ b.toNat) (h2 : b.toNat ≤ 57) : decDigits (n * 10 + (b.toNat - 48)) = decDigits n ++ [b] := by
  rw [dec_next n _ hn (by omega), byte_back48 b h1]
theorem dec_length_le {u k : Nat} (hk : 1 ≤ k) (h : u < 10 ^ k) : (decDigits u).length ≤ k := by
  induction u using Nat.strongRecOn generalizing k with
  | _ u ih =>
    by_cases hu : u < 10
    · rw [dec_small hu]; simpa using hk
    · rw [dec_big hu, List.length_append, List.length_singleton]
      obtain ⟨j, rfl⟩ : ∃ j, k = j + 1 := ⟨k - 1, by omega⟩
      rw [Nat.pow_succ] at h
      by_cases hj : j = 0
      · subst hj; simp at h; omega
      · have := ih (u / 10) (by omega) (k := j) (by omega) (by omega)
        omega

/-- What digitsRead reads: a number up to a most, with no needless nought. -/
def rd (most : Nat) : List UInt8 → Nat → Nat → Option Nat
  | [], _, n => some n
  | b :: l, i, n => if b.toNat < 48 ∨ 57 < b.toNat ∨ (0 < i ∧ n = 0) then none else if most < n * 10 + (b.toNat - 48) then none else rd most l (i + 1) (n * 10 + (b.toNat - 48))
theorem rd_cons (most : Nat) (b : UInt8) (l : List UInt8) (i n : Nat) : rd most (b :: l) i n = if b.toNat < 48 ∨ 57 < b.toNat ∨ (0 < i ∧ n = 0) then none else if most < n * 10 + (b.toNat - 48) then none else rd most l (i + 1) (n * 10 + (b.toNat - 48)) := rfl
def dR (most : Nat) (l : List UInt8) : Option Nat := if l = [] then none else rd most l 0 0
theorem rd_some (most : Nat) : ∀ (l : List UInt8) (i n m : Nat), 0 < n → n ≤ most → rd most l i n = some m → m ≤ most ∧ decDigits m = decDigits n ++ l := by
  intro l
  induction l with
  | nil => intro i n m _ hm h; simp only [rd, Option.some.injEq] at h; subst h; exact ⟨hm, by simp⟩
  | cons b l ih =>
    intro i n m hn hm h
    simp only [rd] at h
    by_cases h1 : b.toNat < 48 ∨ 57 < b.toNat ∨ (0 < i ∧ n = 0)
    · rw [if_pos h1] at h; cases h
    · rw [if_neg h1] at h
      by_cases h2 : most < n * 10 + (b.toNat - 48)
      · rw [if_pos h2] at h; cases h
      · rw [if_neg h2] at h
        obtain ⟨r1, r2⟩ := ih _ _ m (by omega) (by omega) h
        rw [dec_step n b hn (by omega) (by omega)] at r2
        exact ⟨r1, by rw [r2]; simp⟩
theorem rd_of (most : Nat) : ∀ (l : List UInt8) (i n m : Nat), 0 < n → m ≤ most → decDigits m = decDigits n ++ l → rd most l i n = some m := by
  intro l
  induction l with
  | nil => intro i n m _ _ h; rw [List.append_nil] at h; rw [dec_inj h]; rfl
  | cons b l ih =>
    intro i n m hn hm h
    have hb := dec_digit m b (by rw [h]; simp)
    have h' : decDigits m = decDigits (n * 10 + (b.toNat - 48)) ++ l := by rw [h, dec_step n b hn hb.1 hb.2]; simp
    have hle := dec_prefix h'
    simp only [rd]
    rw [if_neg (by omega), if_neg (by omega)]
    exact ih _ _ m (by omega) hm h'
theorem dR_iff (most : Nat) (l : List UInt8) (m : Nat) : dR most l = some m ↔ m ≤ most ∧ l = decDigits m := by
  unfold dR
  cases l with
  | nil => simp only [if_true]; exact ⟨fun h => by (cases h), fun h => absurd h.2.symm (dec_ne m)⟩
  | cons b l =>
    rw [if_neg (by simp), rd_cons]
    by_cases h1 : b.toNat < 48 ∨ 57 < b.toNat ∨ (0 < 0 ∧ 0 = 0)
    · rw [if_pos h1]
      refine ⟨fun h => by (cases h), fun h => ?_⟩
      have := dec_digit m b (by rw [← h.2]; simp)
      omega
    · rw [if_neg h1]
      rw [show 0 * 10 + (b.toNat - 48) = b.toNat - 48 by omega]
      by_cases hz : b.toNat = 48
      · rw [hz, show 48 - 48 = 0 from rfl, if_neg (by omega)]
        have hb : b = 48 := UInt8.toNat_inj.1 hz
        cases l with
        | nil =>
          simp only [rd, Option.some.injEq]
          constructor
          · intro h; subst h; exact ⟨by omega, by rw [dec_small (by omega), hb]; rfl⟩
          · intro h
            have := dec_inj (a := 0) (b := m) (by rw [← h.2, dec_small (by omega), hb]; rfl)
            exact this
        | cons c l =>
          rw [rd_cons, if_pos (by omega)]
          refine ⟨fun h => by (cases h), fun h => ?_⟩
          rcases Nat.eq_zero_or_pos m with h0 | h0
          · have := congrArg List.length h.2
            rw [h0, dec_small (by omega)] at this
            simp at this
          · obtain ⟨x, y, e, g1, g2⟩ := dec_head h0
            rw [e] at h
            simp only [List.cons.injEq] at h
            rw [h.2.1] at hz
            omega
      · by_cases h2 : most < b.toNat - 48
        · rw [if_pos h2]
          refine ⟨fun h => by (cases h), fun h => ?_⟩
          have := dec_prefix (m := m) (n := b.toNat - 48) (l := l) (by rw [← h.2, dec_cons b (by omega) (by omega)]; rfl)
          omega
        · rw [if_neg h2]
          constructor
          · intro h
            obtain ⟨r1, r2⟩ := rd_some most l _ _ m (by omega) (by omega) h
            rw [dec_cons b (by omega) (by omega)] at r2
            exact ⟨r1, r2.symm⟩
          · intro h
            exact rd_of most l _ _ m (by omega) h.1 (by rw [← h.2, dec_cons b (by omega) (by omega)]; rfl)
theorem dR_dec (most u : Nat) (h : u ≤ most) : dR most (decDigits u) = some u := (dR_iff most _ u).2 ⟨h, rfl⟩

/-- Pieces of a text at a byte, one after the other. -/
def spF (c : UInt8) : List UInt8 → List UInt8 → List (List UInt8)
  | cur, [] => [cur]
  | cur, b :: l => if b = c then cur :: spF c [] l else spF c (cur ++ [b]) l
theorem spF_no (c : UInt8) : ∀ (p cur : List UInt8), c ∉ p → spF c cur p = [cur ++ p] := by
  intro p
  induction p with
  | nil => intro cur _; simp [spF]
  | cons b p ih =>
    intro cur h
    simp only [List.mem_cons, not_or] at h
    simp only [spF]
    rw [if_neg (Ne.symm h.1), ih _ h.2]
    simp
theorem spF_hit (c : UInt8) : ∀ (p cur r : List UInt8), c ∉ p → spF c cur (p ++ c :: r) = (cur ++ p) :: spF c [] r := by
  intro p
  induction p with
  | nil => intro cur r _; simp [spF]
  | cons b p ih =>
    intro cur r h
    simp only [List.mem_cons, not_or] at h
    simp only [List.cons_append, spF]
    rw [if_neg (Ne.symm h.1), ih _ _ h.2]
    simp
theorem spF_length_pos (c : UInt8) : ∀ (p cur : List UInt8), 1 ≤ (spF c cur p).length := by
  intro p
  induction p with
  | nil => intro cur; simp [spF]
  | cons b p ih => intro cur; simp only [spF]; split <;> simp [ih]
theorem spF_length_le (c : UInt8) : ∀ (p cur : List UInt8), (spF c cur p).length ≤ p.length + 1 := by
  intro p
  induction p with
  | nil => intro cur; simp [spF]
  | cons b p ih =>
    intro cur
    simp only [spF, List.length_cons]
    split
    · have := ih []; simp only [List.length_cons]; omega
    · have := ih (cur ++ [b]); omega

/-- The first place of a byte. -/
theorem index_no (c : UInt8) (p : List UInt8) (h : c ∉ p) : Lib.index p [c] = -1 := by
  rw [Lib.index_one]
  induction p with
  | nil => rfl
  | cons b p ih =>
    simp only [List.mem_cons, not_or] at h
    simp only [Lib.indexByte]
    rw [if_neg (by simpa using Ne.symm h.1), ih h.2]
    rfl
theorem index_hit (c : UInt8) (p r : List UInt8) (h : c ∉ p) : Lib.index (p ++ c :: r) [c] = (p.length : Int) := by
  rw [Lib.index_one]
  induction p with
  | nil => simp [Lib.indexByte]
  | cons b p ih =>
    simp only [List.mem_cons, not_or] at h
    simp only [List.cons_append, Lib.indexByte]
    rw [if_neg (by simpa using Ne.symm h.1), ih h.2, if_neg (by simp)]
    simp
theorem index_form (c : UInt8) (s : List UInt8) : (Lib.index s [c] = -1 ∧ c ∉ s) ∨ ∃ p r, s = p ++ c :: r ∧ c ∉ p ∧ Lib.index s [c] = (p.length : Int) := by
  by_cases h : c ∈ s
  · right
    induction s with
    | nil => cases h
    | cons b s ih =>
      by_cases hb : b = c
      · subst hb
        exact ⟨[], s, rfl, by simp, index_hit b [] s (by simp)⟩
      · have h' : c ∈ s := by
          rcases List.mem_cons.1 h with h | h
          · exact absurd h.symm hb
          · exact h
        obtain ⟨p, r, e, hp, _⟩ := ih h'
        refine ⟨b :: p, r, by rw [e]; rfl, ?_, ?_⟩
        · simp only [List.mem_cons, not_or]; exact ⟨fun e => hb e.symm, hp⟩
        · rw [e]; exact index_hit c (b :: p) r (by simp only [List.mem_cons, not_or]; exact ⟨fun e => hb e.symm, hp⟩)
  · exact .inl ⟨index_no c s h, h⟩
theorem splitK_no (c : UInt8) (k : Nat) (p : List UInt8) (h : c ∉ p) : Lib.splitK [c] 0 k p = [p] := by
  cases k with
  | zero => rfl
  | succ k => simp only [Lib.splitK]; rw [index_no c p h]; rfl
theorem splitK_hit (c : UInt8) (k : Nat) (p r : List UInt8) (h : c ∉ p) : Lib.splitK [c] 0 (k + 1) (p ++ c :: r) = p :: Lib.splitK [c] 0 k r := by
  simp only [Lib.splitK]
  rw [index_hit c p r h, if_neg (by simp)]
  congr 1
  · simp
  · congr 1
    simp only [Int.toNat_natCast, List.length_singleton]
    rw [show p ++ c :: r = (p ++ [c]) ++ r by simp, List.drop_append, List.drop_of_length_le (by simp)]
    simp
/-- Pieces put together again, a byte between. -/
def joinC (c : UInt8) : List (List UInt8) → List UInt8
  | [] => []
  | [p] => p
  | p :: q :: ps => p ++ c :: joinC c (q :: ps)
theorem splitK_ne (c : UInt8) (k : Nat) (s : List UInt8) : Lib.splitK [c] 0 k s ≠ [] := by
  cases k with
  | zero => simp [Lib.splitK]
  | succ k => simp only [Lib.splitK]; split <;> simp
theorem splitK_join (c : UInt8) : ∀ (k : Nat) (s : List UInt8), joinC c (Lib.splitK [c] 0 k s) = s
  | 0, s => rfl
  | k + 1, s => by
    rcases index_form c s with ⟨_, h⟩ | ⟨p, r, rfl, hp, _⟩
    · rw [splitK_no c _ s h]; rfl
    · rw [splitK_hit c k p r hp]
      have h := splitK_join c k r
      cases hq : Lib.splitK [c] 0 k r with
      | nil => exact absurd hq (splitK_ne c k r)
      | cons q ps => rw [hq] at h; simp only [joinC]; rw [h]
end Go.Proofs.YtialedffpaoacaaGreatDoor
