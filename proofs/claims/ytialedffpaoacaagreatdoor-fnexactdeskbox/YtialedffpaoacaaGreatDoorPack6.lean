/- Texts that stand on each other, in one file: AddrTxt, SplitMath. -/
import Derived.Test.YtialedffpaoacaaGreatDoorPack3
import Derived.Test.YtialedffpaoacaaGreatDoorPack1
import Derived.Lib.IndexMore
/- The texts of addresses and nets, and what is read of them. -/
namespace Go.Proofs.YtialedffpaoacaaGreatDoor
open Go.Lib (decDigits)

theorem dot_no (u : Nat) : (46 : UInt8) ∉ decDigits u := fun h => by have := dec_digit u _ h; simp at this
theorem bar_no (u : Nat) : (47 : UInt8) ∉ decDigits u := fun h => by have := dec_digit u _ h; simp at this
def addrP (a : Nat) : List (List UInt8) := [decDigits (a / 16777216), decDigits (a / 65536 % 256), decDigits (a / 256 % 256), decDigits (a % 256)]
def addrL (a : Nat) : List UInt8 := decDigits (a / 16777216) ++ 46 :: (decDigits (a / 65536 % 256) ++ 46 :: (decDigits (a / 256 % 256) ++ 46 :: decDigits (a % 256)))
theorem addrL_split (a : Nat) : Lib.splitK [46] 0 4 (addrL a) = addrP a := by
  unfold addrL addrP
  rw [splitK_hit _ _ _ _ (dot_no _), splitK_hit _ _ _ _ (dot_no _), splitK_hit _ _ _ _ (dot_no _), splitK_no _ _ _ (dot_no _)]
theorem addrL_pieces (a : Nat) : spF 46 [] (addrL a) = addrP a := by
  unfold addrL addrP
  rw [spF_hit _ _ _ _ (dot_no _), spF_hit _ _ _ _ (dot_no _), spF_hit _ _ _ _ (dot_no _), spF_no _ _ _ (dot_no _)]
  rfl
theorem dec3_len (u : Nat) (h : u ≤ 255) : 1 ≤ (decDigits u).length ∧ (decDigits u).length ≤ 3 := by
  have h1 := dec_length_le (u := u) (k := 3) (by omega) (by omega)
  have h2 : (decDigits u).length ≠ 0 := fun e => dec_ne u (List.length_eq_zero_iff.1 e)
  omega
theorem addrL_length (a : Nat) (h : a < 4294967296) : 7 ≤ (addrL a).length ∧ (addrL a).length ≤ 15 := by
  unfold addrL
  have h0 := dec3_len (a / 16777216) (by omega)
  have h1 := dec3_len (a / 65536 % 256) (by omega)
  have h2 := dec3_len (a / 256 % 256) (by omega)
  have h3 := dec3_len (a % 256) (by omega)
  simp only [List.length_append, List.length_cons]
  omega
theorem addrP_inj {a b : Nat} (h : addrP a = addrP b) : a = b := by
  unfold addrP at h
  simp only [List.cons.injEq, and_true] at h
  have h0 := dec_inj h.1
  have h1 := dec_inj h.2.1
  have h2 := dec_inj h.2.2.1
  have h3 := dec_inj h.2.2.2
  omega
theorem addrL_inj {a b : Nat} (h : addrL a = addrL b) : a = b := by
  apply addrP_inj
  rw [← addrL_split, h, addrL_split]
theorem addrL_bar (a : Nat) : (47 : UInt8) ∉ addrL a := by
  unfold addrL
  simp only [List.mem_append, List.mem_cons, not_or]
  exact ⟨bar_no _, by decide, bar_no _, by decide, bar_no _, by decide, bar_no _⟩

/-- The address whose text this is. -/
def partsR : List (List UInt8) → Option Nat
  | [p0, p1, p2, p3] => (dR 255 p0).bind fun a => (dR 255 p1).bind fun b => (dR 255 p2).bind fun c => (dR 255 p3).map fun d => ((a * 256 + b) * 256 + c) * 256 + d
  | _ => none
def addrR (l : List UInt8) : Option Nat := partsR (Lib.splitK [46] 0 4 l)
theorem addrR_iff (l : List UInt8) (a : Nat) : addrR l = some a ↔ a < 4294967296 ∧ l = addrL a := by
  constructor
  · intro h
    have hj := splitK_join 46 4 l
    unfold addrR at h
    generalize Lib.splitK [46] 0 4 l = ps at *
    match ps, h with
    | [p0, p1, p2, p3], h =>
      simp only [partsR, Option.bind_eq_some_iff, Option.map_eq_some_iff] at h
      obtain ⟨x, hx, y, hy, z, hz, u, hu, rfl⟩ := h
      obtain ⟨bx, rfl⟩ := (dR_iff _ _ _).1 hx
      obtain ⟨bY, rfl⟩ := (dR_iff _ _ _).1 hy
      obtain ⟨bz, rfl⟩ := (dR_iff _ _ _).1 hz
      obtain ⟨bu, rfl⟩ := (dR_iff _ _ _).1 hu
      refine ⟨by omega, ?_⟩
      rw [← hj]
      unfold addrL
      rw [show (((x * 256 + y) * 256 + z) * 256 + u) / 16777216 = x by omega, show (((x * 256 + y) * 256 + z) * 256 + u) / 65536 % 256 = y by omega, show (((x * 256 + y) * 256 + z) * 256 + u) / 256 % 256 = z by omega, show (((x * 256 + y) * 256 + z) * 256 + u) % 256 = u by omega]
      rfl
    | [], h => simp [partsR] at h
    | [_], h => simp [partsR] at h
    | [_, _], h => simp [partsR] at h
    | [_, _, _], h => simp [partsR] at h
    | _ :: _ :: _ :: _ :: _ :: _, h => simp [partsR] at h
  · rintro ⟨ha, rfl⟩
    unfold addrR
    rw [addrL_split]
    unfold addrP
    simp only [partsR]
    rw [dR_dec _ _ (by omega), dR_dec _ _ (by omega), dR_dec _ _ (by omega), dR_dec _ _ (by omega)]
    simp only [Option.bind_some, Option.map_some, Option.some.injEq]
    omega
theorem addrR_none (l : List UInt8) (h : addrR l = none) (a : Nat) (ha : a < 4294967296) : l ≠ addrL a := by
  intro e
  have := (addrR_iff l a).2 ⟨ha, e⟩
  rw [h] at this; cases this
theorem addrR_none_of (l : List UInt8) (h : ∀ a, a < 4294967296 → l ≠ addrL a) : addrR l = none := by
  cases hr : addrR l with
  | none => rfl
  | some a => exact absurd ((addrR_iff l a).1 hr).2 (h a ((addrR_iff l a).1 hr).1)

def netL (a n : Nat) : List UInt8 := addrL a ++ 47 :: decDigits n
/-- The net whose text this is. -/
def netR (l : List UInt8) : Option (Nat × Nat) :=
  (addrR (Lib.cut l [47]).1).bind fun a => (dR 32 (Lib.cut l [47]).2.1).bind fun n => if cutV (a : Int) (n : Int) = (a : Int) then some (a, n) else none
theorem cut_no (c : UInt8) (s : List UInt8) (h : c ∉ s) : Lib.cut s [c] = (s, [], false) := by
  unfold Lib.cut; rw [index_no c s h]; rfl
theorem cut_hit (c : UInt8) (p r : List UInt8) (h : c ∉ p) : Lib.cut (p ++ c :: r) [c] = (p, r, true) := by
  unfold Lib.cut
  rw [index_hit c p r h, if_pos (by omega)]
  simp only [Int.toNat_natCast, List.length_singleton]
  rw [show p ++ c :: r = (p ++ [c]) ++ r by simp]
  simp
theorem netR_iff (l : List UInt8) (a n : Nat) : netR l = some (a, n) ↔ a < 4294967296 ∧ n ≤ 32 ∧ cutV (a : Int) (n : Int) = (a : Int) ∧ l = netL a n := by
  constructor
  · intro h
    unfold netR at h
    simp only [Option.bind_eq_some_iff] at h
    obtain ⟨x, hx, y, hy, h⟩ := h
    by_cases hc : cutV (x : Int) (y : Int) = (x : Int)
    · rw [if_pos hc] at h
      simp only [Option.some.injEq, Prod.mk.injEq] at h
      obtain ⟨rfl, rfl⟩ := h
      obtain ⟨b1, e1⟩ := (addrR_iff _ _).1 hx
      obtain ⟨b2, e2⟩ := (dR_iff _ _ _).1 hy
      refine ⟨b1, b2, hc, ?_⟩
      rcases index_form 47 l with ⟨_, hn⟩ | ⟨p, r, rfl, hp, _⟩
      · rw [cut_no 47 l hn] at e2
        exact absurd e2.symm (dec_ne y)
      · rw [cut_hit 47 p r hp] at e1 e2
        simp only at e1 e2
        rw [e1, e2]; rfl
    · rw [if_neg hc] at h; cases h
  · rintro ⟨ha, hn, hc, rfl⟩
    unfold netR netL
    rw [cut_hit 47 _ _ (addrL_bar a), (addrR_iff _ a).2 ⟨ha, rfl⟩, dR_dec 32 n hn]
    simp only [Option.bind_some]
    rw [if_pos hc]
theorem netR_none_of (l : List UInt8) (h : ∀ (a n : Nat), a < 4294967296 → n ≤ 32 → cutV (a : Int) (n : Int) = (a : Int) → l ≠ netL a n) : netR l = none := by
  cases hr : netR l with
  | none => rfl
  | some an =>
    obtain ⟨a, n⟩ := an
    obtain ⟨h1, h2, h3, h4⟩ := (netR_iff l a n).1 hr
    exact absurd h4 (h a n h1 h2 h3)
theorem netL_inj {a n b m : Nat} (h : netL a n = netL b m) : a = b ∧ n = m := by
  unfold netL at h
  have h1 := cut_hit 47 (addrL a) (decDigits n) (addrL_bar a)
  rw [h, cut_hit 47 _ _ (addrL_bar b)] at h1
  simp only [Prod.mk.injEq, and_true] at h1
  exact ⟨(addrL_inj h1.1).symm, (dec_inj h1.2).symm⟩
theorem netL_pieces (a n : Nat) : spF 47 [] (netL a n) = [addrL a, decDigits n] := by
  unfold netL
  rw [spF_hit _ _ _ _ (addrL_bar a), spF_no _ _ _ (bar_no _)]
  rfl
theorem netL_length (a n : Nat) (h : a < 4294967296) (hn : n ≤ 32) : (netL a n).length ≤ 20 := by
  unfold netL
  have h0 := addrL_length a h
  have h1 := dec3_len n (by omega)
  simp only [List.length_append, List.length_cons]
  omega

/-- Digits as the model reads them: at most nine, no nought ahead. -/
def l3N (l : List UInt8) : Int :=
  if l.length < 1 ∨ 9 < l.length ∨ (1 < l.length ∧ l.head? = some 48) then -1
  else if l.all (fun b => decide (48 ≤ b.toNat ∧ b.toNat ≤ 57)) then (valL 0 l : Int) else -1
theorem l3N_dec (u : Nat) (h : u < 1000000000) : l3N (decDigits u) = (u : Int) := by
  have hl := dec_length_le (u := u) (k := 9) (by omega) (by omega)
  have hn : (decDigits u).length ≠ 0 := fun e => dec_ne u (List.length_eq_zero_iff.1 e)
  unfold l3N
  rw [if_neg, if_pos, valL_dec]
  · rw [List.all_eq_true]
    intro b hb
    simpa using dec_digit u b hb
  · rintro (h1 | h1 | ⟨h1, h2⟩)
    · omega
    · omega
    · rcases Nat.eq_zero_or_pos u with h0 | h0
      · rw [h0, dec_small (by omega)] at h1; simp at h1
      · obtain ⟨b, r, e, g1, _⟩ := dec_head h0
        rw [e] at h2
        simp only [List.head?_cons, Option.some.injEq] at h2
        rw [h2] at g1
        simp at g1
theorem valL_lt (l : List UInt8) : ∀ n, (∀ b ∈ l, 48 ≤ b.toNat ∧ b.toNat ≤ 57) → valL n l < (n + 1) * 10 ^ l.length := by
  induction l with
  | nil => intro n _; show n < (n + 1) * 10 ^ 0; rw [Nat.pow_zero]; omega
  | cons b l ih =>
    intro n h
    have hb := h b (by simp)
    have h1 := ih (n * 10 + (b.toNat - 48)) (fun x hx => h x (by simp [hx]))
    show valL (n * 10 + (b.toNat - 48)) l < (n + 1) * 10 ^ (l.length + 1)
    rw [Nat.pow_succ]
    refine Nat.lt_of_lt_of_le h1 ?_
    rw [Nat.mul_comm (10 ^ l.length) 10, ← Nat.mul_assoc]
    exact Nat.mul_le_mul_right _ (by omega)
theorem l3N_range (l : List UInt8) : -1 ≤ l3N l ∧ l3N l < 1000000000 := by
  unfold l3N
  split
  · omega
  · rename_i h
    split
    · rename_i h2
      rw [List.all_eq_true] at h2
      have h3 := valL_lt l 0 (fun b hb => by simpa using h2 b hb)
      have h4 : 10 ^ l.length ≤ 10 ^ 9 := Nat.pow_le_pow_right (by decide) (by omega)
      omega
    · omega
end Go.Proofs.YtialedffpaoacaaGreatDoor
/- Cutting a text at a byte, however many cuts are let, so long as they are enough. -/
namespace Go.Proofs.YtialedffpaoacaaGreatDoor

theorem splitK_enough (c : UInt8) : ∀ (k k' : Nat) (s : List UInt8), s.count c ≤ k → s.count c ≤ k' → Lib.splitK [c] 0 k s = Lib.splitK [c] 0 k' s := by
  intro k
  induction k with
  | zero =>
    intro k' s h _
    have hn : c ∉ s := by
      intro hm
      have := List.count_pos_iff.2 hm
      omega
    rw [splitK_no c 0 s hn, splitK_no c k' s hn]
  | succ k ih =>
    intro k' s h h'
    rcases index_form c s with ⟨_, hn⟩ | ⟨p, r, rfl, hp, _⟩
    · rw [splitK_no c _ s hn, splitK_no c k' s hn]
    · have hc : (p ++ c :: r).count c = r.count c + 1 := by
        rw [List.count_append, List.count_eq_zero.2 hp, List.count_cons_self]; omega
      rw [hc] at h h'
      obtain ⟨j, rfl⟩ : ∃ j, k' = j + 1 := ⟨k' - 1, by omega⟩
      rw [splitK_hit c k p r hp, splitK_hit c j p r hp, ih j r (by omega) (by omega)]
theorem splitK_addr (l : List UInt8) : Lib.splitK [46] 0 (min 5 (l.length + 1) - 1) l = Lib.splitK [46] 0 4 l := by
  by_cases h : 4 ≤ l.length
  · rw [show min 5 (l.length + 1) - 1 = 4 by omega]
  · have hc : l.count 46 ≤ l.length := List.count_le_length
    exact splitK_enough 46 _ _ l (by omega) (by omega)
theorem splitK_len (c : UInt8) : ∀ (k : Nat) (s : List UInt8), (Lib.splitK [c] 0 k s).length ≤ k + 1
  | 0, _ => by simp [Lib.splitK]
  | k + 1, s => by
    rcases index_form c s with ⟨_, hn⟩ | ⟨p, r, rfl, hp, _⟩
    · rw [splitK_no c _ s hn]; simp
    · rw [splitK_hit c k p r hp, List.length_cons]
      have := splitK_len c k r
      omega
theorem splitK_short (c : UInt8) : ∀ (k : Nat) (s : List UInt8), ∀ p ∈ Lib.splitK [c] 0 k s, p.length ≤ s.length
  | 0, s, p, hp => by simp [Lib.splitK] at hp; rw [hp]; exact Nat.le_refl _
  | k + 1, s, q, hq => by
    rcases index_form c s with ⟨_, hn⟩ | ⟨p, r, rfl, hp, _⟩
    · rw [splitK_no c _ s hn] at hq; simp at hq; rw [hq]; exact Nat.le_refl _
    · rw [splitK_hit c k p r hp] at hq
      rcases List.mem_cons.1 hq with rfl | hq
      · simp
      · have := splitK_short c k r q hq
        simp; omega
end Go.Proofs.YtialedffpaoacaaGreatDoor
