/- Texts that stand on each other, in one file: WireMath. -/
import Derived.WalkKit
/- Words, their sums, datagrams and frames, in plain lists of bytes. -/
namespace Go.Proofs.YtialedffpaoacaaGreatDoor

def wordL (n : Int) : List UInt8 := [UInt8.ofNat (n / 256 % 256).toNat, UInt8.ofNat (n % 256).toNat]
def wordsL (ns : List Int) : List UInt8 := ns.flatMap wordL
theorem wordsL_nil : wordsL [] = [] := rfl
theorem wordsL_cons (n : Int) (ns : List Int) : wordsL (n :: ns) = wordL n ++ wordsL ns := rfl
theorem wordsL_append (a b : List Int) : wordsL (a ++ b) = wordsL a ++ wordsL b := by simp [wordsL]
theorem wordL_length (n : Int) : (wordL n).length = 2 := rfl
theorem wordsL_length (ns : List Int) : (wordsL ns).length = 2 * ns.length := by
  induction ns with
  | nil => rfl
  | cons a l ih => rw [wordsL_cons, List.length_append, ih, wordL_length, List.length_cons]; omega
theorem wordL_low (n : Int) : wordL (n % 65536) = wordL n := by
  unfold wordL
  rw [show n % 65536 / 256 % 256 = n / 256 % 256 by omega, show n % 65536 % 256 = n % 256 by omega]
/-- The sum of words, byte by byte; 'true': at a higher byte. -/
def ra : Bool → List UInt8 → Nat
  | _, [] => 0
  | true, a :: l => 256 * a.toNat + ra false l
  | false, a :: l => a.toNat + ra true l
theorem ra_nil (b : Bool) : ra b [] = 0 := by cases b <;> rfl
theorem ra_le (b : Bool) (l : List UInt8) : ra b l ≤ 65280 * l.length := by
  induction l generalizing b with
  | nil => rw [ra_nil]; omega
  | cons a l ih =>
    have ha : a.toNat < 256 := a.toNat_lt
    cases b
    · have := ih true; simp only [ra, List.length_cons]; omega
    · have := ih false; simp only [ra, List.length_cons]; omega
theorem ra_at (l : List UInt8) (i : Nat) (h : i < l.length) (b : Bool) : ra b (l.drop i) = (if b then 256 * l[i].toNat else l[i].toNat) + ra (!b) (l.drop (i + 1)) := by
  rw [List.drop_eq_getElem_cons h]
  cases b <;> simp [ra]
theorem ra_at2 (l : List UInt8) (i : Nat) (h : i + 1 < l.length) : ra true (l.drop i) = 256 * l[i].toNat + l[i + 1].toNat + ra true (l.drop (i + 2)) := by
  rw [List.drop_eq_getElem_cons (i := i) (by omega), List.drop_eq_getElem_cons h, show i + 2 = i + 1 + 1 from rfl]
  simp only [ra]
  omega
theorem ra_at1 (l : List UInt8) (i : Nat) (h : i < l.length) (h2 : ¬ i + 1 < l.length) : ra true (l.drop i) = 256 * l[i].toNat := by
  rw [List.drop_eq_getElem_cons h, List.drop_eq_nil_of_le (by omega)]
  simp [ra]
/-- What is above 65535 added to what is below, again and again. -/
def foldN (n : Nat) : Nat := if n = 0 then 0 else (n - 1) % 65535 + 1
theorem foldN_small (n : Nat) (h : n ≤ 65535) : foldN n = n := by unfold foldN; split <;> omega
theorem foldN_le (n : Nat) : foldN n ≤ 65535 := by unfold foldN; split <;> omega
theorem foldN_step (n : Nat) (h : 65535 < n) : foldN (n / 65536 + n % 65536) = foldN n := by
  unfold foldN; rw [if_neg (by omega), if_neg (by omega)]; omega
def sumN (l : List UInt8) : Nat := 65535 - foldN (ra true l)
theorem sumN_le (l : List UInt8) : sumN l ≤ 65535 := by unfold sumN; omega
/-- The number in some bytes, the highest first. -/
def numL (l : List UInt8) : Nat := l.foldl (fun n b => 256 * n + b.toNat) 0
theorem numL_take (l : List UInt8) (i : Nat) (h : i < l.length) : numL (l.take (i + 1)) = 256 * numL (l.take i) + l[i].toNat := by
  unfold numL
  rw [List.take_succ_eq_append_getElem h, List.foldl_append]; rfl
theorem numL_lt (l : List UInt8) : numL l < 256 ^ l.length := by
  unfold numL
  have : ∀ (l : List UInt8) (n k : Nat), n < 256 ^ k → l.foldl (fun n b => 256 * n + b.toNat) n < 256 ^ (k + l.length) := by
    intro l
    induction l with
    | nil => intro n k h; simpa using h
    | cons a l ih =>
      intro n k h
      have ha : a.toNat < 256 := a.toNat_lt
      have := ih (256 * n + a.toNat) (k + 1) (by rw [Nat.pow_succ]; omega)
      rw [List.foldl_cons, List.length_cons, show k + (l.length + 1) = k + 1 + l.length by omega]
      exact this
  have := this l 0 0 (by simp)
  simpa using this

/-- A datagram's head with a sum, and what stands behind it. -/
def headL (s d ttl : Int) (n : Nat) (sum : Int) : List UInt8 := wordsL [17664, 28 + (n : Int), 0, 0, ttl * 256 + 17, sum, s / 65536, s, d / 65536, d]
def bodyL (sp dp : Int) (t : List UInt8) (sum : Int) : List UInt8 := wordsL [sp, dp, 8 + (t.length : Int), sum] ++ t
def aheadL (s d : Int) (n : Nat) : List UInt8 := wordsL [s / 65536, s, d / 65536, d, 17, 8 + (n : Int)]
theorem headL_length (s d ttl : Int) (n : Nat) (sum : Int) : (headL s d ttl n sum).length = 20 := by rw [headL, wordsL_length]; rfl
theorem bodyL_length (sp dp : Int) (t : List UInt8) (sum : Int) : (bodyL sp dp t sum).length = 8 + t.length := by rw [bodyL, List.length_append, wordsL_length]; rfl
def bsumN (s d sp dp : Int) (t : List UInt8) : Nat := if sumN (aheadL s d t.length ++ bodyL sp dp t 0) = 0 then 65535 else sumN (aheadL s d t.length ++ bodyL sp dp t 0)
theorem bsumN_le (s d sp dp : Int) (t : List UInt8) : bsumN s d sp dp t ≤ 65535 := by
  unfold bsumN; split
  · omega
  · exact sumN_le _
def dgL (s d sp dp ttl : Int) (t : List UInt8) : List UInt8 := headL s d ttl t.length (sumN (headL s d ttl t.length 0)) ++ bodyL sp dp t (bsumN s d sp dp t)
theorem dgL_length (s d sp dp ttl : Int) (t : List UInt8) : (dgL s d sp dp ttl t).length = 28 + t.length := by
  rw [dgL, List.length_append, headL_length, bodyL_length]; omega
/-- A frame's bytes. -/
def frL (v : Int) (t : List UInt8) : List UInt8 := wordsL [0, 0, 0, 0, 0, 0, 33024, v, 2048] ++ t
theorem frL_length (v : Int) (t : List UInt8) : (frL v t).length = 18 + t.length := by rw [frL, List.length_append, wordsL_length]; rfl
/-- A datagram's text without its sums. -/
def bareL (l : List UInt8) : List UInt8 := l.take 10 ++ ((l.drop 12).take 14 ++ l.drop 28)
def bareZ (l : List UInt8) : List UInt8 := l.take 10 ++ ([0, 0] ++ ((l.drop 12).take 14 ++ ([0, 0] ++ l.drop 28)))
theorem bare_iff (a b : List UInt8) (ha : 28 ≤ a.length) (hb : 28 ≤ b.length) : bareZ a = bareZ b ↔ bareL a = bareL b := by
  have h1 : (a.take 10).length = (b.take 10).length := by simp; omega
  have h2 : ((a.drop 12).take 14).length = ((b.drop 12).take 14).length := by simp; omega
  unfold bareZ bareL
  constructor
  · intro h
    obtain ⟨e1, h⟩ := List.append_inj h h1
    obtain ⟨_, h⟩ := List.append_inj h rfl
    obtain ⟨e2, h⟩ := List.append_inj h h2
    obtain ⟨_, e3⟩ := List.append_inj h rfl
    rw [e1, e2, e3]
  · intro h
    obtain ⟨e1, h⟩ := List.append_inj h h1
    obtain ⟨e2, e3⟩ := List.append_inj h h2
    rw [e1, e2, e3]
end Go.Proofs.YtialedffpaoacaaGreatDoor
