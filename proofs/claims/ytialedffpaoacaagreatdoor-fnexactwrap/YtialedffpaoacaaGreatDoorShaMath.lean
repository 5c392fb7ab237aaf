/- SHA-256 in plain numbers: turned words, a block's numbers, rounds, the filled text, the digest. -/
import Derived.Test.YtialedffpaoacaaGreatDoorBits
namespace Go.Proofs.YtialedffpaoacaaGreatDoor

/-- A word turned right by k. -/
def rotr (k x : Nat) : Nat := x / 2 ^ k ||| (x * 2 ^ (32 - k)) % 4294967296
theorem lt32_or {a b : Nat} (ha : a < 4294967296) (hb : b < 4294967296) : a ||| b < 4294967296 := Nat.or_lt_two_pow (n := 32) ha hb
theorem lt32_xor {a b : Nat} (ha : a < 4294967296) (hb : b < 4294967296) : a ^^^ b < 4294967296 := Nat.xor_lt_two_pow (n := 32) ha hb
theorem lt32_and {a b : Nat} (ha : a < 4294967296) : a &&& b < 4294967296 := Nat.lt_of_le_of_lt Nat.and_le_left ha
theorem div_lt32 (k : Nat) {x : Nat} (h : x < 4294967296) : x / 2 ^ k < 4294967296 := Nat.lt_of_le_of_lt (Nat.div_le_self _ _) h
theorem rotr_lt (k : Nat) {x : Nat} (h : x < 4294967296) : rotr k x < 4294967296 := lt32_or (div_lt32 k h) (Nat.mod_lt _ (by omega))
def tri (a b c x : Nat) : Nat := rotr a x ^^^ rotr b x ^^^ rotr c x
def duo (a b c x : Nat) : Nat := rotr a x ^^^ rotr b x ^^^ (x / 2 ^ c)
theorem tri_lt (a b c : Nat) {x : Nat} (h : x < 4294967296) : tri a b c x < 4294967296 := lt32_xor (lt32_xor (rotr_lt a h) (rotr_lt b h)) (rotr_lt c h)
theorem duo_lt (a b c : Nat) {x : Nat} (h : x < 4294967296) : duo a b c x < 4294967296 := lt32_xor (lt32_xor (rotr_lt a h) (rotr_lt b h)) (div_lt32 c h)
def chN (e f g : Nat) : Nat := (e &&& f) ^^^ ((4294967295 - e) &&& g)
def majN (a b c : Nat) : Nat := (a &&& b) ^^^ (a &&& c) ^^^ (b &&& c)
theorem chN_lt {e f g : Nat} (he : e < 4294967296) : chN e f g < 4294967296 := lt32_xor (lt32_and he) (lt32_and (by omega))
theorem majN_lt {a b c : Nat} (ha : a < 4294967296) (hb : b < 4294967296) : majN a b c < 4294967296 := lt32_xor (lt32_xor (lt32_and ha) (lt32_and ha)) (lt32_and hb)

/-- Four bytes as a word, the highest first. -/
def wordOf (l : List UInt8) (i : Nat) : Nat := (l.getD (4 * i) 0).toNat * 16777216 + (l.getD (4 * i + 1) 0).toNat * 65536 + (l.getD (4 * i + 2) 0).toNat * 256 + (l.getD (4 * i + 3) 0).toNat
theorem wordOf_lt (l : List UInt8) (i : Nat) : wordOf l i < 4294967296 := by
  unfold wordOf
  have h0 := (l.getD (4 * i) 0).toNat_lt
  have h1 := (l.getD (4 * i + 1) 0).toNat_lt
  have h2 := (l.getD (4 * i + 2) 0).toNat_lt
  have h3 := (l.getD (4 * i + 3) 0).toNat_lt
  omega
/-- The next one of a block's numbers, behind those of l. -/
def nextW (b : List UInt8) (l : List Nat) : Nat :=
  if l.length < 16 then wordOf b l.length
  else (l.getD (l.length - 16) 0 + duo 7 18 3 (l.getD (l.length - 15) 0) + l.getD (l.length - 7) 0 + duo 17 19 10 (l.getD (l.length - 2) 0)) % 4294967296
/-- The first n of a block's numbers. -/
def wl (b : List UInt8) : Nat → List Nat
  | 0 => []
  | n + 1 => wl b n ++ [nextW b (wl b n)]
theorem wl_length (b : List UInt8) (n : Nat) : (wl b n).length = n := by
  induction n with
  | zero => rfl
  | succ n ih => simp [wl, ih]
theorem nextW_lt (b : List UInt8) (l : List Nat) : nextW b l < 4294967296 := by
  unfold nextW
  split
  · exact wordOf_lt b _
  · exact Nat.mod_lt _ (by omega)
theorem wl_lt (b : List UInt8) (n : Nat) : ∀ x ∈ wl b n, x < 4294967296 := by
  induction n with
  | zero => intro x hx; cases hx
  | succ n ih =>
    intro x hx
    simp only [wl, List.mem_append, List.mem_singleton] at hx
    rcases hx with h | rfl
    · exact ih x h
    · exact nextW_lt b _
theorem getD_lt32 {l : List Nat} (h : ∀ x ∈ l, x < 4294967296) (i : Nat) : l.getD i 0 < 4294967296 := by
  rw [List.getD_eq_getElem?_getD]
  cases hq : l[i]? with
  | none => simp
  | some v => simpa using h v (List.mem_of_getElem? hq)
theorem nextW_low (b : List UInt8) (n : Nat) (h : n < 16) : nextW b (wl b n) = wordOf b n := by simp [nextW, wl_length, h]
theorem nextW_high (b : List UInt8) (n : Nat) (h : ¬ n < 16) : nextW b (wl b n) = ((wl b n).getD (n - 16) 0 + duo 7 18 3 ((wl b n).getD (n - 15) 0) + (wl b n).getD (n - 7) 0 + duo 17 19 10 ((wl b n).getD (n - 2) 0)) % 4294967296 := by
  simp only [nextW, wl_length, if_neg h]

structure S8 where
  a : Nat
  b : Nat
  c : Nat
  d : Nat
  e : Nat
  f : Nat
  g : Nat
  h : Nat
def S8.ok (s : S8) : Prop := s.a < 4294967296 ∧ s.b < 4294967296 ∧ s.c < 4294967296 ∧ s.d < 4294967296 ∧ s.e < 4294967296 ∧ s.f < 4294967296 ∧ s.g < 4294967296 ∧ s.h < 4294967296
def S8.list (s : S8) : List Nat := [s.a, s.b, s.c, s.d, s.e, s.f, s.g, s.h]
theorem S8.list_length (s : S8) : s.list.length = 8 := rfl
def t1N (s : S8) (add : Nat) : Nat := (s.h + tri 6 11 25 s.e + chN s.e s.f s.g + add) % 4294967296
def t2N (s : S8) : Nat := (tri 2 13 22 s.a + majN s.a s.b s.c) % 4294967296
/-- One round, under the sum of the round's key and number. -/
def roundN (s : S8) (add : Nat) : S8 := ⟨(t1N s add + t2N s) % 4294967296, s.a, s.b, s.c, (s.d + t1N s add) % 4294967296, s.e, s.f, s.g⟩
theorem roundN_ok {s : S8} (add : Nat) (h : s.ok) : (roundN s add).ok := by
  obtain ⟨h0, h1, h2, h3, h4, h5, h6, h7⟩ := h
  exact ⟨Nat.mod_lt _ (by omega), h0, h1, h2, Nat.mod_lt _ (by omega), h4, h5, h6⟩
def keysN : List Nat := [
  0x428a2f98, 0x71374491, 0xb5c0fbcf, 0xe9b5dba5, 0x3956c25b, 0x59f111f1, 0x923f82a4, 0xab1c5ed5,
  0xd807aa98, 0x12835b01, 0x243185be, 0x550c7dc3, 0x72be5d74, 0x80deb1fe, 0x9bdc06a7, 0xc19bf174,
  0xe49b69c1, 0xefbe4786, 0x0fc19dc6, 0x240ca1cc, 0x2de92c6f, 0x4a7484aa, 0x5cb0a9dc, 0x76f988da,
  0x983e5152, 0xa831c66d, 0xb00327c8, 0xbf597fc7, 0xc6e00bf3, 0xd5a79147, 0x06ca6351, 0x14292967,
  0x27b70a85, 0x2e1b2138, 0x4d2c6dfc, 0x53380d13, 0x650a7354, 0x766a0abb, 0x81c2c92e, 0x92722c85,
  0xa2bfe8a1, 0xa81a664b, 0xc24b8b70, 0xc76c51a3, 0xd192e819, 0xd6990624, 0xf40e3585, 0x106aa070,
  0x19a4c116, 0x1e376c08, 0x2748774c, 0x34b0bcb5, 0x391c0cb3, 0x4ed8aa4a, 0x5b9cca4f, 0x682e6ff3,
  0x748f82ee, 0x78a5636f, 0x84c87814, 0x8cc70208, 0x90befffa, 0xa4506ceb, 0xbef9a3f7, 0xc67178f2]
theorem keysN_length : keysN.length = 64 := rfl
theorem keysN_lt : ∀ x ∈ keysN, x < 4294967296 := by decide
/-- The state behind k rounds. -/
def roundsN (ws : List Nat) (s : S8) : Nat → S8
  | 0 => s
  | k + 1 => roundN (roundsN ws s k) (keysN.getD k 0 + ws.getD k 0)
theorem roundsN_ok (ws : List Nat) {s : S8} (h : s.ok) (k : Nat) : (roundsN ws s k).ok := by
  induction k with
  | zero => exact h
  | succ k ih => exact roundN_ok _ ih
def addS (s v : S8) : S8 := ⟨(s.a + v.a) % 4294967296, (s.b + v.b) % 4294967296, (s.c + v.c) % 4294967296, (s.d + v.d) % 4294967296, (s.e + v.e) % 4294967296, (s.f + v.f) % 4294967296, (s.g + v.g) % 4294967296, (s.h + v.h) % 4294967296⟩
theorem addS_ok (s v : S8) : (addS s v).ok := ⟨Nat.mod_lt _ (by omega), Nat.mod_lt _ (by omega), Nat.mod_lt _ (by omega), Nat.mod_lt _ (by omega), Nat.mod_lt _ (by omega), Nat.mod_lt _ (by omega), Nat.mod_lt _ (by omega), Nat.mod_lt _ (by omega)⟩
/-- The state behind one more block. -/
def blockN (s : S8) (b : List UInt8) : S8 := addS s (roundsN (wl b 64) s 64)
theorem blockN_ok (s : S8) (b : List UInt8) : (blockN s b).ok := addS_ok _ _
def startN : S8 := ⟨0x6a09e667, 0xbb67ae85, 0x3c6ef372, 0xa54ff53a, 0x510e527f, 0x9b05688c, 0x1f83d9ab, 0x5be0cd19⟩
theorem startN_ok : startN.ok := by unfold S8.ok startN; decide
/-- Block number k of a filled text. -/
def blk (p : List UInt8) (k : Nat) : List UInt8 := (p.drop (64 * k)).take 64
theorem blk_length (p : List UInt8) (k n : Nat) (h : p.length = 64 * n) (hk : k < n) : (blk p k).length = 64 := by
  unfold blk; rw [List.length_take, List.length_drop]; omega
/-- The state behind the first k blocks. -/
def overN (p : List UInt8) : Nat → S8
  | 0 => startN
  | k + 1 => blockN (overN p k) (blk p k)
theorem overN_ok (p : List UInt8) (k : Nat) : (overN p k).ok := by
  cases k with
  | zero => exact startN_ok
  | succ k => exact blockN_ok _ _
/-- A number of 64 bits as eight bytes, the highest first. -/
def be8 (n : Nat) : List UInt8 := [UInt8.ofNat (n / 2 ^ 56 % 256), UInt8.ofNat (n / 2 ^ 48 % 256), UInt8.ofNat (n / 2 ^ 40 % 256), UInt8.ofNat (n / 2 ^ 32 % 256), UInt8.ofNat (n / 2 ^ 24 % 256), UInt8.ofNat (n / 2 ^ 16 % 256), UInt8.ofNat (n / 2 ^ 8 % 256), UInt8.ofNat (n % 256)]
def zerosN (n : Nat) : Nat := (64 - (n + 9) % 64) % 64
/-- The filled text. -/
def padN (t : List UInt8) : List UInt8 := t ++ (128 :: (List.replicate (zerosN t.length) 0 ++ be8 (8 * t.length)))
theorem padN_length (t : List UInt8) : (padN t).length = t.length + 9 + zerosN t.length := by simp [padN, be8]; omega
def blocksN (n : Nat) : Nat := (n + 9 + zerosN n) / 64
theorem blocksN_eq (n : Nat) : n + 9 + zerosN n = 64 * blocksN n := by unfold blocksN zerosN; omega
/-- A word as four bytes, the highest first. -/
def be4 (n : Nat) : List UInt8 := [UInt8.ofNat (n / 16777216 % 256), UInt8.ofNat (n / 65536 % 256), UInt8.ofNat (n / 256 % 256), UInt8.ofNat (n % 256)]
def outN (l : List Nat) : List UInt8 := l.flatMap be4
theorem outN_length (l : List Nat) : (outN l).length = 4 * l.length := by
  induction l with
  | nil => rfl
  | cons a l ih => simp only [outN, List.flatMap_cons, List.length_append, List.length_cons] at ih ⊢; rw [ih]; simp [be4]; omega
theorem outN_snoc (l : List Nat) (x : Nat) : outN (l ++ [x]) = outN l ++ be4 x := by simp [outN]
/-- The digest of a text. -/
def digestN (t : List UInt8) : List UInt8 := outN (overN (padN t) (blocksN t.length)).list
theorem digestN_length (t : List UInt8) : (digestN t).length = 32 := by rw [digestN, outN_length]; rfl
def digestT (t : ByteArray) : ByteArray := ⟨(digestN t.data.toList).toArray⟩
theorem digestT_size (t : ByteArray) : (digestT t).size = 32 := by
  show (digestN t.data.toList).toArray.size = 32
  simp [digestN_length]
/-- A key of at most 64 bytes filled up, each byte put together with a mask. -/
def padK (key : List UInt8) (m : UInt8) : List UInt8 := (key ++ List.replicate (64 - key.length) 0).map (· ^^^ m)
theorem padK_length (key : List UInt8) (m : UInt8) (h : key.length ≤ 64) : (padK key m).length = 64 := by simp [padK]; omega
def keyN (key : List UInt8) : List UInt8 := if key.length ≤ 64 then key else digestN key
theorem keyN_length (key : List UInt8) : (keyN key).length ≤ 64 := by
  unfold keyN; split
  · assumption
  · rw [digestN_length]; omega
def macN (key text : List UInt8) : List UInt8 := digestN (padK (keyN key) 92 ++ digestN (padK (keyN key) 54 ++ text))
theorem macN_length (k t : List UInt8) : (macN k t).length = 32 := digestN_length _
def macT (k t : ByteArray) : ByteArray := ⟨(macN k.data.toList t.data.toList).toArray⟩
theorem macT_size (k t : ByteArray) : (macT k t).size = 32 := by
  show (macN _ _).toArray.size = 32
  simp [macN_length]
def saltT : ByteArray := ⟨#[115, 97, 108, 116]⟩
/-- What k rounds of stretching tell. -/
def stretchT (p : ByteArray) : Nat → ByteArray
  | 0 => saltT
  | k + 1 => macT p (stretchT p k)
theorem stretchT_size (p : ByteArray) (k : Nat) : (stretchT p k).size ≤ 32 := by
  cases k with
  | zero => exact (by decide : saltT.size ≤ 32)
  | succ k => exact Nat.le_of_eq (macT_size _ _)
end Go.Proofs.YtialedffpaoacaaGreatDoor
