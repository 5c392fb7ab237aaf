/- readNum: bytes read by gotos from state to state. (Written by gen_readnum.py.) -/
import Derived.Test.YtflgiohhkoplaadDoorGetMath
import Derived.Test.YtflgiohhkoplaadDoorUnfolded
import Derived.Test.YtflgiohhkoplaadDoorGotos
namespace Go.Proofs.YtflgiohhkoplaadDoor
open Go.RowKit

/-- The byte at place p of t is b. -/
def ByteAt (t : ByteArray) (p b : Nat) : Prop := ∃ h : p < t.size, t[p].toNat = b
/-- What readNum hands back: the number, the place behind it, and why not. -/
def readV (R : Int × Int × Int) : Value := .tuple #[.int .i64 R.1, .int .i64 R.2.1, if R.2.2 = 0 then .nilIface else .iface 41 (.agg #[.int .i64 R.2.2])]
theorem readV_ok {R : Int × Int × Int} {n p : Int} (h : R = (n, p, 0)) : readV R = .tuple #[.int .i64 n, .int .i64 p, .nilIface] := by rw [h]; rfl
theorem readV_no {R : Int × Int × Int} {c : Int} (h : R = (0, 0, c) ∧ c ≠ 0) : readV R = .tuple #[.int .i64 0, .int .i64 0, .iface 41 (.agg #[.int .i64 c])] := by
  unfold readV; rw [h.1]; simp only [if_neg h.2]

/-- What holds at each label: 1 more, 2 last, 0 wrong. -/
def AtLabel (t : ByteArray) (a : Nat) (R : Int × Int × Int) (w : World) (l : Nat) (a' : Act) (w' : World) : Prop :=
  w' = w ∧ ∃ x11 x12 x13 x14 x15 x16 x17 x18 x19 x20 x21 x22 x23 x24 x25 x26 x27 x28 x29 x30 x31 x32 x33 x34 x35 x36 x37 x38 x39 x40 x41 x42 x43 x44 x45 x46 x47 x48 x49 x50 x51 x52 x53 x54 x55 x56 x57 x58 : Value, (l = 1 ∧ ∃ (k u b : Nat) (p s : Int), k ≤ 9 ∧ p = (a : Int) + k ∧ s = 7 * (k : Int) ∧ Hid (GetRel t a R k u) ∧ a' = { tmps := #[.string t, .int .i64 (p), undef, undef, .int .i64 0, .int .i64 0, .nilIface, .int .u64 (u : Nat), .int .u64 (b : Nat), .int .u64 (s), .int .i64 (4), x11, x12, x13, x14, x15, x16, x17, x18, x19, x20, x21, x22, x23, x24, x25, x26, x27, x28, x29, x30, x31, x32, x33, x34, x35, x36, x37, x38, x39, x40, x41, x42, x43, x44, x45, x46, x47, x48, x49, x50, x51, x52, x53, x54, x55, x56, x57, x58], defers := [] }) ∨ (l = 2 ∧ ∃ (k u b : Nat) (p s : Int), k ≤ 9 ∧ p = (a : Int) + k + 1 ∧ s = 7 * (k : Int) ∧ Hid (GetRel t a R k u) ∧ Hid (ByteAt t (a + k) b) ∧ b < 256 ∧ a + k < 8000 ∧ (b < 128 ∨ 9 ≤ k) ∧ a' = { tmps := #[.string t, .int .i64 (p), undef, undef, .int .i64 0, .int .i64 0, .nilIface, .int .u64 (u : Nat), .int .u64 (b : Nat), .int .u64 (s), .int .i64 (4), x11, x12, x13, x14, x15, x16, x17, x18, x19, x20, x21, x22, x23, x24, x25, x26, x27, x28, x29, x30, x31, x32, x33, x34, x35, x36, x37, x38, x39, x40, x41, x42, x43, x44, x45, x46, x47, x48, x49, x50, x51, x52, x53, x54, x55, x56, x57, x58], defers := [] }) ∨ (l = 0 ∧ ∃ (p : Int) (u b s : Nat) (c : Int), Hid (R = (0, 0, c) ∧ c ≠ 0) ∧ a' = { tmps := #[.string t, .int .i64 (p), undef, undef, .int .i64 0, .int .i64 0, .nilIface, .int .u64 (u : Nat), .int .u64 (b : Nat), .int .u64 (s : Nat), .int .i64 (c), x11, x12, x13, x14, x15, x16, x17, x18, x19, x20, x21, x22, x23, x24, x25, x26, x27, x28, x29, x30, x31, x32, x33, x34, x35, x36, x37, x38, x39, x40, x41, x42, x43, x44, x45, x46, x47, x48, x49, x50, x51, x52, x53, x54, x55, x56, x57, x58], defers := [] })
def labelsLeft (l : Nat) (a' : Act) (_ : World) : Nat := if l = 1 then 100 - (intOf (a'.tmps.getD 9 undef)).toNat else l

theorem GetRel.noughtB {t : ByteArray} {a : Nat} {R : Int × Int × Int} {i u b : Nat} (h : GetRel t a R i u) (hb : ByteAt t (a + i) b) (hi : 0 < i) (h1 : b = 0) : R = (0, 0, 3) := by
  obtain ⟨hs, e⟩ := hb
  exact h.nought hs hi (by omega)
theorem GetRel.tenthB {t : ByteArray} {a : Nat} {R : Int × Int × Int} {i u b : Nat} (h : GetRel t a R i u) (hb : ByteAt t (a + i) b) (hi : 9 ≤ i) (h1 : 1 < b) : R = (0, 0, 3) := by
  obtain ⟨hs, e⟩ := hb
  exact h.tenth hs (by have := h.1; omega) (by omega)
theorem GetRel.lastB {t : ByteArray} {a : Nat} {R : Int × Int × Int} {i u b : Nat} (h : GetRel t a R i u) (hb : ByteAt t (a + i) b) (h9 : ¬ (9 ≤ i ∧ 1 < b)) (h1 : b < 128 ∨ 9 ≤ i) (h0 : ¬ (b = 0 ∧ 0 < i)) : R = (unfoldN (u + b * 2 ^ (7 * i)), ((a + i + 1 : Nat) : Int), 0) := by
  obtain ⟨hs, e⟩ := hb
  subst e
  exact h.last hs (by have := h.1; omega) (by omega) h0

/-- 'u | b << s', u below 2^s: as the walk writes it. -/
theorem or_shift (u b k : Nat) (hu : u < 2 ^ (7 * k)) (h : u + b * 2 ^ (7 * k) < 18446744073709551616) : bits .or .u64 (u : Int) (IntKind.u64.wrap ((b : Int) * 2 ^ (7 * k))) = ((u + b * 2 ^ (7 * k) : Nat) : Int) := by
  have e1 : (b : Int) * 2 ^ (7 * k) = ((b * 2 ^ (7 * k) : Nat) : Int) := by simp
  have hm : b * 2 ^ (7 * k) < 18446744073709551616 := by omega
  rw [e1, IntKind.wrap_u64, show ((b * 2 ^ (7 * k) : Nat) : Int) % 18446744073709551616 = ((b * 2 ^ (7 * k) : Nat) : Int) by omega, u64_or_nat u _ (by omega) hm, Nat.or_comm, nat_join (7 * k) _ u (by simp) hu, Nat.add_comm]
end Go.Proofs.YtflgiohhkoplaadDoor
