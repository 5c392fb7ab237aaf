/- PutNum, of the model and of the program: the same bytes. -/
import Derived.Test.YtflgiohhkoplaadRows
import Derived.Test.YtflgiohhkoplaadBytes
import Derived.Test.YtflgiohhkoplaadBits
import Derived.BigGuardPart
namespace Go.Proofs.Ytflgiohhkoplaad
open Go.RowKit

/-- The number from 0 to 2^64-1 that stands for n. -/
def foldN (n : Int) : Nat := if n < 0 then (-2 * n - 1).toNat else (2 * n).toNat
/-- Seven bits a byte, the lowest first; the fuel says how many bytes may still come behind this one. -/
def numB : Nat → Nat → List UInt8
  | 0, u => [UInt8.ofNat u]
  | f + 1, u => if 128 ≤ u then UInt8.ofNat (u % 128 + 128) :: numB f (u / 128) else [UInt8.ofNat u]
def putNumB (n : Int) : List UInt8 := numB 9 (foldN n)

theorem foldN_lt (n : Int) (h0 : -9223372036854775808 ≤ n) (h1 : n ≤ 9223372036854775807) : foldN n < 2 * 128 ^ 9 := by
  unfold foldN; split <;> omega
theorem numB_length (f u : Nat) : (numB f u).length ≤ f + 1 ∧ 1 ≤ (numB f u).length := by
  induction f generalizing u with
  | zero => simp [numB]
  | succ f ih => unfold numB; split
                 · have := ih (u / 128); simp; omega
                 · simp
theorem numB_stop (f u : Nat) (h : u < 128) : numB f u = [UInt8.ofNat u] := by
  cases f with
  | zero => rfl
  | succ f => simp [numB]; omega
theorem numB_go (f u : Nat) (h : 128 ≤ u) : numB (f + 1) u = UInt8.ofNat (u % 128 + 128) :: numB f (u / 128) := by
  simp [numB, h]
theorem fuel_pos {f u : Nat} (h : 128 ≤ u) (hu : u < 2 * 128 ^ f) : ∃ f', f = f' + 1 ∧ u / 128 < 2 * 128 ^ f' := by
  cases f with
  | zero => simp at hu; omega
  | succ f => exact ⟨f, rfl, by rw [Nat.pow_succ] at hu; omega⟩

theorem ret_u64 {a b : Int} (h : a = b) : Ending.returned (.int .u64 a) = .returned (.int .u64 b) := by rw [h]
theorem foldN_neg (n : Int) (h : n < 0) : (foldN n : Int) = -2 * n - 1 := by unfold foldN; rw [if_pos h]; omega
theorem foldN_pos (n : Int) (h : ¬ n < 0) : (foldN n : Int) = 2 * n := by unfold foldN; rw [if_neg h]; omega

theorem specFold_any (n : Int) (w : World) (h0 : -9223372036854775808 ≤ n) (h1 : n ≤ 9223372036854775807) :
    Calls Try.prog 15 #[.int .i64 n] w fun e w' => e = .returned (.int .u64 (foldN n)) ∧ w = w' := by
  by_cases h : n < 0
  · have HF : Hid ((foldN n : Int) = -2 * n - 1) := foldN_neg n h
    go_enter Try.func15, Try.ntmps15
    go_wp2
    go_ret
    exact ⟨ret_u64 (by rw [HF.out]; omega), rfl⟩
  · have HF : Hid ((foldN n : Int) = 2 * n) := foldN_pos n h
    go_enter Try.func15, Try.ntmps15
    go_wp2
    go_ret
    exact ⟨ret_u64 (by rw [HF.out]), rfl⟩
theorem implFold_any (n : Int) (w : World) (h0 : -9223372036854775808 ≤ n) (h1 : n ≤ 9223372036854775807) :
    Calls Try.prog 16 #[.int .i64 n] w fun e w' => e = .returned (.int .u64 (foldN n)) ∧ w = w' := by
  by_cases hn : n < 0
  · have HF : Hid ((foldN n : Int) = -2 * n - 1) := foldN_neg n hn
    go_enter Try.func16, Try.ntmps16
    go_wp2
    go_ret
    exact ⟨ret_u64 (by rw [HF.out]; exact fold_neg n h0 hn), rfl⟩
  · have HF : Hid ((foldN n : Int) = 2 * n) := foldN_pos n hn
    go_enter Try.func16, Try.ntmps16
    go_wp2
    go_ret
    exact ⟨ret_u64 (by rw [HF.out]; omega), rfl⟩

theorem Try.infoB : (Try.prog.info? 5).map (fun i => (i.zero, i.size, i.bytes)) = some (some (.int .u8 0), 1, 1) := by kernel_rfl

/-- What has been put, and what is still to put. -/
def PutRel (N : List UInt8) (l : List UInt8) (f u : Nat) : Prop := u < 2 * 128 ^ f ∧ l.length + f = 9 ∧ l ++ numB f u = N
theorem PutRel.len {N l : List UInt8} {f u : Nat} (h : PutRel N l f u) : l.length ≤ 9 := by have := h.2.1; omega
theorem PutRel.top {N l : List UInt8} {f u : Nat} (h : PutRel N l f u) : u < 18446744073709551616 := by
  have h1 := h.1
  have h2 : 128 ^ f ≤ 128 ^ 9 := Nat.pow_le_pow_right (by omega) (by have := h.2.1; omega)
  omega
theorem PutRel.step {N l : List UInt8} {f u : Nat} (h : PutRel N l f u) (hu : 128 ≤ u) : ∃ f', PutRel N (l ++ [UInt8.ofNat (u % 128 + 128)]) f' (u / 128) := by
  obtain ⟨f', rfl, hf⟩ := fuel_pos hu h.1
  refine ⟨f', hf, by have := h.2.1; simp; omega, ?_⟩
  rw [← h.2.2, numB_go f' u hu]; simp
theorem PutRel.stop {N l : List UInt8} {f u : Nat} (h : PutRel N l f u) (hu : u < 128) : l ++ [UInt8.ofNat u] = N := by
  rw [← h.2.2, numB_stop f u hu]

set_option maxRecDepth 100000 in
set_option maxHeartbeats 1000000 in
theorem specPutNum_any (n : Int) (w : World) (h0 : -9223372036854775808 ≤ n) (h1 : n ≤ 9223372036854775807) :
    Calls Try.prog 7 #[.int .i64 n] w fun e w' => e = .returned (.string ⟨(putNumB n).toArray⟩) ∧ Below w.heap.size w w' := by
  have hb := foldN_lt n h0 h1
  have HN : Hid (PutRel (putNumB n) [] 9 (foldN n)) := ⟨hb, rfl, rfl⟩
  clear hb
  generalize putNumB n = N at *
  go_enter Try.func7, Try.ntmps7
  go_wp2_with (go_at_call 15; refine (specFold_any _ _ h0 h1).mono ?_; rintro e w' ⟨rfl, rfl⟩)
  go_loopw [3, 4] (fun x v wr => ∃ (f u : Nat) (l : List UInt8), Hid (PutRel N l f u) ∧ x = .int .u64 u ∧ OwnB wr w.heap.size 5 v l ∧ Below w.heap.size w wr) (fun x _ _ => (intOf x).toNat)
  case atStart => exact ⟨9, _, [], HN, rfl, OwnB.made _ _ _ (Nat.le_refl _), (Below.refl _ _).alloc (Nat.le_refl _) _⟩
  case round =>
    obtain ⟨f, u, l, HR, rfl, hown, hbel⟩ := hrel
    have hl := HR.out.len
    have ht := HR.out.top
    have hsz := hbel.size
    by_cases hu : 128 ≤ u
    · go_wp2_with (at_builtin; refine wpList_append_byte rfl _ _ 29 rfl w.heap.size 5 Try.underlying29 Try.infoB _ l rfl (hown.alloc _) wr.heap.size ((u : Int) % 128 + 128) rfl ?c1 ?c2 ?c3 ?c4 ?_)
      case c1 => simp
      case c2 => omega
      case c3 => omega
      case c4 => simp; omega
      · intro v' w1 hown' hbel'
        go_wp2
        go_roundw
        case rel =>
          obtain ⟨f', HR'⟩ := HR.out.step hu
          exact ⟨f', u / 128, _, HR', by go_num, by rw [show u % 128 + 128 = ((u : Int) % 128 + 128).toNat by omega]; exact hown', (hbel.alloc hsz _).trans hbel'⟩
        case measure => simp [intOf]; omega
    · go_wp2_with (at_builtin; refine wpList_append_byte rfl _ _ 29 rfl w.heap.size 5 Try.underlying29 Try.infoB _ l rfl (hown.alloc _) wr.heap.size (u : Int) rfl ?d1 ?d2 ?d3 ?d4 ?_)
      case d1 => simp
      case d2 => omega
      case d3 => omega
      case d4 => simp; omega
      · intro v' w1 hown' hbel'
        have hconv := (hown'.text (by simp) 29 9 Try.underlying29 Try.underlying5 Try.underlying9).2
        have HS := HR.out.stop (show u < 128 by omega)
        rw [HS] at hconv
        clear HS hown'
        go_wp2
        go_ret
        exact ⟨rfl, (hbel.alloc hsz _).trans hbel'⟩
set_option maxRecDepth 100000 in
set_option maxHeartbeats 1000000 in
theorem implPutNum_any (n : Int) (w : World) (h0 : -9223372036854775808 ≤ n) (h1 : n ≤ 9223372036854775807) :
    Calls Try.prog 8 #[.int .i64 n] w fun e w' => e = .returned (.string ⟨(putNumB n).toArray⟩) ∧ Below w.heap.size w w' := by
  have hb := foldN_lt n h0 h1
  have HN : Hid (PutRel (putNumB n) [] 9 (foldN n)) := ⟨hb, rfl, rfl⟩
  clear hb
  generalize putNumB n = N at *
  go_enter Try.func8, Try.ntmps8
  go_wp2_with (go_at_call 16; refine (implFold_any _ _ h0 h1).mono ?_; rintro e w' ⟨rfl, rfl⟩)
  go_loopw [3, 4] (fun v x wr => ∃ (f u : Nat) (l : List UInt8), Hid (PutRel N l f u) ∧ x = .int .u64 u ∧ OwnB wr w.heap.size 5 v l ∧ Below w.heap.size w wr) (fun _ x _ => (intOf x).toNat)
  case atStart => exact ⟨9, _, [], HN, rfl, OwnB.nil _ _ _, Below.refl _ _⟩
  case round =>
    obtain ⟨f, u, l, HR, rfl, hown, hbel⟩ := hrel
    have hl := HR.out.len
    have ht := HR.out.top
    have hsz := hbel.size
    by_cases hu : 128 ≤ u
    · go_wp2_with (at_builtin; refine wpList_append_byte rfl _ _ 29 rfl w.heap.size 5 Try.underlying29 Try.infoB _ l rfl (hown.alloc _) wr.heap.size ((u : Int) % 128 + 128) rfl ?c1 ?c2 ?c3 ?c4 ?_)
      case c1 => simp
      case c2 => omega
      case c3 => omega
      case c4 => simp; omega
      · intro v' w1 hown' hbel'
        go_wp2
        go_roundw
        case rel =>
          obtain ⟨f', HR'⟩ := HR.out.step hu
          exact ⟨f', u / 128, _, HR', by go_num, by rw [show u % 128 + 128 = ((u : Int) % 128 + 128).toNat by omega]; exact hown', (hbel.alloc hsz _).trans hbel'⟩
        case measure => simp [intOf]; omega
    · go_wp2_with (at_builtin; refine wpList_append_byte rfl _ _ 29 rfl w.heap.size 5 Try.underlying29 Try.infoB _ l rfl (hown.alloc _) wr.heap.size (u : Int) rfl ?d1 ?d2 ?d3 ?d4 ?_)
      case d1 => simp
      case d2 => omega
      case d3 => omega
      case d4 => simp; omega
      · intro v' w1 hown' hbel'
        have hconv := (hown'.text (by simp) 29 9 Try.underlying29 Try.underlying5 Try.underlying9).2
        have HS := HR.out.stop (show u < 128 by omega)
        rw [HS] at hconv
        clear HS hown'
        go_wp2
        go_ret
        exact ⟨rfl, (hbel.alloc hsz _).trans hbel'⟩

theorem bounds_i64 {n : Int} (h : (Lit.int .i64 n).wf = true) : -9223372036854775808 ≤ n ∧ n ≤ 9223372036854775807 := by
  simp [Lit.wf, IntKind.min, IntKind.max, IntKind.bits, IntKind.signed] at h; omega
set_option maxRecDepth 100000 in
theorem fnExactPutNum_walk (a0 : Int) (w : World) (w0 : (Lit.int .i64 a0).wf = true) :
    Calls Try.prog 3 #[.int .i64 a0] w fun e w' => e = .returned (.bool true) ∧ Below w.heap.size w w' := by
  obtain ⟨h0, h1⟩ := bounds_i64 w0
  go_enter Try.func3, Try.ntmps3
  go_wp2_with fail
  refine (specPutNum_any a0 _ h0 h1).mono ?_
  rintro e w1 ⟨rfl, hb1⟩
  go_wp2_with fail
  refine (implPutNum_any a0 _ h0 h1).mono ?_
  rintro e w2 ⟨rfl, hb2⟩
  go_wp2
  go_ret
  exact ⟨rfl, hb1.trans (hb2.mono hb1.size)⟩
end Go.Proofs.Ytflgiohhkoplaad
