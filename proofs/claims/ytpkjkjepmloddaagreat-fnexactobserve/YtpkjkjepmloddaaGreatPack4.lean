/- Texts that stand on each other, in one file: Base, TimeD, KeyB, KeyD, KeyS, NumMath, BaseB, PutNum, Joined, PutText. -/
import Derived.Test.YtpkjkjepmloddaaGreatRows
import Derived.Test.YtpkjkjepmloddaaGreatPack3
import Derived.Test.YtpkjkjepmloddaaGreatPack1
import Derived.BigGuardPart
/- Small facts on this translation and on ends of calls. -/
namespace Go.Proofs.YtpkjkjepmloddaaGreat
open Go.RowKit

theorem ret_u64 {a b : Int} (h : a = b) : Ending.returned (.int .u64 a) = .returned (.int .u64 b) := by rw [h]
theorem ret_u32 {a b : Int} (h : a = b) : Ending.returned (.int .u32 a) = .returned (.int .u32 b) := by rw [h]
theorem ret_i64 {a b : Int} (h : a = b) : Ending.returned (.int .i64 a) = .returned (.int .i64 b) := by rw [h]
theorem ret_bool {a b : Bool} (h : a = b) : Ending.returned (.bool a) = .returned (.bool b) := by rw [h]
theorem bounds_i64 {n : Int} (h : (Lit.int .i64 n).wf = true) : -9223372036854775808 ≤ n ∧ n ≤ 9223372036854775807 := by
  simp [Lit.wf, IntKind.min, IntKind.max, IntKind.bits, IntKind.signed] at h; omega
theorem take_next (s : ByteArray) (k : Nat) (h : k < s.size) : s.data.toList.take (k + 1) = s.data.toList.take k ++ [s[k]] := by
  rw [List.take_succ_eq_append_getElem (by simpa using h)]; rfl
theorem take_all (s : ByteArray) (k : Nat) (h : ¬ k < s.size) : s.data.toList.take k = s.data.toList := List.take_of_length_le (by simp; omega)
theorem wrap_i64_in (x : Int) (h0 : -9223372036854775808 ≤ x) (h1 : x ≤ 9223372036854775807) : IntKind.i64.wrap x = x := by
  rw [IntKind.wrap_i64]; omega
theorem bcell {W w1 : World} (hb : Below W.heap.size W w1) : (∀ b o, b < W.heap.size → w1.cell? ⟨b, o, none⟩ = W.cell? ⟨b, o, none⟩) ∧ (∀ b o, b < W.heap.size → w1.frozen? ⟨b, o, none⟩ = W.frozen? ⟨b, o, none⟩) :=
  ⟨fun b o h => hb.cell (p := ⟨b, o, none⟩) h, fun b o h => hb.frozen (p := ⟨b, o, none⟩) h⟩
theorem text_ne {a b : ByteArray} (h : a ≠ b) : (a.toList == b.toList) = false := by
  rw [ByteArray.toList_eq, ByteArray.toList_eq]
  simp only [beq_eq_false_iff_ne, ne_eq]
  intro e
  exact h (ByteArray.ext (Array.toList_inj.1 e))
end Go.Proofs.YtpkjkjepmloddaaGreat
/- Times, of the program. -/
namespace Go.Proofs.YtpkjkjepmloddaaGreat
open Go.RowKit

def inTime (n : Int) : Bool := decide (0 ≤ n ∧ n ≤ 1000000)
set_option maxRecDepth 100000 in
theorem isTime_any (a : Int) (w : World) : Calls Tryz.prog 31 #[.int .i64 a] w fun e w' => e = .returned (.bool (inTime a)) ∧ w = w' := by
  by_cases h1 : 0 ≤ a
  · by_cases h2 : a ≤ 1000000
    · go_enter Tryz.func31, Tryz.ntmps31
      go_wp2
      go_ret
      exact ⟨ret_bool (by simp [inTime]; omega), rfl⟩
    · go_enter Tryz.func31, Tryz.ntmps31
      go_wp2
      go_ret
      exact ⟨ret_bool (by simp [inTime]; omega), rfl⟩
  · go_enter Tryz.func31, Tryz.ntmps31
    go_wp2
    go_ret
    exact ⟨ret_bool (by simp [inTime]; omega), rfl⟩
end Go.Proofs.YtpkjkjepmloddaaGreat
/- Keys: how long they may be. -/
namespace Go.Proofs.YtpkjkjepmloddaaGreat
open Go.RowKit

def inKey (k : ByteArray) : Bool := decide (1 ≤ k.size ∧ k.size ≤ 32)
end Go.Proofs.YtpkjkjepmloddaaGreat
/- Keys, of the program. -/
namespace Go.Proofs.YtpkjkjepmloddaaGreat
open Go.RowKit

set_option maxRecDepth 100000 in
theorem keyRight_any (k : ByteArray) (w : World) (hk : k.size ≤ maxLen) : Calls Tryz.prog 77 #[.string k] w fun e w' => e = .returned (.bool (inKey k)) ∧ w = w' := by
  unfold maxLen at hk
  by_cases h1 : 1 ≤ k.size
  · have d1 : decide (1 ≤ (k.size : Int)) = true := by simp; omega
    by_cases h2 : k.size ≤ 32
    · have d2 : decide ((k.size : Int) ≤ 32) = true := by simp; omega
      have HE : Hid (inKey k = true) := by show decide _ = true; simp [h1, h2]
      rw [HE.out]
      go_enter Tryz.func77, Tryz.ntmps77
      go_wp2
      go_ret
      exact ⟨rfl, rfl⟩
    · have d2 : decide ((k.size : Int) ≤ 32) = false := by simp; omega
      have HE : Hid (inKey k = false) := by show decide _ = false; simp; omega
      rw [HE.out]
      go_enter Tryz.func77, Tryz.ntmps77
      go_wp2
      go_ret
      exact ⟨rfl, rfl⟩
  · have d1 : decide (1 ≤ (k.size : Int)) = false := by simp; omega
    have HE : Hid (inKey k = false) := by show decide _ = false; simp; omega
    rw [HE.out]
    go_enter Tryz.func77, Tryz.ntmps77
    go_wp2
    go_ret
    exact ⟨rfl, rfl⟩
end Go.Proofs.YtpkjkjepmloddaaGreat
/- Keys, of the model. -/
namespace Go.Proofs.YtpkjkjepmloddaaGreat
open Go.RowKit

set_option maxRecDepth 100000 in
theorem specKey_any (k : ByteArray) (w : World) (hk : k.size ≤ maxLen) : Calls Tryz.prog 49 #[.string k] w fun e w' => e = .returned (.bool (inKey k)) ∧ w = w' := by
  unfold maxLen at hk
  by_cases h1 : 1 ≤ k.size
  · have d1 : decide (1 ≤ (k.size : Int)) = true := by simp; omega
    by_cases h2 : k.size ≤ 32
    · have d2 : decide ((k.size : Int) ≤ 32) = true := by simp; omega
      have HE : Hid (inKey k = true) := by show decide _ = true; simp [h1, h2]
      rw [HE.out]
      go_enter Tryz.func49, Tryz.ntmps49
      go_wp2
      go_ret
      exact ⟨rfl, rfl⟩
    · have d2 : decide ((k.size : Int) ≤ 32) = false := by simp; omega
      have HE : Hid (inKey k = false) := by show decide _ = false; simp; omega
      rw [HE.out]
      go_enter Tryz.func49, Tryz.ntmps49
      go_wp2
      go_ret
      exact ⟨rfl, rfl⟩
  · have d1 : decide (1 ≤ (k.size : Int)) = false := by simp; omega
    have HE : Hid (inKey k = false) := by show decide _ = false; simp; omega
    rw [HE.out]
    go_enter Tryz.func49, Tryz.ntmps49
    go_wp2
    go_ret
    exact ⟨rfl, rfl⟩
end Go.Proofs.YtpkjkjepmloddaaGreat
/- Numbers as bytes: seven bits a byte. -/
namespace Go.Proofs.YtpkjkjepmloddaaGreat
open Go.RowKit

/-- The number from 0 to 2^64-1 that stands for n. -/
def foldN (n : Int) : Nat := if n < 0 then (-2 * n - 1).toNat else (2 * n).toNat
/-- Seven bits a byte, the lowest first; the fuel says how many bytes may still come behind this one. -/
def numB : Nat → Nat → List UInt8
  | 0, u => [UInt8.ofNat u]
  | f + 1, u => if 128 ≤ u then UInt8.ofNat (u % 128 + 128) :: numB f (u / 128) else [UInt8.ofNat u]
def putNumB (n : Int) : List UInt8 := numB 9 (foldN n)

theorem foldN_lt (n : Int) (h0 : -9223372036854775808 ≤ n) (h1 : n ≤ 9223372036854775807) : foldN n < 2 * 128 ^ 9 := by
  unfold foldN; split <;> omega
theorem numB_length (f u : Nat) : (numB f u).length ≤ f + 1 ∧ 1 ≤ (numB f u).length := by
  induction f generalizing u with
  | zero => simp [numB]
  | succ f ih => unfold numB; split
                 · have := ih (u / 128); simp; omega
                 · simp
theorem numB_stop (f u : Nat) (h : u < 128) : numB f u = [UInt8.ofNat u] := by
  cases f with
  | zero => rfl
  | succ f => simp [numB]; omega
theorem numB_go (f u : Nat) (h : 128 ≤ u) : numB (f + 1) u = UInt8.ofNat (u % 128 + 128) :: numB f (u / 128) := by
  simp [numB, h]
theorem fuel_pos {f u : Nat} (h : 128 ≤ u) (hu : u < 2 * 128 ^ f) : ∃ f', f = f' + 1 ∧ u / 128 < 2 * 128 ^ f' := by
  cases f with
  | zero => simp at hu; omega
  | succ f => exact ⟨f, rfl, by rw [Nat.pow_succ] at hu; omega⟩
theorem foldN_neg (n : Int) (h : n < 0) : (foldN n : Int) = -2 * n - 1 := by unfold foldN; rw [if_pos h]; omega
theorem foldN_pos (n : Int) (h : ¬ n < 0) : (foldN n : Int) = 2 * n := by unfold foldN; rw [if_neg h]; omega
/-- What has been put, and what is still to put. -/
def PutRel (N : List UInt8) (l : List UInt8) (f u : Nat) : Prop := u < 2 * 128 ^ f ∧ l.length + f = 9 ∧ l ++ numB f u = N
theorem PutRel.len {N l : List UInt8} {f u : Nat} (h : PutRel N l f u) : l.length ≤ 9 := by have := h.2.1; omega
theorem PutRel.top {N l : List UInt8} {f u : Nat} (h : PutRel N l f u) : u < 18446744073709551616 := by
  have h1 := h.1
  have h2 : 128 ^ f ≤ 128 ^ 9 := Nat.pow_le_pow_right (by omega) (by have := h.2.1; omega)
  omega
theorem PutRel.step {N l : List UInt8} {f u : Nat} (h : PutRel N l f u) (hu : 128 ≤ u) : ∃ f', PutRel N (l ++ [UInt8.ofNat (u % 128 + 128)]) f' (u / 128) := by
  obtain ⟨f', rfl, hf⟩ := fuel_pos hu h.1
  refine ⟨f', hf, by have := h.2.1; simp; omega, ?_⟩
  rw [← h.2.2, numB_go f' u hu]; simp
theorem PutRel.stop {N l : List UInt8} {f u : Nat} (h : PutRel N l f u) (hu : u < 128) : l ++ [UInt8.ofNat u] = N := by
  rw [← h.2.2, numB_stop f u hu]
end Go.Proofs.YtpkjkjepmloddaaGreat
/- The types of bytes in this translation; what text a row of bytes gives. -/
namespace Go.Proofs.YtpkjkjepmloddaaGreat
open Go.RowKit

theorem Tryz.infoB : (Tryz.prog.info? 5).map (fun i => (i.zero, i.size, i.bytes)) = some (some (.int .u8 0), 1, 1) := by kernel_rfl
theorem Tryz.infoS : (Tryz.prog.info? 5).map (·.size) = some 1 := by kernel_rfl
/-- A row that holds just the bytes of a text gives it. -/
theorem RowB.conv {w : World} {g n : Nat} {l : List UInt8} (t : ByteArray) (h : RowB w g 5 l) (hl : l = t.data.toList) (hn : n = t.size) (hm : n ≤ 100000000) :
    (convert 84 9 (.slice (some ⟨g, 0, none⟩) n n)).run Tryz.prog w = .ok (.string t) w := by
  subst hl hn
  have hz : t.data.toList.length = t.size := by simp
  have h1 := (h.own 0 t.data.toList.length (Nat.zero_le _) rfl (by rw [hz]; unfold maxLen; omega)).textAt (P := Tryz.prog) 84 9 Tryz.underlying84 Tryz.underlying5 Tryz.underlying9
  rw [hz] at h1
  rw [h1]

theorem cellsB_ofInts (cs : List Int) (h : ∀ x ∈ cs, 0 ≤ x ∧ x < 256) : cellsB (cs.map fun x => UInt8.ofNat x.toNat) = cs.map (Value.int .u8) := by
  induction cs with
  | nil => rfl
  | cons a l ih =>
    have h1 := h a (by simp)
    simp only [List.map_cons, cellsB] at ih ⊢
    rw [byte_of_int a h1.1 h1.2]
    simp only [List.cons.injEq, true_and]
    exact ih (fun x hx => h x (by simp [hx]))
/-- 'string([]byte{..})': a literal of bytes, just laid. -/
theorem conv_lit (w : World) (cs : List Int) (n : Nat) (hn : n = cs.length) (h : ∀ x ∈ cs, 0 ≤ x ∧ x < 256) (hm : n ≤ 1000000) :
    (convert 84 9 (.slice (some ⟨w.heap.size, 0, none⟩) n n)).run Tryz.prog (w.alloc (.cells (cs.map (Value.int .u8)).toArray 5)) = .ok (.string ⟨(cs.map fun x => UInt8.ofNat x.toNat).toArray⟩) (w.alloc (.cells (cs.map (Value.int .u8)).toArray 5)) := by
  have hr : RowB (w.alloc (.cells (cs.map (Value.int .u8)).toArray 5)) w.heap.size 5 (cs.map fun x => UInt8.ofNat x.toNat) := by
    unfold RowB
    rw [cellsB_ofInts cs h]
    show (w.heap.push _)[w.heap.size]? = _
    simp
  exact hr.conv (n := n) ⟨(cs.map fun x => UInt8.ofNat x.toNat).toArray⟩ rfl (by rw [hn]; simp [ByteArray.size]) (by omega)
end Go.Proofs.YtpkjkjepmloddaaGreat
/- PutNum, of the model and of the program: the same bytes. -/
namespace Go.Proofs.YtpkjkjepmloddaaGreat
open Go.RowKit

theorem specFold_any (n : Int) (w : World) (h0 : -9223372036854775808 ≤ n) (h1 : n ≤ 9223372036854775807) :
    Calls Tryz.prog 61 #[.int .i64 n] w fun e w' => e = .returned (.int .u64 (foldN n)) ∧ w = w' := by
  by_cases h : n < 0
  · have HF : Hid ((foldN n : Int) = -2 * n - 1) := foldN_neg n h
    go_enter Tryz.func61, Tryz.ntmps61
    go_wp2
    go_ret
    exact ⟨ret_u64 (by rw [HF.out]; omega), rfl⟩
  · have HF : Hid ((foldN n : Int) = 2 * n) := foldN_pos n h
    go_enter Tryz.func61, Tryz.ntmps61
    go_wp2
    go_ret
    exact ⟨ret_u64 (by rw [HF.out]), rfl⟩
theorem implFold_any (n : Int) (w : World) (h0 : -9223372036854775808 ≤ n) (h1 : n ≤ 9223372036854775807) :
    Calls Tryz.prog 92 #[.int .i64 n] w fun e w' => e = .returned (.int .u64 (foldN n)) ∧ w = w' := by
  by_cases hn : n < 0
  · have HF : Hid ((foldN n : Int) = -2 * n - 1) := foldN_neg n hn
    go_enter Tryz.func92, Tryz.ntmps92
    go_wp2
    go_ret
    exact ⟨ret_u64 (by rw [HF.out]; exact fold_neg n h0 hn), rfl⟩
  · have HF : Hid ((foldN n : Int) = 2 * n) := foldN_pos n hn
    go_enter Tryz.func92, Tryz.ntmps92
    go_wp2
    go_ret
    exact ⟨ret_u64 (by rw [HF.out]; omega), rfl⟩
set_option maxRecDepth 100000 in
set_option maxHeartbeats 1000000 in
theorem specPutNum_any (n : Int) (w : World) (h0 : -9223372036854775808 ≤ n) (h1 : n ≤ 9223372036854775807) :
    Calls Tryz.prog 37 #[.int .i64 n] w fun e w' => e = .returned (.string ⟨(putNumB n).toArray⟩) ∧ Below w.heap.size w w' := by
  have hb := foldN_lt n h0 h1
  have HN : Hid (PutRel (putNumB n) [] 9 (foldN n)) := ⟨hb, rfl, rfl⟩
  clear hb
  generalize putNumB n = N at *
  go_enter Tryz.func37, Tryz.ntmps37
  go_wp2_with (go_at_call 61; refine (specFold_any _ _ h0 h1).mono ?_; rintro e w' ⟨rfl, rfl⟩)
  go_loopw [3, 4] (fun x v wr => ∃ (f u : Nat) (l : List UInt8), Hid (PutRel N l f u) ∧ x = .int .u64 u ∧ OwnB wr w.heap.size 5 v l ∧ Below w.heap.size w wr) (fun x _ _ => (intOf x).toNat)
  case atStart => exact ⟨9, _, [], HN, rfl, OwnB.made _ _ _ (Nat.le_refl _), (Below.refl _ _).alloc (Nat.le_refl _) _⟩
  case round =>
    obtain ⟨f, u, l, HR, rfl, hown, hbel⟩ := hrel
    have hl := HR.out.len
    have ht := HR.out.top
    have hsz := hbel.size
    by_cases hu : 128 ≤ u
    · go_wp2_with (at_builtin; refine wpList_append_byte rfl _ _ 84 rfl w.heap.size 5 Tryz.underlying84 Tryz.infoB _ l rfl (hown.alloc _) wr.heap.size ((u : Int) % 128 + 128) rfl ?c1 ?c2 ?c3 ?c4 ?_)
      case c1 => simp
      case c2 => omega
      case c3 => omega
      case c4 => simp; omega
      · intro v' w1 hown' hbel'
        go_wp2
        go_roundw
        case rel =>
          obtain ⟨f', HR'⟩ := HR.out.step hu
          exact ⟨f', u / 128, _, HR', by go_num, by rw [show u % 128 + 128 = ((u : Int) % 128 + 128).toNat by omega]; exact hown', (hbel.alloc hsz _).trans hbel'⟩
        case measure => simp [intOf]; omega
    · go_wp2_with (at_builtin; refine wpList_append_byte rfl _ _ 84 rfl w.heap.size 5 Tryz.underlying84 Tryz.infoB _ l rfl (hown.alloc _) wr.heap.size (u : Int) rfl ?d1 ?d2 ?d3 ?d4 ?_)
      case d1 => simp
      case d2 => omega
      case d3 => omega
      case d4 => simp; omega
      · intro v' w1 hown' hbel'
        have hconv := (hown'.text (by simp) 84 9 Tryz.underlying84 Tryz.underlying5 Tryz.underlying9).2
        have HS := HR.out.stop (show u < 128 by omega)
        rw [HS] at hconv
        clear HS hown'
        go_wp2
        go_ret
        exact ⟨rfl, (hbel.alloc hsz _).trans hbel'⟩
set_option maxRecDepth 100000 in
set_option maxHeartbeats 1000000 in
theorem implPutNum_any (n : Int) (w : World) (h0 : -9223372036854775808 ≤ n) (h1 : n ≤ 9223372036854775807) :
    Calls Tryz.prog 63 #[.int .i64 n] w fun e w' => e = .returned (.string ⟨(putNumB n).toArray⟩) ∧ Below w.heap.size w w' := by
  have hb := foldN_lt n h0 h1
  have HN : Hid (PutRel (putNumB n) [] 9 (foldN n)) := ⟨hb, rfl, rfl⟩
  clear hb
  generalize putNumB n = N at *
  go_enter Tryz.func63, Tryz.ntmps63
  go_wp2_with (go_at_call 92; refine (implFold_any _ _ h0 h1).mono ?_; rintro e w' ⟨rfl, rfl⟩)
  go_loopw [3, 4] (fun v x wr => ∃ (f u : Nat) (l : List UInt8), Hid (PutRel N l f u) ∧ x = .int .u64 u ∧ OwnB wr w.heap.size 5 v l ∧ Below w.heap.size w wr) (fun _ x _ => (intOf x).toNat)
  case atStart => exact ⟨9, _, [], HN, rfl, OwnB.nil _ _ _, Below.refl _ _⟩
  case round =>
    obtain ⟨f, u, l, HR, rfl, hown, hbel⟩ := hrel
    have hl := HR.out.len
    have ht := HR.out.top
    have hsz := hbel.size
    by_cases hu : 128 ≤ u
    · go_wp2_with (at_builtin; refine wpList_append_byte rfl _ _ 84 rfl w.heap.size 5 Tryz.underlying84 Tryz.infoB _ l rfl (hown.alloc _) wr.heap.size ((u : Int) % 128 + 128) rfl ?c1 ?c2 ?c3 ?c4 ?_)
      case c1 => simp
      case c2 => omega
      case c3 => omega
      case c4 => simp; omega
      · intro v' w1 hown' hbel'
        go_wp2
        go_roundw
        case rel =>
          obtain ⟨f', HR'⟩ := HR.out.step hu
          exact ⟨f', u / 128, _, HR', by go_num, by rw [show u % 128 + 128 = ((u : Int) % 128 + 128).toNat by omega]; exact hown', (hbel.alloc hsz _).trans hbel'⟩
        case measure => simp [intOf]; omega
    · go_wp2_with (at_builtin; refine wpList_append_byte rfl _ _ 84 rfl w.heap.size 5 Tryz.underlying84 Tryz.infoB _ l rfl (hown.alloc _) wr.heap.size (u : Int) rfl ?d1 ?d2 ?d3 ?d4 ?_)
      case d1 => simp
      case d2 => omega
      case d3 => omega
      case d4 => simp; omega
      · intro v' w1 hown' hbel'
        have hconv := (hown'.text (by simp) 84 9 Tryz.underlying84 Tryz.underlying5 Tryz.underlying9).2
        have HS := HR.out.stop (show u < 128 by omega)
        rw [HS] at hconv
        clear HS hown'
        go_wp2
        go_ret
        exact ⟨rfl, (hbel.alloc hsz _).trans hbel'⟩
end Go.Proofs.YtpkjkjepmloddaaGreat
/- Two texts put together by copy. -/
namespace Go.Proofs.YtpkjkjepmloddaaGreat
open Go.RowKit

theorem over_two (a b : List UInt8) : overB (overB (List.replicate (a.length + b.length) 0) 0 a) a.length b = a ++ b := by
  simp [overB]
theorem bytes_append (a b : ByteArray) : (⟨(a.data.toList ++ b.data.toList).toArray⟩ : ByteArray) = a ++ b := by
  apply ByteArray.ext; simp
set_option maxRecDepth 100000 in
theorem joined_any (a b : ByteArray) (w : World) (ha : a.size ≤ 10000000) (hb : b.size ≤ 10000000) :
    Calls Tryz.prog 64 #[.string a, .string b] w fun e w' => e = .returned (.string (a ++ b)) ∧ Below w.heap.size w w' := by
  have hsum : (a ++ b).size = a.size + b.size := by simp
  have HJ : Hid (overB (overB (List.replicate (a.size + b.size) 0) 0 a.data.toList) a.size b.data.toList = (a ++ b).data.toList) := by
    have h1 : a.data.toList.length = a.size := by simp
    have h2 := over_two a.data.toList b.data.toList
    rw [h1, show b.data.toList.length = b.size by simp] at h2
    show _ = _
    rw [h2]; simp
  by_cases hb0 : b = ByteArray.empty
  · subst hb0
    have HA : Hid (a ++ ByteArray.empty = a) := by show _ = _; simp
    go_enter Tryz.func64, Tryz.ntmps64
    go_wp2_with (at_make; refine wpList_make_bytes rfl _ _ 84 rfl 5 Tryz.underlying84 Tryz.infoB _ a.size rfl rfl ?_ ?_ w.heap.size w (Below.refl _ _) (Nat.le_refl _) ?_)
    · simp
    · omega
    · intro w1 hr1 hb1 hs1
      obtain ⟨w2, hr2, hb2, hs2, hrun2⟩ := copy_text_run (P := Tryz.prog) 84 9 3 5 Tryz.underlying84 Tryz.infoS (some ⟨w.heap.size, 0, none⟩) a.size a.size a 0 hr1 (by omega) (fun _ => rfl) (by simp) hb1 (Nat.le_refl _)
      have hrun3 := run_copy_text_none (P := Tryz.prog) w2 84 9 3 5 (some ⟨w.heap.size, 0, none⟩) 0 0 ByteArray.empty Tryz.underlying84 Tryz.infoS rfl
      have hconv := hr2.conv a (by simp [overB]) (n := a.size) rfl (by omega)
      clear hr1 hr2 hb1 hs2 hs1 hsum HJ
      go_wp2
      go_ret
      exact ⟨by rw [HA.out]; rfl, hb2⟩
  · have hb1 : 0 < b.size := by
      rcases Nat.eq_zero_or_pos b.size with h | h
      · exact absurd (by apply ByteArray.ext; apply Array.toList_inj.1; simpa using List.eq_nil_of_length_eq_zero (l := b.data.toList) (by simpa using h)) hb0
      · exact h
    go_enter Tryz.func64, Tryz.ntmps64
    go_wp2_with (at_make; refine wpList_make_bytes rfl _ _ 84 rfl 5 Tryz.underlying84 Tryz.infoB _ (a.size + b.size) rfl rfl ?_ ?_ w.heap.size w (Below.refl _ _) (Nat.le_refl _) ?_)
    · omega
    · omega
    · intro w1 hr1 hb1 hs1
      obtain ⟨w2, hr2, hb2, hs2, hrun2⟩ := copy_text_run (P := Tryz.prog) 84 9 3 5 Tryz.underlying84 Tryz.infoS (some ⟨w.heap.size, 0, none⟩) (a.size + b.size) (a.size + b.size) a 0 hr1 (by omega) (fun _ => rfl) (by simp) hb1 (Nat.le_refl _)
      obtain ⟨w3, hr3, hb3, hs3, hrun3⟩ := copy_text_run (P := Tryz.prog) 84 9 3 5 Tryz.underlying84 Tryz.infoS (some ⟨w.heap.size, a.size, none⟩) b.size b.size b a.size hr2 (by omega) (fun _ => rfl) (by rw [overB_length] <;> simp) hb2 (Nat.le_refl _)
      have hconv := hr3.conv (a ++ b) HJ.out (n := a.size + b.size) hsum.symm (by omega)
      clear hr1 hr2 hr3 hb1 hb2 hs2 hs3 hs1 hsum HJ
      go_wp2
      go_ret
      exact ⟨rfl, hb3⟩
end Go.Proofs.YtpkjkjepmloddaaGreat
/- PutText, of the model and of the program. -/
namespace Go.Proofs.YtpkjkjepmloddaaGreat
open Go.RowKit

/-- The bytes of a text, its length ahead. -/
def putTextB (t : ByteArray) : ByteArray := if t.size ≤ 8000 then (⟨(putNumB t.size).toArray⟩ : ByteArray) ++ t else ByteArray.empty
theorem putNumB_size (n : Int) : (⟨(putNumB n).toArray⟩ : ByteArray).size ≤ 10 ∧ 1 ≤ (⟨(putNumB n).toArray⟩ : ByteArray).size := by
  have h := numB_length 9 (foldN n)
  have e : (⟨(putNumB n).toArray⟩ : ByteArray).size = (putNumB n).length := by simp [ByteArray.size]
  rw [e]; exact ⟨h.1, h.2⟩

theorem specPutText_any (t : ByteArray) (w : World) (ht : t.size ≤ 1048576) :
    Calls Tryz.prog 39 #[.string t] w fun e w' => e = .returned (.string (putTextB t)) ∧ Below w.heap.size w w' := by
  by_cases h : t.size ≤ 8000
  · have HP : Hid (putTextB t = (⟨(putNumB t.size).toArray⟩ : ByteArray) ++ t) := by show _ = _; simp [putTextB, h]
    have hz := putNumB_size t.size
    have HC := fun w => specPutNum_any t.size w (by omega) (by omega)
    generalize (⟨(putNumB t.size).toArray⟩ : ByteArray) = p at *
    go_enter Tryz.func39, Tryz.ntmps39
    go_wp2_with fail
    refine (HC _).mono ?_
    rintro e w1 ⟨rfl, hb1⟩
    go_wp2
    go_ret
    exact ⟨by rw [HP.out]; rfl, hb1⟩
  · have HP : Hid (putTextB t = ByteArray.empty) := by show _ = _; simp [putTextB, h]
    go_enter Tryz.func39, Tryz.ntmps39
    go_wp2
    go_ret
    exact ⟨by rw [HP.out]; rfl, Below.refl _ _⟩

theorem implPutText_any (t : ByteArray) (w : World) (ht : t.size ≤ 1048576) :
    Calls Tryz.prog 44 #[.string t] w fun e w' => e = .returned (.string (putTextB t)) ∧ Below w.heap.size w w' := by
  by_cases h : t.size ≤ 8000
  · have HP : Hid (putTextB t = (⟨(putNumB t.size).toArray⟩ : ByteArray) ++ t) := by show _ = _; simp [putTextB, h]
    have hz := putNumB_size t.size
    have HC := fun w => implPutNum_any t.size w (by omega) (by omega)
    generalize (⟨(putNumB t.size).toArray⟩ : ByteArray) = p at *
    go_enter Tryz.func44, Tryz.ntmps44
    go_wp2_with fail
    refine (HC _).mono ?_
    rintro e w1 ⟨rfl, hb1⟩
    go_wp2_with fail
    refine (joined_any p t _ (by omega) (by omega)).mono ?_
    rintro e w2 ⟨rfl, hb2⟩
    go_wp2
    go_ret
    exact ⟨by rw [HP.out]; rfl, hb1.trans (hb2.mono hb1.size)⟩
  · have HP : Hid (putTextB t = ByteArray.empty) := by show _ = _; simp [putTextB, h]
    go_enter Tryz.func44, Tryz.ntmps44
    go_wp2
    go_ret
    exact ⟨by rw [HP.out]; rfl, Below.refl _ _⟩
end Go.Proofs.YtpkjkjepmloddaaGreat
