/- Texts that stand on each other, in one file: TimeD, KeyB, KeyD, KeyS, SeqI, FrmR, DgmR, TwoCells, SliceT. -/
import Derived.Test.YtialedffpaoacaaGreatDoorBase
import Derived.Test.YtialedffpaoacaaGreatDoorBaseB
/- Times, of the program. -/
namespace Go.Proofs.YtialedffpaoacaaGreatDoor
open Go.RowKit

def inTime (n : Int) : Bool := decide (0 ≤ n ∧ n ≤ 1000000)
set_option maxRecDepth 100000 in
theorem isTime_any (a : Int) (w : World) : Calls Tryz.prog 55 #[.int .i64 a] w fun e w' => e = .returned (.bool (inTime a)) ∧ w = w' := by
  by_cases h1 : 0 ≤ a
  · by_cases h2 : a ≤ 1000000
    · go_enter Tryz.func55, Tryz.ntmps55
      go_wp2
      go_ret
      exact ⟨ret_bool (by simp [inTime]; omega), rfl⟩
    · go_enter Tryz.func55, Tryz.ntmps55
      go_wp2
      go_ret
      exact ⟨ret_bool (by simp [inTime]; omega), rfl⟩
  · go_enter Tryz.func55, Tryz.ntmps55
    go_wp2
    go_ret
    exact ⟨ret_bool (by simp [inTime]; omega), rfl⟩
end Go.Proofs.YtialedffpaoacaaGreatDoor
/- Keys: how long they may be. -/
namespace Go.Proofs.YtialedffpaoacaaGreatDoor
open Go.RowKit

def inKey (k : ByteArray) : Bool := decide (1 ≤ k.size ∧ k.size ≤ 32)
end Go.Proofs.YtialedffpaoacaaGreatDoor
/- Keys, of the program. -/
namespace Go.Proofs.YtialedffpaoacaaGreatDoor
open Go.RowKit

set_option maxRecDepth 100000 in
theorem keyRight_any (k : ByteArray) (w : World) (hk : k.size ≤ maxLen) : Calls Tryz.prog 133 #[.string k] w fun e w' => e = .returned (.bool (inKey k)) ∧ w = w' := by
  unfold maxLen at hk
  by_cases h1 : 1 ≤ k.size
  · have d1 : decide (1 ≤ (k.size : Int)) = true := by simp; omega
    by_cases h2 : k.size ≤ 32
    · have d2 : decide ((k.size : Int) ≤ 32) = true := by simp; omega
      have HE : Hid (inKey k = true) := by show decide _ = true; simp [h1, h2]
      rw [HE.out]
      go_enter Tryz.func133, Tryz.ntmps133
      go_wp2
      go_ret
      exact ⟨rfl, rfl⟩
    · have d2 : decide ((k.size : Int) ≤ 32) = false := by simp; omega
      have HE : Hid (inKey k = false) := by show decide _ = false; simp; omega
      rw [HE.out]
      go_enter Tryz.func133, Tryz.ntmps133
      go_wp2
      go_ret
      exact ⟨rfl, rfl⟩
  · have d1 : decide (1 ≤ (k.size : Int)) = false := by simp; omega
    have HE : Hid (inKey k = false) := by show decide _ = false; simp; omega
    rw [HE.out]
    go_enter Tryz.func133, Tryz.ntmps133
    go_wp2
    go_ret
    exact ⟨rfl, rfl⟩
end Go.Proofs.YtialedffpaoacaaGreatDoor
/- Keys, of the model. -/
namespace Go.Proofs.YtialedffpaoacaaGreatDoor
open Go.RowKit

set_option maxRecDepth 100000 in
theorem specKey_any (k : ByteArray) (w : World) (hk : k.size ≤ maxLen) : Calls Tryz.prog 81 #[.string k] w fun e w' => e = .returned (.bool (inKey k)) ∧ w = w' := by
  unfold maxLen at hk
  by_cases h1 : 1 ≤ k.size
  · have d1 : decide (1 ≤ (k.size : Int)) = true := by simp; omega
    by_cases h2 : k.size ≤ 32
    · have d2 : decide ((k.size : Int) ≤ 32) = true := by simp; omega
      have HE : Hid (inKey k = true) := by show decide _ = true; simp [h1, h2]
      rw [HE.out]
      go_enter Tryz.func81, Tryz.ntmps81
      go_wp2
      go_ret
      exact ⟨rfl, rfl⟩
    · have d2 : decide ((k.size : Int) ≤ 32) = false := by simp; omega
      have HE : Hid (inKey k = false) := by show decide _ = false; simp; omega
      rw [HE.out]
      go_enter Tryz.func81, Tryz.ntmps81
      go_wp2
      go_ret
      exact ⟨rfl, rfl⟩
  · have d1 : decide (1 ≤ (k.size : Int)) = false := by simp; omega
    have HE : Hid (inKey k = false) := by show decide _ = false; simp; omega
    rw [HE.out]
    go_enter Tryz.func81, Tryz.ntmps81
    go_wp2
    go_ret
    exact ⟨rfl, rfl⟩
end Go.Proofs.YtialedffpaoacaaGreatDoor
/- Times and seqs, of the program. -/
namespace Go.Proofs.YtialedffpaoacaaGreatDoor
open Go.RowKit

def inSeq (n : Int) : Bool := decide (1 ≤ n ∧ n ≤ 1000000)
set_option maxRecDepth 100000 in
theorem seqRight_any (a : Int) (w : World) : Calls Tryz.prog 182 #[.int .i64 a] w fun e w' => e = .returned (.bool (inSeq a)) ∧ w = w' := by
  have HT : Hid (∀ w, Calls Tryz.prog 55 #[.int .i64 a] w fun e w' => e = .returned (.bool (inTime a)) ∧ w = w') := isTime_any a
  by_cases h1 : 1 ≤ a
  · have HE : Hid (inTime a = inSeq a) := by show decide _ = decide _; exact decide_eq_decide.2 (by omega)
    generalize inTime a = T at *
    go_enter Tryz.func182, Tryz.ntmps182
    go_wp2_with fail
    refine (HT.out _).mono ?_
    rintro e w1 ⟨rfl, rfl⟩
    go_wp2
    go_ret
    exact ⟨ret_bool HE.out, rfl⟩
  · have HE : Hid (inSeq a = false) := by show _ = _; simp [inSeq]; omega
    go_enter Tryz.func182, Tryz.ntmps182
    go_wp2
    go_ret
    exact ⟨ret_bool HE.out.symm, rfl⟩
end Go.Proofs.YtialedffpaoacaaGreatDoor
/- Is a frame right? Asked by the program and by the model. -/
namespace Go.Proofs.YtialedffpaoacaaGreatDoor
open Go.RowKit

theorem after_next {B : Nat} {w w1 w2 : World} (h : Below B w w1) (h2 : Below w1.heap.size w1 w2) (hB : B ≤ w1.heap.size) : Below B w w2 := h.trans (h2.mono hB)
def frB (v : Int) (n : Nat) : Bool := decide (1 ≤ v ∧ v ≤ 4094 ∧ n ≤ 1000)
set_option maxRecDepth 100000 in
theorem isW_any (n a b : Int) (w : World) :
    Calls Tryz.prog 43 #[.int .i64 n, .int .i64 a, .int .i64 b] w fun e w' => e = .returned (.bool (decide (a ≤ n ∧ n ≤ b))) ∧ w = w' := by
  by_cases h1 : a ≤ n
  · by_cases h2 : n ≤ b
    · go_enter Tryz.func43, Tryz.ntmps43
      go_wp2
      go_ret
      exact ⟨ret_bool (by simp; omega), rfl⟩
    · go_enter Tryz.func43, Tryz.ntmps43
      go_wp2
      go_ret
      exact ⟨ret_bool (by simp; omega), rfl⟩
  · go_enter Tryz.func43, Tryz.ntmps43
    go_wp2
    go_ret
    exact ⟨ret_bool (by simp; omega), rfl⟩
set_option maxRecDepth 100000 in
theorem implFrameRight_any (v : Int) (t : ByteArray) (w : World) :
    Calls Tryz.prog 148 #[.agg #[.int .i64 v, .string t]] w fun e w' => e = .returned (.bool (frB v t.size)) ∧ Below w.heap.size w w' := by
  by_cases h1 : 1 ≤ v
  · by_cases h2 : v ≤ 4094
    · by_cases h3 : t.size ≤ 1000
      · go_enter Tryz.func148, Tryz.ntmps148
        go_wp2
        go_ret
        exact ⟨ret_bool (by unfold frB; first | (rw [decide_eq_decide]; omega) | (symm; rw [decide_eq_false_iff_not]; omega) | (symm; rw [decide_eq_true_iff]; omega)), (Below.refl _ _).alloc (Nat.le_refl _) _⟩
      · go_enter Tryz.func148, Tryz.ntmps148
        go_wp2
        go_ret
        exact ⟨ret_bool (by unfold frB; first | (rw [decide_eq_decide]; omega) | (symm; rw [decide_eq_false_iff_not]; omega) | (symm; rw [decide_eq_true_iff]; omega)), (Below.refl _ _).alloc (Nat.le_refl _) _⟩
    · go_enter Tryz.func148, Tryz.ntmps148
      go_wp2
      go_ret
      exact ⟨ret_bool (by unfold frB; first | (rw [decide_eq_decide]; omega) | (symm; rw [decide_eq_false_iff_not]; omega) | (symm; rw [decide_eq_true_iff]; omega)), (Below.refl _ _).alloc (Nat.le_refl _) _⟩
  · go_enter Tryz.func148, Tryz.ntmps148
    go_wp2
    go_ret
    exact ⟨ret_bool (by unfold frB; first | (rw [decide_eq_decide]; omega) | (symm; rw [decide_eq_false_iff_not]; omega) | (symm; rw [decide_eq_true_iff]; omega)), (Below.refl _ _).alloc (Nat.le_refl _) _⟩
end Go.Proofs.YtialedffpaoacaaGreatDoor
/- Is a datagram right? Asked by the program and by the model. -/
namespace Go.Proofs.YtialedffpaoacaaGreatDoor
open Go.RowKit

theorem new_below0 (w : World) (o : Obj) : Below w.heap.size w (w.alloc o) := (Below.refl _ _).alloc (Nat.le_refl _) _
def inW (n : Int) : Bool := decide (0 ≤ n ∧ n ≤ 65535)
def inA (n : Int) : Bool := decide (0 ≤ n ∧ n ≤ 4294967295)
def inT (n : Int) : Bool := decide (0 ≤ n ∧ n ≤ 255)
def dgB (s d sp dp ttl : Int) (n : Nat) : Bool := inA s && inA d && inW sp && inW dp && inT ttl && decide (n ≤ 300)
theorem dgB_spec {s d sp dp ttl : Int} {n : Nat} (h : dgB s d sp dp ttl n = true) : (0 ≤ s ∧ s ≤ 4294967295) ∧ (0 ≤ d ∧ d ≤ 4294967295) ∧ (0 ≤ sp ∧ sp ≤ 65535) ∧ (0 ≤ dp ∧ dp ≤ 65535) ∧ (0 ≤ ttl ∧ ttl ≤ 255) ∧ n ≤ 300 := by
  simp only [dgB, inA, inW, inT, Bool.and_eq_true, decide_eq_true_eq] at h
  obtain ⟨⟨⟨⟨⟨h1, h2⟩, h3⟩, h4⟩, h5⟩, h6⟩ := h
  exact ⟨h1, h2, h3, h4, h5, h6⟩
set_option maxRecDepth 100000 in
theorem isAddrW_any (a : Int) (w : World) : Calls Tryz.prog 162 #[.int .i64 a] w fun e w' => e = .returned (.bool (inA a)) ∧ w = w' := by
  by_cases h1 : 0 ≤ a
  · by_cases h2 : a ≤ 4294967295
    · go_enter Tryz.func162, Tryz.ntmps162
      go_wp2
      go_ret
      exact ⟨ret_bool (by simp [inA]; omega), rfl⟩
    · go_enter Tryz.func162, Tryz.ntmps162
      go_wp2
      go_ret
      exact ⟨ret_bool (by simp [inA]; omega), rfl⟩
  · go_enter Tryz.func162, Tryz.ntmps162
    go_wp2
    go_ret
    exact ⟨ret_bool (by simp [inA]; omega), rfl⟩
set_option maxRecDepth 100000 in
theorem isWord_any (a : Int) (w : World) : Calls Tryz.prog 140 #[.int .i64 a] w fun e w' => e = .returned (.bool (inW a)) ∧ w = w' := by
  by_cases h1 : 0 ≤ a
  · by_cases h2 : a ≤ 65535
    · go_enter Tryz.func140, Tryz.ntmps140
      go_wp2
      go_ret
      exact ⟨ret_bool (by simp [inW]; omega), rfl⟩
    · go_enter Tryz.func140, Tryz.ntmps140
      go_wp2
      go_ret
      exact ⟨ret_bool (by simp [inW]; omega), rfl⟩
  · go_enter Tryz.func140, Tryz.ntmps140
    go_wp2
    go_ret
    exact ⟨ret_bool (by simp [inW]; omega), rfl⟩
set_option maxRecDepth 100000 in
theorem l03AddrW_any (a : Int) (w : World) : Calls Tryz.prog 125 #[.int .i64 a] w fun e w' => e = .returned (.bool (inA a)) ∧ w = w' := by
  have HB : Hid (decide (0 ≤ a ∧ a ≤ 4294967295) = inA a) := rfl
  go_enter Tryz.func125, Tryz.ntmps125
  go_wp2_with fail
  refine (isW_any a 0 4294967295 _).mono ?_
  rintro e w1 ⟨rfl, rfl⟩
  rw [HB.out]
  go_wp2
  go_ret
  exact ⟨rfl, rfl⟩
def dgV (s d sp dp ttl : Int) (t : ByteArray) : Value := .agg #[.int .i64 s, .int .i64 d, .int .i64 sp, .int .i64 dp, .int .i64 ttl, .string t]
set_option maxRecDepth 100000 in
theorem implDgramRight_any (s d sp dp ttl : Int) (t : ByteArray) (w : World) :
    Calls Tryz.prog 150 #[dgV s d sp dp ttl t] w fun e w' => e = .returned (.bool (dgB s d sp dp ttl t.size)) ∧ Below w.heap.size w w' := by
  unfold dgB dgV
  have HA : Hid (∀ (a : Int) (w : World), Calls Tryz.prog 162 #[.int .i64 a] w fun e w' => e = .returned (.bool (inA a)) ∧ w = w') := isAddrW_any
  have HW : Hid (∀ (a : Int) (w : World), Calls Tryz.prog 140 #[.int .i64 a] w fun e w' => e = .returned (.bool (inW a)) ∧ w = w') := isWord_any
  have HAs : Hid (∀ (w : World), Calls Tryz.prog 162 #[.int .i64 s] w fun e w' => e = .returned (.bool (inA s)) ∧ w = w') := isAddrW_any s
  have HAd : Hid (∀ (w : World), Calls Tryz.prog 162 #[.int .i64 d] w fun e w' => e = .returned (.bool (inA d)) ∧ w = w') := isAddrW_any d
  have HWs : Hid (∀ (w : World), Calls Tryz.prog 140 #[.int .i64 sp] w fun e w' => e = .returned (.bool (inW sp)) ∧ w = w') := isWord_any sp
  have HWd : Hid (∀ (w : World), Calls Tryz.prog 140 #[.int .i64 dp] w fun e w' => e = .returned (.bool (inW dp)) ∧ w = w') := isWord_any dp
  generalize inA s = A1 at *
  generalize inA d = A2 at *
  generalize inW sp = A3 at *
  generalize inW dp = A4 at *
  clear HA HW
  go_enter Tryz.func150, Tryz.ntmps150
  go_wp2_with fail
  refine (HAs.out _).mono ?_
  rintro e w1 ⟨rfl, rfl⟩
  cases A1
  · go_wp2
    go_ret
    exact ⟨rfl, new_below0 _ _⟩
  · go_wp2_with fail
    refine (HAd.out _).mono ?_
    rintro e w1 ⟨rfl, rfl⟩
    cases A2
    · go_wp2
      go_ret
      exact ⟨rfl, new_below0 _ _⟩
    · go_wp2_with fail
      refine (HWs.out _).mono ?_
      rintro e w1 ⟨rfl, rfl⟩
      cases A3
      · go_wp2
        go_ret
        exact ⟨rfl, new_below0 _ _⟩
      · go_wp2_with fail
        refine (HWd.out _).mono ?_
        rintro e w1 ⟨rfl, rfl⟩
        cases A4
        · go_wp2
          go_ret
          exact ⟨rfl, new_below0 _ _⟩
        · by_cases h1 : 0 ≤ ttl
          · by_cases h2 : ttl ≤ 255
            · by_cases h3 : t.size ≤ 300
              · go_wp2
                go_ret
                exact ⟨ret_bool (by simp [inT, h1, h2]; omega), new_below0 _ _⟩
              · go_wp2
                go_ret
                exact ⟨ret_bool (by simp [inT, h1, h2]; omega), new_below0 _ _⟩
            · go_wp2
              go_ret
              exact ⟨ret_bool (by simp [inT]; omega), new_below0 _ _⟩
          · go_wp2
            go_ret
            exact ⟨ret_bool (by simp [inT]; omega), new_below0 _ _⟩

end Go.Proofs.YtialedffpaoacaaGreatDoor
/- Two cells in a block. -/
namespace Go.Proofs.YtialedffpaoacaaGreatDoor
open Go.RowKit

/-- Two cells in a block. -/
def TwoAt (w : World) (b : Nat) (x y : Value) : Prop := w.cell? ⟨b, 0, none⟩ = some x ∧ w.cell? ⟨b, 1, none⟩ = some y
theorem TwoAt.new (w : World) (x y : Value) (t : TypeId) : TwoAt (w.alloc (.cells #[x, y] t)) w.heap.size x y :=
  ⟨by rw [cell_of_row _ _ _ _ t _ (heap_alloc_new w _)]; simp, by rw [cell_of_row _ _ _ _ t _ (heap_alloc_new w _)]; simp⟩
theorem TwoAt.below {w w' : World} {b : Nat} {x y : Value} (h : TwoAt w b x y) (hb : Below w.heap.size w w') : TwoAt w' b x y :=
  ⟨by rw [hb.cell (p := ⟨b, 0, none⟩) (World.block_lt_of_cell? w _ h.1)]; exact h.1, by rw [hb.cell (p := ⟨b, 1, none⟩) (World.block_lt_of_cell? w _ h.2)]; exact h.2⟩
theorem new_below (w : World) (o : Obj) : Below w.heap.size w (w.alloc o) := (Below.refl _ _).alloc (Nat.le_refl _) _
end Go.Proofs.YtialedffpaoacaaGreatDoor
/- Texts cut. -/
namespace Go.Proofs.YtialedffpaoacaaGreatDoor
open Go.RowKit

theorem extract_list (t : ByteArray) (a b : Nat) : (t.extract a b).data.toList = (t.data.toList.take b).drop a := by
  simp [ByteArray.extract, ByteArray.copySlice, List.drop_take]
theorem slice_to (t : ByteArray) (a b : Nat) (x y : Int) (hx : x = a) (hy : y = b) (hab : a ≤ b) (hb : b ≤ t.size) (w : World) : (Instr.slice 9 (.string t) (some (.int .i64 x)) (some (.int .i64 y)) none).run Tryz.prog w = .ok (.string (t.extract a b)) w := by
  rw [run_slice_string _ _ _ _ _ _ _ Tryz.underlying9 (by omega) (by omega) (by omega), hx, hy]; rfl
theorem slice_on (t : ByteArray) (i : Int) (n : Nat) (hi : i = n) (hn : n ≤ t.size) (w : World) : (Instr.slice 9 (.string t) (some (.int .i64 i)) none none).run Tryz.prog w = .ok (.string (t.extract n t.size)) w := by
  rw [run_slice_string_from_if _ _ _ _ _ Tryz.underlying9, if_pos (by omega), hi]; rfl
theorem slice_upto (t : ByteArray) (y : Int) (b : Nat) (hy : y = b) (hb : b ≤ t.size) (w : World) : (Instr.slice 9 (.string t) none (some (.int .i64 y)) none).run Tryz.prog w = .ok (.string (t.extract 0 b)) w := by
  rw [run_slice_string_to_if _ _ _ _ _ Tryz.underlying9, if_pos (by omega), hy]; rfl
end Go.Proofs.YtialedffpaoacaaGreatDoor
