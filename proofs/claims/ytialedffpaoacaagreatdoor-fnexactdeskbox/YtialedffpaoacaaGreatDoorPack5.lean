/- Texts that stand on each other, in one file: Base, TimeD, BaseB, KeyB, KeyD, KeyS. -/
import Derived.Test.YtialedffpaoacaaGreatDoorRows
import Derived.Test.YtialedffpaoacaaGreatDoorPack4
import Derived.Test.YtialedffpaoacaaGreatDoorPack1
import Derived.BigGuardPart
/- Small facts on this translation and on ends of calls. -/
namespace Go.Proofs.YtialedffpaoacaaGreatDoor
open Go.RowKit

theorem ret_u64 {a b : Int} (h : a = b) : Ending.returned (.int .u64 a) = .returned (.int .u64 b) := by rw [h]
theorem ret_u32 {a b : Int} (h : a = b) : Ending.returned (.int .u32 a) = .returned (.int .u32 b) := by rw [h]
theorem ret_i64 {a b : Int} (h : a = b) : Ending.returned (.int .i64 a) = .returned (.int .i64 b) := by rw [h]
theorem ret_bool {a b : Bool} (h : a = b) : Ending.returned (.bool a) = .returned (.bool b) := by rw [h]
theorem bounds_i64 {n : Int} (h : (Lit.int .i64 n).wf = true) : -9223372036854775808 ≤ n ∧ n ≤ 9223372036854775807 := by
  simp [Lit.wf, IntKind.min, IntKind.max, IntKind.bits, IntKind.signed] at h; omega
theorem take_next (s : ByteArray) (k : Nat) (h : k < s.size) : s.data.toList.take (k + 1) = s.data.toList.take k ++ [s[k]] := by
  rw [List.take_succ_eq_append_getElem (by simpa using h)]; rfl
theorem take_all (s : ByteArray) (k : Nat) (h : ¬ k < s.size) : s.data.toList.take k = s.data.toList := List.take_of_length_le (by simp; omega)
theorem wrap_i64_in (x : Int) (h0 : -9223372036854775808 ≤ x) (h1 : x ≤ 9223372036854775807) : IntKind.i64.wrap x = x := by
  rw [IntKind.wrap_i64]; omega
theorem bcell {W w1 : World} (hb : Below W.heap.size W w1) : (∀ b o, b < W.heap.size → w1.cell? ⟨b, o, none⟩ = W.cell? ⟨b, o, none⟩) ∧ (∀ b o, b < W.heap.size → w1.frozen? ⟨b, o, none⟩ = W.frozen? ⟨b, o, none⟩) :=
  ⟨fun b o h => hb.cell (p := ⟨b, o, none⟩) h, fun b o h => hb.frozen (p := ⟨b, o, none⟩) h⟩
theorem text_ne {a b : ByteArray} (h : a ≠ b) : (a.toList == b.toList) = false := by
  rw [ByteArray.toList_eq, ByteArray.toList_eq]
  simp only [beq_eq_false_iff_ne, ne_eq]
  intro e
  exact h (ByteArray.ext (Array.toList_inj.1 e))
end Go.Proofs.YtialedffpaoacaaGreatDoor
/- Times, of the program. -/
namespace Go.Proofs.YtialedffpaoacaaGreatDoor
open Go.RowKit

def inTime (n : Int) : Bool := decide (0 ≤ n ∧ n ≤ 1000000)
set_option maxRecDepth 100000 in
theorem isTime_any (a : Int) (w : World) : Calls Tryz.prog 55 #[.int .i64 a] w fun e w' => e = .returned (.bool (inTime a)) ∧ w = w' := by
  by_cases h1 : 0 ≤ a
  · by_cases h2 : a ≤ 1000000
    · go_enter Tryz.func55, Tryz.ntmps55
      go_wp2
      go_ret
      exact ⟨ret_bool (by simp [inTime]; omega), rfl⟩
    · go_enter Tryz.func55, Tryz.ntmps55
      go_wp2
      go_ret
      exact ⟨ret_bool (by simp [inTime]; omega), rfl⟩
  · go_enter Tryz.func55, Tryz.ntmps55
    go_wp2
    go_ret
    exact ⟨ret_bool (by simp [inTime]; omega), rfl⟩
end Go.Proofs.YtialedffpaoacaaGreatDoor
/- The types of bytes in this translation; what text a row of bytes gives. -/
namespace Go.Proofs.YtialedffpaoacaaGreatDoor
open Go.RowKit

theorem Tryz.infoB : (Tryz.prog.info? 5).map (fun i => (i.zero, i.size, i.bytes)) = some (some (.int .u8 0), 1, 1) := by kernel_rfl
theorem Tryz.infoS : (Tryz.prog.info? 5).map (·.size) = some 1 := by kernel_rfl
/-- A row that holds just the bytes of a text gives it. -/
theorem RowB.conv {w : World} {g n : Nat} {l : List UInt8} (t : ByteArray) (h : RowB w g 5 l) (hl : l = t.data.toList) (hn : n = t.size) (hm : n ≤ 100000000) :
    (convert 150 9 (.slice (some ⟨g, 0, none⟩) n n)).run Tryz.prog w = .ok (.string t) w := by
  subst hl hn
  have hz : t.data.toList.length = t.size := by simp
  have h1 := (h.own 0 t.data.toList.length (Nat.zero_le _) rfl (by rw [hz]; unfold maxLen; omega)).textAt (P := Tryz.prog) 150 9 Tryz.underlying150 Tryz.underlying5 Tryz.underlying9
  rw [hz] at h1
  rw [h1]

theorem cellsB_ofInts (cs : List Int) (h : ∀ x ∈ cs, 0 ≤ x ∧ x < 256) : cellsB (cs.map fun x => UInt8.ofNat x.toNat) = cs.map (Value.int .u8) := by
  induction cs with
  | nil => rfl
  | cons a l ih =>
    have h1 := h a (by simp)
    simp only [List.map_cons, cellsB] at ih ⊢
    rw [byte_of_int a h1.1 h1.2]
    simp only [List.cons.injEq, true_and]
    exact ih (fun x hx => h x (by simp [hx]))
/-- 'string([]byte{..})': a literal of bytes, just laid. -/
theorem conv_lit (w : World) (cs : List Int) (n : Nat) (hn : n = cs.length) (h : ∀ x ∈ cs, 0 ≤ x ∧ x < 256) (hm : n ≤ 1000000) :
    (convert 150 9 (.slice (some ⟨w.heap.size, 0, none⟩) n n)).run Tryz.prog (w.alloc (.cells (cs.map (Value.int .u8)).toArray 5)) = .ok (.string ⟨(cs.map fun x => UInt8.ofNat x.toNat).toArray⟩) (w.alloc (.cells (cs.map (Value.int .u8)).toArray 5)) := by
  have hr : RowB (w.alloc (.cells (cs.map (Value.int .u8)).toArray 5)) w.heap.size 5 (cs.map fun x => UInt8.ofNat x.toNat) := by
    unfold RowB
    rw [cellsB_ofInts cs h]
    show (w.heap.push _)[w.heap.size]? = _
    simp
  exact hr.conv (n := n) ⟨(cs.map fun x => UInt8.ofNat x.toNat).toArray⟩ rfl (by rw [hn]; simp [ByteArray.size]) (by omega)
end Go.Proofs.YtialedffpaoacaaGreatDoor
/- Keys: how long they may be. -/
namespace Go.Proofs.YtialedffpaoacaaGreatDoor
open Go.RowKit

def inKey (k : ByteArray) : Bool := decide (1 ≤ k.size ∧ k.size ≤ 32)
end Go.Proofs.YtialedffpaoacaaGreatDoor
/- Keys, of the program. -/
namespace Go.Proofs.YtialedffpaoacaaGreatDoor
open Go.RowKit

set_option maxRecDepth 100000 in
theorem keyRight_any (k : ByteArray) (w : World) (hk : k.size ≤ maxLen) : Calls Tryz.prog 133 #[.string k] w fun e w' => e = .returned (.bool (inKey k)) ∧ w = w' := by
  unfold maxLen at hk
  by_cases h1 : 1 ≤ k.size
  · have d1 : decide (1 ≤ (k.size : Int)) = true := by simp; omega
    by_cases h2 : k.size ≤ 32
    · have d2 : decide ((k.size : Int) ≤ 32) = true := by simp; omega
      have HE : Hid (inKey k = true) := by show decide _ = true; simp [h1, h2]
      rw [HE.out]
      go_enter Tryz.func133, Tryz.ntmps133
      go_wp2
      go_ret
      exact ⟨rfl, rfl⟩
    · have d2 : decide ((k.size : Int) ≤ 32) = false := by simp; omega
      have HE : Hid (inKey k = false) := by show decide _ = false; simp; omega
      rw [HE.out]
      go_enter Tryz.func133, Tryz.ntmps133
      go_wp2
      go_ret
      exact ⟨rfl, rfl⟩
  · have d1 : decide (1 ≤ (k.size : Int)) = false := by simp; omega
    have HE : Hid (inKey k = false) := by show decide _ = false; simp; omega
    rw [HE.out]
    go_enter Tryz.func133, Tryz.ntmps133
    go_wp2
    go_ret
    exact ⟨rfl, rfl⟩
end Go.Proofs.YtialedffpaoacaaGreatDoor
/- Keys, of the model. -/
namespace Go.Proofs.YtialedffpaoacaaGreatDoor
open Go.RowKit

set_option maxRecDepth 100000 in
theorem specKey_any (k : ByteArray) (w : World) (hk : k.size ≤ maxLen) : Calls Tryz.prog 81 #[.string k] w fun e w' => e = .returned (.bool (inKey k)) ∧ w = w' := by
  unfold maxLen at hk
  by_cases h1 : 1 ≤ k.size
  · have d1 : decide (1 ≤ (k.size : Int)) = true := by simp; omega
    by_cases h2 : k.size ≤ 32
    · have d2 : decide ((k.size : Int) ≤ 32) = true := by simp; omega
      have HE : Hid (inKey k = true) := by show decide _ = true; simp [h1, h2]
      rw [HE.out]
      go_enter Tryz.func81, Tryz.ntmps81
      go_wp2
      go_ret
      exact ⟨rfl, rfl⟩
    · have d2 : decide ((k.size : Int) ≤ 32) = false := by simp; omega
      have HE : Hid (inKey k = false) := by show decide _ = false; simp; omega
      rw [HE.out]
      go_enter Tryz.func81, Tryz.ntmps81
      go_wp2
      go_ret
      exact ⟨rfl, rfl⟩
  · have d1 : decide (1 ≤ (k.size : Int)) = false := by simp; omega
    have HE : Hid (inKey k = false) := by show decide _ = false; simp; omega
    rw [HE.out]
    go_enter Tryz.func81, Tryz.ntmps81
    go_wp2
    go_ret
    exact ⟨rfl, rfl⟩
end Go.Proofs.YtialedffpaoacaaGreatDoor
