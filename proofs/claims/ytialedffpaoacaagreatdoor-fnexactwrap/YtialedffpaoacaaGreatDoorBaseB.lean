/- The types of bytes in this translation; what text a row of bytes gives. -/
import Derived.Test.YtialedffpaoacaaGreatDoorBase
namespace Go.Proofs.YtialedffpaoacaaGreatDoor
open Go.RowKit

theorem Tryz.infoB : (Tryz.prog.info? 5).map (fun i => (i.zero, i.size, i.bytes)) = some (some (.int .u8 0), 1, 1) := by kernel_rfl
theorem Tryz.infoS : (Tryz.prog.info? 5).map (·.size) = some 1 := by kernel_rfl
/-- A row that holds just the bytes of a text gives it. -/
theorem RowB.conv {w : World} {g n : Nat} {l : List UInt8} (t : ByteArray) (h : RowB w g 5 l) (hl : l = t.data.toList) (hn : n = t.size) (hm : n ≤ 100000000) :
    (convert 150 9 (.slice (some ⟨g, 0, none⟩) n n)).run Tryz.prog w = .ok (.string t) w := by
  subst hl hn
  have hz : t.data.toList.length = t.size := by simp
  have h1 := (h.own 0 t.data.toList.length (Nat.zero_le _) rfl (by rw [hz]; unfold maxLen; omega)).textAt (P := Tryz.prog) 150 9 Tryz.underlying150 Tryz.underlying5 Tryz.underlying9
  rw [hz] at h1
  rw [h1]

theorem cellsB_ofInts (cs : List Int) (h : ∀ x ∈ cs, 0 ≤ x ∧ x < 256) : cellsB (cs.map fun x => UInt8.ofNat x.toNat) = cs.map (Value.int .u8) := by
  induction cs with
  | nil => rfl
  | cons a l ih =>
    have h1 := h a (by simp)
    simp only [List.map_cons, cellsB] at ih ⊢
    rw [byte_of_int a h1.1 h1.2]
    simp only [List.cons.injEq, true_and]
    exact ih (fun x hx => h x (by simp [hx]))
/-- 'string([]byte{..})': a literal of bytes, just laid. -/
theorem conv_lit (w : World) (cs : List Int) (n : Nat) (hn : n = cs.length) (h : ∀ x ∈ cs, 0 ≤ x ∧ x < 256) (hm : n ≤ 1000000) :
    (convert 150 9 (.slice (some ⟨w.heap.size, 0, none⟩) n n)).run Tryz.prog (w.alloc (.cells (cs.map (Value.int .u8)).toArray 5)) = .ok (.string ⟨(cs.map fun x => UInt8.ofNat x.toNat).toArray⟩) (w.alloc (.cells (cs.map (Value.int .u8)).toArray 5)) := by
  have hr : RowB (w.alloc (.cells (cs.map (Value.int .u8)).toArray 5)) w.heap.size 5 (cs.map fun x => UInt8.ofNat x.toNat) := by
    unfold RowB
    rw [cellsB_ofInts cs h]
    show (w.heap.push _)[w.heap.size]? = _
    simp
  exact hr.conv (n := n) ⟨(cs.map fun x => UInt8.ofNat x.toNat).toArray⟩ rfl (by rw [hn]; simp [ByteArray.size]) (by omega)
end Go.Proofs.YtialedffpaoacaaGreatDoor
