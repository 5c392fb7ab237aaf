/- The laws' own frames: how much they hold, and handed over. -/
import Derived.Test.YtchgnjpbjnkdmabFrameR
namespace Go.Proofs.Ytchgnjpbjnkdmab
open Go.RowKit

set_option maxRecDepth 100000 in
theorem toFrame_any (v : Int) (t : ByteArray) (w : World) : Calls Try.prog 12 #[.agg #[.int .i64 v, .string t]] w fun e w' => e = .returned (.agg #[.int .i64 v, .string t]) ∧ Below w.heap.size w w' := by
  go_enter Try.func12, Try.ntmps12
  go_wp2
  refine bodyPost_ret (v := .agg #[.int .i64 v, .string t]) (by simp [results, Try.results12, go_sem]) rfl ⟨rfl, ?_⟩
  exact (((Below.refl _ _).alloc (Nat.le_refl _) _).alloc (by simp) _).alloc (by simp; omega) _
set_option maxRecDepth 100000 in
theorem szFrame_in (v : Int) (t : ByteArray) (w : World) (h : t.size ≤ 1048576) : Calls Try.prog 10 #[.agg #[.int .i64 v, .string t], .int .i64 1048576] w fun e w' => (∃ x, 0 ≤ x ∧ e = .returned (.int .i64 x)) ∧ Below w.heap.size w w' := by
  have hd : decide ((1048576 : Int) - (t.size : Int) < 0) = false := by simp; omega
  go_enter Try.func10, Try.ntmps10
  go_wp2
  go_ret
  exact ⟨⟨_, by omega, rfl⟩, (Below.refl _ _).alloc (Nat.le_refl _) _⟩
set_option maxRecDepth 100000 in
theorem szFrame_out (v : Int) (t : ByteArray) (w : World) (h : ¬ t.size ≤ 1048576) (hw : t.size ≤ 9223372036854775807) : Calls Try.prog 10 #[.agg #[.int .i64 v, .string t], .int .i64 1048576] w fun e w' => e = .returned (.int .i64 (-1)) ∧ Below w.heap.size w w' := by
  have hd : decide ((1048576 : Int) - (t.size : Int) < 0) = true := by simp; omega
  have hwr := wrap_i64_in ((1048576 : Int) - (t.size : Int)) (by omega) (by omega)
  go_enter Try.func10, Try.ntmps10
  go_wp2
  go_ret
  exact ⟨rfl, (Below.refl _ _).alloc (Nat.le_refl _) _⟩
/-- Two cells in a block. -/
def TwoAt (w : World) (b : Nat) (x y : Value) : Prop := w.cell? ⟨b, 0, none⟩ = some x ∧ w.cell? ⟨b, 1, none⟩ = some y
theorem TwoAt.new (w : World) (x y : Value) (t : TypeId) : TwoAt (w.alloc (.cells #[x, y] t)) w.heap.size x y :=
  ⟨by rw [cell_of_row _ _ _ _ t _ (heap_alloc_new w _)]; simp, by rw [cell_of_row _ _ _ _ t _ (heap_alloc_new w _)]; simp⟩
theorem TwoAt.below {w w' : World} {b : Nat} {x y : Value} (h : TwoAt w b x y) (hb : Below w.heap.size w w') : TwoAt w' b x y :=
  ⟨by rw [hb.cell (p := ⟨b, 0, none⟩) (World.block_lt_of_cell? w _ h.1)]; exact h.1, by rw [hb.cell (p := ⟨b, 1, none⟩) (World.block_lt_of_cell? w _ h.2)]; exact h.2⟩
theorem new_below (w : World) (o : Obj) : Below w.heap.size w (w.alloc o) := (Below.refl _ _).alloc (Nat.le_refl _) _
end Go.Proofs.Ytchgnjpbjnkdmab
