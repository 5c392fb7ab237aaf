/- edge: a number at some limit. -/
import Derived.Test.YtjbmpcjhcdlflaaDoorSource
namespace Go.Proofs.YtjbmpcjhcdlflaaDoor
open Go.RowKit

def edgeCells : Array Value := #[.int .i64 0, .int .i64 1, .int .i64 (-1), .int .i64 2, .int .i64 1000, .int .i64 1001, .int .i64 2147483648, .int .i64 2147483647, .int .i64 (-2147483648), .int .i64 4611686018427387904, .int .i64 9223372036854775807, .int .i64 (-9223372036854775808), .int .i64 1000000, .int .i64 1000001]
theorem edge_at (k : Nat) (h : k < 14) : ∃ v : Int, edgeCells[k]? = some (.int .i64 v) ∧ -9223372036854775808 ≤ v ∧ v ≤ 9223372036854775807 := by
  match k, h with
  | 0, _ => exact ⟨_, rfl, by decide, by decide⟩
  | 1, _ => exact ⟨_, rfl, by decide, by decide⟩
  | 2, _ => exact ⟨_, rfl, by decide, by decide⟩
  | 3, _ => exact ⟨_, rfl, by decide, by decide⟩
  | 4, _ => exact ⟨_, rfl, by decide, by decide⟩
  | 5, _ => exact ⟨_, rfl, by decide, by decide⟩
  | 6, _ => exact ⟨_, rfl, by decide, by decide⟩
  | 7, _ => exact ⟨_, rfl, by decide, by decide⟩
  | 8, _ => exact ⟨_, rfl, by decide, by decide⟩
  | 9, _ => exact ⟨_, rfl, by decide, by decide⟩
  | 10, _ => exact ⟨_, rfl, by decide, by decide⟩
  | 11, _ => exact ⟨_, rfl, by decide, by decide⟩
  | 12, _ => exact ⟨_, rfl, by decide, by decide⟩
  | 13, _ => exact ⟨_, rfl, by decide, by decide⟩
set_option maxRecDepth 100000 in
set_option maxHeartbeats 1000000 in
theorem edge_any (g : Nat) (a : Option Addr) (len cap B : Nat) (w : World) (hs : Src w g a len cap) (hc : Code B w a len) (hB : B ≤ g) (hl : len ≤ 1048576) :
    Calls Tryd.prog 25 #[.pointer (some ⟨g, 0, none⟩)] w fun e w' => ∃ r : Int, e = .returned (.int .i64 r) ∧ -9223372036854775808 ≤ r ∧ r ≤ 9223372036854775807 ∧ Src w' g a len cap ∧ w.grownBy w' (some g) := by
  have hgw := hs.lt
  have hs0 : Src (w.alloc (.cells edgeCells 2)) g a len cap := hs.kept (Below.heap_alloc _ _ _ hgw)
  have hg0 : w.grownBy (w.alloc (.cells edgeCells 2)) (some g) := World.grownBy_alloc w _ _
  have hc0 := hc.grown hg0 hB (by omega)
  clear hs hc
  go_enter Tryd.func25, Tryd.ntmps25
  go_wp2_with fail
  refine (n_any g a len cap B 14 _ hs0 hc0 hB hl (by omega) (by omega)).mono ?_
  rintro e w1 ⟨r, rfl, h0, h1, hs1, hg1⟩
  obtain ⟨k, rfl⟩ := Int.eq_ofNat_of_zero_le h0
  have hk : k < 14 := by omega
  obtain ⟨v, hv, hv0, hv1⟩ := edge_at k hk
  have hcell : w1.cell? ⟨w.heap.size, k, none⟩ = some (.int .i64 v) := by
    have hb := hg1.block w.heap.size (by simp) (by simp; omega)
    rw [World.cell?_of_block (w := w.alloc (.cells edgeCells 2)) (a := ⟨w.heap.size, k, none⟩) hb]
    rw [← hv]
    exact World.cell?_alloc_at _ _ _ _ rfl
  have hki : (k : Int) < 14 := by omega
  clear hs0 hc0 h1
  go_wp2
  go_ret
  exact ⟨v, rfl, hv0, hv1, hs1, grown_trans hg0 hg1⟩
end Go.Proofs.YtjbmpcjhcdlflaaDoor
