/- The laws' own datagrams: how much they hold, and handed over. -/
import Derived.Test.YtchgnjpbjnkdmaaDgramR
import Derived.Test.YtchgnjpbjnkdmaaOpenSix
import Derived.Test.YtchgnjpbjnkdmaaRowV
namespace Go.Proofs.Ytchgnjpbjnkdmaa
open Go.RowKit

set_option maxRecDepth 100000 in
theorem toDgram_any (s d sp dp ttl : Int) (t : ByteArray) (w : World) : Calls Try.prog 45 #[dgV s d sp dp ttl t] w fun e w' => e = .returned (dgV s d sp dp ttl t) ∧ Below w.heap.size w w' := by
  unfold dgV
  go_enter Try.func45, Try.ntmps45
  go_wp2
  refine bodyPost_ret (v := .agg #[.int .i64 s, .int .i64 d, .int .i64 sp, .int .i64 dp, .int .i64 ttl, .string t]) (by simp [results, Try.results45, go_sem]) rfl ⟨rfl, ?_⟩
  exact (((Below.refl _ _).alloc (Nat.le_refl _) _).alloc (by simp) _).alloc (by simp; omega) _
set_option maxRecDepth 100000 in
theorem szDgram_in (s d sp dp ttl : Int) (t : ByteArray) (w : World) (h : t.size ≤ 1048576) : Calls Try.prog 44 #[dgV s d sp dp ttl t, .int .i64 1048576] w fun e w' => (∃ x, 0 ≤ x ∧ e = .returned (.int .i64 x)) ∧ Below w.heap.size w w' := by
  have hd : decide ((1048576 : Int) - (t.size : Int) < 0) = false := by simp; omega
  unfold dgV
  go_enter Try.func44, Try.ntmps44
  go_wp2
  go_ret
  exact ⟨⟨_, by omega, rfl⟩, (Below.refl _ _).alloc (Nat.le_refl _) _⟩
set_option maxRecDepth 100000 in
theorem szDgram_out (s d sp dp ttl : Int) (t : ByteArray) (w : World) (h : ¬ t.size ≤ 1048576) (hw : t.size ≤ 9223372036854775807) : Calls Try.prog 44 #[dgV s d sp dp ttl t, .int .i64 1048576] w fun e w' => e = .returned (.int .i64 (-1)) ∧ Below w.heap.size w w' := by
  have hd : decide ((1048576 : Int) - (t.size : Int) < 0) = true := by simp; omega
  have hwr := wrap_i64_in ((1048576 : Int) - (t.size : Int)) (by omega) (by omega)
  unfold dgV
  go_enter Try.func44, Try.ntmps44
  go_wp2
  go_ret
  exact ⟨rfl, (Below.refl _ _).alloc (Nat.le_refl _) _⟩
end Go.Proofs.Ytchgnjpbjnkdmaa
