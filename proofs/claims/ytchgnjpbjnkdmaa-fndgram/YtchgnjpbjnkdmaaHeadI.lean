/- A datagram's head, of the program. -/
import Derived.Test.YtchgnjpbjnkdmaaDgS
import Derived.Test.YtchgnjpbjnkdmaaSumI
import Derived.Test.YtchgnjpbjnkdmaaWords
import Derived.Test.YtchgnjpbjnkdmaaAppends
namespace Go.Proofs.Ytchgnjpbjnkdmaa
open Go.RowKit

theorem or_mark (ttl : Int) (h0 : 0 ≤ ttl) (h1 : ttl ≤ 255) : bits .or .i64 (ttl * 256) 17 = ttl * 256 + 17 := by
  have h := or_low ttl.toNat 17 (by omega) (by omega)
  rw [show ((ttl.toNat : Nat) : Int) = ttl by omega] at h
  rw [show ((17 : Nat) : Int) = 17 from rfl] at h
  rw [h]; omega
theorem i64_in (x : Int) (h0 : 0 ≤ x) (h1 : x ≤ 4294967295) : (-9223372036854775808 : Int) ≤ x ∧ x ≤ 9223372036854775807 := by omega
theorem head_all (s d ttl sum : Int) (t : ByteArray) (hs0 : 0 ≤ s ∧ s ≤ 4294967295) (hd0 : 0 ≤ d ∧ d ≤ 4294967295) (ht0 : 0 ≤ ttl ∧ ttl ≤ 255) (hn : t.size ≤ 300) (hm0 : 0 ≤ sum ∧ sum ≤ 65535) :
    ∀ n ∈ ([17664, 28 + (t.size : Int), 0, 0, ttl * 256 + 17, sum, s / 65536, s, d / 65536, d] : List Int), (-9223372036854775808 : Int) ≤ n ∧ n ≤ 9223372036854775807 :=
  List.forall_mem_cons.2 ⟨i64_in _ (by omega) (by omega), List.forall_mem_cons.2 ⟨i64_in _ (by omega) (by omega), List.forall_mem_cons.2 ⟨i64_in _ (by omega) (by omega), List.forall_mem_cons.2 ⟨i64_in _ (by omega) (by omega), List.forall_mem_cons.2 ⟨i64_in _ (by omega) (by omega), List.forall_mem_cons.2 ⟨i64_in _ (by omega) (by omega), List.forall_mem_cons.2 ⟨i64_in _ (by omega) (by omega), List.forall_mem_cons.2 ⟨i64_in _ (by omega) (by omega), List.forall_mem_cons.2 ⟨i64_in _ (by omega) (by omega), List.forall_mem_cons.2 ⟨i64_in _ (by omega) (by omega), by simp⟩⟩⟩⟩⟩⟩⟩⟩⟩⟩
set_option maxRecDepth 100000 in
set_option maxHeartbeats 1000000 in
theorem implHead_any (s d sp dp ttl : Int) (t : ByteArray) (sum : Int) (w : World) (hs0 : 0 ≤ s ∧ s ≤ 4294967295) (hd0 : 0 ≤ d ∧ d ≤ 4294967295) (ht0 : 0 ≤ ttl ∧ ttl ≤ 255) (hn : t.size ≤ 300) (hm0 : 0 ≤ sum ∧ sum ≤ 65535) :
    Calls Try.prog 61 #[dgV s d sp dp ttl t, .int .i64 sum] w fun e w' => ∃ v, e = .returned v ∧ Own w' w.heap.size 5 v (cellsB (headL s d ttl t.size sum)) ∧ Below w.heap.size w w' := by
  have hor := or_mark ttl ht0.1 ht0.2
  have hw1 := wrap_i64_in (ttl * 256) (by omega) (by omega)
  have hw2 := wrap_i64_in (28 + (t.size : Int)) (by omega) (by omega)
  have hall := head_all s d ttl sum t hs0 hd0 ht0 hn hm0
  have HW : Hid (∀ (W : World) g, Row W g 2 (valsN [17664, 28 + (t.size : Int), 0, 0, ttl * 256 + 17, sum, s / 65536, s, d / 65536, d]) → Calls Try.prog 65 #[.slice (some ⟨g, 0, none⟩) 10 10] W fun e w' => ∃ u, e = .returned u ∧ Own w' W.heap.size 5 u (cellsB (headL s d ttl t.size sum)) ∧ Below W.heap.size W w') :=
    fun W g hr => implWords_any [17664, 28 + (t.size : Int), 0, 0, ttl * 256 + 17, sum, s / 65536, s, d / 65536, d] g 10 W hr rfl (by simp) hall
  unfold dgV
  go_enter Try.func61, Try.ntmps61
  go_wp2_with fail
  have hrow : Row ((w.alloc (.cells #[.int .i64 s, .int .i64 d, .int .i64 sp, .int .i64 dp, .int .i64 ttl, .string t] 40)).alloc (.cells #[.int .i64 17664, .int .i64 (28 + (t.size : Int)), .int .i64 0, .int .i64 0, .int .i64 (ttl * 256 + 17), .int .i64 sum, .int .i64 (s / 65536), .int .i64 s, .int .i64 (d / 65536), .int .i64 d] 2)) (w.heap.size + 1) 2 [.int .i64 17664, .int .i64 (28 + (t.size : Int)), .int .i64 0, .int .i64 0, .int .i64 (ttl * 256 + 17), .int .i64 sum, .int .i64 (s / 65536), .int .i64 s, .int .i64 (d / 65536), .int .i64 d] := by
    have h := Row.new (w.alloc (.cells #[.int .i64 s, .int .i64 d, .int .i64 sp, .int .i64 dp, .int .i64 ttl, .string t] 40)) 2 [.int .i64 17664, .int .i64 (28 + (t.size : Int)), .int .i64 0, .int .i64 0, .int .i64 (ttl * 256 + 17), .int .i64 sum, .int .i64 (s / 65536), .int .i64 s, .int .i64 (d / 65536), .int .i64 d]
    rwa [show (w.alloc (.cells #[.int .i64 s, .int .i64 d, .int .i64 sp, .int .i64 dp, .int .i64 ttl, .string t] 40)).heap.size = w.heap.size + 1 by simp] at h
  refine (HW.out _ _ hrow).mono ?_
  rintro e w1 ⟨u, rfl, ho, hb⟩
  have hB : Below w.heap.size w w1 := ((new_below0 w (.cells #[.int .i64 s, .int .i64 d, .int .i64 sp, .int .i64 dp, .int .i64 ttl, .string t] 40)).alloc (by simp) _).trans (hb.mono (by simp; omega))
  go_wp2
  go_ret
  exact ⟨_, rfl, ho.mono (by simp; omega), hB⟩
end Go.Proofs.Ytchgnjpbjnkdmaa
