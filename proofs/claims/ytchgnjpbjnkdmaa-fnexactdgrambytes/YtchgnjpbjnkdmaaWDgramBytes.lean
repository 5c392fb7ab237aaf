/- The walk of the law on DgramBytes. -/
import Derived.Test.YtchgnjpbjnkdmaaToDgram
import Derived.Test.YtchgnjpbjnkdmaaDgI
namespace Go.Proofs.Ytchgnjpbjnkdmaa
open Go.RowKit

set_option maxRecDepth 100000 in
theorem fnExactDgramBytes_walk (s d sp dp ttl : Int) (t : ByteArray) (w : World) (_ws : (Lit.int .i64 s).wf = true) (_wd : (Lit.int .i64 d).wf = true) (_wsp : (Lit.int .i64 sp).wf = true) (_wdp : (Lit.int .i64 dp).wf = true) (_wttl : (Lit.int .i64 ttl).wf = true) (wt : t.size ≤ maxLen) :
    Calls Try.prog 7 #[.agg #[.int .i64 s, .int .i64 d, .int .i64 sp, .int .i64 dp, .int .i64 ttl, .string t]] w fun e w' => e = .returned (.bool true) ∧ Below w.heap.size w w' := by
  have hwt : t.size ≤ 9223372036854775807 := by unfold maxLen at wt; omega
  clear wt
  have HT : Hid (∀ w, Calls Try.prog 45 #[.agg #[.int .i64 s, .int .i64 d, .int .i64 sp, .int .i64 dp, .int .i64 ttl, .string t]] w fun e w' => e = .returned (.agg #[.int .i64 s, .int .i64 d, .int .i64 sp, .int .i64 dp, .int .i64 ttl, .string t]) ∧ Below w.heap.size w w') := toDgram_any s d sp dp ttl t
  have HS : Hid (∀ w, Calls Try.prog 34 #[.agg #[.int .i64 s, .int .i64 d, .int .i64 sp, .int .i64 dp, .int .i64 ttl, .string t]] w fun e w' => e = .returned (.string (dgO s d sp dp ttl t)) ∧ Below w.heap.size w w') := specDgramBytes_any s d sp dp ttl t
  have HI : Hid (∀ w, Calls Try.prog 27 #[.agg #[.int .i64 s, .int .i64 d, .int .i64 sp, .int .i64 dp, .int .i64 ttl, .string t]] w fun e w' => e = .returned (.string (dgO s d sp dp ttl t)) ∧ Below w.heap.size w w') := implDgramBytes_any s d sp dp ttl t
  generalize dgO s d sp dp ttl t = R at *
  by_cases hz : t.size ≤ 1048576
  · go_enter Try.func7, Try.ntmps7
    go_wp2_with fail
    refine (szDgram_in s d sp dp ttl t _ hz).mono ?_
    rintro e w0 ⟨⟨x, hx, rfl⟩, hb0⟩
    have hd : decide (x < 0) = false := by simp; omega
    have n0 : Row w0 w.heap.size 58 [.int .i64 s, .int .i64 d, .int .i64 sp, .int .i64 dp, .int .i64 ttl, .string t] := (Row.new w 58 [.int .i64 s, .int .i64 d, .int .i64 sp, .int .i64 dp, .int .i64 ttl, .string t]).below hb0 (by simp)
    have hB0 := after_next (new_below0 w (.cells #[.int .i64 s, .int .i64 d, .int .i64 sp, .int .i64 dp, .int .i64 ttl, .string t] 58)) hb0 (by simp)
    have c0 : w0.cell? ⟨w.heap.size, 0, none⟩ = some (.int .i64 s) := n0.cell 0
    have c1 : w0.cell? ⟨w.heap.size, 1, none⟩ = some (.int .i64 d) := n0.cell 1
    have c2 : w0.cell? ⟨w.heap.size, 2, none⟩ = some (.int .i64 sp) := n0.cell 2
    have c3 : w0.cell? ⟨w.heap.size, 3, none⟩ = some (.int .i64 dp) := n0.cell 3
    have c4 : w0.cell? ⟨w.heap.size, 4, none⟩ = some (.int .i64 ttl) := n0.cell 4
    have c5 : w0.cell? ⟨w.heap.size, 5, none⟩ = some (.string t) := n0.cell 5
    clear hb0
    go_wp2_with fail
    refine (HT.out _).mono ?_
    rintro e w1 ⟨rfl, hb1⟩
    have n1 := n0.below hb1 n0.lt
    have hB1 := after_next hB0 hb1 hB0.size
    clear hb1 c0 c1 c2 c3 c4 c5 hB0 n0
    go_wp2_with fail
    refine (HS.out _).mono ?_
    rintro e w2 ⟨rfl, hb2⟩
    have n2 := n1.below hb2 n1.lt
    have c0 : w2.cell? ⟨w.heap.size, 0, none⟩ = some (.int .i64 s) := n2.cell 0
    have c1 : w2.cell? ⟨w.heap.size, 1, none⟩ = some (.int .i64 d) := n2.cell 1
    have c2 : w2.cell? ⟨w.heap.size, 2, none⟩ = some (.int .i64 sp) := n2.cell 2
    have c3 : w2.cell? ⟨w.heap.size, 3, none⟩ = some (.int .i64 dp) := n2.cell 3
    have c4 : w2.cell? ⟨w.heap.size, 4, none⟩ = some (.int .i64 ttl) := n2.cell 4
    have c5 : w2.cell? ⟨w.heap.size, 5, none⟩ = some (.string t) := n2.cell 5
    have hB2 := after_next hB1 hb2 hB1.size
    clear hb2 n1 hB1
    go_wp2_with fail
    refine (HT.out _).mono ?_
    rintro e w3 ⟨rfl, hb3⟩
    have hB3 := after_next hB2 hb3 hB2.size
    clear hb3 c0 c1 c2 c3 c4 c5 hB2 n2
    go_wp2_with fail
    refine (HI.out _).mono ?_
    rintro e w4 ⟨rfl, hb4⟩
    have hB4 := after_next hB3 hb4 hB3.size
    go_wp2
    go_ret
    exact ⟨rfl, hB4⟩
  · go_enter Try.func7, Try.ntmps7
    go_wp2_with fail
    refine (szDgram_out s d sp dp ttl t _ hz hwt).mono ?_
    rintro e w0 ⟨rfl, hb0⟩
    have hB0 := after_next (new_below0 w (.cells #[.int .i64 s, .int .i64 d, .int .i64 sp, .int .i64 dp, .int .i64 ttl, .string t] 58)) hb0 (by simp)
    go_wp2
    go_ret
    exact ⟨rfl, hB0⟩
end Go.Proofs.Ytchgnjpbjnkdmaa
