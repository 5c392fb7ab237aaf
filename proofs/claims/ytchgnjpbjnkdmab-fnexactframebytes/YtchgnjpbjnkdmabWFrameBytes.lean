/- The walk of the law on FrameBytes. -/
import Derived.Test.YtchgnjpbjnkdmabToFrame
import Derived.Test.YtchgnjpbjnkdmabFrameI
namespace Go.Proofs.Ytchgnjpbjnkdmab
open Go.RowKit

set_option maxRecDepth 100000 in
theorem fnExactFrameBytes_walk (v : Int) (t : ByteArray) (w : World) (_wv : (Lit.int .i64 v).wf = true) (wt : t.size ≤ maxLen) :
    Calls Try.prog 5 #[.agg #[.int .i64 v, .string t]] w fun e w' => e = .returned (.bool true) ∧ Below w.heap.size w w' := by
  have hwt : t.size ≤ 9223372036854775807 := by unfold maxLen at wt; omega
  clear wt
  have HT : Hid (∀ w, Calls Try.prog 12 #[.agg #[.int .i64 v, .string t]] w fun e w' => e = .returned (.agg #[.int .i64 v, .string t]) ∧ Below w.heap.size w w') := toFrame_any v t
  have HS : Hid (∀ w, Calls Try.prog 14 #[.agg #[.int .i64 v, .string t]] w fun e w' => e = .returned (.string (frO v t)) ∧ Below w.heap.size w w') := specFrameBytes_any v t
  have HI : Hid (∀ w, Calls Try.prog 15 #[.agg #[.int .i64 v, .string t]] w fun e w' => e = .returned (.string (frO v t)) ∧ Below w.heap.size w w') := implFrameBytes_any v t
  generalize frO v t = R at *
  by_cases hz : t.size ≤ 1048576
  · go_enter Try.func5, Try.ntmps5
    go_wp2_with fail
    refine (szFrame_in v t _ hz).mono ?_
    rintro e w0 ⟨⟨x, hx, rfl⟩, hb0⟩
    have hd : decide (x < 0) = false := by simp; omega
    have n0 := (TwoAt.new w (.int .i64 v) (.string t) 30).below hb0
    have hB0 := after_next (new_below w (.cells #[.int .i64 v, .string t] 30)) hb0 (by simp)
    obtain ⟨c0, c1⟩ := n0
    clear hb0
    go_wp2_with fail
    refine (HT.out _).mono ?_
    rintro e w1 ⟨rfl, hb1⟩
    have n1 := (show TwoAt w0 w.heap.size _ _ from ⟨c0, c1⟩).below hb1
    have hB1 := after_next hB0 hb1 hB0.size
    clear hb1 c0 c1 hB0
    go_wp2_with fail
    refine (HS.out _).mono ?_
    rintro e w2 ⟨rfl, hb2⟩
    obtain ⟨c0, c1⟩ := n1.below hb2
    have hB2 := after_next hB1 hb2 hB1.size
    clear hb2 n1 hB1
    go_wp2_with fail
    refine (HT.out _).mono ?_
    rintro e w3 ⟨rfl, hb3⟩
    have hB3 := after_next hB2 hb3 hB2.size
    clear hb3 c0 c1 hB2
    go_wp2_with fail
    refine (HI.out _).mono ?_
    rintro e w4 ⟨rfl, hb4⟩
    have hB4 := after_next hB3 hb4 hB3.size
    go_wp2
    go_ret
    exact ⟨rfl, hB4⟩
  · go_enter Try.func5, Try.ntmps5
    go_wp2_with fail
    refine (szFrame_out v t _ hz hwt).mono ?_
    rintro e w0 ⟨rfl, hb0⟩
    have hB0 := after_next (new_below w (.cells #[.int .i64 v, .string t] 30)) hb0 (by simp)
    go_wp2
    go_ret
    exact ⟨rfl, hB0⟩
end Go.Proofs.Ytchgnjpbjnkdmab
