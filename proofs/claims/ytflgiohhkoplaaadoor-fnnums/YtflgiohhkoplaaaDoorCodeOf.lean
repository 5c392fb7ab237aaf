/- codeOf: the code that an error tells; numAt; GetNum of the program. -/
import Derived.Test.YtflgiohhkoplaaaDoorReadNum
import Derived.Test.YtflgiohhkoplaaaDoorAsHit
namespace Go.Proofs.YtflgiohhkoplaaaDoor
open Go.RowKit

/-- The package variable errors.errorType holds the handle of the type error. -/
def Laid (w : World) : Prop := w.cell? ⟨0, 0, none⟩ = some (.iface 72 (.agg #[.pointer (some ⟨1, 40, none⟩)]))
theorem Laid.pos {w : World} (h : Laid w) : 0 < w.heap.size := by
  rcases Nat.eq_zero_or_pos w.heap.size with h0 | h'
  · simp [Laid, World.cell?, h0] at h
  · exact h'
theorem Laid.below {w w' : World} (h : Laid w) (hb : Below w.heap.size w w') : Laid w' := by
  unfold Laid
  rw [hb.cell (p := ⟨0, 0, none⟩) h.pos]; exact h
theorem Laid.alloc {w : World} (h : Laid w) (o : Obj) : Laid (w.alloc o) := h.below ((Below.refl _ _).alloc (Nat.le_refl _) o)

theorem codeOf_nil (w : World) : Calls Tryd.prog 17 #[.nilIface] w fun e w' => e = .returned (.int .i64 0) ∧ Below w.heap.size w w' := by
  go_enter Tryd.func17, Tryd.ntmps17
  go_wp2_with fail
  refine (as_nil _ _).mono ?_
  rintro e w1 ⟨rfl, rfl⟩
  go_wp2
  go_ret
  exact ⟨rfl, (Below.refl _ _).alloc (Nat.le_refl _) _⟩
set_option maxHeartbeats 1000000 in
theorem codeOf_fault (c : Int) (w : World) (hg : Laid w) : Calls Tryd.prog 17 #[.iface 53 (.agg #[.int .i64 c])] w fun e w' => e = .returned (.int .i64 c) ∧ Below w.heap.size w w' := by
  have hL := hg.alloc (.cells #[.int .i64 0] 53)
  unfold Laid at hL
  have hp := hg.pos
  clear hg
  have htA : (w.alloc (.cells #[.int .i64 0] 53)).cell? ⟨w.heap.size, 0, none⟩ = some (.int .i64 0) := by simp
  have hfA : (w.alloc (.cells #[.int .i64 0] 53)).frozen? ⟨w.heap.size, 0, none⟩ = false := by simp
  go_enter Tryd.func17, Tryd.ntmps17
  go_wp2_with fail
  refine (as_hit c ⟨w.heap.size, 0, none⟩ (.int .i64 0) _ hL htA hfA).mono ?_
  rintro e w1 ⟨rfl, rfl⟩
  go_wp2
  go_ret
  exact ⟨rfl, (((((Below.refl _ _).alloc (Nat.le_refl _) _).alloc (by simp) _).alloc (by simp; omega) _).alloc (by simp; omega) _).alloc (by simp; omega) _⟩

/-- The error that readNum hands back beside the code. -/
def errV (c : Int) : Value := if c = 0 then .nilIface else .iface 53 (.agg #[.int .i64 c])
theorem codeOf_any (c : Int) (w : World) (hg : Laid w) : Calls Tryd.prog 17 #[errV c] w fun e w' => e = .returned (.int .i64 c) ∧ Below w.heap.size w w' := by
  by_cases h : c = 0
  · subst h; exact codeOf_nil w
  · have e : errV c = .iface 53 (.agg #[.int .i64 c]) := by unfold errV; rw [if_neg h]
    rw [e]; exact codeOf_fault c w hg
theorem errV_form (c : Int) : errV c = .nilIface ∨ errV c = .iface 53 (.agg #[.int .i64 c]) := by
  unfold errV; split
  · exact .inl rfl
  · exact .inr rfl
theorem readV_form (R : Int × Int × Int) : readV R = .tuple #[.int .i64 R.1, .int .i64 R.2.1, errV R.2.2] := rfl

set_option maxRecDepth 100000 in
theorem numAt_any (t : ByteArray) (a : Int) (w : World) (hz : t.size ≤ 1048576) (ha0 : -9223372036854775808 ≤ a) (ha1 : a ≤ 9223372036854775807) :
    Calls Tryd.prog 16 #[.string t, .int .i64 a] w fun e w' => e = .returned (readV (getNumR t a)) ∧ w = w' := by
  by_cases h8 : 8000 < t.size
  · have HV : Hid (readV (getNumR t a) = .tuple #[.int .i64 0, .int .i64 0, .iface 53 (.agg #[.int .i64 2])]) := by show _ = _; unfold getNumR; rw [if_pos h8]; rfl
    go_enter Tryd.func16, Tryd.ntmps16
    go_wp2
    go_ret3
    exact ⟨by rw [HV.out]; rfl, rfl⟩
  · by_cases h0 : a < 0
    · have HV : Hid (readV (getNumR t a) = .tuple #[.int .i64 0, .int .i64 0, .iface 53 (.agg #[.int .i64 1])]) := by show _ = _; unfold getNumR; rw [if_neg h8, if_pos h0]; rfl
      go_enter Tryd.func16, Tryd.ntmps16
      go_wp2
      go_ret3
      exact ⟨by rw [HV.out]; rfl, rfl⟩
    · obtain ⟨n, rfl⟩ := Int.eq_ofNat_of_zero_le (show 0 ≤ a by omega)
      have HV : getNumR t n = getGo t n 10 0 0 := by unfold getNumR; rw [if_neg h8, if_neg h0]; rfl
      rw [HV]
      clear HV
      have HC : Hid (∀ w, Calls Tryd.prog 24 #[.string t, .int .i64 n] w fun e w' => e = .returned (readV (getGo t n 10 0 0)) ∧ w = w') := fun w => readNum_any t n w (by omega) ha1
      generalize getGo t n 10 0 0 = R at *
      obtain ⟨x, y, c⟩ := R
      simp only [readV_form] at HC ⊢
      generalize errV c = E at *
      go_enter Tryd.func16, Tryd.ntmps16
      go_wp2_with fail
      refine (HC.out _).mono ?_
      rintro e w1 ⟨rfl, rfl⟩
      go_wp2
      go_ret3
      exact ⟨rfl, rfl⟩

set_option maxRecDepth 100000 in
theorem implGetNum_any (t : ByteArray) (a : Int) (w : World) (hg : Laid w) (hz : t.size ≤ 1048576) (ha0 : -9223372036854775808 ≤ a) (ha1 : a ≤ 9223372036854775807) :
    Calls Tryd.prog 7 #[.string t, .int .i64 a] w fun e w' => e = .returned (numV (getNumR t a)) ∧ Below w.heap.size w w' := by
  have HC : Hid (∀ w, Calls Tryd.prog 16 #[.string t, .int .i64 a] w fun e w' => e = .returned (readV (getNumR t a)) ∧ w = w') := fun w => numAt_any t a w hz ha0 ha1
  generalize getNumR t a = R at *
  obtain ⟨x, y, c⟩ := R
  simp only [readV_form] at HC
  have HD : Hid (∀ w, Laid w → Calls Tryd.prog 17 #[errV c] w fun e w' => e = .returned (.int .i64 c) ∧ Below w.heap.size w w') := fun w h => codeOf_any c w h
  have HL := hg.alloc (.cells #[.int .i64 0, .int .i64 0, .int .i64 0] 26)
  clear hg
  generalize errV c = E at *
  go_enter Tryd.func7, Tryd.ntmps7
  go_wp2_with fail
  refine (HC.out _).mono ?_
  rintro e w1 ⟨rfl, rfl⟩
  go_wp2_with fail
  refine (HD.out _ HL).mono ?_
  rintro e w1 ⟨rfl, hb1⟩
  obtain ⟨hc1, hf1⟩ := bcell hb1
  have hB : Below w.heap.size w w1 := ((Below.refl _ _).alloc (Nat.le_refl _) _).trans (hb1.mono (by simp))
  go_wp2
  refine bodyPost_ret (v := numV (x, y, c)) (by simp [results, Tryd.results7, go_sem, numV, hc1]) rfl ⟨rfl, ?_⟩
  exact ((hB.setCell (Nat.le_refl _) _).setCell (Nat.le_refl _) _).setCell (Nat.le_refl _) _
end Go.Proofs.YtflgiohhkoplaaaDoor
