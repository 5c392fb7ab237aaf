/- The walk of the law on DgramRead. -/
import Derived.Test.YtchgnjpbjnkdmabDReadJ
import Derived.Test.YtchgnjpbjnkdmabDReadS
namespace Go.Proofs.Ytchgnjpbjnkdmab
open Go.RowKit

set_option maxRecDepth 100000 in
theorem eqDgram_same (s d sp dp ttl : Int) (t : ByteArray) (w : World) : Calls Try.prog 25 #[.agg #[.int .i64 s, .int .i64 d, .int .i64 sp, .int .i64 dp, .int .i64 ttl, .string t], .agg #[.int .i64 s, .int .i64 d, .int .i64 sp, .int .i64 dp, .int .i64 ttl, .string t]] w fun e w' => e = .returned (.bool true) ∧ Below w.heap.size w w' := by
  have h1 : (s != s) = false := by simp
  have h2 : (d != d) = false := by simp
  have h3 : (sp != sp) = false := by simp
  have h4 : (dp != dp) = false := by simp
  have h5 : (ttl != ttl) = false := by simp
  go_enter Try.func25, Try.ntmps25
  go_wp2
  go_ret
  exact ⟨rfl, ((Below.refl _ _).alloc (Nat.le_refl _) _).alloc (by simp) _⟩
set_option maxRecDepth 100000 in
theorem eqDgramO_same (s d sp dp ttl : Int) (t : ByteArray) (c : Int) (w : World) : Calls Try.prog 9 #[.agg #[.int .i64 s, .int .i64 d, .int .i64 sp, .int .i64 dp, .int .i64 ttl, .string t, .int .i64 c], .agg #[.int .i64 s, .int .i64 d, .int .i64 sp, .int .i64 dp, .int .i64 ttl, .string t, .int .i64 c]] w fun e w' => e = .returned (.bool true) ∧ Below w.heap.size w w' := by
  have h3 : (c != c) = false := by simp
  have HE : Hid (∀ w, Calls Try.prog 25 #[.agg #[.int .i64 s, .int .i64 d, .int .i64 sp, .int .i64 dp, .int .i64 ttl, .string t], .agg #[.int .i64 s, .int .i64 d, .int .i64 sp, .int .i64 dp, .int .i64 ttl, .string t]] w fun e w' => e = .returned (.bool true) ∧ Below w.heap.size w w') := eqDgram_same s d sp dp ttl t
  go_enter Try.func9, Try.ntmps9
  go_wp2_with fail
  refine (HE.out _).mono ?_
  rintro e w1 ⟨rfl, hb1⟩
  obtain ⟨hc1, hf1⟩ := bcell hb1
  have hB : Below w.heap.size w w1 := (((Below.refl _ _).alloc (Nat.le_refl _) _).alloc (by simp) _).trans (hb1.mono (by simp; omega))
  have c0 := hc1 w.heap.size 6 (by simp; omega)
  have c1 := hc1 (w.heap.size + 1) 6 (by simp)
  go_wp2
  go_ret
  exact ⟨rfl, hB⟩
set_option maxRecDepth 100000 in
theorem fnExactDgramRead_walk (a0 : ByteArray) (w : World) (w0 : a0.size ≤ maxLen) :
    Calls Try.prog 3 #[.string a0] w fun e w' => e = .returned (.bool true) ∧ Below w.heap.size w w' := by
  unfold maxLen at w0
  by_cases hz : a0.size ≤ 1048576
  · have HS : Hid (∀ w, Calls Try.prog 7 #[.string a0] w fun e w' => e = .returned (dgRead a0) ∧ Below w.heap.size w w') := fun w => specDgramRead_any a0 w hz
    have HI : Hid (∀ w, Calls Try.prog 8 #[.string a0] w fun e w' => e = .returned (dgRead a0) ∧ Below w.heap.size w w') := fun w => implDgramRead_any a0 w hz
    obtain ⟨s, d, sp, dp, ttl, t, c, hv⟩ := dgRead_form a0
    rw [hv] at HS HI
    clear hv
    unfold dOut at HS HI
    have HQ : Hid (∀ w, Calls Try.prog 9 #[.agg #[.int .i64 s, .int .i64 d, .int .i64 sp, .int .i64 dp, .int .i64 ttl, .string t, .int .i64 c], .agg #[.int .i64 s, .int .i64 d, .int .i64 sp, .int .i64 dp, .int .i64 ttl, .string t, .int .i64 c]] w fun e w' => e = .returned (.bool true) ∧ Below w.heap.size w w') := fun w => eqDgramO_same s d sp dp ttl t c w
    go_enter Try.func3, Try.ntmps3
    go_wp2_with fail
    refine (HS.out _).mono ?_
    rintro e w1 ⟨rfl, hb1⟩
    go_wp2_with fail
    refine (HI.out _).mono ?_
    rintro e w2 ⟨rfl, hb2⟩
    obtain ⟨hc2, hf2⟩ := bcell hb2
    have hs2 : w1.heap.size < w2.heap.size := by have := hb2.size; simp at this; omega
    go_wp2_with fail
    refine (HQ.out _).mono ?_
    rintro e w3 ⟨rfl, hb3⟩
    go_wp2
    go_ret
    refine ⟨rfl, (hb1.trans (((Below.refl w1.heap.size w1).alloc (Nat.le_refl _) _).trans (hb2.mono (by simp)) |>.mono hb1.size)).trans ?_⟩
    exact ((((Below.refl w2.heap.size w2).alloc (Nat.le_refl _) _).trans (hb3.mono (by simp))).mono (by have := hb1.size; omega))
  · go_enter Try.func3, Try.ntmps3
    go_wp2_with fail
    go_ret
    exact ⟨rfl, Below.refl _ _⟩
end Go.Proofs.Ytchgnjpbjnkdmab
