/- GetText of the model. -/
import Derived.Test.YtflgiohhkoplaadDoorGetTextM
import Derived.Test.YtflgiohhkoplaadDoorGetNumS
import Derived.BigRegion
namespace Go.Proofs.YtflgiohhkoplaadDoor
open Go.RowKit

set_option maxRecDepth 100000 in
set_option maxHeartbeats 2000000 in
theorem specGetText_any (t : ByteArray) (a : Int) (w : World) (hz : t.size ≤ 1048576) (ha0 : -9223372036854775808 ≤ a) (ha1 : a ≤ 9223372036854775807) :
    Calls Tryd.prog 8 #[.string t, .int .i64 a] w fun e w' => e = .returned (textV (getTextR t a)) ∧ Below w.heap.size w w' := by
  have HC : Hid (∀ w, Calls Tryd.prog 5 #[.string t, .int .i64 a] w fun e w' => e = .returned (numV (getNumR t a)) ∧ Below w.heap.size w w') := fun w => specGetNum_any t a w hz ha0 ha1
  rcases getTextR_cases t a with ⟨hne, hR⟩ | ⟨n, p, hN, h8, hp, hn0, hn1, hways⟩
  · have HV : Hid _ := textV_eq hR
    generalize getTextR t a = TR at *
    generalize getNumR t a = R at *
    obtain ⟨x, y, c⟩ := R
    unfold numV at HC
    have hcb : (c != 0) = true := by simpa using hne
    clear hne hR
    go_enter Tryd.func8, Tryd.ntmps8
    go_wp2_with fail
    refine (HC.out _).mono ?_
    rintro e w1 ⟨rfl, hb1⟩
    obtain ⟨hc1, hf1⟩ := bcell hb1
    have hs1 : w.heap.size < w1.heap.size := by have := hb1.size; simp at this; omega
    have hB : Below w.heap.size w w1 := ((Below.refl _ _).alloc (Nat.le_refl _) _).trans (hb1.mono (by simp))
    go_wp2
    refine bodyPost_ret (v := textV TR) (by rw [HV.out]; simp [results, Tryd.results8, go_sem, hc1, hs1]; try rfl) rfl ⟨rfl, ?_⟩
    exact (((hB.setCell (Nat.le_refl _) _).setCell (Nat.le_refl _) _).setCell (Nat.le_refl _) _).alloc (by simp [World.setCell]; omega) _
  · rw [hN] at HC
    unfold numV at HC
    simp only at HC
    clear hN
    rcases hways with ⟨hbad, hR⟩ | ⟨hn2, hn3, hlt, hR⟩ | ⟨m, rfl, hm, hpm, hR⟩
    · have HV : Hid _ := textV_eq hR
      generalize getTextR t a = TR at *
      clear hR
      rcases hbad with hbad | hbad
      all_goals
        go_enter Tryd.func8, Tryd.ntmps8
        go_wp2_with fail
        refine (HC.out _).mono ?_
        rintro e w1 ⟨rfl, hb1⟩
        obtain ⟨hc1, hf1⟩ := bcell hb1
        have hs1 : w.heap.size < w1.heap.size := by have := hb1.size; simp at this; omega
        have hB : Below w.heap.size w w1 := ((Below.refl _ _).alloc (Nat.le_refl _) _).trans (hb1.mono (by simp))
        go_wp2
        refine bodyPost_ret (v := textV TR) (by rw [HV.out]; simp [results, Tryd.results8, go_sem, hc1, hs1]; try rfl) rfl ⟨rfl, ?_⟩
        exact (((hB.setCell (Nat.le_refl _) _).setCell (Nat.le_refl _) _).setCell (Nat.le_refl _) _).alloc (by simp [World.setCell]; omega) _
    · have HV : Hid _ := textV_eq hR
      generalize getTextR t a = TR at *
      clear hR
      go_enter Tryd.func8, Tryd.ntmps8
      go_wp2_with fail
      refine (HC.out _).mono ?_
      rintro e w1 ⟨rfl, hb1⟩
      obtain ⟨hc1, hf1⟩ := bcell hb1
      have hs1 : w.heap.size < w1.heap.size := by have := hb1.size; simp at this; omega
      have hB : Below w.heap.size w w1 := ((Below.refl _ _).alloc (Nat.le_refl _) _).trans (hb1.mono (by simp))
      go_wp2
      refine bodyPost_ret (v := textV TR) (by rw [HV.out]; simp [results, Tryd.results8, go_sem, hc1, hs1]; try rfl) rfl ⟨rfl, ?_⟩
      exact (((hB.setCell (Nat.le_refl _) _).setCell (Nat.le_refl _) _).setCell (Nat.le_refl _) _).alloc (by simp [World.setCell]; omega) _
    · have HV : Hid _ := textV_eq hR
      generalize getTextR t a = TR at *
      clear hR
      have hwr := wrap_i64_in ((p : Int) + m) (by omega) (by omega)
      have hsl := slice_mid t p m hpm
      go_enter Tryd.func8, Tryd.ntmps8
      go_wp2_with fail
      refine (HC.out _).mono ?_
      rintro e w1 ⟨rfl, hb1⟩
      obtain ⟨hc1, hf1⟩ := bcell hb1
      have hs1 : w.heap.size < w1.heap.size := by have := hb1.size; simp at this; omega
      have hB : Below w.heap.size w w1 := ((Below.refl _ _).alloc (Nat.le_refl _) _).trans (hb1.mono (by simp))
      go_wp2
      go_region
      go_wp2
      refine bodyPost_ret (v := textV TR) (by rw [HV.out]; simp [results, Tryd.results8, go_sem, hc1, hs1]) rfl ⟨rfl, ?_⟩
      exact ((((hB.setCell (Nat.le_refl _) _).setCell (Nat.le_refl _) _).setCell (Nat.le_refl _) _).alloc (by simp [World.setCell]; omega) _).drew
end Go.Proofs.YtflgiohhkoplaadDoor
