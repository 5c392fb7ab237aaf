/- Unseal of the program. -/
import Derived.Test.YtflgiohhkoplaaaUnsealM
import Derived.Test.YtflgiohhkoplaaaSealI
namespace Go.Proofs.Ytflgiohhkoplaaa
open Go.RowKit

set_option maxRecDepth 100000 in
set_option maxHeartbeats 1000000 in
theorem implUnseal_in (t : ByteArray) (w : World) (h : 4 ≤ t.size) (h8 : t.size ≤ 8000) (v : Value) (hv : sealT (t.extract 0 (t.size - 4)) = t ∧ v = textOut (t.extract 0 (t.size - 4)) 0 0 ∨ sealT (t.extract 0 (t.size - 4)) ≠ t ∧ v = textOut ByteArray.empty 0 5) :
    Calls Try.prog 8 #[.string t] w fun e w' => e = .returned v ∧ Below w.heap.size w w' := by
  have hz : (t.extract 0 (t.size - 4)).size ≤ 1048576 := by simp; omega
  have hz2 : (t.extract 0 (t.size - 4)).size ≤ 10000000 := by simp; omega
  rcases hv with ⟨he, rfl⟩ | ⟨he, rfl⟩
  · have HE : Hid (sealT (t.extract 0 (t.size - 4)) = t) := he
    have HA : Hid (t.extract 0 (t.size - 4) ++ ByteArray.empty = t.extract 0 (t.size - 4)) := by show _ = _; simp
    clear he
    go_enter Try.func8, Try.ntmps8
    go_wp2_with fail
    refine (implSeal_any _ _ hz).mono ?_
    rw [HE.out]
    rintro e w1 ⟨rfl, hb1⟩
    obtain ⟨hc1, hf1⟩ := bcell hb1
    have hB : Below w.heap.size w w1 := ((Below.refl _ _).alloc (Nat.le_refl _) _).trans (hb1.mono (by simp))
    have hs1 : w.heap.size < w1.heap.size := by have := hb1.size; simp at this; omega
    go_wp2_with fail
    refine (joined_any _ ByteArray.empty _ hz2 (by decide)).mono ?_
    rw [HA.out]
    rintro e w2 ⟨rfl, hb2⟩
    obtain ⟨hc2, hf2⟩ := bcell hb2
    have hB2 : Below w.heap.size w w2 := hB.trans (hb2.mono (by omega))
    go_wp2
    refine bodyPost_ret (v := textOut (t.extract 0 (t.size - 4)) 0 0) (by simp [results, Try.results8, go_sem, textOut, hc1, hc2, hs1]) rfl ⟨rfl, ?_⟩
    exact ((hB2.setCell (Nat.le_refl _) _).setCell (Nat.le_refl _) _).setCell (Nat.le_refl _) _
  · have HF : Hid (∀ w, Calls Try.prog 5 #[.string (t.extract 0 (t.size - 4))] w fun e w' => e = .returned (.string (sealT (t.extract 0 (t.size - 4)))) ∧ Below w.heap.size w w') := fun w => implSeal_any _ w hz
    generalize sealT (t.extract 0 (t.size - 4)) = Z at *
    have hne := text_ne he
    clear he
    go_enter Try.func8, Try.ntmps8
    go_wp2_with fail
    refine (HF.out _).mono ?_
    rintro e w1 ⟨rfl, hb1⟩
    obtain ⟨hc1, hf1⟩ := bcell hb1
    have hB : Below w.heap.size w w1 := ((Below.refl _ _).alloc (Nat.le_refl _) _).trans (hb1.mono (by simp))
    go_wp2
    refine bodyPost_ret (v := textOut ByteArray.empty 0 5) (by simp [results, Try.results8, go_sem, textOut, hc1]; rfl) rfl ⟨rfl, ?_⟩
    exact ((hB.setCell (Nat.le_refl _) _).setCell (Nat.le_refl _) _).setCell (Nat.le_refl _) _

set_option maxRecDepth 100000 in
theorem implUnseal_any (t : ByteArray) (w : World) (hz : t.size ≤ 1048576) :
    Calls Try.prog 8 #[.string t] w fun e w' => e = .returned (unsealV t) ∧ Below w.heap.size w w' := by
  by_cases h1 : 8000 < t.size
  · rw [unsealV_out t h1]
    go_enter Try.func8, Try.ntmps8
    go_wp2
    refine bodyPost_ret (v := textOut ByteArray.empty 0 2) (by simp [results, Try.results8, go_sem, textOut]; rfl) rfl ⟨rfl, ?_⟩
    exact (Below.refl _ _).alloc (Nat.le_refl _) _
  · by_cases h2 : t.size < 4
    · rw [unsealV_short t h2]
      go_enter Try.func8, Try.ntmps8
      go_wp2
      refine bodyPost_ret (v := textOut ByteArray.empty 0 4) (by simp [results, Try.results8, go_sem, textOut]; rfl) rfl ⟨rfl, ?_⟩
      exact (Below.refl _ _).alloc (Nat.le_refl _) _
    · by_cases he : sealT (bodyT t) = t
      · exact implUnseal_in t w (by omega) (by omega) _ (.inl ⟨he, unsealV_good t (by omega) (by omega) he⟩)
      · exact implUnseal_in t w (by omega) (by omega) _ (.inr ⟨he, unsealV_bad t (by omega) (by omega) he⟩)
end Go.Proofs.Ytflgiohhkoplaaa
