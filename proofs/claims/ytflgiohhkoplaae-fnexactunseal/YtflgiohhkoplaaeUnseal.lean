/- Unseal, of the model and of the program. -/
import Derived.Test.YtflgiohhkoplaaeSeal
import Derived.Deep.RegionWith
namespace Go.Proofs.Ytflgiohhkoplaae
open Go.RowKit

/-- A TextOut as a value. -/
def textOut (t : ByteArray) (a c : Int) : Value := .agg #[.string t, .int .i64 a, .int .i64 c]
def bodyT (t : ByteArray) : ByteArray := t.extract 0 (t.size - 4)
def tailT (t : ByteArray) : ByteArray := t.extract (t.size - 4) t.size
def unsealV (t : ByteArray) : Value :=
  if 8000 < t.size then textOut ByteArray.empty 0 2
  else if t.size < 4 then textOut ByteArray.empty 0 4
  else if sealT (bodyT t) = t then textOut (bodyT t) 0 0 else textOut ByteArray.empty 0 5

theorem body_tail (t : ByteArray) : bodyT t ++ tailT t = t := by
  unfold bodyT tailT
  rw [ByteArray.extract_append_extract]
  simp
theorem bodyT_size (t : ByteArray) : (bodyT t).size = t.size - 4 := by unfold bodyT; simp
theorem seal_iff (t : ByteArray) (h8 : t.size ≤ 8000) : sealT (bodyT t) = t ↔ fourT (crcT (bodyT t)) = tailT t := by
  rw [sealT_in _ (by rw [bodyT_size]; omega)]
  constructor
  · intro e
    have e2 := (body_tail t).trans e.symm
    have e3 := congrArg (fun x : ByteArray => x.data.toList) e2
    simp only [ByteArray.data_append, Array.toList_append] at e3
    have e4 := List.append_cancel_left e3
    exact (ByteArray.ext (Array.toList_inj.1 e4)).symm
  · intro e
    rw [e, body_tail t]

theorem slice_from (t : ByteArray) (i : Int) (n : Nat) (hi : i = n) (hn : n ≤ t.size) (w : World) : (Instr.slice 9 (.string t) (some (.int .i64 i)) none none).run Try.prog w = .ok (.string (t.extract n t.size)) w := by
  rw [run_slice_string_from_if _ _ _ _ _ Try.underlying9, if_pos (by omega), hi]; rfl

set_option maxRecDepth 100000 in
theorem specUnseal_out (t : ByteArray) (w : World) (hz : t.size ≤ 1048576) (h : 8000 < t.size) :
    Calls Try.prog 10 #[.string t] w fun e w' => e = .returned (textOut ByteArray.empty 0 2) ∧ Below w.heap.size w w' := by
  go_enter Try.func10, Try.ntmps10
  go_wp2
  refine bodyPost_ret (v := textOut ByteArray.empty 0 2) (by simp [results, Try.results10, go_sem, textOut]; rfl) rfl ⟨rfl, ?_⟩
  exact (Below.refl _ _).alloc (Nat.le_refl _) _
set_option maxRecDepth 100000 in
theorem specUnseal_short (t : ByteArray) (w : World) (h : t.size < 4) :
    Calls Try.prog 10 #[.string t] w fun e w' => e = .returned (textOut ByteArray.empty 0 4) ∧ Below w.heap.size w w' := by
  go_enter Try.func10, Try.ntmps10
  go_wp2
  refine bodyPost_ret (v := textOut ByteArray.empty 0 4) (by simp [results, Try.results10, go_sem, textOut]; rfl) rfl ⟨rfl, ?_⟩
  exact (Below.refl _ _).alloc (Nat.le_refl _) _

set_option maxRecDepth 100000 in
theorem specUnseal_good (t : ByteArray) (w : World) (h : 4 ≤ t.size) (h8 : t.size ≤ 8000) (he : fourT (crcT (t.extract 0 (t.size - 4))) = t.extract (t.size - 4) t.size) :
    Calls Try.prog 10 #[.string t] w fun e w' => e = .returned (textOut (t.extract 0 (t.size - 4)) 0 0) ∧ Below w.heap.size w w' := by
  have HE : Hid (fourT (crcT (t.extract 0 (t.size - 4))) = t.extract (t.size - 4) t.size) := he
  clear he
  have hz : (t.extract 0 (t.size - 4)).size ≤ 8000 := by simp; omega
  have hwr := wrap_i64_in ((t.size : Int) - 4) (by omega) (by omega)
  have hsl := slice_from t ((t.size : Int) - 4) (t.size - 4) (by omega) (by omega)
  go_enter Try.func10, Try.ntmps10
  go_wp2
  go_region_with (first | (go_at_call 13; refine (specCrc_zero _ _ hz).mono ?_; rintro e w' ⟨rfl, rfl⟩) | (go_at_call 15; refine (specFour_any _ _ (crcT_lt _)).mono ?_; rw [HE.out]; rintro e w1 ⟨rfl, hb1⟩))
  obtain ⟨hc1, hf1⟩ := bcell hb1
  have hB : Below w.heap.size w w1 := (((Below.refl _ _).alloc (Nat.le_refl _) _).drew).trans (hb1.mono (by simp))
  go_wp2
  refine bodyPost_ret (v := textOut (t.extract 0 (t.size - 4)) 0 0) (by simp [results, Try.results10, go_sem, textOut, hc1]) rfl ⟨rfl, ?_⟩
  exact ((hB.setCell (Nat.le_refl _) _).setCell (Nat.le_refl _) _).setCell (Nat.le_refl _) _

set_option maxRecDepth 100000 in
theorem specUnseal_bad (t : ByteArray) (w : World) (h : 4 ≤ t.size) (h8 : t.size ≤ 8000) (he : fourT (crcT (t.extract 0 (t.size - 4))) ≠ t.extract (t.size - 4) t.size) :
    Calls Try.prog 10 #[.string t] w fun e w' => e = .returned (textOut ByteArray.empty 0 5) ∧ Below w.heap.size w w' := by
  have hne := text_ne he
  clear he
  have hz : (t.extract 0 (t.size - 4)).size ≤ 8000 := by simp; omega
  have hwr := wrap_i64_in ((t.size : Int) - 4) (by omega) (by omega)
  have hsl := slice_from t ((t.size : Int) - 4) (t.size - 4) (by omega) (by omega)
  have HF : Hid (∀ w, Calls Try.prog 15 #[.int .i64 (crcT (t.extract 0 (t.size - 4)))] w fun e w' => e = .returned (.string (fourT (crcT (t.extract 0 (t.size - 4))))) ∧ Below w.heap.size w w') := fun w => specFour_any _ w (crcT_lt _)
  generalize fourT (crcT (t.extract 0 (t.size - 4))) = F at *
  generalize t.extract (t.size - 4) t.size = G at *
  go_enter Try.func10, Try.ntmps10
  go_wp2
  go_region_with (first | (go_at_call 13; refine (specCrc_zero _ _ hz).mono ?_; rintro e w' ⟨rfl, rfl⟩) | (go_at_call 15; refine (HF.out _).mono ?_; rintro e w1 ⟨rfl, hb1⟩))
  obtain ⟨hc1, hf1⟩ := bcell hb1
  have hB : Below w.heap.size w w1 := (((Below.refl _ _).alloc (Nat.le_refl _) _).drew).trans (hb1.mono (by simp))
  go_wp2
  refine bodyPost_ret (v := textOut ByteArray.empty 0 5) (by simp [results, Try.results10, go_sem, textOut, hc1]; rfl) rfl ⟨rfl, ?_⟩
  exact ((hB.setCell (Nat.le_refl _) _).setCell (Nat.le_refl _) _).setCell (Nat.le_refl _) _

theorem unsealV_out (t : ByteArray) (h : 8000 < t.size) : unsealV t = textOut ByteArray.empty 0 2 := by simp [unsealV, h]
theorem unsealV_short (t : ByteArray) (h : t.size < 4) : unsealV t = textOut ByteArray.empty 0 4 := by unfold unsealV; rw [if_neg (by omega), if_pos h]
theorem unsealV_good (t : ByteArray) (h : 4 ≤ t.size) (h8 : t.size ≤ 8000) (he : sealT (bodyT t) = t) : unsealV t = textOut (t.extract 0 (t.size - 4)) 0 0 := by
  unfold unsealV; rw [if_neg (by omega), if_neg (by omega), if_pos he]; rfl
theorem unsealV_bad (t : ByteArray) (h : 4 ≤ t.size) (h8 : t.size ≤ 8000) (he : ¬ sealT (bodyT t) = t) : unsealV t = textOut ByteArray.empty 0 5 := by
  unfold unsealV; rw [if_neg (by omega), if_neg (by omega), if_neg he]

theorem specUnseal_any (t : ByteArray) (w : World) (hz : t.size ≤ 1048576) :
    Calls Try.prog 10 #[.string t] w fun e w' => e = .returned (unsealV t) ∧ Below w.heap.size w w' := by
  by_cases h1 : 8000 < t.size
  · rw [unsealV_out t h1]; exact specUnseal_out t w hz h1
  · by_cases h2 : t.size < 4
    · rw [unsealV_short t h2]; exact specUnseal_short t w h2
    · by_cases he : sealT (bodyT t) = t
      · rw [unsealV_good t (by omega) (by omega) he]; exact specUnseal_good t w (by omega) (by omega) ((seal_iff t (by omega)).1 he)
      · rw [unsealV_bad t (by omega) (by omega) he]; exact specUnseal_bad t w (by omega) (by omega) (fun e => he ((seal_iff t (by omega)).2 e))

set_option maxRecDepth 100000 in
set_option maxHeartbeats 1000000 in
theorem implUnseal_in (t : ByteArray) (w : World) (h : 4 ≤ t.size) (h8 : t.size ≤ 8000) (v : Value) (hv : sealT (t.extract 0 (t.size - 4)) = t ∧ v = textOut (t.extract 0 (t.size - 4)) 0 0 ∨ sealT (t.extract 0 (t.size - 4)) ≠ t ∧ v = textOut ByteArray.empty 0 5) :
    Calls Try.prog 11 #[.string t] w fun e w' => e = .returned v ∧ Below w.heap.size w w' := by
  have hz : (t.extract 0 (t.size - 4)).size ≤ 1048576 := by simp; omega
  have hz2 : (t.extract 0 (t.size - 4)).size ≤ 10000000 := by simp; omega
  rcases hv with ⟨he, rfl⟩ | ⟨he, rfl⟩
  · have HE : Hid (sealT (t.extract 0 (t.size - 4)) = t) := he
    have HA : Hid (t.extract 0 (t.size - 4) ++ ByteArray.empty = t.extract 0 (t.size - 4)) := by show _ = _; simp
    clear he
    go_enter Try.func11, Try.ntmps11
    go_wp2_with fail
    refine (implSeal_any _ _ hz).mono ?_
    rw [HE.out]
    rintro e w1 ⟨rfl, hb1⟩
    obtain ⟨hc1, hf1⟩ := bcell hb1
    have hB : Below w.heap.size w w1 := ((Below.refl _ _).alloc (Nat.le_refl _) _).trans (hb1.mono (by simp))
    have hs1 : w.heap.size < w1.heap.size := by have := hb1.size; simp at this; omega
    go_wp2_with fail
    refine (joined_any _ ByteArray.empty _ hz2 (by decide)).mono ?_
    rw [HA.out]
    rintro e w2 ⟨rfl, hb2⟩
    obtain ⟨hc2, hf2⟩ := bcell hb2
    have hB2 : Below w.heap.size w w2 := hB.trans (hb2.mono (by omega))
    go_wp2
    refine bodyPost_ret (v := textOut (t.extract 0 (t.size - 4)) 0 0) (by simp [results, Try.results11, go_sem, textOut, hc1, hc2, hs1]) rfl ⟨rfl, ?_⟩
    exact ((hB2.setCell (Nat.le_refl _) _).setCell (Nat.le_refl _) _).setCell (Nat.le_refl _) _
  · have HF : Hid (∀ w, Calls Try.prog 9 #[.string (t.extract 0 (t.size - 4))] w fun e w' => e = .returned (.string (sealT (t.extract 0 (t.size - 4)))) ∧ Below w.heap.size w w') := fun w => implSeal_any _ w hz
    generalize sealT (t.extract 0 (t.size - 4)) = Z at *
    have hne := text_ne he
    clear he
    go_enter Try.func11, Try.ntmps11
    go_wp2_with fail
    refine (HF.out _).mono ?_
    rintro e w1 ⟨rfl, hb1⟩
    obtain ⟨hc1, hf1⟩ := bcell hb1
    have hB : Below w.heap.size w w1 := ((Below.refl _ _).alloc (Nat.le_refl _) _).trans (hb1.mono (by simp))
    go_wp2
    refine bodyPost_ret (v := textOut ByteArray.empty 0 5) (by simp [results, Try.results11, go_sem, textOut, hc1]; rfl) rfl ⟨rfl, ?_⟩
    exact ((hB.setCell (Nat.le_refl _) _).setCell (Nat.le_refl _) _).setCell (Nat.le_refl _) _

set_option maxRecDepth 100000 in
theorem implUnseal_any (t : ByteArray) (w : World) (hz : t.size ≤ 1048576) :
    Calls Try.prog 11 #[.string t] w fun e w' => e = .returned (unsealV t) ∧ Below w.heap.size w w' := by
  by_cases h1 : 8000 < t.size
  · rw [unsealV_out t h1]
    go_enter Try.func11, Try.ntmps11
    go_wp2
    refine bodyPost_ret (v := textOut ByteArray.empty 0 2) (by simp [results, Try.results11, go_sem, textOut]; rfl) rfl ⟨rfl, ?_⟩
    exact (Below.refl _ _).alloc (Nat.le_refl _) _
  · by_cases h2 : t.size < 4
    · rw [unsealV_short t h2]
      go_enter Try.func11, Try.ntmps11
      go_wp2
      refine bodyPost_ret (v := textOut ByteArray.empty 0 4) (by simp [results, Try.results11, go_sem, textOut]; rfl) rfl ⟨rfl, ?_⟩
      exact (Below.refl _ _).alloc (Nat.le_refl _) _
    · by_cases he : sealT (bodyT t) = t
      · exact implUnseal_in t w (by omega) (by omega) _ (.inl ⟨he, unsealV_good t (by omega) (by omega) he⟩)
      · exact implUnseal_in t w (by omega) (by omega) _ (.inr ⟨he, unsealV_bad t (by omega) (by omega) he⟩)
end Go.Proofs.Ytflgiohhkoplaae
