/- GetText of the program. -/
import Derived.Test.YtflgiohhkoplaadDoorGetTextM
import Derived.Test.YtflgiohhkoplaadDoorJoined
namespace Go.Proofs.YtflgiohhkoplaadDoor
open Go.RowKit

def readT (R : ByteArray × Int × Int) : Value := .tuple #[.string R.1, .int .i64 R.2.1, errV R.2.2]
theorem readT_ok {R : ByteArray × Int × Int} {x : ByteArray} {p : Int} (h : R = (x, p, 0)) : readT R = .tuple #[.string x, .int .i64 p, .nilIface] := by rw [h]; rfl
theorem errV_ne {c : Int} (h : c ≠ 0) : errV c = .iface 41 (.agg #[.int .i64 c]) := by unfold errV; rw [if_neg h]
theorem readT_no {R : ByteArray × Int × Int} {c : Int} (h : R = (ByteArray.empty, 0, c)) (hc : c ≠ 0) : readT R = .tuple #[.string ByteArray.empty, .int .i64 0, .iface 41 (.agg #[.int .i64 c])] := by
  rw [h]; unfold readT; simp only [errV_ne hc]

set_option maxRecDepth 100000 in
set_option maxHeartbeats 2000000 in
theorem textAt_any (t : ByteArray) (a : Int) (w : World) (hz : t.size ≤ 1048576) (ha0 : -9223372036854775808 ≤ a) (ha1 : a ≤ 9223372036854775807) :
    Calls Tryd.prog 13 #[.string t, .int .i64 a] w fun e w' => e = .returned (readT (getTextR t a)) ∧ Below w.heap.size w w' := by
  have HC : Hid (∀ w, Calls Tryd.prog 11 #[.string t, .int .i64 a] w fun e w' => e = .returned (readV (getNumR t a)) ∧ w = w') := fun w => numAt_any t a w hz ha0 ha1
  rcases getTextR_cases t a with ⟨hne, hR⟩ | ⟨n, p, hN, h8, hp, hn0, hn1, hways⟩
  · have HV : Hid _ := readT_no hR hne
    generalize getTextR t a = TR at *
    generalize getNumR t a = R at *
    obtain ⟨x, y, c⟩ := R
    simp only [readV_form, errV_ne hne] at HC
    clear hne hR
    go_enter Tryd.func13, Tryd.ntmps13
    go_wp2_with fail
    refine (HC.out _).mono ?_
    rintro e w1 ⟨rfl, rfl⟩
    go_wp2
    go_ret3
    exact ⟨by rw [HV.out]; rfl, Below.refl _ _⟩
  · rw [hN] at HC
    simp only [readV_form] at HC
    have HC2 : Hid (∀ w, Calls Tryd.prog 11 #[.string t, .int .i64 a] w fun e w' => e = .returned (.tuple #[.int .i64 n, .int .i64 (p : Int), .nilIface]) ∧ w = w') := HC
    clear hN HC
    rcases hways with ⟨hbad, hR⟩ | ⟨hn2, hn3, hlt, hR⟩ | ⟨m, rfl, hm, hpm, hR⟩
    · have HV : Hid _ := readT_no hR (by omega)
      generalize getTextR t a = TR at *
      clear hR
      rcases hbad with hbad | hbad
      all_goals
        go_enter Tryd.func13, Tryd.ntmps13
        go_wp2_with fail
        refine (HC2.out _).mono ?_
        rintro e w1 ⟨rfl, rfl⟩
        go_wp2
        go_ret3
        exact ⟨by rw [HV.out]; rfl, Below.refl _ _⟩
    · have HV : Hid _ := readT_no hR (by omega)
      generalize getTextR t a = TR at *
      clear hR
      go_enter Tryd.func13, Tryd.ntmps13
      go_wp2_with fail
      refine (HC2.out _).mono ?_
      rintro e w1 ⟨rfl, rfl⟩
      go_wp2
      go_ret3
      exact ⟨by rw [HV.out]; rfl, Below.refl _ _⟩
    · have HV : Hid _ := readT_ok hR
      generalize getTextR t a = TR at *
      clear hR
      have hsl := slice_mid t p m hpm
      have hez : (t.extract p (p + m)).size ≤ 10000000 := by simp; omega
      have HA : Hid (t.extract p (p + m) ++ ByteArray.empty = t.extract p (p + m)) := by show _ = _; simp
      generalize t.extract p (p + m) = E at *
      go_enter Tryd.func13, Tryd.ntmps13
      go_wp2_with fail
      refine (HC2.out _).mono ?_
      rintro e w1 ⟨rfl, rfl⟩
      go_wp2_with fail
      refine (joined_any _ ByteArray.empty _ hez (by decide)).mono ?_
      rw [HA.out]
      rintro e w2 ⟨rfl, hb2⟩
      go_wp2
      go_ret3
      exact ⟨by rw [HV.out]; rfl, hb2⟩

set_option maxRecDepth 100000 in
theorem implGetText_any (t : ByteArray) (a : Int) (w : World) (hg : Laid w) (hz : t.size ≤ 1048576) (ha0 : -9223372036854775808 ≤ a) (ha1 : a ≤ 9223372036854775807) :
    Calls Tryd.prog 9 #[.string t, .int .i64 a] w fun e w' => e = .returned (textV (getTextR t a)) ∧ Below w.heap.size w w' := by
  have HC : Hid (∀ w, Calls Tryd.prog 13 #[.string t, .int .i64 a] w fun e w' => e = .returned (readT (getTextR t a)) ∧ Below w.heap.size w w') := fun w => textAt_any t a w hz ha0 ha1
  generalize getTextR t a = R at *
  obtain ⟨x, y, c⟩ := R
  unfold readT at HC
  simp only at HC
  have HD : Hid (∀ w, Laid w → Calls Tryd.prog 12 #[errV c] w fun e w' => e = .returned (.int .i64 c) ∧ Below w.heap.size w w') := fun w h => codeOf_any c w h
  have HL := hg.alloc (.cells #[.string ByteArray.empty, .int .i64 0, .int .i64 0] 28)
  clear hg
  generalize errV c = E at *
  have HL0 : Hid _ := HL
  clear HL
  go_enter Tryd.func9, Tryd.ntmps9
  go_wp2_with fail
  refine (HC.out _).mono ?_
  rintro e w1 ⟨rfl, hb1⟩
  obtain ⟨hc1, hf1⟩ := bcell hb1
  have hs1 : w.heap.size < w1.heap.size := by have := hb1.size; simp at this; omega
  have hB : Below w.heap.size w w1 := ((Below.refl _ _).alloc (Nat.le_refl _) _).trans (hb1.mono (by simp))
  have HL1 : Hid (Laid w1) := Laid.below HL0.out hb1
  go_wp2_with fail
  refine (HD.out _ HL1.out).mono ?_
  rintro e w2 ⟨rfl, hb2⟩
  obtain ⟨hc2, hf2⟩ := bcell hb2
  have hB2 : Below w.heap.size w w2 := hB.trans (hb2.mono (by omega))
  go_wp2
  refine bodyPost_ret (v := textV (x, y, c)) (by simp [results, Tryd.results9, go_sem, textV, hc1, hc2, hs1]) rfl ⟨rfl, ?_⟩
  exact ((hB2.setCell (Nat.le_refl _) _).setCell (Nat.le_refl _) _).setCell (Nat.le_refl _) _
end Go.Proofs.YtflgiohhkoplaadDoor
