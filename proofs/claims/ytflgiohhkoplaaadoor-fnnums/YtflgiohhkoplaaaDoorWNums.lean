/- The walk of the law on numbers and texts. -/
import Derived.Test.YtflgiohhkoplaaaDoorDrawNums
import Derived.Test.YtflgiohhkoplaaaDoorRoundTrip
import Derived.Test.YtflgiohhkoplaaaDoorGetTextI
namespace Go.Proofs.YtflgiohhkoplaaaDoor
open Go.RowKit

theorem field_num (x a c : Value) (w : World) : (Instr.field 26 (.agg #[x, a, c]) 2).run Tryd.prog w = .ok c w := by kernel_rfl
theorem field_text (x a c : Value) (w : World) : (Instr.field 31 (.agg #[x, a, c]) 2).run Tryd.prog w = .ok c w := by kernel_rfl
theorem below_trans' {w w1 w2 : World} (h : Below w.heap.size w w1) (k : Below w1.heap.size w1 w2) : Below w.heap.size w w2 := h.trans (k.mono h.size)
theorem getNum_at (t : ByteArray) (a : Int) (w : World) (hg : Laid w) (hz : t.size ≤ 1048576) (ha0 : -9223372036854775808 ≤ a) (ha1 : a ≤ 9223372036854775807) {n p c : Int} (h : getNumR t a = (n, p, c)) :
    Calls Tryd.prog 7 #[.string t, .int .i64 a] w fun e w' => e = .returned (.agg #[.int .i64 n, .int .i64 p, .int .i64 c]) ∧ Below w.heap.size w w' := by
  have := implGetNum_any t a w hg hz ha0 ha1
  rw [h] at this
  exact this
theorem getText_at (t : ByteArray) (a : Int) (w : World) (hg : Laid w) (hz : t.size ≤ 1048576) (ha0 : -9223372036854775808 ≤ a) (ha1 : a ≤ 9223372036854775807) {x : ByteArray} {p c : Int} (h : getTextR t a = (x, p, c)) :
    Calls Tryd.prog 11 #[.string t, .int .i64 a] w fun e w' => e = .returned (.agg #[.string x, .int .i64 p, .int .i64 c]) ∧ Below w.heap.size w w' := by
  have := implGetText_any t a w hg hz ha0 ha1
  rw [h] at this
  exact this

set_option maxRecDepth 100000 in
set_option maxHeartbeats 8000000 in
theorem fnNums_walk (b0 : Option Addr) (len0 cap0 : Nat) (z0 : List Int) (b1 : Option Addr) (len1 cap1 : Nat) (z1 : List Int) (w : World) (w0 : IsRow .u8 w b0 len0 cap0 z0) (w1 : IsRow .u8 w b1 len1 cap1 z1) (hg : Laid w) :
    Calls Tryd.prog 3 #[.slice b0 len0 cap0, .slice b1 len1 cap1] w fun e w' => e = .returned (.bool true) ∧ Below w.heap.size w w' := by
  have hcc := Code.of_row w0
  have hcm := Code.of_row w1
  have hlen0 := w0.len
  have hlen1 := w1.len
  have HG : Hid (Laid w) := hg
  clear w0 w1 hg
  by_cases hl : len0 ≤ 1048576 ∧ len1 ≤ 1048576
  · obtain ⟨hl0, hl1⟩ := hl
    go_enter Tryd.func3, Tryd.ntmps3
    go_wp2_with fail
    refine (drawPutNum_any b0 len0 cap0 _ hcc hl0).mono ?_
    rintro e wa ⟨n, rfl, hn0, hn1, hba⟩
    have HI : Hid (∀ w, Calls Tryd.prog 5 #[.int .i64 n] w fun e w' => e = .returned (.string (putNumT n)) ∧ Below w.heap.size w w') := fun w => implPutNum_any n w hn0 hn1
    have HS : Hid (∀ w, Calls Tryd.prog 6 #[.int .i64 n] w fun e w' => e = .returned (.string (putNumT n)) ∧ Below w.heap.size w w') := fun w => specPutNum_any n w hn0 hn1
    have hT : (putNumT n).size ≤ 10 ∧ 1 ≤ (putNumT n).size := putNumB_size n
    have HX : Hid _ := getNumR_between n hn0 hn1
    have HY : Hid _ := getNumR_cut n hn0 hn1
    generalize putNumT n = T at *
    obtain ⟨hT1, hT0⟩ := hT
    go_wp2_with fail
    refine (HI.out _).mono ?_
    rintro e wb ⟨rfl, hbb⟩
    have hbb2 := below_trans' hba hbb
    go_wp2_with fail
    refine (HS.out _).mono ?_
    rintro e wc ⟨rfl, hbc⟩
    have hbc2 := below_trans' hbb2 hbc
    clear hba hbb hbb2 hbc hcc
    have HL : Hid (Laid wc) := HG.out.below hbc2
    have hjz : ((⟨#[120, 121]⟩ : ByteArray) ++ T ++ (⟨#[122]⟩ : ByteArray)).size ≤ 1048576 := by
      have e1 : (⟨#[120, 121]⟩ : ByteArray).size = 2 := rfl
      have e2 : (⟨#[122]⟩ : ByteArray).size = 1 := rfl
      rw [ByteArray.size_append, ByteArray.size_append, e1, e2]
      omega
    go_wp2_with fail
    refine (getNum_at _ 2 _ HL.out hjz (by omega) (by omega) HX.out).mono ?_
    rintro e wd ⟨rfl, hbd⟩
    have hbd2 := below_trans' hbc2 hbd
    have HL2 : Hid (Laid wd) := HG.out.below hbd2
    clear hbc2 hbd hjz
    have hfld := field_num
    go_wp2_with fail
    refine (getNum_at _ 0 _ (Laid.alloc HL2.out _) (by simp; omega) (by omega) (by omega) HY.out).mono ?_
    rintro e we ⟨rfl, hbe⟩
    have hbe2 := below_trans' (hbd2.trans (((Below.refl wd.heap.size wd).alloc (Nat.le_refl _) (.cells #[.int .i64 n, .int .i64 ((T.size : Int) + 2), .int .i64 0] 26)).mono hbd2.size)) hbe
    clear hbd2 hbe HL HL2 HX HY HI HS
    go_wp2_with fail
    refine (drawPutText_any b1 len1 cap1 _ ((hcm.below hbe2).mono hbe2.size) hl1).mono ?_
    rintro e wf ⟨u, rfl, hu, hbf⟩
    have hbf2 := below_trans' hbe2 hbf
    clear hbe2 hbf hcm
    have HP : Hid (∀ w, Calls Tryd.prog 9 #[.string u] w fun e w' => e = .returned (.string (putTextB u)) ∧ Below w.heap.size w w') := fun w => implPutText_any u w (by omega)
    have HQ : Hid (∀ w, Calls Tryd.prog 10 #[.string u] w fun e w' => e = .returned (.string (putTextB u)) ∧ Below w.heap.size w w') := fun w => specPutText_any u w (by omega)
    by_cases hu8 : u.size ≤ 8000
    · have hPs : (putTextB u).size = (putNumT u.size).size + u.size := by rw [putTextB_in u hu8]; simp
      have hNs := putNumB_size u.size
      have HB : Hid ((putTextB u).size + 1 ≤ 8000 → getTextR ((⟨#[120]⟩ : ByteArray) ++ putTextB u) 1 = (u, ((putTextB u).size : Int) + 1, 0)) := getTextR_behind u hu8
      have HC : Hid ((putTextB u).size + 1 ≤ 8000 → (getTextR ((putTextB u).extract 0 ((putTextB u).size - 1)) 0).2.2 = 4) := getTextR_cut u hu8
      have hP0 : 1 ≤ (putTextB u).size := by have : 1 ≤ (putNumT u.size).size := hNs.2; omega
      have hP1 : (putTextB u).size ≤ 8010 := by have : (putNumT u.size).size ≤ 10 := hNs.1; omega
      clear hPs hNs
      generalize putTextB u = P at *
      have hne : P.toList.isEmpty = false := by
        rw [ByteArray.toList_eq]
        cases h : P.data.toList with
        | nil => have h3 : P.data.toList.length = P.size := by simp
                 have h2 : P.size = 0 := by rw [← h3, h]; rfl
                 omega
        | cons a l => rfl
      go_wp2_with fail
      refine (HP.out _).mono ?_
      rintro e wg ⟨rfl, hbg⟩
      have hbg2 := below_trans' hbf2 hbg
      go_wp2_with fail
      refine (HQ.out _).mono ?_
      rintro e wh ⟨rfl, hbh⟩
      have hbh2 := below_trans' hbg2 hbh
      have HLh : Hid (Laid wh) := HG.out.below hbh2
      clear hbf2 hbg hbg2 hbh HP HQ
      by_cases hP8 : P.size + 1 ≤ 8000
      · have HB2 : Hid _ := HB.out hP8
        have HC2 : Hid _ := HC.out hP8
        have hxz : ((⟨#[120]⟩ : ByteArray) ++ P).size ≤ 1048576 := by
          have e1 : (⟨#[120]⟩ : ByteArray).size = 1 := rfl
          rw [ByteArray.size_append, e1]; omega
        have hfl2 := field_text
        obtain ⟨x4, p4, hR4⟩ : ∃ (x : ByteArray) (p : Int), getTextR (P.extract 0 (P.size - 1)) 0 = (x, p, 4) := by
          have h := HC2.out
          generalize getTextR (P.extract 0 (P.size - 1)) 0 = R at *
          obtain ⟨x, p, c⟩ := R
          exact ⟨x, p, by simp only at h; rw [h]⟩
        have HR4 : Hid _ := hR4
        clear hR4 HC2 HC HB
        have hez : (P.extract 0 (P.size - 1)).size ≤ 1048576 := by simp; omega
        go_wp2_with fail
        refine (getText_at _ 1 _ HLh.out hxz (by omega) (by omega) HB2.out).mono ?_
        rintro e wi ⟨rfl, hbi⟩
        have hbi2 := below_trans' hbh2 hbi
        have HLi : Hid (Laid wi) := HG.out.below hbi2
        clear hbh2 hbi hxz
        go_wp2_with fail
        refine (getText_at _ 0 _ HLi.out hez (by omega) (by omega) HR4.out).mono ?_
        rintro e wj ⟨rfl, hbj⟩
        have hbj2 := below_trans' hbi2 hbj
        go_wp2
        go_ret
        exact ⟨rfl, hbj2⟩
      · go_wp2_with fail
        any_goals (exfalso; omega; done)
        go_ret
        exact ⟨rfl, hbh2⟩
    · have HZ : Hid (putTextB u = ByteArray.empty) := putTextB_out u hu8
      rw [HZ.out] at HP HQ
      go_wp2_with fail
      refine (HP.out _).mono ?_
      rintro e wg ⟨rfl, hbg⟩
      have hbg2 := below_trans' hbf2 hbg
      go_wp2_with fail
      refine (HQ.out _).mono ?_
      rintro e wh ⟨rfl, hbh⟩
      have hbh2 := below_trans' hbg2 hbh
      go_wp2_with fail
      refine (HQ.out _).mono ?_
      rintro e wi ⟨rfl, hbi⟩
      have hbi2 := below_trans' hbh2 hbi
      go_wp2
      go_ret
      exact ⟨rfl, hbi2⟩
  · have hor : (1048576 < len0) ∨ (len0 ≤ 1048576 ∧ 1048576 < len1) := by omega
    clear hl
    rcases hor with hor | ⟨hor, hor2⟩
    all_goals
      go_enter Tryd.func3, Tryd.ntmps3
      go_wp2_with fail
      all_goals first
        | (exfalso; omega; done)
        | (go_ret
           exact ⟨rfl, Below.refl _ _⟩)
end Go.Proofs.YtflgiohhkoplaaaDoor
