/- The walk of the law on seals. (Written by gen_wseal.py.) -/
import Derived.Test.YtflgiohhkoplaaaDrawCrc
import Derived.Test.YtflgiohhkoplaaaTurnMath
import Derived.Test.YtflgiohhkoplaaaOfText
import Derived.Test.YtflgiohhkoplaaaSealS
import Derived.Test.YtflgiohhkoplaaaUnsealI
import Derived.Test.YtflgiohhkoplaaaCrcMoreS
import Derived.Deep.RegionWith
namespace Go.Proofs.Ytflgiohhkoplaaa
open Go.RowKit

theorem field_code (x a c : Value) (w : World) : (Instr.field 27 (.agg #[x, a, c]) 2).run Try.prog w = .ok c w := by kernel_rfl
theorem lwAt_zero (B : Nat) (a : Option Addr) (len cap : Nat) (most : Int) (w : World) (hc : Code B w a len) (hl : len ≤ 1048576) (hm1 : most ≤ 1000000) (hm0 : 2 ≤ most) :
    Calls Try.prog 7 #[.slice a len cap, .int .i64 0, .int .i64 most] w fun e w' => ∃ r : Int, e = .returned (.int .i64 r) ∧ 0 ≤ r ∧ r < most ∧ w = w' := lwAt_any B a len cap 0 most w hc hl (by omega) hm1 hm0
theorem lwAt_one (B : Nat) (a : Option Addr) (len cap : Nat) (most : Int) (w : World) (hc : Code B w a len) (hl : len ≤ 1048576) (hm1 : most ≤ 1000000) (hm0 : 2 ≤ most) :
    Calls Try.prog 7 #[.slice a len cap, .int .i64 1, .int .i64 most] w fun e w' => ∃ r : Int, e = .returned (.int .i64 r) ∧ 0 ≤ r ∧ r < most ∧ w = w' := lwAt_any B a len cap 1 most w hc hl (by omega) hm1 hm0
theorem below_trans' {w w1 w2 : World} (h : Below w.heap.size w w1) (k : Below w1.heap.size w1 w2) : Below w.heap.size w w2 := h.trans (k.mono h.size)

set_option maxRecDepth 100000 in
set_option maxHeartbeats 8000000 in
theorem fnSeal_walk (b0 : Option Addr) (len0 cap0 : Nat) (z0 : List Int) (b1 : Option Addr) (len1 cap1 : Nat) (z1 : List Int) (w : World) (w0 : IsRow .u8 w b0 len0 cap0 z0) (w1 : IsRow .u8 w b1 len1 cap1 z1) :
    Calls Try.prog 3 #[.slice b0 len0 cap0, .slice b1 len1 cap1] w fun e w' => e = .returned (.bool true) ∧ Below w.heap.size w w' := by
  have hcc := Code.of_row w0
  have hcm := Code.of_row w1
  have hlen0 := w0.len
  have hlen1 := w1.len
  clear w0 w1
  by_cases hl : len0 ≤ 1048576 ∧ len1 ≤ 1048576
  · obtain ⟨hl0, hl1⟩ := hl
    go_enter Try.func3, Try.ntmps3
    go_wp2_with fail
    refine (drawSeal_any b0 len0 cap0 _ hcc hl0).mono ?_
    rintro e wa ⟨t, rfl, ht, hba⟩
    go_wp2_with fail
    refine (implSeal_any t _ (by omega)).mono ?_
    rintro e wb ⟨rfl, hbb⟩
    have hbb2 := below_trans' hba hbb
    go_wp2_with fail
    refine (specSeal_any t _ (by omega)).mono ?_
    rintro e wc ⟨rfl, hbc⟩
    have hbc2 := below_trans' hbb2 hbc
    clear hba hbb hbb2 hbc hcc
    by_cases hz : t.size ≤ 7996
    · have hZ : (sealT t).size = t.size + 4 := by rw [sealT_in t hz]; simp [fourT_size]
      have hne : (sealT t).toList.isEmpty = false := by
        rw [ByteArray.toList_eq]
        cases h : (sealT t).data.toList with
        | nil => have h2 := congrArg List.length h; have h3 : (sealT t).data.toList.length = (sealT t).size := by simp
                 rw [h3, hZ] at h2; simp at h2
        | cons a l => rfl
      have HU : Hid (unsealV (sealT t) = textOut t 0 0) := unsealV_seal t hz
      have HT : Hid (∀ (i : Nat) (c : UInt8), i < (sealT t).size → (sealT t).data.toList[i]? ≠ some c → ∀ s : ByteArray, s.data.toList = (sealT t).data.toList.set i c → unsealV s = textOut ByteArray.empty 0 5) := fun i c hi hn s hs => unsealV_turned t i c hz hi hn s hs
      generalize sealT t = Z at *
      obtain ⟨wd, cap, hconv, hbd, hgd, hcell, hfz⟩ := bytes_of_text wc Z
      have hbd2 := below_trans' hbc2 hbd
      go_wp2_with fail
      refine (lwAt_zero w.heap.size b1 len1 cap1 _ _ (hcm.below hbd2) hl1 (by omega) (by omega)).mono ?_
      rintro e we ⟨r, rfl, hr0, hr1, rfl⟩
      obtain ⟨k, rfl⟩ := Int.eq_ofNat_of_zero_le hr0
      have hk : k < Z.size := by omega
      have hck := hcell k hk
      have hfk := hfz k hk
      have hki : (k : Int) < (t.size : Int) + 4 := by omega
      have hzk := Z[k].toNat_lt
      have hcm2 := hcm.below hbd2
      go_wp2
      go_region_with (go_at_call 7; refine (lwAt_one w.heap.size b1 len1 cap1 255 _ ?_ hl1 (by omega) (by omega)).mono ?_; exact hcm2; rintro e wx ⟨q, rfl, hq0, hq1, rfl⟩)
      all_goals
        obtain ⟨c, hcx, hcne⟩ := turned_byte Z[k] q hq0 hq1
        have HN : Hid (Z.data.toList[k]? ≠ some c) := by
          show _ ≠ _
          rw [List.getElem?_eq_getElem (by simpa using hk)]
          intro h
          exact hcne (Option.some.inj h).symm
        go_wp2_with fail
        rw [hcx]
        clear hcx hcne hq0 hq1
        have hbW : Below w.heap.size w (wd.setCell ⟨wc.heap.size, k, none⟩ (.int .u8 (c.toNat : Int))).drew := (hbd2.setCell hbc2.size _).drew
        refine (implUnseal_any Z _ (by omega)).mono ?_
        rw [HU.out]
        unfold textOut
        rintro e wf ⟨rfl, hbf⟩
        obtain ⟨Y, hY, hconvY⟩ := text_turned (w := wd) (w' := wf) (g := wc.heap.size) (n := t.size + 4) (cap := cap) (k := k) Z c hZ.symm hk hcell (by
          intro j hj
          rw [hbf.cell (p := ⟨wc.heap.size, j, none⟩) (by show wc.heap.size < (wd.setCell _ _).drew.heap.size; simp [World.setCell]; exact hgd)]
          rfl)
        have HY : Hid (unsealV Y = textOut ByteArray.empty 0 5) := HT.out k c hk HN.out Y hY
        have hYz : Y.size = Z.size := by have := congrArg List.length hY; simpa using this
        have hbf2 := below_trans' hbW hbf
        clear hY hbf hbW hck hfk hki hzk hcm2 hconv hbd hgd
        go_wp2_with fail
        refine (implUnseal_any Y _ (by omega)).mono ?_
        rw [HY.out]
        unfold textOut
        rintro e wg ⟨rfl, hbg⟩
        have hbg2 := below_trans' hbf2 hbg
        clear hbf2 hbg hconvY
        have hfld := field_code (.string ByteArray.empty) (.int .i64 0) (.int .i64 5)
        go_wp2_with fail
        refine (drawCrcMore_any b1 len1 cap1 _ ((hcm.below hbg2).mono hbg2.size) hl1).mono ?_
        rintro e wz ⟨c, u, rfl, hu, hc0, hc1, hbz⟩
        have hbz2 := below_trans' hbg2 hbz
        by_cases h8 : t.size + u.size ≤ 8000
        · have HO : Hid (crcMoreB (crcMoreB 0 t) u = crcMoreB 0 (t ++ u)) := crc_on t u h8
          have hrange := crcMoreB_range 0 t
          have htu : (t ++ u).size ≤ 1048576 := by simp; omega
          have he1 : (crcMoreB c u == crcMoreB c u) = true := by simp
          go_wp2_with fail
          refine (implCrcMore_any c u _ (by omega) hc0 hc1).mono ?_
          rintro e wy ⟨rfl, rfl⟩
          go_wp2_with fail
          refine (specCrcMore_any c u _ (by omega) hc0 hc1).mono ?_
          rintro e wy ⟨rfl, rfl⟩
          go_wp2_with fail
          refine (implCrc_any t _ (by omega)).mono ?_
          rintro e wy ⟨rfl, rfl⟩
          go_wp2_with fail
          refine (implCrcMore_any (crcMoreB 0 t) u _ (by omega) (by omega) (by omega)).mono ?_
          rw [HO.out]
          rintro e wy ⟨rfl, rfl⟩
          go_wp2_with fail
          refine (implCrc_any (t ++ u) _ htu).mono ?_
          rintro e wy ⟨rfl, rfl⟩
          have he2 : (crcMoreB 0 (t ++ u) == crcMoreB 0 (t ++ u)) = true := by simp
          go_wp2
          go_ret
          exact ⟨rfl, hbz2⟩
        · go_wp2_with fail
          go_ret
          exact ⟨rfl, hbz2⟩
    · have HZ : Hid (sealT t = ByteArray.empty) := sealT_out t hz
      rw [HZ.out]
      go_wp2_with fail
      refine (drawCrcMore_any b1 len1 cap1 _ ((hcm.below hbc2).mono hbc2.size) hl1).mono ?_
      rintro e wz ⟨c, u, rfl, hu, hc0, hc1, hbz⟩
      have hbz2 := below_trans' hbc2 hbz
      by_cases h8 : t.size + u.size ≤ 8000
      · have HO : Hid (crcMoreB (crcMoreB 0 t) u = crcMoreB 0 (t ++ u)) := crc_on t u h8
        have hrange := crcMoreB_range 0 t
        have htu : (t ++ u).size ≤ 1048576 := by simp; omega
        have he1 : (crcMoreB c u == crcMoreB c u) = true := by simp
        go_wp2_with fail
        refine (implCrcMore_any c u _ (by omega) hc0 hc1).mono ?_
        rintro e wy ⟨rfl, rfl⟩
        go_wp2_with fail
        refine (specCrcMore_any c u _ (by omega) hc0 hc1).mono ?_
        rintro e wy ⟨rfl, rfl⟩
        go_wp2_with fail
        refine (implCrc_any t _ (by omega)).mono ?_
        rintro e wy ⟨rfl, rfl⟩
        go_wp2_with fail
        refine (implCrcMore_any (crcMoreB 0 t) u _ (by omega) (by omega) (by omega)).mono ?_
        rw [HO.out]
        rintro e wy ⟨rfl, rfl⟩
        go_wp2_with fail
        refine (implCrc_any (t ++ u) _ htu).mono ?_
        rintro e wy ⟨rfl, rfl⟩
        have he2 : (crcMoreB 0 (t ++ u) == crcMoreB 0 (t ++ u)) = true := by simp
        go_wp2
        go_ret
        exact ⟨rfl, hbz2⟩
      · go_wp2_with fail
        go_ret
        exact ⟨rfl, hbz2⟩
  · have hor : (1048576 < len0) ∨ (len0 ≤ 1048576 ∧ 1048576 < len1) := by omega
    clear hl
    rcases hor with hor | ⟨hor, hor2⟩
    all_goals
      go_enter Try.func3, Try.ntmps3
      go_wp2_with fail
      all_goals first
        | (exfalso; omega; done)
        | (go_ret
           exact ⟨rfl, Below.refl _ _⟩)
end Go.Proofs.Ytflgiohhkoplaaa
