/- A text spoilt a little, and one picked of some. -/
import Derived.Test.YtchgnjpbjnkdmaaDrawNets
import Derived.BigQuiet
namespace Go.Proofs.Ytchgnjpbjnkdmaa
open Go.RowKit

theorem sp_index (t : ByteArray) (k : Nat) (x : Int) (hx : x = k) (h : k < t.size) (w : World) : ∃ c : UInt8, (Instr.index 9 (.string t) (.int .i64 x)).run Try.prog w = .ok (.int .u8 (c.toNat : Int)) w := by
  subst hx
  refine ⟨t[k], ?_⟩
  rw [run_index_string _ _ _ _ _ Try.underlying9]
  simp [h]
theorem sp_conv (w : World) (c : UInt8) : ∃ t : ByteArray, t.size = 1 ∧ (convert 22 9 (.slice (some ⟨w.heap.size, 0, none⟩) 1 1)).run Try.prog (w.alloc (.cells #[.int .u8 (c.toNat : Int)] 5)) = .ok (.string t) (w.alloc (.cells #[.int .u8 (c.toNat : Int)] 5)) := by
  have hc := c.toNat_lt
  exact ⟨_, rfl, conv_lit w [(c.toNat : Int)] 1 rfl (by intro x hx; simp only [List.mem_cons, List.not_mem_nil, or_false] at hx; omega) (by omega)⟩
theorem sp_to (t : ByteArray) (k : Nat) (h : k ≤ t.size) (w : World) : (Instr.slice 9 (.string t) none (some (.int .i64 (k : Int))) none).run Try.prog w = .ok (.string (t.extract 0 k)) w := by
  rw [run_slice_string_to_if _ _ _ _ _ Try.underlying9, if_pos (by omega)]; rfl
theorem sp_from (t : ByteArray) (x : Int) (k : Nat) (hx : x = k) (h : k ≤ t.size) (w : World) : (Instr.slice 9 (.string t) (some (.int .i64 x)) none none).run Try.prog w = .ok (.string (t.extract k t.size)) w := by
  subst hx
  rw [run_slice_string_from_if _ _ _ _ _ Try.underlying9, if_pos (by omega)]; rfl
theorem grown_drewN {w W : World} {g : Option Nat} (h : w.grownBy W g) (n : Nat) : w.grownBy (W.drewN n) g := ⟨h.os, h.tape, h.output, h.size, h.block⟩
set_option maxRecDepth 100000 in
set_option maxHeartbeats 2000000 in
theorem spoil_any (g : Nat) (a : Option Addr) (len cap B : Nat) (t : ByteArray) (w : World) (hs : Src w g a len cap) (hc : Code B w a len) (hB : B ≤ g) (hl : len ≤ 1048576) (ht : t.size ≤ 10000) :
    Calls Try.prog 66 #[.pointer (some ⟨g, 0, none⟩), .string t] w fun e w' => ∃ r : ByteArray, e = .returned (.string r) ∧ r.size ≤ t.size + 1 ∧ Src w' g a len cap ∧ w.grownBy w' (some g) := by
  have hBw : B ≤ w.heap.size := by have := hs.lt; omega
  have hwr := wrap_i64_in ((t.size : Int) + 1) (by omega) (by omega)
  go_enter Try.func66, Try.ntmps66
  go_wp2_with fail
  refine (n_any g a len cap B ((t.size : Int) + 1) _ hs hc hB hl (by omega) (by omega)).mono ?_
  rintro e w1 ⟨r, rfl, h0, h1, hs1, hg1⟩
  obtain ⟨k, rfl⟩ := Int.eq_ofNat_of_zero_le h0
  have hk : k ≤ t.size := by omega
  have hc1 := hc.grown hg1 hB hBw
  have hz1 := hg1.size
  clear hs hc h1 h0
  go_wp2_with fail
  refine (n_any g a len cap B 17 _ hs1 hc1 hB hl (by omega) (by omega)).mono ?_
  rintro e w2 ⟨r, rfl, h0, h1, hs2, hg2⟩
  obtain ⟨j, rfl⟩ := Int.eq_ofNat_of_zero_le h0
  have hj : j < 17 := by omega
  obtain ⟨c, hix⟩ := sp_index ⟨#[32, 10, 48, 97, 45, 110, 44, 58, 93, 255, 40, 120, 126, 49, 128, 225, 59]⟩ j (j : Int) rfl hj w2
  obtain ⟨T, hT, hcv⟩ := sp_conv w2 c
  have hG2 := grown_alloc (grown_trans hg1 hg2) (.cells #[.int .u8 (c.toNat : Int)] 5)
  have hs2a := hs2.alloc (.cells #[.int .u8 (c.toNat : Int)] 5)
  have hc2a := (hc1.grown hg2 hB (by omega)).alloc (.cells #[.int .u8 (c.toNat : Int)] 5) (by have := hg2.size; omega)
  have hz2 := hG2.size
  clear hs1 hc1 hs2 h0 h1 hg1 hg2
  have e1 : (t.extract 0 k).size = k := by simp; omega
  have e2 : (t.extract k t.size).size = t.size - k := by simp
  have hA := sp_to t k hk
  have hB1 := sp_from t (k : Int) k rfl hk
  by_cases hkt : k = t.size
  · subst hkt
    generalize t.extract 0 t.size = TA at *
    generalize t.extract t.size t.size = TB at *
    have h9 : ¬ 9223372036854775807 < TA.size + T.size := by omega
    have h9b : ¬ 9223372036854775807 < TA.size + T.size + TB.size := by omega
    have HZ : Hid ((TA ++ T ++ TB).size ≤ t.size + 1) := by show _ ≤ _; simp only [ByteArray.size_append]; omega
    clear e1 e2
    go_wp2_with fail
    go_quiet (fail)
    go_wp2
    go_ret
    exact ⟨_, rfl, HZ.out, hs2a, grown_drewN hG2 _⟩
  · have hkt2 : ((k : Int) == (t.size : Int)) = false := by simp; omega
    have e3 : (t.extract (k + 1) t.size).size = t.size - (k + 1) := by simp
    have hwk := wrap_i64_in ((k : Int) + 1) (by omega) (by omega)
    have hB2 := sp_from t ((k : Int) + 1) (k + 1) (by omega) (by omega)
    generalize t.extract 0 k = TA at *
    generalize t.extract k t.size = TB at *
    generalize t.extract (k + 1) t.size = TC at *
    have HZ1 : Hid ((TA ++ T ++ TB).size ≤ t.size + 1) := by show _ ≤ _; simp only [ByteArray.size_append]; omega
    have HZ2 : Hid ((TA ++ TC).size ≤ t.size + 1) := by show _ ≤ _; simp only [ByteArray.size_append]; omega
    have HZ3 : Hid ((TA ++ T ++ TC).size ≤ t.size + 1) := by show _ ≤ _; simp only [ByteArray.size_append]; omega
    have h9 : ¬ 9223372036854775807 < TA.size + T.size := by omega
    have h9b : ¬ 9223372036854775807 < TA.size + T.size + TB.size := by omega
    have h9c : ¬ 9223372036854775807 < TA.size + TC.size := by omega
    have h9d : ¬ 9223372036854775807 < TA.size + T.size + TC.size := by omega
    clear e1 e2 e3
    go_wp2_with fail
    refine (one_any g a len cap B 3 _ hs2a hc2a hB hl (by omega) (by omega)).mono ?_
    rintro e w3 ⟨q, rfl, hs3, hg3⟩
    have hc3 := hc2a.grown hg3 hB (by omega)
    have hG3 := grown_trans hG2 hg3
    have hz3 := hG3.size
    clear hs2a hc2a hG2 hg3 hix hcv
    cases q
    · go_wp2_with fail
      refine (one_any g a len cap B 2 _ hs3 hc3 hB hl (by omega) (by omega)).mono ?_
      rintro e w4 ⟨q, rfl, hs4, hg4⟩
      have hG4 := grown_trans hG3 hg4
      clear hs3 hc3 hG3 hg4
      cases q
      · go_wp2_with fail
        go_quiet (fail)
        go_wp2
        go_ret
        exact ⟨_, rfl, HZ3.out, hs4, grown_drewN hG4 _⟩
      · go_wp2_with fail
        go_quiet (fail)
        go_wp2
        go_ret
        exact ⟨_, rfl, HZ2.out, hs4, grown_drewN hG4 _⟩
    · go_wp2_with fail
      go_quiet (fail)
      go_wp2
      go_ret
      exact ⟨_, rfl, HZ1.out, hs3, grown_drewN hG3 _⟩
end Go.Proofs.Ytchgnjpbjnkdmaa
