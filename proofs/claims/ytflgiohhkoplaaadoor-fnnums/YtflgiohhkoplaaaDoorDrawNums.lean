/- What is drawn for numbers and texts. -/
import Derived.Test.YtflgiohhkoplaaaDoorEdge
namespace Go.Proofs.YtflgiohhkoplaaaDoor
open Go.RowKit

theorem any_any (g : Nat) (a : Option Addr) (len cap B : Nat) (w : World) (hs : Src w g a len cap) (hc : Code B w a len) (hB : B ≤ g) (hl : len ≤ 1048576) (hgw : B ≤ w.heap.size) :
    Calls Tryd.prog 13 #[.pointer (some ⟨g, 0, none⟩)] w fun e w' => ∃ r : Int, e = .returned (.int .i64 r) ∧ -9223372036854775808 ≤ r ∧ r ≤ 9223372036854775807 ∧ Src w' g a len cap ∧ w.grownBy w' (some g) := by
  go_enter Tryd.func13, Tryd.ntmps13
  go_wp2_with fail
  refine (one_any g a len cap B 4 _ hs hc hB hl (by omega) (by omega)).mono ?_
  rintro e w1 ⟨q, rfl, hs1, hg1⟩
  have hc1 := hc.grown hg1 hB hgw
  clear hs hc
  cases q
  · go_wp2_with fail
    refine (n_any g a len cap B 1099511627776 _ hs1 hc1 hB hl (by omega) (by omega)).mono ?_
    rintro e w2 ⟨r, rfl, h0, h1, hs2, hg2⟩
    have hr : r < 1099511627776 := by omega
    clear hs1 hc1 h1
    go_wp2
    go_ret
    exact ⟨_, rfl, by omega, by omega, hs2, grown_trans hg1 hg2⟩
  · go_wp2_with fail
    refine (edge_any g a len cap B _ hs1 hc1 hB hl).mono ?_
    rintro e w2 ⟨r, rfl, h0, h1, hs2, hg2⟩
    clear hs1 hc1
    go_wp2
    go_ret
    exact ⟨_, rfl, h0, h1, hs2, grown_trans hg1 hg2⟩
theorem drawPutNum_any (a : Option Addr) (len cap : Nat) (w : World) (hc : Code w.heap.size w a len) (hl : len ≤ 1048576) :
    Calls Tryd.prog 4 #[.slice a len cap] w fun e w' => ∃ r : Int, e = .returned (.int .i64 r) ∧ -9223372036854775808 ≤ r ∧ r ≤ 9223372036854775807 ∧ Below w.heap.size w w' := by
  go_enter Tryd.func4, Tryd.ntmps4
  go_wp2_with fail
  refine (source_any a len cap _ hc hl).mono ?_
  rintro e w1 ⟨rfl, hs1, hb1⟩
  have hc1 := hc.below hb1
  go_wp2_with fail
  refine (any_any w.heap.size a len cap w.heap.size _ hs1 hc1 (Nat.le_refl _) hl hb1.size).mono ?_
  rintro e w2 ⟨r, rfl, h0, h1, hs2, hg2⟩
  have hb2 := grown_of_below hb1 hg2 (Nat.le_refl _) (Nat.le_refl _)
  clear hs1 hc1 hs2
  go_wp2
  go_ret
  exact ⟨_, rfl, h0, h1, hb2⟩

set_option maxRecDepth 100000 in
set_option maxHeartbeats 3000000 in
theorem drawPutText_any (a : Option Addr) (len cap : Nat) (w : World) (hc : Code w.heap.size w a len) (hl : len ≤ 1048576) :
    Calls Tryd.prog 8 #[.slice a len cap] w fun e w' => ∃ t : ByteArray, e = .returned (.string t) ∧ t.size ≤ 30000 ∧ Below w.heap.size w w' := by
  go_enter Tryd.func8, Tryd.ntmps8
  go_wp2_with fail
  refine (source_any a len cap _ hc hl).mono ?_
  rintro e w1 ⟨rfl, hs1, hb1⟩
  have hc1 := hc.below hb1
  go_wp2_with fail
  refine (one_any w.heap.size a len cap w.heap.size 8 _ hs1 hc1 (Nat.le_refl _) hl (by omega) (by omega)).mono ?_
  rintro e w2 ⟨r, rfl, hs2, hg2⟩
  have hb2 := grown_of_below hb1 hg2 (Nat.le_refl _) (Nat.le_refl _)
  have hc2 := hc.below hb2
  clear hs1 hc1 hg2 hb1
  cases r
  · go_wp2_with fail
    refine (n_any w.heap.size a len cap w.heap.size 20 _ hs2 hc2 (Nat.le_refl _) hl (by omega) (by omega)).mono ?_
    rintro e w3 ⟨r, rfl, h0, h1, hs3, hg3⟩
    have hb3 := grown_of_below hb2 hg3 (Nat.le_refl _) (Nat.le_refl _)
    have hc3 := hc.below hb3
    clear hs2 hc2 hg3 hb2
    go_wp2_with fail
    refine (bytes_any w.heap.size a len cap w.heap.size r _ hs3 hc3 (Nat.le_refl _) hl (by omega)).mono ?_
    rintro e w4 ⟨t, rfl, ht, hs4, hg4⟩
    have hb4 := grown_of_below hb3 hg4 (Nat.le_refl _) (Nat.le_refl _)
    clear hs3 hc3 hg4 hb3 hs4
    go_wp2
    go_ret
    exact ⟨t, rfl, by omega, hb4⟩
  · go_wp2_with fail
    refine (n_any w.heap.size a len cap w.heap.size 3 _ hs2 hc2 (Nat.le_refl _) hl (by omega) (by omega)).mono ?_
    rintro e w3 ⟨r, rfl, h0, h1, hs3, hg3⟩
    have hb3 := grown_of_below hb2 hg3 (Nat.le_refl _) (Nat.le_refl _)
    have hr : r < 3 := by omega
    clear hs2 hc2 hg3 hb2 hs3 h1 hc
    have hsz := hb3.size
    go_wp2_with (at_make; refine wpList_make_bytes rfl _ _ 22 rfl 5 Tryd.underlying22 Tryd.infoB _ (19999 + r).toNat rfl rfl ?_ ?_ w.heap.size w hb3 hsz ?_)
    · omega
    · omega
    · intro w4 hr4 hb4 hs4
      have hconv := hr4.conv (n := (19999 + r).toNat) ⟨(List.replicate (19999 + r).toNat 0).toArray⟩ rfl (by simp [ByteArray.size]) (by omega)
      have HZ : Hid ((⟨(List.replicate (19999 + r).toNat (0 : UInt8)).toArray⟩ : ByteArray).size ≤ 30000) := by show _ ≤ _; simp [ByteArray.size]; omega
      generalize (⟨(List.replicate (19999 + r).toNat (0 : UInt8)).toArray⟩ : ByteArray) = T at *
      clear hr4 hb3
      go_wp2
      go_ret
      exact ⟨T, rfl, HZ.out, hb4⟩
end Go.Proofs.YtflgiohhkoplaaaDoor
