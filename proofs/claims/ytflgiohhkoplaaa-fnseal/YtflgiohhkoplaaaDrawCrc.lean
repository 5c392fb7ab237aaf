/- What is drawn for CrcMore; the laws' own look into their bytes. -/
import Derived.Test.YtflgiohhkoplaaaDrawSeal
import Derived.Test.YtflgiohhkoplaaaCrc
namespace Go.Proofs.Ytflgiohhkoplaaa
open Go.RowKit

theorem crcMoreB_range (c : Int) (t : ByteArray) : 0 ≤ crcMoreB c t ∧ crcMoreB c t < 4294967296 := by
  unfold crcMoreB
  split
  · have := crcOf_lt c.toNat t.data.toList; omega
  · omega

set_option maxRecDepth 100000 in
set_option maxHeartbeats 2000000 in
theorem drawCrcMore_any (a : Option Addr) (len cap : Nat) (w : World) (hc : Code w.heap.size w a len) (hl : len ≤ 1048576) :
    Calls Try.prog 9 #[.slice a len cap] w fun e w' => ∃ (c : Int) (u : ByteArray), e = .returned (.tuple #[.int .i64 c, .string u]) ∧ u.size ≤ 10 ∧ -9223372036854775808 ≤ c ∧ c ≤ 9223372036854775807 ∧ Below w.heap.size w w' := by
  go_enter Try.func9, Try.ntmps9
  go_wp2_with fail
  refine (source_any a len cap _ hc hl).mono ?_
  rintro e w1 ⟨rfl, hs1, hb1⟩
  have hc1 := hc.below hb1
  go_wp2_with fail
  refine (n_any w.heap.size a len cap w.heap.size 9 _ hs1 hc1 (Nat.le_refl _) hl (by omega) (by omega)).mono ?_
  rintro e w3 ⟨r, rfl, h0, h1, hs3, hg3⟩
  have hb3 := grown_of_below hb1 hg3 (Nat.le_refl _) (Nat.le_refl _)
  have hc3 := hc.below hb3
  have hr : r < 9 := by omega
  clear hs1 hc1 hg3 hb1 h1
  go_wp2_with fail
  refine (bytes_any w.heap.size a len cap w.heap.size r _ hs3 hc3 (Nat.le_refl _) hl (by omega)).mono ?_
  rintro e w4 ⟨u, rfl, hu, hs4, hg4⟩
  have hb4 := grown_of_below hb3 hg4 (Nat.le_refl _) (Nat.le_refl _)
  have hc4 := hc.below hb4
  have hu2 : u.size ≤ 10 := by omega
  clear hs3 hc3 hg4 hb3 hu
  go_wp2_with fail
  refine (one_any w.heap.size a len cap w.heap.size 5 _ hs4 hc4 (Nat.le_refl _) hl (by omega) (by omega)).mono ?_
  rintro e w2 ⟨q, rfl, hs2, hg2⟩
  have hb2 := grown_of_below hb4 hg2 (Nat.le_refl _) (Nat.le_refl _)
  have hc2 := hc.below hb2
  clear hs4 hc4 hg2 hb4
  cases q
  · go_wp2_with fail
    refine (n_any w.heap.size a len cap w.heap.size 9 _ hs2 hc2 (Nat.le_refl _) hl (by omega) (by omega)).mono ?_
    rintro e w5 ⟨r5, rfl, h05, h15, hs5, hg5⟩
    have hb5 := grown_of_below hb2 hg5 (Nat.le_refl _) (Nat.le_refl _)
    have hc5 := hc.below hb5
    have hr5 : r5 < 9 := by omega
    clear hs2 hc2 hg5 hb2 h15
    go_wp2_with fail
    refine (bytes_any w.heap.size a len cap w.heap.size r5 _ hs5 hc5 (Nat.le_refl _) hl (by omega)).mono ?_
    rintro e w6 ⟨x, rfl, hx, hs6, hg6⟩
    have hb6 := grown_of_below hb5 hg6 (Nat.le_refl _) (Nat.le_refl _)
    clear hs5 hc5 hg6 hb5 hs6
    go_wp2_with fail
    refine (specCrc_any x _ (by omega)).mono ?_
    rintro e w7 ⟨rfl, rfl⟩
    have hcr := crcMoreB_range 0 x
    go_wp2
    go_ret2
    exact ⟨_, u, rfl, hu2, by omega, by omega, hb6⟩
  · go_wp2_with fail
    refine (edge_any w.heap.size a len cap w.heap.size _ hs2 hc2 (Nat.le_refl _) hl).mono ?_
    rintro e w5 ⟨r5, rfl, h05, h15, hs5, hg5⟩
    have hb5 := grown_of_below hb2 hg5 (Nat.le_refl _) (Nat.le_refl _)
    clear hs2 hc2 hg5 hb2 hs5
    go_wp2
    go_ret2
    exact ⟨r5, u, rfl, hu2, h05, h15, hb5⟩

set_option maxRecDepth 100000 in
theorem lwAt_any (B : Nat) (a : Option Addr) (len cap : Nat) (i : Nat) (most : Int) (w : World) (hc : Code B w a len) (hl : len ≤ 1048576) (hi : i ≤ 1000) (hm1 : most ≤ 1000000) (hm0 : 2 ≤ most) :
    Calls Try.prog 7 #[.slice a len cap, .int .i64 i, .int .i64 most] w fun e w' => ∃ r : Int, e = .returned (.int .i64 r) ∧ 0 ≤ r ∧ r < most ∧ w = w' := by
  by_cases h0 : len = 0
  · have h00 : ((len : Int) == 0) = true := by simp; omega
    clear h0
    go_enter Try.func7, Try.ntmps7
    go_wp2
    go_ret
    exact ⟨0, rfl, by omega, by omega, rfl⟩
  · have h00 : ((len : Int) == 0) = false := by simp; omega
    have hlt : i % len < len := Nat.mod_lt _ (by omega)
    obtain ⟨b, off, z, rfl, hb, hz, hz0, hz1⟩ := hc (i % len) hlt
    have hpos : (0 : Int) < (len : Int) := by omega
    go_enter Try.func7, Try.ntmps7
    go_wp2
    go_ret
    exact ⟨_, rfl, Int.emod_nonneg _ (by omega), Int.emod_lt_of_pos _ (by omega), rfl⟩
end Go.Proofs.Ytflgiohhkoplaaa
