/- What is drawn for seals and CRCs. -/
import Derived.Test.YtflgiohhkoplaaaEdge
import Derived.Test.YtflgiohhkoplaaaCrcS
namespace Go.Proofs.Ytflgiohhkoplaaa
open Go.RowKit

theorem grown_of_below {B g : Nat} {w w1 w2 : World} (h : Below B w w1) (hg : w1.grownBy w2 (some g)) (hB : B ≤ w.heap.size) (hgB : B ≤ g) : Below B w w2 :=
  h.grown hg (Nat.le_trans hB h.size) (by intro k hk; cases hk; exact hgB)

set_option maxRecDepth 100000 in
set_option maxHeartbeats 2000000 in
theorem drawSeal_any (a : Option Addr) (len cap : Nat) (w : World) (hc : Code w.heap.size w a len) (hl : len ≤ 1048576) :
    Calls Try.prog 4 #[.slice a len cap] w fun e w' => ∃ t : ByteArray, e = .returned (.string t) ∧ t.size ≤ 20000 ∧ Below w.heap.size w w' := by
  go_enter Try.func4, Try.ntmps4
  go_wp2_with fail
  refine (source_any a len cap _ hc hl).mono ?_
  rintro e w1 ⟨rfl, hs1, hb1⟩
  have hc1 := hc.below hb1
  go_wp2_with fail
  refine (one_any w.heap.size a len cap w.heap.size 30 _ hs1 hc1 (Nat.le_refl _) hl (by omega) (by omega)).mono ?_
  rintro e w2 ⟨r, rfl, hs2, hg2⟩
  have hb2 := grown_of_below hb1 hg2 (Nat.le_refl _) (Nat.le_refl _)
  have hc2 := hc.below hb2
  clear hs1 hc1 hg2 hb1
  cases r
  · go_wp2_with fail
    refine (n_any w.heap.size a len cap w.heap.size 20 _ hs2 hc2 (Nat.le_refl _) hl (by omega) (by omega)).mono ?_
    rintro e w3 ⟨r, rfl, h0, h1, hs3, hg3⟩
    have hb3 := grown_of_below hb2 hg3 (Nat.le_refl _) (Nat.le_refl _)
    have hc3 := hc.below hb3
    clear hs2 hc2 hg3 hb2
    go_wp2_with fail
    refine (bytes_any w.heap.size a len cap w.heap.size r _ hs3 hc3 (Nat.le_refl _) hl (by omega)).mono ?_
    rintro e w4 ⟨t, rfl, ht, hs4, hg4⟩
    have hb4 := grown_of_below hb3 hg4 (Nat.le_refl _) (Nat.le_refl _)
    clear hs3 hc3 hg4 hb3 hs4
    go_wp2
    go_ret
    exact ⟨t, rfl, by omega, hb4⟩
  · go_wp2_with fail
    refine (n_any w.heap.size a len cap w.heap.size 3 _ hs2 hc2 (Nat.le_refl _) hl (by omega) (by omega)).mono ?_
    rintro e w3 ⟨r, rfl, h0, h1, hs3, hg3⟩
    have hb3 := grown_of_below hb2 hg3 (Nat.le_refl _) (Nat.le_refl _)
    have hr : r < 3 := by omega
    clear hs2 hc2 hg3 hb2 hs3 h1 hc
    have hsz := hb3.size
    go_wp2_with (at_make; refine wpList_make_bytes rfl _ _ 22 rfl 5 Try.underlying22 Try.infoB _ (19995 + r).toNat rfl rfl ?_ ?_ w.heap.size w hb3 hsz ?_)
    · omega
    · omega
    · intro w4 hr4 hb4 hs4
      have hconv := hr4.conv (n := (19995 + r).toNat) ⟨(List.replicate (19995 + r).toNat 0).toArray⟩ rfl (by simp [ByteArray.size]) (by omega)
      have HZ : Hid ((⟨(List.replicate (19995 + r).toNat (0 : UInt8)).toArray⟩ : ByteArray).size ≤ 20000) := by show _ ≤ _; simp [ByteArray.size]; omega
      generalize (⟨(List.replicate (19995 + r).toNat (0 : UInt8)).toArray⟩ : ByteArray) = T at *
      clear hr4 hb3
      go_wp2
      go_ret
      exact ⟨T, rfl, HZ.out, hb4⟩
end Go.Proofs.Ytflgiohhkoplaaa
