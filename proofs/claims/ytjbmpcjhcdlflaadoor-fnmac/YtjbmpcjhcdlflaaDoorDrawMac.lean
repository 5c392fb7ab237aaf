/- What is drawn for digests, macs and stretched passes. -/
import Derived.Test.YtjbmpcjhcdlflaaDoorEdge
import Derived.Deep.RegionWith
namespace Go.Proofs.YtjbmpcjhcdlflaaDoor
open Go.RowKit

set_option maxRecDepth 100000 in
set_option maxHeartbeats 2000000 in
theorem drawDigest_any (a : Option Addr) (len cap : Nat) (w : World) (hc : Code w.heap.size w a len) (hl : len ≤ 1048576) :
    Calls Tryd.prog 11 #[.slice a len cap] w fun e w' => ∃ t : ByteArray, e = .returned (.string t) ∧ t.size ≤ 200 ∧ Below w.heap.size w w' := by
  go_enter Tryd.func11, Tryd.ntmps11
  go_wp2_with fail
  refine (source_any a len cap _ hc hl).mono ?_
  rintro e w1 ⟨rfl, hs1, hb1⟩
  have hc1 := hc.below hb1
  go_wp2_with fail
  refine (n_any w.heap.size a len cap w.heap.size 200 _ hs1 hc1 (Nat.le_refl _) hl (by omega) (by omega)).mono ?_
  rintro e w3 ⟨r, rfl, h0, h1, hs3, hg3⟩
  have hb3 := grown_of_below hb1 hg3 (Nat.le_refl _) (Nat.le_refl _)
  have hc3 := hc.below hb3
  have hr : r < 200 := by omega
  clear hs1 hc1 hg3 hb1 h1
  go_wp2_with fail
  refine (bytes_any w.heap.size a len cap w.heap.size r _ hs3 hc3 (Nat.le_refl _) hl (by omega)).mono ?_
  rintro e w4 ⟨t, rfl, ht, hs4, hg4⟩
  have hb4 := grown_of_below hb3 hg4 (Nat.le_refl _) (Nat.le_refl _)
  clear hs3 hc3 hg4 hb3 hs4
  go_wp2
  go_ret
  exact ⟨t, rfl, by omega, hb4⟩
set_option maxRecDepth 100000 in
set_option maxHeartbeats 2000000 in
theorem drawMac_any (a : Option Addr) (len cap : Nat) (w : World) (hc : Code w.heap.size w a len) (hl : len ≤ 1048576) :
    Calls Tryd.prog 7 #[.slice a len cap] w fun e w' => ∃ k t : ByteArray, e = .returned (.tuple #[.string k, .string t]) ∧ k.size ≤ 65 ∧ t.size ≤ 100 ∧ Below w.heap.size w w' := by
  go_enter Tryd.func7, Tryd.ntmps7
  go_wp2_with fail
  refine (source_any a len cap _ hc hl).mono ?_
  rintro e w1 ⟨rfl, hs1, hb1⟩
  have hc1 := hc.below hb1
  go_wp2_with fail
  refine (n_any w.heap.size a len cap w.heap.size 20 _ hs1 hc1 (Nat.le_refl _) hl (by omega) (by omega)).mono ?_
  rintro e w3 ⟨r, rfl, h0, h1, hs3, hg3⟩
  have hb3 := grown_of_below hb1 hg3 (Nat.le_refl _) (Nat.le_refl _)
  have hc3 := hc.below hb3
  have hr : r < 20 := by omega
  clear hs1 hc1 hg3 hb1 h1
  go_wp2_with fail
  refine (bytes_any w.heap.size a len cap w.heap.size r _ hs3 hc3 (Nat.le_refl _) hl (by omega)).mono ?_
  rintro e w4 ⟨k, rfl, hk, hs4, hg4⟩
  have hb4 := grown_of_below hb3 hg4 (Nat.le_refl _) (Nat.le_refl _)
  have hc4 := hc.below hb4
  have hks : k.size ≤ 65 := by omega
  clear hs3 hc3 hg4 hb3 hk
  go_wp2_with fail
  refine (one_any w.heap.size a len cap w.heap.size 6 _ hs4 hc4 (Nat.le_refl _) hl (by omega) (by omega)).mono ?_
  rintro e w2 ⟨q, rfl, hs2, hg2⟩
  have hb2 := grown_of_below hb4 hg2 (Nat.le_refl _) (Nat.le_refl _)
  have hc2 := hc.below hb2
  clear hs4 hc4 hg2 hb4
  cases q
  · go_wp2_with fail
    refine (n_any w.heap.size a len cap w.heap.size 100 _ hs2 hc2 (Nat.le_refl _) hl (by omega) (by omega)).mono ?_
    rintro e w5 ⟨r5, rfl, h05, h15, hs5, hg5⟩
    have hb5 := grown_of_below hb2 hg5 (Nat.le_refl _) (Nat.le_refl _)
    have hc5 := hc.below hb5
    have hr5 : r5 < 100 := by omega
    clear hs2 hc2 hg5 hb2 h15
    go_wp2_with fail
    refine (bytes_any w.heap.size a len cap w.heap.size r5 _ hs5 hc5 (Nat.le_refl _) hl (by omega)).mono ?_
    rintro e w6 ⟨x, rfl, hx, hs6, hg6⟩
    have hb6 := grown_of_below hb5 hg6 (Nat.le_refl _) (Nat.le_refl _)
    clear hs5 hc5 hg6 hb5 hs6
    go_wp2
    go_ret2
    exact ⟨k, x, rfl, hks, by omega, hb6⟩
  · go_wp2_with fail
    refine (n_any w.heap.size a len cap w.heap.size 3 _ hs2 hc2 (Nat.le_refl _) hl (by omega) (by omega)).mono ?_
    rintro e w5 ⟨r5, rfl, h05, h15, hs5, hg5⟩
    have hb5 := grown_of_below hb2 hg5 (Nat.le_refl _) (Nat.le_refl _)
    have hr5 : r5 < 3 := by omega
    have hsz := hb5.size
    have hgw := hs5.lt
    clear hs2 hc2 hg5 hb2 h15
    go_wp2_with (at_make; refine wpList_make_bytes rfl _ _ 22 rfl 5 Tryd.underlying22 Tryd.infoB _ (63 + r5).toNat rfl rfl ?_ ?_ w5.heap.size w5 (Below.refl _ _) (Nat.le_refl _) ?_)
    · omega
    · omega
    · intro w6 hr6 hb6 hs6
      have hconv := hr6.conv (n := (63 + r5).toNat) ⟨(List.replicate (63 + r5).toNat 0).toArray⟩ rfl (by simp [ByteArray.size]) (by omega)
      have HZ : Hid ((⟨(List.replicate (63 + r5).toNat (0 : UInt8)).toArray⟩ : ByteArray).size ≤ 65) := by show _ ≤ _; simp [ByteArray.size]; omega
      generalize (⟨(List.replicate (63 + r5).toNat (0 : UInt8)).toArray⟩ : ByteArray) = T at *
      have hsT := hs5.kept (hb6.block _ hgw)
      have hbT : Below w.heap.size w w6 := hb5.trans (hb6.mono hsz)
      have hcT := hc.below hbT
      clear hr6 hs5 hb5 hb6
      go_wp2_with fail
      refine (n_any w.heap.size a len cap w.heap.size 100 _ hsT hcT (Nat.le_refl _) hl (by omega) (by omega)).mono ?_
      rintro e w7 ⟨r7, rfl, h07, h17, hs7, hg7⟩
      have hb7 := grown_of_below hbT hg7 (Nat.le_refl _) (Nat.le_refl _)
      have hc7 := hc.below hb7
      have hr7 : r7 < 100 := by omega
      clear hsT hcT hg7 hbT h17
      go_wp2_with fail
      refine (bytes_any w.heap.size a len cap w.heap.size r7 _ hs7 hc7 (Nat.le_refl _) hl (by omega)).mono ?_
      rintro e w8 ⟨x, rfl, hx, hs8, hg8⟩
      have hb8 := grown_of_below hb7 hg8 (Nat.le_refl _) (Nat.le_refl _)
      clear hs7 hc7 hg8 hb7 hs8
      go_wp2
      go_ret2
      exact ⟨T, x, rfl, HZ.out, by omega, hb8⟩
def fiveCells (r : Int) : Array Value := #[.int .i64 0, .int .i64 1, .int .i64 100, .int .i64 101, .int .i64 r]
theorem five_at (r : Int) (h0 : -9223372036854775808 ≤ r) (h1 : r ≤ 9223372036854775807) (k : Nat) (h : k < 5) : ∃ v : Int, (fiveCells r)[k]? = some (.int .i64 v) ∧ -9223372036854775808 ≤ v ∧ v ≤ 9223372036854775807 := by
  obtain rfl | rfl | rfl | rfl | rfl : k = 0 ∨ k = 1 ∨ k = 2 ∨ k = 3 ∨ k = 4 := by omega
  · exact ⟨_, rfl, by omega, by omega⟩
  · exact ⟨_, rfl, by omega, by omega⟩
  · exact ⟨_, rfl, by omega, by omega⟩
  · exact ⟨_, rfl, by omega, by omega⟩
  · exact ⟨_, rfl, h0, h1⟩
theorem five_kept {w5 w6 : World} {r : Int} {t : TypeId} {g j : Nat} {v : Value} (hg : (w5.alloc (.cells #[.int .i64 0, .int .i64 1, .int .i64 100, .int .i64 101, .int .i64 r] t)).grownBy w6 (some g)) (hne : g < w5.heap.size) (hv : (fiveCells r)[j]? = some v) : w6.cell? ⟨w5.heap.size, j, none⟩ = some v := by
  have hb := hg.block w5.heap.size (by simp) (by simp; omega)
  rw [World.cell?_of_block (w := w5.alloc (.cells (fiveCells r) t)) (a := ⟨w5.heap.size, j, none⟩) hb, ← hv]
  exact World.cell?_alloc_at _ _ _ _ rfl
theorem five_arr {r : Int} {j : Nat} {v : Value} (hv : (fiveCells r)[j]? = some v) : (#[Value.int .i64 0, .int .i64 1, .int .i64 100, .int .i64 101, .int .i64 r])[j]? = some v := hv
theorem five_list {r : Int} {j : Nat} {v : Value} (hv : (fiveCells r)[j]? = some v) : ([Value.int .i64 0, .int .i64 1, .int .i64 100, .int .i64 101, .int .i64 r])[j]? = some v := by simpa [fiveCells] using hv
theorem five_new (w6 : World) (r : Int) (t : TypeId) (j : Nat) {v : Value} (hv : (fiveCells r)[j]? = some v) : (w6.alloc (.cells #[.int .i64 0, .int .i64 1, .int .i64 100, .int .i64 101, .int .i64 r] t)).cell? ⟨w6.heap.size, j, none⟩ = some v := by
  rw [← hv]
  exact World.cell?_alloc_at _ _ _ _ rfl
set_option maxRecDepth 100000 in
set_option maxHeartbeats 2000000 in
theorem drawStretch_any (a : Option Addr) (len cap : Nat) (w : World) (hc : Code w.heap.size w a len) (hl : len ≤ 1048576) :
    Calls Tryd.prog 12 #[.slice a len cap] w fun e w' => ∃ (t : ByteArray) (n : Int), e = .returned (.tuple #[.string t, .int .i64 n]) ∧ t.size ≤ 10 ∧ -9223372036854775808 ≤ n ∧ n ≤ 9223372036854775807 ∧ Below w.heap.size w w' := by
  go_enter Tryd.func12, Tryd.ntmps12
  go_wp2_with fail
  refine (source_any a len cap _ hc hl).mono ?_
  rintro e w1 ⟨rfl, hs1, hb1⟩
  have hc1 := hc.below hb1
  go_wp2_with fail
  refine (n_any w.heap.size a len cap w.heap.size 9 _ hs1 hc1 (Nat.le_refl _) hl (by omega) (by omega)).mono ?_
  rintro e w3 ⟨r, rfl, h0, h1, hs3, hg3⟩
  have hb3 := grown_of_below hb1 hg3 (Nat.le_refl _) (Nat.le_refl _)
  have hc3 := hc.below hb3
  have hr : r < 9 := by omega
  clear hs1 hc1 hg3 hb1 h1
  go_wp2_with fail
  refine (bytes_any w.heap.size a len cap w.heap.size r _ hs3 hc3 (Nat.le_refl _) hl (by omega)).mono ?_
  rintro e w4 ⟨k, rfl, hk, hs4, hg4⟩
  have hb4 := grown_of_below hb3 hg4 (Nat.le_refl _) (Nat.le_refl _)
  have hc4 := hc.below hb4
  have hks : k.size ≤ 10 := by omega
  clear hs3 hc3 hg4 hb3 hk
  go_wp2_with fail
  refine (one_any w.heap.size a len cap w.heap.size 6 _ hs4 hc4 (Nat.le_refl _) hl (by omega) (by omega)).mono ?_
  rintro e w2 ⟨q, rfl, hs2, hg2⟩
  have hb2 := grown_of_below hb4 hg2 (Nat.le_refl _) (Nat.le_refl _)
  have hc2 := hc.below hb2
  clear hs4 hc4 hg2 hb4
  cases q
  · go_wp2_with fail
    refine (n_any w.heap.size a len cap w.heap.size 9 _ hs2 hc2 (Nat.le_refl _) hl (by omega) (by omega)).mono ?_
    rintro e w5 ⟨r5, rfl, h05, h15, hs5, hg5⟩
    have hb5 := grown_of_below hb2 hg5 (Nat.le_refl _) (Nat.le_refl _)
    have hr5 : r5 < 9 := by omega
    clear hs2 hc2 hg5 hb2 h15 hs5
    go_wp2
    go_ret2
    exact ⟨k, _, rfl, hks, by omega, by omega, hb5⟩
  · go_wp2_with fail
    have HS2 : Hid (Src w2 w.heap.size a len cap) := hs2
    have HC2 : Hid (Code w.heap.size w2 a len) := hc2
    have hsz2 := hb2.size
    have hgw := hs2.lt
    clear hs2 hc2 hc
    go_region_with (first
      | (go_at_call 25; refine (edge_any w.heap.size a len cap w.heap.size _ ?_ ?_ (Nat.le_refl _) hl).mono ?_; exact Src.drew HS2.out; exact HC2.out; rintro e w5 ⟨r5, rfl, h05, h15, hs5, hg5⟩; have HS5 : Hid (Src w5 w.heap.size a len cap) := hs5; have HG5 : Hid (w2.drew.grownBy w5 (some w.heap.size)) := hg5; have HC5 : Hid (Code w.heap.size w5 a len) := Code.grown (w := w2.drew) (g := w.heap.size) HC2.out hg5 (Nat.le_refl _) hsz2; clear hs5 hg5)
      | (go_at_call 19; refine (n_any w.heap.size a len cap w.heap.size 5 _ ?_ ?_ (Nat.le_refl _) hl (by omega) (by omega)).mono ?_; (first | exact HS5.out | exact HS5.out.kept (Below.heap_alloc _ _ _ HS5.out.lt)); (first | exact HC5.out | exact HC5.out.below (((Below.refl _ _).alloc (Nat.le_of_lt HS5.out.lt) _))); rintro e w6 ⟨r6, rfl, h06, h16, hs6, hg6⟩; obtain ⟨j6, rfl⟩ := Int.eq_ofNat_of_zero_le h06; have hj6 : (j6 : Int) < 5 := (by omega); obtain ⟨v, hv, hv0, hv1⟩ := five_at r5 h05 h15 j6 (by omega); (first | (have hcell := five_kept hg6 HS5.out.lt hv) | (have hcell := five_new w6 r5 2 j6 hv; have hcl := five_arr hv; have hcl2 := five_list hv)); have HG6 : Hid _ := hg6; clear hs6 h16 hv hg6))
    · have hb5 : Below w.heap.size w _ := grown_of_below hb2.drew HG5.out (Nat.le_refl _) (Nat.le_refl _)
      have hb6 := grown_of_below (hb5.alloc hb5.size _) HG6.out (Nat.le_refl _) (Nat.le_refl _)
      clear hcell HG6 HG5 HS5 HC5 HS2 HC2
      go_wp2
      go_ret2
      exact ⟨k, _, rfl, hks, hv0, hv1, hb6⟩
    · have hb5 : Below w.heap.size w _ := grown_of_below hb2.drew HG5.out (Nat.le_refl _) (Nat.le_refl _)
      have hb6 := grown_of_below hb5 HG6.out (Nat.le_refl _) (Nat.le_refl _)
      have hb7 := hb6.alloc hb6.size (.cells #[.int .i64 0, .int .i64 1, .int .i64 100, .int .i64 101, .int .i64 r5] 2)
      clear hcell hcl hcl2 HG6 HG5 HS5 HC5 HS2 HC2
      go_wp2
      go_ret2
      exact ⟨k, _, rfl, hks, hv0, hv1, hb7⟩
end Go.Proofs.YtjbmpcjhcdlflaaDoor
