/- The draws of the law on addresses. -/
import Derived.Test.YtchgnjpbjnkdmaaDoorSpoil
import Derived.Test.YtchgnjpbjnkdmaaDoorNetText
import Derived.Test.YtchgnjpbjnkdmaaDoorMaskS
namespace Go.Proofs.YtchgnjpbjnkdmaaDoor
open Go.RowKit Go.Sort

theorem new_b (w : World) (o : Obj) : Below w.heap.size w (w.alloc o) := (Below.refl _ _).alloc (Nat.le_refl _) _
set_option maxRecDepth 100000 in
theorem drawAddrText_any (a : Option Addr) (len cap : Nat) (w : World) (hc : Code w.heap.size w a len) (hl : len ≤ 1048576) :
    Calls Tryd.prog 4 #[.slice a len cap] w fun e w' => ∃ x : Int, e = .returned (.int .i64 x) ∧ -1 ≤ x ∧ x ≤ 4294967296 ∧ Below w.heap.size w w' := by
  go_enter Tryd.func4, Tryd.ntmps4
  go_wp2_with fail
  refine (source_any a len cap _ hc hl).mono ?_
  rintro e w1 ⟨rfl, hs1, hb1⟩
  have hc1 := hc.below hb1
  go_wp2_with fail
  refine (drawAddr_any w.heap.size a len cap w.heap.size _ hs1 hc1 (Nat.le_refl _) hl).mono ?_
  rintro e w2 ⟨r, rfl, h0, h1, hs2, hg2⟩
  have hb2 := grown_of_below hb1 hg2 (Nat.le_refl _) (Nat.le_refl _)
  clear hs1 hc1 hg2 hb1 hs2
  go_wp2
  go_ret
  exact ⟨r, rfl, h0, h1, hb2⟩
set_option maxRecDepth 100000 in
theorem drawNetText_any (a : Option Addr) (len cap : Nat) (w : World) (hc : Code w.heap.size w a len) (hl : len ≤ 1048576) :
    Calls Tryd.prog 5 #[.slice a len cap] w fun e w' => ∃ x y : Int, e = .returned (.agg #[.int .i64 x, .int .i64 y]) ∧ -1 ≤ x ∧ x ≤ 4294967296 ∧ -1 ≤ y ∧ y ≤ 33 ∧ Below w.heap.size w w' := by
  have hb0 : Below w.heap.size w (w.alloc (.cells (pair2 0 0).toArray 25)) := (Below.refl _ _).alloc (Nat.le_refl _) _
  have hc0 := (hc.below hb0).mono (B' := (w.alloc (.cells (pair2 0 0).toArray 25)).heap.size) (by simp)
  have r0 := Row.new w 25 (pair2 0 0)
  go_enter Tryd.func5, Tryd.ntmps5
  go_wp2_with fail
  refine (source_any a len cap _ hc0 hl).mono ?_
  rintro e w1 ⟨rfl, hs1, hb1⟩
  have hz : (w.alloc (.cells (pair2 0 0).toArray 25)).heap.size = w.heap.size + 1 := by simp
  have hB1 := hb0.trans (hb1.mono (by rw [hz]; omega))
  have r1 := r0.below hb1 r0.lt
  have hc1 := hc.below hB1
  rw [hz] at hs1
  go_wp2_with fail
  refine (drawNet_any (w.heap.size + 1) a len cap w.heap.size _ hs1 hc1 (by omega) hl).mono ?_
  rintro e w2 ⟨x, y, rfl, h0, h1, h2, h3, hs2, hg2⟩
  have hB2 := grown_of_below hB1 hg2 (Nat.le_refl _) (by omega)
  have r2 := r1.grown hg2 (by omega)
  obtain ⟨c0, c1, f0, f1⟩ := r2.two
  clear hs1 hc1 r1 r0 hb1 hB1 hc0 hc hg2 hb0 hs2 r2
  go_wp2
  refine bodyPost_ret (v := .agg #[.int .i64 x, .int .i64 y]) (by simp [results, Tryd.results5, go_sem, c0, c1]) rfl ⟨x, y, rfl, h0, h1, h2, h3, ?_⟩
  exact (hB2.setCell (Nat.le_refl _) _).setCell (Nat.le_refl _) _
set_option maxRecDepth 100000 in
theorem drawMaskOf_any (a : Option Addr) (len cap : Nat) (w : World) (hc : Code w.heap.size w a len) (hl : len ≤ 1048576) :
    Calls Tryd.prog 6 #[.slice a len cap] w fun e w' => ∃ x : Int, e = .returned (.int .i64 x) ∧ -2 ≤ x ∧ x ≤ 34 ∧ Below w.heap.size w w' := by
  go_enter Tryd.func6, Tryd.ntmps6
  go_wp2_with fail
  refine (source_any a len cap _ hc hl).mono ?_
  rintro e w1 ⟨rfl, hs1, hb1⟩
  have hc1 := hc.below hb1
  go_wp2_with fail
  refine (n_any w.heap.size a len cap w.heap.size 36 _ hs1 hc1 (Nat.le_refl _) hl (by omega) (by omega)).mono ?_
  rintro e w2 ⟨q, rfl, h2, h3, hs2, hg2⟩
  have hb2 := grown_of_below hb1 hg2 (Nat.le_refl _) (Nat.le_refl _)
  have hq : q < 36 := by omega
  clear hs1 hc1 hg2 hb1 hs2 h3 hc
  go_wp2
  go_ret
  exact ⟨q - 2, rfl, by omega, by omega, hb2⟩
set_option maxRecDepth 100000 in
theorem drawLenOf_any (a : Option Addr) (len cap : Nat) (w : World) (hc : Code w.heap.size w a len) (hl : len ≤ 1048576) :
    Calls Tryd.prog 7 #[.slice a len cap] w fun e w' => ∃ x : Int, e = .returned (.int .i64 x) ∧ -10 ≤ x ∧ x ≤ 4294967310 ∧ Below w.heap.size w w' := by
  go_enter Tryd.func7, Tryd.ntmps7
  go_wp2_with fail
  refine (source_any a len cap _ hc hl).mono ?_
  rintro e w1 ⟨rfl, hs1, hb1⟩
  have hc1 := hc.below hb1
  go_wp2_with fail
  refine (n_any w.heap.size a len cap w.heap.size 33 _ hs1 hc1 (Nat.le_refl _) hl (by omega) (by omega)).mono ?_
  rintro e w2 ⟨q, rfl, h2, h3, hs2, hg2⟩
  have hb2 := grown_of_below hb1 hg2 (Nat.le_refl _) (Nat.le_refl _)
  have hc2 := hc.below hb2
  have hmr := maskV_range q
  clear hs1 hc1 hg2 hb1 h3
  go_wp2_with fail
  refine (specMask_any q _).mono ?_
  rintro e w3 ⟨rfl, rfl⟩
  generalize maskV q = M at *
  go_wp2_with fail
  refine (one_any w.heap.size a len cap w.heap.size 3 _ hs2 hc2 (Nat.le_refl _) hl (by omega) (by omega)).mono ?_
  rintro e w4 ⟨b, rfl, hs4, hg4⟩
  have hb4 := grown_of_below hb2 hg4 (Nat.le_refl _) (Nat.le_refl _)
  have hc4 := hc.below hb4
  clear hs2 hc2 hg4 hb2
  cases b
  · go_wp2
    go_ret
    exact ⟨M, rfl, by omega, by omega, hb4⟩
  · go_wp2_with fail
    refine (n_any w.heap.size a len cap w.heap.size 5 _ hs4 hc4 (Nat.le_refl _) hl (by omega) (by omega)).mono ?_
    rintro e w5 ⟨q2, rfl, h5, h6, hs5, hg5⟩
    have hb5 := grown_of_below hb4 hg5 (Nat.le_refl _) (Nat.le_refl _)
    have hq2 : q2 < 5 := by omega
    clear hs4 hc4 hg5 hb4 hs5 h6
    go_wp2
    go_ret
    exact ⟨M + q2 - 2, rfl, by omega, by omega, hb5⟩
theorem netT_size (x y : Int) : (netT x y).size ≤ 100 := by
  by_cases h : rightB x y = true
  · have hr : 0 ≤ x ∧ x ≤ 4294967295 ∧ 0 ≤ y ∧ y ≤ 32 := by
      have := of_decide_eq_true h
      exact ⟨this.1, this.2.1, this.2.2.1, this.2.2.2.1⟩
    rw [netT_in x y h]
    have h1 := addrT_size x
    have h2 := decT_size y (by omega)
    simp only [ByteArray.size_append]
    have h3 : (⟨#[47]⟩ : ByteArray).size = 1 := rfl
    omega
  · rw [netT_out x y (by simpa using h)]
    decide
/-- One text of some that lie in a row. -/
theorem strs_get (ss : List ByteArray) (k : Nat) (h : k < ss.length) : (ss.map Value.string)[k]? = some (.string ss[k]) := by simp [h]
set_option maxRecDepth 100000 in
set_option maxHeartbeats 1000000 in
theorem pick_any (g : Nat) (a : Option Addr) (len cap B : Nat) (ss : List ByteArray) (b n : Nat) (w : World) (hs : Src w g a len cap) (hc : Code B w a len) (hB : B ≤ g) (hl : len ≤ 1048576) (hr : Row w b 9 (ss.map Value.string)) (hb : b ≠ g) (hn : n = ss.length) (h1 : 1 < n) (h2 : n ≤ 100) (hz : ∀ s ∈ ss, s.size ≤ 100) :
    Calls Tryd.prog 33 #[.pointer (some ⟨g, 0, none⟩), .slice (some ⟨b, 0, none⟩) n n] w fun e w' => ∃ r : ByteArray, e = .returned (.string r) ∧ r.size ≤ 100 ∧ Src w' g a len cap ∧ w.grownBy w' (some g) := by
  have HN : Hid (n = ss.length) := hn
  clear hn
  go_enter Tryd.func33, Tryd.ntmps33
  go_wp2_with fail
  refine (n_any g a len cap B (n : Int) _ hs hc hB hl (by omega) (by omega)).mono ?_
  rintro e w1 ⟨r, rfl, h0, h1, hs1, hg1⟩
  obtain ⟨k, rfl⟩ := Int.eq_ofNat_of_zero_le h0
  have hk : k < n := by omega
  have hn := HN.out
  have hr1 := hr.grown hg1 hb
  have hcell := hr1.cell k
  rw [strs_get ss k (by omega)] at hcell
  have hsz := hz ss[k] (List.getElem_mem (by omega))
  have hki : (k : Int) < (n : Int) := by omega
  generalize ss[k]'(by omega) = R at *
  clear hs hc h1 h0 hr hr1 hz HN hn
  go_wp2
  go_ret
  exact ⟨R, rfl, hsz, hs1, hg1⟩
set_option maxRecDepth 100000 in
set_option maxHeartbeats 1000000 in
theorem drawAddrRead_any (a : Option Addr) (len cap : Nat) (w : World) (hc : Code w.heap.size w a len) (hl : len ≤ 1048576) :
    Calls Tryd.prog 10 #[.slice a len cap] w fun e w' => ∃ t : ByteArray, e = .returned (.string t) ∧ t.size ≤ 1000 ∧ Below w.heap.size w w' := by
  have hss : ∀ s ∈ ([⟨#[]⟩, ⟨#[49, 46, 50, 46, 51]⟩, ⟨#[49, 46, 50, 46, 51, 46, 52, 46, 53]⟩, ⟨#[50, 53, 54, 46, 48, 46, 48, 46, 48]⟩, ⟨#[48, 49, 46, 50, 46, 51, 46, 52]⟩, ⟨#[49, 46, 46, 50, 46, 51]⟩, ⟨#[48, 46, 48, 46, 48, 46, 48]⟩] : List ByteArray), s.size ≤ 100 := by
    intro s hs
    simp only [List.mem_cons, List.not_mem_nil, or_false] at hs
    rcases hs with rfl | rfl | rfl | rfl | rfl | rfl | rfl <;> decide
  go_enter Tryd.func10, Tryd.ntmps10
  go_wp2_with fail
  refine (source_any a len cap _ hc hl).mono ?_
  rintro e w1 ⟨rfl, hs1, hb1⟩
  have hc1 := hc.below hb1
  go_wp2_with fail
  refine (drawAddr_any w.heap.size a len cap w.heap.size _ hs1 hc1 (Nat.le_refl _) hl).mono ?_
  rintro e w2 ⟨r, rfl, h0, h1, hs2, hg2⟩
  have hb2 := grown_of_below hb1 hg2 (Nat.le_refl _) (Nat.le_refl _)
  clear hs1 hc1 hg2 hb1
  go_wp2_with fail
  refine (specAddrText_any r _).mono ?_
  rintro e w3 ⟨rfl, hb3⟩
  have hT := addrT_size r
  generalize addrT r = T at *
  have hs3 := hs2.below hb3
  have hB3 := hb2.trans (hb3.mono hb2.size)
  have hc3 := hc.below hB3
  clear hs2 hb2 hb3
  go_wp2_with fail
  refine (n_any w.heap.size a len cap w.heap.size 4 _ hs3 hc3 (Nat.le_refl _) hl (by omega) (by omega)).mono ?_
  rintro e w4 ⟨q, rfl, h4, h5, hs4, hg4⟩
  have hb4 := grown_of_below hB3 hg4 (Nat.le_refl _) (Nat.le_refl _)
  have hc4 := hc.below hb4
  clear hs3 hc3 hg4 hB3
  by_cases q0 : q = 0
  · subst q0
    go_wp2_with fail
    refine (spoil_any w.heap.size a len cap w.heap.size T _ hs4 hc4 (Nat.le_refl _) hl (by omega)).mono ?_
    rintro e w5 ⟨R, rfl, hR, hs5, hg5⟩
    have hb5 := grown_of_below hb4 hg5 (Nat.le_refl _) (Nat.le_refl _)
    clear hs4 hc4 hg5 hb4 hs5
    go_wp2
    go_ret
    exact ⟨R, rfl, by omega, hb5⟩
  · have q0b : (q == 0) = false := by simpa using q0
    by_cases q1 : q = 1
    · subst q1
      have hs4a := hs4.alloc (.cells #[.string ⟨#[]⟩, .string ⟨#[49, 46, 50, 46, 51]⟩, .string ⟨#[49, 46, 50, 46, 51, 46, 52, 46, 53]⟩, .string ⟨#[50, 53, 54, 46, 48, 46, 48, 46, 48]⟩, .string ⟨#[48, 49, 46, 50, 46, 51, 46, 52]⟩, .string ⟨#[49, 46, 46, 50, 46, 51]⟩, .string ⟨#[48, 46, 48, 46, 48, 46, 48]⟩] 9)
      have hc4a := hc4.alloc (.cells #[.string ⟨#[]⟩, .string ⟨#[49, 46, 50, 46, 51]⟩, .string ⟨#[49, 46, 50, 46, 51, 46, 52, 46, 53]⟩, .string ⟨#[50, 53, 54, 46, 48, 46, 48, 46, 48]⟩, .string ⟨#[48, 49, 46, 50, 46, 51, 46, 52]⟩, .string ⟨#[49, 46, 46, 50, 46, 51]⟩, .string ⟨#[48, 46, 48, 46, 48, 46, 48]⟩] 9) hb4.size
      have hgl := hs4.lt
      have hr4 : Row (w4.alloc (.cells #[.string ⟨#[]⟩, .string ⟨#[49, 46, 50, 46, 51]⟩, .string ⟨#[49, 46, 50, 46, 51, 46, 52, 46, 53]⟩, .string ⟨#[50, 53, 54, 46, 48, 46, 48, 46, 48]⟩, .string ⟨#[48, 49, 46, 50, 46, 51, 46, 52]⟩, .string ⟨#[49, 46, 46, 50, 46, 51]⟩, .string ⟨#[48, 46, 48, 46, 48, 46, 48]⟩] 9)) w4.heap.size 9 (([⟨#[]⟩, ⟨#[49, 46, 50, 46, 51]⟩, ⟨#[49, 46, 50, 46, 51, 46, 52, 46, 53]⟩, ⟨#[50, 53, 54, 46, 48, 46, 48, 46, 48]⟩, ⟨#[48, 49, 46, 50, 46, 51, 46, 52]⟩, ⟨#[49, 46, 46, 50, 46, 51]⟩, ⟨#[48, 46, 48, 46, 48, 46, 48]⟩] : List ByteArray).map Value.string) := Row.new w4 9 _
      have hb4a : Below w.heap.size w (w4.alloc (.cells #[.string ⟨#[]⟩, .string ⟨#[49, 46, 50, 46, 51]⟩, .string ⟨#[49, 46, 50, 46, 51, 46, 52, 46, 53]⟩, .string ⟨#[50, 53, 54, 46, 48, 46, 48, 46, 48]⟩, .string ⟨#[48, 49, 46, 50, 46, 51, 46, 52]⟩, .string ⟨#[49, 46, 46, 50, 46, 51]⟩, .string ⟨#[48, 46, 48, 46, 48, 46, 48]⟩] 9)) := hb4.alloc hb4.size _
      clear hs4 hc4
      go_wp2_with fail
      refine (pick_any w.heap.size a len cap w.heap.size [⟨#[]⟩, ⟨#[49, 46, 50, 46, 51]⟩, ⟨#[49, 46, 50, 46, 51, 46, 52, 46, 53]⟩, ⟨#[50, 53, 54, 46, 48, 46, 48, 46, 48]⟩, ⟨#[48, 49, 46, 50, 46, 51, 46, 52]⟩, ⟨#[49, 46, 46, 50, 46, 51]⟩, ⟨#[48, 46, 48, 46, 48, 46, 48]⟩] w4.heap.size 7 _ hs4a hc4a (Nat.le_refl _) hl hr4 (by omega) rfl (by omega) (by omega) hss).mono ?_
      rintro e w5 ⟨R, rfl, hR, hs5, hg5⟩
      have hb5 := grown_of_below hb4a hg5 (Nat.le_refl _) (Nat.le_refl _)
      clear hs4a hc4a hg5 hb4a hs5 hr4
      go_wp2
      go_ret
      exact ⟨R, rfl, by omega, hb5⟩
    · have q1b : (q == 1) = false := by simpa using q1
      clear hs4 hc4
      go_wp2
      go_ret
      exact ⟨T, rfl, by omega, hb4⟩
set_option maxRecDepth 100000 in
set_option maxHeartbeats 1000000 in
theorem drawNetRead_any (a : Option Addr) (len cap : Nat) (w : World) (hc : Code w.heap.size w a len) (hl : len ≤ 1048576) :
    Calls Tryd.prog 11 #[.slice a len cap] w fun e w' => ∃ t : ByteArray, e = .returned (.string t) ∧ t.size ≤ 1000 ∧ Below w.heap.size w w' := by
  have hss : ∀ s ∈ ([⟨#[]⟩, ⟨#[49, 48, 46, 48, 46, 48, 46, 48]⟩, ⟨#[49, 48, 46, 48, 46, 48, 46, 49, 47, 56]⟩, ⟨#[49, 48, 46, 48, 46, 48, 46, 48, 47, 51, 51]⟩, ⟨#[48, 46, 48, 46, 48, 46, 48, 47, 48]⟩, ⟨#[49, 48, 46, 48, 46, 48, 46, 48, 47, 48, 56]⟩] : List ByteArray), s.size ≤ 100 := by
    intro s hs
    simp only [List.mem_cons, List.not_mem_nil, or_false] at hs
    rcases hs with rfl | rfl | rfl | rfl | rfl | rfl <;> decide
  go_enter Tryd.func11, Tryd.ntmps11
  go_wp2_with fail
  refine (source_any a len cap _ hc hl).mono ?_
  rintro e w1 ⟨rfl, hs1, hb1⟩
  have hc1 := hc.below hb1
  go_wp2_with fail
  refine (drawNet_any w.heap.size a len cap w.heap.size _ hs1 hc1 (Nat.le_refl _) hl).mono ?_
  rintro e w2 ⟨x, y, rfl, h0, h1, h2, h3, hs2, hg2⟩
  have hb2 := grown_of_below hb1 hg2 (Nat.le_refl _) (Nat.le_refl _)
  clear hs1 hc1 hg2 hb1
  go_wp2_with fail
  refine (specNetText_any x y _).mono ?_
  rintro e w3 ⟨rfl, hb3⟩
  have hT := netT_size x y
  generalize netT x y = T at *
  have hs3 := hs2.below hb3
  have hB3 := hb2.trans (hb3.mono hb2.size)
  have hc3 := hc.below hB3
  clear hs2 hb2 hb3
  go_wp2_with fail
  refine (n_any w.heap.size a len cap w.heap.size 4 _ hs3 hc3 (Nat.le_refl _) hl (by omega) (by omega)).mono ?_
  rintro e w4 ⟨q, rfl, h4, h5, hs4, hg4⟩
  have hb4 := grown_of_below hB3 hg4 (Nat.le_refl _) (Nat.le_refl _)
  have hc4 := hc.below hb4
  clear hs3 hc3 hg4 hB3
  by_cases q0 : q = 0
  · subst q0
    go_wp2_with fail
    refine (spoil_any w.heap.size a len cap w.heap.size T _ hs4 hc4 (Nat.le_refl _) hl (by omega)).mono ?_
    rintro e w5 ⟨R, rfl, hR, hs5, hg5⟩
    have hb5 := grown_of_below hb4 hg5 (Nat.le_refl _) (Nat.le_refl _)
    clear hs4 hc4 hg5 hb4 hs5
    go_wp2
    go_ret
    exact ⟨R, rfl, by omega, hb5⟩
  · have q0b : (q == 0) = false := by simpa using q0
    by_cases q1 : q = 1
    · subst q1
      have hs4a := hs4.alloc (.cells #[.string ⟨#[]⟩, .string ⟨#[49, 48, 46, 48, 46, 48, 46, 48]⟩, .string ⟨#[49, 48, 46, 48, 46, 48, 46, 49, 47, 56]⟩, .string ⟨#[49, 48, 46, 48, 46, 48, 46, 48, 47, 51, 51]⟩, .string ⟨#[48, 46, 48, 46, 48, 46, 48, 47, 48]⟩, .string ⟨#[49, 48, 46, 48, 46, 48, 46, 48, 47, 48, 56]⟩] 9)
      have hc4a := hc4.alloc (.cells #[.string ⟨#[]⟩, .string ⟨#[49, 48, 46, 48, 46, 48, 46, 48]⟩, .string ⟨#[49, 48, 46, 48, 46, 48, 46, 49, 47, 56]⟩, .string ⟨#[49, 48, 46, 48, 46, 48, 46, 48, 47, 51, 51]⟩, .string ⟨#[48, 46, 48, 46, 48, 46, 48, 47, 48]⟩, .string ⟨#[49, 48, 46, 48, 46, 48, 46, 48, 47, 48, 56]⟩] 9) hb4.size
      have hgl := hs4.lt
      have hr4 : Row (w4.alloc (.cells #[.string ⟨#[]⟩, .string ⟨#[49, 48, 46, 48, 46, 48, 46, 48]⟩, .string ⟨#[49, 48, 46, 48, 46, 48, 46, 49, 47, 56]⟩, .string ⟨#[49, 48, 46, 48, 46, 48, 46, 48, 47, 51, 51]⟩, .string ⟨#[48, 46, 48, 46, 48, 46, 48, 47, 48]⟩, .string ⟨#[49, 48, 46, 48, 46, 48, 46, 48, 47, 48, 56]⟩] 9)) w4.heap.size 9 (([⟨#[]⟩, ⟨#[49, 48, 46, 48, 46, 48, 46, 48]⟩, ⟨#[49, 48, 46, 48, 46, 48, 46, 49, 47, 56]⟩, ⟨#[49, 48, 46, 48, 46, 48, 46, 48, 47, 51, 51]⟩, ⟨#[48, 46, 48, 46, 48, 46, 48, 47, 48]⟩, ⟨#[49, 48, 46, 48, 46, 48, 46, 48, 47, 48, 56]⟩] : List ByteArray).map Value.string) := Row.new w4 9 _
      have hb4a : Below w.heap.size w (w4.alloc (.cells #[.string ⟨#[]⟩, .string ⟨#[49, 48, 46, 48, 46, 48, 46, 48]⟩, .string ⟨#[49, 48, 46, 48, 46, 48, 46, 49, 47, 56]⟩, .string ⟨#[49, 48, 46, 48, 46, 48, 46, 48, 47, 51, 51]⟩, .string ⟨#[48, 46, 48, 46, 48, 46, 48, 47, 48]⟩, .string ⟨#[49, 48, 46, 48, 46, 48, 46, 48, 47, 48, 56]⟩] 9)) := hb4.alloc hb4.size _
      clear hs4 hc4
      go_wp2_with fail
      refine (pick_any w.heap.size a len cap w.heap.size [⟨#[]⟩, ⟨#[49, 48, 46, 48, 46, 48, 46, 48]⟩, ⟨#[49, 48, 46, 48, 46, 48, 46, 49, 47, 56]⟩, ⟨#[49, 48, 46, 48, 46, 48, 46, 48, 47, 51, 51]⟩, ⟨#[48, 46, 48, 46, 48, 46, 48, 47, 48]⟩, ⟨#[49, 48, 46, 48, 46, 48, 46, 48, 47, 48, 56]⟩] w4.heap.size 6 _ hs4a hc4a (Nat.le_refl _) hl hr4 (by omega) rfl (by omega) (by omega) hss).mono ?_
      rintro e w5 ⟨R, rfl, hR, hs5, hg5⟩
      have hb5 := grown_of_below hb4a hg5 (Nat.le_refl _) (Nat.le_refl _)
      clear hs4a hc4a hg5 hb4a hs5 hr4
      go_wp2
      go_ret
      exact ⟨R, rfl, by omega, hb5⟩
    · have q1b : (q == 1) = false := by simpa using q1
      clear hs4 hc4
      go_wp2
      go_ret
      exact ⟨T, rfl, by omega, hb4⟩
end Go.Proofs.YtchgnjpbjnkdmaaDoor
