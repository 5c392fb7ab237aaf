/- What is drawn for addresses and nets. -/
import Derived.Test.YtchgnjpbjnkdmaaSourceN
import Derived.Test.YtchgnjpbjnkdmaaNetOfS
import Derived.Test.YtchgnjpbjnkdmaaRowV
import Derived.Test.YtchgnjpbjnkdmaaTailB
namespace Go.Proofs.Ytchgnjpbjnkdmaa
open Go.RowKit Go.Sort

theorem Row.grown {w w' : World} {b : Nat} {g : Nat} {t : TypeId} {l : List Value} (h : Row w b t l) (hg : w.grownBy w' (some g)) (hne : b ≠ g) : Row w' b t l := by
  unfold Row
  rw [hg.block b h.lt (by simpa using hne)]
  exact h
theorem grown_alloc {w W : World} {g : Nat} (h : w.grownBy W (some g)) (o : Obj) : w.grownBy (W.alloc o) (some g) := grown_trans h (World.grownBy_alloc W o _)
theorem grown_new {w W : World} {g b j : Nat} (h : w.grownBy W (some g)) (hb : w.heap.size ≤ b) (v : Value) : w.grownBy (W.setCell ⟨b, j, none⟩ v) (some g) :=
  ⟨h.os, h.tape, h.output, by simp [World.setCell]; exact h.size, fun k hk hne => by
    rw [heap_setCell_other _ _ _ _ (by intro e; have : b = k := by simpa using e.symm
                                       omega)]; exact h.block k hk hne⟩
theorem Src.alloc {w : World} {g : Nat} {a : Option Addr} {len cap : Nat} (h : Src w g a len cap) (o : Obj) : Src (w.alloc o) g a len cap := h.kept (Below.heap_alloc _ _ _ h.lt)
theorem Src.below {w w' : World} {g : Nat} {a : Option Addr} {len cap : Nat} (h : Src w g a len cap) (hb : Below w.heap.size w w') : Src w' g a len cap := h.kept (hb.block g h.lt)
theorem Src.set {w : World} {g b j : Nat} {a : Option Addr} {len cap : Nat} {v : Value} (h : Src w g a len cap) (hne : g ≠ b) : Src (w.setCell ⟨b, j, none⟩ v) g a len cap := h.kept (Below.heap_setCell w _ v g hne)
theorem Code.alloc {B : Nat} {w : World} {a : Option Addr} {len : Nat} (h : Code B w a len) (o : Obj) (hB : B ≤ w.heap.size) : Code B (w.alloc o) a len := h.below ((Below.refl _ _).alloc hB _)
def four4 : List Value := [.int .i64 (-1), .int .i64 0, .int .i64 4294967295, .int .i64 4294967296]
theorem four_at (k : Nat) (h : k < 4) : ∃ v : Int, four4[k]? = some (.int .i64 v) ∧ -1 ≤ v ∧ v ≤ 4294967296 := by
  obtain rfl | rfl | rfl | rfl : k = 0 ∨ k = 1 ∨ k = 2 ∨ k = 3 := by omega
  all_goals exact ⟨_, rfl, by decide, by decide⟩
set_option maxRecDepth 100000 in
set_option maxHeartbeats 1000000 in
theorem drawAddr_any (g : Nat) (a : Option Addr) (len cap B : Nat) (w : World) (hs : Src w g a len cap) (hc : Code B w a len) (hB : B ≤ g) (hl : len ≤ 1048576) :
    Calls Try.prog 47 #[.pointer (some ⟨g, 0, none⟩)] w fun e w' => ∃ r : Int, e = .returned (.int .i64 r) ∧ -1 ≤ r ∧ r ≤ 4294967296 ∧ Src w' g a len cap ∧ w.grownBy w' (some g) := by
  have hBw : B ≤ w.heap.size := by have := hs.lt; omega
  go_enter Try.func47, Try.ntmps47
  go_wp2_with fail
  refine (one_any g a len cap B 15 _ hs hc hB hl (by omega) (by omega)).mono ?_
  rintro e w1 ⟨r, rfl, hs1, hg1⟩
  have hc1 := hc.grown hg1 hB hBw
  have hz1 := hg1.size
  clear hs hc
  cases r
  · go_wp2_with fail
    refine (n_any g a len cap B 3 _ hs1 hc1 hB hl (by omega) (by omega)).mono ?_
    rintro e w2 ⟨r1, rfl, h10, h11, hs2, hg2⟩
    have hc2 := hc1.grown hg2 hB (by omega)
    have hz2 := hg2.size
    have hr1 : r1 < 3 := by omega
    clear hs1 hc1 h11
    go_wp2_with fail
    refine (n_any g a len cap B 3 _ hs2 hc2 hB hl (by omega) (by omega)).mono ?_
    rintro e w3 ⟨r2, rfl, h20, h21, hs3, hg3⟩
    have hc3 := hc2.grown hg3 hB (by omega)
    have hr2 : r2 < 3 := by omega
    clear hs2 hc2 h21
    go_wp2_with fail
    refine (n_any g a len cap B 5 _ hs3 hc3 hB hl (by omega) (by omega)).mono ?_
    rintro e w4 ⟨r3, rfl, h30, h31, hs4, hg4⟩
    have hr3 : r3 < 5 := by omega
    clear hs3 hc3 h31
    go_wp2
    go_ret
    exact ⟨_, rfl, by omega, by omega, hs4, grown_trans (grown_trans (grown_trans hg1 hg2) hg3) hg4⟩
  · have hs1a := hs1.alloc (.cells four4.toArray 2)
    have hc1a := hc1.alloc (.cells four4.toArray 2) (by omega)
    have hgl := hs1.lt
    clear hs1 hc1
    go_wp2_with fail
    refine (n_any g a len cap B 4 _ hs1a hc1a hB hl (by omega) (by omega)).mono ?_
    rintro e w2 ⟨r1, rfl, h10, h11, hs2, hg2⟩
    obtain ⟨k, rfl⟩ := Int.eq_ofNat_of_zero_le h10
    have hk : k < 4 := by omega
    obtain ⟨v, hv, hv0, hv1⟩ := four_at k hk
    have hcell : w2.cell? ⟨w1.heap.size, k, none⟩ = some (.int .i64 v) := by
      have hr := (Row.new w1 2 four4).grown hg2 (by omega)
      rw [hr.cell]; exact hv
    have hki : (k : Int) < 4 := by omega
    clear hs1a hc1a h11
    go_wp2
    go_ret
    exact ⟨v, rfl, hv0, hv1, hs2, grown_trans (grown_alloc hg1 _) hg2⟩
def six6 : List Value := [.int .i64 8, .int .i64 16, .int .i64 24, .int .i64 24, .int .i64 32, .int .i64 0]
theorem six_at (k : Nat) (h : k < 6) : ∃ v : Int, six6[k]? = some (.int .i64 v) ∧ 0 ≤ v ∧ v ≤ 32 := by
  obtain rfl | rfl | rfl | rfl | rfl | rfl : k = 0 ∨ k = 1 ∨ k = 2 ∨ k = 3 ∨ k = 4 ∨ k = 5 := by omega
  all_goals exact ⟨_, rfl, by decide, by decide⟩
def three3 : List Value := [.int .i64 (-1), .int .i64 32, .int .i64 33]
theorem three_at (k : Nat) (h : k < 3) : ∃ v : Int, three3[k]? = some (.int .i64 v) ∧ -1 ≤ v ∧ v ≤ 33 := by
  obtain rfl | rfl | rfl : k = 0 ∨ k = 1 ∨ k = 2 := by omega
  all_goals exact ⟨_, rfl, by decide, by decide⟩
def pair2 (x y : Int) : List Value := [.int .i64 x, .int .i64 y]
theorem net_range (a l : Int) : 0 ≤ netA a l ∧ netA a l ≤ 4294967295 ∧ 0 ≤ netN a l ∧ netN a l ≤ 32 := by
  by_cases h : 0 ≤ a ∧ a ≤ 4294967295 ∧ 0 ≤ l ∧ l ≤ 32
  · rw [netA_in h, netN_in h]
    have := cutV_le a l h.1
    omega
  · rw [netA_out h, netN_out h]; omega
theorem Row.two {w : World} {b : Nat} {t : TypeId} {x y : Int} (h : Row w b t (pair2 x y)) : w.cell? ⟨b, 0, none⟩ = some (.int .i64 x) ∧ w.cell? ⟨b, 1, none⟩ = some (.int .i64 y) ∧ w.frozen? ⟨b, 0, none⟩ = false ∧ w.frozen? ⟨b, 1, none⟩ = false :=
  ⟨h.cell 0, h.cell 1, h.frozen 0, h.frozen 1⟩
set_option maxRecDepth 100000 in
set_option maxHeartbeats 2000000 in
theorem drawNet_any (g : Nat) (a : Option Addr) (len cap B : Nat) (w : World) (hs : Src w g a len cap) (hc : Code B w a len) (hB : B ≤ g) (hl : len ≤ 1048576) :
    Calls Try.prog 52 #[.pointer (some ⟨g, 0, none⟩)] w fun e w' => ∃ x y : Int, e = .returned (.agg #[.int .i64 x, .int .i64 y]) ∧ -1 ≤ x ∧ x ≤ 4294967296 ∧ -1 ≤ y ∧ y ≤ 33 ∧ Src w' g a len cap ∧ w.grownBy w' (some g) := by
  have hgw := hs.lt
  have hs0 := hs.alloc (.cells (pair2 0 0).toArray 26)
  have hc0 := hc.alloc (.cells (pair2 0 0).toArray 26) (by omega)
  have r0 := Row.new w 26 (pair2 0 0)
  have g0 : w.grownBy (w.alloc (.cells (pair2 0 0).toArray 26)) (some g) := World.grownBy_alloc w _ _
  clear hs hc
  go_enter Try.func52, Try.ntmps52
  go_wp2_with fail
  refine (n_any g a len cap B 4 _ hs0 hc0 hB hl (by omega) (by omega)).mono ?_
  rintro e w1 ⟨d1, rfl, h10, h11, hs1, hg1⟩
  have hc1 := hc0.grown hg1 hB (by simp; omega)
  have r1 := r0.grown hg1 (by omega)
  have G1 := grown_trans g0 hg1
  have z1 := G1.size
  have hd1 : d1 < 4 := by omega
  clear hs0 hc0 r0 g0 h11 hg1
  go_wp2_with fail
  refine (n_any g a len cap B 3 _ hs1 hc1 hB hl (by omega) (by omega)).mono ?_
  rintro e w2 ⟨d2, rfl, h20, h21, hs2, hg2⟩
  have hc2 := hc1.grown hg2 hB (by omega)
  have r2 := r1.grown hg2 (by omega)
  have G2 := grown_trans G1 hg2
  have z2 := G2.size
  have hd2 : d2 < 3 := by omega
  have hs2a := hs2.alloc (.cells six6.toArray 2)
  have hc2a := hc2.alloc (.cells six6.toArray 2) (by omega)
  have r2a := r2.alloc (.cells six6.toArray 2)
  have q2 := Row.new w2 2 six6
  have G2a := grown_alloc G2 (.cells six6.toArray 2)
  have hgl2 := hs2.lt
  clear hs1 hc1 r1 G1 h21 hg2 hs2 hc2 r2 G2
  go_wp2_with fail
  refine (n_any g a len cap B 6 _ hs2a hc2a hB hl (by omega) (by omega)).mono ?_
  rintro e w3 ⟨d3, rfl, h30, h31, hs3, hg3⟩
  have hc3 := hc2a.grown hg3 hB (by simp; omega)
  have r3 := r2a.grown hg3 (by omega)
  have q3 := q2.grown hg3 (by omega)
  have G3 := grown_trans G2a hg3
  have z3 := G3.size
  obtain ⟨k, rfl⟩ := Int.eq_ofNat_of_zero_le h30
  have hk : k < 6 := by omega
  obtain ⟨l, hlv, hl0, hl1⟩ := six_at k hk
  have hcell : w3.cell? ⟨w2.heap.size, k, none⟩ = some (.int .i64 l) := by rw [q3.cell]; exact hlv
  have hki : (k : Int) < 6 := by omega
  clear hs2a hc2a r2a q2 G2a h31 hg3 q3 hlv
  go_wp2_with fail
  refine (specNetOf_any _ _ _).mono ?_
  rintro e w4 ⟨rfl, hb4⟩
  have hnr := net_range (167772160 + 65536 * d1 + 256 * d2) l
  generalize netA (167772160 + 65536 * d1 + 256 * d2) l = A at *
  generalize netN (167772160 + 65536 * d1 + 256 * d2) l = N at *
  have hs4 := hs3.below hb4
  have hc4 := hc3.below (hb4.mono (by omega))
  have r4 := r3.below hb4 r3.lt
  have G4 := grown_below G3 (hb4.mono z3)
  have hw4 := r4.lt
  have z4 := G4.size
  unfold netV
  have hs4a := hs4.alloc (.cells (pair2 A N).toArray 26)
  have hc4a := hc4.alloc (.cells (pair2 A N).toArray 26) (by omega)
  have r4a := r4.alloc (.cells (pair2 A N).toArray 26)
  have q4 := Row.new w4 26 (pair2 A N)
  have G4a := grown_alloc G4 (.cells (pair2 A N).toArray 26)
  clear hs3 hc3 r3 G3 hb4 hs4 hc4 r4 G4 hcell
  go_wp2_with fail
  refine (one_any g a len cap B 15 _ hs4a hc4a hB hl (by omega) (by omega)).mono ?_
  rintro e w5 ⟨b5, rfl, hs5, hg5⟩
  have hc5 := hc4a.grown hg5 hB (by simp; omega)
  have r5 := r4a.grown hg5 (by omega)
  have q5 := q4.grown hg5 (by omega)
  have G5 := grown_trans G4a hg5
  have z5 := G5.size
  clear hs4a hc4a r4a q4 G4a hg5
  cases b5
  · obtain ⟨c0, c1, f0, f1⟩ := r5.two
    obtain ⟨e0, e1, _, _⟩ := q5.two
    go_wp2
    refine bodyPost_ret (v := .agg #[.int .i64 A, .int .i64 N]) (by simp [results, Try.results52, go_sem, c0, c1]) rfl ⟨A, N, rfl, by omega, by omega, by omega, by omega, ?_, ?_⟩
    · exact (hs5.set (by omega)).set (by omega)
    · exact grown_new (grown_new G5 (Nat.le_refl _) _) (Nat.le_refl _) _
  · go_wp2_with fail
    refine (n_any g a len cap B 3 _ hs5 hc5 hB hl (by omega) (by omega)).mono ?_
    rintro e w6 ⟨d6, rfl, h60, h61, hs6, hg6⟩
    have hc6 := hc5.grown hg6 hB (by omega)
    have r6 := r5.grown hg6 (by omega)
    have q6 := q5.grown hg6 (by omega)
    have G6 := grown_trans G5 hg6
    have z6 := G6.size
    clear hs5 hc5 r5 q5 G5 hg6
    obtain rfl | rfl | rfl : d6 = 0 ∨ d6 = 1 ∨ d6 = 2 := by omega
    · have hs6a := hs6.alloc (.cells three3.toArray 2)
      have hc6a := hc6.alloc (.cells three3.toArray 2) (by omega)
      have r6a := r6.alloc (.cells three3.toArray 2)
      have q6a := q6.alloc (.cells three3.toArray 2)
      have t6 := Row.new w6 2 three3
      have G6a := grown_alloc G6 (.cells three3.toArray 2)
      have hgl6 := hs6.lt
      clear hs6 hc6 r6 q6 G6
      go_wp2_with fail
      refine (n_any g a len cap B 3 _ hs6a hc6a hB hl (by omega) (by omega)).mono ?_
      rintro e w7 ⟨d7, rfl, h70, h71, hs7, hg7⟩
      have r7 := r6a.grown hg7 (by omega)
      have q7 := q6a.grown hg7 (by omega)
      have t7 := t6.grown hg7 (by omega)
      have G7 := grown_trans G6a hg7
      obtain ⟨k7, rfl⟩ := Int.eq_ofNat_of_zero_le h70
      have hk7 : k7 < 3 := by omega
      obtain ⟨v, hv, hv0, hv1⟩ := three_at k7 hk7
      have hcell : w7.cell? ⟨w6.heap.size, k7, none⟩ = some (.int .i64 v) := by rw [t7.cell]; exact hv
      have hki7 : (k7 : Int) < 3 := by omega
      have hne : w.heap.size ≠ w4.heap.size := by omega
      obtain ⟨_, _, f2, f3⟩ := q7.two
      obtain ⟨e0, e1, _, _⟩ := Row.two (x := A) (y := v) (q7.set 1 (.int .i64 v))
      have r8 := r7.other 1 (.int .i64 v) hne
      obtain ⟨c0, c1, f0, f1⟩ := r8.two
      have s8 : Src (w7.setCell ⟨w4.heap.size, 1, none⟩ (.int .i64 v)) g a len cap := hs7.set (by omega)
      have G8 : w.grownBy (w7.setCell ⟨w4.heap.size, 1, none⟩ (.int .i64 v)) (some g) := grown_new G7 (by omega) _
      have HX : Hid (Src (w7.setCell ⟨w4.heap.size, 1, none⟩ (.int .i64 v)) g a len cap ∧ w.grownBy (w7.setCell ⟨w4.heap.size, 1, none⟩ (.int .i64 v)) (some g)) := ⟨s8, G8⟩
      clear hs6a hc6a r6a q6a t6 G6a hg7 t7 hv r7 q7 r8 s8 G8 G7 hs7
      go_wp2
      refine bodyPost_ret (v := .agg #[.int .i64 A, .int .i64 v]) (by simp [results, Try.results52, go_sem, c0, c1]) rfl ⟨A, v, rfl, by omega, by omega, by omega, by omega, ?_, ?_⟩
      · exact (HX.out.1.set (by omega)).set (by omega)
      · exact grown_new (grown_new HX.out.2 (Nat.le_refl _) _) (Nat.le_refl _) _
    · have hne : w.heap.size ≠ w4.heap.size := by omega
      obtain ⟨e2, e3, f2, f3⟩ := q6.two
      obtain ⟨e0, e1, _, _⟩ := Row.two (x := A + 1) (y := N) (q6.set 0 (.int .i64 (A + 1)))
      have r8 := r6.other 0 (.int .i64 (A + 1)) hne
      obtain ⟨c0, c1, f0, f1⟩ := r8.two
      have HX : Hid (Src (w6.setCell ⟨w4.heap.size, 0, none⟩ (.int .i64 (A + 1))) g a len cap ∧ w.grownBy (w6.setCell ⟨w4.heap.size, 0, none⟩ (.int .i64 (A + 1))) (some g)) := ⟨hs6.set (by omega), grown_new G6 (by omega) _⟩
      clear hs6 hc6 r6 q6 r8 G6
      go_wp2
      refine bodyPost_ret (v := .agg #[.int .i64 (A + 1), .int .i64 N]) (by simp [results, Try.results52, go_sem, c0, c1]) rfl ⟨A + 1, N, rfl, by omega, by omega, by omega, by omega, ?_, ?_⟩
      · exact (HX.out.1.set (by omega)).set (by omega)
      · exact grown_new (grown_new HX.out.2 (Nat.le_refl _) _) (Nat.le_refl _) _
    · go_wp2_with fail
      refine (drawAddr_any g a len cap B _ hs6 hc6 hB hl).mono ?_
      rintro e w7 ⟨v, rfl, hv0, hv1, hs7, hg7⟩
      have r7 := r6.grown hg7 (by omega)
      have q7 := q6.grown hg7 (by omega)
      have G7 := grown_trans G6 hg7
      have hne : w.heap.size ≠ w4.heap.size := by omega
      obtain ⟨e2, e3, f2, f3⟩ := q7.two
      obtain ⟨e0, e1, _, _⟩ := Row.two (x := v) (y := N) (q7.set 0 (.int .i64 v))
      have r8 := r7.other 0 (.int .i64 v) hne
      obtain ⟨c0, c1, f0, f1⟩ := r8.two
      have HX : Hid (Src (w7.setCell ⟨w4.heap.size, 0, none⟩ (.int .i64 v)) g a len cap ∧ w.grownBy (w7.setCell ⟨w4.heap.size, 0, none⟩ (.int .i64 v)) (some g)) := ⟨hs7.set (by omega), grown_new G7 (by omega) _⟩
      clear hs6 hc6 r6 q6 r8 G6 r7 q7 G7 hg7 hs7
      go_wp2
      refine bodyPost_ret (v := .agg #[.int .i64 v, .int .i64 N]) (by simp [results, Try.results52, go_sem, c0, c1]) rfl ⟨v, N, rfl, by omega, by omega, by omega, by omega, ?_, ?_⟩
      · exact (HX.out.1.set (by omega)).set (by omega)
      · exact grown_new (grown_new HX.out.2 (Nat.le_refl _) _) (Nat.le_refl _) _
end Go.Proofs.Ytchgnjpbjnkdmaa
