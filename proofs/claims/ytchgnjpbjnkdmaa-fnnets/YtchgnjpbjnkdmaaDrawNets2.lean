/- The draws of the law on nets. -/
import Derived.Test.YtchgnjpbjnkdmaaDrawNets
import Derived.Deep.RegionHeld3
namespace Go.Proofs.Ytchgnjpbjnkdmaa
open Go.RowKit Go.Sort

set_option maxRecDepth 100000 in
theorem drawNetOf_any (a : Option Addr) (len cap : Nat) (w : World) (hc : Code w.heap.size w a len) (hl : len ≤ 1048576) :
    Calls Try.prog 8 #[.slice a len cap] w fun e w' => ∃ x y : Int, e = .returned (.tuple #[.int .i64 x, .int .i64 y]) ∧ -1 ≤ x ∧ x ≤ 4294967296 ∧ -2 ≤ y ∧ y ≤ 34 ∧ Below w.heap.size w w' := by
  go_enter Try.func8, Try.ntmps8
  go_wp2_with fail
  refine (source_any a len cap _ hc hl).mono ?_
  rintro e w1 ⟨rfl, hs1, hb1⟩
  have hc1 := hc.below hb1
  go_wp2_with fail
  refine (drawAddr_any w.heap.size a len cap w.heap.size _ hs1 hc1 (Nat.le_refl _) hl).mono ?_
  rintro e w2 ⟨r, rfl, h0, h1, hs2, hg2⟩
  have hb2 := grown_of_below hb1 hg2 (Nat.le_refl _) (Nat.le_refl _)
  have hc2 := hc.below hb2
  clear hs1 hc1 hg2 hb1
  go_wp2_with fail
  refine (n_any w.heap.size a len cap w.heap.size 36 _ hs2 hc2 (Nat.le_refl _) hl (by omega) (by omega)).mono ?_
  rintro e w3 ⟨q, rfl, h2, h3, hs3, hg3⟩
  have hb3 := grown_of_below hb2 hg3 (Nat.le_refl _) (Nat.le_refl _)
  have hq : q < 36 := by omega
  clear hs2 hc2 hg3 hb2 hs3 h3 hc
  go_wp2
  go_ret2
  exact ⟨r, q - 2, rfl, h0, h1, by omega, by omega, hb3⟩
set_option maxRecDepth 100000 in
theorem drawHalves_any (a : Option Addr) (len cap : Nat) (w : World) (hc : Code w.heap.size w a len) (hl : len ≤ 1048576) :
    Calls Try.prog 12 #[.slice a len cap] w fun e w' => ∃ x y : Int, e = .returned (.agg #[.int .i64 x, .int .i64 y]) ∧ -1 ≤ x ∧ x ≤ 4294967296 ∧ -1 ≤ y ∧ y ≤ 33 ∧ Below w.heap.size w w' := by
  have hb0 : Below w.heap.size w (w.alloc (.cells (pair2 0 0).toArray 26)) := (Below.refl _ _).alloc (Nat.le_refl _) _
  have hc0 := (hc.below hb0).mono (B' := (w.alloc (.cells (pair2 0 0).toArray 26)).heap.size) (by simp)
  have r0 := Row.new w 26 (pair2 0 0)
  go_enter Try.func12, Try.ntmps12
  go_wp2_with fail
  refine (source_any a len cap _ hc0 hl).mono ?_
  rintro e w1 ⟨rfl, hs1, hb1⟩
  have hz : (w.alloc (.cells (pair2 0 0).toArray 26)).heap.size = w.heap.size + 1 := by simp
  have hB1 := hb0.trans (hb1.mono (by rw [hz]; omega))
  have r1 := r0.below hb1 r0.lt
  have hc1 := hc.below hB1
  rw [hz] at hs1
  go_wp2_with fail
  refine (drawNet_any (w.heap.size + 1) a len cap w.heap.size _ hs1 hc1 (by omega) hl).mono ?_
  rintro e w2 ⟨x, y, rfl, h0, h1, h2, h3, hs2, hg2⟩
  have hB2 := grown_of_below hB1 hg2 (Nat.le_refl _) (by omega)
  have r2 := r1.grown hg2 (by omega)
  obtain ⟨c0, c1, f0, f1⟩ := r2.two
  clear hs1 hc1 r1 r0 hb1 hB1 hc0 hc hg2 hb0 hs2 r2
  go_wp2
  refine bodyPost_ret (v := .agg #[.int .i64 x, .int .i64 y]) (by simp [results, Try.results12, go_sem, c0, c1]) rfl ⟨x, y, rfl, h0, h1, h2, h3, ?_⟩
  exact (hB2.setCell (Nat.le_refl _) _).setCell (Nat.le_refl _) _
theorem S2_of {w W : World} {b : Nat} {x y : Value} {g : Nat} (hb : w.grownBy W (some g)) (h0 : w.cell? ⟨b, 0, none⟩ = some x) (h1 : w.cell? ⟨b, 1, none⟩ = some y) (hne : b ≠ g) : W.cell? ⟨b, 0, none⟩ = some x ∧ W.cell? ⟨b, 1, none⟩ = some y := by
  have hl := World.block_lt_of_cell? w _ h0
  have hk := hb.block b hl (by simpa using hne)
  exact ⟨by rw [World.cell?_of_block (w := w) hk]; exact h0, by rw [World.cell?_of_block (w := w) hk]; exact h1⟩
theorem S2_set {W : World} {R b : Nat} {x y u v : Value} (hne : R ≠ b) (h : W.cell? ⟨b, 0, none⟩ = some x ∧ W.cell? ⟨b, 1, none⟩ = some y) : ((W.setCell ⟨R, 0, none⟩ u).setCell ⟨R, 1, none⟩ v).cell? ⟨b, 0, none⟩ = some x ∧ ((W.setCell ⟨R, 0, none⟩ u).setCell ⟨R, 1, none⟩ v).cell? ⟨b, 1, none⟩ = some y := by
  have n0 : ∀ i j : Nat, (⟨R, i, none⟩ : Addr) ≠ ⟨b, j, none⟩ := fun i j e => hne (by cases e; rfl)
  rw [World.cell?_setCell_other _ _ _ _ (n0 1 0), World.cell?_setCell_other _ _ _ _ (n0 0 0), World.cell?_setCell_other _ _ _ _ (n0 1 1), World.cell?_setCell_other _ _ _ _ (n0 0 1)]
  exact h
set_option maxRecDepth 100000 in
set_option maxHeartbeats 1000000 in
theorem drawCovers_any (a : Option Addr) (len cap : Nat) (w : World) (hc : Code w.heap.size w a len) (hl : len ≤ 1048576) :
    Calls Try.prog 10 #[.slice a len cap] w fun e w' => ∃ x y q : Int, e = .returned (.tuple #[.agg #[.int .i64 x, .int .i64 y], .int .i64 q]) ∧ -1 ≤ x ∧ x ≤ 4294967296 ∧ -1 ≤ y ∧ y ≤ 33 ∧ -1 ≤ q ∧ q ≤ 4294967296 ∧ Below w.heap.size w w' := by
  have hb0 : Below w.heap.size w (w.alloc (.cells (pair2 0 0).toArray 26)) := (Below.refl _ _).alloc (Nat.le_refl _) _
  have hc0 := (hc.below hb0).mono (B' := (w.alloc (.cells (pair2 0 0).toArray 26)).heap.size) (by simp)
  have r0 := Row.new w 26 (pair2 0 0)
  go_enter Try.func10, Try.ntmps10
  go_wp2_with fail
  refine (source_any a len cap _ hc0 hl).mono ?_
  rintro e w1 ⟨rfl, hs1, hb1⟩
  have hz : (w.alloc (.cells (pair2 0 0).toArray 26)).heap.size = w.heap.size + 1 := by simp
  have hB1 := hb0.trans (hb1.mono (by rw [hz]; omega))
  have r1 := r0.below hb1 r0.lt
  have hc1 := hc.below hB1
  rw [hz] at hs1
  go_wp2_with fail
  refine (drawNet_any (w.heap.size + 1) a len cap w.heap.size _ hs1 hc1 (by omega) hl).mono ?_
  rintro e w2 ⟨x, y, rfl, h0, h1, h2, h3, hs2, hg2⟩
  have hB2 := grown_of_below hB1 hg2 (Nat.le_refl _) (by omega)
  have r2 := r1.grown hg2 (by omega)
  have hgl := hs2.lt
  have hs3 := hs2.alloc (.cells (pair2 x y).toArray 26)
  have hB3 := hB2.alloc (hB2.size) (.cells (pair2 x y).toArray 26)
  have hc3 := hc.below hB3
  have r3 := r2.alloc (.cells (pair2 x y).toArray 26)
  obtain ⟨k0, k1, _, _⟩ := (Row.new w2 26 (pair2 x y)).two
  have HK : Hid ((w2.alloc (.cells (pair2 x y).toArray 26)).cell? ⟨w2.heap.size, 0, none⟩ = some (.int .i64 x) ∧ (w2.alloc (.cells (pair2 x y).toArray 26)).cell? ⟨w2.heap.size, 1, none⟩ = some (.int .i64 y)) := ⟨k0, k1⟩
  have HC : Hid (∀ n, Calls Try.prog 47 #[.pointer (some ⟨w.heap.size + 1, 0, none⟩)] ((w2.alloc (.cells (pair2 x y).toArray 26)).drewN n) fun e w' => ∃ r : Int, e = .returned (.int .i64 r) ∧ -1 ≤ r ∧ r ≤ 4294967296 ∧ Src w' (w.heap.size + 1) a len cap ∧ ((w2.alloc (.cells (pair2 x y).toArray 26)).drewN n).grownBy w' (some (w.heap.size + 1))) := fun n => drawAddr_any _ a len cap w.heap.size _ hs3 hc3 (by omega) hl
  have HNE : Hid (w2.heap.size ≠ w.heap.size + 1) := by show _ ≠ _; omega
  have HNR : Hid (w.heap.size ≠ w2.heap.size) := by show _ ≠ _; omega
  have HNG : Hid (w.heap.size ≠ w.heap.size + 1) := by show _ ≠ _; omega
  have HR3 : Hid (Row (w2.alloc (.cells (pair2 x y).toArray 26)) w.heap.size 26 (pair2 0 0)) := r3
  clear hs1 hc1 r1 r0 hb1 hB1 hc0 hg2 hb0 hs2 r2 hs3 hc3 k0 k1 r3
  go_wp2_with fail
  go_region_held3 (fun w' => w'.cell? ⟨w2.heap.size, 0, none⟩ = some (.int .i64 x) ∧ w'.cell? ⟨w2.heap.size, 1, none⟩ = some (.int .i64 y))
    (first
      | exact HK.out
      | exact S2_of hga HK.out.1 HK.out.2 HNE.out
      | exact S2_set HNR.out (S2_of hga HK.out.1 HK.out.2 HNE.out))
    (first
      | (go_at_call 47; refine (HC.out 1).mono ?_; rintro e wa ⟨q, rfl, h4, h5, hsa, hga⟩; have ra := (HR3.out.drewN 1).grown hga HNG.out; obtain ⟨c0, c1, f0, f1⟩ := ra.two))
  have hBa := grown_of_below (below_drewN hB3 1) hga (Nat.le_refl _) (by omega)
  have ra := (HR3.out.drewN 1).grown hga HNG.out
  obtain ⟨c0, c1, f0, f1⟩ := ra.two
  clear ra hga hsa hB3 hB2 hc
  go_wp2
  refine bodyPost_ret (v := .tuple #[.agg #[.int .i64 x, .int .i64 y], .int .i64 q]) (by simp [results, Try.results10, go_sem, c0, c1]) rfl ⟨x, y, q, rfl, h0, h1, h2, h3, h4, h5, ?_⟩
  exact (hBa.setCell (Nat.le_refl _) _).setCell (Nat.le_refl _) _
set_option maxRecDepth 100000 in
set_option maxHeartbeats 1000000 in
theorem drawLess_any (a : Option Addr) (len cap : Nat) (w : World) (hc : Code w.heap.size w a len) (hl : len ≤ 1048576) :
    Calls Try.prog 15 #[.slice a len cap] w fun e w' => ∃ x y u v : Int, e = .returned (.tuple #[.agg #[.int .i64 x, .int .i64 y], .agg #[.int .i64 u, .int .i64 v]]) ∧ -1 ≤ x ∧ x ≤ 4294967296 ∧ -1 ≤ y ∧ y ≤ 33 ∧ -1 ≤ u ∧ u ≤ 4294967296 ∧ -1 ≤ v ∧ v ≤ 33 ∧ Below w.heap.size w w' := by
  have hb0 : Below w.heap.size w ((w.alloc (.cells (pair2 0 0).toArray 26)).alloc (.cells (pair2 0 0).toArray 26)) := ((Below.refl _ _).alloc (Nat.le_refl _) _).alloc (by simp) _
  have hz : ((w.alloc (.cells (pair2 0 0).toArray 26)).alloc (.cells (pair2 0 0).toArray 26)).heap.size = w.heap.size + 2 := by simp
  have hc0 := (hc.below hb0).mono (B' := ((w.alloc (.cells (pair2 0 0).toArray 26)).alloc (.cells (pair2 0 0).toArray 26)).heap.size) (by omega)
  have r0 := (Row.new w 26 (pair2 0 0)).alloc (.cells (pair2 0 0).toArray 26)
  have p0 := Row.new (w.alloc (.cells (pair2 0 0).toArray 26)) 26 (pair2 0 0)
  rw [show (w.alloc (.cells (pair2 0 0).toArray 26)).heap.size = w.heap.size + 1 by simp] at p0
  go_enter Try.func15, Try.ntmps15
  go_wp2_with fail
  refine (source_any a len cap _ hc0 hl).mono ?_
  rintro e w1 ⟨rfl, hs1, hb1⟩
  have hB1 := hb0.trans (hb1.mono (by omega))
  have r1 := r0.below hb1 r0.lt
  have p1 := p0.below hb1 p0.lt
  have hc1 := hc.below hB1
  rw [hz] at hs1
  go_wp2_with fail
  refine (drawNet_any (w.heap.size + 2) a len cap w.heap.size _ hs1 hc1 (by omega) hl).mono ?_
  rintro e w2 ⟨x, y, rfl, h0, h1, h2, h3, hs2, hg2⟩
  have hB2 := grown_of_below hB1 hg2 (Nat.le_refl _) (by omega)
  have r2 := r1.grown hg2 (by omega)
  have p2 := p1.grown hg2 (by omega)
  have hgl := hs2.lt
  have hs3 := hs2.alloc (.cells (pair2 x y).toArray 26)
  have hB3 := hB2.alloc (hB2.size) (.cells (pair2 x y).toArray 26)
  have hc3 := hc.below hB3
  have r3 := r2.alloc (.cells (pair2 x y).toArray 26)
  have p3 := p2.alloc (.cells (pair2 x y).toArray 26)
  obtain ⟨k0, k1, _, _⟩ := (Row.new w2 26 (pair2 x y)).two
  have HK : Hid ((w2.alloc (.cells (pair2 x y).toArray 26)).cell? ⟨w2.heap.size, 0, none⟩ = some (.int .i64 x) ∧ (w2.alloc (.cells (pair2 x y).toArray 26)).cell? ⟨w2.heap.size, 1, none⟩ = some (.int .i64 y)) := ⟨k0, k1⟩
  have HC : Hid (∀ n, Calls Try.prog 52 #[.pointer (some ⟨w.heap.size + 2, 0, none⟩)] ((w2.alloc (.cells (pair2 x y).toArray 26)).drewN n) fun e w' => ∃ u v : Int, e = .returned (.agg #[.int .i64 u, .int .i64 v]) ∧ -1 ≤ u ∧ u ≤ 4294967296 ∧ -1 ≤ v ∧ v ≤ 33 ∧ Src w' (w.heap.size + 2) a len cap ∧ ((w2.alloc (.cells (pair2 x y).toArray 26)).drewN n).grownBy w' (some (w.heap.size + 2))) := fun n => drawNet_any _ a len cap w.heap.size _ hs3 hc3 (by omega) hl
  have HNE : Hid (w2.heap.size ≠ w.heap.size + 2) := by show _ ≠ _; omega
  have HNR : Hid (w.heap.size ≠ w2.heap.size) := by show _ ≠ _; omega
  have HNP : Hid (w.heap.size + 1 ≠ w2.heap.size) := by show _ ≠ _; omega
  have HNG : Hid (w.heap.size ≠ w.heap.size + 2) := by show _ ≠ _; omega
  have HNQ : Hid (w.heap.size + 1 ≠ w.heap.size + 2) := by show _ ≠ _; omega
  have HR3 : Hid (Row (w2.alloc (.cells (pair2 x y).toArray 26)) w.heap.size 26 (pair2 0 0)) := r3
  have HP3 : Hid (Row (w2.alloc (.cells (pair2 x y).toArray 26)) (w.heap.size + 1) 26 (pair2 0 0)) := p3
  clear hs1 hc1 r1 r0 hb1 hB1 hc0 hg2 hb0 hs2 r2 hs3 hc3 k0 k1 r3 p0 p1 p2 p3
  go_wp2_with fail
  go_region_held3 (fun w' => w'.cell? ⟨w2.heap.size, 0, none⟩ = some (.int .i64 x) ∧ w'.cell? ⟨w2.heap.size, 1, none⟩ = some (.int .i64 y))
    (first
      | exact HK.out
      | exact S2_of hga HK.out.1 HK.out.2 HNE.out
      | exact S2_set HNR.out (S2_of hga HK.out.1 HK.out.2 HNE.out)
      | exact S2_set HNP.out (S2_of hga HK.out.1 HK.out.2 HNE.out)
      | exact S2_set HNP.out (S2_set HNR.out (S2_of hga HK.out.1 HK.out.2 HNE.out))
      | exact S2_set HNR.out (S2_set HNP.out (S2_of hga HK.out.1 HK.out.2 HNE.out)))
    (first
      | (go_at_call 52; refine (HC.out 1).mono ?_; rintro e wa ⟨u, v, rfl, h4, h5, h6, h7, hsa, hga⟩; have ra := (HR3.out.drewN 1).grown hga HNG.out; obtain ⟨c0, c1, f0, f1⟩ := ra.two; have pa := (HP3.out.drewN 1).grown hga HNQ.out; obtain ⟨d0, d1, g0, g1⟩ := pa.two))
  all_goals
    have hBa := grown_of_below (below_drewN hB3 1) hga (Nat.le_refl _) (by omega)
    have ra := (HR3.out.drewN 1).grown hga HNG.out
    have pa := (HP3.out.drewN 1).grown hga HNQ.out
    obtain ⟨c0, c1, f0, f1⟩ := ra.two
    obtain ⟨d0, d1, g0, g1⟩ := pa.two
    clear ra pa hga hsa hB3 hB2 hc
    go_wp2
    refine bodyPost_ret (v := .tuple #[.agg #[.int .i64 x, .int .i64 y], .agg #[.int .i64 u, .int .i64 v]]) (by simp [results, Try.results15, go_sem, c0, c1, d0, d1]) rfl ⟨x, y, u, v, rfl, h0, h1, h2, h3, h4, h5, h6, h7, ?_⟩
    exact (((hBa.setCell (Nat.le_refl _) _).setCell (Nat.le_refl _) _).setCell (Nat.le_succ _) _).setCell (Nat.le_succ _) _
set_option maxRecDepth 100000 in
theorem drawWithin_any (a : Option Addr) (len cap : Nat) (w : World) (hc : Code w.heap.size w a len) (hl : len ≤ 1048576) :
    Calls Try.prog 11 #[.slice a len cap] w fun e w' => ∃ x y u v : Int, e = .returned (.tuple #[.agg #[.int .i64 x, .int .i64 y], .agg #[.int .i64 u, .int .i64 v]]) ∧ -1 ≤ x ∧ x ≤ 4294967296 ∧ -1 ≤ y ∧ y ≤ 33 ∧ -1 ≤ u ∧ u ≤ 4294967296 ∧ -1 ≤ v ∧ v ≤ 33 ∧ Below w.heap.size w w' := by
  have hb0 : Below w.heap.size w ((w.alloc (.cells (pair2 0 0).toArray 26)).alloc (.cells (pair2 0 0).toArray 26)) := ((Below.refl _ _).alloc (Nat.le_refl _) _).alloc (by simp) _
  have hz : ((w.alloc (.cells (pair2 0 0).toArray 26)).alloc (.cells (pair2 0 0).toArray 26)).heap.size = w.heap.size + 2 := by simp
  have hc0 := (hc.below hb0).mono (B' := ((w.alloc (.cells (pair2 0 0).toArray 26)).alloc (.cells (pair2 0 0).toArray 26)).heap.size) (by omega)
  have r0 := (Row.new w 26 (pair2 0 0)).alloc (.cells (pair2 0 0).toArray 26)
  have p0 := Row.new (w.alloc (.cells (pair2 0 0).toArray 26)) 26 (pair2 0 0)
  rw [show (w.alloc (.cells (pair2 0 0).toArray 26)).heap.size = w.heap.size + 1 by simp] at p0
  go_enter Try.func11, Try.ntmps11
  go_wp2_with fail
  refine (drawLess_any a len cap _ hc0 hl).mono ?_
  rintro e w1 ⟨x, y, u, v, rfl, h0, h1, h2, h3, h4, h5, h6, h7, hb1⟩
  have hB1 := hb0.trans (hb1.mono (by omega))
  have r1 := r0.below hb1 r0.lt
  have p1 := p0.below hb1 p0.lt
  obtain ⟨c0, c1, f0, f1⟩ := r1.two
  obtain ⟨d0, d1, g0, g1⟩ := p1.two
  have hne : ¬ w.heap.size + 1 = w.heap.size := by omega
  have hne2 : ¬ w.heap.size = w.heap.size + 1 := by omega
  clear r0 p0 r1 p1 hb0 hc0 hb1 hc
  go_wp2
  refine bodyPost_ret (v := .tuple #[.agg #[.int .i64 x, .int .i64 y], .agg #[.int .i64 u, .int .i64 v]]) (by simp [results, Try.results11, go_sem, c0, c1, d0, d1]) rfl ⟨x, y, u, v, rfl, h0, h1, h2, h3, h4, h5, h6, h7, ?_⟩
  exact (((hB1.setCell (Nat.le_refl _) _).setCell (Nat.le_refl _) _).setCell (Nat.le_succ _) _).setCell (Nat.le_succ _) _
end Go.Proofs.Ytchgnjpbjnkdmaa
