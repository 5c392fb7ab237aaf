/- The draws of the law on datagrams and frames: frames, and the whole draws. -/
import Derived.Test.YtchgnjpbjnkdmaaDrawWire
namespace Go.Proofs.Ytchgnjpbjnkdmaa
open Go.RowKit

theorem dgO_small (s d sp dp ttl : Int) (t : ByteArray) : (dgO s d sp dp ttl t).size ≤ 328 := by
  unfold dgO
  split
  · rename_i h
    rw [dgT_size]
    have := (dgB_spec h).2.2.2.2.2
    omega
  · decide
theorem frO_small (v : Int) (t : ByteArray) : (frO v t).size ≤ 1018 := by
  unfold frO
  split
  · rename_i h
    have hz : (frT v t).size = 18 + t.size := by
      show (frL v t.data.toList).toArray.size = _
      rw [List.size_toArray, frL_length]; simp
    have := (frB_spec h).2.2
    omega
  · decide
set_option maxRecDepth 100000 in
set_option maxHeartbeats 8000000 in
theorem wrapped_any (g : Nat) (a : Option Addr) (len cap B : Nat) (w : World) (hs : Src w g a len cap) (hc : Code B w a len) (hB : B ≤ g) (hl : len ≤ 1048576) :
    Calls Try.prog 60 #[.pointer (some ⟨g, 0, none⟩)] w fun e w' => ∃ (v : Int) (t : ByteArray), e = .returned (.agg #[.int .i64 v, .string t]) ∧ t.size ≤ 1100 ∧ Src w' g a len cap ∧ w.grownBy w' (some g) := by
  have hgw := hs.lt
  have hs0 := hs.alloc (.cells #[.int .i64 0, .string ⟨#[]⟩] 43)
  have hc0 := hc.alloc (.cells #[.int .i64 0, .string ⟨#[]⟩] 43) (by omega)
  have r0 := Row.new w 43 [.int .i64 0, .string ⟨#[]⟩]
  have G0 : w.grownBy (w.alloc (.cells #[.int .i64 0, .string ⟨#[]⟩] 43)) (some g) := World.grownBy_alloc w _ _
  have z0 : w.heap.size < (w.alloc (.cells #[.int .i64 0, .string ⟨#[]⟩] 43)).heap.size := by simp
  clear hs hc
  go_enter Try.func60, Try.ntmps60
  go_wp2_with fail
  refine (n_any g a len cap B 9 _ hs0 hc0 hB hl (by omega) (by omega)).mono ?_
  rintro e w1 ⟨vl, rfl, hv0, hv1, hs1, hg1⟩
  have hc1 := hc0.grown hg1 hB (by omega)
  have r1 := r0.grown hg1 (by omega)
  have G1 := grown_trans G0 hg1
  have z1 := G1.size
  have hv2 : vl < 9 := by omega
  have hwv := wrap_i64_in (1 + vl) (by omega) (by omega)
  clear hv1
  clear hs0 hc0 r0 G0 hg1
  go_wp2_with fail
  refine (some_any g a len cap B _ hs1 hc1 hB hl).mono ?_
  rintro e w2 ⟨s, d, sp, dp, ttl, t, rfl, htz, hs2, hg2⟩
  have hc2 := hc1.grown hg2 hB (by omega)
  have r2 := r1.grown hg2 (by omega)
  have G2 := grown_trans G1 hg2
  have z2 := G2.size
  clear hs1 hc1 r1 G1 hg2
  have hds : (dgO s d sp dp ttl t).size ≤ 328 := dgO_small s d sp dp ttl t
  go_wp2_with fail
  refine (specDgramBytes_any s d sp dp ttl t _).mono ?_
  rintro e w3 ⟨rfl, hb3⟩
  generalize dgO s d sp dp ttl t = TT at *
  have hs3 := hs2.below hb3
  have hc3 := hc2.below (hb3.mono (by omega))
  have r3 := r2.below hb3 r2.lt
  have G3 := grown_below G2 (hb3.mono (by omega))
  have z3 := G3.size
  have zs3 := r3.lt
  have hs6 := hs3.alloc (.cells #[.int .i64 (1 + vl), .string TT] 43)
  have hc6 := hc3.alloc (.cells #[.int .i64 (1 + vl), .string TT] 43) (by omega)
  have r6 := r3.alloc (.cells #[.int .i64 (1 + vl), .string TT] 43)
  have p6 := Row.new w3 43 [.int .i64 (1 + vl), .string TT]
  have G6 := grown_alloc G3 (.cells #[.int .i64 (1 + vl), .string TT] 43)
  have z6 : w3.heap.size < (w3.alloc (.cells #[.int .i64 (1 + vl), .string TT] 43)).heap.size := by simp
  clear hs3 hc3 r3 G3 hb3 hs2 hc2 r2 G2
  go_wp2_with fail
  refine (one_any g a len cap B 10 _ hs6 hc6 hB hl (by omega) (by omega)).mono ?_
  rintro e w7 ⟨q, rfl, hs7, hg7⟩
  have hc7 := hc6.grown hg7 hB (by omega)
  have r7 := r6.grown hg7 (by omega)
  have p7 := p6.grown hg7 (by omega)
  have G7 := grown_trans G6 hg7
  have z7 := hg7.size
  clear hs6 hc6 r6 p6 G6 hg7
  cases q
  · skip
    go_wp2_with fail
    refine (one_any g a len cap B 25 _ hs7 hc7 hB hl (by omega) (by omega)).mono ?_
    rintro e wc ⟨q, rfl, hsc, hgc⟩
    have hcc := hc7.grown hgc hB (by first | omega | (simp; omega))
    have rc := r7.grown hgc (by omega)
    have pc := p7.grown hgc (by omega)
    have Gc := grown_trans G7 hgc
    have zc := Gc.size
    clear hs7 hc7 r7 p7 G7 hgc
    cases q
    · clear hcc
      have s0 : wc.cell? ⟨w3.heap.size, 0, none⟩ = some (.int .i64 (1 + vl)) := pc.cell 0
      have s1 : wc.cell? ⟨w3.heap.size, 1, none⟩ = some (.string TT) := pc.cell 1
      have z0 : wc.cell? ⟨w.heap.size, 0, none⟩ = some (.int .i64 0) := rc.cell 0
      have z1 : wc.cell? ⟨w.heap.size, 1, none⟩ = some (.string ⟨#[]⟩) := rc.cell 1
      have f0 := rc.frozen 0
      have f1 := rc.frozen 1
      have hfs := hsc
      have hfg := Gc
      clear pc rc
      go_wp2_with fail
      refine bodyPost_ret (v := .agg #[.int .i64 (1 + vl), .string TT]) (by simp [results, Try.results60, go_sem, z0, z1]) rfl ⟨(1 + vl), TT, rfl, by omega, ?_, ?_⟩
      · exact (hfs.set (by omega)).set (by omega)
      · exact grown_new (grown_new hfg (Nat.le_refl _) _) (Nat.le_refl _) _
    · go_wp2_with fail
      refine (n_any g a len cap B 2 _ hsc hcc hB hl (by omega) (by omega)).mono ?_
      rintro e wd ⟨j, rfl, hj0, hj1, hsd, hgd⟩
      obtain ⟨J, rfl⟩ := Int.eq_ofNat_of_zero_le hj0
      have hJ : J < 2 := by omega
      have rd := rc.grown hgd (by omega)
      have pd := pc.grown hgd (by omega)
      have Gd := grown_trans Gc hgd
      have zd := Gd.size
      have hwj := wrap_i64_in (1000 + (J : Int)) (by omega) (by omega)
      obtain ⟨we, hrun, hre, hbe⟩ := make_bytes_run wd (1000 + J) (by omega)
      rw [show ((1000 + J : Nat) : Int) = 1000 + (J : Int) by omega] at hrun
      have hconv := hre.conv (zerosT (1000 + J)) (by simp [zerosT]) (n := 1000 + J) (by rw [zerosT_size]) (by omega)
      have hzz := zerosT_size (1000 + J)
      generalize zerosT (1000 + J) = ZT at *
      have rf := rd.below hbe rd.lt
      have pf := pd.below hbe pd.lt
      have hse := hsd.below hbe
      have Ge : w.grownBy we (some g) := grown_below Gd (hbe.mono (by omega))
      have pk : we.cell? ⟨w3.heap.size, 1, none⟩ = some (.string TT) := pf.cell 1
      have pz := pf.frozen 1
      have pg : Row (we.setCell ⟨w3.heap.size, 1, none⟩ (.string ZT)) w3.heap.size 43 [.int .i64 (1 + vl), .string ZT] := pf.set 1 _
      have rg := rf.other 1 (.string ZT) (g' := w3.heap.size) (by omega)
      have hsg : Src (we.setCell ⟨w3.heap.size, 1, none⟩ (.string ZT)) g a len cap := hse.set (by omega)
      have Gg : w.grownBy (we.setCell ⟨w3.heap.size, 1, none⟩ (.string ZT)) (some g) := grown_new Ge (by omega) _
      clear hsc hcc rc pc Gc hgd hj1 hj0 rd pd hsd Gd rf pf hse Ge hre hbe
      have s0 : (we.setCell ⟨w3.heap.size, 1, none⟩ (.string ZT)).cell? ⟨w3.heap.size, 0, none⟩ = some (.int .i64 (1 + vl)) := pg.cell 0
      have s1 : (we.setCell ⟨w3.heap.size, 1, none⟩ (.string ZT)).cell? ⟨w3.heap.size, 1, none⟩ = some (.string ZT) := pg.cell 1
      have z0 : (we.setCell ⟨w3.heap.size, 1, none⟩ (.string ZT)).cell? ⟨w.heap.size, 0, none⟩ = some (.int .i64 0) := rg.cell 0
      have z1 : (we.setCell ⟨w3.heap.size, 1, none⟩ (.string ZT)).cell? ⟨w.heap.size, 1, none⟩ = some (.string ⟨#[]⟩) := rg.cell 1
      have f0 := rg.frozen 0
      have f1 := rg.frozen 1
      have hfs := hsg
      have hfg := Gg
      clear pg rg
      go_wp2_with fail
      refine bodyPost_ret (v := .agg #[.int .i64 (1 + vl), .string ZT]) (by simp [results, Try.results60, go_sem, z0, z1]) rfl ⟨(1 + vl), ZT, rfl, by omega, ?_, ?_⟩
      · exact (hfs.set (by omega)).set (by omega)
      · exact grown_new (grown_new hfg (Nat.le_refl _) _) (Nat.le_refl _) _
  · have hs9 := hs7.alloc (.cells #[.int .i64 0, .int .i64 4094, .int .i64 4095] 2)
    have hc9 := hc7.alloc (.cells #[.int .i64 0, .int .i64 4094, .int .i64 4095] 2) (by omega)
    have r9 := r7.alloc (.cells #[.int .i64 0, .int .i64 4094, .int .i64 4095] 2)
    have p9 := p7.alloc (.cells #[.int .i64 0, .int .i64 4094, .int .i64 4095] 2)
    have y9 : Row (w7.alloc (.cells #[.int .i64 0, .int .i64 4094, .int .i64 4095] 2)) w7.heap.size 2 (([0, 4094, 4095] : List Int).map (Value.int .i64)) := Row.new w7 2 _
    have G9 := grown_alloc G7 (.cells #[.int .i64 0, .int .i64 4094, .int .i64 4095] 2)
    have z9 : w7.heap.size < (w7.alloc (.cells #[.int .i64 0, .int .i64 4094, .int .i64 4095] 2)).heap.size := by simp
    clear hs7 hc7 r7 p7 G7
    go_wp2_with fail
    refine (n_any g a len cap B 3 _ hs9 hc9 hB hl (by omega) (by omega)).mono ?_
    rintro e wa ⟨j, rfl, hj0, hj1, hsa, hga⟩
    obtain ⟨J, rfl⟩ := Int.eq_ofNat_of_zero_le hj0
    have hJ : J < 3 := by omega
    obtain ⟨v, hv⟩ := row_at [0, 4094, 4095] J hJ
    have hca := hc9.grown hga hB (by omega)
    have ra := r9.grown hga (by omega)
    have pa := p9.grown hga (by omega)
    have ya := (y9.grown hga (by omega)).cell J
    rw [hv] at ya
    have Ga := grown_trans G9 hga
    have za := Ga.size
    have hJi : (J : Int) < 3 := by omega
    have pk0 : wa.cell? ⟨w3.heap.size, 0, none⟩ = some (.int .i64 (1 + vl)) := pa.cell 0
    have pz0 := pa.frozen 0
    have pb : Row (wa.setCell ⟨w3.heap.size, 0, none⟩ (.int .i64 v)) w3.heap.size 43 [.int .i64 v, .string TT] := pa.set 0 _
    have rb := ra.other 0 (.int .i64 v) (g' := w3.heap.size) (by omega)
    have hsb : Src (wa.setCell ⟨w3.heap.size, 0, none⟩ (.int .i64 v)) g a len cap := hsa.set (by omega)
    have hcb : Code B (wa.setCell ⟨w3.heap.size, 0, none⟩ (.int .i64 v)) a len := hca.below ((Below.refl B wa).setCell (show B ≤ w3.heap.size by omega) _)
    have Gb : w.grownBy (wa.setCell ⟨w3.heap.size, 0, none⟩ (.int .i64 v)) (some g) := grown_new Ga (by omega) _
    clear hs9 hc9 r9 p9 y9 G9 hga hj1 hj0 hv ra pa hsa Ga hca
    go_wp2_with fail
    refine (one_any g a len cap B 25 _ hsb hcb hB hl (by omega) (by omega)).mono ?_
    rintro e wc ⟨q, rfl, hsc, hgc⟩
    have hcc := hcb.grown hgc hB (by first | omega | (simp; omega))
    have rc := rb.grown hgc (by omega)
    have pc := pb.grown hgc (by omega)
    have Gc := grown_trans Gb hgc
    have zc := Gc.size
    clear hsb hcb rb pb Gb hgc
    cases q
    · clear hcc
      have s0 : wc.cell? ⟨w3.heap.size, 0, none⟩ = some (.int .i64 v) := pc.cell 0
      have s1 : wc.cell? ⟨w3.heap.size, 1, none⟩ = some (.string TT) := pc.cell 1
      have z0 : wc.cell? ⟨w.heap.size, 0, none⟩ = some (.int .i64 0) := rc.cell 0
      have z1 : wc.cell? ⟨w.heap.size, 1, none⟩ = some (.string ⟨#[]⟩) := rc.cell 1
      have f0 := rc.frozen 0
      have f1 := rc.frozen 1
      have hfs := hsc
      have hfg := Gc
      clear pc rc
      go_wp2_with fail
      refine bodyPost_ret (v := .agg #[.int .i64 v, .string TT]) (by simp [results, Try.results60, go_sem, z0, z1]) rfl ⟨v, TT, rfl, by omega, ?_, ?_⟩
      · exact (hfs.set (by omega)).set (by omega)
      · exact grown_new (grown_new hfg (Nat.le_refl _) _) (Nat.le_refl _) _
    · go_wp2_with fail
      refine (n_any g a len cap B 2 _ hsc hcc hB hl (by omega) (by omega)).mono ?_
      rintro e wd ⟨j, rfl, hj0, hj1, hsd, hgd⟩
      obtain ⟨J, rfl⟩ := Int.eq_ofNat_of_zero_le hj0
      have hJ : J < 2 := by omega
      have rd := rc.grown hgd (by omega)
      have pd := pc.grown hgd (by omega)
      have Gd := grown_trans Gc hgd
      have zd := Gd.size
      have hwj := wrap_i64_in (1000 + (J : Int)) (by omega) (by omega)
      obtain ⟨we, hrun, hre, hbe⟩ := make_bytes_run wd (1000 + J) (by omega)
      rw [show ((1000 + J : Nat) : Int) = 1000 + (J : Int) by omega] at hrun
      have hconv := hre.conv (zerosT (1000 + J)) (by simp [zerosT]) (n := 1000 + J) (by rw [zerosT_size]) (by omega)
      have hzz := zerosT_size (1000 + J)
      generalize zerosT (1000 + J) = ZT at *
      have rf := rd.below hbe rd.lt
      have pf := pd.below hbe pd.lt
      have hse := hsd.below hbe
      have Ge : w.grownBy we (some g) := grown_below Gd (hbe.mono (by omega))
      have pk : we.cell? ⟨w3.heap.size, 1, none⟩ = some (.string TT) := pf.cell 1
      have pz := pf.frozen 1
      have pg : Row (we.setCell ⟨w3.heap.size, 1, none⟩ (.string ZT)) w3.heap.size 43 [.int .i64 v, .string ZT] := pf.set 1 _
      have rg := rf.other 1 (.string ZT) (g' := w3.heap.size) (by omega)
      have hsg : Src (we.setCell ⟨w3.heap.size, 1, none⟩ (.string ZT)) g a len cap := hse.set (by omega)
      have Gg : w.grownBy (we.setCell ⟨w3.heap.size, 1, none⟩ (.string ZT)) (some g) := grown_new Ge (by omega) _
      clear hsc hcc rc pc Gc hgd hj1 hj0 rd pd hsd Gd rf pf hse Ge hre hbe
      have s0 : (we.setCell ⟨w3.heap.size, 1, none⟩ (.string ZT)).cell? ⟨w3.heap.size, 0, none⟩ = some (.int .i64 v) := pg.cell 0
      have s1 : (we.setCell ⟨w3.heap.size, 1, none⟩ (.string ZT)).cell? ⟨w3.heap.size, 1, none⟩ = some (.string ZT) := pg.cell 1
      have z0 : (we.setCell ⟨w3.heap.size, 1, none⟩ (.string ZT)).cell? ⟨w.heap.size, 0, none⟩ = some (.int .i64 0) := rg.cell 0
      have z1 : (we.setCell ⟨w3.heap.size, 1, none⟩ (.string ZT)).cell? ⟨w.heap.size, 1, none⟩ = some (.string ⟨#[]⟩) := rg.cell 1
      have f0 := rg.frozen 0
      have f1 := rg.frozen 1
      have hfs := hsg
      have hfg := Gg
      clear pg rg
      go_wp2_with fail
      refine bodyPost_ret (v := .agg #[.int .i64 v, .string ZT]) (by simp [results, Try.results60, go_sem, z0, z1]) rfl ⟨v, ZT, rfl, by omega, ?_, ?_⟩
      · exact (hfs.set (by omega)).set (by omega)
      · exact grown_new (grown_new hfg (Nat.le_refl _) _) (Nat.le_refl _) _
set_option maxRecDepth 100000 in
set_option maxHeartbeats 2000000 in
theorem drawDgramBytes_any (a : Option Addr) (len cap : Nat) (w : World) (hc : Code w.heap.size w a len) (hl : len ≤ 1048576) :
    Calls Try.prog 25 #[.slice a len cap] w fun e w' => ∃ (s d sp dp ttl : Int) (t : ByteArray), e = .returned (.agg #[.int .i64 s, .int .i64 d, .int .i64 sp, .int .i64 dp, .int .i64 ttl, .string t]) ∧ t.size ≤ 400 ∧ Below w.heap.size w w' := by
  have hb0 : Below w.heap.size w (w.alloc (.cells #[.int .i64 0, .int .i64 0, .int .i64 0, .int .i64 0, .int .i64 0, .string ⟨#[]⟩] 40)) := new_w _ _
  have hc0 := (hc.below hb0).mono (B' := (w.alloc (.cells #[.int .i64 0, .int .i64 0, .int .i64 0, .int .i64 0, .int .i64 0, .string ⟨#[]⟩] 40)).heap.size) (by simp)
  have r0 := Row.new w 40 [.int .i64 0, .int .i64 0, .int .i64 0, .int .i64 0, .int .i64 0, .string ⟨#[]⟩]
  go_enter Try.func25, Try.ntmps25
  go_wp2_with fail
  refine (source_any a len cap _ hc0 hl).mono ?_
  rintro e w1 ⟨rfl, hs1, hb1⟩
  have hz : (w.alloc (.cells #[.int .i64 0, .int .i64 0, .int .i64 0, .int .i64 0, .int .i64 0, .string ⟨#[]⟩] 40)).heap.size = w.heap.size + 1 := by simp
  have hB1 := hb0.trans (hb1.mono (by rw [hz]; omega))
  have r1 := r0.below hb1 r0.lt
  have hc1 := hc.below hB1
  rw [hz] at hs1
  go_wp2_with fail
  refine (some_any (w.heap.size + 1) a len cap w.heap.size _ hs1 hc1 (by omega) hl).mono ?_
  rintro e w2 ⟨s, d, sp, dp, ttl, t, rfl, htz, hs2, hg2⟩
  have hB2 := grown_of_below hB1 hg2 (Nat.le_refl _) (by omega)
  have r2 := r1.grown hg2 (by omega)
  have z0 : w2.cell? ⟨w.heap.size, 0, none⟩ = some (.int .i64 0) := r2.cell 0
  have z1 : w2.cell? ⟨w.heap.size, 1, none⟩ = some (.int .i64 0) := r2.cell 1
  have z2 : w2.cell? ⟨w.heap.size, 2, none⟩ = some (.int .i64 0) := r2.cell 2
  have z3 : w2.cell? ⟨w.heap.size, 3, none⟩ = some (.int .i64 0) := r2.cell 3
  have z4 : w2.cell? ⟨w.heap.size, 4, none⟩ = some (.int .i64 0) := r2.cell 4
  have z5 : w2.cell? ⟨w.heap.size, 5, none⟩ = some (.string ⟨#[]⟩) := r2.cell 5
  have f0 := r2.frozen 0
  have f1 := r2.frozen 1
  have f2 := r2.frozen 2
  have f3 := r2.frozen 3
  have f4 := r2.frozen 4
  have f5 := r2.frozen 5
  clear hs1 hc1 r1 r0 hb1 hB1 hc0 hc hg2 hb0 hs2 r2
  go_wp2_with fail
  refine bodyPost_ret (v := .agg #[.int .i64 s, .int .i64 d, .int .i64 sp, .int .i64 dp, .int .i64 ttl, .string t]) (by simp [results, Try.results25, go_sem, z0, z1, z2, z3, z4, z5]) rfl ⟨s, d, sp, dp, ttl, t, rfl, htz, ?_⟩
  exact (((((hB2.setCell (Nat.le_refl _) _).setCell (Nat.le_refl _) _).setCell (Nat.le_refl _) _).setCell (Nat.le_refl _) _).setCell (Nat.le_refl _) _).setCell (Nat.le_refl _) _
set_option maxRecDepth 100000 in
set_option maxHeartbeats 2000000 in
theorem drawFrameBytes_any (a : Option Addr) (len cap : Nat) (w : World) (hc : Code w.heap.size w a len) (hl : len ≤ 1048576) :
    Calls Try.prog 26 #[.slice a len cap] w fun e w' => ∃ (v : Int) (t : ByteArray), e = .returned (.agg #[.int .i64 v, .string t]) ∧ t.size ≤ 1100 ∧ Below w.heap.size w w' := by
  have hb0 : Below w.heap.size w (w.alloc (.cells #[.int .i64 0, .string ⟨#[]⟩] 43)) := new_w _ _
  have hc0 := (hc.below hb0).mono (B' := (w.alloc (.cells #[.int .i64 0, .string ⟨#[]⟩] 43)).heap.size) (by simp)
  have r0 := Row.new w 43 [.int .i64 0, .string ⟨#[]⟩]
  go_enter Try.func26, Try.ntmps26
  go_wp2_with fail
  refine (source_any a len cap _ hc0 hl).mono ?_
  rintro e w1 ⟨rfl, hs1, hb1⟩
  have hz : (w.alloc (.cells #[.int .i64 0, .string ⟨#[]⟩] 43)).heap.size = w.heap.size + 1 := by simp
  have hB1 := hb0.trans (hb1.mono (by rw [hz]; omega))
  have r1 := r0.below hb1 r0.lt
  have hc1 := hc.below hB1
  rw [hz] at hs1
  go_wp2_with fail
  refine (wrapped_any (w.heap.size + 1) a len cap w.heap.size _ hs1 hc1 (by omega) hl).mono ?_
  rintro e w2 ⟨v, t, rfl, htz, hs2, hg2⟩
  have hB2 := grown_of_below hB1 hg2 (Nat.le_refl _) (by omega)
  have r2 := r1.grown hg2 (by omega)
  have z0 : w2.cell? ⟨w.heap.size, 0, none⟩ = some (.int .i64 0) := r2.cell 0
  have z1 : w2.cell? ⟨w.heap.size, 1, none⟩ = some (.string ⟨#[]⟩) := r2.cell 1
  have f0 := r2.frozen 0
  have f1 := r2.frozen 1
  clear hs1 hc1 r1 r0 hb1 hB1 hc0 hc hg2 hb0 hs2 r2
  go_wp2_with fail
  refine bodyPost_ret (v := .agg #[.int .i64 v, .string t]) (by simp [results, Try.results26, go_sem, z0, z1]) rfl ⟨v, t, rfl, htz, ?_⟩
  exact (hB2.setCell (Nat.le_refl _) _).setCell (Nat.le_refl _) _
set_option maxRecDepth 100000 in
set_option maxHeartbeats 2000000 in
theorem drawDgramRead_any (a : Option Addr) (len cap : Nat) (w : World) (hc : Code w.heap.size w a len) (hl : len ≤ 1048576) :
    Calls Try.prog 29 #[.slice a len cap] w fun e w' => ∃ t : ByteArray, e = .returned (.string t) ∧ t.size ≤ 2000 ∧ Below w.heap.size w w' := by
  go_enter Try.func29, Try.ntmps29
  go_wp2_with fail
  refine (source_any a len cap _ hc hl).mono ?_
  rintro e w1 ⟨rfl, hs1, hb1⟩
  have hc1 := hc.below hb1
  go_wp2_with fail
  refine (some_any w.heap.size a len cap w.heap.size _ hs1 hc1 (Nat.le_refl _) hl).mono ?_
  rintro e w2 ⟨s, d, sp, dp, ttl, t, rfl, htz, hs2, hg2⟩
  have hb2 := grown_of_below hb1 hg2 (Nat.le_refl _) (Nat.le_refl _)
  clear hs1 hc1 hg2 hb1
  go_wp2_with fail
  refine (specDgramBytes_any s d sp dp ttl t _).mono ?_
  rintro e w3 ⟨rfl, hb3⟩
  have hT := dgO_small s d sp dp ttl t
  generalize dgO s d sp dp ttl t = T at *
  have hs3 := hs2.below hb3
  have hB3 := hb2.trans (hb3.mono hb2.size)
  have hc3 := hc.below hB3
  clear hs2 hb2 hb3
  go_wp2_with fail
  refine (n_any w.heap.size a len cap w.heap.size 4 _ hs3 hc3 (Nat.le_refl _) hl (by omega) (by omega)).mono ?_
  rintro e w4 ⟨q, rfl, h4, h5, hs4, hg4⟩
  have hb4 := grown_of_below hB3 hg4 (Nat.le_refl _) (Nat.le_refl _)
  have hc4 := hc.below hb4
  clear hs3 hc3 hg4 hB3
  by_cases q0 : q = 0
  · subst q0
    go_wp2_with fail
    refine (spoil_any w.heap.size a len cap w.heap.size T _ hs4 hc4 (Nat.le_refl _) hl (by omega)).mono ?_
    rintro e w5 ⟨R, rfl, hR, hs5, hg5⟩
    have hb5 := grown_of_below hb4 hg5 (Nat.le_refl _) (Nat.le_refl _)
    clear hs4 hc4 hg5 hb4 hs5
    go_wp2
    go_ret
    exact ⟨R, rfl, by omega, hb5⟩
  · have q0b : (q == 0) = false := by simpa using q0
    by_cases q1 : q = 1
    · subst q1
      have hwT := wrap_i64_in ((T.size : Int) + 1) (by omega) (by omega)
      go_wp2_with fail
      refine (n_any w.heap.size a len cap w.heap.size ((T.size : Int) + 1) _ hs4 hc4 (Nat.le_refl _) hl (by omega) (by omega)).mono ?_
      rintro e w5 ⟨r, rfl, h6, h7, hs5, hg5⟩
      obtain ⟨K, rfl⟩ := Int.eq_ofNat_of_zero_le h6
      have hK : K ≤ T.size := by omega
      have hsl := sp_to T K hK
      have hz : (T.extract 0 K).size ≤ 2000 := by simp; omega
      generalize T.extract 0 K = R at *
      have hb5 := grown_of_below hb4 hg5 (Nat.le_refl _) (Nat.le_refl _)
      clear hs4 hc4 hg5 hb4 hs5 h7
      go_wp2
      go_ret
      exact ⟨R, rfl, hz, hb5⟩
    · have q1b : (q == 1) = false := by simpa using q1
      clear hs4 hc4
      go_wp2
      go_ret
      exact ⟨T, rfl, by omega, hb4⟩
set_option maxRecDepth 100000 in
set_option maxHeartbeats 2000000 in
theorem drawFrameRead_any (a : Option Addr) (len cap : Nat) (w : World) (hc : Code w.heap.size w a len) (hl : len ≤ 1048576) :
    Calls Try.prog 30 #[.slice a len cap] w fun e w' => ∃ t : ByteArray, e = .returned (.string t) ∧ t.size ≤ 2000 ∧ Below w.heap.size w w' := by
  go_enter Try.func30, Try.ntmps30
  go_wp2_with fail
  refine (source_any a len cap _ hc hl).mono ?_
  rintro e w1 ⟨rfl, hs1, hb1⟩
  have hc1 := hc.below hb1
  go_wp2_with fail
  refine (wrapped_any w.heap.size a len cap w.heap.size _ hs1 hc1 (Nat.le_refl _) hl).mono ?_
  rintro e w2 ⟨v, t, rfl, htz, hs2, hg2⟩
  have hb2 := grown_of_below hb1 hg2 (Nat.le_refl _) (Nat.le_refl _)
  clear hs1 hc1 hg2 hb1
  go_wp2_with fail
  refine (specFrameBytes_any v t _).mono ?_
  rintro e w3 ⟨rfl, hb3⟩
  have hT := frO_small v t
  generalize frO v t = T at *
  have hs3 := hs2.below hb3
  have hB3 := hb2.trans (hb3.mono hb2.size)
  have hc3 := hc.below hB3
  clear hs2 hb2 hb3
  go_wp2_with fail
  refine (n_any w.heap.size a len cap w.heap.size 4 _ hs3 hc3 (Nat.le_refl _) hl (by omega) (by omega)).mono ?_
  rintro e w4 ⟨q, rfl, h4, h5, hs4, hg4⟩
  have hb4 := grown_of_below hB3 hg4 (Nat.le_refl _) (Nat.le_refl _)
  have hc4 := hc.below hb4
  clear hs3 hc3 hg4 hB3
  by_cases q0 : q = 0
  · subst q0
    go_wp2_with fail
    refine (spoil_any w.heap.size a len cap w.heap.size T _ hs4 hc4 (Nat.le_refl _) hl (by omega)).mono ?_
    rintro e w5 ⟨R, rfl, hR, hs5, hg5⟩
    have hb5 := grown_of_below hb4 hg5 (Nat.le_refl _) (Nat.le_refl _)
    clear hs4 hc4 hg5 hb4 hs5
    go_wp2
    go_ret
    exact ⟨R, rfl, by omega, hb5⟩
  · have q0b : (q == 0) = false := by simpa using q0
    by_cases q1 : q = 1
    · subst q1
      have hwT := wrap_i64_in ((T.size : Int) + 1) (by omega) (by omega)
      go_wp2_with fail
      refine (n_any w.heap.size a len cap w.heap.size ((T.size : Int) + 1) _ hs4 hc4 (Nat.le_refl _) hl (by omega) (by omega)).mono ?_
      rintro e w5 ⟨r, rfl, h6, h7, hs5, hg5⟩
      obtain ⟨K, rfl⟩ := Int.eq_ofNat_of_zero_le h6
      have hK : K ≤ T.size := by omega
      have hsl := sp_to T K hK
      have hz : (T.extract 0 K).size ≤ 2000 := by simp; omega
      generalize T.extract 0 K = R at *
      have hb5 := grown_of_below hb4 hg5 (Nat.le_refl _) (Nat.le_refl _)
      clear hs4 hc4 hg5 hb4 hs5 h7
      go_wp2
      go_ret
      exact ⟨R, rfl, hz, hb5⟩
    · have q1b : (q == 1) = false := by simpa using q1
      clear hs4 hc4
      go_wp2
      go_ret
      exact ⟨T, rfl, by omega, hb4⟩
set_option maxRecDepth 100000 in
theorem drawSum16_any (a : Option Addr) (len cap : Nat) (w : World) (hc : Code w.heap.size w a len) (hl : len ≤ 1048576) :
    Calls Try.prog 33 #[.slice a len cap] w fun e w' => ∃ t : ByteArray, e = .returned (.string t) ∧ t.size ≤ 2000 ∧ Below w.heap.size w w' := by
  go_enter Try.func33, Try.ntmps33
  go_wp2_with fail
  refine (source_any a len cap _ hc hl).mono ?_
  rintro e w1 ⟨rfl, hs1, hb1⟩
  have hc1 := hc.below hb1
  go_wp2_with fail
  refine (n_any w.heap.size a len cap w.heap.size 14 _ hs1 hc1 (Nat.le_refl _) hl (by omega) (by omega)).mono ?_
  rintro e w3 ⟨r, rfl, h0, h1, hs3, hg3⟩
  have hb3 := grown_of_below hb1 hg3 (Nat.le_refl _) (Nat.le_refl _)
  have hc3 := hc.below hb3
  have hr : r < 14 := by omega
  clear hs1 hc1 hg3 hb1 h1
  go_wp2_with fail
  refine (bytes_any w.heap.size a len cap w.heap.size r _ hs3 hc3 (Nat.le_refl _) hl (by omega)).mono ?_
  rintro e w4 ⟨t, rfl, ht, hs4, hg4⟩
  have hb4 := grown_of_below hb3 hg4 (Nat.le_refl _) (Nat.le_refl _)
  clear hs3 hc3 hg4 hb3 hs4
  go_wp2
  go_ret
  exact ⟨t, rfl, by omega, hb4⟩
end Go.Proofs.Ytchgnjpbjnkdmaa
