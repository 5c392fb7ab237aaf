/- The draws of the law on datagrams and frames. -/
import Derived.Test.YtchgnjpbjnkdmaaSpoil
import Derived.Test.YtchgnjpbjnkdmaaSourceB
import Derived.Test.YtchgnjpbjnkdmaaFrameS
import Derived.Test.YtchgnjpbjnkdmaaDgS
namespace Go.Proofs.Ytchgnjpbjnkdmaa
open Go.RowKit

theorem new_w (w : World) (o : Obj) : Below w.heap.size w (w.alloc o) := (Below.refl _ _).alloc (Nat.le_refl _) _
theorem row_at (vs : List Int) (k : Nat) (h : k < vs.length) : ∃ v : Int, (vs.map (Value.int .i64))[k]? = some (.int .i64 v) := ⟨vs[k], by simp [h]⟩
set_option maxRecDepth 100000 in
set_option maxHeartbeats 8000000 in
theorem some_any (g : Nat) (a : Option Addr) (len cap B : Nat) (w : World) (hs : Src w g a len cap) (hc : Code B w a len) (hB : B ≤ g) (hl : len ≤ 1048576) :
    Calls Try.prog 59 #[.pointer (some ⟨g, 0, none⟩)] w fun e w' => ∃ (s d sp dp ttl : Int) (t : ByteArray), e = .returned (.agg #[.int .i64 s, .int .i64 d, .int .i64 sp, .int .i64 dp, .int .i64 ttl, .string t]) ∧ t.size ≤ 400 ∧ Src w' g a len cap ∧ w.grownBy w' (some g) := by
  have hgw := hs.lt
  have hs0 := hs.alloc (.cells #[.int .i64 0, .int .i64 0, .int .i64 0, .int .i64 0, .int .i64 0, .string ⟨#[]⟩] 40)
  have hc0 := hc.alloc (.cells #[.int .i64 0, .int .i64 0, .int .i64 0, .int .i64 0, .int .i64 0, .string ⟨#[]⟩] 40) (by omega)
  have r0 := Row.new w 40 [.int .i64 0, .int .i64 0, .int .i64 0, .int .i64 0, .int .i64 0, .string ⟨#[]⟩]
  have G0 : w.grownBy (w.alloc (.cells #[.int .i64 0, .int .i64 0, .int .i64 0, .int .i64 0, .int .i64 0, .string ⟨#[]⟩] 40)) (some g) := World.grownBy_alloc w _ _
  have z0 : w.heap.size < (w.alloc (.cells #[.int .i64 0, .int .i64 0, .int .i64 0, .int .i64 0, .int .i64 0, .string ⟨#[]⟩] 40)).heap.size := by simp
  clear hs hc
  go_enter Try.func59, Try.ntmps59
  go_wp2_with fail
  refine (drawAddr_any g a len cap B _ hs0 hc0 hB hl).mono ?_
  rintro e w1 ⟨s, rfl, _, _, hs1, hg1⟩
  have hc1 := hc0.grown hg1 hB (by omega)
  have r1 := r0.grown hg1 (by omega)
  have G1 := grown_trans G0 hg1
  have z1 := G1.size
  clear hs0 hc0 r0 G0 hg1
  go_wp2_with fail
  refine (drawAddr_any g a len cap B _ hs1 hc1 hB hl).mono ?_
  rintro e w2 ⟨d, rfl, _, _, hs2, hg2⟩
  have hc2 := hc1.grown hg2 hB (by omega)
  have r2 := r1.grown hg2 (by omega)
  have G2 := grown_trans G1 hg2
  have z2 := G2.size
  clear hs1 hc1 r1 G1 hg2
  go_wp2_with fail
  refine (n_any g a len cap B 3 _ hs2 hc2 hB hl (by omega) (by omega)).mono ?_
  rintro e w3 ⟨ttl, rfl, ht0, ht1, hs3, hg3⟩
  have hc3 := hc2.grown hg3 hB (by omega)
  have r3 := r2.grown hg3 (by omega)
  have G3 := grown_trans G2 hg3
  have z3 := G3.size
  have ht2 : ttl < 3 := by omega
  have hwt := wrap_i64_in (1 + ttl) (by omega) (by omega)
  clear ht1
  clear hs2 hc2 r2 G2 hg3
  go_wp2_with fail
  refine (n_any g a len cap B 9 _ hs3 hc3 hB hl (by omega) (by omega)).mono ?_
  rintro e w4 ⟨nb, rfl, hn0, hn1, hs4, hg4⟩
  have hc4 := hc3.grown hg4 hB (by omega)
  have r4 := r3.grown hg4 (by omega)
  have G4 := grown_trans G3 hg4
  have z4 := G4.size
  have hn2 : nb < 9 := by omega
  clear hn1
  clear hs3 hc3 r3 G3 hg4
  go_wp2_with fail
  refine (bytes_any g a len cap B nb _ hs4 hc4 hB hl (by omega)).mono ?_
  rintro e w5 ⟨t, rfl, hts, hs5, hg5⟩
  have hc5 := hc4.grown hg5 hB (by omega)
  have r5 := r4.grown hg5 (by omega)
  have G5 := grown_trans G4 hg5
  have z5 := G5.size
  have htz : t.size ≤ 9 := by omega
  clear hts
  clear hs4 hc4 r4 G4 hg5
  have zs5 := r5.lt
  have hs6 := hs5.alloc (.cells #[.int .i64 s, .int .i64 d, .int .i64 520, .int .i64 520, .int .i64 (1 + ttl), .string t] 40)
  have hc6 := hc5.alloc (.cells #[.int .i64 s, .int .i64 d, .int .i64 520, .int .i64 520, .int .i64 (1 + ttl), .string t] 40) (by omega)
  have r6 := r5.alloc (.cells #[.int .i64 s, .int .i64 d, .int .i64 520, .int .i64 520, .int .i64 (1 + ttl), .string t] 40)
  have p6 := Row.new w5 40 [.int .i64 s, .int .i64 d, .int .i64 520, .int .i64 520, .int .i64 (1 + ttl), .string t]
  have G6 := grown_alloc G5 (.cells #[.int .i64 s, .int .i64 d, .int .i64 520, .int .i64 520, .int .i64 (1 + ttl), .string t] 40)
  have z6 : w5.heap.size < (w5.alloc (.cells #[.int .i64 s, .int .i64 d, .int .i64 520, .int .i64 520, .int .i64 (1 + ttl), .string t] 40)).heap.size := by simp
  clear hs5 hc5 r5 G5
  go_wp2_with fail
  refine (one_any g a len cap B 12 _ hs6 hc6 hB hl (by omega) (by omega)).mono ?_
  rintro e w7 ⟨q, rfl, hs7, hg7⟩
  have hc7 := hc6.grown hg7 hB (by omega)
  have r7 := r6.grown hg7 (by omega)
  have p7 := p6.grown hg7 (by omega)
  have G7 := grown_trans G6 hg7
  have z7 := hg7.size
  clear hs6 hc6 r6 p6 G6 hg7
  cases q
  · clear hc7
    have s0 : w7.cell? ⟨w5.heap.size, 0, none⟩ = some (.int .i64 s) := p7.cell 0
    have s1 : w7.cell? ⟨w5.heap.size, 1, none⟩ = some (.int .i64 d) := p7.cell 1
    have s2 : w7.cell? ⟨w5.heap.size, 2, none⟩ = some (.int .i64 520) := p7.cell 2
    have s3 : w7.cell? ⟨w5.heap.size, 3, none⟩ = some (.int .i64 520) := p7.cell 3
    have s4 : w7.cell? ⟨w5.heap.size, 4, none⟩ = some (.int .i64 (1 + ttl)) := p7.cell 4
    have s5 : w7.cell? ⟨w5.heap.size, 5, none⟩ = some (.string t) := p7.cell 5
    have z0 : w7.cell? ⟨w.heap.size, 0, none⟩ = some (.int .i64 0) := r7.cell 0
    have z1 : w7.cell? ⟨w.heap.size, 1, none⟩ = some (.int .i64 0) := r7.cell 1
    have z2 : w7.cell? ⟨w.heap.size, 2, none⟩ = some (.int .i64 0) := r7.cell 2
    have z3 : w7.cell? ⟨w.heap.size, 3, none⟩ = some (.int .i64 0) := r7.cell 3
    have z4 : w7.cell? ⟨w.heap.size, 4, none⟩ = some (.int .i64 0) := r7.cell 4
    have z5 : w7.cell? ⟨w.heap.size, 5, none⟩ = some (.string ⟨#[]⟩) := r7.cell 5
    have f0 := r7.frozen 0
    have f1 := r7.frozen 1
    have f2 := r7.frozen 2
    have f3 := r7.frozen 3
    have f4 := r7.frozen 4
    have f5 := r7.frozen 5
    have hfs := hs7
    have hfg := G7
    clear p7 r7
    go_wp2_with fail
    refine bodyPost_ret (v := .agg #[.int .i64 s, .int .i64 d, .int .i64 520, .int .i64 520, .int .i64 (1 + ttl), .string t]) (by simp [results, Try.results59, go_sem, z0, z1, z2, z3, z4, z5]) rfl ⟨s, d, 520, 520, 1 + ttl, t, rfl, by omega, ?_, ?_⟩
    · exact (((((hfs.set (by omega)).set (by omega)).set (by omega)).set (by omega)).set (by omega)).set (by omega)
    · exact grown_new (grown_new (grown_new (grown_new (grown_new (grown_new hfg (Nat.le_refl _) _) (Nat.le_refl _) _) (Nat.le_refl _) _) (Nat.le_refl _) _) (Nat.le_refl _) _) (Nat.le_refl _) _
  · go_wp2_with fail
    refine (n_any g a len cap B 3 _ hs7 hc7 hB hl (by omega) (by omega)).mono ?_
    rintro e w8 ⟨k, rfl, hk0, hk1, hs8, hg8⟩
    have hc8 := hc7.grown hg8 hB (by omega)
    have r8 := r7.grown hg8 (by omega)
    have p8 := p7.grown hg8 (by omega)
    have G8 := grown_trans G7 hg8
    have z8 := hg8.size
    clear hs7 hc7 r7 p7 G7 hg8 hk1
    by_cases k0 : k = 0
    · subst k0
      have hs9 := hs8.alloc (.cells #[.int .i64 (-1), .int .i64 (0), .int .i64 (65535), .int .i64 (65536)] 2)
      have hc9 := hc8.alloc (.cells #[.int .i64 (-1), .int .i64 (0), .int .i64 (65535), .int .i64 (65536)] 2) (by omega)
      have r9 := r8.alloc (.cells #[.int .i64 (-1), .int .i64 (0), .int .i64 (65535), .int .i64 (65536)] 2)
      have p9 := p8.alloc (.cells #[.int .i64 (-1), .int .i64 (0), .int .i64 (65535), .int .i64 (65536)] 2)
      have y9 : Row (w8.alloc (.cells #[.int .i64 (-1), .int .i64 (0), .int .i64 (65535), .int .i64 (65536)] 2)) w8.heap.size 2 (([(-1), (0), (65535), (65536)] : List Int).map (Value.int .i64)) := Row.new w8 2 _
      have G9 := grown_alloc G8 (.cells #[.int .i64 (-1), .int .i64 (0), .int .i64 (65535), .int .i64 (65536)] 2)
      have z9 : w8.heap.size < (w8.alloc (.cells #[.int .i64 (-1), .int .i64 (0), .int .i64 (65535), .int .i64 (65536)] 2)).heap.size := by simp
      clear hs8 hc8 r8 p8 G8
      go_wp2_with fail
      refine (n_any g a len cap B 4 _ hs9 hc9 hB hl (by omega) (by omega)).mono ?_
      rintro e wa ⟨j, rfl, hj0, hj1, hsa, hga⟩
      obtain ⟨J, rfl⟩ := Int.eq_ofNat_of_zero_le hj0
      have hJ : J < 4 := by omega
      obtain ⟨v, hv⟩ := row_at [(-1), (0), (65535), (65536)] J hJ
      have ra := r9.grown hga (by omega)
      have pa := p9.grown hga (by omega)
      have ya := (y9.grown hga (by omega)).cell J
      rw [hv] at ya
      have Ga := grown_trans G9 hga
      have hJi : (J : Int) < 4 := by omega
      have pc : wa.cell? ⟨w5.heap.size, 3, none⟩ = some (.int .i64 520) := pa.cell 3
      have pf := pa.frozen 3
      have pb : Row (wa.setCell ⟨w5.heap.size, 3, none⟩ (.int .i64 v)) w5.heap.size 40 [.int .i64 s, .int .i64 d, .int .i64 520, .int .i64 v, .int .i64 (1 + ttl), .string t] := pa.set 3 _
      have rb := ra.other 3 (.int .i64 v) (g' := w5.heap.size) (by omega)
      have hsb : Src (wa.setCell ⟨w5.heap.size, 3, none⟩ (.int .i64 v)) g a len cap := hsa.set (by omega)
      have Gb : w.grownBy (wa.setCell ⟨w5.heap.size, 3, none⟩ (.int .i64 v)) (some g) := grown_new Ga (by omega) _
      clear hs9 hc9 r9 p9 y9 G9 hga hj1 hj0 hv ra pa hsa Ga
      have s0 : (wa.setCell ⟨w5.heap.size, 3, none⟩ (.int .i64 v)).cell? ⟨w5.heap.size, 0, none⟩ = some (.int .i64 s) := pb.cell 0
      have s1 : (wa.setCell ⟨w5.heap.size, 3, none⟩ (.int .i64 v)).cell? ⟨w5.heap.size, 1, none⟩ = some (.int .i64 d) := pb.cell 1
      have s2 : (wa.setCell ⟨w5.heap.size, 3, none⟩ (.int .i64 v)).cell? ⟨w5.heap.size, 2, none⟩ = some (.int .i64 520) := pb.cell 2
      have s3 : (wa.setCell ⟨w5.heap.size, 3, none⟩ (.int .i64 v)).cell? ⟨w5.heap.size, 3, none⟩ = some (.int .i64 v) := pb.cell 3
      have s4 : (wa.setCell ⟨w5.heap.size, 3, none⟩ (.int .i64 v)).cell? ⟨w5.heap.size, 4, none⟩ = some (.int .i64 (1 + ttl)) := pb.cell 4
      have s5 : (wa.setCell ⟨w5.heap.size, 3, none⟩ (.int .i64 v)).cell? ⟨w5.heap.size, 5, none⟩ = some (.string t) := pb.cell 5
      have z0 : (wa.setCell ⟨w5.heap.size, 3, none⟩ (.int .i64 v)).cell? ⟨w.heap.size, 0, none⟩ = some (.int .i64 0) := rb.cell 0
      have z1 : (wa.setCell ⟨w5.heap.size, 3, none⟩ (.int .i64 v)).cell? ⟨w.heap.size, 1, none⟩ = some (.int .i64 0) := rb.cell 1
      have z2 : (wa.setCell ⟨w5.heap.size, 3, none⟩ (.int .i64 v)).cell? ⟨w.heap.size, 2, none⟩ = some (.int .i64 0) := rb.cell 2
      have z3 : (wa.setCell ⟨w5.heap.size, 3, none⟩ (.int .i64 v)).cell? ⟨w.heap.size, 3, none⟩ = some (.int .i64 0) := rb.cell 3
      have z4 : (wa.setCell ⟨w5.heap.size, 3, none⟩ (.int .i64 v)).cell? ⟨w.heap.size, 4, none⟩ = some (.int .i64 0) := rb.cell 4
      have z5 : (wa.setCell ⟨w5.heap.size, 3, none⟩ (.int .i64 v)).cell? ⟨w.heap.size, 5, none⟩ = some (.string ⟨#[]⟩) := rb.cell 5
      have f0 := rb.frozen 0
      have f1 := rb.frozen 1
      have f2 := rb.frozen 2
      have f3 := rb.frozen 3
      have f4 := rb.frozen 4
      have f5 := rb.frozen 5
      have hfs := hsb
      have hfg := Gb
      clear pb rb
      go_wp2_with fail
      refine bodyPost_ret (v := .agg #[.int .i64 s, .int .i64 d, .int .i64 520, .int .i64 v, .int .i64 (1 + ttl), .string t]) (by simp [results, Try.results59, go_sem, z0, z1, z2, z3, z4, z5]) rfl ⟨s, d, 520, v, 1 + ttl, t, rfl, by omega, ?_, ?_⟩
      · exact (((((hfs.set (by omega)).set (by omega)).set (by omega)).set (by omega)).set (by omega)).set (by omega)
      · exact grown_new (grown_new (grown_new (grown_new (grown_new (grown_new hfg (Nat.le_refl _) _) (Nat.le_refl _) _) (Nat.le_refl _) _) (Nat.le_refl _) _) (Nat.le_refl _) _) (Nat.le_refl _) _
    · have k0b : (k == 0) = false := by simpa using k0
      by_cases k1 : k = 1
      · subst k1
        have hs9 := hs8.alloc (.cells #[.int .i64 (-1), .int .i64 (0), .int .i64 (255), .int .i64 (256)] 2)
        have hc9 := hc8.alloc (.cells #[.int .i64 (-1), .int .i64 (0), .int .i64 (255), .int .i64 (256)] 2) (by omega)
        have r9 := r8.alloc (.cells #[.int .i64 (-1), .int .i64 (0), .int .i64 (255), .int .i64 (256)] 2)
        have p9 := p8.alloc (.cells #[.int .i64 (-1), .int .i64 (0), .int .i64 (255), .int .i64 (256)] 2)
        have y9 : Row (w8.alloc (.cells #[.int .i64 (-1), .int .i64 (0), .int .i64 (255), .int .i64 (256)] 2)) w8.heap.size 2 (([(-1), (0), (255), (256)] : List Int).map (Value.int .i64)) := Row.new w8 2 _
        have G9 := grown_alloc G8 (.cells #[.int .i64 (-1), .int .i64 (0), .int .i64 (255), .int .i64 (256)] 2)
        have z9 : w8.heap.size < (w8.alloc (.cells #[.int .i64 (-1), .int .i64 (0), .int .i64 (255), .int .i64 (256)] 2)).heap.size := by simp
        clear hs8 hc8 r8 p8 G8
        go_wp2_with fail
        refine (n_any g a len cap B 4 _ hs9 hc9 hB hl (by omega) (by omega)).mono ?_
        rintro e wa ⟨j, rfl, hj0, hj1, hsa, hga⟩
        obtain ⟨J, rfl⟩ := Int.eq_ofNat_of_zero_le hj0
        have hJ : J < 4 := by omega
        obtain ⟨v, hv⟩ := row_at [(-1), (0), (255), (256)] J hJ
        have ra := r9.grown hga (by omega)
        have pa := p9.grown hga (by omega)
        have ya := (y9.grown hga (by omega)).cell J
        rw [hv] at ya
        have Ga := grown_trans G9 hga
        have hJi : (J : Int) < 4 := by omega
        have pc : wa.cell? ⟨w5.heap.size, 4, none⟩ = some (.int .i64 (1 + ttl)) := pa.cell 4
        have pf := pa.frozen 4
        have pb : Row (wa.setCell ⟨w5.heap.size, 4, none⟩ (.int .i64 v)) w5.heap.size 40 [.int .i64 s, .int .i64 d, .int .i64 520, .int .i64 520, .int .i64 v, .string t] := pa.set 4 _
        have rb := ra.other 4 (.int .i64 v) (g' := w5.heap.size) (by omega)
        have hsb : Src (wa.setCell ⟨w5.heap.size, 4, none⟩ (.int .i64 v)) g a len cap := hsa.set (by omega)
        have Gb : w.grownBy (wa.setCell ⟨w5.heap.size, 4, none⟩ (.int .i64 v)) (some g) := grown_new Ga (by omega) _
        clear hs9 hc9 r9 p9 y9 G9 hga hj1 hj0 hv ra pa hsa Ga
        have s0 : (wa.setCell ⟨w5.heap.size, 4, none⟩ (.int .i64 v)).cell? ⟨w5.heap.size, 0, none⟩ = some (.int .i64 s) := pb.cell 0
        have s1 : (wa.setCell ⟨w5.heap.size, 4, none⟩ (.int .i64 v)).cell? ⟨w5.heap.size, 1, none⟩ = some (.int .i64 d) := pb.cell 1
        have s2 : (wa.setCell ⟨w5.heap.size, 4, none⟩ (.int .i64 v)).cell? ⟨w5.heap.size, 2, none⟩ = some (.int .i64 520) := pb.cell 2
        have s3 : (wa.setCell ⟨w5.heap.size, 4, none⟩ (.int .i64 v)).cell? ⟨w5.heap.size, 3, none⟩ = some (.int .i64 520) := pb.cell 3
        have s4 : (wa.setCell ⟨w5.heap.size, 4, none⟩ (.int .i64 v)).cell? ⟨w5.heap.size, 4, none⟩ = some (.int .i64 v) := pb.cell 4
        have s5 : (wa.setCell ⟨w5.heap.size, 4, none⟩ (.int .i64 v)).cell? ⟨w5.heap.size, 5, none⟩ = some (.string t) := pb.cell 5
        have z0 : (wa.setCell ⟨w5.heap.size, 4, none⟩ (.int .i64 v)).cell? ⟨w.heap.size, 0, none⟩ = some (.int .i64 0) := rb.cell 0
        have z1 : (wa.setCell ⟨w5.heap.size, 4, none⟩ (.int .i64 v)).cell? ⟨w.heap.size, 1, none⟩ = some (.int .i64 0) := rb.cell 1
        have z2 : (wa.setCell ⟨w5.heap.size, 4, none⟩ (.int .i64 v)).cell? ⟨w.heap.size, 2, none⟩ = some (.int .i64 0) := rb.cell 2
        have z3 : (wa.setCell ⟨w5.heap.size, 4, none⟩ (.int .i64 v)).cell? ⟨w.heap.size, 3, none⟩ = some (.int .i64 0) := rb.cell 3
        have z4 : (wa.setCell ⟨w5.heap.size, 4, none⟩ (.int .i64 v)).cell? ⟨w.heap.size, 4, none⟩ = some (.int .i64 0) := rb.cell 4
        have z5 : (wa.setCell ⟨w5.heap.size, 4, none⟩ (.int .i64 v)).cell? ⟨w.heap.size, 5, none⟩ = some (.string ⟨#[]⟩) := rb.cell 5
        have f0 := rb.frozen 0
        have f1 := rb.frozen 1
        have f2 := rb.frozen 2
        have f3 := rb.frozen 3
        have f4 := rb.frozen 4
        have f5 := rb.frozen 5
        have hfs := hsb
        have hfg := Gb
        clear pb rb
        go_wp2_with fail
        refine bodyPost_ret (v := .agg #[.int .i64 s, .int .i64 d, .int .i64 520, .int .i64 520, .int .i64 v, .string t]) (by simp [results, Try.results59, go_sem, z0, z1, z2, z3, z4, z5]) rfl ⟨s, d, 520, 520, v, t, rfl, by omega, ?_, ?_⟩
        · exact (((((hfs.set (by omega)).set (by omega)).set (by omega)).set (by omega)).set (by omega)).set (by omega)
        · exact grown_new (grown_new (grown_new (grown_new (grown_new (grown_new hfg (Nat.le_refl _) _) (Nat.le_refl _) _) (Nat.le_refl _) _) (Nat.le_refl _) _) (Nat.le_refl _) _) (Nat.le_refl _) _
      · have k1b : (k == 1) = false := by simpa using k1
        go_wp2_with fail
        refine (n_any g a len cap B 3 _ hs8 hc8 hB hl (by omega) (by omega)).mono ?_
        rintro e wa ⟨j, rfl, hj0, hj1, hsa, hga⟩
        obtain ⟨J, rfl⟩ := Int.eq_ofNat_of_zero_le hj0
        have hJ : J < 3 := by omega
        have ra := r8.grown hga (by omega)
        have pa := p8.grown hga (by omega)
        have Ga := grown_trans G8 hga
        have za := Ga.size
        have hwj := wrap_i64_in (299 + (J : Int)) (by omega) (by omega)
        obtain ⟨wb, hrun, hrb, hbb⟩ := make_bytes_run wa (299 + J) (by omega)
        rw [show ((299 + J : Nat) : Int) = 299 + (J : Int) by omega] at hrun
        have hconv := hrb.conv (zerosT (299 + J)) (by simp [zerosT]) (n := 299 + J) (by rw [zerosT_size]) (by omega)
        have rb := ra.below hbb ra.lt
        have pb := pa.below hbb pa.lt
        have hsb := hsa.below hbb
        have Gb : w.grownBy wb (some g) := grown_below Ga (hbb.mono (by omega))
        have pc : wb.cell? ⟨w5.heap.size, 5, none⟩ = some (.string t) := pb.cell 5
        have pf := pb.frozen 5
        have pd : Row (wb.setCell ⟨w5.heap.size, 5, none⟩ (.string (zerosT (299 + J)))) w5.heap.size 40 [.int .i64 s, .int .i64 d, .int .i64 520, .int .i64 520, .int .i64 (1 + ttl), .string (zerosT (299 + J))] := pb.set 5 _
        have rd := rb.other 5 (.string (zerosT (299 + J))) (g' := w5.heap.size) (by omega)
        have hsd : Src (wb.setCell ⟨w5.heap.size, 5, none⟩ (.string (zerosT (299 + J)))) g a len cap := hsb.set (by omega)
        have Gd : w.grownBy (wb.setCell ⟨w5.heap.size, 5, none⟩ (.string (zerosT (299 + J)))) (some g) := grown_new Gb (by omega) _
        have hzz := zerosT_size (299 + J)
        generalize zerosT (299 + J) = ZT at *
        clear hs8 hc8 r8 p8 G8 hga hj1 hj0 ra pa hsa Ga rb pb hsb Gb hrb hbb
        have s0 : (wb.setCell ⟨w5.heap.size, 5, none⟩ (.string ZT)).cell? ⟨w5.heap.size, 0, none⟩ = some (.int .i64 s) := pd.cell 0
        have s1 : (wb.setCell ⟨w5.heap.size, 5, none⟩ (.string ZT)).cell? ⟨w5.heap.size, 1, none⟩ = some (.int .i64 d) := pd.cell 1
        have s2 : (wb.setCell ⟨w5.heap.size, 5, none⟩ (.string ZT)).cell? ⟨w5.heap.size, 2, none⟩ = some (.int .i64 520) := pd.cell 2
        have s3 : (wb.setCell ⟨w5.heap.size, 5, none⟩ (.string ZT)).cell? ⟨w5.heap.size, 3, none⟩ = some (.int .i64 520) := pd.cell 3
        have s4 : (wb.setCell ⟨w5.heap.size, 5, none⟩ (.string ZT)).cell? ⟨w5.heap.size, 4, none⟩ = some (.int .i64 (1 + ttl)) := pd.cell 4
        have s5 : (wb.setCell ⟨w5.heap.size, 5, none⟩ (.string ZT)).cell? ⟨w5.heap.size, 5, none⟩ = some (.string ZT) := pd.cell 5
        have z0 : (wb.setCell ⟨w5.heap.size, 5, none⟩ (.string ZT)).cell? ⟨w.heap.size, 0, none⟩ = some (.int .i64 0) := rd.cell 0
        have z1 : (wb.setCell ⟨w5.heap.size, 5, none⟩ (.string ZT)).cell? ⟨w.heap.size, 1, none⟩ = some (.int .i64 0) := rd.cell 1
        have z2 : (wb.setCell ⟨w5.heap.size, 5, none⟩ (.string ZT)).cell? ⟨w.heap.size, 2, none⟩ = some (.int .i64 0) := rd.cell 2
        have z3 : (wb.setCell ⟨w5.heap.size, 5, none⟩ (.string ZT)).cell? ⟨w.heap.size, 3, none⟩ = some (.int .i64 0) := rd.cell 3
        have z4 : (wb.setCell ⟨w5.heap.size, 5, none⟩ (.string ZT)).cell? ⟨w.heap.size, 4, none⟩ = some (.int .i64 0) := rd.cell 4
        have z5 : (wb.setCell ⟨w5.heap.size, 5, none⟩ (.string ZT)).cell? ⟨w.heap.size, 5, none⟩ = some (.string ⟨#[]⟩) := rd.cell 5
        have f0 := rd.frozen 0
        have f1 := rd.frozen 1
        have f2 := rd.frozen 2
        have f3 := rd.frozen 3
        have f4 := rd.frozen 4
        have f5 := rd.frozen 5
        have hfs := hsd
        have hfg := Gd
        clear pd rd
        go_wp2_with fail
        refine bodyPost_ret (v := .agg #[.int .i64 s, .int .i64 d, .int .i64 520, .int .i64 520, .int .i64 (1 + ttl), .string ZT]) (by simp [results, Try.results59, go_sem, z0, z1, z2, z3, z4, z5]) rfl ⟨s, d, 520, 520, 1 + ttl, ZT, rfl, by omega, ?_, ?_⟩
        · exact (((((hfs.set (by omega)).set (by omega)).set (by omega)).set (by omega)).set (by omega)).set (by omega)
        · exact grown_new (grown_new (grown_new (grown_new (grown_new (grown_new hfg (Nat.le_refl _) _) (Nat.le_refl _) _) (Nat.le_refl _) _) (Nat.le_refl _) _) (Nat.le_refl _) _) (Nat.le_refl _) _
end Go.Proofs.Ytchgnjpbjnkdmaa
