/- The walk of the law on DeskBox. (Written by gen_dsk.py.) -/
import Derived.Test.YtialedffpaoacaaGreatDoorPack40
import Derived.Test.YtialedffpaoacaaGreatDoorPack24
namespace Go.Proofs.YtialedffpaoacaaGreatDoor
open Go.RowKit Go.Sort

set_option maxRecDepth 100000 in
set_option maxHeartbeats 8000000 in
theorem fnExactDeskBox_walk (w : World) (hM : MaxI w) :
    Calls Tryz.prog 4 #[] w fun r w' => r = .returned (.bool true) ∧ Below w.heap.size w w' := by
  obtain ⟨KK, HKKe⟩ : ∃ K : Int, K = ((kN 1 dTS dTS.length + 4 * dBS.length + 6 * ([] : List Lk).length : Nat) : Int) := ⟨_, rfl⟩
  have HKK : Hid (0 ≤ KK) := by show 0 ≤ KK; rw [HKKe]; omega
  have HS : Hid (∀ W, Calls Tryz.prog 10 #[] W fun e w' => (∃ p0 c0 u0 d0 v0 e0, e = .returned (.agg #[.slice p0 dTS.length c0, .slice u0 dBS.length d0, .slice v0 0 e0, .int .i64 0]) ∧ AnsX dTS dBS [] W.heap.size w'.heap.size w' p0 c0 u0 d0 v0 e0) ∧ Below W.heap.size W w') := fun W => specDesk_any W
  have HI : Hid (∀ W, MaxI W → Calls Tryz.prog 11 #[] W fun e w' => (∃ p0 c0 u0 d0 v0 e0, e = .returned (.agg #[.slice p0 dTS.length c0, .slice u0 dBS.length d0, .slice v0 0 e0, .int .i64 0]) ∧ AnsX dTS dBS [] W.heap.size w'.heap.size w' p0 c0 u0 d0 v0 e0) ∧ Below W.heap.size W w') := fun W h => implDesk_any W h
  have HQ : Hid (∀ lo hi lo' hi' W (p0 : Option Addr) (c0 : Nat) (u0 : Option Addr) (d0 : Nat) (v0 : Option Addr) (e0 : Nat) (p1 : Option Addr) (c1 : Nat) (u1 : Option Addr) (d1 : Nat) (v1 : Option Addr) (e1 : Nat), AnsX dTS dBS [] lo hi W p0 c0 u0 d0 v0 e0 → AnsX dTS dBS [] lo' hi' W p1 c1 u1 d1 v1 e1 → Calls Tryz.prog 9 #[.agg #[.slice p0 dTS.length c0, .slice u0 dBS.length d0, .slice v0 0 e0, .int .i64 0], .agg #[.slice p1 dTS.length c1, .slice u1 dBS.length d1, .slice v1 0 e1, .int .i64 0]] W fun e w' => e = .returned (.bool true) ∧ Below W.heap.size W w') := fun lo hi lo' hi' W p c u d v e p' c' u' d' v' e' a b => eqBoxA_any (TS := dTS) (BS := dBS) (LS := []) (lost := 0) d_small a b
  have HMO : Hid (∀ lo hi W (p0 : Option Addr) (c0 : Nat) (u0 : Option Addr) (d0 : Nat) (v0 : Option Addr) (e0 : Nat), AnsX dTS dBS [] lo hi W p0 c0 u0 d0 v0 e0 → lo ≤ W.heap.size → Calls Tryz.prog 12 #[.agg #[.slice p0 dTS.length c0, .slice u0 dBS.length d0, .slice v0 0 e0, .int .i64 0], .int .i64 1] W fun e w' => e = .returned (.int .i64 KK) ∧ MrkX dTS dBS [] lo hi w' p0 c0 u0 d0 v0 e0 ∧ Chg lo hi W w') := fun lo hi W p c u d v e a b => by rw [HKKe]; exact markBoxA_any (TS := dTS) (BS := dBS) (LS := []) (lost := 0) d_small a b
  have HH : Hid (∀ lo hi W (p0 : Option Addr) (c0 : Nat) (u0 : Option Addr) (d0 : Nat) (v0 : Option Addr) (e0 : Nat), MrkX dTS dBS [] lo hi W p0 c0 u0 d0 v0 e0 → Calls Tryz.prog 13 #[.agg #[.slice p0 dTS.length c0, .slice u0 dBS.length d0, .slice v0 0 e0, .int .i64 0], .int .i64 1] W fun e w' => e = .returned (.int .i64 KK) ∧ Below W.heap.size W w') := fun lo hi W p c u d v e a => by rw [HKKe]; exact heldBoxA_any (TS := dTS) (BS := dBS) (LS := []) (lost := 0) d_small a
  generalize dTS = TS at *
  generalize dBS = BS at *
  have HM : Hid (MaxI w) := hM
  have hB := Below.refl w.heap.size w
  clear hM HKKe
  go_enter Tryz.func4, Tryz.ntmps4
  go_wp2_with fail
  refine (HS.out w).mono ?_
  rintro e_ w1 ⟨⟨p0, c0, u0, d0, v0, e0, rfl, A0⟩, hb⟩
  have hn1 := hb.size
  replace hB := hB.trans (hb.mono hB.size)
  clear hb
  clear HS
  replace A0 := A0.below (ent_new0 w1 (.cells #[.slice p0 TS.length c0, .slice u0 BS.length d0, .slice v0 0 e0, .int .i64 0] 33))
  have r1 := Row.new w1 33 [.slice p0 TS.length c0, .slice u0 BS.length d0, .slice v0 0 e0, .int .i64 0]
  replace hB := hB.alloc (by have := hB.size; omega) (.cells #[.slice p0 TS.length c0, .slice u0 BS.length d0, .slice v0 0 e0, .int .i64 0] 33)
  have hZ : w1.heap.size < (w1.alloc (.cells #[.slice p0 TS.length c0, .slice u0 BS.length d0, .slice v0 0 e0, .int .i64 0] 33)).heap.size := by simp
  have HA : Hid _ := And.intro A0 (And.intro r1 (And.intro hB (hZ)))
  clear A0 r1 hB hZ
  go_wp2_with fail
  generalize w1.heap.size = b1 at *
  generalize w1.alloc (.cells #[.slice p0 TS.length c0, .slice u0 BS.length d0, .slice v0 0 e0, .int .i64 0] 33) = Z1 at *
  obtain ⟨A0, r1, hB, hZ⟩ := HA.out
  clear HA 
  have hZb1 := hZ
  clear hZ
  refine (HI.out _ (HM.out.below hB)).mono ?_
  rintro e_ w2 ⟨⟨p1, c1, u1, d1, v1, e1, rfl, A1⟩, hb⟩
  have hn2 := hb.size
  replace r1 := r1.below hb r1.lt
  replace A0 := A0.below hb
  replace hB := hB.trans (hb.mono hB.size)
  clear hb
  generalize Z1.heap.size = n2 at *
  replace r1 := r1.alloc (.cells #[.slice p1 TS.length c1, .slice u1 BS.length d1, .slice v1 0 e1, .int .i64 0] 33)
  replace A0 := A0.below (ent_new0 w2 (.cells #[.slice p1 TS.length c1, .slice u1 BS.length d1, .slice v1 0 e1, .int .i64 0] 33))
  replace A1 := A1.below (ent_new0 w2 (.cells #[.slice p1 TS.length c1, .slice u1 BS.length d1, .slice v1 0 e1, .int .i64 0] 33))
  have r2 := Row.new w2 33 [.slice p1 TS.length c1, .slice u1 BS.length d1, .slice v1 0 e1, .int .i64 0]
  replace hB := hB.alloc (by have := hB.size; omega) (.cells #[.slice p1 TS.length c1, .slice u1 BS.length d1, .slice v1 0 e1, .int .i64 0] 33)
  have hZ : w2.heap.size < (w2.alloc (.cells #[.slice p1 TS.length c1, .slice u1 BS.length d1, .slice v1 0 e1, .int .i64 0] 33)).heap.size := by simp
  have s0 : (w2.alloc (.cells #[.slice p1 TS.length c1, .slice u1 BS.length d1, .slice v1 0 e1, .int .i64 0] 33)).cell? ⟨w2.heap.size, 0, none⟩ = some (.slice p1 TS.length c1) := r2.cell 0
  have s1 : (w2.alloc (.cells #[.slice p1 TS.length c1, .slice u1 BS.length d1, .slice v1 0 e1, .int .i64 0] 33)).cell? ⟨w2.heap.size, 1, none⟩ = some (.slice u1 BS.length d1) := r2.cell 1
  have s2 : (w2.alloc (.cells #[.slice p1 TS.length c1, .slice u1 BS.length d1, .slice v1 0 e1, .int .i64 0] 33)).cell? ⟨w2.heap.size, 2, none⟩ = some (.slice v1 0 e1) := r2.cell 2
  have s3 : (w2.alloc (.cells #[.slice p1 TS.length c1, .slice u1 BS.length d1, .slice v1 0 e1, .int .i64 0] 33)).cell? ⟨w2.heap.size, 3, none⟩ = some (.int .i64 0) := r2.cell 3
  have t0 : (w2.alloc (.cells #[.slice p1 TS.length c1, .slice u1 BS.length d1, .slice v1 0 e1, .int .i64 0] 33)).cell? ⟨b1, 0, none⟩ = some (.slice p0 TS.length c0) := r1.cell 0
  have t1 : (w2.alloc (.cells #[.slice p1 TS.length c1, .slice u1 BS.length d1, .slice v1 0 e1, .int .i64 0] 33)).cell? ⟨b1, 1, none⟩ = some (.slice u0 BS.length d0) := r1.cell 1
  have t2 : (w2.alloc (.cells #[.slice p1 TS.length c1, .slice u1 BS.length d1, .slice v1 0 e1, .int .i64 0] 33)).cell? ⟨b1, 2, none⟩ = some (.slice v0 0 e0) := r1.cell 2
  have t3 : (w2.alloc (.cells #[.slice p1 TS.length c1, .slice u1 BS.length d1, .slice v1 0 e1, .int .i64 0] 33)).cell? ⟨b1, 3, none⟩ = some (.int .i64 0) := r1.cell 3
  have HA : Hid _ := And.intro r1 (And.intro A0 (And.intro A1 (And.intro r2 (And.intro hB (hZ)))))
  clear r1 A0 A1 r2 hB hZ
  go_wp2_with fail
  generalize w2.heap.size = b2 at *
  generalize w2.alloc (.cells #[.slice p1 TS.length c1, .slice u1 BS.length d1, .slice v1 0 e1, .int .i64 0] 33) = Z2 at *
  obtain ⟨r1, A0, A1, r2, hB, hZ⟩ := HA.out
  clear HA s0 s1 s2 s3 t0 t1 t2 t3
  have hZb2 := hZ
  clear hZ
  refine (HQ.out _ _ _ _ _ p1 c1 u1 d1 v1 e1 p0 c0 u0 d0 v0 e0 A1 A0).mono ?_
  rintro e_ w3 ⟨rfl, hb⟩
  replace r1 := r1.below hb r1.lt
  replace r2 := r2.below hb r2.lt
  replace A0 := A0.below hb
  replace A1 := A1.below hb
  replace hB := hB.trans (hb.mono hB.size)
  clear hb
  have s0 : w3.cell? ⟨b2, 0, none⟩ = some (.slice p1 TS.length c1) := r2.cell 0
  have s1 : w3.cell? ⟨b2, 1, none⟩ = some (.slice u1 BS.length d1) := r2.cell 1
  have s2 : w3.cell? ⟨b2, 2, none⟩ = some (.slice v1 0 e1) := r2.cell 2
  have s3 : w3.cell? ⟨b2, 3, none⟩ = some (.int .i64 0) := r2.cell 3
  go_wp2_with fail
  refine (HMO.out n2 b2 w3 p1 c1 u1 d1 v1 e1 A1 (by have := r2.lt; omega)).mono ?_
  rintro e_ w4 ⟨rfl, M1, hc⟩
  clear HMO A1
  replace r1 := hc.row r1 (.inl (by omega))
  replace r2 := hc.row r2 (.inr (by omega))
  replace A0 := A0.chg hc (.inl (by omega))
  replace hB := hB.trans (hc.1.mono (by omega))
  clear hc s0 s1 s2 s3
  have s0 : w4.cell? ⟨b2, 0, none⟩ = some (.slice p1 TS.length c1) := r2.cell 0
  have s1 : w4.cell? ⟨b2, 1, none⟩ = some (.slice u1 BS.length d1) := r2.cell 1
  have s2 : w4.cell? ⟨b2, 2, none⟩ = some (.slice v1 0 e1) := r2.cell 2
  have s3 : w4.cell? ⟨b2, 3, none⟩ = some (.int .i64 0) := r2.cell 3
  go_wp2_with fail
  refine (HH.out _ _ _ p1 c1 u1 d1 v1 e1 M1).mono ?_
  rintro e_ w5 ⟨rfl, hb⟩
  replace r1 := r1.below hb r1.lt
  replace r2 := r2.below hb r2.lt
  replace A0 := A0.below hb
  replace M1 := M1.below hb
  replace hB := hB.trans (hb.mono hB.size)
  clear hb
  clear s0 s1 s2 s3
  have dN : decide (KK < 0) = false := by simpa using HKK.out
  have dM : (KK != KK) = false := by simp
  go_wp2_with fail
  refine (HI.out _ (HM.out.below hB)).mono ?_
  rintro e_ w6 ⟨⟨p2, c2, u2, d2, v2, e2, rfl, A2⟩, hb⟩
  replace r1 := r1.below hb r1.lt
  replace r2 := r2.below hb r2.lt
  replace A0 := A0.below hb
  replace M1 := M1.below hb
  replace hB := hB.trans (hb.mono hB.size)
  clear hb
  clear HI HM
  replace r1 := r1.alloc (.cells #[.slice p2 TS.length c2, .slice u2 BS.length d2, .slice v2 0 e2, .int .i64 0] 33)
  replace r2 := r2.alloc (.cells #[.slice p2 TS.length c2, .slice u2 BS.length d2, .slice v2 0 e2, .int .i64 0] 33)
  replace A0 := A0.below (ent_new0 w6 (.cells #[.slice p2 TS.length c2, .slice u2 BS.length d2, .slice v2 0 e2, .int .i64 0] 33))
  replace M1 := M1.below (ent_new0 w6 (.cells #[.slice p2 TS.length c2, .slice u2 BS.length d2, .slice v2 0 e2, .int .i64 0] 33))
  replace A2 := A2.below (ent_new0 w6 (.cells #[.slice p2 TS.length c2, .slice u2 BS.length d2, .slice v2 0 e2, .int .i64 0] 33))
  have r5 := Row.new w6 33 [.slice p2 TS.length c2, .slice u2 BS.length d2, .slice v2 0 e2, .int .i64 0]
  replace hB := hB.alloc (by have := hB.size; omega) (.cells #[.slice p2 TS.length c2, .slice u2 BS.length d2, .slice v2 0 e2, .int .i64 0] 33)
  have hZ : w6.heap.size < (w6.alloc (.cells #[.slice p2 TS.length c2, .slice u2 BS.length d2, .slice v2 0 e2, .int .i64 0] 33)).heap.size := by simp
  have s0 : (w6.alloc (.cells #[.slice p2 TS.length c2, .slice u2 BS.length d2, .slice v2 0 e2, .int .i64 0] 33)).cell? ⟨w6.heap.size, 0, none⟩ = some (.slice p2 TS.length c2) := r5.cell 0
  have s1 : (w6.alloc (.cells #[.slice p2 TS.length c2, .slice u2 BS.length d2, .slice v2 0 e2, .int .i64 0] 33)).cell? ⟨w6.heap.size, 1, none⟩ = some (.slice u2 BS.length d2) := r5.cell 1
  have s2 : (w6.alloc (.cells #[.slice p2 TS.length c2, .slice u2 BS.length d2, .slice v2 0 e2, .int .i64 0] 33)).cell? ⟨w6.heap.size, 2, none⟩ = some (.slice v2 0 e2) := r5.cell 2
  have s3 : (w6.alloc (.cells #[.slice p2 TS.length c2, .slice u2 BS.length d2, .slice v2 0 e2, .int .i64 0] 33)).cell? ⟨w6.heap.size, 3, none⟩ = some (.int .i64 0) := r5.cell 3
  have t0 : (w6.alloc (.cells #[.slice p2 TS.length c2, .slice u2 BS.length d2, .slice v2 0 e2, .int .i64 0] 33)).cell? ⟨b1, 0, none⟩ = some (.slice p0 TS.length c0) := r1.cell 0
  have t1 : (w6.alloc (.cells #[.slice p2 TS.length c2, .slice u2 BS.length d2, .slice v2 0 e2, .int .i64 0] 33)).cell? ⟨b1, 1, none⟩ = some (.slice u0 BS.length d0) := r1.cell 1
  have t2 : (w6.alloc (.cells #[.slice p2 TS.length c2, .slice u2 BS.length d2, .slice v2 0 e2, .int .i64 0] 33)).cell? ⟨b1, 2, none⟩ = some (.slice v0 0 e0) := r1.cell 2
  have t3 : (w6.alloc (.cells #[.slice p2 TS.length c2, .slice u2 BS.length d2, .slice v2 0 e2, .int .i64 0] 33)).cell? ⟨b1, 3, none⟩ = some (.int .i64 0) := r1.cell 3
  have HA : Hid _ := And.intro r1 (And.intro r2 (And.intro A0 (And.intro M1 (And.intro A2 (And.intro r5 (And.intro hB (hZ)))))))
  clear r1 r2 A0 M1 A2 r5 hB hZ
  go_wp2_with fail
  generalize w6.heap.size = b5 at *
  generalize w6.alloc (.cells #[.slice p2 TS.length c2, .slice u2 BS.length d2, .slice v2 0 e2, .int .i64 0] 33) = Z5 at *
  obtain ⟨r1, r2, A0, M1, A2, r5, hB, hZ⟩ := HA.out
  clear HA s0 s1 s2 s3 t0 t1 t2 t3
  have hZb5 := hZ
  clear hZ
  refine (HQ.out _ _ _ _ _ p2 c2 u2 d2 v2 e2 p0 c0 u0 d0 v0 e0 A2 A0).mono ?_
  rintro e_ w7 ⟨rfl, hb⟩
  replace r2 := r2.below hb r2.lt
  replace M1 := M1.below hb
  replace hB := hB.trans (hb.mono hB.size)
  clear hb
  clear A0 A2 r1 r5 HQ
  have s0 : w7.cell? ⟨b2, 0, none⟩ = some (.slice p1 TS.length c1) := r2.cell 0
  have s1 : w7.cell? ⟨b2, 1, none⟩ = some (.slice u1 BS.length d1) := r2.cell 1
  have s2 : w7.cell? ⟨b2, 2, none⟩ = some (.slice v1 0 e1) := r2.cell 2
  have s3 : w7.cell? ⟨b2, 3, none⟩ = some (.int .i64 0) := r2.cell 3
  go_wp2_with fail
  refine (HH.out _ _ _ p1 c1 u1 d1 v1 e1 M1).mono ?_
  rintro e_ w8 ⟨rfl, hb⟩
  replace hB := hB.trans (hb.mono hB.size)
  clear hb s0 s1 s2 s3
  go_wp2
  go_ret
  exact ⟨rfl, hB⟩
end Go.Proofs.YtialedffpaoacaaGreatDoor
