/- Texts that stand on each other, in one file: DskI. -/
import Derived.Test.YtialedffpaoacaaGreatDoorPack38
import Derived.Test.YtialedffpaoacaaGreatDoorPack36
import Derived.Test.YtialedffpaoacaaGreatDoorPack18
/- The desk's own Box, by the program. (Written by gen_dsk.py.) -/
namespace Go.Proofs.YtialedffpaoacaaGreatDoor
open Go.RowKit Go.Sort

theorem fieldNum_run (a b c : Int) (w : World) : (Instr.field 173 (.agg #[.int .i64 a, .int .i64 b, .int .i64 c]) 0).run Tryz.prog w = .ok (.int .i64 a) w := by kernel_rfl
theorem fieldInst_run (x : Option Addr) (n1 c1 : Nat) (y : Option Addr) (n2 c2 : Nat) (now cc : Int) (w : World) : (Instr.field 74 (.agg #[.slice x n1 c1, .slice y n2 c2, .int .i64 now, .int .i64 cc]) 0).run Tryz.prog w = .ok (.agg #[.slice x n1 c1, .slice y n2 c2, .int .i64 now]) w := by kernel_rfl
set_option maxRecDepth 100000 in
set_option maxHeartbeats 4000000 in
theorem deskIface_any (t : ByteArray) (a na : Int) (w : World) (hs : t.size ≤ 1048576) (hr : readA t = (a, 0)) (hn : netA a 24 = na ∧ netN a 24 = 24) (hM : MaxI w) :
    Calls Tryz.prog 65 #[.string t] w fun e w' => e = .returned (.agg #[.int .i64 a, .int .i64 na, .int .i64 24, .int .i64 1, .bool false]) ∧ Below w.heap.size w w' := by
  have HA : Hid (∀ W, MaxI W → Calls Tryz.prog 115 #[.string t] W fun e w' => e = .returned (.agg #[.int .i64 a, .int .i64 0, .int .i64 0]) ∧ Below W.heap.size W w') := fun W h => by
    have := implAddrRead_any t W h hs
    rw [hr] at this
    exact this
  have HN : Hid (∀ W, Calls Tryz.prog 116 #[.int .i64 a, .int .i64 24] W fun e w' => e = .returned (.agg #[.int .i64 na, .int .i64 24]) ∧ Below W.heap.size W w') := fun W => by
    have := implNetOf_any a 24 W
    rw [hn.1, hn.2] at this
    exact this
  have rz := Row.new w 72 [.int .i64 0, .int .i64 0, .int .i64 0, .int .i64 0, .bool false]
  have hB := ent_new0 w (.cells #[.int .i64 0, .int .i64 0, .int .i64 0, .int .i64 0, .bool false] 72)
  have HM : Hid (MaxI (w.alloc (.cells #[.int .i64 0, .int .i64 0, .int .i64 0, .int .i64 0, .bool false] 72))) := hM.below hB
  have HQ : Hid _ := And.intro rz hB
  clear hr hn hs hM rz hB
  go_enter Tryz.func65, Tryz.ntmps65
  go_wp2_with fail
  obtain ⟨rz, hB⟩ := HQ.out
  clear HQ
  refine (HA.out _ HM.out).mono ?_
  rintro e w1 ⟨rfl, hb⟩
  replace rz := rz.below hb rz.lt
  replace hB := hB.trans (hb.mono hB.size)
  clear hb HA HM
  have hfl := fun w => fieldNum_run a 0 0 w
  go_wp2_with fail
  clear hfl
  refine (HN.out _).mono ?_
  rintro e w2 ⟨rfl, hb⟩
  replace rz := rz.below hb rz.lt
  replace hB := hB.trans (hb.mono hB.size)
  clear hb HN
  have z0 : w2.cell? ⟨w.heap.size, 0, none⟩ = some (.int .i64 0) := rz.cell 0
  have z1 : w2.cell? ⟨w.heap.size, 1, none⟩ = some (.int .i64 0) := rz.cell 1
  have z2 : w2.cell? ⟨w.heap.size, 2, none⟩ = some (.int .i64 0) := rz.cell 2
  have z3 : w2.cell? ⟨w.heap.size, 3, none⟩ = some (.int .i64 0) := rz.cell 3
  have z4 : w2.cell? ⟨w.heap.size, 4, none⟩ = some (.bool false) := rz.cell 4
  have f0 : w2.frozen? ⟨w.heap.size, 0, none⟩ = false := rz.frozen 0
  have f1 : w2.frozen? ⟨w.heap.size, 1, none⟩ = false := rz.frozen 1
  have f2 : w2.frozen? ⟨w.heap.size, 2, none⟩ = false := rz.frozen 2
  have f3 : w2.frozen? ⟨w.heap.size, 3, none⟩ = false := rz.frozen 3
  have f4 : w2.frozen? ⟨w.heap.size, 4, none⟩ = false := rz.frozen 4
  have hko : ∀ g t l, g ≠ w.heap.size → Row w2 g t l → Row (((((w2.setCell ⟨w.heap.size, 0, none⟩ (.int .i64 a)).setCell ⟨w.heap.size, 1, none⟩ (.int .i64 na)).setCell ⟨w.heap.size, 2, none⟩ (.int .i64 24)).setCell ⟨w.heap.size, 3, none⟩ (.int .i64 1)).setCell ⟨w.heap.size, 4, none⟩ (.bool false)) g t l := fun g t l hne h => (((((h.other 0 (.int .i64 a) hne).other 1 (.int .i64 na) hne).other 2 (.int .i64 24) hne).other 3 (.int .i64 1) hne).other 4 (.bool false) hne)
  have HE : Hid ((Row (((((w2.setCell ⟨w.heap.size, 0, none⟩ (.int .i64 a)).setCell ⟨w.heap.size, 1, none⟩ (.int .i64 na)).setCell ⟨w.heap.size, 2, none⟩ (.int .i64 24)).setCell ⟨w.heap.size, 3, none⟩ (.int .i64 1)).setCell ⟨w.heap.size, 4, none⟩ (.bool false)) w.heap.size 72 [.int .i64 a, .int .i64 na, .int .i64 24, .int .i64 1, .bool false] ∧ Below w.heap.size w (((((w2.setCell ⟨w.heap.size, 0, none⟩ (.int .i64 a)).setCell ⟨w.heap.size, 1, none⟩ (.int .i64 na)).setCell ⟨w.heap.size, 2, none⟩ (.int .i64 24)).setCell ⟨w.heap.size, 3, none⟩ (.int .i64 1)).setCell ⟨w.heap.size, 4, none⟩ (.bool false)))) := ⟨(((((rz.set 0 (.int .i64 a)).set 1 (.int .i64 na)).set 2 (.int .i64 24)).set 3 (.int .i64 1)).set 4 (.bool false)), (((((hB.setCell (p := ⟨w.heap.size, 0, none⟩) (Nat.le_refl _) (.int .i64 a)).setCell (p := ⟨w.heap.size, 1, none⟩) (Nat.le_refl _) (.int .i64 na)).setCell (p := ⟨w.heap.size, 2, none⟩) (Nat.le_refl _) (.int .i64 24)).setCell (p := ⟨w.heap.size, 3, none⟩) (Nat.le_refl _) (.int .i64 1)).setCell (p := ⟨w.heap.size, 4, none⟩) (Nat.le_refl _) (.bool false))⟩
  clear rz hB hko 
  go_wp2_with fail
  obtain ⟨k1, k2⟩ := HE.out
  clear HE z0 f0 z1 f1 z2 f2 z3 f3 z4 f4
  generalize (((((w2.setCell ⟨w.heap.size, 0, none⟩ (.int .i64 a)).setCell ⟨w.heap.size, 1, none⟩ (.int .i64 na)).setCell ⟨w.heap.size, 2, none⟩ (.int .i64 24)).setCell ⟨w.heap.size, 3, none⟩ (.int .i64 1)).setCell ⟨w.heap.size, 4, none⟩ (.bool false)) = Y at *
  have e0 : Y.cell? ⟨w.heap.size, 0, none⟩ = some (.int .i64 a) := k1.cell 0
  have e1 : Y.cell? ⟨w.heap.size, 1, none⟩ = some (.int .i64 na) := k1.cell 1
  have e2 : Y.cell? ⟨w.heap.size, 2, none⟩ = some (.int .i64 24) := k1.cell 2
  have e3 : Y.cell? ⟨w.heap.size, 3, none⟩ = some (.int .i64 1) := k1.cell 3
  have e4 : Y.cell? ⟨w.heap.size, 4, none⟩ = some (.bool false) := k1.cell 4
  exact bodyPost_ret (v := .agg #[.int .i64 a, .int .i64 na, .int .i64 24, .int .i64 1, .bool false]) (by simp [results, Tryz.results65, go_sem, e0, e1, e2, e3, e4]) rfl ⟨rfl, k2⟩
set_option maxRecDepth 100000 in
set_option maxHeartbeats 4000000 in
theorem deskTenant_any (key : ByteArray) (w : World) (hM : MaxI w) {cc nw : Int} {is : List If} {rs : List Rt} (hE : newO dIs = (cc, is, rs, nw)) :
    Calls Tryz.prog 32 #[.string key] w fun e w' => (∃ x c1 y c2, e = .returned (.agg #[.slice x is.length c1, .slice y rs.length c2, .int .i64 nw, .string key, .int .i64 4, .slice none 0 0, .slice none 0 0, .int .i64 0]) ∧ w'.ownsRow w.heap.size 72 5 (.slice x is.length c1) is.length (rowI is) ∧ w'.ownsRow w.heap.size 144 9 (.slice y rs.length c2) rs.length (rowR rs)) ∧ Below w.heap.size w w' := by
  have HA : Hid (∀ W, MaxI W → Calls Tryz.prog 65 #[.string ⟨#[49, 48, 46, 48, 46, 48, 46, 49]⟩] W fun e w' => e = .returned (.agg #[.int .i64 167772161, .int .i64 167772160, .int .i64 24, .int .i64 1, .bool false]) ∧ Below W.heap.size W w') := fun W h => deskIface_any tA _ _ W (by decide) readA_tA net_tA h
  have HB : Hid (∀ W, MaxI W → Calls Tryz.prog 65 #[.string ⟨#[49, 48, 46, 48, 46, 49, 46, 49]⟩] W fun e w' => e = .returned (.agg #[.int .i64 167772417, .int .i64 167772416, .int .i64 24, .int .i64 1, .bool false]) ∧ Below W.heap.size W w') := fun W h => deskIface_any tB _ _ W (by decide) readA_tB net_tB h
  have HN : Hid (∀ g W, Row W g 72 (rowI dIs) → Calls Tryz.prog 66 #[.slice (some ⟨g, 0, none⟩) 2 2] W fun e w' => (∃ x c1 y c2, e = .returned (.agg #[.slice x is.length c1, .slice y rs.length c2, .int .i64 nw, .int .i64 cc]) ∧ w'.ownsRow W.heap.size 72 5 (.slice x is.length c1) is.length (rowI is) ∧ w'.ownsRow W.heap.size 144 9 (.slice y rs.length c2) rs.length (rowR rs)) ∧ Below W.heap.size W w') := fun g W h => by
    have := implNew_any (some ⟨g, 0, none⟩) 2 dIs W (ifsIn_row h) (by decide) (fun e => by cases e) (by decide)
    unfold OutI at this
    rw [hE] at this
    exact this
  have rz := Row.new w 55 [.slice none 0 0, .slice none 0 0, .int .i64 0, .string ⟨#[]⟩, .int .i64 0, .slice none 0 0, .slice none 0 0, .int .i64 0]
  have hB := ent_new0 w (.cells #[.slice none 0 0, .slice none 0 0, .int .i64 0, .string ⟨#[]⟩, .int .i64 0, .slice none 0 0, .slice none 0 0, .int .i64 0] 55)
  have HM : Hid (MaxI w) := hM
  have HQ : Hid _ := And.intro rz hB
  clear hM rz hB hE
  go_enter Tryz.func32, Tryz.ntmps32
  go_wp2_with fail
  obtain ⟨rz, hB⟩ := HQ.out
  clear HQ
  refine (HA.out _ (HM.out.below hB)).mono ?_
  rintro e w1 ⟨rfl, hb⟩
  replace rz := rz.below hb rz.lt
  replace hB := hB.trans (hb.mono hB.size)
  clear hb HA
  go_wp2_with fail
  refine (HB.out _ (HM.out.below hB)).mono ?_
  rintro e w2 ⟨rfl, hb⟩
  replace rz := rz.below hb rz.lt
  replace hB := hB.trans (hb.mono hB.size)
  clear hb HB HM
  have ri := Row.new w2 72 [.int .i64 167772161, .int .i64 167772160, .int .i64 24, .int .i64 1, .bool false, .int .i64 167772417, .int .i64 167772416, .int .i64 24, .int .i64 1, .bool false]
  have hI : Row (w2.alloc (.cells #[.int .i64 167772161, .int .i64 167772160, .int .i64 24, .int .i64 1, .bool false, .int .i64 167772417, .int .i64 167772416, .int .i64 24, .int .i64 1, .bool false] 72)) w2.heap.size 72 (rowI dIs) := ri
  have HP : Hid _ := And.intro (rz.alloc (.cells #[.int .i64 167772161, .int .i64 167772160, .int .i64 24, .int .i64 1, .bool false, .int .i64 167772417, .int .i64 167772416, .int .i64 24, .int .i64 1, .bool false] 72)) (And.intro hI (hB.alloc hB.size (.cells #[.int .i64 167772161, .int .i64 167772160, .int .i64 24, .int .i64 1, .bool false, .int .i64 167772417, .int .i64 167772416, .int .i64 24, .int .i64 1, .bool false] 72)))
  clear rz hB ri hI
  go_wp2_with fail
  generalize w2.heap.size = g at *
  generalize w2.alloc (.cells #[.int .i64 167772161, .int .i64 167772160, .int .i64 24, .int .i64 1, .bool false, .int .i64 167772417, .int .i64 167772416, .int .i64 24, .int .i64 1, .bool false] 72) = W2 at *
  obtain ⟨rz, hI, hB⟩ := HP.out
  clear HP
  refine (HN.out _ _ hI).mono ?_
  rintro e w3 ⟨⟨x, c1, y, c2, rfl, oi, orr⟩, hb⟩
  have oi := owns_mono oi hB.size
  have orr := owns_mono orr hB.size
  replace rz := rz.below hb rz.lt
  replace hB := hB.trans (hb.mono hB.size)
  clear hb HN hI
  have hfl := fun w => fieldInst_run x is.length c1 y rs.length c2 nw cc w
  have z0 : w3.cell? ⟨w.heap.size, 0, none⟩ = some (.slice none 0 0) := rz.cell 0
  have z1 : w3.cell? ⟨w.heap.size, 1, none⟩ = some (.slice none 0 0) := rz.cell 1
  have z2 : w3.cell? ⟨w.heap.size, 2, none⟩ = some (.int .i64 0) := rz.cell 2
  have z3 : w3.cell? ⟨w.heap.size, 3, none⟩ = some (.string ⟨#[]⟩) := rz.cell 3
  have z4 : w3.cell? ⟨w.heap.size, 4, none⟩ = some (.int .i64 0) := rz.cell 4
  have z5 : w3.cell? ⟨w.heap.size, 5, none⟩ = some (.slice none 0 0) := rz.cell 5
  have z6 : w3.cell? ⟨w.heap.size, 6, none⟩ = some (.slice none 0 0) := rz.cell 6
  have z7 : w3.cell? ⟨w.heap.size, 7, none⟩ = some (.int .i64 0) := rz.cell 7
  have f0 : w3.frozen? ⟨w.heap.size, 0, none⟩ = false := rz.frozen 0
  have f1 : w3.frozen? ⟨w.heap.size, 1, none⟩ = false := rz.frozen 1
  have f2 : w3.frozen? ⟨w.heap.size, 2, none⟩ = false := rz.frozen 2
  have f3 : w3.frozen? ⟨w.heap.size, 3, none⟩ = false := rz.frozen 3
  have f4 : w3.frozen? ⟨w.heap.size, 4, none⟩ = false := rz.frozen 4
  have f5 : w3.frozen? ⟨w.heap.size, 5, none⟩ = false := rz.frozen 5
  have f6 : w3.frozen? ⟨w.heap.size, 6, none⟩ = false := rz.frozen 6
  have f7 : w3.frozen? ⟨w.heap.size, 7, none⟩ = false := rz.frozen 7
  have hko : ∀ g t l, g ≠ w.heap.size → Row w3 g t l → Row ((((((((w3.setCell ⟨w.heap.size, 0, none⟩ (.slice x is.length c1)).setCell ⟨w.heap.size, 1, none⟩ (.slice y rs.length c2)).setCell ⟨w.heap.size, 2, none⟩ (.int .i64 nw)).setCell ⟨w.heap.size, 3, none⟩ (.string key)).setCell ⟨w.heap.size, 4, none⟩ (.int .i64 4)).setCell ⟨w.heap.size, 5, none⟩ (.slice none 0 0)).setCell ⟨w.heap.size, 6, none⟩ (.slice none 0 0)).setCell ⟨w.heap.size, 7, none⟩ (.int .i64 0)) g t l := fun g t l hne h => ((((((((h.other 0 (.slice x is.length c1) hne).other 1 (.slice y rs.length c2) hne).other 2 (.int .i64 nw) hne).other 3 (.string key) hne).other 4 (.int .i64 4) hne).other 5 (.slice none 0 0) hne).other 6 (.slice none 0 0) hne).other 7 (.int .i64 0) hne)
  have HE : Hid ((Row ((((((((w3.setCell ⟨w.heap.size, 0, none⟩ (.slice x is.length c1)).setCell ⟨w.heap.size, 1, none⟩ (.slice y rs.length c2)).setCell ⟨w.heap.size, 2, none⟩ (.int .i64 nw)).setCell ⟨w.heap.size, 3, none⟩ (.string key)).setCell ⟨w.heap.size, 4, none⟩ (.int .i64 4)).setCell ⟨w.heap.size, 5, none⟩ (.slice none 0 0)).setCell ⟨w.heap.size, 6, none⟩ (.slice none 0 0)).setCell ⟨w.heap.size, 7, none⟩ (.int .i64 0)) w.heap.size 55 [.slice x is.length c1, .slice y rs.length c2, .int .i64 nw, .string key, .int .i64 4, .slice none 0 0, .slice none 0 0, .int .i64 0] ∧ Below w.heap.size w ((((((((w3.setCell ⟨w.heap.size, 0, none⟩ (.slice x is.length c1)).setCell ⟨w.heap.size, 1, none⟩ (.slice y rs.length c2)).setCell ⟨w.heap.size, 2, none⟩ (.int .i64 nw)).setCell ⟨w.heap.size, 3, none⟩ (.string key)).setCell ⟨w.heap.size, 4, none⟩ (.int .i64 4)).setCell ⟨w.heap.size, 5, none⟩ (.slice none 0 0)).setCell ⟨w.heap.size, 6, none⟩ (.slice none 0 0)).setCell ⟨w.heap.size, 7, none⟩ (.int .i64 0))) ∧ ((((((((w3.setCell ⟨w.heap.size, 0, none⟩ (.slice x is.length c1)).setCell ⟨w.heap.size, 1, none⟩ (.slice y rs.length c2)).setCell ⟨w.heap.size, 2, none⟩ (.int .i64 nw)).setCell ⟨w.heap.size, 3, none⟩ (.string key)).setCell ⟨w.heap.size, 4, none⟩ (.int .i64 4)).setCell ⟨w.heap.size, 5, none⟩ (.slice none 0 0)).setCell ⟨w.heap.size, 6, none⟩ (.slice none 0 0)).setCell ⟨w.heap.size, 7, none⟩ (.int .i64 0)).ownsRow w.heap.size 72 5 (.slice x is.length c1) is.length (rowI is) ∧ ((((((((w3.setCell ⟨w.heap.size, 0, none⟩ (.slice x is.length c1)).setCell ⟨w.heap.size, 1, none⟩ (.slice y rs.length c2)).setCell ⟨w.heap.size, 2, none⟩ (.int .i64 nw)).setCell ⟨w.heap.size, 3, none⟩ (.string key)).setCell ⟨w.heap.size, 4, none⟩ (.int .i64 4)).setCell ⟨w.heap.size, 5, none⟩ (.slice none 0 0)).setCell ⟨w.heap.size, 6, none⟩ (.slice none 0 0)).setCell ⟨w.heap.size, 7, none⟩ (.int .i64 0)).ownsRow w.heap.size 144 9 (.slice y rs.length c2) rs.length (rowR rs)) := ⟨⟨((((((((rz.set 0 (.slice x is.length c1)).set 1 (.slice y rs.length c2)).set 2 (.int .i64 nw)).set 3 (.string key)).set 4 (.int .i64 4)).set 5 (.slice none 0 0)).set 6 (.slice none 0 0)).set 7 (.int .i64 0)), ((((((((hB.setCell (p := ⟨w.heap.size, 0, none⟩) (Nat.le_refl _) (.slice x is.length c1)).setCell (p := ⟨w.heap.size, 1, none⟩) (Nat.le_refl _) (.slice y rs.length c2)).setCell (p := ⟨w.heap.size, 2, none⟩) (Nat.le_refl _) (.int .i64 nw)).setCell (p := ⟨w.heap.size, 3, none⟩) (Nat.le_refl _) (.string key)).setCell (p := ⟨w.heap.size, 4, none⟩) (Nat.le_refl _) (.int .i64 4)).setCell (p := ⟨w.heap.size, 5, none⟩) (Nat.le_refl _) (.slice none 0 0)).setCell (p := ⟨w.heap.size, 6, none⟩) (Nat.le_refl _) (.slice none 0 0)).setCell (p := ⟨w.heap.size, 7, none⟩) (Nat.le_refl _) (.int .i64 0))⟩, owns_kept oi (fun b t l e h => hko b t l (fun e2 => by subst e2; exact owns_ne oi rz (by decide) e) h), owns_kept orr (fun b t l e h => hko b t l (fun e2 => by subst e2; exact owns_ne orr rz (by decide) e) h)⟩
  clear rz hB hko oi orr
  go_wp2_with fail
  obtain ⟨⟨k1, k2⟩, oi, orr⟩ := HE.out
  clear HE z0 f0 z1 f1 z2 f2 z3 f3 z4 f4 z5 f5 z6 f6 z7 f7
  generalize ((((((((w3.setCell ⟨w.heap.size, 0, none⟩ (.slice x is.length c1)).setCell ⟨w.heap.size, 1, none⟩ (.slice y rs.length c2)).setCell ⟨w.heap.size, 2, none⟩ (.int .i64 nw)).setCell ⟨w.heap.size, 3, none⟩ (.string key)).setCell ⟨w.heap.size, 4, none⟩ (.int .i64 4)).setCell ⟨w.heap.size, 5, none⟩ (.slice none 0 0)).setCell ⟨w.heap.size, 6, none⟩ (.slice none 0 0)).setCell ⟨w.heap.size, 7, none⟩ (.int .i64 0)) = Y at *
  have e0 : Y.cell? ⟨w.heap.size, 0, none⟩ = some (.slice x is.length c1) := k1.cell 0
  have e1 : Y.cell? ⟨w.heap.size, 1, none⟩ = some (.slice y rs.length c2) := k1.cell 1
  have e2 : Y.cell? ⟨w.heap.size, 2, none⟩ = some (.int .i64 nw) := k1.cell 2
  have e3 : Y.cell? ⟨w.heap.size, 3, none⟩ = some (.string key) := k1.cell 3
  have e4 : Y.cell? ⟨w.heap.size, 4, none⟩ = some (.int .i64 4) := k1.cell 4
  have e5 : Y.cell? ⟨w.heap.size, 5, none⟩ = some (.slice none 0 0) := k1.cell 5
  have e6 : Y.cell? ⟨w.heap.size, 6, none⟩ = some (.slice none 0 0) := k1.cell 6
  have e7 : Y.cell? ⟨w.heap.size, 7, none⟩ = some (.int .i64 0) := k1.cell 7
  exact bodyPost_ret (v := .agg #[.slice x is.length c1, .slice y rs.length c2, .int .i64 nw, .string key, .int .i64 4, .slice none 0 0, .slice none 0 0, .int .i64 0]) (by simp [results, Tryz.results32, go_sem, e0, e1, e2, e3, e4, e5, e6, e7]) rfl ⟨⟨x, c1, y, c2, rfl, oi, orr⟩, k2⟩
theorem ownT_desk {W : World} {base : Nat} {x : Option Addr} {c1 : Nat} {y : Option Addr} {c2 : Nat} {is : List If} {rs : List Rt} {nw : Int} {key : ByteArray} (h1 : W.ownsRow base 72 5 (.slice x is.length c1) is.length (rowI is)) (h2 : W.ownsRow base 144 9 (.slice y rs.length c2) rs.length (rowR rs)) : OwnT W base ⟨x, c1, y, c2, none, 0, none, 0⟩ ⟨is, rs, nw, key, 4, [], [], 0⟩ := ⟨h1, h2, World.ownsRow_nil _ _ _ 2, World.ownsRow_nil _ _ _ 2⟩
set_option maxRecDepth 100000 in
set_option maxHeartbeats 4000000 in
theorem implDesk_any (w : World) (hM : MaxI w) :
    Calls Tryz.prog 11 #[] w fun e w' => (∃ p c pb cb pl cl, e = .returned (.agg #[.slice p dTS.length c, .slice pb dBS.length cb, .slice pl ([] : List Lk).length cl, .int .i64 0]) ∧ AnsX dTS dBS [] w.heap.size w'.heap.size w' p c pb cb pl cl) ∧ Below w.heap.size w w' := by
  obtain ⟨⟨cc, is, rs, nw⟩, hE⟩ : ∃ r, newO dIs = r := ⟨_, rfl⟩
  have hTS : [((⟨none, 0, none, 0, none, 0, none, 0⟩, ⟨is, rs, nw, kRed, 4, [], [], 0⟩) : TnP), (⟨none, 0, none, 0, none, 0, none, 0⟩, ⟨is, rs, nw, kBlue, 4, [], [], 0⟩)].map (·.2) = dTS := by unfold dTS dTn; rw [hE]; rfl
  have HTS : Hid (∀ x1 c1 y1 d1 x2 c2 y2 d2, [((⟨x1, c1, y1, d1, none, 0, none, 0⟩, ⟨is, rs, nw, kRed, 4, [], [], 0⟩) : TnP), (⟨x2, c2, y2, d2, none, 0, none, 0⟩, ⟨is, rs, nw, kBlue, 4, [], [], 0⟩)].map (·.2) = dTS) := fun _ _ _ _ _ _ _ _ => hTS
  clear hTS
  have HR : Hid (∀ W, MaxI W → Calls Tryz.prog 32 #[.string ⟨#[114, 101, 100]⟩] W fun e w' => (∃ x c1 y c2, e = .returned (.agg #[.slice x is.length c1, .slice y rs.length c2, .int .i64 nw, .string ⟨#[114, 101, 100]⟩, .int .i64 4, .slice none 0 0, .slice none 0 0, .int .i64 0]) ∧ w'.ownsRow W.heap.size 72 5 (.slice x is.length c1) is.length (rowI is) ∧ w'.ownsRow W.heap.size 144 9 (.slice y rs.length c2) rs.length (rowR rs)) ∧ Below W.heap.size W w') := fun W h => deskTenant_any _ W h hE
  have HB : Hid (∀ W, MaxI W → Calls Tryz.prog 32 #[.string ⟨#[98, 108, 117, 101]⟩] W fun e w' => (∃ x c1 y c2, e = .returned (.agg #[.slice x is.length c1, .slice y rs.length c2, .int .i64 nw, .string ⟨#[98, 108, 117, 101]⟩, .int .i64 4, .slice none 0 0, .slice none 0 0, .int .i64 0]) ∧ w'.ownsRow W.heap.size 72 5 (.slice x is.length c1) is.length (rowI is) ∧ w'.ownsRow W.heap.size 144 9 (.slice y rs.length c2) rs.length (rowR rs)) ∧ Below W.heap.size W w') := fun W h => deskTenant_any _ W h hE
  have rz := Row.new w 33 [.slice none 0 0, .slice none 0 0, .slice none 0 0, .int .i64 0]
  have hB := ent_new0 w (.cells #[.slice none 0 0, .slice none 0 0, .slice none 0 0, .int .i64 0] 33)
  have HM : Hid (MaxI w) := hM
  have HQ : Hid _ := And.intro rz hB
  clear hM rz hB hE
  go_enter Tryz.func11, Tryz.ntmps11
  go_wp2_with fail
  obtain ⟨rz, hB⟩ := HQ.out
  clear HQ
  refine (HR.out _ (HM.out.below hB)).mono ?_
  rintro e w1 ⟨⟨x1, c1, y1, d1, rfl, oi1, or1⟩, hb⟩
  replace oi1 := owns_mono oi1 hB.size
  replace or1 := owns_mono or1 hB.size
  replace rz := rz.below hb rz.lt
  replace hB := hB.trans (hb.mono hB.size)
  clear hb HR
  have hlt : ∀ b, (x1 = some ⟨b, 0, none⟩ ∨ y1 = some ⟨b, 0, none⟩) → b < w1.heap.size := fun b h => by
    rcases h with e | e
    · exact owns_lt oi1 b e
    · exact owns_lt or1 b e
  go_wp2_with fail
  refine (HB.out _ (HM.out.below hB)).mono ?_
  rintro e w2 ⟨⟨x2, c2, y2, d2, rfl, oi2, or2⟩, hb⟩
  have hge : ∀ b, (x2 = some ⟨b, 0, none⟩ ∨ y2 = some ⟨b, 0, none⟩) → w1.heap.size ≤ b := fun b h => by
    rcases h with e | e
    · exact owns_ge oi2 b e
    · exact owns_ge or2 b e
  replace oi1 := owns_below oi1 hb
  replace or1 := owns_below or1 hb
  replace oi2 := owns_mono oi2 hB.size
  replace or2 := owns_mono or2 hB.size
  replace rz := rz.below hb rz.lt
  replace hB := hB.trans (hb.mono hB.size)
  clear hb HB HM
  have hap : ApT [((⟨x1, c1, y1, d1, none, 0, none, 0⟩, ⟨is, rs, nw, kRed, 4, [], [], 0⟩) : TnP), (⟨x2, c2, y2, d2, none, 0, none, 0⟩, ⟨is, rs, nw, kBlue, 4, [], [], 0⟩)] := by
    have h1 : ∀ b, (⟨x1, c1, y1, d1, none, 0, none, 0⟩ : Tp).has b → b < w1.heap.size := fun b h => by
      rcases h with e | e | e | e
      · exact hlt b (.inl e)
      · exact hlt b (.inr e)
      · cases e
      · cases e
    have h2 : ∀ b, (⟨x2, c2, y2, d2, none, 0, none, 0⟩ : Tp).has b → w1.heap.size ≤ b := fun b h => by
      rcases h with e | e | e | e
      · exact hge b (.inl e)
      · exact hge b (.inr e)
      · cases e
      · cases e
    intro i j hi hj hne g h3 h4
    have hi2 : i < 2 := hi
    have hj2 : j < 2 := hj
    have hij : i = 0 ∧ j = 1 ∨ i = 1 ∧ j = 0 := by omega
    rcases hij with ⟨rfl, rfl⟩ | ⟨rfl, rfl⟩
    · have := h1 g h3; have := h2 g h4; omega
    · have := h2 g h3; have := h1 g h4; omega
  have HAP : Hid _ := hap
  clear hap hlt hge
  have rt := (Row.new w2 55 [.slice x1 is.length c1, .slice y1 rs.length d1, .int .i64 nw, .string ⟨#[114, 101, 100]⟩, .int .i64 4, .slice none 0 0, .slice none 0 0, .int .i64 0, .slice x2 is.length c2, .slice y2 rs.length d2, .int .i64 nw, .string ⟨#[98, 108, 117, 101]⟩, .int .i64 4, .slice none 0 0, .slice none 0 0, .int .i64 0]).alloc (.cells #[.int .i64 0, .int .i64 10, .int .i64 0, .int .i64 0, .int .i64 0, .int .i64 11, .int .i64 0, .int .i64 1, .int .i64 0, .int .i64 20, .int .i64 1, .int .i64 0, .int .i64 0, .int .i64 21, .int .i64 1, .int .i64 1] 77)
  have rb := Row.new (w2.alloc (.cells #[.slice x1 is.length c1, .slice y1 rs.length d1, .int .i64 nw, .string ⟨#[114, 101, 100]⟩, .int .i64 4, .slice none 0 0, .slice none 0 0, .int .i64 0, .slice x2 is.length c2, .slice y2 rs.length d2, .int .i64 nw, .string ⟨#[98, 108, 117, 101]⟩, .int .i64 4, .slice none 0 0, .slice none 0 0, .int .i64 0] 55)) 77 [.int .i64 0, .int .i64 10, .int .i64 0, .int .i64 0, .int .i64 0, .int .i64 11, .int .i64 0, .int .i64 1, .int .i64 0, .int .i64 20, .int .i64 1, .int .i64 0, .int .i64 0, .int .i64 21, .int .i64 1, .int .i64 1]
  have hs1 : w2.heap.size ≤ (w2.alloc (.cells #[.slice x1 is.length c1, .slice y1 rs.length d1, .int .i64 nw, .string ⟨#[114, 101, 100]⟩, .int .i64 4, .slice none 0 0, .slice none 0 0, .int .i64 0, .slice x2 is.length c2, .slice y2 rs.length d2, .int .i64 nw, .string ⟨#[98, 108, 117, 101]⟩, .int .i64 4, .slice none 0 0, .slice none 0 0, .int .i64 0] 55)).heap.size := by simp
  have HP : Hid _ := And.intro ((rz.alloc (.cells #[.slice x1 is.length c1, .slice y1 rs.length d1, .int .i64 nw, .string ⟨#[114, 101, 100]⟩, .int .i64 4, .slice none 0 0, .slice none 0 0, .int .i64 0, .slice x2 is.length c2, .slice y2 rs.length d2, .int .i64 nw, .string ⟨#[98, 108, 117, 101]⟩, .int .i64 4, .slice none 0 0, .slice none 0 0, .int .i64 0] 55)).alloc (.cells #[.int .i64 0, .int .i64 10, .int .i64 0, .int .i64 0, .int .i64 0, .int .i64 11, .int .i64 0, .int .i64 1, .int .i64 0, .int .i64 20, .int .i64 1, .int .i64 0, .int .i64 0, .int .i64 21, .int .i64 1, .int .i64 1] 77)) (And.intro rt (And.intro rb (And.intro hB.size (And.intro ((hB.alloc hB.size (.cells #[.slice x1 is.length c1, .slice y1 rs.length d1, .int .i64 nw, .string ⟨#[114, 101, 100]⟩, .int .i64 4, .slice none 0 0, .slice none 0 0, .int .i64 0, .slice x2 is.length c2, .slice y2 rs.length d2, .int .i64 nw, .string ⟨#[98, 108, 117, 101]⟩, .int .i64 4, .slice none 0 0, .slice none 0 0, .int .i64 0] 55)).alloc (Nat.le_trans hB.size hs1) (.cells #[.int .i64 0, .int .i64 10, .int .i64 0, .int .i64 0, .int .i64 0, .int .i64 11, .int .i64 0, .int .i64 1, .int .i64 0, .int .i64 20, .int .i64 1, .int .i64 0, .int .i64 0, .int .i64 21, .int .i64 1, .int .i64 1] 77)) (And.intro (World.ownsRow.alloc (World.ownsRow.alloc oi1 (.cells #[.slice x1 is.length c1, .slice y1 rs.length d1, .int .i64 nw, .string ⟨#[114, 101, 100]⟩, .int .i64 4, .slice none 0 0, .slice none 0 0, .int .i64 0, .slice x2 is.length c2, .slice y2 rs.length d2, .int .i64 nw, .string ⟨#[98, 108, 117, 101]⟩, .int .i64 4, .slice none 0 0, .slice none 0 0, .int .i64 0] 55)) (.cells #[.int .i64 0, .int .i64 10, .int .i64 0, .int .i64 0, .int .i64 0, .int .i64 11, .int .i64 0, .int .i64 1, .int .i64 0, .int .i64 20, .int .i64 1, .int .i64 0, .int .i64 0, .int .i64 21, .int .i64 1, .int .i64 1] 77)) (And.intro (World.ownsRow.alloc (World.ownsRow.alloc or1 (.cells #[.slice x1 is.length c1, .slice y1 rs.length d1, .int .i64 nw, .string ⟨#[114, 101, 100]⟩, .int .i64 4, .slice none 0 0, .slice none 0 0, .int .i64 0, .slice x2 is.length c2, .slice y2 rs.length d2, .int .i64 nw, .string ⟨#[98, 108, 117, 101]⟩, .int .i64 4, .slice none 0 0, .slice none 0 0, .int .i64 0] 55)) (.cells #[.int .i64 0, .int .i64 10, .int .i64 0, .int .i64 0, .int .i64 0, .int .i64 11, .int .i64 0, .int .i64 1, .int .i64 0, .int .i64 20, .int .i64 1, .int .i64 0, .int .i64 0, .int .i64 21, .int .i64 1, .int .i64 1] 77)) (And.intro (World.ownsRow.alloc (World.ownsRow.alloc oi2 (.cells #[.slice x1 is.length c1, .slice y1 rs.length d1, .int .i64 nw, .string ⟨#[114, 101, 100]⟩, .int .i64 4, .slice none 0 0, .slice none 0 0, .int .i64 0, .slice x2 is.length c2, .slice y2 rs.length d2, .int .i64 nw, .string ⟨#[98, 108, 117, 101]⟩, .int .i64 4, .slice none 0 0, .slice none 0 0, .int .i64 0] 55)) (.cells #[.int .i64 0, .int .i64 10, .int .i64 0, .int .i64 0, .int .i64 0, .int .i64 11, .int .i64 0, .int .i64 1, .int .i64 0, .int .i64 20, .int .i64 1, .int .i64 0, .int .i64 0, .int .i64 21, .int .i64 1, .int .i64 1] 77)) (World.ownsRow.alloc (World.ownsRow.alloc or2 (.cells #[.slice x1 is.length c1, .slice y1 rs.length d1, .int .i64 nw, .string ⟨#[114, 101, 100]⟩, .int .i64 4, .slice none 0 0, .slice none 0 0, .int .i64 0, .slice x2 is.length c2, .slice y2 rs.length d2, .int .i64 nw, .string ⟨#[98, 108, 117, 101]⟩, .int .i64 4, .slice none 0 0, .slice none 0 0, .int .i64 0] 55)) (.cells #[.int .i64 0, .int .i64 10, .int .i64 0, .int .i64 0, .int .i64 0, .int .i64 11, .int .i64 0, .int .i64 1, .int .i64 0, .int .i64 20, .int .i64 1, .int .i64 0, .int .i64 0, .int .i64 21, .int .i64 1, .int .i64 1] 77)))))))))
  have HS : Hid ((w2.alloc (.cells #[.slice x1 is.length c1, .slice y1 rs.length d1, .int .i64 nw, .string ⟨#[114, 101, 100]⟩, .int .i64 4, .slice none 0 0, .slice none 0 0, .int .i64 0, .slice x2 is.length c2, .slice y2 rs.length d2, .int .i64 nw, .string ⟨#[98, 108, 117, 101]⟩, .int .i64 4, .slice none 0 0, .slice none 0 0, .int .i64 0] 55)).heap.size = w2.heap.size + 1) := by show _ = _; simp
  clear rz rt rb hB oi1 or1 oi2 or2 hs1
  obtain ⟨rz, rt, rb, hsz, hB, oi1, or1, oi2, or2⟩ := HP.out
  clear HP
  rw [HS.out] at rb
  have z0 : ((w2.alloc (.cells #[.slice x1 is.length c1, .slice y1 rs.length d1, .int .i64 nw, .string ⟨#[114, 101, 100]⟩, .int .i64 4, .slice none 0 0, .slice none 0 0, .int .i64 0, .slice x2 is.length c2, .slice y2 rs.length d2, .int .i64 nw, .string ⟨#[98, 108, 117, 101]⟩, .int .i64 4, .slice none 0 0, .slice none 0 0, .int .i64 0] 55)).alloc (.cells #[.int .i64 0, .int .i64 10, .int .i64 0, .int .i64 0, .int .i64 0, .int .i64 11, .int .i64 0, .int .i64 1, .int .i64 0, .int .i64 20, .int .i64 1, .int .i64 0, .int .i64 0, .int .i64 21, .int .i64 1, .int .i64 1] 77)).cell? ⟨w.heap.size, 0, none⟩ = some (.slice none 0 0) := rz.cell 0
  have z1 : ((w2.alloc (.cells #[.slice x1 is.length c1, .slice y1 rs.length d1, .int .i64 nw, .string ⟨#[114, 101, 100]⟩, .int .i64 4, .slice none 0 0, .slice none 0 0, .int .i64 0, .slice x2 is.length c2, .slice y2 rs.length d2, .int .i64 nw, .string ⟨#[98, 108, 117, 101]⟩, .int .i64 4, .slice none 0 0, .slice none 0 0, .int .i64 0] 55)).alloc (.cells #[.int .i64 0, .int .i64 10, .int .i64 0, .int .i64 0, .int .i64 0, .int .i64 11, .int .i64 0, .int .i64 1, .int .i64 0, .int .i64 20, .int .i64 1, .int .i64 0, .int .i64 0, .int .i64 21, .int .i64 1, .int .i64 1] 77)).cell? ⟨w.heap.size, 1, none⟩ = some (.slice none 0 0) := rz.cell 1
  have z2 : ((w2.alloc (.cells #[.slice x1 is.length c1, .slice y1 rs.length d1, .int .i64 nw, .string ⟨#[114, 101, 100]⟩, .int .i64 4, .slice none 0 0, .slice none 0 0, .int .i64 0, .slice x2 is.length c2, .slice y2 rs.length d2, .int .i64 nw, .string ⟨#[98, 108, 117, 101]⟩, .int .i64 4, .slice none 0 0, .slice none 0 0, .int .i64 0] 55)).alloc (.cells #[.int .i64 0, .int .i64 10, .int .i64 0, .int .i64 0, .int .i64 0, .int .i64 11, .int .i64 0, .int .i64 1, .int .i64 0, .int .i64 20, .int .i64 1, .int .i64 0, .int .i64 0, .int .i64 21, .int .i64 1, .int .i64 1] 77)).cell? ⟨w.heap.size, 2, none⟩ = some (.slice none 0 0) := rz.cell 2
  have z3 : ((w2.alloc (.cells #[.slice x1 is.length c1, .slice y1 rs.length d1, .int .i64 nw, .string ⟨#[114, 101, 100]⟩, .int .i64 4, .slice none 0 0, .slice none 0 0, .int .i64 0, .slice x2 is.length c2, .slice y2 rs.length d2, .int .i64 nw, .string ⟨#[98, 108, 117, 101]⟩, .int .i64 4, .slice none 0 0, .slice none 0 0, .int .i64 0] 55)).alloc (.cells #[.int .i64 0, .int .i64 10, .int .i64 0, .int .i64 0, .int .i64 0, .int .i64 11, .int .i64 0, .int .i64 1, .int .i64 0, .int .i64 20, .int .i64 1, .int .i64 0, .int .i64 0, .int .i64 21, .int .i64 1, .int .i64 1] 77)).cell? ⟨w.heap.size, 3, none⟩ = some (.int .i64 0) := rz.cell 3
  have f0 : ((w2.alloc (.cells #[.slice x1 is.length c1, .slice y1 rs.length d1, .int .i64 nw, .string ⟨#[114, 101, 100]⟩, .int .i64 4, .slice none 0 0, .slice none 0 0, .int .i64 0, .slice x2 is.length c2, .slice y2 rs.length d2, .int .i64 nw, .string ⟨#[98, 108, 117, 101]⟩, .int .i64 4, .slice none 0 0, .slice none 0 0, .int .i64 0] 55)).alloc (.cells #[.int .i64 0, .int .i64 10, .int .i64 0, .int .i64 0, .int .i64 0, .int .i64 11, .int .i64 0, .int .i64 1, .int .i64 0, .int .i64 20, .int .i64 1, .int .i64 0, .int .i64 0, .int .i64 21, .int .i64 1, .int .i64 1] 77)).frozen? ⟨w.heap.size, 0, none⟩ = false := rz.frozen 0
  have f1 : ((w2.alloc (.cells #[.slice x1 is.length c1, .slice y1 rs.length d1, .int .i64 nw, .string ⟨#[114, 101, 100]⟩, .int .i64 4, .slice none 0 0, .slice none 0 0, .int .i64 0, .slice x2 is.length c2, .slice y2 rs.length d2, .int .i64 nw, .string ⟨#[98, 108, 117, 101]⟩, .int .i64 4, .slice none 0 0, .slice none 0 0, .int .i64 0] 55)).alloc (.cells #[.int .i64 0, .int .i64 10, .int .i64 0, .int .i64 0, .int .i64 0, .int .i64 11, .int .i64 0, .int .i64 1, .int .i64 0, .int .i64 20, .int .i64 1, .int .i64 0, .int .i64 0, .int .i64 21, .int .i64 1, .int .i64 1] 77)).frozen? ⟨w.heap.size, 1, none⟩ = false := rz.frozen 1
  have f2 : ((w2.alloc (.cells #[.slice x1 is.length c1, .slice y1 rs.length d1, .int .i64 nw, .string ⟨#[114, 101, 100]⟩, .int .i64 4, .slice none 0 0, .slice none 0 0, .int .i64 0, .slice x2 is.length c2, .slice y2 rs.length d2, .int .i64 nw, .string ⟨#[98, 108, 117, 101]⟩, .int .i64 4, .slice none 0 0, .slice none 0 0, .int .i64 0] 55)).alloc (.cells #[.int .i64 0, .int .i64 10, .int .i64 0, .int .i64 0, .int .i64 0, .int .i64 11, .int .i64 0, .int .i64 1, .int .i64 0, .int .i64 20, .int .i64 1, .int .i64 0, .int .i64 0, .int .i64 21, .int .i64 1, .int .i64 1] 77)).frozen? ⟨w.heap.size, 2, none⟩ = false := rz.frozen 2
  have f3 : ((w2.alloc (.cells #[.slice x1 is.length c1, .slice y1 rs.length d1, .int .i64 nw, .string ⟨#[114, 101, 100]⟩, .int .i64 4, .slice none 0 0, .slice none 0 0, .int .i64 0, .slice x2 is.length c2, .slice y2 rs.length d2, .int .i64 nw, .string ⟨#[98, 108, 117, 101]⟩, .int .i64 4, .slice none 0 0, .slice none 0 0, .int .i64 0] 55)).alloc (.cells #[.int .i64 0, .int .i64 10, .int .i64 0, .int .i64 0, .int .i64 0, .int .i64 11, .int .i64 0, .int .i64 1, .int .i64 0, .int .i64 20, .int .i64 1, .int .i64 0, .int .i64 0, .int .i64 21, .int .i64 1, .int .i64 1] 77)).frozen? ⟨w.heap.size, 3, none⟩ = false := rz.frozen 3
  have hko : ∀ g t l, g ≠ w.heap.size → Row ((w2.alloc (.cells #[.slice x1 is.length c1, .slice y1 rs.length d1, .int .i64 nw, .string ⟨#[114, 101, 100]⟩, .int .i64 4, .slice none 0 0, .slice none 0 0, .int .i64 0, .slice x2 is.length c2, .slice y2 rs.length d2, .int .i64 nw, .string ⟨#[98, 108, 117, 101]⟩, .int .i64 4, .slice none 0 0, .slice none 0 0, .int .i64 0] 55)).alloc (.cells #[.int .i64 0, .int .i64 10, .int .i64 0, .int .i64 0, .int .i64 0, .int .i64 11, .int .i64 0, .int .i64 1, .int .i64 0, .int .i64 20, .int .i64 1, .int .i64 0, .int .i64 0, .int .i64 21, .int .i64 1, .int .i64 1] 77)) g t l → Row ((((((w2.alloc (.cells #[.slice x1 is.length c1, .slice y1 rs.length d1, .int .i64 nw, .string ⟨#[114, 101, 100]⟩, .int .i64 4, .slice none 0 0, .slice none 0 0, .int .i64 0, .slice x2 is.length c2, .slice y2 rs.length d2, .int .i64 nw, .string ⟨#[98, 108, 117, 101]⟩, .int .i64 4, .slice none 0 0, .slice none 0 0, .int .i64 0] 55)).alloc (.cells #[.int .i64 0, .int .i64 10, .int .i64 0, .int .i64 0, .int .i64 0, .int .i64 11, .int .i64 0, .int .i64 1, .int .i64 0, .int .i64 20, .int .i64 1, .int .i64 0, .int .i64 0, .int .i64 21, .int .i64 1, .int .i64 1] 77)).setCell ⟨w.heap.size, 0, none⟩ (.slice (some ⟨w2.heap.size, 0, none⟩) 2 2)).setCell ⟨w.heap.size, 1, none⟩ (.slice (some ⟨w2.heap.size + 1, 0, none⟩) 4 4)).setCell ⟨w.heap.size, 2, none⟩ (.slice none 0 0)).setCell ⟨w.heap.size, 3, none⟩ (.int .i64 0)) g t l := fun g t l hne h => ((((h.other 0 (.slice (some ⟨w2.heap.size, 0, none⟩) 2 2) hne).other 1 (.slice (some ⟨w2.heap.size + 1, 0, none⟩) 4 4) hne).other 2 (.slice none 0 0) hne).other 3 (.int .i64 0) hne)
  have HE : Hid (Row ((((((w2.alloc (.cells #[.slice x1 is.length c1, .slice y1 rs.length d1, .int .i64 nw, .string ⟨#[114, 101, 100]⟩, .int .i64 4, .slice none 0 0, .slice none 0 0, .int .i64 0, .slice x2 is.length c2, .slice y2 rs.length d2, .int .i64 nw, .string ⟨#[98, 108, 117, 101]⟩, .int .i64 4, .slice none 0 0, .slice none 0 0, .int .i64 0] 55)).alloc (.cells #[.int .i64 0, .int .i64 10, .int .i64 0, .int .i64 0, .int .i64 0, .int .i64 11, .int .i64 0, .int .i64 1, .int .i64 0, .int .i64 20, .int .i64 1, .int .i64 0, .int .i64 0, .int .i64 21, .int .i64 1, .int .i64 1] 77)).setCell ⟨w.heap.size, 0, none⟩ (.slice (some ⟨w2.heap.size, 0, none⟩) 2 2)).setCell ⟨w.heap.size, 1, none⟩ (.slice (some ⟨w2.heap.size + 1, 0, none⟩) 4 4)).setCell ⟨w.heap.size, 2, none⟩ (.slice none 0 0)).setCell ⟨w.heap.size, 3, none⟩ (.int .i64 0)) w.heap.size 33 [.slice (some ⟨w2.heap.size, 0, none⟩) 2 2, .slice (some ⟨w2.heap.size + 1, 0, none⟩) 4 4, .slice none 0 0, .int .i64 0] ∧ Below w.heap.size w ((((((w2.alloc (.cells #[.slice x1 is.length c1, .slice y1 rs.length d1, .int .i64 nw, .string ⟨#[114, 101, 100]⟩, .int .i64 4, .slice none 0 0, .slice none 0 0, .int .i64 0, .slice x2 is.length c2, .slice y2 rs.length d2, .int .i64 nw, .string ⟨#[98, 108, 117, 101]⟩, .int .i64 4, .slice none 0 0, .slice none 0 0, .int .i64 0] 55)).alloc (.cells #[.int .i64 0, .int .i64 10, .int .i64 0, .int .i64 0, .int .i64 0, .int .i64 11, .int .i64 0, .int .i64 1, .int .i64 0, .int .i64 20, .int .i64 1, .int .i64 0, .int .i64 0, .int .i64 21, .int .i64 1, .int .i64 1] 77)).setCell ⟨w.heap.size, 0, none⟩ (.slice (some ⟨w2.heap.size, 0, none⟩) 2 2)).setCell ⟨w.heap.size, 1, none⟩ (.slice (some ⟨w2.heap.size + 1, 0, none⟩) 4 4)).setCell ⟨w.heap.size, 2, none⟩ (.slice none 0 0)).setCell ⟨w.heap.size, 3, none⟩ (.int .i64 0)) ∧ Row ((((((w2.alloc (.cells #[.slice x1 is.length c1, .slice y1 rs.length d1, .int .i64 nw, .string ⟨#[114, 101, 100]⟩, .int .i64 4, .slice none 0 0, .slice none 0 0, .int .i64 0, .slice x2 is.length c2, .slice y2 rs.length d2, .int .i64 nw, .string ⟨#[98, 108, 117, 101]⟩, .int .i64 4, .slice none 0 0, .slice none 0 0, .int .i64 0] 55)).alloc (.cells #[.int .i64 0, .int .i64 10, .int .i64 0, .int .i64 0, .int .i64 0, .int .i64 11, .int .i64 0, .int .i64 1, .int .i64 0, .int .i64 20, .int .i64 1, .int .i64 0, .int .i64 0, .int .i64 21, .int .i64 1, .int .i64 1] 77)).setCell ⟨w.heap.size, 0, none⟩ (.slice (some ⟨w2.heap.size, 0, none⟩) 2 2)).setCell ⟨w.heap.size, 1, none⟩ (.slice (some ⟨w2.heap.size + 1, 0, none⟩) 4 4)).setCell ⟨w.heap.size, 2, none⟩ (.slice none 0 0)).setCell ⟨w.heap.size, 3, none⟩ (.int .i64 0)) w2.heap.size 55 [.slice x1 is.length c1, .slice y1 rs.length d1, .int .i64 nw, .string ⟨#[114, 101, 100]⟩, .int .i64 4, .slice none 0 0, .slice none 0 0, .int .i64 0, .slice x2 is.length c2, .slice y2 rs.length d2, .int .i64 nw, .string ⟨#[98, 108, 117, 101]⟩, .int .i64 4, .slice none 0 0, .slice none 0 0, .int .i64 0] ∧ Row ((((((w2.alloc (.cells #[.slice x1 is.length c1, .slice y1 rs.length d1, .int .i64 nw, .string ⟨#[114, 101, 100]⟩, .int .i64 4, .slice none 0 0, .slice none 0 0, .int .i64 0, .slice x2 is.length c2, .slice y2 rs.length d2, .int .i64 nw, .string ⟨#[98, 108, 117, 101]⟩, .int .i64 4, .slice none 0 0, .slice none 0 0, .int .i64 0] 55)).alloc (.cells #[.int .i64 0, .int .i64 10, .int .i64 0, .int .i64 0, .int .i64 0, .int .i64 11, .int .i64 0, .int .i64 1, .int .i64 0, .int .i64 20, .int .i64 1, .int .i64 0, .int .i64 0, .int .i64 21, .int .i64 1, .int .i64 1] 77)).setCell ⟨w.heap.size, 0, none⟩ (.slice (some ⟨w2.heap.size, 0, none⟩) 2 2)).setCell ⟨w.heap.size, 1, none⟩ (.slice (some ⟨w2.heap.size + 1, 0, none⟩) 4 4)).setCell ⟨w.heap.size, 2, none⟩ (.slice none 0 0)).setCell ⟨w.heap.size, 3, none⟩ (.int .i64 0)) (w2.heap.size + 1) 77 [.int .i64 0, .int .i64 10, .int .i64 0, .int .i64 0, .int .i64 0, .int .i64 11, .int .i64 0, .int .i64 1, .int .i64 0, .int .i64 20, .int .i64 1, .int .i64 0, .int .i64 0, .int .i64 21, .int .i64 1, .int .i64 1] ∧ ((((((w2.alloc (.cells #[.slice x1 is.length c1, .slice y1 rs.length d1, .int .i64 nw, .string ⟨#[114, 101, 100]⟩, .int .i64 4, .slice none 0 0, .slice none 0 0, .int .i64 0, .slice x2 is.length c2, .slice y2 rs.length d2, .int .i64 nw, .string ⟨#[98, 108, 117, 101]⟩, .int .i64 4, .slice none 0 0, .slice none 0 0, .int .i64 0] 55)).alloc (.cells #[.int .i64 0, .int .i64 10, .int .i64 0, .int .i64 0, .int .i64 0, .int .i64 11, .int .i64 0, .int .i64 1, .int .i64 0, .int .i64 20, .int .i64 1, .int .i64 0, .int .i64 0, .int .i64 21, .int .i64 1, .int .i64 1] 77)).setCell ⟨w.heap.size, 0, none⟩ (.slice (some ⟨w2.heap.size, 0, none⟩) 2 2)).setCell ⟨w.heap.size, 1, none⟩ (.slice (some ⟨w2.heap.size + 1, 0, none⟩) 4 4)).setCell ⟨w.heap.size, 2, none⟩ (.slice none 0 0)).setCell ⟨w.heap.size, 3, none⟩ (.int .i64 0)).ownsRow w.heap.size 72 5 (.slice x1 is.length c1) is.length (rowI is) ∧ ((((((w2.alloc (.cells #[.slice x1 is.length c1, .slice y1 rs.length d1, .int .i64 nw, .string ⟨#[114, 101, 100]⟩, .int .i64 4, .slice none 0 0, .slice none 0 0, .int .i64 0, .slice x2 is.length c2, .slice y2 rs.length d2, .int .i64 nw, .string ⟨#[98, 108, 117, 101]⟩, .int .i64 4, .slice none 0 0, .slice none 0 0, .int .i64 0] 55)).alloc (.cells #[.int .i64 0, .int .i64 10, .int .i64 0, .int .i64 0, .int .i64 0, .int .i64 11, .int .i64 0, .int .i64 1, .int .i64 0, .int .i64 20, .int .i64 1, .int .i64 0, .int .i64 0, .int .i64 21, .int .i64 1, .int .i64 1] 77)).setCell ⟨w.heap.size, 0, none⟩ (.slice (some ⟨w2.heap.size, 0, none⟩) 2 2)).setCell ⟨w.heap.size, 1, none⟩ (.slice (some ⟨w2.heap.size + 1, 0, none⟩) 4 4)).setCell ⟨w.heap.size, 2, none⟩ (.slice none 0 0)).setCell ⟨w.heap.size, 3, none⟩ (.int .i64 0)).ownsRow w.heap.size 144 9 (.slice y1 rs.length d1) rs.length (rowR rs) ∧ ((((((w2.alloc (.cells #[.slice x1 is.length c1, .slice y1 rs.length d1, .int .i64 nw, .string ⟨#[114, 101, 100]⟩, .int .i64 4, .slice none 0 0, .slice none 0 0, .int .i64 0, .slice x2 is.length c2, .slice y2 rs.length d2, .int .i64 nw, .string ⟨#[98, 108, 117, 101]⟩, .int .i64 4, .slice none 0 0, .slice none 0 0, .int .i64 0] 55)).alloc (.cells #[.int .i64 0, .int .i64 10, .int .i64 0, .int .i64 0, .int .i64 0, .int .i64 11, .int .i64 0, .int .i64 1, .int .i64 0, .int .i64 20, .int .i64 1, .int .i64 0, .int .i64 0, .int .i64 21, .int .i64 1, .int .i64 1] 77)).setCell ⟨w.heap.size, 0, none⟩ (.slice (some ⟨w2.heap.size, 0, none⟩) 2 2)).setCell ⟨w.heap.size, 1, none⟩ (.slice (some ⟨w2.heap.size + 1, 0, none⟩) 4 4)).setCell ⟨w.heap.size, 2, none⟩ (.slice none 0 0)).setCell ⟨w.heap.size, 3, none⟩ (.int .i64 0)).ownsRow w.heap.size 72 5 (.slice x2 is.length c2) is.length (rowI is) ∧ ((((((w2.alloc (.cells #[.slice x1 is.length c1, .slice y1 rs.length d1, .int .i64 nw, .string ⟨#[114, 101, 100]⟩, .int .i64 4, .slice none 0 0, .slice none 0 0, .int .i64 0, .slice x2 is.length c2, .slice y2 rs.length d2, .int .i64 nw, .string ⟨#[98, 108, 117, 101]⟩, .int .i64 4, .slice none 0 0, .slice none 0 0, .int .i64 0] 55)).alloc (.cells #[.int .i64 0, .int .i64 10, .int .i64 0, .int .i64 0, .int .i64 0, .int .i64 11, .int .i64 0, .int .i64 1, .int .i64 0, .int .i64 20, .int .i64 1, .int .i64 0, .int .i64 0, .int .i64 21, .int .i64 1, .int .i64 1] 77)).setCell ⟨w.heap.size, 0, none⟩ (.slice (some ⟨w2.heap.size, 0, none⟩) 2 2)).setCell ⟨w.heap.size, 1, none⟩ (.slice (some ⟨w2.heap.size + 1, 0, none⟩) 4 4)).setCell ⟨w.heap.size, 2, none⟩ (.slice none 0 0)).setCell ⟨w.heap.size, 3, none⟩ (.int .i64 0)).ownsRow w.heap.size 144 9 (.slice y2 rs.length d2) rs.length (rowR rs)) := ⟨((((rz.set 0 (.slice (some ⟨w2.heap.size, 0, none⟩) 2 2)).set 1 (.slice (some ⟨w2.heap.size + 1, 0, none⟩) 4 4)).set 2 (.slice none 0 0)).set 3 (.int .i64 0)), ((((hB.setCell (p := ⟨w.heap.size, 0, none⟩) (Nat.le_refl _) (.slice (some ⟨w2.heap.size, 0, none⟩) 2 2)).setCell (p := ⟨w.heap.size, 1, none⟩) (Nat.le_refl _) (.slice (some ⟨w2.heap.size + 1, 0, none⟩) 4 4)).setCell (p := ⟨w.heap.size, 2, none⟩) (Nat.le_refl _) (.slice none 0 0)).setCell (p := ⟨w.heap.size, 3, none⟩) (Nat.le_refl _) (.int .i64 0)), hko _ _ _ (row_ne rt rz (by decide)) rt, hko _ _ _ (row_ne rb rz (by decide)) rb, owns_kept oi1 (fun b t l e h => hko b t l (fun e2 => by subst e2; exact owns_ne oi1 rz (by decide) e) h), owns_kept or1 (fun b t l e h => hko b t l (fun e2 => by subst e2; exact owns_ne or1 rz (by decide) e) h), owns_kept oi2 (fun b t l e h => hko b t l (fun e2 => by subst e2; exact owns_ne oi2 rz (by decide) e) h), owns_kept or2 (fun b t l e h => hko b t l (fun e2 => by subst e2; exact owns_ne or2 rz (by decide) e) h)⟩
  have HG : Hid (w.heap.size ≤ w2.heap.size) := hsz
  clear rz rt rb hB oi1 or1 oi2 or2 hko hsz
  go_wp2_with fail
  obtain ⟨k1, k2, rt, rb, oi1, or1, oi2, or2⟩ := HE.out
  clear HE z0 f0 z1 f1 z2 f2 z3 f3
  generalize ((((((w2.alloc (.cells #[.slice x1 is.length c1, .slice y1 rs.length d1, .int .i64 nw, .string ⟨#[114, 101, 100]⟩, .int .i64 4, .slice none 0 0, .slice none 0 0, .int .i64 0, .slice x2 is.length c2, .slice y2 rs.length d2, .int .i64 nw, .string ⟨#[98, 108, 117, 101]⟩, .int .i64 4, .slice none 0 0, .slice none 0 0, .int .i64 0] 55)).alloc (.cells #[.int .i64 0, .int .i64 10, .int .i64 0, .int .i64 0, .int .i64 0, .int .i64 11, .int .i64 0, .int .i64 1, .int .i64 0, .int .i64 20, .int .i64 1, .int .i64 0, .int .i64 0, .int .i64 21, .int .i64 1, .int .i64 1] 77)).setCell ⟨w.heap.size, 0, none⟩ (.slice (some ⟨w2.heap.size, 0, none⟩) 2 2)).setCell ⟨w.heap.size, 1, none⟩ (.slice (some ⟨w2.heap.size + 1, 0, none⟩) 4 4)).setCell ⟨w.heap.size, 2, none⟩ (.slice none 0 0)).setCell ⟨w.heap.size, 3, none⟩ (.int .i64 0)) = Y at *
  have e0 : Y.cell? ⟨w.heap.size, 0, none⟩ = some (.slice (some ⟨w2.heap.size, 0, none⟩) 2 2) := k1.cell 0
  have e1 : Y.cell? ⟨w.heap.size, 1, none⟩ = some (.slice (some ⟨w2.heap.size + 1, 0, none⟩) 4 4) := k1.cell 1
  have e2 : Y.cell? ⟨w.heap.size, 2, none⟩ = some (.slice none 0 0) := k1.cell 2
  have e3 : Y.cell? ⟨w.heap.size, 3, none⟩ = some (.int .i64 0) := k1.cell 3
  have hO : OwnBx Y w.heap.size (some ⟨w2.heap.size, 0, none⟩) 2 2 (some ⟨w2.heap.size + 1, 0, none⟩) 4 4 none 0 0 [((⟨x1, c1, y1, d1, none, 0, none, 0⟩, ⟨is, rs, nw, kRed, 4, [], [], 0⟩) : TnP), (⟨x2, c2, y2, d2, none, 0, none, 0⟩, ⟨is, rs, nw, kBlue, 4, [], [], 0⟩)] dBS [] := by
    refine ⟨⟨owns_shut (rest := []) rfl HG.out (Nat.le_refl _) (by unfold maxLen; omega) (by rw [List.append_nil]; exact rt) rfl, fun j hj => ?_, HAP.out⟩, owns_shut (rest := []) rfl (by have := HG.out; omega) (Nat.le_refl _) (by unfold maxLen; omega) (by rw [List.append_nil]; exact rb) rfl, World.ownsRow_nil _ _ _ 6⟩
    have hj2 : j = 0 ∨ j = 1 := by have : j < 2 := hj; omega
    rcases hj2 with rfl | rfl
    · exact ownT_desk oi1 or1
    · exact ownT_desk oi2 or2
  exact bodyPost_ret (v := .agg #[.slice (some ⟨w2.heap.size, 0, none⟩) 2 2, .slice (some ⟨w2.heap.size + 1, 0, none⟩) 4 4, .slice none 0 0, .int .i64 0]) (by simp [results, Tryz.results11, go_sem, e0, e1, e2, e3]) rfl ⟨⟨some ⟨w2.heap.size, 0, none⟩, 2, some ⟨w2.heap.size + 1, 0, none⟩, 4, none, 0, rfl, ansX_of (HTS.out _ _ _ _ _ _ _ _) hO⟩, k2⟩
end Go.Proofs.YtialedffpaoacaaGreatDoor
