/- Texts that stand on each other, in one file: MCutS. -/
import Derived.Test.YtcnadobnihbldaaGreatPack43
import Derived.Test.YtcnadobnihbldaaGreatPack44
/- A cut and a join of the model: one call of l10Turn. (Written by gen_mcuts.py.) -/
namespace Go.Proofs.YtcnadobnihbldaaGreat
open Go.RowKit Go.Sort

set_option maxRecDepth 100000 in
set_option maxHeartbeats 4000000 in
theorem specCut_any (p : Option Addr) (c1 : Nat) (ps : List IvP) (q : Option Addr) (c2 : Nat) (ls : List Li) (n : Int) (w : World) (h : IvsIn w p ps) (hL : LisIn w q ls) (hq : q = none → c2 = 0) (hn : ps.length ≤ 100000000) (hl : ls.length ≤ 100000000) (hm : ∀ e ∈ ps, IvM e.1 e.2 ∧ (e.1.x = none → e.1.c1 = 0) ∧ (e.1.y = none → e.1.c2 = 0) ∧ e.2.rs.length ≤ e.1.c2) :
    Calls Tryz.prog 21 #[.agg #[.slice p ps.length c1, .slice q ls.length c2], .int .i64 n] w fun e w' => OutM w.heap.size (turnMO (ps.map (·.2)) ls n false) e w' ∧ Below w.heap.size w w' := by
  have rz := Row.new (w.alloc (.cells #[.slice p ps.length c1, .slice q ls.length c2] 26)) 28 [.slice none 0 0, .slice none 0 0, .int .i64 0]
  rw [show (w.alloc (.cells #[.slice p ps.length c1, .slice q ls.length c2] 26)).heap.size = w.heap.size + 1 by simp] at rz
  have hB : Below w.heap.size w ((w.alloc (.cells #[.slice p ps.length c1, .slice q ls.length c2] 26)).alloc (.cells #[.slice none 0 0, .slice none 0 0, .int .i64 0] 28)) := (ent_new0 w _).alloc (by simp) _
  have HT : Hid (Calls Tryz.prog 50 #[.agg #[.slice p ps.length c1, .slice q ls.length c2], .int .i64 n, .bool false] ((w.alloc (.cells #[.slice p ps.length c1, .slice q ls.length c2] 26)).alloc (.cells #[.slice none 0 0, .slice none 0 0, .int .i64 0] 28)) fun e w' => OutM ((w.alloc (.cells #[.slice p ps.length c1, .slice q ls.length c2] 26)).alloc (.cells #[.slice none 0 0, .slice none 0 0, .int .i64 0] 28)).heap.size (turnMO (ps.map (·.2)) ls n false) e w' ∧ Below ((w.alloc (.cells #[.slice p ps.length c1, .slice q ls.length c2] 26)).alloc (.cells #[.slice none 0 0, .slice none 0 0, .int .i64 0] 28)).heap.size ((w.alloc (.cells #[.slice p ps.length c1, .slice q ls.length c2] 26)).alloc (.cells #[.slice none 0 0, .slice none 0 0, .int .i64 0] 28)) w') := specTurnDn_any p c1 ps q c2 ls n false rfl _ (h.below hB) (hL.below hB) hq hn hl hm
  have HQ : Hid _ := And.intro rz hB
  generalize turnMO (ps.map (·.2)) ls n false = RES at *
  obtain ⟨RC, RL, RS⟩ := RES
  clear rz hB h hL hq hn hl hm
  go_enter Tryz.func21, Tryz.ntmps21
  go_wp2_with fail
  refine (HT.out).mono ?_
  rintro e w1 ⟨⟨p2, cc, q2, dd, qs, rfl, hmp, om⟩, hb1⟩
  obtain ⟨rz, hB⟩ := HQ.out
  replace rz := rz.below hb1 rz.lt
  have hs := hB.size
  replace hB := hB.trans (hb1.mono hB.size)
  replace om := om.mono hs
  simp only at om hmp
  have z0 : w1.cell? ⟨w.heap.size + 1, 0, none⟩ = some (.slice none 0 0) := rz.cell 0
  have z1 : w1.cell? ⟨w.heap.size + 1, 1, none⟩ = some (.slice none 0 0) := rz.cell 1
  have z2 : w1.cell? ⟨w.heap.size + 1, 2, none⟩ = some (.int .i64 0) := rz.cell 2
  have f0 := rz.frozen 0
  have f1 := rz.frozen 1
  have f2 := rz.frozen 2
  have HE : Hid (Row (((w1.setCell ⟨w.heap.size + 1, 0, none⟩ (.slice p2 RL.length cc)).setCell ⟨w.heap.size + 1, 1, none⟩ (.slice q2 RS.length dd)).setCell ⟨w.heap.size + 1, 2, none⟩ (.int .i64 RC)) (w.heap.size + 1) 28 [.slice p2 RL.length cc, .slice q2 RS.length dd, .int .i64 RC] ∧ OwnMesh (((w1.setCell ⟨w.heap.size + 1, 0, none⟩ (.slice p2 RL.length cc)).setCell ⟨w.heap.size + 1, 1, none⟩ (.slice q2 RS.length dd)).setCell ⟨w.heap.size + 1, 2, none⟩ (.int .i64 RC)) w.heap.size p2 RL.length cc q2 RS.length dd qs RS ∧ Below w.heap.size w (((w1.setCell ⟨w.heap.size + 1, 0, none⟩ (.slice p2 RL.length cc)).setCell ⟨w.heap.size + 1, 1, none⟩ (.slice q2 RS.length dd)).setCell ⟨w.heap.size + 1, 2, none⟩ (.int .i64 RC))) := ⟨((rz.set 0 (.slice p2 RL.length cc)).set 1 (.slice q2 RS.length dd)).set 2 (.int .i64 RC), om.kept (fun b t l ht hb => by
    have hne : b ≠ w.heap.size + 1 := fun e => by
      subst e
      have h1 := rz
      unfold Row at h1 hb
      rw [h1] at hb
      simp only [Option.some.injEq, Obj.cells.injEq] at hb
      rcases ht with e | e | e | e <;> (rw [e] at hb; exact absurd hb.2.1 (by decide))
    exact ((hb.other 0 (.slice p2 RL.length cc) hne).other 1 (.slice q2 RS.length dd) hne).other 2 (.int .i64 RC) hne), ((hB.setCell (p := ⟨w.heap.size + 1, 0, none⟩) (by show w.heap.size ≤ w.heap.size + 1; omega) (.slice p2 RL.length cc)).setCell (p := ⟨w.heap.size + 1, 1, none⟩) (by show w.heap.size ≤ w.heap.size + 1; omega) (.slice q2 RS.length dd)).setCell (p := ⟨w.heap.size + 1, 2, none⟩) (by show w.heap.size ≤ w.heap.size + 1; omega) (.int .i64 RC)⟩
  clear rz hB om hb1 HT HQ hs
  go_wp2_with fail
  obtain ⟨k1, k2, k3⟩ := HE.out
  clear HE z0 z1 z2 f0 f1 f2
  generalize (((w1.setCell ⟨w.heap.size + 1, 0, none⟩ (.slice p2 RL.length cc)).setCell ⟨w.heap.size + 1, 1, none⟩ (.slice q2 RS.length dd)).setCell ⟨w.heap.size + 1, 2, none⟩ (.int .i64 RC)) = Y at *
  have e0 : Y.cell? ⟨w.heap.size + 1, 0, none⟩ = some (.slice p2 RL.length cc) := k1.cell 0
  have e1 : Y.cell? ⟨w.heap.size + 1, 1, none⟩ = some (.slice q2 RS.length dd) := k1.cell 1
  have e2 : Y.cell? ⟨w.heap.size + 1, 2, none⟩ = some (.int .i64 RC) := k1.cell 2
  have hO : OutM w.heap.size (RC, RL, RS) (.returned (.agg #[.slice p2 RL.length cc, .slice q2 RS.length dd, .int .i64 RC])) Y := ⟨p2, cc, q2, dd, qs, rfl, hmp, k2⟩
  exact bodyPost_ret (v := .agg #[.slice p2 RL.length cc, .slice q2 RS.length dd, .int .i64 RC]) (by simp [results, Tryz.results21, go_sem, e0, e1, e2]) rfl ⟨hO, k3⟩
set_option maxRecDepth 100000 in
set_option maxHeartbeats 4000000 in
theorem specJoin_any (p : Option Addr) (c1 : Nat) (ps : List IvP) (q : Option Addr) (c2 : Nat) (ls : List Li) (n : Int) (w : World) (h : IvsIn w p ps) (hL : LisIn w q ls) (hq : q = none → c2 = 0) (hn : ps.length ≤ 100000000) (hl : ls.length ≤ 100000000) (hm : ∀ e ∈ ps, IvM e.1 e.2 ∧ (e.1.x = none → e.1.c1 = 0) ∧ (e.1.y = none → e.1.c2 = 0) ∧ e.2.rs.length ≤ e.1.c2) :
    Calls Tryz.prog 23 #[.agg #[.slice p ps.length c1, .slice q ls.length c2], .int .i64 n] w fun e w' => OutM w.heap.size (turnMO (ps.map (·.2)) ls n true) e w' ∧ Below w.heap.size w w' := by
  have rz := Row.new (w.alloc (.cells #[.slice p ps.length c1, .slice q ls.length c2] 26)) 28 [.slice none 0 0, .slice none 0 0, .int .i64 0]
  rw [show (w.alloc (.cells #[.slice p ps.length c1, .slice q ls.length c2] 26)).heap.size = w.heap.size + 1 by simp] at rz
  have hB : Below w.heap.size w ((w.alloc (.cells #[.slice p ps.length c1, .slice q ls.length c2] 26)).alloc (.cells #[.slice none 0 0, .slice none 0 0, .int .i64 0] 28)) := (ent_new0 w _).alloc (by simp) _
  have HT : Hid (Calls Tryz.prog 50 #[.agg #[.slice p ps.length c1, .slice q ls.length c2], .int .i64 n, .bool true] ((w.alloc (.cells #[.slice p ps.length c1, .slice q ls.length c2] 26)).alloc (.cells #[.slice none 0 0, .slice none 0 0, .int .i64 0] 28)) fun e w' => OutM ((w.alloc (.cells #[.slice p ps.length c1, .slice q ls.length c2] 26)).alloc (.cells #[.slice none 0 0, .slice none 0 0, .int .i64 0] 28)).heap.size (turnMO (ps.map (·.2)) ls n true) e w' ∧ Below ((w.alloc (.cells #[.slice p ps.length c1, .slice q ls.length c2] 26)).alloc (.cells #[.slice none 0 0, .slice none 0 0, .int .i64 0] 28)).heap.size ((w.alloc (.cells #[.slice p ps.length c1, .slice q ls.length c2] 26)).alloc (.cells #[.slice none 0 0, .slice none 0 0, .int .i64 0] 28)) w') := specTurnUp_any p c1 ps q c2 ls n true rfl _ (h.below hB) (hL.below hB) hq hn hl hm
  have HQ : Hid _ := And.intro rz hB
  generalize turnMO (ps.map (·.2)) ls n true = RES at *
  obtain ⟨RC, RL, RS⟩ := RES
  clear rz hB h hL hq hn hl hm
  go_enter Tryz.func23, Tryz.ntmps23
  go_wp2_with fail
  refine (HT.out).mono ?_
  rintro e w1 ⟨⟨p2, cc, q2, dd, qs, rfl, hmp, om⟩, hb1⟩
  obtain ⟨rz, hB⟩ := HQ.out
  replace rz := rz.below hb1 rz.lt
  have hs := hB.size
  replace hB := hB.trans (hb1.mono hB.size)
  replace om := om.mono hs
  simp only at om hmp
  have z0 : w1.cell? ⟨w.heap.size + 1, 0, none⟩ = some (.slice none 0 0) := rz.cell 0
  have z1 : w1.cell? ⟨w.heap.size + 1, 1, none⟩ = some (.slice none 0 0) := rz.cell 1
  have z2 : w1.cell? ⟨w.heap.size + 1, 2, none⟩ = some (.int .i64 0) := rz.cell 2
  have f0 := rz.frozen 0
  have f1 := rz.frozen 1
  have f2 := rz.frozen 2
  have HE : Hid (Row (((w1.setCell ⟨w.heap.size + 1, 0, none⟩ (.slice p2 RL.length cc)).setCell ⟨w.heap.size + 1, 1, none⟩ (.slice q2 RS.length dd)).setCell ⟨w.heap.size + 1, 2, none⟩ (.int .i64 RC)) (w.heap.size + 1) 28 [.slice p2 RL.length cc, .slice q2 RS.length dd, .int .i64 RC] ∧ OwnMesh (((w1.setCell ⟨w.heap.size + 1, 0, none⟩ (.slice p2 RL.length cc)).setCell ⟨w.heap.size + 1, 1, none⟩ (.slice q2 RS.length dd)).setCell ⟨w.heap.size + 1, 2, none⟩ (.int .i64 RC)) w.heap.size p2 RL.length cc q2 RS.length dd qs RS ∧ Below w.heap.size w (((w1.setCell ⟨w.heap.size + 1, 0, none⟩ (.slice p2 RL.length cc)).setCell ⟨w.heap.size + 1, 1, none⟩ (.slice q2 RS.length dd)).setCell ⟨w.heap.size + 1, 2, none⟩ (.int .i64 RC))) := ⟨((rz.set 0 (.slice p2 RL.length cc)).set 1 (.slice q2 RS.length dd)).set 2 (.int .i64 RC), om.kept (fun b t l ht hb => by
    have hne : b ≠ w.heap.size + 1 := fun e => by
      subst e
      have h1 := rz
      unfold Row at h1 hb
      rw [h1] at hb
      simp only [Option.some.injEq, Obj.cells.injEq] at hb
      rcases ht with e | e | e | e <;> (rw [e] at hb; exact absurd hb.2.1 (by decide))
    exact ((hb.other 0 (.slice p2 RL.length cc) hne).other 1 (.slice q2 RS.length dd) hne).other 2 (.int .i64 RC) hne), ((hB.setCell (p := ⟨w.heap.size + 1, 0, none⟩) (by show w.heap.size ≤ w.heap.size + 1; omega) (.slice p2 RL.length cc)).setCell (p := ⟨w.heap.size + 1, 1, none⟩) (by show w.heap.size ≤ w.heap.size + 1; omega) (.slice q2 RS.length dd)).setCell (p := ⟨w.heap.size + 1, 2, none⟩) (by show w.heap.size ≤ w.heap.size + 1; omega) (.int .i64 RC)⟩
  clear rz hB om hb1 HT HQ hs
  go_wp2_with fail
  obtain ⟨k1, k2, k3⟩ := HE.out
  clear HE z0 z1 z2 f0 f1 f2
  generalize (((w1.setCell ⟨w.heap.size + 1, 0, none⟩ (.slice p2 RL.length cc)).setCell ⟨w.heap.size + 1, 1, none⟩ (.slice q2 RS.length dd)).setCell ⟨w.heap.size + 1, 2, none⟩ (.int .i64 RC)) = Y at *
  have e0 : Y.cell? ⟨w.heap.size + 1, 0, none⟩ = some (.slice p2 RL.length cc) := k1.cell 0
  have e1 : Y.cell? ⟨w.heap.size + 1, 1, none⟩ = some (.slice q2 RS.length dd) := k1.cell 1
  have e2 : Y.cell? ⟨w.heap.size + 1, 2, none⟩ = some (.int .i64 RC) := k1.cell 2
  have hO : OutM w.heap.size (RC, RL, RS) (.returned (.agg #[.slice p2 RL.length cc, .slice q2 RS.length dd, .int .i64 RC])) Y := ⟨p2, cc, q2, dd, qs, rfl, hmp, k2⟩
  exact bodyPost_ret (v := .agg #[.slice p2 RL.length cc, .slice q2 RS.length dd, .int .i64 RC]) (by simp [results, Tryz.results23, go_sem, e0, e1, e2]) rfl ⟨hO, k3⟩
end Go.Proofs.YtcnadobnihbldaaGreat
