/- Texts that stand on each other, in one file: MTurnD. -/
import Derived.Test.YtcnadobnihbldaaGreatPack42
import Derived.Test.YtcnadobnihbldaaGreatPack41
import Derived.Test.YtcnadobnihbldaaGreatPack29
import Derived.Deep.CutRange
/- A cut and a join, by the model. (Written by gen_mturn.py.) -/
namespace Go.Proofs.YtcnadobnihbldaaGreat
open Go.RowKit Go.Sort

set_option maxRecDepth 100000 in
set_option maxHeartbeats 4000000 in
theorem specTurnDn_any (p : Option Addr) (c1 : Nat) (ps : List IvP) (q : Option Addr) (c2 : Nat) (ls : List Li) (n : Int) (up : Bool) (hup : up = false) (w : World) (h : IvsIn w p ps) (hL : LisIn w q ls) (hq : q = none → c2 = 0) (hn : ps.length ≤ 100000000) (hl : ls.length ≤ 100000000) (hm : ∀ e ∈ ps, IvM e.1 e.2 ∧ (e.1.x = none → e.1.c1 = 0) ∧ (e.1.y = none → e.1.c2 = 0) ∧ e.2.rs.length ≤ e.1.c2) :
    Calls Tryz.prog 50 #[.agg #[.slice p ps.length c1, .slice q ls.length c2], .int .i64 n, .bool up] w fun e w' => OutM w.heap.size (turnMO (ps.map (·.2)) ls n up) e w' ∧ Below w.heap.size w w' := by
  have HMR : Hid (∀ w, IvsIn w p ps → LisIn w q ls → Calls Tryz.prog 36 #[.agg #[.slice p ps.length c1, .slice q ls.length c2]] w fun e w' => e = .returned (.bool (meshB (ps.map (·.2)) ls)) ∧ Below w.heap.size w w') := fun w a b => specMesh_any p c1 ps q c2 ls w a b (by omega) hl (fun e he => (hm e he).1)
  have HCP : Hid (meshB (ps.map (·.2)) ls = true → ∀ w, IvsIn w p ps → LisIn w q ls → Calls Tryz.prog 37 #[.agg #[.slice p ps.length c1, .slice q ls.length c2]] w fun e w' => (∃ p' c' q' d' qs, e = .returned (.agg #[.slice p' ps.length c', .slice q' ls.length d']) ∧ qs.map (·.2) = ps.map (·.2) ∧ OwnMesh w' w.heap.size p' ps.length c' q' ls.length d' qs ls) ∧ Below w.heap.size w w') := fun hm5 w a b => l10Copy_any p c1 ps q c2 ls w a b hq (by have := (mesh_few hm5).2.1; rw [List.length_map] at this; omega) hl hm
  have HX : Hid (IvsIn w p ps ∧ LisIn w q ls) := ⟨h, hL⟩
  have HUP : Hid (up = false) := hup
  clear hup
  have HM : Hid (ps.length ≤ 100000000) := hn
  have HR : Hid (turnMO (ps.map (·.2)) ls n up = if meshB (ps.map (·.2)) ls = true then (if 0 ≤ n ∧ n < (ls.length : Int) then (if ((ifAtE (ps.map (·.2)) (ls[n.toNat]!.la, ls[n.toNat]!.lx)).u == up && (ifAtE (ps.map (·.2)) (ls[n.toNat]!.lb, ls[n.toNat]!.ly)).u == up) = true then ((10 : Int), [], []) else ((0 : Int), turn2 (ps.map (·.2)) ls[n.toNat]! up, ls)) else ((6 : Int), [], [])) else ((1 : Int), [], [])) := rfl
  generalize turnMO (ps.map (·.2)) ls n up = RES at *
  have r0 := (Row.new w 26 [.slice p ps.length c1, .slice q ls.length c2]).alloc (.cells #[.slice none 0 0, .slice none 0 0, .int .i64 0] 28)
  have rz := Row.new (w.alloc (.cells #[.slice p ps.length c1, .slice q ls.length c2] 26)) 28 [.slice none 0 0, .slice none 0 0, .int .i64 0]
  rw [show (w.alloc (.cells #[.slice p ps.length c1, .slice q ls.length c2] 26)).heap.size = w.heap.size + 1 by simp] at rz
  have hB : Below w.heap.size w ((w.alloc (.cells #[.slice p ps.length c1, .slice q ls.length c2] 26)).alloc (.cells #[.slice none 0 0, .slice none 0 0, .int .i64 0] 28)) := (ent_new0 w _).alloc (by simp) _
  have HQ : Hid _ := And.intro r0 (And.intro rz hB)
  clear h hL hq hm r0 rz hB
  go_enter Tryz.func50, Tryz.ntmps50
  go_wp2_with fail
  obtain ⟨r0, rz, hB⟩ := HQ.out
  clear HQ
  refine (HMR.out _ (HX.out.1.below hB) (HX.out.2.below hB)).mono ?_
  rintro e w1 ⟨rfl, hb1⟩
  replace r0 := r0.below hb1 r0.lt
  replace rz := rz.below hb1 rz.lt
  replace hB := hB.trans (hb1.mono hB.size)
  clear hb1 HMR
  have hR := HR.out
  clear HR
  cases hMB : meshB (ps.map (·.2)) ls
  · rw [hMB, if_neg Bool.false_ne_true] at hR
    go_wp2_with fail
    refine (l10Ill_any 1 _).mono ?_
    rintro e w2 ⟨rfl, hbx⟩
    replace rz := rz.below hbx rz.lt
    replace hB := hB.trans (hbx.mono hB.size)
    clear hbx
    have z0 : w2.cell? ⟨w.heap.size + 1, 0, none⟩ = some (.slice none 0 0) := rz.cell 0
    have z1 : w2.cell? ⟨w.heap.size + 1, 1, none⟩ = some (.slice none 0 0) := rz.cell 1
    have z2 : w2.cell? ⟨w.heap.size + 1, 2, none⟩ = some (.int .i64 0) := rz.cell 2
    have f0 := rz.frozen 0
    have f1 := rz.frozen 1
    have f2 := rz.frozen 2
    have HE : Hid (Row (((w2.setCell ⟨w.heap.size + 1, 0, none⟩ (.slice none 0 0)).setCell ⟨w.heap.size + 1, 1, none⟩ (.slice none 0 0)).setCell ⟨w.heap.size + 1, 2, none⟩ (.int .i64 1)) (w.heap.size + 1) 28 [.slice none 0 0, .slice none 0 0, .int .i64 1] ∧ Below w.heap.size w (((w2.setCell ⟨w.heap.size + 1, 0, none⟩ (.slice none 0 0)).setCell ⟨w.heap.size + 1, 1, none⟩ (.slice none 0 0)).setCell ⟨w.heap.size + 1, 2, none⟩ (.int .i64 1))) := ⟨((rz.set 0 (.slice none 0 0)).set 1 (.slice none 0 0)).set 2 (.int .i64 1), ((hB.setCell (p := ⟨w.heap.size + 1, 0, none⟩) (by show w.heap.size ≤ w.heap.size + 1; omega) (.slice none 0 0)).setCell (p := ⟨w.heap.size + 1, 1, none⟩) (by show w.heap.size ≤ w.heap.size + 1; omega) (.slice none 0 0)).setCell (p := ⟨w.heap.size + 1, 2, none⟩) (by show w.heap.size ≤ w.heap.size + 1; omega) (.int .i64 1)⟩
    clear HX HCP r0 hMB HM rz hB
    go_wp2_with fail
    obtain ⟨k1, k3⟩ := HE.out
    clear HE z0 z1 z2 f0 f1 f2
    generalize (((w2.setCell ⟨w.heap.size + 1, 0, none⟩ (.slice none 0 0)).setCell ⟨w.heap.size + 1, 1, none⟩ (.slice none 0 0)).setCell ⟨w.heap.size + 1, 2, none⟩ (.int .i64 1)) = Y at *
    have e0 : Y.cell? ⟨w.heap.size + 1, 0, none⟩ = some (.slice none 0 0) := k1.cell 0
    have e1 : Y.cell? ⟨w.heap.size + 1, 1, none⟩ = some (.slice none 0 0) := k1.cell 1
    have e2 : Y.cell? ⟨w.heap.size + 1, 2, none⟩ = some (.int .i64 1) := k1.cell 2
    exact bodyPost_ret (v := .agg #[.slice none 0 0, .slice none 0 0, .int .i64 1]) (by simp [results, Tryz.results50, go_sem, e0, e1, e2]) rfl ⟨by rw [hR]; exact outM_no _ _ _, k3⟩
  rw [hMB, if_pos rfl] at hR
  have HMB : Hid _ := hMB
  clear hMB
  have s1 : w1.cell? ⟨w.heap.size, 1, none⟩ = some (.slice q ls.length c2) := r0.cell 1
  go_wp2_with fail
  clear s1
  refine (l03Is_any n 0 ((ls.length : Int) - 1) _).mono ?_
  rintro e w2 ⟨rfl, rfl⟩
  by_cases hn0 : 0 ≤ n ∧ n ≤ (ls.length : Int) - 1
  case neg =>
    rw [decide_eq_false hn0]
    rw [if_neg (by omega)] at hR
    go_wp2_with fail
    refine (l10Ill_any 6 _).mono ?_
    rintro e w2 ⟨rfl, hbx⟩
    replace rz := rz.below hbx rz.lt
    replace hB := hB.trans (hbx.mono hB.size)
    clear hbx
    have z0 : w2.cell? ⟨w.heap.size + 1, 0, none⟩ = some (.slice none 0 0) := rz.cell 0
    have z1 : w2.cell? ⟨w.heap.size + 1, 1, none⟩ = some (.slice none 0 0) := rz.cell 1
    have z2 : w2.cell? ⟨w.heap.size + 1, 2, none⟩ = some (.int .i64 0) := rz.cell 2
    have f0 := rz.frozen 0
    have f1 := rz.frozen 1
    have f2 := rz.frozen 2
    have HE : Hid (Row (((w2.setCell ⟨w.heap.size + 1, 0, none⟩ (.slice none 0 0)).setCell ⟨w.heap.size + 1, 1, none⟩ (.slice none 0 0)).setCell ⟨w.heap.size + 1, 2, none⟩ (.int .i64 6)) (w.heap.size + 1) 28 [.slice none 0 0, .slice none 0 0, .int .i64 6] ∧ Below w.heap.size w (((w2.setCell ⟨w.heap.size + 1, 0, none⟩ (.slice none 0 0)).setCell ⟨w.heap.size + 1, 1, none⟩ (.slice none 0 0)).setCell ⟨w.heap.size + 1, 2, none⟩ (.int .i64 6))) := ⟨((rz.set 0 (.slice none 0 0)).set 1 (.slice none 0 0)).set 2 (.int .i64 6), ((hB.setCell (p := ⟨w.heap.size + 1, 0, none⟩) (by show w.heap.size ≤ w.heap.size + 1; omega) (.slice none 0 0)).setCell (p := ⟨w.heap.size + 1, 1, none⟩) (by show w.heap.size ≤ w.heap.size + 1; omega) (.slice none 0 0)).setCell (p := ⟨w.heap.size + 1, 2, none⟩) (by show w.heap.size ≤ w.heap.size + 1; omega) (.int .i64 6)⟩
    clear HX HCP r0 HMB HM hn0 rz hB
    go_wp2_with fail
    obtain ⟨k1, k3⟩ := HE.out
    clear HE z0 z1 z2 f0 f1 f2
    generalize (((w2.setCell ⟨w.heap.size + 1, 0, none⟩ (.slice none 0 0)).setCell ⟨w.heap.size + 1, 1, none⟩ (.slice none 0 0)).setCell ⟨w.heap.size + 1, 2, none⟩ (.int .i64 6)) = Y at *
    have e0 : Y.cell? ⟨w.heap.size + 1, 0, none⟩ = some (.slice none 0 0) := k1.cell 0
    have e1 : Y.cell? ⟨w.heap.size + 1, 1, none⟩ = some (.slice none 0 0) := k1.cell 1
    have e2 : Y.cell? ⟨w.heap.size + 1, 2, none⟩ = some (.int .i64 6) := k1.cell 2
    exact bodyPost_ret (v := .agg #[.slice none 0 0, .slice none 0 0, .int .i64 6]) (by simp [results, Tryz.results50, go_sem, e0, e1, e2]) rfl ⟨by rw [hR]; exact outM_no _ _ _, k3⟩
  rw [decide_eq_true hn0]
  rw [if_pos (by omega)] at hR
  obtain ⟨m, rfl⟩ : ∃ m : Nat, n = (m : Int) := ⟨n.toNat, by omega⟩
  have hm2 : m < ls.length := by omega
  clear hn0
  obtain ⟨r, i, s, j, hw⟩ := wok_of HMB.out (show wayAB ls[m] ∈ wayL ls from List.mem_of_getElem? (wayL_at0 ls m hm2))
  have he := hw.eq
  unfold wayAB at he
  simp only [Prod.mk.injEq] at he
  obtain ⟨⟨ea, ex⟩, eb, ey⟩ := he
  have hx : ls[m] = (⟨(r : Int), (i : Int), (s : Int), (j : Int)⟩ : Li) := by
    generalize ls[m] = X at ea ex eb ey ⊢
    obtain ⟨x1, x2, x3, x4⟩ := X
    simp only at ea ex eb ey
    rw [ea, ex, eb, ey]
  have hx2 : ls[(m : Int).toNat]! = (⟨(r : Int), (i : Int), (s : Int), (j : Int)⟩ : Li) := by rw [Int.toNat_natCast, getElem!_pos ls m hm2]; exact hx
  rw [hx2] at hR
  clear hx2 ea ex eb ey
  simp only [turn2, Int.toNat_natCast] at hR
  obtain ⟨gl, la, lx, lb, ly, rfl, hgl, hek, l0, l1, l2, l3⟩ := (HX.out.2.below hB).at m hm2
  have hek := hx.symm.trans hek
  cases hek
  clear hx
  have dm : decide ((m : Int) < (ls.length : Int)) = true := by simpa using hm2
  have s0 : w1.cell? ⟨w.heap.size, 1, none⟩ = some (.slice (some ⟨gl, 0, none⟩) ls.length c2) := r0.cell 1
  have hrp : r < ps.length := by have := hw.hr; rwa [List.length_map] at this
  have hsp : s < ps.length := by have := hw.hs; rwa [List.length_map] at this
  have hip := hw.hi
  have hjp := hw.hj
  rw [map_at hrp] at hip
  rw [map_at hsp] at hjp
  have hrs := hw.ne
  have u1 : (ifAtE (ps.map (·.2)) ((r : Int), (i : Int))).u = ps[r].2.is[i].u := by unfold ifAtE; simp only [Int.toNat_natCast]; rw [map_at hrp, getElem!_pos _ i hip]
  have u2 : (ifAtE (ps.map (·.2)) ((s : Int), (j : Int))).u = ps[s].2.is[j].u := by unfold ifAtE; simp only [Int.toNat_natCast]; rw [map_at hsp, getElem!_pos _ j hjp]
  rw [u1, u2] at hR
  clear u1 u2 hw
  have HBD : Hid (∀ k (hk : k < (ps.map (·.2)).length), ((ps.map (fun x : IvP => x.2))[k]!).is.length ≤ 100000000 ∧ ((ps.map (fun x : IvP => x.2))[k]!).rs.length ≤ 100000000) := fun k hk => by
    have := router_right HMB.out hk
    rw [← getElem!_pos (ps.map (·.2)) k hk] at this
    unfold ivB instB at this
    simp only [Bool.and_eq_true] at this
    have h1 := this.1
    have h2 := (ribB_spec this.2.1).1
    unfold ifsB at h1
    simp only [Bool.and_eq_true, decide_eq_true_eq] at h1
    omega
  have HN : Hid ((r < ps.length ∧ decide ((r : Int) < (ps.length : Int)) = true) ∧ (s < ps.length ∧ decide ((s : Int) < (ps.length : Int)) = true) ∧ r ≠ s) := ⟨⟨hrp, by simpa using hrp⟩, ⟨hsp, by simpa using hsp⟩, hrs⟩
  clear hrs
  have HE1 : Hid (∀ W, IvsIn W p ps → ∃ gp gx nn cc, p = some ⟨gp, 0, none⟩ ∧ W.cell? ⟨gp, r * 3, none⟩ = some (.slice (some ⟨gx, 0, none⟩) nn cc) ∧ (i < nn ∧ decide ((i : Int) < ((nn : Nat) : Int)) = true) ∧ W.cell? ⟨gx, i * 5 + 4, none⟩ = some (.bool ps[r].2.is[i].u)) := fun W h => ivs_end h hrp hip
  have HE2 : Hid (∀ W, IvsIn W p ps → ∃ gp gx nn cc, p = some ⟨gp, 0, none⟩ ∧ W.cell? ⟨gp, s * 3, none⟩ = some (.slice (some ⟨gx, 0, none⟩) nn cc) ∧ (j < nn ∧ decide ((j : Int) < ((nn : Nat) : Int)) = true) ∧ W.cell? ⟨gx, j * 5 + 4, none⟩ = some (.bool ps[s].2.is[j].u)) := fun W h => ivs_end h hsp hjp
  generalize ps[r].2.is[i].u = U1 at *
  generalize ps[s].2.is[j].u = U2 at *
  clear hip hjp hrp hsp
  have rL := Row.new w1 56 [.int .i64 (r : Int), .int .i64 (i : Int), .int .i64 (s : Int), .int .i64 (j : Int)]
  replace r0 := r0.alloc (.cells #[.int .i64 (r : Int), .int .i64 (i : Int), .int .i64 (s : Int), .int .i64 (j : Int)] 56)
  replace rz := rz.alloc (.cells #[.int .i64 (r : Int), .int .i64 (i : Int), .int .i64 (s : Int), .int .i64 (j : Int)] 56)
  replace hB := hB.alloc hB.size (.cells #[.int .i64 (r : Int), .int .i64 (i : Int), .int .i64 (s : Int), .int .i64 (j : Int)] 56)
  have HP : Hid _ := And.intro r0 (And.intro rz (And.intro rL hB))
  clear r0 rz rL hB
  go_wp2_with fail
  obtain ⟨r0, rz, rL, hB⟩ := HP.out
  clear HP s0 l0 l1 l2 l3 dm
  generalize w1.heap.size = bL at *
  generalize w1.alloc (.cells #[.int .i64 (r : Int), .int .i64 (i : Int), .int .i64 (s : Int), .int .i64 (j : Int)] 56) = wa at *
  obtain ⟨gp, gx, nn, cc, e, y0, ⟨din, di⟩, x0⟩ := HE1.out _ (HX.out.1.below hB)
  subst e
  obtain ⟨drn, dr⟩ := HN.out.1
  have s0 : wa.cell? ⟨w.heap.size, 0, none⟩ = some (.slice (some ⟨gp, 0, none⟩) ps.length c1) := r0.cell 0
  have a0 : wa.cell? ⟨bL, 0, none⟩ = some (.int .i64 (r : Int)) := rL.cell 0
  have a1 : wa.cell? ⟨bL, 1, none⟩ = some (.int .i64 (i : Int)) := rL.cell 1
  replace s0 := cell_regrown s0
  replace y0 := cell_regrown y0
  replace x0 := cell_regrown x0
  replace a0 := cell_regrown a0
  replace a1 := cell_regrown a1
  have HP : Hid _ := And.intro r0 (And.intro rz (And.intro rL hB))
  clear r0 rz rL hB
  refine wp_region_quiet_below (by kernel_rfl) (by kernel_rfl) ?_
  repeat (go_big_quiet_step (fail))
  refine wpQuiet_nil ?_
  intro wb hw'
  obtain ⟨⟨dq, osq⟩, hw''⟩ := hw'
  have hbq := below_regrown wa dq osq
  rw [← hw''] at hbq
  clear hw'' s0 y0 x0 a0 a1 din di drn dr
  obtain ⟨r0, rz, rL, hB⟩ := HP.out
  clear HP
  replace r0 := r0.below hbq r0.lt
  replace rz := rz.below hbq rz.lt
  replace rL := rL.below hbq rL.lt
  replace hB := hB.trans (hbq.mono hB.size)
  clear hbq
  go_wp2_with fail
  obtain ⟨gp, gx, nn, cc, e, y0, ⟨din, di⟩, x0⟩ := HE2.out _ (HX.out.1.below hB)
  cases e
  obtain ⟨drn, dr⟩ := HN.out.2.1
  have s0 : wb.cell? ⟨w.heap.size, 0, none⟩ = some (.slice (some ⟨gp, 0, none⟩) ps.length c1) := r0.cell 0
  have a0 : wb.cell? ⟨bL, 2, none⟩ = some (.int .i64 (s : Int)) := rL.cell 2
  have a1 : wb.cell? ⟨bL, 3, none⟩ = some (.int .i64 (j : Int)) := rL.cell 3
  replace s0 := cell_regrown s0
  replace y0 := cell_regrown y0
  replace x0 := cell_regrown x0
  replace a0 := cell_regrown a0
  replace a1 := cell_regrown a1
  have HP : Hid _ := And.intro r0 (And.intro rz (And.intro rL hB))
  clear r0 rz rL hB
  refine wp_region_quiet_below (by kernel_rfl) (by kernel_rfl) ?_
  repeat (go_big_quiet_step (fail))
  refine wpQuiet_nil ?_
  intro wc hw'
  obtain ⟨⟨dq, osq⟩, hw''⟩ := hw'
  have hbq := below_regrown wb dq osq
  rw [← hw''] at hbq
  clear hw'' s0 y0 x0 a0 a1 din di drn dr
  obtain ⟨r0, rz, rL, hB⟩ := HP.out
  clear HP
  replace r0 := r0.below hbq r0.lt
  replace rz := rz.below hbq rz.lt
  replace rL := rL.below hbq rL.lt
  replace hB := hB.trans (hbq.mono hB.size)
  clear hbq
  clear HE1 HE2
  cases hU1 : (U1 == up)
  case false =>
    rw [hU1, Bool.false_and, if_neg Bool.false_ne_true] at hR
    have s0 : wc.cell? ⟨w.heap.size, 0, none⟩ = some (.slice (some ⟨gp, 0, none⟩) ps.length c1) := r0.cell 0
    have s1 : wc.cell? ⟨w.heap.size, 1, none⟩ = some (.slice (some ⟨gl, 0, none⟩) ls.length c2) := r0.cell 1
    go_wp2_with fail
    clear s0 s1 r0
    refine (HCP.out HMB.out _ (HX.out.1.below hB) (HX.out.2.below hB)).mono ?_
    rintro e wd ⟨⟨p2, c3, q2, d2, qs, rfl, hqm, om⟩, hb2⟩
    replace om := om.mono hB.size
    replace rz := rz.below hb2 rz.lt
    replace rL := rL.below hb2 rL.lt
    replace hB := hB.trans (hb2.mono hB.size)
    clear hb2 HCP HX
    have hlen : ps.length = qs.length := by simpa using (congrArg List.length hqm).symm
    have HLN : Hid (ps.length = qs.length) := hlen
    have hrq : r < qs.length := by have := HN.out.1.1; omega
    have hsq : s < qs.length := by have := HN.out.2.1.1; omega
    obtain ⟨gq, rest_, e, -⟩ := om.at hlen hrq
    subst e
    have rM := Row.new wd 26 [.slice (some ⟨gq, 0, none⟩) ps.length c3, .slice q2 ls.length d2]
    replace rz := rz.alloc (.cells #[.slice (some ⟨gq, 0, none⟩) ps.length c3, .slice q2 ls.length d2] 26)
    replace rL := rL.alloc (.cells #[.slice (some ⟨gq, 0, none⟩) ps.length c3, .slice q2 ls.length d2] 26)
    replace om := om.alloc (.cells #[.slice (some ⟨gq, 0, none⟩) ps.length c3, .slice q2 ls.length d2] 26)
    replace hB := hB.alloc hB.size (.cells #[.slice (some ⟨gq, 0, none⟩) ps.length c3, .slice q2 ls.length d2] 26)
    have HP : Hid _ := And.intro rz (And.intro rL (And.intro rM (And.intro om hB)))
    clear rz rL rM om hB rest_
    rw [← hqm] at hR
    obtain ⟨⟨⟨ax, ac, ay, ad⟩, ⟨ais, ars, anw⟩⟩, hqa⟩ : ∃ e, qs[r] = e := ⟨_, rfl⟩
    obtain ⟨⟨⟨zx, zc, zy, zd⟩, ⟨zis, zrs, znw⟩⟩, hqz⟩ : ∃ e, qs[s] = e := ⟨_, rfl⟩
    have HBa : Hid (ais.length ≤ 100000000 ∧ ars.length ≤ 100000000) := by
      have := HBD.out r (by rw [← hqm, List.length_map]; exact hrq)
      rw [← hqm, map_at hrq, hqa] at this
      exact this
    have HBz : Hid (zis.length ≤ 100000000 ∧ zrs.length ≤ 100000000) := by
      have := HBD.out s (by rw [← hqm, List.length_map]; exact hsq)
      rw [← hqm, map_at hsq, hqz] at this
      exact this
    have HQa : Hid (∃ h : r < qs.length, qs[r] = (⟨ax, ac, ay, ad⟩, ⟨ais, ars, anw⟩)) := ⟨hrq, hqa⟩
    have HQz : Hid (∃ h : s < qs.length, qs[s] = (⟨zx, zc, zy, zd⟩, ⟨zis, zrs, znw⟩)) := ⟨hsq, hqz⟩
    have HLQ : Hid (qs.map (·.2) = ps.map (·.2)) := hqm
    clear hqa hqz hrq hsq hlen HBD hqm
    go_wp2_with fail
    generalize wd.heap.size = bM at *
    generalize wd.alloc (.cells #[.slice (some ⟨gq, 0, none⟩) ps.length c3, .slice q2 ls.length d2] 26) = we at *
    obtain ⟨rz, rL, rM, om, hB⟩ := HP.out
    clear HP
    have HWE : Hid (Row we (w.heap.size + 1) 28 [.slice none 0 0, .slice none 0 0, .int .i64 0] ∧ Row we bL 56 [.int .i64 (r : Int), .int .i64 (i : Int), .int .i64 (s : Int), .int .i64 (j : Int)] ∧ Row we bM 26 [.slice (some ⟨gq, 0, none⟩) ps.length c3, .slice q2 ls.length d2] ∧ OwnMesh we w.heap.size (some ⟨gq, 0, none⟩) ps.length c3 q2 ls.length d2 qs ls ∧ Below w.heap.size w we) := ⟨rz, rL, rM, om, hB⟩
    have hW : Below we.heap.size we we := Below.refl _ _
    clear rz rL rM om hB
    cases HUP.out
    clear HUP
    obtain ⟨rz, rL, rM, om, hBe⟩ := HWE.out
    replace rz := rz.below hW rz.lt
    replace rL := rL.below hW rL.lt
    replace rM := rM.below hW rM.lt
    replace om := om.below hW
    obtain ⟨rest, hbq, hgq, hrq, i0, i1, i2, oiv⟩ := om.cells HLN.out HQa.out.1 HQa.out.2
    clear hrq hbq rest rz om hBe
    simp only at i0 i1 i2
    have HDD : Hid (∀ W', OwnIv W' w.heap.size ⟨ax, ac, ay, ad⟩ ⟨ais, ars, anw⟩ → Calls Tryz.prog 86 #[.agg #[.slice ax ais.length ac, .slice ay ars.length ad, .int .i64 anw], .int .i64 (i : Int)] W' fun e w' => (∃ v, e = .returned v ∧ AnsI W'.heap.size (turnO ⟨ais, ars, anw⟩ (i : Int) false).1 (turnO ⟨ais, ars, anw⟩ (i : Int) false).2.1 (turnO ⟨ais, ars, anw⟩ (i : Int) false).2.2.1 (turnO ⟨ais, ars, anw⟩ (i : Int) false).2.2.2 v w') ∧ Below W'.heap.size W' w') := fun W' h => own_down (B := w.heap.size) (a := ⟨ax, ac, ay, ad⟩) (t := ⟨ais, ars, anw⟩) (W := W') (i : Int) h HBa.out.1 HBa.out.2
    generalize ht : turnO ⟨ais, ars, anw⟩ (i : Int) false = X at *
    obtain ⟨kcc, kis, krs, knw⟩ := X
    have HTk : Hid _ := ht
    clear ht
    simp only at HDD
    have hGN : (([(65, Is (.pointer (some ⟨bM, 0, none⟩))), (66, Is (.slice (some ⟨gq, 0, none⟩) ps.length c3)), (67, Is (.pointer (some ⟨bL, 0, none⟩))), (68, Is (.int .i64 (r : Int))), (69, Is (.pointer (some ⟨gq, r * 3, none⟩))), (70, Is (.agg #[.slice ax ais.length ac, .slice ay ars.length ad, .int .i64 anw])), (71, Is (.pointer (some ⟨bL, 1, none⟩))), (72, Is (.int .i64 (i : Int))), (73, AnsI we.heap.size kcc kis krs knw), (11, fun v W => ∃ g, v = .pointer (some ⟨g, 0, none⟩) ∧ we.heap.size ≤ g ∧ Row W g 63 [.slice none 0 0, .slice none 0 0, .int .i64 0, .int .i64 0])] : List (Nat × (Value → World → Prop))).map (·.1)).Nodup := by simp
    refine wp_region_steady 10 (SlotG [(65, Is (.pointer (some ⟨bM, 0, none⟩))), (66, Is (.slice (some ⟨gq, 0, none⟩) ps.length c3)), (67, Is (.pointer (some ⟨bL, 0, none⟩))), (68, Is (.int .i64 (r : Int))), (69, Is (.pointer (some ⟨gq, r * 3, none⟩))), (70, Is (.agg #[.slice ax ais.length ac, .slice ay ars.length ad, .int .i64 anw])), (71, Is (.pointer (some ⟨bL, 1, none⟩))), (72, Is (.int .i64 (i : Int))), (73, AnsI we.heap.size kcc kis krs knw), (11, fun v W => ∃ g, v = .pointer (some ⟨g, 0, none⟩) ∧ we.heap.size ≤ g ∧ Row W g 63 [.slice none 0 0, .slice none 0 0, .int .i64 0, .int .i64 0])]) (by kernel_rfl) (by kernel_rfl) (Stabs.all ⟨stab_is _, stab_is _, stab_is _, stab_is _, stab_is _, stab_is _, stab_is _, stab_is _, stab_ansI we.heap.size kcc kis krs knw, stab_new we.heap.size 63 [.slice none 0 0, .slice none 0 0, .int .i64 0, .int .i64 0], trivial⟩) ?_ ?_
    · intro o ho
      simp only [List.take_succ_cons, List.take_zero, List.mem_cons, List.not_mem_nil, or_false] at ho
      rcases ho with rfl | rfl | rfl | rfl | rfl | rfl | rfl | rfl | rfl | rfl
      · intro a' w' hb ha hdep
        have d10 : a'.tmps.getD 10 undef = .pointer (some ⟨bM, 0, none⟩) := ha.at 10 (by kernel_rfl)
        have hmk := fun (x : Value) (W : World) => SlotG.mk (x := x) (w := W) 0 rfl hGN
        clear hGN ha hdep
        go_simp
        exact ⟨_, rfl, Below.refl _ _, hmk _ _ rfl⟩
      · intro a' w' hb ha hdep
        have d65 : a'.tmps.getD 65 undef = .pointer (some ⟨bM, 0, none⟩) := (hdep 65 (of_decide_eq_true (by kernel_rfl))).is 0 rfl
        have hmk := fun (x : Value) (W : World) => SlotG.mk (x := x) (w := W) 1 rfl hGN
        clear hGN ha hdep
        have y : w'.cell? ⟨bM, 0, none⟩ = some (.slice (some ⟨gq, 0, none⟩) ps.length c3) := (rM.below hb rM.lt).cell 0
        go_simp
        exact ⟨_, rfl, Below.refl _ _, hmk _ _ rfl⟩
      · intro a' w' hb ha hdep
        have d7 : a'.tmps.getD 7 undef = .pointer (some ⟨bL, 0, none⟩) := ha.at 7 (by kernel_rfl)
        have hmk := fun (x : Value) (W : World) => SlotG.mk (x := x) (w := W) 2 rfl hGN
        clear hGN ha hdep
        go_simp
        exact ⟨_, rfl, Below.refl _ _, hmk _ _ rfl⟩
      · intro a' w' hb ha hdep
        have d67 : a'.tmps.getD 67 undef = .pointer (some ⟨bL, 0, none⟩) := (hdep 67 (of_decide_eq_true (by kernel_rfl))).is 2 rfl
        have hmk := fun (x : Value) (W : World) => SlotG.mk (x := x) (w := W) 3 rfl hGN
        clear hGN ha hdep
        have y : w'.cell? ⟨bL, 0, none⟩ = some (.int .i64 (r : Int)) := (rL.below hb rL.lt).cell 0
        go_simp
        exact ⟨_, rfl, Below.refl _ _, hmk _ _ rfl⟩
      · intro a' w' hb ha hdep
        have d66 : a'.tmps.getD 66 undef = .slice (some ⟨gq, 0, none⟩) ps.length c3 := (hdep 66 (of_decide_eq_true (by kernel_rfl))).is 1 rfl
        have d68 : a'.tmps.getD 68 undef = .int .i64 (r : Int) := (hdep 68 (of_decide_eq_true (by kernel_rfl))).is 3 rfl
        have hmk := fun (x : Value) (W : World) => SlotG.mk (x := x) (w := W) 4 rfl hGN
        clear hGN ha hdep
        obtain ⟨drn, dr⟩ := HN.out.1
        go_simp
        exact ⟨_, rfl, Below.refl _ _, hmk _ _ rfl⟩
      · intro a' w' hb ha hdep
        have d69 : a'.tmps.getD 69 undef = .pointer (some ⟨gq, r * 3, none⟩) := (hdep 69 (of_decide_eq_true (by kernel_rfl))).is 4 rfl
        have hmk := fun (x : Value) (W : World) => SlotG.mk (x := x) (w := W) 5 rfl hGN
        clear hGN ha hdep
        have v0 : w'.cell? ⟨gq, r * 3, none⟩ = some (.slice ax ais.length ac) := by rw [hb.cell (p := ⟨gq, r * 3, none⟩) hgq]; exact i0
        have v1 : w'.cell? ⟨gq, r * 3 + 1, none⟩ = some (.slice ay ars.length ad) := by rw [hb.cell (p := ⟨gq, r * 3 + 1, none⟩) hgq]; exact i1
        have v2 : w'.cell? ⟨gq, r * 3 + 2, none⟩ = some (.int .i64 anw) := by rw [hb.cell (p := ⟨gq, r * 3 + 2, none⟩) hgq]; exact i2
        go_simp
        exact ⟨_, rfl, Below.refl _ _, hmk _ _ rfl⟩
      · intro a' w' hb ha hdep
        have d7 : a'.tmps.getD 7 undef = .pointer (some ⟨bL, 0, none⟩) := ha.at 7 (by kernel_rfl)
        have hmk := fun (x : Value) (W : World) => SlotG.mk (x := x) (w := W) 6 rfl hGN
        clear hGN ha hdep
        go_simp
        exact ⟨_, rfl, Below.refl _ _, hmk _ _ rfl⟩
      · intro a' w' hb ha hdep
        have d71 : a'.tmps.getD 71 undef = .pointer (some ⟨bL, 1, none⟩) := (hdep 71 (of_decide_eq_true (by kernel_rfl))).is 6 rfl
        have hmk := fun (x : Value) (W : World) => SlotG.mk (x := x) (w := W) 7 rfl hGN
        clear hGN ha hdep
        have y : w'.cell? ⟨bL, 1, none⟩ = some (.int .i64 (i : Int)) := (rL.below hb rL.lt).cell 1
        go_simp
        exact ⟨_, rfl, Below.refl _ _, hmk _ _ rfl⟩
      · intro a' w' hb ha hdep
        have d70 : a'.tmps.getD 70 undef = .agg #[.slice ax ais.length ac, .slice ay ars.length ad, .int .i64 anw] := (hdep 70 (of_decide_eq_true (by kernel_rfl))).is 5 rfl
        have d72 : a'.tmps.getD 72 undef = .int .i64 (i : Int) := (hdep 72 (of_decide_eq_true (by kernel_rfl))).is 7 rfl
        have hmk := fun (x : Value) (W : World) => SlotG.mk (x := x) (w := W) 8 rfl hGN
        clear hGN ha hdep
        go_simp
        refine (HDD.out _ (oiv.below hb)).mono ?_
        rintro e w2 ⟨⟨v_, rfl, x_, c_, y_, d_, rfl, o1, o2⟩, hb2⟩
        exact ⟨_, rfl, hb2, hmk _ _ ⟨x_, c_, y_, d_, rfl, owns_mono o1 hb.size, owns_mono o2 hb.size⟩⟩
      · intro a' w' hb ha hdep
        have hmk := fun (x : Value) (W : World) => SlotG.mk (x := x) (w := W) 9 rfl hGN
        clear hGN ha hdep
        have hsz := hb.size
        go_simp
        exact ⟨_, rfl, ent_new0 _ _, hmk _ _ ⟨_, rfl, hsz, Row.new w' 63 [.slice none 0 0, .slice none 0 0, .int .i64 0, .int .i64 0]⟩⟩
    · intro a' w' hb ha hG
      clear hGN
      have D73 := (hG _ (List.mem_of_getElem? (i := 8) rfl) 73 rfl).get 8 rfl
      have D11 := (hG _ (List.mem_of_getElem? (i := 9) rfl) 11 rfl).get 9 rfl
      have d2 : a'.tmps.getD 2 undef = .bool false := ha.at 2 (by kernel_rfl)
      have d6 : a'.tmps.getD 6 undef = .pointer (some ⟨w.heap.size + 1, 0, none⟩) := ha.at 6 (by kernel_rfl)
      have d7 : a'.tmps.getD 7 undef = .pointer (some ⟨bL, 0, none⟩) := ha.at 7 (by kernel_rfl)
      have d10 : a'.tmps.getD 10 undef = .pointer (some ⟨bM, 0, none⟩) := ha.at 10 (by kernel_rfl)
      have e2 : a' = ⟨#[a'.tmps.getD 0 undef, a'.tmps.getD 1 undef, a'.tmps.getD 2 undef, a'.tmps.getD 3 undef, a'.tmps.getD 4 undef, a'.tmps.getD 5 undef, a'.tmps.getD 6 undef, a'.tmps.getD 7 undef, a'.tmps.getD 8 undef, a'.tmps.getD 9 undef, a'.tmps.getD 10 undef, a'.tmps.getD 11 undef, a'.tmps.getD 12 undef, a'.tmps.getD 13 undef, a'.tmps.getD 14 undef, a'.tmps.getD 15 undef, a'.tmps.getD 16 undef, a'.tmps.getD 17 undef, a'.tmps.getD 18 undef, a'.tmps.getD 19 undef, a'.tmps.getD 20 undef, a'.tmps.getD 21 undef, a'.tmps.getD 22 undef, a'.tmps.getD 23 undef, a'.tmps.getD 24 undef, a'.tmps.getD 25 undef, a'.tmps.getD 26 undef, a'.tmps.getD 27 undef, a'.tmps.getD 28 undef, a'.tmps.getD 29 undef, a'.tmps.getD 30 undef, a'.tmps.getD 31 undef, a'.tmps.getD 32 undef, a'.tmps.getD 33 undef, a'.tmps.getD 34 undef, a'.tmps.getD 35 undef, a'.tmps.getD 36 undef, a'.tmps.getD 37 undef, a'.tmps.getD 38 undef, a'.tmps.getD 39 undef, a'.tmps.getD 40 undef, a'.tmps.getD 41 undef, a'.tmps.getD 42 undef, a'.tmps.getD 43 undef, a'.tmps.getD 44 undef, a'.tmps.getD 45 undef, a'.tmps.getD 46 undef, a'.tmps.getD 47 undef, a'.tmps.getD 48 undef, a'.tmps.getD 49 undef, a'.tmps.getD 50 undef, a'.tmps.getD 51 undef, a'.tmps.getD 52 undef, a'.tmps.getD 53 undef, a'.tmps.getD 54 undef, a'.tmps.getD 55 undef, a'.tmps.getD 56 undef, a'.tmps.getD 57 undef, a'.tmps.getD 58 undef, a'.tmps.getD 59 undef, a'.tmps.getD 60 undef, a'.tmps.getD 61 undef, a'.tmps.getD 62 undef, a'.tmps.getD 63 undef, a'.tmps.getD 64 undef, a'.tmps.getD 65 undef, a'.tmps.getD 66 undef, a'.tmps.getD 67 undef, a'.tmps.getD 68 undef, a'.tmps.getD 69 undef, a'.tmps.getD 70 undef, a'.tmps.getD 71 undef, a'.tmps.getD 72 undef, a'.tmps.getD 73 undef, a'.tmps.getD 74 undef, a'.tmps.getD 75 undef, a'.tmps.getD 76 undef, a'.tmps.getD 77 undef, a'.tmps.getD 78 undef, a'.tmps.getD 79 undef, a'.tmps.getD 80 undef, a'.tmps.getD 81 undef, a'.tmps.getD 82 undef, a'.tmps.getD 83 undef, a'.tmps.getD 84 undef, a'.tmps.getD 85 undef, a'.tmps.getD 86 undef, a'.tmps.getD 87 undef, a'.tmps.getD 88 undef, a'.tmps.getD 89 undef, a'.tmps.getD 90 undef, a'.tmps.getD 91 undef, a'.tmps.getD 92 undef, a'.tmps.getD 93 undef, a'.tmps.getD 94 undef, a'.tmps.getD 95 undef, a'.tmps.getD 96 undef, a'.tmps.getD 97 undef, a'.tmps.getD 98 undef, a'.tmps.getD 99 undef, a'.tmps.getD 100 undef, a'.tmps.getD 101 undef, a'.tmps.getD 102 undef, a'.tmps.getD 103 undef, a'.tmps.getD 104 undef, a'.tmps.getD 105 undef, a'.tmps.getD 106 undef, a'.tmps.getD 107 undef, a'.tmps.getD 108 undef, a'.tmps.getD 109 undef, a'.tmps.getD 110 undef, a'.tmps.getD 111 undef, a'.tmps.getD 112 undef, a'.tmps.getD 113 undef, a'.tmps.getD 114 undef, a'.tmps.getD 115 undef, a'.tmps.getD 116 undef, a'.tmps.getD 117 undef, a'.tmps.getD 118 undef, a'.tmps.getD 119 undef, a'.tmps.getD 120 undef, a'.tmps.getD 121 undef, a'.tmps.getD 122 undef, a'.tmps.getD 123 undef], []⟩ := by rw [← (show a'.defers = [] from ha.2.1)]; exact act_eq a' 124 ha.1
      rw [d2, d6, d7, d10] at e2
      clear hG ha d2 d6 d7 d10
      generalize a'.tmps.getD 0 undef = x0 at *
      generalize a'.tmps.getD 1 undef = x1 at *
      generalize a'.tmps.getD 3 undef = x3 at *
      generalize a'.tmps.getD 4 undef = x4 at *
      generalize a'.tmps.getD 5 undef = x5 at *
      generalize a'.tmps.getD 8 undef = x8 at *
      generalize a'.tmps.getD 9 undef = x9 at *
      generalize a'.tmps.getD 11 undef = x11 at *
      generalize a'.tmps.getD 12 undef = x12 at *
      generalize a'.tmps.getD 13 undef = x13 at *
      generalize a'.tmps.getD 14 undef = x14 at *
      generalize a'.tmps.getD 15 undef = x15 at *
      generalize a'.tmps.getD 16 undef = x16 at *
      generalize a'.tmps.getD 17 undef = x17 at *
      generalize a'.tmps.getD 18 undef = x18 at *
      generalize a'.tmps.getD 19 undef = x19 at *
      generalize a'.tmps.getD 20 undef = x20 at *
      generalize a'.tmps.getD 21 undef = x21 at *
      generalize a'.tmps.getD 22 undef = x22 at *
      generalize a'.tmps.getD 23 undef = x23 at *
      generalize a'.tmps.getD 24 undef = x24 at *
      generalize a'.tmps.getD 25 undef = x25 at *
      generalize a'.tmps.getD 26 undef = x26 at *
      generalize a'.tmps.getD 27 undef = x27 at *
      generalize a'.tmps.getD 28 undef = x28 at *
      generalize a'.tmps.getD 29 undef = x29 at *
      generalize a'.tmps.getD 30 undef = x30 at *
      generalize a'.tmps.getD 31 undef = x31 at *
      generalize a'.tmps.getD 32 undef = x32 at *
      generalize a'.tmps.getD 33 undef = x33 at *
      generalize a'.tmps.getD 34 undef = x34 at *
      generalize a'.tmps.getD 35 undef = x35 at *
      generalize a'.tmps.getD 36 undef = x36 at *
      generalize a'.tmps.getD 37 undef = x37 at *
      generalize a'.tmps.getD 38 undef = x38 at *
      generalize a'.tmps.getD 39 undef = x39 at *
      generalize a'.tmps.getD 40 undef = x40 at *
      generalize a'.tmps.getD 41 undef = x41 at *
      generalize a'.tmps.getD 42 undef = x42 at *
      generalize a'.tmps.getD 43 undef = x43 at *
      generalize a'.tmps.getD 44 undef = x44 at *
      generalize a'.tmps.getD 45 undef = x45 at *
      generalize a'.tmps.getD 46 undef = x46 at *
      generalize a'.tmps.getD 47 undef = x47 at *
      generalize a'.tmps.getD 48 undef = x48 at *
      generalize a'.tmps.getD 49 undef = x49 at *
      generalize a'.tmps.getD 50 undef = x50 at *
      generalize a'.tmps.getD 51 undef = x51 at *
      generalize a'.tmps.getD 52 undef = x52 at *
      generalize a'.tmps.getD 53 undef = x53 at *
      generalize a'.tmps.getD 54 undef = x54 at *
      generalize a'.tmps.getD 55 undef = x55 at *
      generalize a'.tmps.getD 56 undef = x56 at *
      generalize a'.tmps.getD 57 undef = x57 at *
      generalize a'.tmps.getD 58 undef = x58 at *
      generalize a'.tmps.getD 59 undef = x59 at *
      generalize a'.tmps.getD 60 undef = x60 at *
      generalize a'.tmps.getD 61 undef = x61 at *
      generalize a'.tmps.getD 62 undef = x62 at *
      generalize a'.tmps.getD 63 undef = x63 at *
      generalize a'.tmps.getD 64 undef = x64 at *
      generalize a'.tmps.getD 65 undef = x65 at *
      generalize a'.tmps.getD 66 undef = x66 at *
      generalize a'.tmps.getD 67 undef = x67 at *
      generalize a'.tmps.getD 68 undef = x68 at *
      generalize a'.tmps.getD 69 undef = x69 at *
      generalize a'.tmps.getD 70 undef = x70 at *
      generalize a'.tmps.getD 71 undef = x71 at *
      generalize a'.tmps.getD 72 undef = x72 at *
      generalize a'.tmps.getD 73 undef = x73 at *
      generalize a'.tmps.getD 74 undef = x74 at *
      generalize a'.tmps.getD 75 undef = x75 at *
      generalize a'.tmps.getD 76 undef = x76 at *
      generalize a'.tmps.getD 77 undef = x77 at *
      generalize a'.tmps.getD 78 undef = x78 at *
      generalize a'.tmps.getD 79 undef = x79 at *
      generalize a'.tmps.getD 80 undef = x80 at *
      generalize a'.tmps.getD 81 undef = x81 at *
      generalize a'.tmps.getD 82 undef = x82 at *
      generalize a'.tmps.getD 83 undef = x83 at *
      generalize a'.tmps.getD 84 undef = x84 at *
      generalize a'.tmps.getD 85 undef = x85 at *
      generalize a'.tmps.getD 86 undef = x86 at *
      generalize a'.tmps.getD 87 undef = x87 at *
      generalize a'.tmps.getD 88 undef = x88 at *
      generalize a'.tmps.getD 89 undef = x89 at *
      generalize a'.tmps.getD 90 undef = x90 at *
      generalize a'.tmps.getD 91 undef = x91 at *
      generalize a'.tmps.getD 92 undef = x92 at *
      generalize a'.tmps.getD 93 undef = x93 at *
      generalize a'.tmps.getD 94 undef = x94 at *
      generalize a'.tmps.getD 95 undef = x95 at *
      generalize a'.tmps.getD 96 undef = x96 at *
      generalize a'.tmps.getD 97 undef = x97 at *
      generalize a'.tmps.getD 98 undef = x98 at *
      generalize a'.tmps.getD 99 undef = x99 at *
      generalize a'.tmps.getD 100 undef = x100 at *
      generalize a'.tmps.getD 101 undef = x101 at *
      generalize a'.tmps.getD 102 undef = x102 at *
      generalize a'.tmps.getD 103 undef = x103 at *
      generalize a'.tmps.getD 104 undef = x104 at *
      generalize a'.tmps.getD 105 undef = x105 at *
      generalize a'.tmps.getD 106 undef = x106 at *
      generalize a'.tmps.getD 107 undef = x107 at *
      generalize a'.tmps.getD 108 undef = x108 at *
      generalize a'.tmps.getD 109 undef = x109 at *
      generalize a'.tmps.getD 110 undef = x110 at *
      generalize a'.tmps.getD 111 undef = x111 at *
      generalize a'.tmps.getD 112 undef = x112 at *
      generalize a'.tmps.getD 113 undef = x113 at *
      generalize a'.tmps.getD 114 undef = x114 at *
      generalize a'.tmps.getD 115 undef = x115 at *
      generalize a'.tmps.getD 116 undef = x116 at *
      generalize a'.tmps.getD 117 undef = x117 at *
      generalize a'.tmps.getD 118 undef = x118 at *
      generalize a'.tmps.getD 119 undef = x119 at *
      generalize a'.tmps.getD 120 undef = x120 at *
      generalize a'.tmps.getD 121 undef = x121 at *
      generalize a'.tmps.getD 122 undef = x122 at *
      generalize a'.tmps.getD 123 undef = x123 at *
      subst e2
      simp only [List.drop_succ_cons, List.drop_zero]
      have hsz := hW.size
      obtain ⟨gY, rfl, hgY, rY⟩ := D11
      have hgY : we.heap.size ≤ gY := Nat.le_trans hW.size hgY
      obtain ⟨kx, kc, ky, kd, rfl, oki, okr⟩ := D73
      have z0 : w'.cell? ⟨gY, 0, none⟩ = some (.slice none 0 0) := rY.cell 0
      have z1 : w'.cell? ⟨gY, 1, none⟩ = some (.slice none 0 0) := rY.cell 1
      have z2 : w'.cell? ⟨gY, 2, none⟩ = some (.int .i64 0) := rY.cell 2
      have z3 : w'.cell? ⟨gY, 3, none⟩ = some (.int .i64 0) := rY.cell 3
      have f0 : w'.frozen? ⟨gY, 0, none⟩ = false := rY.frozen 0
      have f1 : w'.frozen? ⟨gY, 1, none⟩ = false := rY.frozen 1
      have f2 : w'.frozen? ⟨gY, 2, none⟩ = false := rY.frozen 2
      have f3 : w'.frozen? ⟨gY, 3, none⟩ = false := rY.frozen 3
      have hko : ∀ b t l, b ≠ gY → Row w' b t l → Row ((((w'.setCell ⟨gY, 0, none⟩ (.slice kx kis.length kc)).setCell ⟨gY, 1, none⟩ (.slice ky krs.length kd)).setCell ⟨gY, 2, none⟩ (.int .i64 knw)).setCell ⟨gY, 3, none⟩ (.int .i64 kcc)) b t l := fun b t l hne h => (((h.other 0 (.slice kx kis.length kc) hne).other 1 (.slice ky krs.length kd) hne).other 2 (.int .i64 knw) hne).other 3 (.int .i64 kcc) hne
      have HFG : Hid (we.heap.size ≤ ((((w'.setCell ⟨gY, 0, none⟩ (.slice kx kis.length kc)).setCell ⟨gY, 1, none⟩ (.slice ky krs.length kd)).setCell ⟨gY, 2, none⟩ (.int .i64 knw)).setCell ⟨gY, 3, none⟩ (.int .i64 kcc)).heap.size) := by have := hb.size; show _ ≤ _; simp; omega
      have HE : Hid (Row ((((w'.setCell ⟨gY, 0, none⟩ (.slice kx kis.length kc)).setCell ⟨gY, 1, none⟩ (.slice ky krs.length kd)).setCell ⟨gY, 2, none⟩ (.int .i64 knw)).setCell ⟨gY, 3, none⟩ (.int .i64 kcc)) gY 63 [.slice kx kis.length kc, .slice ky krs.length kd, .int .i64 knw, .int .i64 kcc] ∧ ((((w'.setCell ⟨gY, 0, none⟩ (.slice kx kis.length kc)).setCell ⟨gY, 1, none⟩ (.slice ky krs.length kd)).setCell ⟨gY, 2, none⟩ (.int .i64 knw)).setCell ⟨gY, 3, none⟩ (.int .i64 kcc)).ownsRow we.heap.size 53 5 (.slice kx kis.length kc) kis.length (rowI kis) ∧ ((((w'.setCell ⟨gY, 0, none⟩ (.slice kx kis.length kc)).setCell ⟨gY, 1, none⟩ (.slice ky krs.length kd)).setCell ⟨gY, 2, none⟩ (.int .i64 knw)).setCell ⟨gY, 3, none⟩ (.int .i64 kcc)).ownsRow we.heap.size 155 9 (.slice ky krs.length kd) krs.length (rowR krs) ∧ Below we.heap.size we ((((w'.setCell ⟨gY, 0, none⟩ (.slice kx kis.length kc)).setCell ⟨gY, 1, none⟩ (.slice ky krs.length kd)).setCell ⟨gY, 2, none⟩ (.int .i64 knw)).setCell ⟨gY, 3, none⟩ (.int .i64 kcc))) := ⟨((((rY.set 0 (.slice kx kis.length kc)).set 1 (.slice ky krs.length kd)).set 2 (.int .i64 knw)).set 3 (.int .i64 kcc)), owns_kept oki (fun b t l e h => hko b t l (fun e2 => by subst e2; exact owns_ne oki rY (by decide) e) h), owns_kept okr (fun b t l e h => hko b t l (fun e2 => by subst e2; exact owns_ne okr rY (by decide) e) h), ((((((((hW.trans (hb.mono hW.size)).setCell (p := ⟨gY, 0, none⟩) hgY (.slice kx kis.length kc))).setCell (p := ⟨gY, 1, none⟩) hgY (.slice ky krs.length kd))).setCell (p := ⟨gY, 2, none⟩) hgY (.int .i64 knw))).setCell (p := ⟨gY, 3, none⟩) hgY (.int .i64 kcc))⟩
      have hWW := HE.out.2.2.2.size
      clear hko hsz hb rM rL i0 i1 i2 oiv HDD rY oki okr hW
      go_wp2_with fail
      obtain ⟨rY, oki, okr, hW⟩ := HE.out
      clear HE z0 z1 z2 z3 f0 f1 f2 f3 hWW
      generalize ((((w'.setCell ⟨gY, 0, none⟩ (.slice kx kis.length kc)).setCell ⟨gY, 1, none⟩ (.slice ky krs.length kd)).setCell ⟨gY, 2, none⟩ (.int .i64 knw)).setCell ⟨gY, 3, none⟩ (.int .i64 kcc)) = wf at *
      have HLY : Hid (∀ b, kx = some ⟨b, 0, none⟩ ∨ ky = some ⟨b, 0, none⟩ → b < wf.heap.size) := fun b hb => by
        rcases hb with e | e
        · exact owns_lt oki b e
        · exact owns_lt okr b e
      have HWF : Hid (we.heap.size ≤ wf.heap.size) := hW.size
      obtain ⟨rz, rL, rM, om, hBe⟩ := HWE.out
      replace rz := rz.below hW rz.lt
      replace rL := rL.below hW rL.lt
      replace rM := rM.below hW rM.lt
      replace om := om.below hW
      obtain ⟨rest, hbq, hgq, hrq, i0, i1, i2, oiv⟩ := om.cells HLN.out HQz.out.1 HQz.out.2
      clear hrq hbq rest rz om hBe
      simp only at i0 i1 i2
      have HDD : Hid (∀ W', OwnIv W' w.heap.size ⟨zx, zc, zy, zd⟩ ⟨zis, zrs, znw⟩ → Calls Tryz.prog 86 #[.agg #[.slice zx zis.length zc, .slice zy zrs.length zd, .int .i64 znw], .int .i64 (j : Int)] W' fun e w' => (∃ v, e = .returned v ∧ AnsI W'.heap.size (turnO ⟨zis, zrs, znw⟩ (j : Int) false).1 (turnO ⟨zis, zrs, znw⟩ (j : Int) false).2.1 (turnO ⟨zis, zrs, znw⟩ (j : Int) false).2.2.1 (turnO ⟨zis, zrs, znw⟩ (j : Int) false).2.2.2 v w') ∧ Below W'.heap.size W' w') := fun W' h => own_down (B := w.heap.size) (a := ⟨zx, zc, zy, zd⟩) (t := ⟨zis, zrs, znw⟩) (W := W') (j : Int) h HBz.out.1 HBz.out.2
      generalize ht : turnO ⟨zis, zrs, znw⟩ (j : Int) false = X at *
      obtain ⟨ycc, yis, yrs, ynw⟩ := X
      have HTy : Hid _ := ht
      clear ht
      simp only at HDD
      have hYlt := rY.lt
      have hGN : (([(74, Is (.pointer (some ⟨bM, 0, none⟩))), (75, Is (.slice (some ⟨gq, 0, none⟩) ps.length c3)), (76, Is (.pointer (some ⟨bL, 2, none⟩))), (77, Is (.int .i64 (s : Int))), (78, Is (.pointer (some ⟨gq, s * 3, none⟩))), (79, Is (.agg #[.slice zx zis.length zc, .slice zy zrs.length zd, .int .i64 znw])), (80, Is (.pointer (some ⟨bL, 3, none⟩))), (81, Is (.int .i64 (j : Int))), (82, AnsI wf.heap.size ycc yis yrs ynw), (12, fun v W => ∃ g, v = .pointer (some ⟨g, 0, none⟩) ∧ wf.heap.size ≤ g ∧ Row W g 63 [.slice none 0 0, .slice none 0 0, .int .i64 0, .int .i64 0])] : List (Nat × (Value → World → Prop))).map (·.1)).Nodup := by simp
      refine wp_region_steady 10 (SlotG [(74, Is (.pointer (some ⟨bM, 0, none⟩))), (75, Is (.slice (some ⟨gq, 0, none⟩) ps.length c3)), (76, Is (.pointer (some ⟨bL, 2, none⟩))), (77, Is (.int .i64 (s : Int))), (78, Is (.pointer (some ⟨gq, s * 3, none⟩))), (79, Is (.agg #[.slice zx zis.length zc, .slice zy zrs.length zd, .int .i64 znw])), (80, Is (.pointer (some ⟨bL, 3, none⟩))), (81, Is (.int .i64 (j : Int))), (82, AnsI wf.heap.size ycc yis yrs ynw), (12, fun v W => ∃ g, v = .pointer (some ⟨g, 0, none⟩) ∧ wf.heap.size ≤ g ∧ Row W g 63 [.slice none 0 0, .slice none 0 0, .int .i64 0, .int .i64 0])]) (by kernel_rfl) (by kernel_rfl) (Stabs.all ⟨stab_is _, stab_is _, stab_is _, stab_is _, stab_is _, stab_is _, stab_is _, stab_is _, stab_ansI wf.heap.size ycc yis yrs ynw, stab_new wf.heap.size 63 [.slice none 0 0, .slice none 0 0, .int .i64 0, .int .i64 0], trivial⟩) ?_ ?_
      · intro o ho
        simp only [List.take_succ_cons, List.take_zero, List.mem_cons, List.not_mem_nil, or_false] at ho
        rcases ho with rfl | rfl | rfl | rfl | rfl | rfl | rfl | rfl | rfl | rfl
        · intro a' w' hb ha hdep
          have d10 : a'.tmps.getD 10 undef = .pointer (some ⟨bM, 0, none⟩) := ha.at 10 (by kernel_rfl)
          have hmk := fun (x : Value) (W : World) => SlotG.mk (x := x) (w := W) 0 rfl hGN
          clear hGN ha hdep
          go_simp
          exact ⟨_, rfl, Below.refl _ _, hmk _ _ rfl⟩
        · intro a' w' hb ha hdep
          have d74 : a'.tmps.getD 74 undef = .pointer (some ⟨bM, 0, none⟩) := (hdep 74 (of_decide_eq_true (by kernel_rfl))).is 0 rfl
          have hmk := fun (x : Value) (W : World) => SlotG.mk (x := x) (w := W) 1 rfl hGN
          clear hGN ha hdep
          have y : w'.cell? ⟨bM, 0, none⟩ = some (.slice (some ⟨gq, 0, none⟩) ps.length c3) := (rM.below hb rM.lt).cell 0
          go_simp
          exact ⟨_, rfl, Below.refl _ _, hmk _ _ rfl⟩
        · intro a' w' hb ha hdep
          have d7 : a'.tmps.getD 7 undef = .pointer (some ⟨bL, 0, none⟩) := ha.at 7 (by kernel_rfl)
          have hmk := fun (x : Value) (W : World) => SlotG.mk (x := x) (w := W) 2 rfl hGN
          clear hGN ha hdep
          go_simp
          exact ⟨_, rfl, Below.refl _ _, hmk _ _ rfl⟩
        · intro a' w' hb ha hdep
          have d76 : a'.tmps.getD 76 undef = .pointer (some ⟨bL, 2, none⟩) := (hdep 76 (of_decide_eq_true (by kernel_rfl))).is 2 rfl
          have hmk := fun (x : Value) (W : World) => SlotG.mk (x := x) (w := W) 3 rfl hGN
          clear hGN ha hdep
          have y : w'.cell? ⟨bL, 2, none⟩ = some (.int .i64 (s : Int)) := (rL.below hb rL.lt).cell 2
          go_simp
          exact ⟨_, rfl, Below.refl _ _, hmk _ _ rfl⟩
        · intro a' w' hb ha hdep
          have d75 : a'.tmps.getD 75 undef = .slice (some ⟨gq, 0, none⟩) ps.length c3 := (hdep 75 (of_decide_eq_true (by kernel_rfl))).is 1 rfl
          have d77 : a'.tmps.getD 77 undef = .int .i64 (s : Int) := (hdep 77 (of_decide_eq_true (by kernel_rfl))).is 3 rfl
          have hmk := fun (x : Value) (W : World) => SlotG.mk (x := x) (w := W) 4 rfl hGN
          clear hGN ha hdep
          obtain ⟨drn, dr⟩ := HN.out.2.1
          go_simp
          exact ⟨_, rfl, Below.refl _ _, hmk _ _ rfl⟩
        · intro a' w' hb ha hdep
          have d78 : a'.tmps.getD 78 undef = .pointer (some ⟨gq, s * 3, none⟩) := (hdep 78 (of_decide_eq_true (by kernel_rfl))).is 4 rfl
          have hmk := fun (x : Value) (W : World) => SlotG.mk (x := x) (w := W) 5 rfl hGN
          clear hGN ha hdep
          have v0 : w'.cell? ⟨gq, s * 3, none⟩ = some (.slice zx zis.length zc) := by rw [hb.cell (p := ⟨gq, s * 3, none⟩) hgq]; exact i0
          have v1 : w'.cell? ⟨gq, s * 3 + 1, none⟩ = some (.slice zy zrs.length zd) := by rw [hb.cell (p := ⟨gq, s * 3 + 1, none⟩) hgq]; exact i1
          have v2 : w'.cell? ⟨gq, s * 3 + 2, none⟩ = some (.int .i64 znw) := by rw [hb.cell (p := ⟨gq, s * 3 + 2, none⟩) hgq]; exact i2
          go_simp
          exact ⟨_, rfl, Below.refl _ _, hmk _ _ rfl⟩
        · intro a' w' hb ha hdep
          have d7 : a'.tmps.getD 7 undef = .pointer (some ⟨bL, 0, none⟩) := ha.at 7 (by kernel_rfl)
          have hmk := fun (x : Value) (W : World) => SlotG.mk (x := x) (w := W) 6 rfl hGN
          clear hGN ha hdep
          go_simp
          exact ⟨_, rfl, Below.refl _ _, hmk _ _ rfl⟩
        · intro a' w' hb ha hdep
          have d80 : a'.tmps.getD 80 undef = .pointer (some ⟨bL, 3, none⟩) := (hdep 80 (of_decide_eq_true (by kernel_rfl))).is 6 rfl
          have hmk := fun (x : Value) (W : World) => SlotG.mk (x := x) (w := W) 7 rfl hGN
          clear hGN ha hdep
          have y : w'.cell? ⟨bL, 3, none⟩ = some (.int .i64 (j : Int)) := (rL.below hb rL.lt).cell 3
          go_simp
          exact ⟨_, rfl, Below.refl _ _, hmk _ _ rfl⟩
        · intro a' w' hb ha hdep
          have d79 : a'.tmps.getD 79 undef = .agg #[.slice zx zis.length zc, .slice zy zrs.length zd, .int .i64 znw] := (hdep 79 (of_decide_eq_true (by kernel_rfl))).is 5 rfl
          have d81 : a'.tmps.getD 81 undef = .int .i64 (j : Int) := (hdep 81 (of_decide_eq_true (by kernel_rfl))).is 7 rfl
          have hmk := fun (x : Value) (W : World) => SlotG.mk (x := x) (w := W) 8 rfl hGN
          clear hGN ha hdep
          go_simp
          refine (HDD.out _ (oiv.below hb)).mono ?_
          rintro e w2 ⟨⟨v_, rfl, x_, c_, y_, d_, rfl, o1, o2⟩, hb2⟩
          exact ⟨_, rfl, hb2, hmk _ _ ⟨x_, c_, y_, d_, rfl, owns_mono o1 hb.size, owns_mono o2 hb.size⟩⟩
        · intro a' w' hb ha hdep
          have hmk := fun (x : Value) (W : World) => SlotG.mk (x := x) (w := W) 9 rfl hGN
          clear hGN ha hdep
          have hsz := hb.size
          go_simp
          exact ⟨_, rfl, ent_new0 _ _, hmk _ _ ⟨_, rfl, hsz, Row.new w' 63 [.slice none 0 0, .slice none 0 0, .int .i64 0, .int .i64 0]⟩⟩
      · intro a' w' hb ha hG
        clear hGN
        have D82 := (hG _ (List.mem_of_getElem? (i := 8) rfl) 82 rfl).get 8 rfl
        have D12 := (hG _ (List.mem_of_getElem? (i := 9) rfl) 12 rfl).get 9 rfl
        have d2 : a'.tmps.getD 2 undef = .bool false := ha.at 2 (by kernel_rfl)
        have d6 : a'.tmps.getD 6 undef = .pointer (some ⟨w.heap.size + 1, 0, none⟩) := ha.at 6 (by kernel_rfl)
        have d7 : a'.tmps.getD 7 undef = .pointer (some ⟨bL, 0, none⟩) := ha.at 7 (by kernel_rfl)
        have d10 : a'.tmps.getD 10 undef = .pointer (some ⟨bM, 0, none⟩) := ha.at 10 (by kernel_rfl)
        have d11 : a'.tmps.getD 11 undef = .pointer (some ⟨gY, 0, none⟩) := ha.at 11 (by kernel_rfl)
        have e2 : a' = ⟨#[a'.tmps.getD 0 undef, a'.tmps.getD 1 undef, a'.tmps.getD 2 undef, a'.tmps.getD 3 undef, a'.tmps.getD 4 undef, a'.tmps.getD 5 undef, a'.tmps.getD 6 undef, a'.tmps.getD 7 undef, a'.tmps.getD 8 undef, a'.tmps.getD 9 undef, a'.tmps.getD 10 undef, a'.tmps.getD 11 undef, a'.tmps.getD 12 undef, a'.tmps.getD 13 undef, a'.tmps.getD 14 undef, a'.tmps.getD 15 undef, a'.tmps.getD 16 undef, a'.tmps.getD 17 undef, a'.tmps.getD 18 undef, a'.tmps.getD 19 undef, a'.tmps.getD 20 undef, a'.tmps.getD 21 undef, a'.tmps.getD 22 undef, a'.tmps.getD 23 undef, a'.tmps.getD 24 undef, a'.tmps.getD 25 undef, a'.tmps.getD 26 undef, a'.tmps.getD 27 undef, a'.tmps.getD 28 undef, a'.tmps.getD 29 undef, a'.tmps.getD 30 undef, a'.tmps.getD 31 undef, a'.tmps.getD 32 undef, a'.tmps.getD 33 undef, a'.tmps.getD 34 undef, a'.tmps.getD 35 undef, a'.tmps.getD 36 undef, a'.tmps.getD 37 undef, a'.tmps.getD 38 undef, a'.tmps.getD 39 undef, a'.tmps.getD 40 undef, a'.tmps.getD 41 undef, a'.tmps.getD 42 undef, a'.tmps.getD 43 undef, a'.tmps.getD 44 undef, a'.tmps.getD 45 undef, a'.tmps.getD 46 undef, a'.tmps.getD 47 undef, a'.tmps.getD 48 undef, a'.tmps.getD 49 undef, a'.tmps.getD 50 undef, a'.tmps.getD 51 undef, a'.tmps.getD 52 undef, a'.tmps.getD 53 undef, a'.tmps.getD 54 undef, a'.tmps.getD 55 undef, a'.tmps.getD 56 undef, a'.tmps.getD 57 undef, a'.tmps.getD 58 undef, a'.tmps.getD 59 undef, a'.tmps.getD 60 undef, a'.tmps.getD 61 undef, a'.tmps.getD 62 undef, a'.tmps.getD 63 undef, a'.tmps.getD 64 undef, a'.tmps.getD 65 undef, a'.tmps.getD 66 undef, a'.tmps.getD 67 undef, a'.tmps.getD 68 undef, a'.tmps.getD 69 undef, a'.tmps.getD 70 undef, a'.tmps.getD 71 undef, a'.tmps.getD 72 undef, a'.tmps.getD 73 undef, a'.tmps.getD 74 undef, a'.tmps.getD 75 undef, a'.tmps.getD 76 undef, a'.tmps.getD 77 undef, a'.tmps.getD 78 undef, a'.tmps.getD 79 undef, a'.tmps.getD 80 undef, a'.tmps.getD 81 undef, a'.tmps.getD 82 undef, a'.tmps.getD 83 undef, a'.tmps.getD 84 undef, a'.tmps.getD 85 undef, a'.tmps.getD 86 undef, a'.tmps.getD 87 undef, a'.tmps.getD 88 undef, a'.tmps.getD 89 undef, a'.tmps.getD 90 undef, a'.tmps.getD 91 undef, a'.tmps.getD 92 undef, a'.tmps.getD 93 undef, a'.tmps.getD 94 undef, a'.tmps.getD 95 undef, a'.tmps.getD 96 undef, a'.tmps.getD 97 undef, a'.tmps.getD 98 undef, a'.tmps.getD 99 undef, a'.tmps.getD 100 undef, a'.tmps.getD 101 undef, a'.tmps.getD 102 undef, a'.tmps.getD 103 undef, a'.tmps.getD 104 undef, a'.tmps.getD 105 undef, a'.tmps.getD 106 undef, a'.tmps.getD 107 undef, a'.tmps.getD 108 undef, a'.tmps.getD 109 undef, a'.tmps.getD 110 undef, a'.tmps.getD 111 undef, a'.tmps.getD 112 undef, a'.tmps.getD 113 undef, a'.tmps.getD 114 undef, a'.tmps.getD 115 undef, a'.tmps.getD 116 undef, a'.tmps.getD 117 undef, a'.tmps.getD 118 undef, a'.tmps.getD 119 undef, a'.tmps.getD 120 undef, a'.tmps.getD 121 undef, a'.tmps.getD 122 undef, a'.tmps.getD 123 undef], []⟩ := by rw [← (show a'.defers = [] from ha.2.1)]; exact act_eq a' 124 ha.1
        rw [d2, d6, d7, d10, d11] at e2
        clear hG ha d2 d6 d7 d10 d11
        generalize a'.tmps.getD 0 undef = x0 at *
        generalize a'.tmps.getD 1 undef = x1 at *
        generalize a'.tmps.getD 3 undef = x3 at *
        generalize a'.tmps.getD 4 undef = x4 at *
        generalize a'.tmps.getD 5 undef = x5 at *
        generalize a'.tmps.getD 8 undef = x8 at *
        generalize a'.tmps.getD 9 undef = x9 at *
        generalize a'.tmps.getD 12 undef = x12 at *
        generalize a'.tmps.getD 13 undef = x13 at *
        generalize a'.tmps.getD 14 undef = x14 at *
        generalize a'.tmps.getD 15 undef = x15 at *
        generalize a'.tmps.getD 16 undef = x16 at *
        generalize a'.tmps.getD 17 undef = x17 at *
        generalize a'.tmps.getD 18 undef = x18 at *
        generalize a'.tmps.getD 19 undef = x19 at *
        generalize a'.tmps.getD 20 undef = x20 at *
        generalize a'.tmps.getD 21 undef = x21 at *
        generalize a'.tmps.getD 22 undef = x22 at *
        generalize a'.tmps.getD 23 undef = x23 at *
        generalize a'.tmps.getD 24 undef = x24 at *
        generalize a'.tmps.getD 25 undef = x25 at *
        generalize a'.tmps.getD 26 undef = x26 at *
        generalize a'.tmps.getD 27 undef = x27 at *
        generalize a'.tmps.getD 28 undef = x28 at *
        generalize a'.tmps.getD 29 undef = x29 at *
        generalize a'.tmps.getD 30 undef = x30 at *
        generalize a'.tmps.getD 31 undef = x31 at *
        generalize a'.tmps.getD 32 undef = x32 at *
        generalize a'.tmps.getD 33 undef = x33 at *
        generalize a'.tmps.getD 34 undef = x34 at *
        generalize a'.tmps.getD 35 undef = x35 at *
        generalize a'.tmps.getD 36 undef = x36 at *
        generalize a'.tmps.getD 37 undef = x37 at *
        generalize a'.tmps.getD 38 undef = x38 at *
        generalize a'.tmps.getD 39 undef = x39 at *
        generalize a'.tmps.getD 40 undef = x40 at *
        generalize a'.tmps.getD 41 undef = x41 at *
        generalize a'.tmps.getD 42 undef = x42 at *
        generalize a'.tmps.getD 43 undef = x43 at *
        generalize a'.tmps.getD 44 undef = x44 at *
        generalize a'.tmps.getD 45 undef = x45 at *
        generalize a'.tmps.getD 46 undef = x46 at *
        generalize a'.tmps.getD 47 undef = x47 at *
        generalize a'.tmps.getD 48 undef = x48 at *
        generalize a'.tmps.getD 49 undef = x49 at *
        generalize a'.tmps.getD 50 undef = x50 at *
        generalize a'.tmps.getD 51 undef = x51 at *
        generalize a'.tmps.getD 52 undef = x52 at *
        generalize a'.tmps.getD 53 undef = x53 at *
        generalize a'.tmps.getD 54 undef = x54 at *
        generalize a'.tmps.getD 55 undef = x55 at *
        generalize a'.tmps.getD 56 undef = x56 at *
        generalize a'.tmps.getD 57 undef = x57 at *
        generalize a'.tmps.getD 58 undef = x58 at *
        generalize a'.tmps.getD 59 undef = x59 at *
        generalize a'.tmps.getD 60 undef = x60 at *
        generalize a'.tmps.getD 61 undef = x61 at *
        generalize a'.tmps.getD 62 undef = x62 at *
        generalize a'.tmps.getD 63 undef = x63 at *
        generalize a'.tmps.getD 64 undef = x64 at *
        generalize a'.tmps.getD 65 undef = x65 at *
        generalize a'.tmps.getD 66 undef = x66 at *
        generalize a'.tmps.getD 67 undef = x67 at *
        generalize a'.tmps.getD 68 undef = x68 at *
        generalize a'.tmps.getD 69 undef = x69 at *
        generalize a'.tmps.getD 70 undef = x70 at *
        generalize a'.tmps.getD 71 undef = x71 at *
        generalize a'.tmps.getD 72 undef = x72 at *
        generalize a'.tmps.getD 73 undef = x73 at *
        generalize a'.tmps.getD 74 undef = x74 at *
        generalize a'.tmps.getD 75 undef = x75 at *
        generalize a'.tmps.getD 76 undef = x76 at *
        generalize a'.tmps.getD 77 undef = x77 at *
        generalize a'.tmps.getD 78 undef = x78 at *
        generalize a'.tmps.getD 79 undef = x79 at *
        generalize a'.tmps.getD 80 undef = x80 at *
        generalize a'.tmps.getD 81 undef = x81 at *
        generalize a'.tmps.getD 82 undef = x82 at *
        generalize a'.tmps.getD 83 undef = x83 at *
        generalize a'.tmps.getD 84 undef = x84 at *
        generalize a'.tmps.getD 85 undef = x85 at *
        generalize a'.tmps.getD 86 undef = x86 at *
        generalize a'.tmps.getD 87 undef = x87 at *
        generalize a'.tmps.getD 88 undef = x88 at *
        generalize a'.tmps.getD 89 undef = x89 at *
        generalize a'.tmps.getD 90 undef = x90 at *
        generalize a'.tmps.getD 91 undef = x91 at *
        generalize a'.tmps.getD 92 undef = x92 at *
        generalize a'.tmps.getD 93 undef = x93 at *
        generalize a'.tmps.getD 94 undef = x94 at *
        generalize a'.tmps.getD 95 undef = x95 at *
        generalize a'.tmps.getD 96 undef = x96 at *
        generalize a'.tmps.getD 97 undef = x97 at *
        generalize a'.tmps.getD 98 undef = x98 at *
        generalize a'.tmps.getD 99 undef = x99 at *
        generalize a'.tmps.getD 100 undef = x100 at *
        generalize a'.tmps.getD 101 undef = x101 at *
        generalize a'.tmps.getD 102 undef = x102 at *
        generalize a'.tmps.getD 103 undef = x103 at *
        generalize a'.tmps.getD 104 undef = x104 at *
        generalize a'.tmps.getD 105 undef = x105 at *
        generalize a'.tmps.getD 106 undef = x106 at *
        generalize a'.tmps.getD 107 undef = x107 at *
        generalize a'.tmps.getD 108 undef = x108 at *
        generalize a'.tmps.getD 109 undef = x109 at *
        generalize a'.tmps.getD 110 undef = x110 at *
        generalize a'.tmps.getD 111 undef = x111 at *
        generalize a'.tmps.getD 112 undef = x112 at *
        generalize a'.tmps.getD 113 undef = x113 at *
        generalize a'.tmps.getD 114 undef = x114 at *
        generalize a'.tmps.getD 115 undef = x115 at *
        generalize a'.tmps.getD 116 undef = x116 at *
        generalize a'.tmps.getD 117 undef = x117 at *
        generalize a'.tmps.getD 118 undef = x118 at *
        generalize a'.tmps.getD 119 undef = x119 at *
        generalize a'.tmps.getD 120 undef = x120 at *
        generalize a'.tmps.getD 121 undef = x121 at *
        generalize a'.tmps.getD 122 undef = x122 at *
        generalize a'.tmps.getD 123 undef = x123 at *
        subst e2
        simp only [List.drop_succ_cons, List.drop_zero]
        have hsz := hW.size
        obtain ⟨gZ, rfl, hgZ, rZ⟩ := D12
        have hgZ0 := hgZ
        have hgZ : we.heap.size ≤ gZ := Nat.le_trans hW.size hgZ
        obtain ⟨yx, yc, yy, yd, rfl, oyi, oyr⟩ := D82
        have rY := rY.below hb rY.lt
        have oki := owns_below oki hb
        have okr := owns_below okr hb
        have z0 : w'.cell? ⟨gZ, 0, none⟩ = some (.slice none 0 0) := rZ.cell 0
        have z1 : w'.cell? ⟨gZ, 1, none⟩ = some (.slice none 0 0) := rZ.cell 1
        have z2 : w'.cell? ⟨gZ, 2, none⟩ = some (.int .i64 0) := rZ.cell 2
        have z3 : w'.cell? ⟨gZ, 3, none⟩ = some (.int .i64 0) := rZ.cell 3
        have f0 : w'.frozen? ⟨gZ, 0, none⟩ = false := rZ.frozen 0
        have f1 : w'.frozen? ⟨gZ, 1, none⟩ = false := rZ.frozen 1
        have f2 : w'.frozen? ⟨gZ, 2, none⟩ = false := rZ.frozen 2
        have f3 : w'.frozen? ⟨gZ, 3, none⟩ = false := rZ.frozen 3
        have hko : ∀ b t l, b ≠ gZ → Row w' b t l → Row ((((w'.setCell ⟨gZ, 0, none⟩ (.slice yx yis.length yc)).setCell ⟨gZ, 1, none⟩ (.slice yy yrs.length yd)).setCell ⟨gZ, 2, none⟩ (.int .i64 ynw)).setCell ⟨gZ, 3, none⟩ (.int .i64 ycc)) b t l := fun b t l hne h => (((h.other 0 (.slice yx yis.length yc) hne).other 1 (.slice yy yrs.length yd) hne).other 2 (.int .i64 ynw) hne).other 3 (.int .i64 ycc) hne
        have hnew : gY < wf.heap.size ∧ wf.heap.size ≤ gZ := ⟨hYlt, hgZ0⟩
        have HYZ : Hid (gY ≠ gZ) := by show _ ≠ _; omega
        have HFG : Hid (wf.heap.size ≤ ((((w'.setCell ⟨gZ, 0, none⟩ (.slice yx yis.length yc)).setCell ⟨gZ, 1, none⟩ (.slice yy yrs.length yd)).setCell ⟨gZ, 2, none⟩ (.int .i64 ynw)).setCell ⟨gZ, 3, none⟩ (.int .i64 ycc)).heap.size) := by have := hb.size; show _ ≤ _; simp; omega
        have HE : Hid (Row ((((w'.setCell ⟨gZ, 0, none⟩ (.slice yx yis.length yc)).setCell ⟨gZ, 1, none⟩ (.slice yy yrs.length yd)).setCell ⟨gZ, 2, none⟩ (.int .i64 ynw)).setCell ⟨gZ, 3, none⟩ (.int .i64 ycc)) gZ 63 [.slice yx yis.length yc, .slice yy yrs.length yd, .int .i64 ynw, .int .i64 ycc] ∧ ((((w'.setCell ⟨gZ, 0, none⟩ (.slice yx yis.length yc)).setCell ⟨gZ, 1, none⟩ (.slice yy yrs.length yd)).setCell ⟨gZ, 2, none⟩ (.int .i64 ynw)).setCell ⟨gZ, 3, none⟩ (.int .i64 ycc)).ownsRow wf.heap.size 53 5 (.slice yx yis.length yc) yis.length (rowI yis) ∧ ((((w'.setCell ⟨gZ, 0, none⟩ (.slice yx yis.length yc)).setCell ⟨gZ, 1, none⟩ (.slice yy yrs.length yd)).setCell ⟨gZ, 2, none⟩ (.int .i64 ynw)).setCell ⟨gZ, 3, none⟩ (.int .i64 ycc)).ownsRow wf.heap.size 155 9 (.slice yy yrs.length yd) yrs.length (rowR yrs) ∧ Below we.heap.size we ((((w'.setCell ⟨gZ, 0, none⟩ (.slice yx yis.length yc)).setCell ⟨gZ, 1, none⟩ (.slice yy yrs.length yd)).setCell ⟨gZ, 2, none⟩ (.int .i64 ynw)).setCell ⟨gZ, 3, none⟩ (.int .i64 ycc)) ∧ Row ((((w'.setCell ⟨gZ, 0, none⟩ (.slice yx yis.length yc)).setCell ⟨gZ, 1, none⟩ (.slice yy yrs.length yd)).setCell ⟨gZ, 2, none⟩ (.int .i64 ynw)).setCell ⟨gZ, 3, none⟩ (.int .i64 ycc)) gY 63 [.slice kx kis.length kc, .slice ky krs.length kd, .int .i64 knw, .int .i64 kcc] ∧ ((((w'.setCell ⟨gZ, 0, none⟩ (.slice yx yis.length yc)).setCell ⟨gZ, 1, none⟩ (.slice yy yrs.length yd)).setCell ⟨gZ, 2, none⟩ (.int .i64 ynw)).setCell ⟨gZ, 3, none⟩ (.int .i64 ycc)).ownsRow we.heap.size 53 5 (.slice kx kis.length kc) kis.length (rowI kis) ∧ ((((w'.setCell ⟨gZ, 0, none⟩ (.slice yx yis.length yc)).setCell ⟨gZ, 1, none⟩ (.slice yy yrs.length yd)).setCell ⟨gZ, 2, none⟩ (.int .i64 ynw)).setCell ⟨gZ, 3, none⟩ (.int .i64 ycc)).ownsRow we.heap.size 155 9 (.slice ky krs.length kd) krs.length (rowR krs)) := ⟨((((rZ.set 0 (.slice yx yis.length yc)).set 1 (.slice yy yrs.length yd)).set 2 (.int .i64 ynw)).set 3 (.int .i64 ycc)), owns_kept oyi (fun b t l e h => hko b t l (fun e2 => by subst e2; exact owns_ne oyi rZ (by decide) e) h), owns_kept oyr (fun b t l e h => hko b t l (fun e2 => by subst e2; exact owns_ne oyr rZ (by decide) e) h), ((((((((hW.trans (hb.mono hW.size)).setCell (p := ⟨gZ, 0, none⟩) hgZ (.slice yx yis.length yc))).setCell (p := ⟨gZ, 1, none⟩) hgZ (.slice yy yrs.length yd))).setCell (p := ⟨gZ, 2, none⟩) hgZ (.int .i64 ynw))).setCell (p := ⟨gZ, 3, none⟩) hgZ (.int .i64 ycc)), hko _ _ _ (by have := hnew; omega) rY, owns_kept oki (fun b t l e h => hko b t l (fun e2 => by subst e2; exact owns_ne oki rZ (by decide) e) h), owns_kept okr (fun b t l e h => hko b t l (fun e2 => by subst e2; exact owns_ne okr rZ (by decide) e) h)⟩
        have hWW := HE.out.2.2.2.1.size
        clear hko hsz hb rM rL i0 i1 i2 oiv HDD rZ oyi oyr hW rY oki okr
        go_upto_region 16 with fail
        obtain ⟨rZ, oyi, oyr, hW, rY, oki, okr⟩ := HE.out
        clear HE z0 z1 z2 z3 f0 f1 f2 f3 hWW
        generalize ((((w'.setCell ⟨gZ, 0, none⟩ (.slice yx yis.length yc)).setCell ⟨gZ, 1, none⟩ (.slice yy yrs.length yd)).setCell ⟨gZ, 2, none⟩ (.int .i64 ynw)).setCell ⟨gZ, 3, none⟩ (.int .i64 ycc)) = wg at *
        have HNM : Hid (we.heap.size ≤ wf.heap.size) := HWF.out
        have HBB : Hid (w.heap.size ≤ we.heap.size ∧ w.heap.size ≤ wf.heap.size) := by have := HNM.out; have := HWE.out.2.2.2.2.size; exact ⟨this, by omega⟩
        have HB20 : Hid (wf.heap.size ≤ wg.heap.size) := HFG.out
        have HOLD : Hid (∀ j (hj : j < qs.length) b, qs[j].1.x = some ⟨b, 0, none⟩ ∨ qs[j].1.y = some ⟨b, 0, none⟩ → b < we.heap.size) := HWE.out.2.2.2.1.olds
        obtain ⟨rz, rL, rM, om, hBe⟩ := HWE.out
        replace rz := rz.below hW rz.lt
        replace rL := rL.below hW rL.lt
        replace rM := rM.below hW rM.lt
        replace om := om.below hW
        have hB := hBe.trans (hW.mono hBe.size)
        have HBN : Hid (w.heap.size ≤ we.heap.size ∧ w.heap.size ≤ wf.heap.size) := HBB.out
        clear hBe hW HWE
        have HBX0 : Hid (wf.heap.size ≤ wg.heap.size) := HB20.out
        have y3 : wg.cell? ⟨gY, 3, none⟩ = some (.int .i64 kcc) := rY.cell 3
        by_cases hc : kcc = 0
        case pos =>
          subst hc
          have d : ((0 : Int) == 0) = true := rfl
          obtain ⟨rest, hbq, hgq, hrq, i0, i1, i2, -⟩ := om.cells HLN.out HQa.out.choose HQa.out.choose_spec
          simp only at i0 i1 i2
          have f0 := hrq.frozen (r * 3)
          have f1 := hrq.frozen (r * 3 + 1)
          have f2 := hrq.frozen (r * 3 + 2)
          have b0 : wg.cell? ⟨bM, 0, none⟩ = some (.slice (some ⟨gq, 0, none⟩) ps.length c3) := rM.cell 0
          have b1 : wg.cell? ⟨bL, 0, none⟩ = some (.int .i64 (r : Int)) := rL.cell 0
          have y0 : wg.cell? ⟨gY, 0, none⟩ = some (.slice kx kis.length kc) := rY.cell 0
          have y1 : wg.cell? ⟨gY, 1, none⟩ = some (.slice ky krs.length kd) := rY.cell 1
          have y2 : wg.cell? ⟨gY, 2, none⟩ = some (.int .i64 knw) := rY.cell 2
          obtain ⟨drn, dr⟩ := HN.out.1
          have HX1 : Hid (∃ qs1, OwnMesh (putIv wg gq r ⟨kx, kc, ky, kd⟩ ⟨kis, krs, knw⟩) w.heap.size (some ⟨gq, 0, none⟩) ps.length c3 q2 ls.length d2 qs1 ls ∧ qs1.map (·.2) = turn1 (qs.map (·.2)) r (i : Int) false ∧ ps.length = qs1.length ∧ (∃ h : s < qs1.length, qs1[s] = (⟨zx, zc, zy, zd⟩, ⟨zis, zrs, znw⟩)) ∧ ∀ j (hj : j < qs1.length) b, qs1[j].1.x = some ⟨b, 0, none⟩ ∨ qs1[j].1.y = some ⟨b, 0, none⟩ → b < wf.heap.size) := step_hit (a := ⟨kx, kc, ky, kd⟩) (T := ⟨kis, krs, knw⟩) om HLN.out HQa.out (N := we.heap.size) (M := wf.heap.size) ⟨oki, okr⟩ (by have := HBN.out; omega) HTk.out HOLD.out HN.out.2.2 HQz.out HLY.out (by have := HNM.out; omega)
          have HSZ : Hid ((putIv wg gq r ⟨kx, kc, ky, kd⟩ ⟨kis, krs, knw⟩).heap.size = wg.heap.size) := putIv_size _ _ _ _ _
          have HE : Hid (Row (putIv wg gq r ⟨kx, kc, ky, kd⟩ ⟨kis, krs, knw⟩) (w.heap.size + 1) 28 [.slice none 0 0, .slice none 0 0, .int .i64 0] ∧ Row (putIv wg gq r ⟨kx, kc, ky, kd⟩ ⟨kis, krs, knw⟩) (bM) 26 [.slice (some ⟨gq, 0, none⟩) ps.length c3, .slice q2 ls.length d2] ∧ Row (putIv wg gq r ⟨kx, kc, ky, kd⟩ ⟨kis, krs, knw⟩) (bL) 56 [.int .i64 (r : Int), .int .i64 (i : Int), .int .i64 (s : Int), .int .i64 (j : Int)] ∧ Row (putIv wg gq r ⟨kx, kc, ky, kd⟩ ⟨kis, krs, knw⟩) (gZ) 63 [.slice yx yis.length yc, .slice yy yrs.length yd, .int .i64 ynw, .int .i64 ycc] ∧ (putIv wg gq r ⟨kx, kc, ky, kd⟩ ⟨kis, krs, knw⟩).ownsRow wf.heap.size 53 5 (.slice yx yis.length yc) yis.length (rowI yis) ∧ (putIv wg gq r ⟨kx, kc, ky, kd⟩ ⟨kis, krs, knw⟩).ownsRow wf.heap.size 155 9 (.slice yy yrs.length yd) yrs.length (rowR yrs) ∧ Below w.heap.size w (putIv wg gq r ⟨kx, kc, ky, kd⟩ ⟨kis, krs, knw⟩)) := ⟨putIv_other (a := ⟨kx, kc, ky, kd⟩) (T := ⟨kis, krs, knw⟩) rz (row_ne rz hrq (by decide)), putIv_other (a := ⟨kx, kc, ky, kd⟩) (T := ⟨kis, krs, knw⟩) rM (row_ne rM hrq (by decide)), putIv_other (a := ⟨kx, kc, ky, kd⟩) (T := ⟨kis, krs, knw⟩) rL (row_ne rL hrq (by decide)), putIv_other (a := ⟨kx, kc, ky, kd⟩) (T := ⟨kis, krs, knw⟩) rZ (row_ne rZ hrq (by decide)), owns_put oyi hrq (by decide) r ⟨kx, kc, ky, kd⟩ ⟨kis, krs, knw⟩, owns_put oyr hrq (by decide) r ⟨kx, kc, ky, kd⟩ ⟨kis, krs, knw⟩, putIv_below hB hbq r ⟨kx, kc, ky, kd⟩ ⟨kis, krs, knw⟩⟩
          clear hrq hbq rest rz rM rL rZ oyi oyr hB om
          go_upto_region 18 with fail
          rw [putIv_eq wg gq r kx kc ky kd kis krs knw]
          clear i0 f0 y0 i1 f1 y1 i2 f2 y2 y3 b0 b1 d drn dr
          generalize (putIv wg gq r ⟨kx, kc, ky, kd⟩ ⟨kis, krs, knw⟩) = X1 at *
          obtain ⟨rz, rM, rL, rZ, oyi, oyr, hB⟩ := HE.out
          clear HE
          obtain ⟨qs1, om1, hm1, hl1, hz1, hold1⟩ := HX1.out
          clear HX1
          have HL1 : Hid _ := hl1
          have HM1 : Hid _ := hm1
          clear hl1 hm1
          have HBX : Hid (wf.heap.size ≤ X1.heap.size) := by have e : X1.heap.size = _ := HSZ.out; show _ ≤ _; rw [e]; exact HBX0.out
          have HBW : Hid (wf.heap.size ≤ X1.heap.size) := by show _ ≤ _; exact HBX.out
          have y3 : X1.cell? ⟨gZ, 3, none⟩ = some (.int .i64 ycc) := rZ.cell 3
          by_cases hc : ycc = 0
          case pos =>
            subst hc
            have d : ((0 : Int) == 0) = true := rfl
            obtain ⟨rest, hbq, hgq, hrq, i0, i1, i2, -⟩ := om1.cells HL1.out hz1.choose hz1.choose_spec
            simp only at i0 i1 i2
            have f0 := hrq.frozen (s * 3)
            have f1 := hrq.frozen (s * 3 + 1)
            have f2 := hrq.frozen (s * 3 + 2)
            have b0 : X1.cell? ⟨bM, 0, none⟩ = some (.slice (some ⟨gq, 0, none⟩) ps.length c3) := rM.cell 0
            have b1 : X1.cell? ⟨bL, 2, none⟩ = some (.int .i64 (s : Int)) := rL.cell 2
            have y0 : X1.cell? ⟨gZ, 0, none⟩ = some (.slice yx yis.length yc) := rZ.cell 0
            have y1 : X1.cell? ⟨gZ, 1, none⟩ = some (.slice yy yrs.length yd) := rZ.cell 1
            have y2 : X1.cell? ⟨gZ, 2, none⟩ = some (.int .i64 ynw) := rZ.cell 2
            obtain ⟨drn, dr⟩ := HN.out.2.1
            have HX1 : Hid (∃ qs2, OwnMesh (putIv X1 gq s ⟨yx, yc, yy, yd⟩ ⟨yis, yrs, ynw⟩) w.heap.size (some ⟨gq, 0, none⟩) ps.length c3 q2 ls.length d2 qs2 ls ∧ qs2.map (·.2) = turn1 (qs1.map (·.2)) s (j : Int) false ∧ ps.length = qs2.length ∧ (∃ h : r < qs2.length, qs2[r] = qs1[r]'(by have := HN.out.1.1; have := HL1.out; omega)) ∧ ∀ j (hj : j < qs2.length) b, qs2[j].1.x = some ⟨b, 0, none⟩ ∨ qs2[j].1.y = some ⟨b, 0, none⟩ → b < X1.heap.size) := step_hit (a := ⟨yx, yc, yy, yd⟩) (T := ⟨yis, yrs, ynw⟩) om1 HL1.out hz1 (N := wf.heap.size) (M := X1.heap.size) ⟨oyi, oyr⟩ (by have := HBN.out; omega) HTy.out hold1 HN.out.2.2.symm ⟨by have := HN.out.1.1; have := HL1.out; omega, rfl⟩ (fun b hb => by rcases hb with e | e; exact owns_lt oyi b e; exact owns_lt oyr b e) (by have := HBW.out; omega)
            have HE : Hid (Row (putIv X1 gq s ⟨yx, yc, yy, yd⟩ ⟨yis, yrs, ynw⟩) (w.heap.size + 1) 28 [.slice none 0 0, .slice none 0 0, .int .i64 0] ∧ Row (putIv X1 gq s ⟨yx, yc, yy, yd⟩ ⟨yis, yrs, ynw⟩) (bM) 26 [.slice (some ⟨gq, 0, none⟩) ps.length c3, .slice q2 ls.length d2] ∧ Row (putIv X1 gq s ⟨yx, yc, yy, yd⟩ ⟨yis, yrs, ynw⟩) (bL) 56 [.int .i64 (r : Int), .int .i64 (i : Int), .int .i64 (s : Int), .int .i64 (j : Int)] ∧ Below w.heap.size w (putIv X1 gq s ⟨yx, yc, yy, yd⟩ ⟨yis, yrs, ynw⟩)) := ⟨putIv_other (a := ⟨yx, yc, yy, yd⟩) (T := ⟨yis, yrs, ynw⟩) rz (row_ne rz hrq (by decide)), putIv_other (a := ⟨yx, yc, yy, yd⟩) (T := ⟨yis, yrs, ynw⟩) rM (row_ne rM hrq (by decide)), putIv_other (a := ⟨yx, yc, yy, yd⟩) (T := ⟨yis, yrs, ynw⟩) rL (row_ne rL hrq (by decide)), putIv_below hB hbq s ⟨yx, yc, yy, yd⟩ ⟨yis, yrs, ynw⟩⟩
            clear hrq hbq rest rz rM rL hB om1
            go_upto_region 20 with fail
            rw [putIv_eq X1 gq s yx yc yy yd yis yrs ynw]
            clear i0 f0 y0 i1 f1 y1 i2 f2 y2 y3 b0 b1 d drn dr
            generalize (putIv X1 gq s ⟨yx, yc, yy, yd⟩ ⟨yis, yrs, ynw⟩) = X2 at *
            obtain ⟨rz, rM, rL, hB⟩ := HE.out
            clear HE
            obtain ⟨qs2, om2, hm2, hl2, hz2, hold2⟩ := HX1.out
            clear HX1
            have HL2 : Hid _ := hl2
            have HM2 : Hid _ := hm2
            clear hl2 hm2
            have z0 : X2.cell? ⟨w.heap.size + 1, 0, none⟩ = some (.slice none 0 0) := rz.cell 0
            have z1 : X2.cell? ⟨w.heap.size + 1, 1, none⟩ = some (.slice none 0 0) := rz.cell 1
            have z2 : X2.cell? ⟨w.heap.size + 1, 2, none⟩ = some (.int .i64 0) := rz.cell 2
            have f0 := rz.frozen 0
            have f1 := rz.frozen 1
            have f2 := rz.frozen 2
            have b0 : X2.cell? ⟨bM, 0, none⟩ = some (.slice (some ⟨gq, 0, none⟩) ps.length c3) := rM.cell 0
            have b1 : X2.cell? ⟨bM, 1, none⟩ = some (.slice q2 ls.length d2) := rM.cell 1
            have HE : Hid (Row (((X2.setCell ⟨w.heap.size + 1, 0, none⟩ (.slice (some ⟨gq, 0, none⟩) ps.length c3)).setCell ⟨w.heap.size + 1, 1, none⟩ (.slice q2 ls.length d2)).setCell ⟨w.heap.size + 1, 2, none⟩ (.int .i64 0)) (w.heap.size + 1) 28 [.slice (some ⟨gq, 0, none⟩) ps.length c3, .slice q2 ls.length d2, .int .i64 0] ∧ OwnMesh (((X2.setCell ⟨w.heap.size + 1, 0, none⟩ (.slice (some ⟨gq, 0, none⟩) ps.length c3)).setCell ⟨w.heap.size + 1, 1, none⟩ (.slice q2 ls.length d2)).setCell ⟨w.heap.size + 1, 2, none⟩ (.int .i64 0)) w.heap.size (some ⟨gq, 0, none⟩) ps.length c3 q2 ls.length d2 qs2 ls ∧ Below w.heap.size w (((X2.setCell ⟨w.heap.size + 1, 0, none⟩ (.slice (some ⟨gq, 0, none⟩) ps.length c3)).setCell ⟨w.heap.size + 1, 1, none⟩ (.slice q2 ls.length d2)).setCell ⟨w.heap.size + 1, 2, none⟩ (.int .i64 0))) := ⟨(((rz.set 0 (.slice (some ⟨gq, 0, none⟩) ps.length c3)).set 1 (.slice q2 ls.length d2)).set 2 (.int .i64 0)), om2.kept (fun b t l ht h => by
                have hne : b ≠ w.heap.size + 1 := row_ne h rz (by rcases ht with rfl | rfl | rfl | rfl <;> decide)
                exact (((h.other 0 (.slice (some ⟨gq, 0, none⟩) ps.length c3) hne).other 1 (.slice q2 ls.length d2) hne).other 2 (.int .i64 0) hne)), (((hB.setCell (p := ⟨w.heap.size + 1, 0, none⟩) (by show w.heap.size ≤ w.heap.size + 1; omega) (.slice (some ⟨gq, 0, none⟩) ps.length c3)).setCell (p := ⟨w.heap.size + 1, 1, none⟩) (by show w.heap.size ≤ w.heap.size + 1; omega) (.slice q2 ls.length d2)).setCell (p := ⟨w.heap.size + 1, 2, none⟩) (by show w.heap.size ≤ w.heap.size + 1; omega) (.int .i64 0))⟩
            have HO : Hid (RES = (0, qs2.map (·.2), ls) ∧ ps.length = qs2.length) := ⟨by rw [hR, HM2.out, HM1.out], HL2.out⟩
            clear rz rM rL hB om2 hR
            go_wp2_with fail
            obtain ⟨k1, k2, k3⟩ := HE.out
            clear HE z0 z1 z2 f0 f1 f2
            generalize (((X2.setCell ⟨w.heap.size + 1, 0, none⟩ (.slice (some ⟨gq, 0, none⟩) ps.length c3)).setCell ⟨w.heap.size + 1, 1, none⟩ (.slice q2 ls.length d2)).setCell ⟨w.heap.size + 1, 2, none⟩ (.int .i64 0)) = Y at *
            have e0 : Y.cell? ⟨w.heap.size + 1, 0, none⟩ = some (.slice (some ⟨gq, 0, none⟩) ps.length c3) := k1.cell 0
            have e1 : Y.cell? ⟨w.heap.size + 1, 1, none⟩ = some (.slice q2 ls.length d2) := k1.cell 1
            have e2 : Y.cell? ⟨w.heap.size + 1, 2, none⟩ = some (.int .i64 0) := k1.cell 2
            have hO : OutM w.heap.size RES (.returned (.agg #[.slice (some ⟨gq, 0, none⟩) ps.length c3, .slice q2 ls.length d2, .int .i64 0])) Y := by
              rw [HO.out.1]
              refine ⟨some ⟨gq, 0, none⟩, c3, q2, d2, qs2, ?_, rfl, ?_⟩
              · simp only [List.length_map]
                rw [← HO.out.2]
              · simp only [List.length_map]
                rw [← HO.out.2]
                exact k2
            exact bodyPost_ret (v := .agg #[.slice (some ⟨gq, 0, none⟩) ps.length c3, .slice q2 ls.length d2, .int .i64 0]) (by simp [results, Tryz.results50, go_sem, e0, e1, e2]) rfl ⟨hO, k3⟩
          case neg =>
            have d : (ycc == 0) = false := by simpa using hc
            have HX1 : Hid (∃ qs2, OwnMesh X1 w.heap.size (some ⟨gq, 0, none⟩) ps.length c3 q2 ls.length d2 qs2 ls ∧ qs2.map (·.2) = turn1 (qs1.map (·.2)) s (j : Int) false ∧ ps.length = qs2.length ∧ (∃ h : r < qs2.length, qs2[r] = qs1[r]'(by have := HN.out.1.1; have := HL1.out; omega)) ∧ ∀ j (hj : j < qs2.length) b, qs2[j].1.x = some ⟨b, 0, none⟩ ∨ qs2[j].1.y = some ⟨b, 0, none⟩ → b < X1.heap.size) := step_miss om1 HL1.out hz1 (N := wf.heap.size) (M := X1.heap.size) HTy.out hc hold1 ⟨by have := HN.out.1.1; have := HL1.out; omega, rfl⟩ (by have := HBW.out; omega)
            clear hc
            go_upto_region 20 with fail
            clear y3 d om1
            obtain ⟨qs2, om2, hm2, hl2, hz2, hold2⟩ := HX1.out
            clear HX1
            have HL2 : Hid _ := hl2
            have HM2 : Hid _ := hm2
            clear hl2 hm2
            have z0 : X1.cell? ⟨w.heap.size + 1, 0, none⟩ = some (.slice none 0 0) := rz.cell 0
            have z1 : X1.cell? ⟨w.heap.size + 1, 1, none⟩ = some (.slice none 0 0) := rz.cell 1
            have z2 : X1.cell? ⟨w.heap.size + 1, 2, none⟩ = some (.int .i64 0) := rz.cell 2
            have f0 := rz.frozen 0
            have f1 := rz.frozen 1
            have f2 := rz.frozen 2
            have b0 : X1.cell? ⟨bM, 0, none⟩ = some (.slice (some ⟨gq, 0, none⟩) ps.length c3) := rM.cell 0
            have b1 : X1.cell? ⟨bM, 1, none⟩ = some (.slice q2 ls.length d2) := rM.cell 1
            have HE : Hid (Row (((X1.setCell ⟨w.heap.size + 1, 0, none⟩ (.slice (some ⟨gq, 0, none⟩) ps.length c3)).setCell ⟨w.heap.size + 1, 1, none⟩ (.slice q2 ls.length d2)).setCell ⟨w.heap.size + 1, 2, none⟩ (.int .i64 0)) (w.heap.size + 1) 28 [.slice (some ⟨gq, 0, none⟩) ps.length c3, .slice q2 ls.length d2, .int .i64 0] ∧ OwnMesh (((X1.setCell ⟨w.heap.size + 1, 0, none⟩ (.slice (some ⟨gq, 0, none⟩) ps.length c3)).setCell ⟨w.heap.size + 1, 1, none⟩ (.slice q2 ls.length d2)).setCell ⟨w.heap.size + 1, 2, none⟩ (.int .i64 0)) w.heap.size (some ⟨gq, 0, none⟩) ps.length c3 q2 ls.length d2 qs2 ls ∧ Below w.heap.size w (((X1.setCell ⟨w.heap.size + 1, 0, none⟩ (.slice (some ⟨gq, 0, none⟩) ps.length c3)).setCell ⟨w.heap.size + 1, 1, none⟩ (.slice q2 ls.length d2)).setCell ⟨w.heap.size + 1, 2, none⟩ (.int .i64 0))) := ⟨(((rz.set 0 (.slice (some ⟨gq, 0, none⟩) ps.length c3)).set 1 (.slice q2 ls.length d2)).set 2 (.int .i64 0)), om2.kept (fun b t l ht h => by
                have hne : b ≠ w.heap.size + 1 := row_ne h rz (by rcases ht with rfl | rfl | rfl | rfl <;> decide)
                exact (((h.other 0 (.slice (some ⟨gq, 0, none⟩) ps.length c3) hne).other 1 (.slice q2 ls.length d2) hne).other 2 (.int .i64 0) hne)), (((hB.setCell (p := ⟨w.heap.size + 1, 0, none⟩) (by show w.heap.size ≤ w.heap.size + 1; omega) (.slice (some ⟨gq, 0, none⟩) ps.length c3)).setCell (p := ⟨w.heap.size + 1, 1, none⟩) (by show w.heap.size ≤ w.heap.size + 1; omega) (.slice q2 ls.length d2)).setCell (p := ⟨w.heap.size + 1, 2, none⟩) (by show w.heap.size ≤ w.heap.size + 1; omega) (.int .i64 0))⟩
            have HO : Hid (RES = (0, qs2.map (·.2), ls) ∧ ps.length = qs2.length) := ⟨by rw [hR, HM2.out, HM1.out], HL2.out⟩
            clear rz rM rL hB om2 hR
            go_wp2_with fail
            obtain ⟨k1, k2, k3⟩ := HE.out
            clear HE z0 z1 z2 f0 f1 f2
            generalize (((X1.setCell ⟨w.heap.size + 1, 0, none⟩ (.slice (some ⟨gq, 0, none⟩) ps.length c3)).setCell ⟨w.heap.size + 1, 1, none⟩ (.slice q2 ls.length d2)).setCell ⟨w.heap.size + 1, 2, none⟩ (.int .i64 0)) = Y at *
            have e0 : Y.cell? ⟨w.heap.size + 1, 0, none⟩ = some (.slice (some ⟨gq, 0, none⟩) ps.length c3) := k1.cell 0
            have e1 : Y.cell? ⟨w.heap.size + 1, 1, none⟩ = some (.slice q2 ls.length d2) := k1.cell 1
            have e2 : Y.cell? ⟨w.heap.size + 1, 2, none⟩ = some (.int .i64 0) := k1.cell 2
            have hO : OutM w.heap.size RES (.returned (.agg #[.slice (some ⟨gq, 0, none⟩) ps.length c3, .slice q2 ls.length d2, .int .i64 0])) Y := by
              rw [HO.out.1]
              refine ⟨some ⟨gq, 0, none⟩, c3, q2, d2, qs2, ?_, rfl, ?_⟩
              · simp only [List.length_map]
                rw [← HO.out.2]
              · simp only [List.length_map]
                rw [← HO.out.2]
                exact k2
            exact bodyPost_ret (v := .agg #[.slice (some ⟨gq, 0, none⟩) ps.length c3, .slice q2 ls.length d2, .int .i64 0]) (by simp [results, Tryz.results50, go_sem, e0, e1, e2]) rfl ⟨hO, k3⟩
        case neg =>
          have d : (kcc == 0) = false := by simpa using hc
          have HX1 : Hid (∃ qs1, OwnMesh wg w.heap.size (some ⟨gq, 0, none⟩) ps.length c3 q2 ls.length d2 qs1 ls ∧ qs1.map (·.2) = turn1 (qs.map (·.2)) r (i : Int) false ∧ ps.length = qs1.length ∧ (∃ h : s < qs1.length, qs1[s] = (⟨zx, zc, zy, zd⟩, ⟨zis, zrs, znw⟩)) ∧ ∀ j (hj : j < qs1.length) b, qs1[j].1.x = some ⟨b, 0, none⟩ ∨ qs1[j].1.y = some ⟨b, 0, none⟩ → b < wf.heap.size) := step_miss om HLN.out HQa.out (N := we.heap.size) (M := wf.heap.size) HTk.out hc HOLD.out HQz.out (by have := HNM.out; omega)
          clear hc
          go_upto_region 18 with fail
          clear y3 d om
          obtain ⟨qs1, om1, hm1, hl1, hz1, hold1⟩ := HX1.out
          clear HX1
          have HL1 : Hid _ := hl1
          have HM1 : Hid _ := hm1
          clear hl1 hm1
          have HBX : Hid (wf.heap.size ≤ wg.heap.size) := HBX0.out
          have HBW : Hid (wf.heap.size ≤ wg.heap.size) := by show _ ≤ _; exact HBX.out
          have y3 : wg.cell? ⟨gZ, 3, none⟩ = some (.int .i64 ycc) := rZ.cell 3
          by_cases hc : ycc = 0
          case pos =>
            subst hc
            have d : ((0 : Int) == 0) = true := rfl
            obtain ⟨rest, hbq, hgq, hrq, i0, i1, i2, -⟩ := om1.cells HL1.out hz1.choose hz1.choose_spec
            simp only at i0 i1 i2
            have f0 := hrq.frozen (s * 3)
            have f1 := hrq.frozen (s * 3 + 1)
            have f2 := hrq.frozen (s * 3 + 2)
            have b0 : wg.cell? ⟨bM, 0, none⟩ = some (.slice (some ⟨gq, 0, none⟩) ps.length c3) := rM.cell 0
            have b1 : wg.cell? ⟨bL, 2, none⟩ = some (.int .i64 (s : Int)) := rL.cell 2
            have y0 : wg.cell? ⟨gZ, 0, none⟩ = some (.slice yx yis.length yc) := rZ.cell 0
            have y1 : wg.cell? ⟨gZ, 1, none⟩ = some (.slice yy yrs.length yd) := rZ.cell 1
            have y2 : wg.cell? ⟨gZ, 2, none⟩ = some (.int .i64 ynw) := rZ.cell 2
            obtain ⟨drn, dr⟩ := HN.out.2.1
            have HX1 : Hid (∃ qs2, OwnMesh (putIv wg gq s ⟨yx, yc, yy, yd⟩ ⟨yis, yrs, ynw⟩) w.heap.size (some ⟨gq, 0, none⟩) ps.length c3 q2 ls.length d2 qs2 ls ∧ qs2.map (·.2) = turn1 (qs1.map (·.2)) s (j : Int) false ∧ ps.length = qs2.length ∧ (∃ h : r < qs2.length, qs2[r] = qs1[r]'(by have := HN.out.1.1; have := HL1.out; omega)) ∧ ∀ j (hj : j < qs2.length) b, qs2[j].1.x = some ⟨b, 0, none⟩ ∨ qs2[j].1.y = some ⟨b, 0, none⟩ → b < wg.heap.size) := step_hit (a := ⟨yx, yc, yy, yd⟩) (T := ⟨yis, yrs, ynw⟩) om1 HL1.out hz1 (N := wf.heap.size) (M := wg.heap.size) ⟨oyi, oyr⟩ (by have := HBN.out; omega) HTy.out hold1 HN.out.2.2.symm ⟨by have := HN.out.1.1; have := HL1.out; omega, rfl⟩ (fun b hb => by rcases hb with e | e; exact owns_lt oyi b e; exact owns_lt oyr b e) (by have := HBW.out; omega)
            have HE : Hid (Row (putIv wg gq s ⟨yx, yc, yy, yd⟩ ⟨yis, yrs, ynw⟩) (w.heap.size + 1) 28 [.slice none 0 0, .slice none 0 0, .int .i64 0] ∧ Row (putIv wg gq s ⟨yx, yc, yy, yd⟩ ⟨yis, yrs, ynw⟩) (bM) 26 [.slice (some ⟨gq, 0, none⟩) ps.length c3, .slice q2 ls.length d2] ∧ Row (putIv wg gq s ⟨yx, yc, yy, yd⟩ ⟨yis, yrs, ynw⟩) (bL) 56 [.int .i64 (r : Int), .int .i64 (i : Int), .int .i64 (s : Int), .int .i64 (j : Int)] ∧ Below w.heap.size w (putIv wg gq s ⟨yx, yc, yy, yd⟩ ⟨yis, yrs, ynw⟩)) := ⟨putIv_other (a := ⟨yx, yc, yy, yd⟩) (T := ⟨yis, yrs, ynw⟩) rz (row_ne rz hrq (by decide)), putIv_other (a := ⟨yx, yc, yy, yd⟩) (T := ⟨yis, yrs, ynw⟩) rM (row_ne rM hrq (by decide)), putIv_other (a := ⟨yx, yc, yy, yd⟩) (T := ⟨yis, yrs, ynw⟩) rL (row_ne rL hrq (by decide)), putIv_below hB hbq s ⟨yx, yc, yy, yd⟩ ⟨yis, yrs, ynw⟩⟩
            clear hrq hbq rest rz rM rL hB om1
            go_upto_region 20 with fail
            rw [putIv_eq wg gq s yx yc yy yd yis yrs ynw]
            clear i0 f0 y0 i1 f1 y1 i2 f2 y2 y3 b0 b1 d drn dr
            generalize (putIv wg gq s ⟨yx, yc, yy, yd⟩ ⟨yis, yrs, ynw⟩) = X2 at *
            obtain ⟨rz, rM, rL, hB⟩ := HE.out
            clear HE
            obtain ⟨qs2, om2, hm2, hl2, hz2, hold2⟩ := HX1.out
            clear HX1
            have HL2 : Hid _ := hl2
            have HM2 : Hid _ := hm2
            clear hl2 hm2
            have z0 : X2.cell? ⟨w.heap.size + 1, 0, none⟩ = some (.slice none 0 0) := rz.cell 0
            have z1 : X2.cell? ⟨w.heap.size + 1, 1, none⟩ = some (.slice none 0 0) := rz.cell 1
            have z2 : X2.cell? ⟨w.heap.size + 1, 2, none⟩ = some (.int .i64 0) := rz.cell 2
            have f0 := rz.frozen 0
            have f1 := rz.frozen 1
            have f2 := rz.frozen 2
            have b0 : X2.cell? ⟨bM, 0, none⟩ = some (.slice (some ⟨gq, 0, none⟩) ps.length c3) := rM.cell 0
            have b1 : X2.cell? ⟨bM, 1, none⟩ = some (.slice q2 ls.length d2) := rM.cell 1
            have HE : Hid (Row (((X2.setCell ⟨w.heap.size + 1, 0, none⟩ (.slice (some ⟨gq, 0, none⟩) ps.length c3)).setCell ⟨w.heap.size + 1, 1, none⟩ (.slice q2 ls.length d2)).setCell ⟨w.heap.size + 1, 2, none⟩ (.int .i64 0)) (w.heap.size + 1) 28 [.slice (some ⟨gq, 0, none⟩) ps.length c3, .slice q2 ls.length d2, .int .i64 0] ∧ OwnMesh (((X2.setCell ⟨w.heap.size + 1, 0, none⟩ (.slice (some ⟨gq, 0, none⟩) ps.length c3)).setCell ⟨w.heap.size + 1, 1, none⟩ (.slice q2 ls.length d2)).setCell ⟨w.heap.size + 1, 2, none⟩ (.int .i64 0)) w.heap.size (some ⟨gq, 0, none⟩) ps.length c3 q2 ls.length d2 qs2 ls ∧ Below w.heap.size w (((X2.setCell ⟨w.heap.size + 1, 0, none⟩ (.slice (some ⟨gq, 0, none⟩) ps.length c3)).setCell ⟨w.heap.size + 1, 1, none⟩ (.slice q2 ls.length d2)).setCell ⟨w.heap.size + 1, 2, none⟩ (.int .i64 0))) := ⟨(((rz.set 0 (.slice (some ⟨gq, 0, none⟩) ps.length c3)).set 1 (.slice q2 ls.length d2)).set 2 (.int .i64 0)), om2.kept (fun b t l ht h => by
                have hne : b ≠ w.heap.size + 1 := row_ne h rz (by rcases ht with rfl | rfl | rfl | rfl <;> decide)
                exact (((h.other 0 (.slice (some ⟨gq, 0, none⟩) ps.length c3) hne).other 1 (.slice q2 ls.length d2) hne).other 2 (.int .i64 0) hne)), (((hB.setCell (p := ⟨w.heap.size + 1, 0, none⟩) (by show w.heap.size ≤ w.heap.size + 1; omega) (.slice (some ⟨gq, 0, none⟩) ps.length c3)).setCell (p := ⟨w.heap.size + 1, 1, none⟩) (by show w.heap.size ≤ w.heap.size + 1; omega) (.slice q2 ls.length d2)).setCell (p := ⟨w.heap.size + 1, 2, none⟩) (by show w.heap.size ≤ w.heap.size + 1; omega) (.int .i64 0))⟩
            have HO : Hid (RES = (0, qs2.map (·.2), ls) ∧ ps.length = qs2.length) := ⟨by rw [hR, HM2.out, HM1.out], HL2.out⟩
            clear rz rM rL hB om2 hR
            go_wp2_with fail
            obtain ⟨k1, k2, k3⟩ := HE.out
            clear HE z0 z1 z2 f0 f1 f2
            generalize (((X2.setCell ⟨w.heap.size + 1, 0, none⟩ (.slice (some ⟨gq, 0, none⟩) ps.length c3)).setCell ⟨w.heap.size + 1, 1, none⟩ (.slice q2 ls.length d2)).setCell ⟨w.heap.size + 1, 2, none⟩ (.int .i64 0)) = Y at *
            have e0 : Y.cell? ⟨w.heap.size + 1, 0, none⟩ = some (.slice (some ⟨gq, 0, none⟩) ps.length c3) := k1.cell 0
            have e1 : Y.cell? ⟨w.heap.size + 1, 1, none⟩ = some (.slice q2 ls.length d2) := k1.cell 1
            have e2 : Y.cell? ⟨w.heap.size + 1, 2, none⟩ = some (.int .i64 0) := k1.cell 2
            have hO : OutM w.heap.size RES (.returned (.agg #[.slice (some ⟨gq, 0, none⟩) ps.length c3, .slice q2 ls.length d2, .int .i64 0])) Y := by
              rw [HO.out.1]
              refine ⟨some ⟨gq, 0, none⟩, c3, q2, d2, qs2, ?_, rfl, ?_⟩
              · simp only [List.length_map]
                rw [← HO.out.2]
              · simp only [List.length_map]
                rw [← HO.out.2]
                exact k2
            exact bodyPost_ret (v := .agg #[.slice (some ⟨gq, 0, none⟩) ps.length c3, .slice q2 ls.length d2, .int .i64 0]) (by simp [results, Tryz.results50, go_sem, e0, e1, e2]) rfl ⟨hO, k3⟩
          case neg =>
            have d : (ycc == 0) = false := by simpa using hc
            have HX1 : Hid (∃ qs2, OwnMesh wg w.heap.size (some ⟨gq, 0, none⟩) ps.length c3 q2 ls.length d2 qs2 ls ∧ qs2.map (·.2) = turn1 (qs1.map (·.2)) s (j : Int) false ∧ ps.length = qs2.length ∧ (∃ h : r < qs2.length, qs2[r] = qs1[r]'(by have := HN.out.1.1; have := HL1.out; omega)) ∧ ∀ j (hj : j < qs2.length) b, qs2[j].1.x = some ⟨b, 0, none⟩ ∨ qs2[j].1.y = some ⟨b, 0, none⟩ → b < wg.heap.size) := step_miss om1 HL1.out hz1 (N := wf.heap.size) (M := wg.heap.size) HTy.out hc hold1 ⟨by have := HN.out.1.1; have := HL1.out; omega, rfl⟩ (by have := HBW.out; omega)
            clear hc
            go_upto_region 20 with fail
            clear y3 d om1
            obtain ⟨qs2, om2, hm2, hl2, hz2, hold2⟩ := HX1.out
            clear HX1
            have HL2 : Hid _ := hl2
            have HM2 : Hid _ := hm2
            clear hl2 hm2
            have z0 : wg.cell? ⟨w.heap.size + 1, 0, none⟩ = some (.slice none 0 0) := rz.cell 0
            have z1 : wg.cell? ⟨w.heap.size + 1, 1, none⟩ = some (.slice none 0 0) := rz.cell 1
            have z2 : wg.cell? ⟨w.heap.size + 1, 2, none⟩ = some (.int .i64 0) := rz.cell 2
            have f0 := rz.frozen 0
            have f1 := rz.frozen 1
            have f2 := rz.frozen 2
            have b0 : wg.cell? ⟨bM, 0, none⟩ = some (.slice (some ⟨gq, 0, none⟩) ps.length c3) := rM.cell 0
            have b1 : wg.cell? ⟨bM, 1, none⟩ = some (.slice q2 ls.length d2) := rM.cell 1
            have HE : Hid (Row (((wg.setCell ⟨w.heap.size + 1, 0, none⟩ (.slice (some ⟨gq, 0, none⟩) ps.length c3)).setCell ⟨w.heap.size + 1, 1, none⟩ (.slice q2 ls.length d2)).setCell ⟨w.heap.size + 1, 2, none⟩ (.int .i64 0)) (w.heap.size + 1) 28 [.slice (some ⟨gq, 0, none⟩) ps.length c3, .slice q2 ls.length d2, .int .i64 0] ∧ OwnMesh (((wg.setCell ⟨w.heap.size + 1, 0, none⟩ (.slice (some ⟨gq, 0, none⟩) ps.length c3)).setCell ⟨w.heap.size + 1, 1, none⟩ (.slice q2 ls.length d2)).setCell ⟨w.heap.size + 1, 2, none⟩ (.int .i64 0)) w.heap.size (some ⟨gq, 0, none⟩) ps.length c3 q2 ls.length d2 qs2 ls ∧ Below w.heap.size w (((wg.setCell ⟨w.heap.size + 1, 0, none⟩ (.slice (some ⟨gq, 0, none⟩) ps.length c3)).setCell ⟨w.heap.size + 1, 1, none⟩ (.slice q2 ls.length d2)).setCell ⟨w.heap.size + 1, 2, none⟩ (.int .i64 0))) := ⟨(((rz.set 0 (.slice (some ⟨gq, 0, none⟩) ps.length c3)).set 1 (.slice q2 ls.length d2)).set 2 (.int .i64 0)), om2.kept (fun b t l ht h => by
                have hne : b ≠ w.heap.size + 1 := row_ne h rz (by rcases ht with rfl | rfl | rfl | rfl <;> decide)
                exact (((h.other 0 (.slice (some ⟨gq, 0, none⟩) ps.length c3) hne).other 1 (.slice q2 ls.length d2) hne).other 2 (.int .i64 0) hne)), (((hB.setCell (p := ⟨w.heap.size + 1, 0, none⟩) (by show w.heap.size ≤ w.heap.size + 1; omega) (.slice (some ⟨gq, 0, none⟩) ps.length c3)).setCell (p := ⟨w.heap.size + 1, 1, none⟩) (by show w.heap.size ≤ w.heap.size + 1; omega) (.slice q2 ls.length d2)).setCell (p := ⟨w.heap.size + 1, 2, none⟩) (by show w.heap.size ≤ w.heap.size + 1; omega) (.int .i64 0))⟩
            have HO : Hid (RES = (0, qs2.map (·.2), ls) ∧ ps.length = qs2.length) := ⟨by rw [hR, HM2.out, HM1.out], HL2.out⟩
            clear rz rM rL hB om2 hR
            go_wp2_with fail
            obtain ⟨k1, k2, k3⟩ := HE.out
            clear HE z0 z1 z2 f0 f1 f2
            generalize (((wg.setCell ⟨w.heap.size + 1, 0, none⟩ (.slice (some ⟨gq, 0, none⟩) ps.length c3)).setCell ⟨w.heap.size + 1, 1, none⟩ (.slice q2 ls.length d2)).setCell ⟨w.heap.size + 1, 2, none⟩ (.int .i64 0)) = Y at *
            have e0 : Y.cell? ⟨w.heap.size + 1, 0, none⟩ = some (.slice (some ⟨gq, 0, none⟩) ps.length c3) := k1.cell 0
            have e1 : Y.cell? ⟨w.heap.size + 1, 1, none⟩ = some (.slice q2 ls.length d2) := k1.cell 1
            have e2 : Y.cell? ⟨w.heap.size + 1, 2, none⟩ = some (.int .i64 0) := k1.cell 2
            have hO : OutM w.heap.size RES (.returned (.agg #[.slice (some ⟨gq, 0, none⟩) ps.length c3, .slice q2 ls.length d2, .int .i64 0])) Y := by
              rw [HO.out.1]
              refine ⟨some ⟨gq, 0, none⟩, c3, q2, d2, qs2, ?_, rfl, ?_⟩
              · simp only [List.length_map]
                rw [← HO.out.2]
              · simp only [List.length_map]
                rw [← HO.out.2]
                exact k2
            exact bodyPost_ret (v := .agg #[.slice (some ⟨gq, 0, none⟩) ps.length c3, .slice q2 ls.length d2, .int .i64 0]) (by simp [results, Tryz.results50, go_sem, e0, e1, e2]) rfl ⟨hO, k3⟩
  cases hU2 : (U2 == up)
  case false =>
    rw [hU1, hU2, Bool.and_false, if_neg Bool.false_ne_true] at hR
    have s0 : wc.cell? ⟨w.heap.size, 0, none⟩ = some (.slice (some ⟨gp, 0, none⟩) ps.length c1) := r0.cell 0
    have s1 : wc.cell? ⟨w.heap.size, 1, none⟩ = some (.slice (some ⟨gl, 0, none⟩) ls.length c2) := r0.cell 1
    go_wp2_with fail
    clear s0 s1 r0
    refine (HCP.out HMB.out _ (HX.out.1.below hB) (HX.out.2.below hB)).mono ?_
    rintro e wd ⟨⟨p2, c3, q2, d2, qs, rfl, hqm, om⟩, hb2⟩
    replace om := om.mono hB.size
    replace rz := rz.below hb2 rz.lt
    replace rL := rL.below hb2 rL.lt
    replace hB := hB.trans (hb2.mono hB.size)
    clear hb2 HCP HX
    have hlen : ps.length = qs.length := by simpa using (congrArg List.length hqm).symm
    have HLN : Hid (ps.length = qs.length) := hlen
    have hrq : r < qs.length := by have := HN.out.1.1; omega
    have hsq : s < qs.length := by have := HN.out.2.1.1; omega
    obtain ⟨gq, rest_, e, -⟩ := om.at hlen hrq
    subst e
    have rM := Row.new wd 26 [.slice (some ⟨gq, 0, none⟩) ps.length c3, .slice q2 ls.length d2]
    replace rz := rz.alloc (.cells #[.slice (some ⟨gq, 0, none⟩) ps.length c3, .slice q2 ls.length d2] 26)
    replace rL := rL.alloc (.cells #[.slice (some ⟨gq, 0, none⟩) ps.length c3, .slice q2 ls.length d2] 26)
    replace om := om.alloc (.cells #[.slice (some ⟨gq, 0, none⟩) ps.length c3, .slice q2 ls.length d2] 26)
    replace hB := hB.alloc hB.size (.cells #[.slice (some ⟨gq, 0, none⟩) ps.length c3, .slice q2 ls.length d2] 26)
    have HP : Hid _ := And.intro rz (And.intro rL (And.intro rM (And.intro om hB)))
    clear rz rL rM om hB rest_
    rw [← hqm] at hR
    obtain ⟨⟨⟨ax, ac, ay, ad⟩, ⟨ais, ars, anw⟩⟩, hqa⟩ : ∃ e, qs[r] = e := ⟨_, rfl⟩
    obtain ⟨⟨⟨zx, zc, zy, zd⟩, ⟨zis, zrs, znw⟩⟩, hqz⟩ : ∃ e, qs[s] = e := ⟨_, rfl⟩
    have HBa : Hid (ais.length ≤ 100000000 ∧ ars.length ≤ 100000000) := by
      have := HBD.out r (by rw [← hqm, List.length_map]; exact hrq)
      rw [← hqm, map_at hrq, hqa] at this
      exact this
    have HBz : Hid (zis.length ≤ 100000000 ∧ zrs.length ≤ 100000000) := by
      have := HBD.out s (by rw [← hqm, List.length_map]; exact hsq)
      rw [← hqm, map_at hsq, hqz] at this
      exact this
    have HQa : Hid (∃ h : r < qs.length, qs[r] = (⟨ax, ac, ay, ad⟩, ⟨ais, ars, anw⟩)) := ⟨hrq, hqa⟩
    have HQz : Hid (∃ h : s < qs.length, qs[s] = (⟨zx, zc, zy, zd⟩, ⟨zis, zrs, znw⟩)) := ⟨hsq, hqz⟩
    have HLQ : Hid (qs.map (·.2) = ps.map (·.2)) := hqm
    clear hqa hqz hrq hsq hlen HBD hqm
    go_wp2_with fail
    generalize wd.heap.size = bM at *
    generalize wd.alloc (.cells #[.slice (some ⟨gq, 0, none⟩) ps.length c3, .slice q2 ls.length d2] 26) = we at *
    obtain ⟨rz, rL, rM, om, hB⟩ := HP.out
    clear HP
    have HWE : Hid (Row we (w.heap.size + 1) 28 [.slice none 0 0, .slice none 0 0, .int .i64 0] ∧ Row we bL 56 [.int .i64 (r : Int), .int .i64 (i : Int), .int .i64 (s : Int), .int .i64 (j : Int)] ∧ Row we bM 26 [.slice (some ⟨gq, 0, none⟩) ps.length c3, .slice q2 ls.length d2] ∧ OwnMesh we w.heap.size (some ⟨gq, 0, none⟩) ps.length c3 q2 ls.length d2 qs ls ∧ Below w.heap.size w we) := ⟨rz, rL, rM, om, hB⟩
    have hW : Below we.heap.size we we := Below.refl _ _
    clear rz rL rM om hB
    cases HUP.out
    clear HUP
    obtain ⟨rz, rL, rM, om, hBe⟩ := HWE.out
    replace rz := rz.below hW rz.lt
    replace rL := rL.below hW rL.lt
    replace rM := rM.below hW rM.lt
    replace om := om.below hW
    obtain ⟨rest, hbq, hgq, hrq, i0, i1, i2, oiv⟩ := om.cells HLN.out HQa.out.1 HQa.out.2
    clear hrq hbq rest rz om hBe
    simp only at i0 i1 i2
    have HDD : Hid (∀ W', OwnIv W' w.heap.size ⟨ax, ac, ay, ad⟩ ⟨ais, ars, anw⟩ → Calls Tryz.prog 86 #[.agg #[.slice ax ais.length ac, .slice ay ars.length ad, .int .i64 anw], .int .i64 (i : Int)] W' fun e w' => (∃ v, e = .returned v ∧ AnsI W'.heap.size (turnO ⟨ais, ars, anw⟩ (i : Int) false).1 (turnO ⟨ais, ars, anw⟩ (i : Int) false).2.1 (turnO ⟨ais, ars, anw⟩ (i : Int) false).2.2.1 (turnO ⟨ais, ars, anw⟩ (i : Int) false).2.2.2 v w') ∧ Below W'.heap.size W' w') := fun W' h => own_down (B := w.heap.size) (a := ⟨ax, ac, ay, ad⟩) (t := ⟨ais, ars, anw⟩) (W := W') (i : Int) h HBa.out.1 HBa.out.2
    generalize ht : turnO ⟨ais, ars, anw⟩ (i : Int) false = X at *
    obtain ⟨kcc, kis, krs, knw⟩ := X
    have HTk : Hid _ := ht
    clear ht
    simp only at HDD
    have hGN : (([(65, Is (.pointer (some ⟨bM, 0, none⟩))), (66, Is (.slice (some ⟨gq, 0, none⟩) ps.length c3)), (67, Is (.pointer (some ⟨bL, 0, none⟩))), (68, Is (.int .i64 (r : Int))), (69, Is (.pointer (some ⟨gq, r * 3, none⟩))), (70, Is (.agg #[.slice ax ais.length ac, .slice ay ars.length ad, .int .i64 anw])), (71, Is (.pointer (some ⟨bL, 1, none⟩))), (72, Is (.int .i64 (i : Int))), (73, AnsI we.heap.size kcc kis krs knw), (11, fun v W => ∃ g, v = .pointer (some ⟨g, 0, none⟩) ∧ we.heap.size ≤ g ∧ Row W g 63 [.slice none 0 0, .slice none 0 0, .int .i64 0, .int .i64 0])] : List (Nat × (Value → World → Prop))).map (·.1)).Nodup := by simp
    refine wp_region_steady 10 (SlotG [(65, Is (.pointer (some ⟨bM, 0, none⟩))), (66, Is (.slice (some ⟨gq, 0, none⟩) ps.length c3)), (67, Is (.pointer (some ⟨bL, 0, none⟩))), (68, Is (.int .i64 (r : Int))), (69, Is (.pointer (some ⟨gq, r * 3, none⟩))), (70, Is (.agg #[.slice ax ais.length ac, .slice ay ars.length ad, .int .i64 anw])), (71, Is (.pointer (some ⟨bL, 1, none⟩))), (72, Is (.int .i64 (i : Int))), (73, AnsI we.heap.size kcc kis krs knw), (11, fun v W => ∃ g, v = .pointer (some ⟨g, 0, none⟩) ∧ we.heap.size ≤ g ∧ Row W g 63 [.slice none 0 0, .slice none 0 0, .int .i64 0, .int .i64 0])]) (by kernel_rfl) (by kernel_rfl) (Stabs.all ⟨stab_is _, stab_is _, stab_is _, stab_is _, stab_is _, stab_is _, stab_is _, stab_is _, stab_ansI we.heap.size kcc kis krs knw, stab_new we.heap.size 63 [.slice none 0 0, .slice none 0 0, .int .i64 0, .int .i64 0], trivial⟩) ?_ ?_
    · intro o ho
      simp only [List.take_succ_cons, List.take_zero, List.mem_cons, List.not_mem_nil, or_false] at ho
      rcases ho with rfl | rfl | rfl | rfl | rfl | rfl | rfl | rfl | rfl | rfl
      · intro a' w' hb ha hdep
        have d10 : a'.tmps.getD 10 undef = .pointer (some ⟨bM, 0, none⟩) := ha.at 10 (by kernel_rfl)
        have hmk := fun (x : Value) (W : World) => SlotG.mk (x := x) (w := W) 0 rfl hGN
        clear hGN ha hdep
        go_simp
        exact ⟨_, rfl, Below.refl _ _, hmk _ _ rfl⟩
      · intro a' w' hb ha hdep
        have d65 : a'.tmps.getD 65 undef = .pointer (some ⟨bM, 0, none⟩) := (hdep 65 (of_decide_eq_true (by kernel_rfl))).is 0 rfl
        have hmk := fun (x : Value) (W : World) => SlotG.mk (x := x) (w := W) 1 rfl hGN
        clear hGN ha hdep
        have y : w'.cell? ⟨bM, 0, none⟩ = some (.slice (some ⟨gq, 0, none⟩) ps.length c3) := (rM.below hb rM.lt).cell 0
        go_simp
        exact ⟨_, rfl, Below.refl _ _, hmk _ _ rfl⟩
      · intro a' w' hb ha hdep
        have d7 : a'.tmps.getD 7 undef = .pointer (some ⟨bL, 0, none⟩) := ha.at 7 (by kernel_rfl)
        have hmk := fun (x : Value) (W : World) => SlotG.mk (x := x) (w := W) 2 rfl hGN
        clear hGN ha hdep
        go_simp
        exact ⟨_, rfl, Below.refl _ _, hmk _ _ rfl⟩
      · intro a' w' hb ha hdep
        have d67 : a'.tmps.getD 67 undef = .pointer (some ⟨bL, 0, none⟩) := (hdep 67 (of_decide_eq_true (by kernel_rfl))).is 2 rfl
        have hmk := fun (x : Value) (W : World) => SlotG.mk (x := x) (w := W) 3 rfl hGN
        clear hGN ha hdep
        have y : w'.cell? ⟨bL, 0, none⟩ = some (.int .i64 (r : Int)) := (rL.below hb rL.lt).cell 0
        go_simp
        exact ⟨_, rfl, Below.refl _ _, hmk _ _ rfl⟩
      · intro a' w' hb ha hdep
        have d66 : a'.tmps.getD 66 undef = .slice (some ⟨gq, 0, none⟩) ps.length c3 := (hdep 66 (of_decide_eq_true (by kernel_rfl))).is 1 rfl
        have d68 : a'.tmps.getD 68 undef = .int .i64 (r : Int) := (hdep 68 (of_decide_eq_true (by kernel_rfl))).is 3 rfl
        have hmk := fun (x : Value) (W : World) => SlotG.mk (x := x) (w := W) 4 rfl hGN
        clear hGN ha hdep
        obtain ⟨drn, dr⟩ := HN.out.1
        go_simp
        exact ⟨_, rfl, Below.refl _ _, hmk _ _ rfl⟩
      · intro a' w' hb ha hdep
        have d69 : a'.tmps.getD 69 undef = .pointer (some ⟨gq, r * 3, none⟩) := (hdep 69 (of_decide_eq_true (by kernel_rfl))).is 4 rfl
        have hmk := fun (x : Value) (W : World) => SlotG.mk (x := x) (w := W) 5 rfl hGN
        clear hGN ha hdep
        have v0 : w'.cell? ⟨gq, r * 3, none⟩ = some (.slice ax ais.length ac) := by rw [hb.cell (p := ⟨gq, r * 3, none⟩) hgq]; exact i0
        have v1 : w'.cell? ⟨gq, r * 3 + 1, none⟩ = some (.slice ay ars.length ad) := by rw [hb.cell (p := ⟨gq, r * 3 + 1, none⟩) hgq]; exact i1
        have v2 : w'.cell? ⟨gq, r * 3 + 2, none⟩ = some (.int .i64 anw) := by rw [hb.cell (p := ⟨gq, r * 3 + 2, none⟩) hgq]; exact i2
        go_simp
        exact ⟨_, rfl, Below.refl _ _, hmk _ _ rfl⟩
      · intro a' w' hb ha hdep
        have d7 : a'.tmps.getD 7 undef = .pointer (some ⟨bL, 0, none⟩) := ha.at 7 (by kernel_rfl)
        have hmk := fun (x : Value) (W : World) => SlotG.mk (x := x) (w := W) 6 rfl hGN
        clear hGN ha hdep
        go_simp
        exact ⟨_, rfl, Below.refl _ _, hmk _ _ rfl⟩
      · intro a' w' hb ha hdep
        have d71 : a'.tmps.getD 71 undef = .pointer (some ⟨bL, 1, none⟩) := (hdep 71 (of_decide_eq_true (by kernel_rfl))).is 6 rfl
        have hmk := fun (x : Value) (W : World) => SlotG.mk (x := x) (w := W) 7 rfl hGN
        clear hGN ha hdep
        have y : w'.cell? ⟨bL, 1, none⟩ = some (.int .i64 (i : Int)) := (rL.below hb rL.lt).cell 1
        go_simp
        exact ⟨_, rfl, Below.refl _ _, hmk _ _ rfl⟩
      · intro a' w' hb ha hdep
        have d70 : a'.tmps.getD 70 undef = .agg #[.slice ax ais.length ac, .slice ay ars.length ad, .int .i64 anw] := (hdep 70 (of_decide_eq_true (by kernel_rfl))).is 5 rfl
        have d72 : a'.tmps.getD 72 undef = .int .i64 (i : Int) := (hdep 72 (of_decide_eq_true (by kernel_rfl))).is 7 rfl
        have hmk := fun (x : Value) (W : World) => SlotG.mk (x := x) (w := W) 8 rfl hGN
        clear hGN ha hdep
        go_simp
        refine (HDD.out _ (oiv.below hb)).mono ?_
        rintro e w2 ⟨⟨v_, rfl, x_, c_, y_, d_, rfl, o1, o2⟩, hb2⟩
        exact ⟨_, rfl, hb2, hmk _ _ ⟨x_, c_, y_, d_, rfl, owns_mono o1 hb.size, owns_mono o2 hb.size⟩⟩
      · intro a' w' hb ha hdep
        have hmk := fun (x : Value) (W : World) => SlotG.mk (x := x) (w := W) 9 rfl hGN
        clear hGN ha hdep
        have hsz := hb.size
        go_simp
        exact ⟨_, rfl, ent_new0 _ _, hmk _ _ ⟨_, rfl, hsz, Row.new w' 63 [.slice none 0 0, .slice none 0 0, .int .i64 0, .int .i64 0]⟩⟩
    · intro a' w' hb ha hG
      clear hGN
      have D73 := (hG _ (List.mem_of_getElem? (i := 8) rfl) 73 rfl).get 8 rfl
      have D11 := (hG _ (List.mem_of_getElem? (i := 9) rfl) 11 rfl).get 9 rfl
      have d2 : a'.tmps.getD 2 undef = .bool false := ha.at 2 (by kernel_rfl)
      have d6 : a'.tmps.getD 6 undef = .pointer (some ⟨w.heap.size + 1, 0, none⟩) := ha.at 6 (by kernel_rfl)
      have d7 : a'.tmps.getD 7 undef = .pointer (some ⟨bL, 0, none⟩) := ha.at 7 (by kernel_rfl)
      have d10 : a'.tmps.getD 10 undef = .pointer (some ⟨bM, 0, none⟩) := ha.at 10 (by kernel_rfl)
      have e2 : a' = ⟨#[a'.tmps.getD 0 undef, a'.tmps.getD 1 undef, a'.tmps.getD 2 undef, a'.tmps.getD 3 undef, a'.tmps.getD 4 undef, a'.tmps.getD 5 undef, a'.tmps.getD 6 undef, a'.tmps.getD 7 undef, a'.tmps.getD 8 undef, a'.tmps.getD 9 undef, a'.tmps.getD 10 undef, a'.tmps.getD 11 undef, a'.tmps.getD 12 undef, a'.tmps.getD 13 undef, a'.tmps.getD 14 undef, a'.tmps.getD 15 undef, a'.tmps.getD 16 undef, a'.tmps.getD 17 undef, a'.tmps.getD 18 undef, a'.tmps.getD 19 undef, a'.tmps.getD 20 undef, a'.tmps.getD 21 undef, a'.tmps.getD 22 undef, a'.tmps.getD 23 undef, a'.tmps.getD 24 undef, a'.tmps.getD 25 undef, a'.tmps.getD 26 undef, a'.tmps.getD 27 undef, a'.tmps.getD 28 undef, a'.tmps.getD 29 undef, a'.tmps.getD 30 undef, a'.tmps.getD 31 undef, a'.tmps.getD 32 undef, a'.tmps.getD 33 undef, a'.tmps.getD 34 undef, a'.tmps.getD 35 undef, a'.tmps.getD 36 undef, a'.tmps.getD 37 undef, a'.tmps.getD 38 undef, a'.tmps.getD 39 undef, a'.tmps.getD 40 undef, a'.tmps.getD 41 undef, a'.tmps.getD 42 undef, a'.tmps.getD 43 undef, a'.tmps.getD 44 undef, a'.tmps.getD 45 undef, a'.tmps.getD 46 undef, a'.tmps.getD 47 undef, a'.tmps.getD 48 undef, a'.tmps.getD 49 undef, a'.tmps.getD 50 undef, a'.tmps.getD 51 undef, a'.tmps.getD 52 undef, a'.tmps.getD 53 undef, a'.tmps.getD 54 undef, a'.tmps.getD 55 undef, a'.tmps.getD 56 undef, a'.tmps.getD 57 undef, a'.tmps.getD 58 undef, a'.tmps.getD 59 undef, a'.tmps.getD 60 undef, a'.tmps.getD 61 undef, a'.tmps.getD 62 undef, a'.tmps.getD 63 undef, a'.tmps.getD 64 undef, a'.tmps.getD 65 undef, a'.tmps.getD 66 undef, a'.tmps.getD 67 undef, a'.tmps.getD 68 undef, a'.tmps.getD 69 undef, a'.tmps.getD 70 undef, a'.tmps.getD 71 undef, a'.tmps.getD 72 undef, a'.tmps.getD 73 undef, a'.tmps.getD 74 undef, a'.tmps.getD 75 undef, a'.tmps.getD 76 undef, a'.tmps.getD 77 undef, a'.tmps.getD 78 undef, a'.tmps.getD 79 undef, a'.tmps.getD 80 undef, a'.tmps.getD 81 undef, a'.tmps.getD 82 undef, a'.tmps.getD 83 undef, a'.tmps.getD 84 undef, a'.tmps.getD 85 undef, a'.tmps.getD 86 undef, a'.tmps.getD 87 undef, a'.tmps.getD 88 undef, a'.tmps.getD 89 undef, a'.tmps.getD 90 undef, a'.tmps.getD 91 undef, a'.tmps.getD 92 undef, a'.tmps.getD 93 undef, a'.tmps.getD 94 undef, a'.tmps.getD 95 undef, a'.tmps.getD 96 undef, a'.tmps.getD 97 undef, a'.tmps.getD 98 undef, a'.tmps.getD 99 undef, a'.tmps.getD 100 undef, a'.tmps.getD 101 undef, a'.tmps.getD 102 undef, a'.tmps.getD 103 undef, a'.tmps.getD 104 undef, a'.tmps.getD 105 undef, a'.tmps.getD 106 undef, a'.tmps.getD 107 undef, a'.tmps.getD 108 undef, a'.tmps.getD 109 undef, a'.tmps.getD 110 undef, a'.tmps.getD 111 undef, a'.tmps.getD 112 undef, a'.tmps.getD 113 undef, a'.tmps.getD 114 undef, a'.tmps.getD 115 undef, a'.tmps.getD 116 undef, a'.tmps.getD 117 undef, a'.tmps.getD 118 undef, a'.tmps.getD 119 undef, a'.tmps.getD 120 undef, a'.tmps.getD 121 undef, a'.tmps.getD 122 undef, a'.tmps.getD 123 undef], []⟩ := by rw [← (show a'.defers = [] from ha.2.1)]; exact act_eq a' 124 ha.1
      rw [d2, d6, d7, d10] at e2
      clear hG ha d2 d6 d7 d10
      generalize a'.tmps.getD 0 undef = x0 at *
      generalize a'.tmps.getD 1 undef = x1 at *
      generalize a'.tmps.getD 3 undef = x3 at *
      generalize a'.tmps.getD 4 undef = x4 at *
      generalize a'.tmps.getD 5 undef = x5 at *
      generalize a'.tmps.getD 8 undef = x8 at *
      generalize a'.tmps.getD 9 undef = x9 at *
      generalize a'.tmps.getD 11 undef = x11 at *
      generalize a'.tmps.getD 12 undef = x12 at *
      generalize a'.tmps.getD 13 undef = x13 at *
      generalize a'.tmps.getD 14 undef = x14 at *
      generalize a'.tmps.getD 15 undef = x15 at *
      generalize a'.tmps.getD 16 undef = x16 at *
      generalize a'.tmps.getD 17 undef = x17 at *
      generalize a'.tmps.getD 18 undef = x18 at *
      generalize a'.tmps.getD 19 undef = x19 at *
      generalize a'.tmps.getD 20 undef = x20 at *
      generalize a'.tmps.getD 21 undef = x21 at *
      generalize a'.tmps.getD 22 undef = x22 at *
      generalize a'.tmps.getD 23 undef = x23 at *
      generalize a'.tmps.getD 24 undef = x24 at *
      generalize a'.tmps.getD 25 undef = x25 at *
      generalize a'.tmps.getD 26 undef = x26 at *
      generalize a'.tmps.getD 27 undef = x27 at *
      generalize a'.tmps.getD 28 undef = x28 at *
      generalize a'.tmps.getD 29 undef = x29 at *
      generalize a'.tmps.getD 30 undef = x30 at *
      generalize a'.tmps.getD 31 undef = x31 at *
      generalize a'.tmps.getD 32 undef = x32 at *
      generalize a'.tmps.getD 33 undef = x33 at *
      generalize a'.tmps.getD 34 undef = x34 at *
      generalize a'.tmps.getD 35 undef = x35 at *
      generalize a'.tmps.getD 36 undef = x36 at *
      generalize a'.tmps.getD 37 undef = x37 at *
      generalize a'.tmps.getD 38 undef = x38 at *
      generalize a'.tmps.getD 39 undef = x39 at *
      generalize a'.tmps.getD 40 undef = x40 at *
      generalize a'.tmps.getD 41 undef = x41 at *
      generalize a'.tmps.getD 42 undef = x42 at *
      generalize a'.tmps.getD 43 undef = x43 at *
      generalize a'.tmps.getD 44 undef = x44 at *
      generalize a'.tmps.getD 45 undef = x45 at *
      generalize a'.tmps.getD 46 undef = x46 at *
      generalize a'.tmps.getD 47 undef = x47 at *
      generalize a'.tmps.getD 48 undef = x48 at *
      generalize a'.tmps.getD 49 undef = x49 at *
      generalize a'.tmps.getD 50 undef = x50 at *
      generalize a'.tmps.getD 51 undef = x51 at *
      generalize a'.tmps.getD 52 undef = x52 at *
      generalize a'.tmps.getD 53 undef = x53 at *
      generalize a'.tmps.getD 54 undef = x54 at *
      generalize a'.tmps.getD 55 undef = x55 at *
      generalize a'.tmps.getD 56 undef = x56 at *
      generalize a'.tmps.getD 57 undef = x57 at *
      generalize a'.tmps.getD 58 undef = x58 at *
      generalize a'.tmps.getD 59 undef = x59 at *
      generalize a'.tmps.getD 60 undef = x60 at *
      generalize a'.tmps.getD 61 undef = x61 at *
      generalize a'.tmps.getD 62 undef = x62 at *
      generalize a'.tmps.getD 63 undef = x63 at *
      generalize a'.tmps.getD 64 undef = x64 at *
      generalize a'.tmps.getD 65 undef = x65 at *
      generalize a'.tmps.getD 66 undef = x66 at *
      generalize a'.tmps.getD 67 undef = x67 at *
      generalize a'.tmps.getD 68 undef = x68 at *
      generalize a'.tmps.getD 69 undef = x69 at *
      generalize a'.tmps.getD 70 undef = x70 at *
      generalize a'.tmps.getD 71 undef = x71 at *
      generalize a'.tmps.getD 72 undef = x72 at *
      generalize a'.tmps.getD 73 undef = x73 at *
      generalize a'.tmps.getD 74 undef = x74 at *
      generalize a'.tmps.getD 75 undef = x75 at *
      generalize a'.tmps.getD 76 undef = x76 at *
      generalize a'.tmps.getD 77 undef = x77 at *
      generalize a'.tmps.getD 78 undef = x78 at *
      generalize a'.tmps.getD 79 undef = x79 at *
      generalize a'.tmps.getD 80 undef = x80 at *
      generalize a'.tmps.getD 81 undef = x81 at *
      generalize a'.tmps.getD 82 undef = x82 at *
      generalize a'.tmps.getD 83 undef = x83 at *
      generalize a'.tmps.getD 84 undef = x84 at *
      generalize a'.tmps.getD 85 undef = x85 at *
      generalize a'.tmps.getD 86 undef = x86 at *
      generalize a'.tmps.getD 87 undef = x87 at *
      generalize a'.tmps.getD 88 undef = x88 at *
      generalize a'.tmps.getD 89 undef = x89 at *
      generalize a'.tmps.getD 90 undef = x90 at *
      generalize a'.tmps.getD 91 undef = x91 at *
      generalize a'.tmps.getD 92 undef = x92 at *
      generalize a'.tmps.getD 93 undef = x93 at *
      generalize a'.tmps.getD 94 undef = x94 at *
      generalize a'.tmps.getD 95 undef = x95 at *
      generalize a'.tmps.getD 96 undef = x96 at *
      generalize a'.tmps.getD 97 undef = x97 at *
      generalize a'.tmps.getD 98 undef = x98 at *
      generalize a'.tmps.getD 99 undef = x99 at *
      generalize a'.tmps.getD 100 undef = x100 at *
      generalize a'.tmps.getD 101 undef = x101 at *
      generalize a'.tmps.getD 102 undef = x102 at *
      generalize a'.tmps.getD 103 undef = x103 at *
      generalize a'.tmps.getD 104 undef = x104 at *
      generalize a'.tmps.getD 105 undef = x105 at *
      generalize a'.tmps.getD 106 undef = x106 at *
      generalize a'.tmps.getD 107 undef = x107 at *
      generalize a'.tmps.getD 108 undef = x108 at *
      generalize a'.tmps.getD 109 undef = x109 at *
      generalize a'.tmps.getD 110 undef = x110 at *
      generalize a'.tmps.getD 111 undef = x111 at *
      generalize a'.tmps.getD 112 undef = x112 at *
      generalize a'.tmps.getD 113 undef = x113 at *
      generalize a'.tmps.getD 114 undef = x114 at *
      generalize a'.tmps.getD 115 undef = x115 at *
      generalize a'.tmps.getD 116 undef = x116 at *
      generalize a'.tmps.getD 117 undef = x117 at *
      generalize a'.tmps.getD 118 undef = x118 at *
      generalize a'.tmps.getD 119 undef = x119 at *
      generalize a'.tmps.getD 120 undef = x120 at *
      generalize a'.tmps.getD 121 undef = x121 at *
      generalize a'.tmps.getD 122 undef = x122 at *
      generalize a'.tmps.getD 123 undef = x123 at *
      subst e2
      simp only [List.drop_succ_cons, List.drop_zero]
      have hsz := hW.size
      obtain ⟨gY, rfl, hgY, rY⟩ := D11
      have hgY : we.heap.size ≤ gY := Nat.le_trans hW.size hgY
      obtain ⟨kx, kc, ky, kd, rfl, oki, okr⟩ := D73
      have z0 : w'.cell? ⟨gY, 0, none⟩ = some (.slice none 0 0) := rY.cell 0
      have z1 : w'.cell? ⟨gY, 1, none⟩ = some (.slice none 0 0) := rY.cell 1
      have z2 : w'.cell? ⟨gY, 2, none⟩ = some (.int .i64 0) := rY.cell 2
      have z3 : w'.cell? ⟨gY, 3, none⟩ = some (.int .i64 0) := rY.cell 3
      have f0 : w'.frozen? ⟨gY, 0, none⟩ = false := rY.frozen 0
      have f1 : w'.frozen? ⟨gY, 1, none⟩ = false := rY.frozen 1
      have f2 : w'.frozen? ⟨gY, 2, none⟩ = false := rY.frozen 2
      have f3 : w'.frozen? ⟨gY, 3, none⟩ = false := rY.frozen 3
      have hko : ∀ b t l, b ≠ gY → Row w' b t l → Row ((((w'.setCell ⟨gY, 0, none⟩ (.slice kx kis.length kc)).setCell ⟨gY, 1, none⟩ (.slice ky krs.length kd)).setCell ⟨gY, 2, none⟩ (.int .i64 knw)).setCell ⟨gY, 3, none⟩ (.int .i64 kcc)) b t l := fun b t l hne h => (((h.other 0 (.slice kx kis.length kc) hne).other 1 (.slice ky krs.length kd) hne).other 2 (.int .i64 knw) hne).other 3 (.int .i64 kcc) hne
      have HFG : Hid (we.heap.size ≤ ((((w'.setCell ⟨gY, 0, none⟩ (.slice kx kis.length kc)).setCell ⟨gY, 1, none⟩ (.slice ky krs.length kd)).setCell ⟨gY, 2, none⟩ (.int .i64 knw)).setCell ⟨gY, 3, none⟩ (.int .i64 kcc)).heap.size) := by have := hb.size; show _ ≤ _; simp; omega
      have HE : Hid (Row ((((w'.setCell ⟨gY, 0, none⟩ (.slice kx kis.length kc)).setCell ⟨gY, 1, none⟩ (.slice ky krs.length kd)).setCell ⟨gY, 2, none⟩ (.int .i64 knw)).setCell ⟨gY, 3, none⟩ (.int .i64 kcc)) gY 63 [.slice kx kis.length kc, .slice ky krs.length kd, .int .i64 knw, .int .i64 kcc] ∧ ((((w'.setCell ⟨gY, 0, none⟩ (.slice kx kis.length kc)).setCell ⟨gY, 1, none⟩ (.slice ky krs.length kd)).setCell ⟨gY, 2, none⟩ (.int .i64 knw)).setCell ⟨gY, 3, none⟩ (.int .i64 kcc)).ownsRow we.heap.size 53 5 (.slice kx kis.length kc) kis.length (rowI kis) ∧ ((((w'.setCell ⟨gY, 0, none⟩ (.slice kx kis.length kc)).setCell ⟨gY, 1, none⟩ (.slice ky krs.length kd)).setCell ⟨gY, 2, none⟩ (.int .i64 knw)).setCell ⟨gY, 3, none⟩ (.int .i64 kcc)).ownsRow we.heap.size 155 9 (.slice ky krs.length kd) krs.length (rowR krs) ∧ Below we.heap.size we ((((w'.setCell ⟨gY, 0, none⟩ (.slice kx kis.length kc)).setCell ⟨gY, 1, none⟩ (.slice ky krs.length kd)).setCell ⟨gY, 2, none⟩ (.int .i64 knw)).setCell ⟨gY, 3, none⟩ (.int .i64 kcc))) := ⟨((((rY.set 0 (.slice kx kis.length kc)).set 1 (.slice ky krs.length kd)).set 2 (.int .i64 knw)).set 3 (.int .i64 kcc)), owns_kept oki (fun b t l e h => hko b t l (fun e2 => by subst e2; exact owns_ne oki rY (by decide) e) h), owns_kept okr (fun b t l e h => hko b t l (fun e2 => by subst e2; exact owns_ne okr rY (by decide) e) h), ((((((((hW.trans (hb.mono hW.size)).setCell (p := ⟨gY, 0, none⟩) hgY (.slice kx kis.length kc))).setCell (p := ⟨gY, 1, none⟩) hgY (.slice ky krs.length kd))).setCell (p := ⟨gY, 2, none⟩) hgY (.int .i64 knw))).setCell (p := ⟨gY, 3, none⟩) hgY (.int .i64 kcc))⟩
      have hWW := HE.out.2.2.2.size
      clear hko hsz hb rM rL i0 i1 i2 oiv HDD rY oki okr hW
      go_wp2_with fail
      obtain ⟨rY, oki, okr, hW⟩ := HE.out
      clear HE z0 z1 z2 z3 f0 f1 f2 f3 hWW
      generalize ((((w'.setCell ⟨gY, 0, none⟩ (.slice kx kis.length kc)).setCell ⟨gY, 1, none⟩ (.slice ky krs.length kd)).setCell ⟨gY, 2, none⟩ (.int .i64 knw)).setCell ⟨gY, 3, none⟩ (.int .i64 kcc)) = wf at *
      have HLY : Hid (∀ b, kx = some ⟨b, 0, none⟩ ∨ ky = some ⟨b, 0, none⟩ → b < wf.heap.size) := fun b hb => by
        rcases hb with e | e
        · exact owns_lt oki b e
        · exact owns_lt okr b e
      have HWF : Hid (we.heap.size ≤ wf.heap.size) := hW.size
      obtain ⟨rz, rL, rM, om, hBe⟩ := HWE.out
      replace rz := rz.below hW rz.lt
      replace rL := rL.below hW rL.lt
      replace rM := rM.below hW rM.lt
      replace om := om.below hW
      obtain ⟨rest, hbq, hgq, hrq, i0, i1, i2, oiv⟩ := om.cells HLN.out HQz.out.1 HQz.out.2
      clear hrq hbq rest rz om hBe
      simp only at i0 i1 i2
      have HDD : Hid (∀ W', OwnIv W' w.heap.size ⟨zx, zc, zy, zd⟩ ⟨zis, zrs, znw⟩ → Calls Tryz.prog 86 #[.agg #[.slice zx zis.length zc, .slice zy zrs.length zd, .int .i64 znw], .int .i64 (j : Int)] W' fun e w' => (∃ v, e = .returned v ∧ AnsI W'.heap.size (turnO ⟨zis, zrs, znw⟩ (j : Int) false).1 (turnO ⟨zis, zrs, znw⟩ (j : Int) false).2.1 (turnO ⟨zis, zrs, znw⟩ (j : Int) false).2.2.1 (turnO ⟨zis, zrs, znw⟩ (j : Int) false).2.2.2 v w') ∧ Below W'.heap.size W' w') := fun W' h => own_down (B := w.heap.size) (a := ⟨zx, zc, zy, zd⟩) (t := ⟨zis, zrs, znw⟩) (W := W') (j : Int) h HBz.out.1 HBz.out.2
      generalize ht : turnO ⟨zis, zrs, znw⟩ (j : Int) false = X at *
      obtain ⟨ycc, yis, yrs, ynw⟩ := X
      have HTy : Hid _ := ht
      clear ht
      simp only at HDD
      have hYlt := rY.lt
      have hGN : (([(74, Is (.pointer (some ⟨bM, 0, none⟩))), (75, Is (.slice (some ⟨gq, 0, none⟩) ps.length c3)), (76, Is (.pointer (some ⟨bL, 2, none⟩))), (77, Is (.int .i64 (s : Int))), (78, Is (.pointer (some ⟨gq, s * 3, none⟩))), (79, Is (.agg #[.slice zx zis.length zc, .slice zy zrs.length zd, .int .i64 znw])), (80, Is (.pointer (some ⟨bL, 3, none⟩))), (81, Is (.int .i64 (j : Int))), (82, AnsI wf.heap.size ycc yis yrs ynw), (12, fun v W => ∃ g, v = .pointer (some ⟨g, 0, none⟩) ∧ wf.heap.size ≤ g ∧ Row W g 63 [.slice none 0 0, .slice none 0 0, .int .i64 0, .int .i64 0])] : List (Nat × (Value → World → Prop))).map (·.1)).Nodup := by simp
      refine wp_region_steady 10 (SlotG [(74, Is (.pointer (some ⟨bM, 0, none⟩))), (75, Is (.slice (some ⟨gq, 0, none⟩) ps.length c3)), (76, Is (.pointer (some ⟨bL, 2, none⟩))), (77, Is (.int .i64 (s : Int))), (78, Is (.pointer (some ⟨gq, s * 3, none⟩))), (79, Is (.agg #[.slice zx zis.length zc, .slice zy zrs.length zd, .int .i64 znw])), (80, Is (.pointer (some ⟨bL, 3, none⟩))), (81, Is (.int .i64 (j : Int))), (82, AnsI wf.heap.size ycc yis yrs ynw), (12, fun v W => ∃ g, v = .pointer (some ⟨g, 0, none⟩) ∧ wf.heap.size ≤ g ∧ Row W g 63 [.slice none 0 0, .slice none 0 0, .int .i64 0, .int .i64 0])]) (by kernel_rfl) (by kernel_rfl) (Stabs.all ⟨stab_is _, stab_is _, stab_is _, stab_is _, stab_is _, stab_is _, stab_is _, stab_is _, stab_ansI wf.heap.size ycc yis yrs ynw, stab_new wf.heap.size 63 [.slice none 0 0, .slice none 0 0, .int .i64 0, .int .i64 0], trivial⟩) ?_ ?_
      · intro o ho
        simp only [List.take_succ_cons, List.take_zero, List.mem_cons, List.not_mem_nil, or_false] at ho
        rcases ho with rfl | rfl | rfl | rfl | rfl | rfl | rfl | rfl | rfl | rfl
        · intro a' w' hb ha hdep
          have d10 : a'.tmps.getD 10 undef = .pointer (some ⟨bM, 0, none⟩) := ha.at 10 (by kernel_rfl)
          have hmk := fun (x : Value) (W : World) => SlotG.mk (x := x) (w := W) 0 rfl hGN
          clear hGN ha hdep
          go_simp
          exact ⟨_, rfl, Below.refl _ _, hmk _ _ rfl⟩
        · intro a' w' hb ha hdep
          have d74 : a'.tmps.getD 74 undef = .pointer (some ⟨bM, 0, none⟩) := (hdep 74 (of_decide_eq_true (by kernel_rfl))).is 0 rfl
          have hmk := fun (x : Value) (W : World) => SlotG.mk (x := x) (w := W) 1 rfl hGN
          clear hGN ha hdep
          have y : w'.cell? ⟨bM, 0, none⟩ = some (.slice (some ⟨gq, 0, none⟩) ps.length c3) := (rM.below hb rM.lt).cell 0
          go_simp
          exact ⟨_, rfl, Below.refl _ _, hmk _ _ rfl⟩
        · intro a' w' hb ha hdep
          have d7 : a'.tmps.getD 7 undef = .pointer (some ⟨bL, 0, none⟩) := ha.at 7 (by kernel_rfl)
          have hmk := fun (x : Value) (W : World) => SlotG.mk (x := x) (w := W) 2 rfl hGN
          clear hGN ha hdep
          go_simp
          exact ⟨_, rfl, Below.refl _ _, hmk _ _ rfl⟩
        · intro a' w' hb ha hdep
          have d76 : a'.tmps.getD 76 undef = .pointer (some ⟨bL, 2, none⟩) := (hdep 76 (of_decide_eq_true (by kernel_rfl))).is 2 rfl
          have hmk := fun (x : Value) (W : World) => SlotG.mk (x := x) (w := W) 3 rfl hGN
          clear hGN ha hdep
          have y : w'.cell? ⟨bL, 2, none⟩ = some (.int .i64 (s : Int)) := (rL.below hb rL.lt).cell 2
          go_simp
          exact ⟨_, rfl, Below.refl _ _, hmk _ _ rfl⟩
        · intro a' w' hb ha hdep
          have d75 : a'.tmps.getD 75 undef = .slice (some ⟨gq, 0, none⟩) ps.length c3 := (hdep 75 (of_decide_eq_true (by kernel_rfl))).is 1 rfl
          have d77 : a'.tmps.getD 77 undef = .int .i64 (s : Int) := (hdep 77 (of_decide_eq_true (by kernel_rfl))).is 3 rfl
          have hmk := fun (x : Value) (W : World) => SlotG.mk (x := x) (w := W) 4 rfl hGN
          clear hGN ha hdep
          obtain ⟨drn, dr⟩ := HN.out.2.1
          go_simp
          exact ⟨_, rfl, Below.refl _ _, hmk _ _ rfl⟩
        · intro a' w' hb ha hdep
          have d78 : a'.tmps.getD 78 undef = .pointer (some ⟨gq, s * 3, none⟩) := (hdep 78 (of_decide_eq_true (by kernel_rfl))).is 4 rfl
          have hmk := fun (x : Value) (W : World) => SlotG.mk (x := x) (w := W) 5 rfl hGN
          clear hGN ha hdep
          have v0 : w'.cell? ⟨gq, s * 3, none⟩ = some (.slice zx zis.length zc) := by rw [hb.cell (p := ⟨gq, s * 3, none⟩) hgq]; exact i0
          have v1 : w'.cell? ⟨gq, s * 3 + 1, none⟩ = some (.slice zy zrs.length zd) := by rw [hb.cell (p := ⟨gq, s * 3 + 1, none⟩) hgq]; exact i1
          have v2 : w'.cell? ⟨gq, s * 3 + 2, none⟩ = some (.int .i64 znw) := by rw [hb.cell (p := ⟨gq, s * 3 + 2, none⟩) hgq]; exact i2
          go_simp
          exact ⟨_, rfl, Below.refl _ _, hmk _ _ rfl⟩
        · intro a' w' hb ha hdep
          have d7 : a'.tmps.getD 7 undef = .pointer (some ⟨bL, 0, none⟩) := ha.at 7 (by kernel_rfl)
          have hmk := fun (x : Value) (W : World) => SlotG.mk (x := x) (w := W) 6 rfl hGN
          clear hGN ha hdep
          go_simp
          exact ⟨_, rfl, Below.refl _ _, hmk _ _ rfl⟩
        · intro a' w' hb ha hdep
          have d80 : a'.tmps.getD 80 undef = .pointer (some ⟨bL, 3, none⟩) := (hdep 80 (of_decide_eq_true (by kernel_rfl))).is 6 rfl
          have hmk := fun (x : Value) (W : World) => SlotG.mk (x := x) (w := W) 7 rfl hGN
          clear hGN ha hdep
          have y : w'.cell? ⟨bL, 3, none⟩ = some (.int .i64 (j : Int)) := (rL.below hb rL.lt).cell 3
          go_simp
          exact ⟨_, rfl, Below.refl _ _, hmk _ _ rfl⟩
        · intro a' w' hb ha hdep
          have d79 : a'.tmps.getD 79 undef = .agg #[.slice zx zis.length zc, .slice zy zrs.length zd, .int .i64 znw] := (hdep 79 (of_decide_eq_true (by kernel_rfl))).is 5 rfl
          have d81 : a'.tmps.getD 81 undef = .int .i64 (j : Int) := (hdep 81 (of_decide_eq_true (by kernel_rfl))).is 7 rfl
          have hmk := fun (x : Value) (W : World) => SlotG.mk (x := x) (w := W) 8 rfl hGN
          clear hGN ha hdep
          go_simp
          refine (HDD.out _ (oiv.below hb)).mono ?_
          rintro e w2 ⟨⟨v_, rfl, x_, c_, y_, d_, rfl, o1, o2⟩, hb2⟩
          exact ⟨_, rfl, hb2, hmk _ _ ⟨x_, c_, y_, d_, rfl, owns_mono o1 hb.size, owns_mono o2 hb.size⟩⟩
        · intro a' w' hb ha hdep
          have hmk := fun (x : Value) (W : World) => SlotG.mk (x := x) (w := W) 9 rfl hGN
          clear hGN ha hdep
          have hsz := hb.size
          go_simp
          exact ⟨_, rfl, ent_new0 _ _, hmk _ _ ⟨_, rfl, hsz, Row.new w' 63 [.slice none 0 0, .slice none 0 0, .int .i64 0, .int .i64 0]⟩⟩
      · intro a' w' hb ha hG
        clear hGN
        have D82 := (hG _ (List.mem_of_getElem? (i := 8) rfl) 82 rfl).get 8 rfl
        have D12 := (hG _ (List.mem_of_getElem? (i := 9) rfl) 12 rfl).get 9 rfl
        have d2 : a'.tmps.getD 2 undef = .bool false := ha.at 2 (by kernel_rfl)
        have d6 : a'.tmps.getD 6 undef = .pointer (some ⟨w.heap.size + 1, 0, none⟩) := ha.at 6 (by kernel_rfl)
        have d7 : a'.tmps.getD 7 undef = .pointer (some ⟨bL, 0, none⟩) := ha.at 7 (by kernel_rfl)
        have d10 : a'.tmps.getD 10 undef = .pointer (some ⟨bM, 0, none⟩) := ha.at 10 (by kernel_rfl)
        have d11 : a'.tmps.getD 11 undef = .pointer (some ⟨gY, 0, none⟩) := ha.at 11 (by kernel_rfl)
        have e2 : a' = ⟨#[a'.tmps.getD 0 undef, a'.tmps.getD 1 undef, a'.tmps.getD 2 undef, a'.tmps.getD 3 undef, a'.tmps.getD 4 undef, a'.tmps.getD 5 undef, a'.tmps.getD 6 undef, a'.tmps.getD 7 undef, a'.tmps.getD 8 undef, a'.tmps.getD 9 undef, a'.tmps.getD 10 undef, a'.tmps.getD 11 undef, a'.tmps.getD 12 undef, a'.tmps.getD 13 undef, a'.tmps.getD 14 undef, a'.tmps.getD 15 undef, a'.tmps.getD 16 undef, a'.tmps.getD 17 undef, a'.tmps.getD 18 undef, a'.tmps.getD 19 undef, a'.tmps.getD 20 undef, a'.tmps.getD 21 undef, a'.tmps.getD 22 undef, a'.tmps.getD 23 undef, a'.tmps.getD 24 undef, a'.tmps.getD 25 undef, a'.tmps.getD 26 undef, a'.tmps.getD 27 undef, a'.tmps.getD 28 undef, a'.tmps.getD 29 undef, a'.tmps.getD 30 undef, a'.tmps.getD 31 undef, a'.tmps.getD 32 undef, a'.tmps.getD 33 undef, a'.tmps.getD 34 undef, a'.tmps.getD 35 undef, a'.tmps.getD 36 undef, a'.tmps.getD 37 undef, a'.tmps.getD 38 undef, a'.tmps.getD 39 undef, a'.tmps.getD 40 undef, a'.tmps.getD 41 undef, a'.tmps.getD 42 undef, a'.tmps.getD 43 undef, a'.tmps.getD 44 undef, a'.tmps.getD 45 undef, a'.tmps.getD 46 undef, a'.tmps.getD 47 undef, a'.tmps.getD 48 undef, a'.tmps.getD 49 undef, a'.tmps.getD 50 undef, a'.tmps.getD 51 undef, a'.tmps.getD 52 undef, a'.tmps.getD 53 undef, a'.tmps.getD 54 undef, a'.tmps.getD 55 undef, a'.tmps.getD 56 undef, a'.tmps.getD 57 undef, a'.tmps.getD 58 undef, a'.tmps.getD 59 undef, a'.tmps.getD 60 undef, a'.tmps.getD 61 undef, a'.tmps.getD 62 undef, a'.tmps.getD 63 undef, a'.tmps.getD 64 undef, a'.tmps.getD 65 undef, a'.tmps.getD 66 undef, a'.tmps.getD 67 undef, a'.tmps.getD 68 undef, a'.tmps.getD 69 undef, a'.tmps.getD 70 undef, a'.tmps.getD 71 undef, a'.tmps.getD 72 undef, a'.tmps.getD 73 undef, a'.tmps.getD 74 undef, a'.tmps.getD 75 undef, a'.tmps.getD 76 undef, a'.tmps.getD 77 undef, a'.tmps.getD 78 undef, a'.tmps.getD 79 undef, a'.tmps.getD 80 undef, a'.tmps.getD 81 undef, a'.tmps.getD 82 undef, a'.tmps.getD 83 undef, a'.tmps.getD 84 undef, a'.tmps.getD 85 undef, a'.tmps.getD 86 undef, a'.tmps.getD 87 undef, a'.tmps.getD 88 undef, a'.tmps.getD 89 undef, a'.tmps.getD 90 undef, a'.tmps.getD 91 undef, a'.tmps.getD 92 undef, a'.tmps.getD 93 undef, a'.tmps.getD 94 undef, a'.tmps.getD 95 undef, a'.tmps.getD 96 undef, a'.tmps.getD 97 undef, a'.tmps.getD 98 undef, a'.tmps.getD 99 undef, a'.tmps.getD 100 undef, a'.tmps.getD 101 undef, a'.tmps.getD 102 undef, a'.tmps.getD 103 undef, a'.tmps.getD 104 undef, a'.tmps.getD 105 undef, a'.tmps.getD 106 undef, a'.tmps.getD 107 undef, a'.tmps.getD 108 undef, a'.tmps.getD 109 undef, a'.tmps.getD 110 undef, a'.tmps.getD 111 undef, a'.tmps.getD 112 undef, a'.tmps.getD 113 undef, a'.tmps.getD 114 undef, a'.tmps.getD 115 undef, a'.tmps.getD 116 undef, a'.tmps.getD 117 undef, a'.tmps.getD 118 undef, a'.tmps.getD 119 undef, a'.tmps.getD 120 undef, a'.tmps.getD 121 undef, a'.tmps.getD 122 undef, a'.tmps.getD 123 undef], []⟩ := by rw [← (show a'.defers = [] from ha.2.1)]; exact act_eq a' 124 ha.1
        rw [d2, d6, d7, d10, d11] at e2
        clear hG ha d2 d6 d7 d10 d11
        generalize a'.tmps.getD 0 undef = x0 at *
        generalize a'.tmps.getD 1 undef = x1 at *
        generalize a'.tmps.getD 3 undef = x3 at *
        generalize a'.tmps.getD 4 undef = x4 at *
        generalize a'.tmps.getD 5 undef = x5 at *
        generalize a'.tmps.getD 8 undef = x8 at *
        generalize a'.tmps.getD 9 undef = x9 at *
        generalize a'.tmps.getD 12 undef = x12 at *
        generalize a'.tmps.getD 13 undef = x13 at *
        generalize a'.tmps.getD 14 undef = x14 at *
        generalize a'.tmps.getD 15 undef = x15 at *
        generalize a'.tmps.getD 16 undef = x16 at *
        generalize a'.tmps.getD 17 undef = x17 at *
        generalize a'.tmps.getD 18 undef = x18 at *
        generalize a'.tmps.getD 19 undef = x19 at *
        generalize a'.tmps.getD 20 undef = x20 at *
        generalize a'.tmps.getD 21 undef = x21 at *
        generalize a'.tmps.getD 22 undef = x22 at *
        generalize a'.tmps.getD 23 undef = x23 at *
        generalize a'.tmps.getD 24 undef = x24 at *
        generalize a'.tmps.getD 25 undef = x25 at *
        generalize a'.tmps.getD 26 undef = x26 at *
        generalize a'.tmps.getD 27 undef = x27 at *
        generalize a'.tmps.getD 28 undef = x28 at *
        generalize a'.tmps.getD 29 undef = x29 at *
        generalize a'.tmps.getD 30 undef = x30 at *
        generalize a'.tmps.getD 31 undef = x31 at *
        generalize a'.tmps.getD 32 undef = x32 at *
        generalize a'.tmps.getD 33 undef = x33 at *
        generalize a'.tmps.getD 34 undef = x34 at *
        generalize a'.tmps.getD 35 undef = x35 at *
        generalize a'.tmps.getD 36 undef = x36 at *
        generalize a'.tmps.getD 37 undef = x37 at *
        generalize a'.tmps.getD 38 undef = x38 at *
        generalize a'.tmps.getD 39 undef = x39 at *
        generalize a'.tmps.getD 40 undef = x40 at *
        generalize a'.tmps.getD 41 undef = x41 at *
        generalize a'.tmps.getD 42 undef = x42 at *
        generalize a'.tmps.getD 43 undef = x43 at *
        generalize a'.tmps.getD 44 undef = x44 at *
        generalize a'.tmps.getD 45 undef = x45 at *
        generalize a'.tmps.getD 46 undef = x46 at *
        generalize a'.tmps.getD 47 undef = x47 at *
        generalize a'.tmps.getD 48 undef = x48 at *
        generalize a'.tmps.getD 49 undef = x49 at *
        generalize a'.tmps.getD 50 undef = x50 at *
        generalize a'.tmps.getD 51 undef = x51 at *
        generalize a'.tmps.getD 52 undef = x52 at *
        generalize a'.tmps.getD 53 undef = x53 at *
        generalize a'.tmps.getD 54 undef = x54 at *
        generalize a'.tmps.getD 55 undef = x55 at *
        generalize a'.tmps.getD 56 undef = x56 at *
        generalize a'.tmps.getD 57 undef = x57 at *
        generalize a'.tmps.getD 58 undef = x58 at *
        generalize a'.tmps.getD 59 undef = x59 at *
        generalize a'.tmps.getD 60 undef = x60 at *
        generalize a'.tmps.getD 61 undef = x61 at *
        generalize a'.tmps.getD 62 undef = x62 at *
        generalize a'.tmps.getD 63 undef = x63 at *
        generalize a'.tmps.getD 64 undef = x64 at *
        generalize a'.tmps.getD 65 undef = x65 at *
        generalize a'.tmps.getD 66 undef = x66 at *
        generalize a'.tmps.getD 67 undef = x67 at *
        generalize a'.tmps.getD 68 undef = x68 at *
        generalize a'.tmps.getD 69 undef = x69 at *
        generalize a'.tmps.getD 70 undef = x70 at *
        generalize a'.tmps.getD 71 undef = x71 at *
        generalize a'.tmps.getD 72 undef = x72 at *
        generalize a'.tmps.getD 73 undef = x73 at *
        generalize a'.tmps.getD 74 undef = x74 at *
        generalize a'.tmps.getD 75 undef = x75 at *
        generalize a'.tmps.getD 76 undef = x76 at *
        generalize a'.tmps.getD 77 undef = x77 at *
        generalize a'.tmps.getD 78 undef = x78 at *
        generalize a'.tmps.getD 79 undef = x79 at *
        generalize a'.tmps.getD 80 undef = x80 at *
        generalize a'.tmps.getD 81 undef = x81 at *
        generalize a'.tmps.getD 82 undef = x82 at *
        generalize a'.tmps.getD 83 undef = x83 at *
        generalize a'.tmps.getD 84 undef = x84 at *
        generalize a'.tmps.getD 85 undef = x85 at *
        generalize a'.tmps.getD 86 undef = x86 at *
        generalize a'.tmps.getD 87 undef = x87 at *
        generalize a'.tmps.getD 88 undef = x88 at *
        generalize a'.tmps.getD 89 undef = x89 at *
        generalize a'.tmps.getD 90 undef = x90 at *
        generalize a'.tmps.getD 91 undef = x91 at *
        generalize a'.tmps.getD 92 undef = x92 at *
        generalize a'.tmps.getD 93 undef = x93 at *
        generalize a'.tmps.getD 94 undef = x94 at *
        generalize a'.tmps.getD 95 undef = x95 at *
        generalize a'.tmps.getD 96 undef = x96 at *
        generalize a'.tmps.getD 97 undef = x97 at *
        generalize a'.tmps.getD 98 undef = x98 at *
        generalize a'.tmps.getD 99 undef = x99 at *
        generalize a'.tmps.getD 100 undef = x100 at *
        generalize a'.tmps.getD 101 undef = x101 at *
        generalize a'.tmps.getD 102 undef = x102 at *
        generalize a'.tmps.getD 103 undef = x103 at *
        generalize a'.tmps.getD 104 undef = x104 at *
        generalize a'.tmps.getD 105 undef = x105 at *
        generalize a'.tmps.getD 106 undef = x106 at *
        generalize a'.tmps.getD 107 undef = x107 at *
        generalize a'.tmps.getD 108 undef = x108 at *
        generalize a'.tmps.getD 109 undef = x109 at *
        generalize a'.tmps.getD 110 undef = x110 at *
        generalize a'.tmps.getD 111 undef = x111 at *
        generalize a'.tmps.getD 112 undef = x112 at *
        generalize a'.tmps.getD 113 undef = x113 at *
        generalize a'.tmps.getD 114 undef = x114 at *
        generalize a'.tmps.getD 115 undef = x115 at *
        generalize a'.tmps.getD 116 undef = x116 at *
        generalize a'.tmps.getD 117 undef = x117 at *
        generalize a'.tmps.getD 118 undef = x118 at *
        generalize a'.tmps.getD 119 undef = x119 at *
        generalize a'.tmps.getD 120 undef = x120 at *
        generalize a'.tmps.getD 121 undef = x121 at *
        generalize a'.tmps.getD 122 undef = x122 at *
        generalize a'.tmps.getD 123 undef = x123 at *
        subst e2
        simp only [List.drop_succ_cons, List.drop_zero]
        have hsz := hW.size
        obtain ⟨gZ, rfl, hgZ, rZ⟩ := D12
        have hgZ0 := hgZ
        have hgZ : we.heap.size ≤ gZ := Nat.le_trans hW.size hgZ
        obtain ⟨yx, yc, yy, yd, rfl, oyi, oyr⟩ := D82
        have rY := rY.below hb rY.lt
        have oki := owns_below oki hb
        have okr := owns_below okr hb
        have z0 : w'.cell? ⟨gZ, 0, none⟩ = some (.slice none 0 0) := rZ.cell 0
        have z1 : w'.cell? ⟨gZ, 1, none⟩ = some (.slice none 0 0) := rZ.cell 1
        have z2 : w'.cell? ⟨gZ, 2, none⟩ = some (.int .i64 0) := rZ.cell 2
        have z3 : w'.cell? ⟨gZ, 3, none⟩ = some (.int .i64 0) := rZ.cell 3
        have f0 : w'.frozen? ⟨gZ, 0, none⟩ = false := rZ.frozen 0
        have f1 : w'.frozen? ⟨gZ, 1, none⟩ = false := rZ.frozen 1
        have f2 : w'.frozen? ⟨gZ, 2, none⟩ = false := rZ.frozen 2
        have f3 : w'.frozen? ⟨gZ, 3, none⟩ = false := rZ.frozen 3
        have hko : ∀ b t l, b ≠ gZ → Row w' b t l → Row ((((w'.setCell ⟨gZ, 0, none⟩ (.slice yx yis.length yc)).setCell ⟨gZ, 1, none⟩ (.slice yy yrs.length yd)).setCell ⟨gZ, 2, none⟩ (.int .i64 ynw)).setCell ⟨gZ, 3, none⟩ (.int .i64 ycc)) b t l := fun b t l hne h => (((h.other 0 (.slice yx yis.length yc) hne).other 1 (.slice yy yrs.length yd) hne).other 2 (.int .i64 ynw) hne).other 3 (.int .i64 ycc) hne
        have hnew : gY < wf.heap.size ∧ wf.heap.size ≤ gZ := ⟨hYlt, hgZ0⟩
        have HYZ : Hid (gY ≠ gZ) := by show _ ≠ _; omega
        have HFG : Hid (wf.heap.size ≤ ((((w'.setCell ⟨gZ, 0, none⟩ (.slice yx yis.length yc)).setCell ⟨gZ, 1, none⟩ (.slice yy yrs.length yd)).setCell ⟨gZ, 2, none⟩ (.int .i64 ynw)).setCell ⟨gZ, 3, none⟩ (.int .i64 ycc)).heap.size) := by have := hb.size; show _ ≤ _; simp; omega
        have HE : Hid (Row ((((w'.setCell ⟨gZ, 0, none⟩ (.slice yx yis.length yc)).setCell ⟨gZ, 1, none⟩ (.slice yy yrs.length yd)).setCell ⟨gZ, 2, none⟩ (.int .i64 ynw)).setCell ⟨gZ, 3, none⟩ (.int .i64 ycc)) gZ 63 [.slice yx yis.length yc, .slice yy yrs.length yd, .int .i64 ynw, .int .i64 ycc] ∧ ((((w'.setCell ⟨gZ, 0, none⟩ (.slice yx yis.length yc)).setCell ⟨gZ, 1, none⟩ (.slice yy yrs.length yd)).setCell ⟨gZ, 2, none⟩ (.int .i64 ynw)).setCell ⟨gZ, 3, none⟩ (.int .i64 ycc)).ownsRow wf.heap.size 53 5 (.slice yx yis.length yc) yis.length (rowI yis) ∧ ((((w'.setCell ⟨gZ, 0, none⟩ (.slice yx yis.length yc)).setCell ⟨gZ, 1, none⟩ (.slice yy yrs.length yd)).setCell ⟨gZ, 2, none⟩ (.int .i64 ynw)).setCell ⟨gZ, 3, none⟩ (.int .i64 ycc)).ownsRow wf.heap.size 155 9 (.slice yy yrs.length yd) yrs.length (rowR yrs) ∧ Below we.heap.size we ((((w'.setCell ⟨gZ, 0, none⟩ (.slice yx yis.length yc)).setCell ⟨gZ, 1, none⟩ (.slice yy yrs.length yd)).setCell ⟨gZ, 2, none⟩ (.int .i64 ynw)).setCell ⟨gZ, 3, none⟩ (.int .i64 ycc)) ∧ Row ((((w'.setCell ⟨gZ, 0, none⟩ (.slice yx yis.length yc)).setCell ⟨gZ, 1, none⟩ (.slice yy yrs.length yd)).setCell ⟨gZ, 2, none⟩ (.int .i64 ynw)).setCell ⟨gZ, 3, none⟩ (.int .i64 ycc)) gY 63 [.slice kx kis.length kc, .slice ky krs.length kd, .int .i64 knw, .int .i64 kcc] ∧ ((((w'.setCell ⟨gZ, 0, none⟩ (.slice yx yis.length yc)).setCell ⟨gZ, 1, none⟩ (.slice yy yrs.length yd)).setCell ⟨gZ, 2, none⟩ (.int .i64 ynw)).setCell ⟨gZ, 3, none⟩ (.int .i64 ycc)).ownsRow we.heap.size 53 5 (.slice kx kis.length kc) kis.length (rowI kis) ∧ ((((w'.setCell ⟨gZ, 0, none⟩ (.slice yx yis.length yc)).setCell ⟨gZ, 1, none⟩ (.slice yy yrs.length yd)).setCell ⟨gZ, 2, none⟩ (.int .i64 ynw)).setCell ⟨gZ, 3, none⟩ (.int .i64 ycc)).ownsRow we.heap.size 155 9 (.slice ky krs.length kd) krs.length (rowR krs)) := ⟨((((rZ.set 0 (.slice yx yis.length yc)).set 1 (.slice yy yrs.length yd)).set 2 (.int .i64 ynw)).set 3 (.int .i64 ycc)), owns_kept oyi (fun b t l e h => hko b t l (fun e2 => by subst e2; exact owns_ne oyi rZ (by decide) e) h), owns_kept oyr (fun b t l e h => hko b t l (fun e2 => by subst e2; exact owns_ne oyr rZ (by decide) e) h), ((((((((hW.trans (hb.mono hW.size)).setCell (p := ⟨gZ, 0, none⟩) hgZ (.slice yx yis.length yc))).setCell (p := ⟨gZ, 1, none⟩) hgZ (.slice yy yrs.length yd))).setCell (p := ⟨gZ, 2, none⟩) hgZ (.int .i64 ynw))).setCell (p := ⟨gZ, 3, none⟩) hgZ (.int .i64 ycc)), hko _ _ _ (by have := hnew; omega) rY, owns_kept oki (fun b t l e h => hko b t l (fun e2 => by subst e2; exact owns_ne oki rZ (by decide) e) h), owns_kept okr (fun b t l e h => hko b t l (fun e2 => by subst e2; exact owns_ne okr rZ (by decide) e) h)⟩
        have hWW := HE.out.2.2.2.1.size
        clear hko hsz hb rM rL i0 i1 i2 oiv HDD rZ oyi oyr hW rY oki okr
        go_upto_region 16 with fail
        obtain ⟨rZ, oyi, oyr, hW, rY, oki, okr⟩ := HE.out
        clear HE z0 z1 z2 z3 f0 f1 f2 f3 hWW
        generalize ((((w'.setCell ⟨gZ, 0, none⟩ (.slice yx yis.length yc)).setCell ⟨gZ, 1, none⟩ (.slice yy yrs.length yd)).setCell ⟨gZ, 2, none⟩ (.int .i64 ynw)).setCell ⟨gZ, 3, none⟩ (.int .i64 ycc)) = wg at *
        have HNM : Hid (we.heap.size ≤ wf.heap.size) := HWF.out
        have HBB : Hid (w.heap.size ≤ we.heap.size ∧ w.heap.size ≤ wf.heap.size) := by have := HNM.out; have := HWE.out.2.2.2.2.size; exact ⟨this, by omega⟩
        have HB20 : Hid (wf.heap.size ≤ wg.heap.size) := HFG.out
        have HOLD : Hid (∀ j (hj : j < qs.length) b, qs[j].1.x = some ⟨b, 0, none⟩ ∨ qs[j].1.y = some ⟨b, 0, none⟩ → b < we.heap.size) := HWE.out.2.2.2.1.olds
        obtain ⟨rz, rL, rM, om, hBe⟩ := HWE.out
        replace rz := rz.below hW rz.lt
        replace rL := rL.below hW rL.lt
        replace rM := rM.below hW rM.lt
        replace om := om.below hW
        have hB := hBe.trans (hW.mono hBe.size)
        have HBN : Hid (w.heap.size ≤ we.heap.size ∧ w.heap.size ≤ wf.heap.size) := HBB.out
        clear hBe hW HWE
        have HBX0 : Hid (wf.heap.size ≤ wg.heap.size) := HB20.out
        have y3 : wg.cell? ⟨gY, 3, none⟩ = some (.int .i64 kcc) := rY.cell 3
        by_cases hc : kcc = 0
        case pos =>
          subst hc
          have d : ((0 : Int) == 0) = true := rfl
          obtain ⟨rest, hbq, hgq, hrq, i0, i1, i2, -⟩ := om.cells HLN.out HQa.out.choose HQa.out.choose_spec
          simp only at i0 i1 i2
          have f0 := hrq.frozen (r * 3)
          have f1 := hrq.frozen (r * 3 + 1)
          have f2 := hrq.frozen (r * 3 + 2)
          have b0 : wg.cell? ⟨bM, 0, none⟩ = some (.slice (some ⟨gq, 0, none⟩) ps.length c3) := rM.cell 0
          have b1 : wg.cell? ⟨bL, 0, none⟩ = some (.int .i64 (r : Int)) := rL.cell 0
          have y0 : wg.cell? ⟨gY, 0, none⟩ = some (.slice kx kis.length kc) := rY.cell 0
          have y1 : wg.cell? ⟨gY, 1, none⟩ = some (.slice ky krs.length kd) := rY.cell 1
          have y2 : wg.cell? ⟨gY, 2, none⟩ = some (.int .i64 knw) := rY.cell 2
          obtain ⟨drn, dr⟩ := HN.out.1
          have HX1 : Hid (∃ qs1, OwnMesh (putIv wg gq r ⟨kx, kc, ky, kd⟩ ⟨kis, krs, knw⟩) w.heap.size (some ⟨gq, 0, none⟩) ps.length c3 q2 ls.length d2 qs1 ls ∧ qs1.map (·.2) = turn1 (qs.map (·.2)) r (i : Int) false ∧ ps.length = qs1.length ∧ (∃ h : s < qs1.length, qs1[s] = (⟨zx, zc, zy, zd⟩, ⟨zis, zrs, znw⟩)) ∧ ∀ j (hj : j < qs1.length) b, qs1[j].1.x = some ⟨b, 0, none⟩ ∨ qs1[j].1.y = some ⟨b, 0, none⟩ → b < wf.heap.size) := step_hit (a := ⟨kx, kc, ky, kd⟩) (T := ⟨kis, krs, knw⟩) om HLN.out HQa.out (N := we.heap.size) (M := wf.heap.size) ⟨oki, okr⟩ (by have := HBN.out; omega) HTk.out HOLD.out HN.out.2.2 HQz.out HLY.out (by have := HNM.out; omega)
          have HSZ : Hid ((putIv wg gq r ⟨kx, kc, ky, kd⟩ ⟨kis, krs, knw⟩).heap.size = wg.heap.size) := putIv_size _ _ _ _ _
          have HE : Hid (Row (putIv wg gq r ⟨kx, kc, ky, kd⟩ ⟨kis, krs, knw⟩) (w.heap.size + 1) 28 [.slice none 0 0, .slice none 0 0, .int .i64 0] ∧ Row (putIv wg gq r ⟨kx, kc, ky, kd⟩ ⟨kis, krs, knw⟩) (bM) 26 [.slice (some ⟨gq, 0, none⟩) ps.length c3, .slice q2 ls.length d2] ∧ Row (putIv wg gq r ⟨kx, kc, ky, kd⟩ ⟨kis, krs, knw⟩) (bL) 56 [.int .i64 (r : Int), .int .i64 (i : Int), .int .i64 (s : Int), .int .i64 (j : Int)] ∧ Row (putIv wg gq r ⟨kx, kc, ky, kd⟩ ⟨kis, krs, knw⟩) (gZ) 63 [.slice yx yis.length yc, .slice yy yrs.length yd, .int .i64 ynw, .int .i64 ycc] ∧ (putIv wg gq r ⟨kx, kc, ky, kd⟩ ⟨kis, krs, knw⟩).ownsRow wf.heap.size 53 5 (.slice yx yis.length yc) yis.length (rowI yis) ∧ (putIv wg gq r ⟨kx, kc, ky, kd⟩ ⟨kis, krs, knw⟩).ownsRow wf.heap.size 155 9 (.slice yy yrs.length yd) yrs.length (rowR yrs) ∧ Below w.heap.size w (putIv wg gq r ⟨kx, kc, ky, kd⟩ ⟨kis, krs, knw⟩)) := ⟨putIv_other (a := ⟨kx, kc, ky, kd⟩) (T := ⟨kis, krs, knw⟩) rz (row_ne rz hrq (by decide)), putIv_other (a := ⟨kx, kc, ky, kd⟩) (T := ⟨kis, krs, knw⟩) rM (row_ne rM hrq (by decide)), putIv_other (a := ⟨kx, kc, ky, kd⟩) (T := ⟨kis, krs, knw⟩) rL (row_ne rL hrq (by decide)), putIv_other (a := ⟨kx, kc, ky, kd⟩) (T := ⟨kis, krs, knw⟩) rZ (row_ne rZ hrq (by decide)), owns_put oyi hrq (by decide) r ⟨kx, kc, ky, kd⟩ ⟨kis, krs, knw⟩, owns_put oyr hrq (by decide) r ⟨kx, kc, ky, kd⟩ ⟨kis, krs, knw⟩, putIv_below hB hbq r ⟨kx, kc, ky, kd⟩ ⟨kis, krs, knw⟩⟩
          clear hrq hbq rest rz rM rL rZ oyi oyr hB om
          go_upto_region 18 with fail
          rw [putIv_eq wg gq r kx kc ky kd kis krs knw]
          clear i0 f0 y0 i1 f1 y1 i2 f2 y2 y3 b0 b1 d drn dr
          generalize (putIv wg gq r ⟨kx, kc, ky, kd⟩ ⟨kis, krs, knw⟩) = X1 at *
          obtain ⟨rz, rM, rL, rZ, oyi, oyr, hB⟩ := HE.out
          clear HE
          obtain ⟨qs1, om1, hm1, hl1, hz1, hold1⟩ := HX1.out
          clear HX1
          have HL1 : Hid _ := hl1
          have HM1 : Hid _ := hm1
          clear hl1 hm1
          have HBX : Hid (wf.heap.size ≤ X1.heap.size) := by have e : X1.heap.size = _ := HSZ.out; show _ ≤ _; rw [e]; exact HBX0.out
          have HBW : Hid (wf.heap.size ≤ X1.heap.size) := by show _ ≤ _; exact HBX.out
          have y3 : X1.cell? ⟨gZ, 3, none⟩ = some (.int .i64 ycc) := rZ.cell 3
          by_cases hc : ycc = 0
          case pos =>
            subst hc
            have d : ((0 : Int) == 0) = true := rfl
            obtain ⟨rest, hbq, hgq, hrq, i0, i1, i2, -⟩ := om1.cells HL1.out hz1.choose hz1.choose_spec
            simp only at i0 i1 i2
            have f0 := hrq.frozen (s * 3)
            have f1 := hrq.frozen (s * 3 + 1)
            have f2 := hrq.frozen (s * 3 + 2)
            have b0 : X1.cell? ⟨bM, 0, none⟩ = some (.slice (some ⟨gq, 0, none⟩) ps.length c3) := rM.cell 0
            have b1 : X1.cell? ⟨bL, 2, none⟩ = some (.int .i64 (s : Int)) := rL.cell 2
            have y0 : X1.cell? ⟨gZ, 0, none⟩ = some (.slice yx yis.length yc) := rZ.cell 0
            have y1 : X1.cell? ⟨gZ, 1, none⟩ = some (.slice yy yrs.length yd) := rZ.cell 1
            have y2 : X1.cell? ⟨gZ, 2, none⟩ = some (.int .i64 ynw) := rZ.cell 2
            obtain ⟨drn, dr⟩ := HN.out.2.1
            have HX1 : Hid (∃ qs2, OwnMesh (putIv X1 gq s ⟨yx, yc, yy, yd⟩ ⟨yis, yrs, ynw⟩) w.heap.size (some ⟨gq, 0, none⟩) ps.length c3 q2 ls.length d2 qs2 ls ∧ qs2.map (·.2) = turn1 (qs1.map (·.2)) s (j : Int) false ∧ ps.length = qs2.length ∧ (∃ h : r < qs2.length, qs2[r] = qs1[r]'(by have := HN.out.1.1; have := HL1.out; omega)) ∧ ∀ j (hj : j < qs2.length) b, qs2[j].1.x = some ⟨b, 0, none⟩ ∨ qs2[j].1.y = some ⟨b, 0, none⟩ → b < X1.heap.size) := step_hit (a := ⟨yx, yc, yy, yd⟩) (T := ⟨yis, yrs, ynw⟩) om1 HL1.out hz1 (N := wf.heap.size) (M := X1.heap.size) ⟨oyi, oyr⟩ (by have := HBN.out; omega) HTy.out hold1 HN.out.2.2.symm ⟨by have := HN.out.1.1; have := HL1.out; omega, rfl⟩ (fun b hb => by rcases hb with e | e; exact owns_lt oyi b e; exact owns_lt oyr b e) (by have := HBW.out; omega)
            have HE : Hid (Row (putIv X1 gq s ⟨yx, yc, yy, yd⟩ ⟨yis, yrs, ynw⟩) (w.heap.size + 1) 28 [.slice none 0 0, .slice none 0 0, .int .i64 0] ∧ Row (putIv X1 gq s ⟨yx, yc, yy, yd⟩ ⟨yis, yrs, ynw⟩) (bM) 26 [.slice (some ⟨gq, 0, none⟩) ps.length c3, .slice q2 ls.length d2] ∧ Row (putIv X1 gq s ⟨yx, yc, yy, yd⟩ ⟨yis, yrs, ynw⟩) (bL) 56 [.int .i64 (r : Int), .int .i64 (i : Int), .int .i64 (s : Int), .int .i64 (j : Int)] ∧ Below w.heap.size w (putIv X1 gq s ⟨yx, yc, yy, yd⟩ ⟨yis, yrs, ynw⟩)) := ⟨putIv_other (a := ⟨yx, yc, yy, yd⟩) (T := ⟨yis, yrs, ynw⟩) rz (row_ne rz hrq (by decide)), putIv_other (a := ⟨yx, yc, yy, yd⟩) (T := ⟨yis, yrs, ynw⟩) rM (row_ne rM hrq (by decide)), putIv_other (a := ⟨yx, yc, yy, yd⟩) (T := ⟨yis, yrs, ynw⟩) rL (row_ne rL hrq (by decide)), putIv_below hB hbq s ⟨yx, yc, yy, yd⟩ ⟨yis, yrs, ynw⟩⟩
            clear hrq hbq rest rz rM rL hB om1
            go_upto_region 20 with fail
            rw [putIv_eq X1 gq s yx yc yy yd yis yrs ynw]
            clear i0 f0 y0 i1 f1 y1 i2 f2 y2 y3 b0 b1 d drn dr
            generalize (putIv X1 gq s ⟨yx, yc, yy, yd⟩ ⟨yis, yrs, ynw⟩) = X2 at *
            obtain ⟨rz, rM, rL, hB⟩ := HE.out
            clear HE
            obtain ⟨qs2, om2, hm2, hl2, hz2, hold2⟩ := HX1.out
            clear HX1
            have HL2 : Hid _ := hl2
            have HM2 : Hid _ := hm2
            clear hl2 hm2
            have z0 : X2.cell? ⟨w.heap.size + 1, 0, none⟩ = some (.slice none 0 0) := rz.cell 0
            have z1 : X2.cell? ⟨w.heap.size + 1, 1, none⟩ = some (.slice none 0 0) := rz.cell 1
            have z2 : X2.cell? ⟨w.heap.size + 1, 2, none⟩ = some (.int .i64 0) := rz.cell 2
            have f0 := rz.frozen 0
            have f1 := rz.frozen 1
            have f2 := rz.frozen 2
            have b0 : X2.cell? ⟨bM, 0, none⟩ = some (.slice (some ⟨gq, 0, none⟩) ps.length c3) := rM.cell 0
            have b1 : X2.cell? ⟨bM, 1, none⟩ = some (.slice q2 ls.length d2) := rM.cell 1
            have HE : Hid (Row (((X2.setCell ⟨w.heap.size + 1, 0, none⟩ (.slice (some ⟨gq, 0, none⟩) ps.length c3)).setCell ⟨w.heap.size + 1, 1, none⟩ (.slice q2 ls.length d2)).setCell ⟨w.heap.size + 1, 2, none⟩ (.int .i64 0)) (w.heap.size + 1) 28 [.slice (some ⟨gq, 0, none⟩) ps.length c3, .slice q2 ls.length d2, .int .i64 0] ∧ OwnMesh (((X2.setCell ⟨w.heap.size + 1, 0, none⟩ (.slice (some ⟨gq, 0, none⟩) ps.length c3)).setCell ⟨w.heap.size + 1, 1, none⟩ (.slice q2 ls.length d2)).setCell ⟨w.heap.size + 1, 2, none⟩ (.int .i64 0)) w.heap.size (some ⟨gq, 0, none⟩) ps.length c3 q2 ls.length d2 qs2 ls ∧ Below w.heap.size w (((X2.setCell ⟨w.heap.size + 1, 0, none⟩ (.slice (some ⟨gq, 0, none⟩) ps.length c3)).setCell ⟨w.heap.size + 1, 1, none⟩ (.slice q2 ls.length d2)).setCell ⟨w.heap.size + 1, 2, none⟩ (.int .i64 0))) := ⟨(((rz.set 0 (.slice (some ⟨gq, 0, none⟩) ps.length c3)).set 1 (.slice q2 ls.length d2)).set 2 (.int .i64 0)), om2.kept (fun b t l ht h => by
                have hne : b ≠ w.heap.size + 1 := row_ne h rz (by rcases ht with rfl | rfl | rfl | rfl <;> decide)
                exact (((h.other 0 (.slice (some ⟨gq, 0, none⟩) ps.length c3) hne).other 1 (.slice q2 ls.length d2) hne).other 2 (.int .i64 0) hne)), (((hB.setCell (p := ⟨w.heap.size + 1, 0, none⟩) (by show w.heap.size ≤ w.heap.size + 1; omega) (.slice (some ⟨gq, 0, none⟩) ps.length c3)).setCell (p := ⟨w.heap.size + 1, 1, none⟩) (by show w.heap.size ≤ w.heap.size + 1; omega) (.slice q2 ls.length d2)).setCell (p := ⟨w.heap.size + 1, 2, none⟩) (by show w.heap.size ≤ w.heap.size + 1; omega) (.int .i64 0))⟩
            have HO : Hid (RES = (0, qs2.map (·.2), ls) ∧ ps.length = qs2.length) := ⟨by rw [hR, HM2.out, HM1.out], HL2.out⟩
            clear rz rM rL hB om2 hR
            go_wp2_with fail
            obtain ⟨k1, k2, k3⟩ := HE.out
            clear HE z0 z1 z2 f0 f1 f2
            generalize (((X2.setCell ⟨w.heap.size + 1, 0, none⟩ (.slice (some ⟨gq, 0, none⟩) ps.length c3)).setCell ⟨w.heap.size + 1, 1, none⟩ (.slice q2 ls.length d2)).setCell ⟨w.heap.size + 1, 2, none⟩ (.int .i64 0)) = Y at *
            have e0 : Y.cell? ⟨w.heap.size + 1, 0, none⟩ = some (.slice (some ⟨gq, 0, none⟩) ps.length c3) := k1.cell 0
            have e1 : Y.cell? ⟨w.heap.size + 1, 1, none⟩ = some (.slice q2 ls.length d2) := k1.cell 1
            have e2 : Y.cell? ⟨w.heap.size + 1, 2, none⟩ = some (.int .i64 0) := k1.cell 2
            have hO : OutM w.heap.size RES (.returned (.agg #[.slice (some ⟨gq, 0, none⟩) ps.length c3, .slice q2 ls.length d2, .int .i64 0])) Y := by
              rw [HO.out.1]
              refine ⟨some ⟨gq, 0, none⟩, c3, q2, d2, qs2, ?_, rfl, ?_⟩
              · simp only [List.length_map]
                rw [← HO.out.2]
              · simp only [List.length_map]
                rw [← HO.out.2]
                exact k2
            exact bodyPost_ret (v := .agg #[.slice (some ⟨gq, 0, none⟩) ps.length c3, .slice q2 ls.length d2, .int .i64 0]) (by simp [results, Tryz.results50, go_sem, e0, e1, e2]) rfl ⟨hO, k3⟩
          case neg =>
            have d : (ycc == 0) = false := by simpa using hc
            have HX1 : Hid (∃ qs2, OwnMesh X1 w.heap.size (some ⟨gq, 0, none⟩) ps.length c3 q2 ls.length d2 qs2 ls ∧ qs2.map (·.2) = turn1 (qs1.map (·.2)) s (j : Int) false ∧ ps.length = qs2.length ∧ (∃ h : r < qs2.length, qs2[r] = qs1[r]'(by have := HN.out.1.1; have := HL1.out; omega)) ∧ ∀ j (hj : j < qs2.length) b, qs2[j].1.x = some ⟨b, 0, none⟩ ∨ qs2[j].1.y = some ⟨b, 0, none⟩ → b < X1.heap.size) := step_miss om1 HL1.out hz1 (N := wf.heap.size) (M := X1.heap.size) HTy.out hc hold1 ⟨by have := HN.out.1.1; have := HL1.out; omega, rfl⟩ (by have := HBW.out; omega)
            clear hc
            go_upto_region 20 with fail
            clear y3 d om1
            obtain ⟨qs2, om2, hm2, hl2, hz2, hold2⟩ := HX1.out
            clear HX1
            have HL2 : Hid _ := hl2
            have HM2 : Hid _ := hm2
            clear hl2 hm2
            have z0 : X1.cell? ⟨w.heap.size + 1, 0, none⟩ = some (.slice none 0 0) := rz.cell 0
            have z1 : X1.cell? ⟨w.heap.size + 1, 1, none⟩ = some (.slice none 0 0) := rz.cell 1
            have z2 : X1.cell? ⟨w.heap.size + 1, 2, none⟩ = some (.int .i64 0) := rz.cell 2
            have f0 := rz.frozen 0
            have f1 := rz.frozen 1
            have f2 := rz.frozen 2
            have b0 : X1.cell? ⟨bM, 0, none⟩ = some (.slice (some ⟨gq, 0, none⟩) ps.length c3) := rM.cell 0
            have b1 : X1.cell? ⟨bM, 1, none⟩ = some (.slice q2 ls.length d2) := rM.cell 1
            have HE : Hid (Row (((X1.setCell ⟨w.heap.size + 1, 0, none⟩ (.slice (some ⟨gq, 0, none⟩) ps.length c3)).setCell ⟨w.heap.size + 1, 1, none⟩ (.slice q2 ls.length d2)).setCell ⟨w.heap.size + 1, 2, none⟩ (.int .i64 0)) (w.heap.size + 1) 28 [.slice (some ⟨gq, 0, none⟩) ps.length c3, .slice q2 ls.length d2, .int .i64 0] ∧ OwnMesh (((X1.setCell ⟨w.heap.size + 1, 0, none⟩ (.slice (some ⟨gq, 0, none⟩) ps.length c3)).setCell ⟨w.heap.size + 1, 1, none⟩ (.slice q2 ls.length d2)).setCell ⟨w.heap.size + 1, 2, none⟩ (.int .i64 0)) w.heap.size (some ⟨gq, 0, none⟩) ps.length c3 q2 ls.length d2 qs2 ls ∧ Below w.heap.size w (((X1.setCell ⟨w.heap.size + 1, 0, none⟩ (.slice (some ⟨gq, 0, none⟩) ps.length c3)).setCell ⟨w.heap.size + 1, 1, none⟩ (.slice q2 ls.length d2)).setCell ⟨w.heap.size + 1, 2, none⟩ (.int .i64 0))) := ⟨(((rz.set 0 (.slice (some ⟨gq, 0, none⟩) ps.length c3)).set 1 (.slice q2 ls.length d2)).set 2 (.int .i64 0)), om2.kept (fun b t l ht h => by
                have hne : b ≠ w.heap.size + 1 := row_ne h rz (by rcases ht with rfl | rfl | rfl | rfl <;> decide)
                exact (((h.other 0 (.slice (some ⟨gq, 0, none⟩) ps.length c3) hne).other 1 (.slice q2 ls.length d2) hne).other 2 (.int .i64 0) hne)), (((hB.setCell (p := ⟨w.heap.size + 1, 0, none⟩) (by show w.heap.size ≤ w.heap.size + 1; omega) (.slice (some ⟨gq, 0, none⟩) ps.length c3)).setCell (p := ⟨w.heap.size + 1, 1, none⟩) (by show w.heap.size ≤ w.heap.size + 1; omega) (.slice q2 ls.length d2)).setCell (p := ⟨w.heap.size + 1, 2, none⟩) (by show w.heap.size ≤ w.heap.size + 1; omega) (.int .i64 0))⟩
            have HO : Hid (RES = (0, qs2.map (·.2), ls) ∧ ps.length = qs2.length) := ⟨by rw [hR, HM2.out, HM1.out], HL2.out⟩
            clear rz rM rL hB om2 hR
            go_wp2_with fail
            obtain ⟨k1, k2, k3⟩ := HE.out
            clear HE z0 z1 z2 f0 f1 f2
            generalize (((X1.setCell ⟨w.heap.size + 1, 0, none⟩ (.slice (some ⟨gq, 0, none⟩) ps.length c3)).setCell ⟨w.heap.size + 1, 1, none⟩ (.slice q2 ls.length d2)).setCell ⟨w.heap.size + 1, 2, none⟩ (.int .i64 0)) = Y at *
            have e0 : Y.cell? ⟨w.heap.size + 1, 0, none⟩ = some (.slice (some ⟨gq, 0, none⟩) ps.length c3) := k1.cell 0
            have e1 : Y.cell? ⟨w.heap.size + 1, 1, none⟩ = some (.slice q2 ls.length d2) := k1.cell 1
            have e2 : Y.cell? ⟨w.heap.size + 1, 2, none⟩ = some (.int .i64 0) := k1.cell 2
            have hO : OutM w.heap.size RES (.returned (.agg #[.slice (some ⟨gq, 0, none⟩) ps.length c3, .slice q2 ls.length d2, .int .i64 0])) Y := by
              rw [HO.out.1]
              refine ⟨some ⟨gq, 0, none⟩, c3, q2, d2, qs2, ?_, rfl, ?_⟩
              · simp only [List.length_map]
                rw [← HO.out.2]
              · simp only [List.length_map]
                rw [← HO.out.2]
                exact k2
            exact bodyPost_ret (v := .agg #[.slice (some ⟨gq, 0, none⟩) ps.length c3, .slice q2 ls.length d2, .int .i64 0]) (by simp [results, Tryz.results50, go_sem, e0, e1, e2]) rfl ⟨hO, k3⟩
        case neg =>
          have d : (kcc == 0) = false := by simpa using hc
          have HX1 : Hid (∃ qs1, OwnMesh wg w.heap.size (some ⟨gq, 0, none⟩) ps.length c3 q2 ls.length d2 qs1 ls ∧ qs1.map (·.2) = turn1 (qs.map (·.2)) r (i : Int) false ∧ ps.length = qs1.length ∧ (∃ h : s < qs1.length, qs1[s] = (⟨zx, zc, zy, zd⟩, ⟨zis, zrs, znw⟩)) ∧ ∀ j (hj : j < qs1.length) b, qs1[j].1.x = some ⟨b, 0, none⟩ ∨ qs1[j].1.y = some ⟨b, 0, none⟩ → b < wf.heap.size) := step_miss om HLN.out HQa.out (N := we.heap.size) (M := wf.heap.size) HTk.out hc HOLD.out HQz.out (by have := HNM.out; omega)
          clear hc
          go_upto_region 18 with fail
          clear y3 d om
          obtain ⟨qs1, om1, hm1, hl1, hz1, hold1⟩ := HX1.out
          clear HX1
          have HL1 : Hid _ := hl1
          have HM1 : Hid _ := hm1
          clear hl1 hm1
          have HBX : Hid (wf.heap.size ≤ wg.heap.size) := HBX0.out
          have HBW : Hid (wf.heap.size ≤ wg.heap.size) := by show _ ≤ _; exact HBX.out
          have y3 : wg.cell? ⟨gZ, 3, none⟩ = some (.int .i64 ycc) := rZ.cell 3
          by_cases hc : ycc = 0
          case pos =>
            subst hc
            have d : ((0 : Int) == 0) = true := rfl
            obtain ⟨rest, hbq, hgq, hrq, i0, i1, i2, -⟩ := om1.cells HL1.out hz1.choose hz1.choose_spec
            simp only at i0 i1 i2
            have f0 := hrq.frozen (s * 3)
            have f1 := hrq.frozen (s * 3 + 1)
            have f2 := hrq.frozen (s * 3 + 2)
            have b0 : wg.cell? ⟨bM, 0, none⟩ = some (.slice (some ⟨gq, 0, none⟩) ps.length c3) := rM.cell 0
            have b1 : wg.cell? ⟨bL, 2, none⟩ = some (.int .i64 (s : Int)) := rL.cell 2
            have y0 : wg.cell? ⟨gZ, 0, none⟩ = some (.slice yx yis.length yc) := rZ.cell 0
            have y1 : wg.cell? ⟨gZ, 1, none⟩ = some (.slice yy yrs.length yd) := rZ.cell 1
            have y2 : wg.cell? ⟨gZ, 2, none⟩ = some (.int .i64 ynw) := rZ.cell 2
            obtain ⟨drn, dr⟩ := HN.out.2.1
            have HX1 : Hid (∃ qs2, OwnMesh (putIv wg gq s ⟨yx, yc, yy, yd⟩ ⟨yis, yrs, ynw⟩) w.heap.size (some ⟨gq, 0, none⟩) ps.length c3 q2 ls.length d2 qs2 ls ∧ qs2.map (·.2) = turn1 (qs1.map (·.2)) s (j : Int) false ∧ ps.length = qs2.length ∧ (∃ h : r < qs2.length, qs2[r] = qs1[r]'(by have := HN.out.1.1; have := HL1.out; omega)) ∧ ∀ j (hj : j < qs2.length) b, qs2[j].1.x = some ⟨b, 0, none⟩ ∨ qs2[j].1.y = some ⟨b, 0, none⟩ → b < wg.heap.size) := step_hit (a := ⟨yx, yc, yy, yd⟩) (T := ⟨yis, yrs, ynw⟩) om1 HL1.out hz1 (N := wf.heap.size) (M := wg.heap.size) ⟨oyi, oyr⟩ (by have := HBN.out; omega) HTy.out hold1 HN.out.2.2.symm ⟨by have := HN.out.1.1; have := HL1.out; omega, rfl⟩ (fun b hb => by rcases hb with e | e; exact owns_lt oyi b e; exact owns_lt oyr b e) (by have := HBW.out; omega)
            have HE : Hid (Row (putIv wg gq s ⟨yx, yc, yy, yd⟩ ⟨yis, yrs, ynw⟩) (w.heap.size + 1) 28 [.slice none 0 0, .slice none 0 0, .int .i64 0] ∧ Row (putIv wg gq s ⟨yx, yc, yy, yd⟩ ⟨yis, yrs, ynw⟩) (bM) 26 [.slice (some ⟨gq, 0, none⟩) ps.length c3, .slice q2 ls.length d2] ∧ Row (putIv wg gq s ⟨yx, yc, yy, yd⟩ ⟨yis, yrs, ynw⟩) (bL) 56 [.int .i64 (r : Int), .int .i64 (i : Int), .int .i64 (s : Int), .int .i64 (j : Int)] ∧ Below w.heap.size w (putIv wg gq s ⟨yx, yc, yy, yd⟩ ⟨yis, yrs, ynw⟩)) := ⟨putIv_other (a := ⟨yx, yc, yy, yd⟩) (T := ⟨yis, yrs, ynw⟩) rz (row_ne rz hrq (by decide)), putIv_other (a := ⟨yx, yc, yy, yd⟩) (T := ⟨yis, yrs, ynw⟩) rM (row_ne rM hrq (by decide)), putIv_other (a := ⟨yx, yc, yy, yd⟩) (T := ⟨yis, yrs, ynw⟩) rL (row_ne rL hrq (by decide)), putIv_below hB hbq s ⟨yx, yc, yy, yd⟩ ⟨yis, yrs, ynw⟩⟩
            clear hrq hbq rest rz rM rL hB om1
            go_upto_region 20 with fail
            rw [putIv_eq wg gq s yx yc yy yd yis yrs ynw]
            clear i0 f0 y0 i1 f1 y1 i2 f2 y2 y3 b0 b1 d drn dr
            generalize (putIv wg gq s ⟨yx, yc, yy, yd⟩ ⟨yis, yrs, ynw⟩) = X2 at *
            obtain ⟨rz, rM, rL, hB⟩ := HE.out
            clear HE
            obtain ⟨qs2, om2, hm2, hl2, hz2, hold2⟩ := HX1.out
            clear HX1
            have HL2 : Hid _ := hl2
            have HM2 : Hid _ := hm2
            clear hl2 hm2
            have z0 : X2.cell? ⟨w.heap.size + 1, 0, none⟩ = some (.slice none 0 0) := rz.cell 0
            have z1 : X2.cell? ⟨w.heap.size + 1, 1, none⟩ = some (.slice none 0 0) := rz.cell 1
            have z2 : X2.cell? ⟨w.heap.size + 1, 2, none⟩ = some (.int .i64 0) := rz.cell 2
            have f0 := rz.frozen 0
            have f1 := rz.frozen 1
            have f2 := rz.frozen 2
            have b0 : X2.cell? ⟨bM, 0, none⟩ = some (.slice (some ⟨gq, 0, none⟩) ps.length c3) := rM.cell 0
            have b1 : X2.cell? ⟨bM, 1, none⟩ = some (.slice q2 ls.length d2) := rM.cell 1
            have HE : Hid (Row (((X2.setCell ⟨w.heap.size + 1, 0, none⟩ (.slice (some ⟨gq, 0, none⟩) ps.length c3)).setCell ⟨w.heap.size + 1, 1, none⟩ (.slice q2 ls.length d2)).setCell ⟨w.heap.size + 1, 2, none⟩ (.int .i64 0)) (w.heap.size + 1) 28 [.slice (some ⟨gq, 0, none⟩) ps.length c3, .slice q2 ls.length d2, .int .i64 0] ∧ OwnMesh (((X2.setCell ⟨w.heap.size + 1, 0, none⟩ (.slice (some ⟨gq, 0, none⟩) ps.length c3)).setCell ⟨w.heap.size + 1, 1, none⟩ (.slice q2 ls.length d2)).setCell ⟨w.heap.size + 1, 2, none⟩ (.int .i64 0)) w.heap.size (some ⟨gq, 0, none⟩) ps.length c3 q2 ls.length d2 qs2 ls ∧ Below w.heap.size w (((X2.setCell ⟨w.heap.size + 1, 0, none⟩ (.slice (some ⟨gq, 0, none⟩) ps.length c3)).setCell ⟨w.heap.size + 1, 1, none⟩ (.slice q2 ls.length d2)).setCell ⟨w.heap.size + 1, 2, none⟩ (.int .i64 0))) := ⟨(((rz.set 0 (.slice (some ⟨gq, 0, none⟩) ps.length c3)).set 1 (.slice q2 ls.length d2)).set 2 (.int .i64 0)), om2.kept (fun b t l ht h => by
                have hne : b ≠ w.heap.size + 1 := row_ne h rz (by rcases ht with rfl | rfl | rfl | rfl <;> decide)
                exact (((h.other 0 (.slice (some ⟨gq, 0, none⟩) ps.length c3) hne).other 1 (.slice q2 ls.length d2) hne).other 2 (.int .i64 0) hne)), (((hB.setCell (p := ⟨w.heap.size + 1, 0, none⟩) (by show w.heap.size ≤ w.heap.size + 1; omega) (.slice (some ⟨gq, 0, none⟩) ps.length c3)).setCell (p := ⟨w.heap.size + 1, 1, none⟩) (by show w.heap.size ≤ w.heap.size + 1; omega) (.slice q2 ls.length d2)).setCell (p := ⟨w.heap.size + 1, 2, none⟩) (by show w.heap.size ≤ w.heap.size + 1; omega) (.int .i64 0))⟩
            have HO : Hid (RES = (0, qs2.map (·.2), ls) ∧ ps.length = qs2.length) := ⟨by rw [hR, HM2.out, HM1.out], HL2.out⟩
            clear rz rM rL hB om2 hR
            go_wp2_with fail
            obtain ⟨k1, k2, k3⟩ := HE.out
            clear HE z0 z1 z2 f0 f1 f2
            generalize (((X2.setCell ⟨w.heap.size + 1, 0, none⟩ (.slice (some ⟨gq, 0, none⟩) ps.length c3)).setCell ⟨w.heap.size + 1, 1, none⟩ (.slice q2 ls.length d2)).setCell ⟨w.heap.size + 1, 2, none⟩ (.int .i64 0)) = Y at *
            have e0 : Y.cell? ⟨w.heap.size + 1, 0, none⟩ = some (.slice (some ⟨gq, 0, none⟩) ps.length c3) := k1.cell 0
            have e1 : Y.cell? ⟨w.heap.size + 1, 1, none⟩ = some (.slice q2 ls.length d2) := k1.cell 1
            have e2 : Y.cell? ⟨w.heap.size + 1, 2, none⟩ = some (.int .i64 0) := k1.cell 2
            have hO : OutM w.heap.size RES (.returned (.agg #[.slice (some ⟨gq, 0, none⟩) ps.length c3, .slice q2 ls.length d2, .int .i64 0])) Y := by
              rw [HO.out.1]
              refine ⟨some ⟨gq, 0, none⟩, c3, q2, d2, qs2, ?_, rfl, ?_⟩
              · simp only [List.length_map]
                rw [← HO.out.2]
              · simp only [List.length_map]
                rw [← HO.out.2]
                exact k2
            exact bodyPost_ret (v := .agg #[.slice (some ⟨gq, 0, none⟩) ps.length c3, .slice q2 ls.length d2, .int .i64 0]) (by simp [results, Tryz.results50, go_sem, e0, e1, e2]) rfl ⟨hO, k3⟩
          case neg =>
            have d : (ycc == 0) = false := by simpa using hc
            have HX1 : Hid (∃ qs2, OwnMesh wg w.heap.size (some ⟨gq, 0, none⟩) ps.length c3 q2 ls.length d2 qs2 ls ∧ qs2.map (·.2) = turn1 (qs1.map (·.2)) s (j : Int) false ∧ ps.length = qs2.length ∧ (∃ h : r < qs2.length, qs2[r] = qs1[r]'(by have := HN.out.1.1; have := HL1.out; omega)) ∧ ∀ j (hj : j < qs2.length) b, qs2[j].1.x = some ⟨b, 0, none⟩ ∨ qs2[j].1.y = some ⟨b, 0, none⟩ → b < wg.heap.size) := step_miss om1 HL1.out hz1 (N := wf.heap.size) (M := wg.heap.size) HTy.out hc hold1 ⟨by have := HN.out.1.1; have := HL1.out; omega, rfl⟩ (by have := HBW.out; omega)
            clear hc
            go_upto_region 20 with fail
            clear y3 d om1
            obtain ⟨qs2, om2, hm2, hl2, hz2, hold2⟩ := HX1.out
            clear HX1
            have HL2 : Hid _ := hl2
            have HM2 : Hid _ := hm2
            clear hl2 hm2
            have z0 : wg.cell? ⟨w.heap.size + 1, 0, none⟩ = some (.slice none 0 0) := rz.cell 0
            have z1 : wg.cell? ⟨w.heap.size + 1, 1, none⟩ = some (.slice none 0 0) := rz.cell 1
            have z2 : wg.cell? ⟨w.heap.size + 1, 2, none⟩ = some (.int .i64 0) := rz.cell 2
            have f0 := rz.frozen 0
            have f1 := rz.frozen 1
            have f2 := rz.frozen 2
            have b0 : wg.cell? ⟨bM, 0, none⟩ = some (.slice (some ⟨gq, 0, none⟩) ps.length c3) := rM.cell 0
            have b1 : wg.cell? ⟨bM, 1, none⟩ = some (.slice q2 ls.length d2) := rM.cell 1
            have HE : Hid (Row (((wg.setCell ⟨w.heap.size + 1, 0, none⟩ (.slice (some ⟨gq, 0, none⟩) ps.length c3)).setCell ⟨w.heap.size + 1, 1, none⟩ (.slice q2 ls.length d2)).setCell ⟨w.heap.size + 1, 2, none⟩ (.int .i64 0)) (w.heap.size + 1) 28 [.slice (some ⟨gq, 0, none⟩) ps.length c3, .slice q2 ls.length d2, .int .i64 0] ∧ OwnMesh (((wg.setCell ⟨w.heap.size + 1, 0, none⟩ (.slice (some ⟨gq, 0, none⟩) ps.length c3)).setCell ⟨w.heap.size + 1, 1, none⟩ (.slice q2 ls.length d2)).setCell ⟨w.heap.size + 1, 2, none⟩ (.int .i64 0)) w.heap.size (some ⟨gq, 0, none⟩) ps.length c3 q2 ls.length d2 qs2 ls ∧ Below w.heap.size w (((wg.setCell ⟨w.heap.size + 1, 0, none⟩ (.slice (some ⟨gq, 0, none⟩) ps.length c3)).setCell ⟨w.heap.size + 1, 1, none⟩ (.slice q2 ls.length d2)).setCell ⟨w.heap.size + 1, 2, none⟩ (.int .i64 0))) := ⟨(((rz.set 0 (.slice (some ⟨gq, 0, none⟩) ps.length c3)).set 1 (.slice q2 ls.length d2)).set 2 (.int .i64 0)), om2.kept (fun b t l ht h => by
                have hne : b ≠ w.heap.size + 1 := row_ne h rz (by rcases ht with rfl | rfl | rfl | rfl <;> decide)
                exact (((h.other 0 (.slice (some ⟨gq, 0, none⟩) ps.length c3) hne).other 1 (.slice q2 ls.length d2) hne).other 2 (.int .i64 0) hne)), (((hB.setCell (p := ⟨w.heap.size + 1, 0, none⟩) (by show w.heap.size ≤ w.heap.size + 1; omega) (.slice (some ⟨gq, 0, none⟩) ps.length c3)).setCell (p := ⟨w.heap.size + 1, 1, none⟩) (by show w.heap.size ≤ w.heap.size + 1; omega) (.slice q2 ls.length d2)).setCell (p := ⟨w.heap.size + 1, 2, none⟩) (by show w.heap.size ≤ w.heap.size + 1; omega) (.int .i64 0))⟩
            have HO : Hid (RES = (0, qs2.map (·.2), ls) ∧ ps.length = qs2.length) := ⟨by rw [hR, HM2.out, HM1.out], HL2.out⟩
            clear rz rM rL hB om2 hR
            go_wp2_with fail
            obtain ⟨k1, k2, k3⟩ := HE.out
            clear HE z0 z1 z2 f0 f1 f2
            generalize (((wg.setCell ⟨w.heap.size + 1, 0, none⟩ (.slice (some ⟨gq, 0, none⟩) ps.length c3)).setCell ⟨w.heap.size + 1, 1, none⟩ (.slice q2 ls.length d2)).setCell ⟨w.heap.size + 1, 2, none⟩ (.int .i64 0)) = Y at *
            have e0 : Y.cell? ⟨w.heap.size + 1, 0, none⟩ = some (.slice (some ⟨gq, 0, none⟩) ps.length c3) := k1.cell 0
            have e1 : Y.cell? ⟨w.heap.size + 1, 1, none⟩ = some (.slice q2 ls.length d2) := k1.cell 1
            have e2 : Y.cell? ⟨w.heap.size + 1, 2, none⟩ = some (.int .i64 0) := k1.cell 2
            have hO : OutM w.heap.size RES (.returned (.agg #[.slice (some ⟨gq, 0, none⟩) ps.length c3, .slice q2 ls.length d2, .int .i64 0])) Y := by
              rw [HO.out.1]
              refine ⟨some ⟨gq, 0, none⟩, c3, q2, d2, qs2, ?_, rfl, ?_⟩
              · simp only [List.length_map]
                rw [← HO.out.2]
              · simp only [List.length_map]
                rw [← HO.out.2]
                exact k2
            exact bodyPost_ret (v := .agg #[.slice (some ⟨gq, 0, none⟩) ps.length c3, .slice q2 ls.length d2, .int .i64 0]) (by simp [results, Tryz.results50, go_sem, e0, e1, e2]) rfl ⟨hO, k3⟩
  rw [hU1, hU2, Bool.and_true, if_pos rfl] at hR
  clear rL HN
  go_wp2_with fail
  refine (l10Ill_any 10 _).mono ?_
  rintro e w2 ⟨rfl, hbx⟩
  replace rz := rz.below hbx rz.lt
  replace hB := hB.trans (hbx.mono hB.size)
  clear hbx
  have z0 : w2.cell? ⟨w.heap.size + 1, 0, none⟩ = some (.slice none 0 0) := rz.cell 0
  have z1 : w2.cell? ⟨w.heap.size + 1, 1, none⟩ = some (.slice none 0 0) := rz.cell 1
  have z2 : w2.cell? ⟨w.heap.size + 1, 2, none⟩ = some (.int .i64 0) := rz.cell 2
  have f0 := rz.frozen 0
  have f1 := rz.frozen 1
  have f2 := rz.frozen 2
  have HE : Hid (Row (((w2.setCell ⟨w.heap.size + 1, 0, none⟩ (.slice none 0 0)).setCell ⟨w.heap.size + 1, 1, none⟩ (.slice none 0 0)).setCell ⟨w.heap.size + 1, 2, none⟩ (.int .i64 10)) (w.heap.size + 1) 28 [.slice none 0 0, .slice none 0 0, .int .i64 10] ∧ Below w.heap.size w (((w2.setCell ⟨w.heap.size + 1, 0, none⟩ (.slice none 0 0)).setCell ⟨w.heap.size + 1, 1, none⟩ (.slice none 0 0)).setCell ⟨w.heap.size + 1, 2, none⟩ (.int .i64 10))) := ⟨((rz.set 0 (.slice none 0 0)).set 1 (.slice none 0 0)).set 2 (.int .i64 10), ((hB.setCell (p := ⟨w.heap.size + 1, 0, none⟩) (by show w.heap.size ≤ w.heap.size + 1; omega) (.slice none 0 0)).setCell (p := ⟨w.heap.size + 1, 1, none⟩) (by show w.heap.size ≤ w.heap.size + 1; omega) (.slice none 0 0)).setCell (p := ⟨w.heap.size + 1, 2, none⟩) (by show w.heap.size ≤ w.heap.size + 1; omega) (.int .i64 10)⟩
  clear HX HCP r0 HMB HM hU1 hU2 rz hB
  go_wp2_with fail
  obtain ⟨k1, k3⟩ := HE.out
  clear HE z0 z1 z2 f0 f1 f2
  generalize (((w2.setCell ⟨w.heap.size + 1, 0, none⟩ (.slice none 0 0)).setCell ⟨w.heap.size + 1, 1, none⟩ (.slice none 0 0)).setCell ⟨w.heap.size + 1, 2, none⟩ (.int .i64 10)) = Y at *
  have e0 : Y.cell? ⟨w.heap.size + 1, 0, none⟩ = some (.slice none 0 0) := k1.cell 0
  have e1 : Y.cell? ⟨w.heap.size + 1, 1, none⟩ = some (.slice none 0 0) := k1.cell 1
  have e2 : Y.cell? ⟨w.heap.size + 1, 2, none⟩ = some (.int .i64 10) := k1.cell 2
  exact bodyPost_ret (v := .agg #[.slice none 0 0, .slice none 0 0, .int .i64 10]) (by simp [results, Tryz.results50, go_sem, e0, e1, e2]) rfl ⟨by rw [hR]; exact outM_no _ _ _, k3⟩
end Go.Proofs.YtcnadobnihbldaaGreat
