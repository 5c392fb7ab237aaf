/- Texts that stand on each other, in one file: TurnI, MCutI, MStore. -/
import Derived.Test.YtcnadobnihbldaaGreatPack40
import Derived.Test.YtcnadobnihbldaaGreatPack19
import Derived.Test.YtcnadobnihbldaaGreatPack29
import Derived.Test.YtcnadobnihbldaaGreatPack17
/- A cut and a join, by the program. (Written by gen_turned.py.) -/
namespace Go.Proofs.YtcnadobnihbldaaGreat
open Go.RowKit Go.Sort

theorem mwk_ptr {w : World} {base g : Nat} {hs : List Nat} {qs : List IvP} {ls : List Li} (h : MwkAt w base g hs qs ls) {r : Nat} (hr : r < qs.length) : ∃ gp cr q d, Row w g 128 [.slice (some ⟨gp, 0, none⟩) hs.length cr, .slice q ls.length d] ∧ gp < w.heap.size ∧ ∃ hrh : r < hs.length, w.cell? ⟨gp, r, none⟩ = some (.pointer (some ⟨hs[r], 0, none⟩)) := by
  obtain ⟨pr, cr, q, d, hbg, rg, ho, hl, hR⟩ := h
  have hrh : r < hs.length := by have := hR.1; omega
  obtain ⟨gp, rfl, _, hlt, _, hc⟩ := owns_cell ho (by omega)
  refine ⟨gp, cr, q, d, rg, hlt, hrh, hc _ _ ?_⟩
  rw [List.getElem?_map, List.getElem?_eq_getElem hrh]
  rfl
theorem mwk_turn {base g : Nat} {hs : List Nat} {qs : List IvP} {ls : List Li} {W : World} (h : MwkAt W base g hs qs ls) {r : Nat} (hr : r < qs.length) (hrh : r < hs.length) (i : Int) (up : Bool) (hbs : base ≤ W.heap.size) (hn1 : qs[r].2.is.length ≤ 100000000) (hn2 : qs[r].2.rs.length ≤ 100000000) :
    Calls Tryz.prog 90 #[.pointer (some ⟨hs[r], 0, none⟩), .int .i64 i, .bool up] W fun e w' => (∃ v, e = .returned v) ∧ (∃ a', MwkAt w' base g hs (qs.set r (a', turnT qs[r].2 i up)) ls) ∧ Below base W w' ∧ ∀ b t l, t ≠ 131 → Row W b t l → Row w' b t l := by
  obtain ⟨hb, rr, oo⟩ : base ≤ hs[r] ∧ Row W hs[r] 131 (ivL qs[r].1 qs[r].2) ∧ OwnIv W base qs[r].1 qs[r].2 := by
    obtain ⟨_, _, _, _, _, _, _, _, _, _, _, k4⟩ := h
    exact k4 r hrh hr
  refine (turnR_any hs[r] base qs[r].1 qs[r].2 i up W rr oo hbs hn1 hn2).mono ?_
  rintro e w' ⟨hv, ⟨a', h1, h2, h3⟩, hb2, hk⟩
  exact ⟨hv, ⟨a', h.turned hr hrh h1 h2 h3 hk⟩, hb2.mono hb, fun b t l ht hrow => hk b t l (row_ne hrow rr ht) hrow⟩
set_option maxRecDepth 100000 in
set_option maxHeartbeats 4000000 in
theorem implTurned_any (p : Option Addr) (c1 : Nat) (ps : List IvP) (q : Option Addr) (c2 : Nat) (ls : List Li) (n : Int) (up : Bool) (w : World) (h : IvsIn w p ps) (hL : LisAt w q ls) (hq : q = none → c2 = 0) (hn : ps.length ≤ 100000000) (hl : ls.length ≤ 100000000) (hm : ∀ e ∈ ps, IvM e.1 e.2 ∧ (e.1.x = none → e.1.c1 = 0) ∧ (e.1.y = none → e.1.c2 = 0)) :
    Calls Tryz.prog 51 #[.agg #[.slice p ps.length c1, .slice q ls.length c2], .int .i64 n, .bool up] w fun e w' => OutM w.heap.size (turnMO (ps.map (·.2)) ls n up) e w' ∧ Below w.heap.size w w' := by
  have HMR : Hid (∀ w, IvsIn w p ps → LisAt w q ls → Calls Tryz.prog 41 #[.agg #[.slice p ps.length c1, .slice q ls.length c2]] w fun e w' => e = .returned (.bool (meshB (ps.map (·.2)) ls)) ∧ Below w.heap.size w w') := fun w a b => implMesh_any p c1 ps q c2 ls w a b (by omega) hl (fun e he => (hm e he).1)
  have HWK : Hid (meshB (ps.map (·.2)) ls = true → ∀ w, IvsIn w p ps → LisIn w q ls → Calls Tryz.prog 42 #[.agg #[.slice p ps.length c1, .slice q ls.length c2]] w fun e w' => (∃ g hs qs, e = .returned (.pointer (some ⟨g, 0, none⟩)) ∧ qs.map (·.2) = ps.map (·.2) ∧ MwkAt w' w.heap.size g hs qs ls) ∧ Below w.heap.size w w') := fun hm5 w a b => meshWork_any p c1 ps q c2 ls w a b hq (by have := (mesh_few hm5).2.1; rw [List.length_map] at this; omega) hl hm
  have HX : Hid (IvsIn w p ps ∧ LisAt w q ls) := ⟨h, hL⟩
  have HR : Hid (turnMO (ps.map (·.2)) ls n up = if meshB (ps.map (·.2)) ls = true then (if 0 ≤ n ∧ n < (ls.length : Int) then (if ((ifAtE (ps.map (·.2)) (ls[n.toNat]!.la, ls[n.toNat]!.lx)).u == up && (ifAtE (ps.map (·.2)) (ls[n.toNat]!.lb, ls[n.toNat]!.ly)).u == up) = true then ((10 : Int), [], []) else ((0 : Int), turn2 (ps.map (·.2)) ls[n.toNat]! up, ls)) else ((6 : Int), [], [])) else ((1 : Int), [], [])) := rfl
  generalize turnMO (ps.map (·.2)) ls n up = RES at *
  have r0 := (Row.new w 26 [.slice p ps.length c1, .slice q ls.length c2]).alloc (.cells #[.slice none 0 0, .slice none 0 0, .int .i64 0] 28)
  have rz := Row.new (w.alloc (.cells #[.slice p ps.length c1, .slice q ls.length c2] 26)) 28 [.slice none 0 0, .slice none 0 0, .int .i64 0]
  rw [show (w.alloc (.cells #[.slice p ps.length c1, .slice q ls.length c2] 26)).heap.size = w.heap.size + 1 by simp] at rz
  have hB : Below w.heap.size w ((w.alloc (.cells #[.slice p ps.length c1, .slice q ls.length c2] 26)).alloc (.cells #[.slice none 0 0, .slice none 0 0, .int .i64 0] 28)) := (ent_new0 w _).alloc (by simp) _
  have HQ : Hid _ := And.intro r0 (And.intro rz hB)
  clear h hL hq hm r0 rz hB
  go_enter Tryz.func51, Tryz.ntmps51
  go_wp2_with fail
  obtain ⟨r0, rz, hB⟩ := HQ.out
  clear HQ
  refine (HMR.out _ (HX.out.1.below hB) (HX.out.2.below hB)).mono ?_
  rintro e w1 ⟨rfl, hb1⟩
  replace r0 := r0.below hb1 r0.lt
  replace rz := rz.below hb1 rz.lt
  replace hB := hB.trans (hb1.mono hB.size)
  clear hb1 HMR
  have hR := HR.out
  clear HR
  cases hMB : meshB (ps.map (·.2)) ls
  · rw [hMB, if_neg Bool.false_ne_true] at hR
    have z0 : w1.cell? ⟨w.heap.size + 1, 0, none⟩ = some (.slice none 0 0) := rz.cell 0
    have z1 : w1.cell? ⟨w.heap.size + 1, 1, none⟩ = some (.slice none 0 0) := rz.cell 1
    have z2 : w1.cell? ⟨w.heap.size + 1, 2, none⟩ = some (.int .i64 0) := rz.cell 2
    have f0 := rz.frozen 0
    have f1 := rz.frozen 1
    have f2 := rz.frozen 2
    have HE : Hid (Row (((w1.setCell ⟨w.heap.size + 1, 0, none⟩ (.slice none 0 0)).setCell ⟨w.heap.size + 1, 1, none⟩ (.slice none 0 0)).setCell ⟨w.heap.size + 1, 2, none⟩ (.int .i64 1)) (w.heap.size + 1) 28 [.slice none 0 0, .slice none 0 0, .int .i64 1] ∧ Below w.heap.size w (((w1.setCell ⟨w.heap.size + 1, 0, none⟩ (.slice none 0 0)).setCell ⟨w.heap.size + 1, 1, none⟩ (.slice none 0 0)).setCell ⟨w.heap.size + 1, 2, none⟩ (.int .i64 1))) := ⟨((rz.set 0 (.slice none 0 0)).set 1 (.slice none 0 0)).set 2 (.int .i64 1), ((hB.setCell (p := ⟨w.heap.size + 1, 0, none⟩) (by show w.heap.size ≤ w.heap.size + 1; omega) (.slice none 0 0)).setCell (p := ⟨w.heap.size + 1, 1, none⟩) (by show w.heap.size ≤ w.heap.size + 1; omega) (.slice none 0 0)).setCell (p := ⟨w.heap.size + 1, 2, none⟩) (by show w.heap.size ≤ w.heap.size + 1; omega) (.int .i64 1)⟩
    clear HX HWK r0 hMB rz hB
    go_wp2_with fail
    obtain ⟨k1, k3⟩ := HE.out
    clear HE z0 z1 z2 f0 f1 f2
    generalize (((w1.setCell ⟨w.heap.size + 1, 0, none⟩ (.slice none 0 0)).setCell ⟨w.heap.size + 1, 1, none⟩ (.slice none 0 0)).setCell ⟨w.heap.size + 1, 2, none⟩ (.int .i64 1)) = Y at *
    have e0 : Y.cell? ⟨w.heap.size + 1, 0, none⟩ = some (.slice none 0 0) := k1.cell 0
    have e1 : Y.cell? ⟨w.heap.size + 1, 1, none⟩ = some (.slice none 0 0) := k1.cell 1
    have e2 : Y.cell? ⟨w.heap.size + 1, 2, none⟩ = some (.int .i64 1) := k1.cell 2
    exact bodyPost_ret (v := .agg #[.slice none 0 0, .slice none 0 0, .int .i64 1]) (by simp [results, Tryz.results51, go_sem, e0, e1, e2]) rfl ⟨by rw [hR]; exact outM_no _ _ _, k3⟩
  rw [hMB, if_pos rfl] at hR
  have HMB : Hid _ := hMB
  clear hMB
  have s0 : w1.cell? ⟨w.heap.size, 0, none⟩ = some (.slice p ps.length c1) := r0.cell 0
  have s1 : w1.cell? ⟨w.heap.size, 1, none⟩ = some (.slice q ls.length c2) := r0.cell 1
  by_cases hn0 : 0 ≤ n ∧ n < (ls.length : Int)
  case neg =>
    rw [if_neg hn0] at hR
    by_cases hneg : n < 0
    · have d0 : decide (n < 0) = true := by simpa using hneg
      have z0 : w1.cell? ⟨w.heap.size + 1, 0, none⟩ = some (.slice none 0 0) := rz.cell 0
      have z1 : w1.cell? ⟨w.heap.size + 1, 1, none⟩ = some (.slice none 0 0) := rz.cell 1
      have z2 : w1.cell? ⟨w.heap.size + 1, 2, none⟩ = some (.int .i64 0) := rz.cell 2
      have f0 := rz.frozen 0
      have f1 := rz.frozen 1
      have f2 := rz.frozen 2
      have HE : Hid (Row (((w1.setCell ⟨w.heap.size + 1, 0, none⟩ (.slice none 0 0)).setCell ⟨w.heap.size + 1, 1, none⟩ (.slice none 0 0)).setCell ⟨w.heap.size + 1, 2, none⟩ (.int .i64 6)) (w.heap.size + 1) 28 [.slice none 0 0, .slice none 0 0, .int .i64 6] ∧ Below w.heap.size w (((w1.setCell ⟨w.heap.size + 1, 0, none⟩ (.slice none 0 0)).setCell ⟨w.heap.size + 1, 1, none⟩ (.slice none 0 0)).setCell ⟨w.heap.size + 1, 2, none⟩ (.int .i64 6))) := ⟨((rz.set 0 (.slice none 0 0)).set 1 (.slice none 0 0)).set 2 (.int .i64 6), ((hB.setCell (p := ⟨w.heap.size + 1, 0, none⟩) (by show w.heap.size ≤ w.heap.size + 1; omega) (.slice none 0 0)).setCell (p := ⟨w.heap.size + 1, 1, none⟩) (by show w.heap.size ≤ w.heap.size + 1; omega) (.slice none 0 0)).setCell (p := ⟨w.heap.size + 1, 2, none⟩) (by show w.heap.size ≤ w.heap.size + 1; omega) (.int .i64 6)⟩
      clear HX HWK r0 HMB s0 s1 hn0 hneg rz hB
      go_wp2_with fail
      obtain ⟨k1, k3⟩ := HE.out
      clear HE z0 z1 z2 f0 f1 f2
      generalize (((w1.setCell ⟨w.heap.size + 1, 0, none⟩ (.slice none 0 0)).setCell ⟨w.heap.size + 1, 1, none⟩ (.slice none 0 0)).setCell ⟨w.heap.size + 1, 2, none⟩ (.int .i64 6)) = Y at *
      have e0 : Y.cell? ⟨w.heap.size + 1, 0, none⟩ = some (.slice none 0 0) := k1.cell 0
      have e1 : Y.cell? ⟨w.heap.size + 1, 1, none⟩ = some (.slice none 0 0) := k1.cell 1
      have e2 : Y.cell? ⟨w.heap.size + 1, 2, none⟩ = some (.int .i64 6) := k1.cell 2
      exact bodyPost_ret (v := .agg #[.slice none 0 0, .slice none 0 0, .int .i64 6]) (by simp [results, Tryz.results51, go_sem, e0, e1, e2]) rfl ⟨by rw [hR]; exact outM_no _ _ _, k3⟩
    · have d0 : decide (n < 0) = false := by simpa using hneg
      have d1 : decide ((ls.length : Int) ≤ n) = true := by simp; omega
      have z0 : w1.cell? ⟨w.heap.size + 1, 0, none⟩ = some (.slice none 0 0) := rz.cell 0
      have z1 : w1.cell? ⟨w.heap.size + 1, 1, none⟩ = some (.slice none 0 0) := rz.cell 1
      have z2 : w1.cell? ⟨w.heap.size + 1, 2, none⟩ = some (.int .i64 0) := rz.cell 2
      have f0 := rz.frozen 0
      have f1 := rz.frozen 1
      have f2 := rz.frozen 2
      have HE : Hid (Row (((w1.setCell ⟨w.heap.size + 1, 0, none⟩ (.slice none 0 0)).setCell ⟨w.heap.size + 1, 1, none⟩ (.slice none 0 0)).setCell ⟨w.heap.size + 1, 2, none⟩ (.int .i64 6)) (w.heap.size + 1) 28 [.slice none 0 0, .slice none 0 0, .int .i64 6] ∧ Below w.heap.size w (((w1.setCell ⟨w.heap.size + 1, 0, none⟩ (.slice none 0 0)).setCell ⟨w.heap.size + 1, 1, none⟩ (.slice none 0 0)).setCell ⟨w.heap.size + 1, 2, none⟩ (.int .i64 6))) := ⟨((rz.set 0 (.slice none 0 0)).set 1 (.slice none 0 0)).set 2 (.int .i64 6), ((hB.setCell (p := ⟨w.heap.size + 1, 0, none⟩) (by show w.heap.size ≤ w.heap.size + 1; omega) (.slice none 0 0)).setCell (p := ⟨w.heap.size + 1, 1, none⟩) (by show w.heap.size ≤ w.heap.size + 1; omega) (.slice none 0 0)).setCell (p := ⟨w.heap.size + 1, 2, none⟩) (by show w.heap.size ≤ w.heap.size + 1; omega) (.int .i64 6)⟩
      clear HX HWK r0 HMB hn0 hneg rz hB
      go_wp2_with fail
      obtain ⟨k1, k3⟩ := HE.out
      clear HE z0 z1 z2 f0 f1 f2
      generalize (((w1.setCell ⟨w.heap.size + 1, 0, none⟩ (.slice none 0 0)).setCell ⟨w.heap.size + 1, 1, none⟩ (.slice none 0 0)).setCell ⟨w.heap.size + 1, 2, none⟩ (.int .i64 6)) = Y at *
      have e0 : Y.cell? ⟨w.heap.size + 1, 0, none⟩ = some (.slice none 0 0) := k1.cell 0
      have e1 : Y.cell? ⟨w.heap.size + 1, 1, none⟩ = some (.slice none 0 0) := k1.cell 1
      have e2 : Y.cell? ⟨w.heap.size + 1, 2, none⟩ = some (.int .i64 6) := k1.cell 2
      exact bodyPost_ret (v := .agg #[.slice none 0 0, .slice none 0 0, .int .i64 6]) (by simp [results, Tryz.results51, go_sem, e0, e1, e2]) rfl ⟨by rw [hR]; exact outM_no _ _ _, k3⟩
  rw [if_pos hn0] at hR
  obtain ⟨m, rfl⟩ : ∃ m : Nat, n = (m : Int) := ⟨n.toNat, by omega⟩
  have hm2 : m < ls.length := by omega
  have d0 : decide ((m : Int) < 0) = false := decide_eq_false (by omega)
  have d1 : decide ((ls.length : Int) ≤ (m : Int)) = false := decide_eq_false (by omega)
  have d1n : decide (ls.length ≤ m) = false := decide_eq_false (by omega)
  have HN2 : Hid (m < ls.length) := hm2
  clear hn0
  go_wp2_with fail
  clear s0 s1 d0 d1 d1n
  have hn5 : ps.length ≤ 100000 := by have := (mesh_few HMB.out).2.1; rw [List.length_map] at this; omega
  refine (HWK.out HMB.out _ (HX.out.1.below hB) ((HX.out.2.lisIn).below hB)).mono ?_
  rintro e w2 ⟨⟨g, hs, qs, rfl, hqm, hK⟩, hb2⟩
  replace rz := rz.below hb2 rz.lt
  have hbase := hB.size
  replace hB := hB.trans (hb2.mono hB.size)
  clear hb2 HWK r0 HX
  obtain ⟨r, i, s, j, hw⟩ := wok_of HMB.out (show wayAB ls[m] ∈ wayL ls from List.mem_of_getElem? (wayL_at0 ls m hm2))
  have he := hw.eq
  unfold wayAB at he
  simp only [Prod.mk.injEq] at he
  obtain ⟨⟨ea, ex⟩, eb, ey⟩ := he
  have hx : ls[m] = (⟨(r : Int), (i : Int), (s : Int), (j : Int)⟩ : Li) := by
    generalize ls[m] = X at ea ex eb ey ⊢
    obtain ⟨x1, x2, x3, x4⟩ := X
    simp only at ea ex eb ey
    rw [ea, ex, eb, ey]
  have hx2 : ls[(m : Int).toNat]! = (⟨(r : Int), (i : Int), (s : Int), (j : Int)⟩ : Li) := by rw [Int.toNat_natCast, getElem!_pos ls m hm2]; exact hx
  rw [hx2] at hR
  clear hx2
  simp only [turn2, Int.toNat_natCast] at hR
  have hlen : qs.length = ps.length := by simpa using congrArg List.length hqm
  have hrq : r < qs.length := by have := hw.hr; rw [List.length_map] at this; omega
  have hsq : s < qs.length := by have := hw.hs; rw [List.length_map] at this; omega
  have hir := hw.hi
  have hjs := hw.hj
  rw [← hqm, map_at hrq] at hir
  rw [← hqm, map_at hsq] at hjs
  have hrs := hw.ne
  have HBd : Hid (∀ k (hk : k < qs.length), qs[k].2.is.length ≤ 100000000 ∧ qs[k].2.rs.length ≤ 100000000) := fun k hk => by
    have hk2 : k < (ps.map (·.2)).length := by rw [List.length_map]; omega
    have := router_right HMB.out hk2
    rw [show (ps.map (·.2))[k] = qs[k].2 by rw [← getElem!_pos (ps.map (·.2)) k hk2, ← hqm, map_at hk]] at this
    unfold ivB instB at this
    simp only [Bool.and_eq_true] at this
    have h1 := this.1
    have h2 := (ribB_spec this.2.1).1
    unfold ifsB at h1
    simp only [Bool.and_eq_true, decide_eq_true_eq] at h1
    omega
  have u1 : (ifAtE (ps.map (·.2)) ((r : Int), (i : Int))).u = qs[r].2.is[i].u := by unfold ifAtE; simp only [Int.toNat_natCast]; rw [← hqm, map_at hrq, getElem!_pos _ i hir]
  have u2 : (ifAtE (ps.map (·.2)) ((s : Int), (j : Int))).u = qs[s].2.is[j].u := by unfold ifAtE; simp only [Int.toNat_natCast]; rw [← hqm, map_at hsq, getElem!_pos _ j hjs]
  rw [u1, u2, ← hqm] at hR
  have HAA : Hid (∀ W, MwkAt W w1.heap.size g hs qs ls → Calls Tryz.prog 89 #[.pointer (some ⟨g, 0, none⟩), .agg #[.int .i64 (r : Int), .int .i64 (i : Int), .int .i64 (s : Int), .int .i64 (j : Int)], .bool up] W fun e w' => e = .returned (.bool ((qs[r].2.is[i].u == up) && (qs[s].2.is[j].u == up))) ∧ Below W.heap.size W w') := fun W h => allAre_any w1.heap.size g hs qs ls r i s j up W h hrq hir hsq hjs
  have HEE : Hid (∀ W, Calls Tryz.prog 88 #[.agg #[.int .i64 (r : Int), .int .i64 (i : Int), .int .i64 (s : Int), .int .i64 (j : Int)]] W fun e w' => e = .returned (.agg #[.int .i64 (r : Int), .int .i64 (i : Int), .int .i64 (s : Int), .int .i64 (j : Int)]) ∧ Below W.heap.size W w') := fun W => endsOf_any ⟨(r : Int), (i : Int), (s : Int), (j : Int)⟩ W
  clear u1 u2 hw hqm
  generalize hUU : ((qs[r].2.is[i].u == up) && (qs[s].2.is[j].u == up)) = UU at *
  clear hUU
  obtain ⟨pr, cr, ql, dl, -, rg, -, hol, -⟩ := (show MwkAt w2 w1.heap.size g hs qs ls from hK)
  obtain ⟨gl, la, lx, lb, ly, rfl, hgl, hek, c0, c1', c2', c3⟩ := (ownsLi_in rfl hol).at m hm2
  have hek := hx.symm.trans hek
  cases hek
  clear hx ea ex eb ey
  have g1 : w2.cell? ⟨g, 1, none⟩ = some (.slice (some ⟨gl, 0, none⟩) ls.length dl) := rg.cell 1
  have dm : decide ((m : Int) < (ls.length : Int)) = true := by simpa using hm2
  clear rg hol
  go_wp2_with fail
  clear c0 c1' c2' c3 g1 dm
  refine (HEE.out _).mono ?_
  rintro e w3 ⟨rfl, hb3⟩
  replace rz := rz.below hb3 rz.lt
  replace hK := hK.below hb3
  replace hB := hB.trans (hb3.mono hB.size)
  clear hb3 HEE
  have re := Row.new w3 146 [.int .i64 (r : Int), .int .i64 (i : Int), .int .i64 (s : Int), .int .i64 (j : Int)]
  have AL4 : Hid (Below w3.heap.size w3 (w3.alloc (.cells #[.int .i64 (r : Int), .int .i64 (i : Int), .int .i64 (s : Int), .int .i64 (j : Int)] 146))) := ent_new0 _ _
  replace rz := rz.below AL4.out rz.lt
  replace hK := hK.below AL4.out
  replace hB := hB.trans (AL4.out.mono hB.size)
  have HP : Hid _ := And.intro rz (And.intro hK (And.intro hB re))
  have a0 : (w3.alloc (.cells #[.int .i64 (r : Int), .int .i64 (i : Int), .int .i64 (s : Int), .int .i64 (j : Int)] 146)).cell? ⟨w3.heap.size, 0, none⟩ = some (.int .i64 (r : Int)) := re.cell 0
  have a1 : (w3.alloc (.cells #[.int .i64 (r : Int), .int .i64 (i : Int), .int .i64 (s : Int), .int .i64 (j : Int)] 146)).cell? ⟨w3.heap.size, 1, none⟩ = some (.int .i64 (i : Int)) := re.cell 1
  have a2 : (w3.alloc (.cells #[.int .i64 (r : Int), .int .i64 (i : Int), .int .i64 (s : Int), .int .i64 (j : Int)] 146)).cell? ⟨w3.heap.size, 2, none⟩ = some (.int .i64 (s : Int)) := re.cell 2
  have a3 : (w3.alloc (.cells #[.int .i64 (r : Int), .int .i64 (i : Int), .int .i64 (s : Int), .int .i64 (j : Int)] 146)).cell? ⟨w3.heap.size, 3, none⟩ = some (.int .i64 (j : Int)) := re.cell 3
  clear rz hK hB re AL4
  go_wp2_with fail
  clear a0 a1 a2 a3
  obtain ⟨rz, hK, hB, re⟩ := HP.out
  clear HP
  generalize hb2 : w3.heap.size = b2 at *
  generalize w3.alloc (.cells #[.int .i64 (r : Int), .int .i64 (i : Int), .int .i64 (s : Int), .int .i64 (j : Int)] 146) = W3 at *
  clear hb2
  refine (HAA.out _ hK).mono ?_
  rintro e w4 ⟨rfl, hb4⟩
  replace rz := rz.below hb4 rz.lt
  replace re := re.below hb4 re.lt
  replace hK := hK.below hb4
  replace hB := hB.trans (hb4.mono hB.size)
  clear hb4 HAA
  cases UU
  case true =>
    rw [if_pos rfl] at hR
    have z0 : w4.cell? ⟨w.heap.size + 1, 0, none⟩ = some (.slice none 0 0) := rz.cell 0
    have z1 : w4.cell? ⟨w.heap.size + 1, 1, none⟩ = some (.slice none 0 0) := rz.cell 1
    have z2 : w4.cell? ⟨w.heap.size + 1, 2, none⟩ = some (.int .i64 0) := rz.cell 2
    have f0 := rz.frozen 0
    have f1 := rz.frozen 1
    have f2 := rz.frozen 2
    have HE : Hid (Row (((w4.setCell ⟨w.heap.size + 1, 0, none⟩ (.slice none 0 0)).setCell ⟨w.heap.size + 1, 1, none⟩ (.slice none 0 0)).setCell ⟨w.heap.size + 1, 2, none⟩ (.int .i64 10)) (w.heap.size + 1) 28 [.slice none 0 0, .slice none 0 0, .int .i64 10] ∧ Below w.heap.size w (((w4.setCell ⟨w.heap.size + 1, 0, none⟩ (.slice none 0 0)).setCell ⟨w.heap.size + 1, 1, none⟩ (.slice none 0 0)).setCell ⟨w.heap.size + 1, 2, none⟩ (.int .i64 10))) := ⟨((rz.set 0 (.slice none 0 0)).set 1 (.slice none 0 0)).set 2 (.int .i64 10), ((hB.setCell (p := ⟨w.heap.size + 1, 0, none⟩) (by show w.heap.size ≤ w.heap.size + 1; omega) (.slice none 0 0)).setCell (p := ⟨w.heap.size + 1, 1, none⟩) (by show w.heap.size ≤ w.heap.size + 1; omega) (.slice none 0 0)).setCell (p := ⟨w.heap.size + 1, 2, none⟩) (by show w.heap.size ≤ w.heap.size + 1; omega) (.int .i64 10)⟩
    clear HMB hK re HBd rz hB
    go_wp2_with fail
    obtain ⟨k1, k3⟩ := HE.out
    clear HE z0 z1 z2 f0 f1 f2
    generalize (((w4.setCell ⟨w.heap.size + 1, 0, none⟩ (.slice none 0 0)).setCell ⟨w.heap.size + 1, 1, none⟩ (.slice none 0 0)).setCell ⟨w.heap.size + 1, 2, none⟩ (.int .i64 10)) = Y at *
    have e0 : Y.cell? ⟨w.heap.size + 1, 0, none⟩ = some (.slice none 0 0) := k1.cell 0
    have e1 : Y.cell? ⟨w.heap.size + 1, 1, none⟩ = some (.slice none 0 0) := k1.cell 1
    have e2 : Y.cell? ⟨w.heap.size + 1, 2, none⟩ = some (.int .i64 10) := k1.cell 2
    exact bodyPost_ret (v := .agg #[.slice none 0 0, .slice none 0 0, .int .i64 10]) (by simp [results, Tryz.results51, go_sem, e0, e1, e2]) rfl ⟨by rw [hR]; exact outM_no _ _ _, k3⟩
  rw [if_neg Bool.false_ne_true] at hR
  have a0 : w4.cell? ⟨b2, 0, none⟩ = some (.int .i64 (r : Int)) := re.cell 0
  have a1 : w4.cell? ⟨b2, 1, none⟩ = some (.int .i64 (i : Int)) := re.cell 1
  have a2 : w4.cell? ⟨b2, 2, none⟩ = some (.int .i64 (s : Int)) := re.cell 2
  have a3 : w4.cell? ⟨b2, 3, none⟩ = some (.int .i64 (j : Int)) := re.cell 3
  have HW14 : Hid (w1.heap.size ≤ w4.heap.size) := by
    obtain ⟨_, _, _, _, _, hrow, _⟩ := (show MwkAt w4 w1.heap.size g hs qs ls from hK)
    have := hK
    obtain ⟨_, _, _, _, hbg, _⟩ := this
    have := hrow.lt
    show _ ≤ _
    omega
  have HP : Hid _ := And.intro rz (And.intro hK hB)
  clear rz hK hB re
  go_wp2_with fail
  clear a0 a1 a2 a3
  obtain ⟨rz, hK, hB⟩ := HP.out
  have HNE : Hid (r ≠ s) := hrs
  have HLQ : Hid (qs.length ≤ 100000) := by show _ ≤ _; omega
  have HRQ : Hid (r < qs.length) := hrq
  have HSQ : Hid (s < qs.length) := hsq
  have HBs : Hid (w.heap.size ≤ w1.heap.size) := hbase
  have hw14 : w1.heap.size ≤ w4.heap.size := HW14.out
  generalize hT1 : turn1 (qs.map (·.2)) r (i : Int) up = T1 at *
  generalize hT2 : turn1 T1 s (j : Int) up = T2 at *
  clear hrs hrq hsq hir hjs hlen
  go_loopw [41] (fun k wr => ∃ (n : Nat) (qs1 : List IvP), n ≤ 2 ∧ k = .int .i64 n ∧ (n = 0 → qs1.map (·.2) = qs.map (·.2)) ∧ (n = 1 → qs1.map (·.2) = T1) ∧ (n = 2 → qs1.map (·.2) = T2) ∧ MwkAt wr w1.heap.size g hs qs1 ls ∧ Row wr (w.heap.size + 1) 28 [.slice none 0 0, .slice none 0 0, .int .i64 0] ∧ Below w.heap.size w wr ∧ w1.heap.size ≤ wr.heap.size) (fun k _ => 2 - (intOf k).toNat)
  case atStart => exact ⟨0, qs, by omega, rfl, (fun _ => rfl), (fun e => absurd e (by omega)), (fun e => absurd e (by omega)), hK, rz, hB, hw14⟩
  case round =>
    clear HP rz hK hB hw14
    obtain ⟨n5, qs1, hn2, rfl, h0, h1, h2, hK, rz, hB, hS⟩ := hrel
    obtain rfl | rfl | rfl : n5 = 0 ∨ n5 = 1 ∨ n5 = 2 := by omega
    · rw [show ((0 : Nat) : Int) = 0 from rfl]
      subst hT2
      subst hT1
      have hT := h0 rfl
      clear h0 h1 h2
      have hl5 : qs1.length = qs.length := by have := congrArg List.length hT; simpa [turn1] using this
      have hq5 : r < qs1.length := by have := HRQ.out; omega
      have hq0 : r < qs.length := HRQ.out
      have hv5 : qs1[r].2 = qs[r].2 := by
        have e1 := map_at hq5
        rw [hT] at e1
        exact e1.symm.trans (map_at hq0)
      have HMT : Hid (∀ a6 : Ip, (qs1.set r (a6, turnT qs1[r].2 (i : Int) up)).map (·.2) = turn1 (qs.map (·.2)) r (i : Int) up) := fun a6 => by
        rw [set_snd, ← map_at hq5, hT]
        rfl
      obtain ⟨gp, cr5, q5, d5, rg5, hgp, hrh, p0⟩ := mwk_ptr (hK.below (ent_new0 wr (.cells #[.int .i64 (r : Int), .int .i64 (i : Int)] 135))) hq5
      have HTU : Hid (∀ W, MwkAt W w1.heap.size g hs qs1 ls → w1.heap.size ≤ W.heap.size → Calls Tryz.prog 90 #[.pointer (some ⟨hs[r], 0, none⟩), .int .i64 (i : Int), .bool up] W fun e w' => (∃ v, e = .returned v) ∧ (∃ a', MwkAt w' w1.heap.size g hs (qs1.set r (a', turnT qs1[r].2 (i : Int) up)) ls) ∧ Below w1.heap.size W w' ∧ ∀ b t l, t ≠ 131 → Row W b t l → Row w' b t l) := fun W k hb => mwk_turn k hq5 hrh (i : Int) up hb (by rw [hv5]; exact (HBd.out r hq0).1) (by rw [hv5]; exact (HBd.out r hq0).2)
      have drN : r < hs.length := hrh
      have dr : decide ((r : Int) < (hs.length : Int)) = true := by simpa using hrh
      generalize hs[r] = hh at *
      generalize hs.length = N at *
      generalize cr5 = cr at *
      have hix := fun w => idx0_run (r : Int) (i : Int) (s : Int) (j : Int) w
      have re := Row.new wr 135 [.int .i64 (r : Int), .int .i64 (i : Int)]
      have rz5 := rz.alloc (.cells #[.int .i64 (r : Int), .int .i64 (i : Int)] 135)
      have hK5 := hK.below (ent_new0 wr (.cells #[.int .i64 (r : Int), .int .i64 (i : Int)] 135))
      have hB5 := hB.alloc hB.size (.cells #[.int .i64 (r : Int), .int .i64 (i : Int)] 135)
      have HS5 : Hid (w1.heap.size ≤ (wr.alloc (.cells #[.int .i64 (r : Int), .int .i64 (i : Int)] 135)).heap.size) := by show _ ≤ _; simp; omega
      have HP : Hid _ := And.intro rg5 (And.intro re (And.intro rz5 (And.intro hK5 (And.intro hB5 (And.intro hgp p0)))))
      clear rg5 re rz5 hK5 hB5 hgp p0 rz hK hB hT hv5 hq0
      go_wp2_with fail
      obtain ⟨rg5, re, rz5, hK5, hB5, hgp, p0⟩ := HP.out
      clear HP
      generalize wr.alloc (.cells #[.int .i64 (r : Int), .int .i64 (i : Int)] 135) = W5 at *
      have hGN : (([(44, Is (.pointer (some ⟨g, 0, none⟩))), (45, Is (.pointer (some ⟨g, 0, none⟩))), (46, Is (.pointer (some ⟨g, 0, none⟩))), (47, Is (.slice (some ⟨gp, 0, none⟩) N cr)), (48, Is (.pointer (some ⟨wr.heap.size, 0, none⟩))), (49, Is (.int .i64 (r : Int))), (50, Is (.pointer (some ⟨gp, r, none⟩))), (51, Is (.pointer (some ⟨hh, 0, none⟩))), (52, Is (.pointer (some ⟨wr.heap.size, 1, none⟩))), (53, Is (.int .i64 (i : Int))), (54, Is (.bool up))] : List (Nat × (Value → World → Prop))).map (·.1)).Nodup := by simp
      refine wp_region_steady 11 (SlotG [(44, Is (.pointer (some ⟨g, 0, none⟩))), (45, Is (.pointer (some ⟨g, 0, none⟩))), (46, Is (.pointer (some ⟨g, 0, none⟩))), (47, Is (.slice (some ⟨gp, 0, none⟩) N cr)), (48, Is (.pointer (some ⟨wr.heap.size, 0, none⟩))), (49, Is (.int .i64 (r : Int))), (50, Is (.pointer (some ⟨gp, r, none⟩))), (51, Is (.pointer (some ⟨hh, 0, none⟩))), (52, Is (.pointer (some ⟨wr.heap.size, 1, none⟩))), (53, Is (.int .i64 (i : Int))), (54, Is (.bool up))]) (by kernel_rfl) (by kernel_rfl) (Stabs.all ⟨stab_is _, stab_is _, stab_is _, stab_is _, stab_is _, stab_is _, stab_is _, stab_is _, stab_is _, stab_is _, stab_is _, trivial⟩) ?_ ?_
      · intro o ho
        simp only [List.take_succ_cons, List.take_zero, List.mem_cons, List.not_mem_nil, or_false] at ho
        rcases ho with rfl | rfl | rfl | rfl | rfl | rfl | rfl | rfl | rfl | rfl | rfl
        · intro a' w' hb ha hdep
          have d7 : a'.tmps.getD 7 undef = .pointer (some ⟨g, 0, none⟩) := ha.at 7 (by kernel_rfl)
          have hmk := fun (x : Value) (W : World) => SlotG.mk (x := x) (w := W) 0 rfl hGN
          clear hGN ha hdep
          go_simp
          exact ⟨_, rfl, Below.refl _ _, hmk _ _ rfl⟩
        · intro a' w' hb ha hdep
          have d44 : a'.tmps.getD 44 undef = .pointer (some ⟨g, 0, none⟩) := (hdep 44 (of_decide_eq_true (by kernel_rfl))).is 0 rfl
          have hmk := fun (x : Value) (W : World) => SlotG.mk (x := x) (w := W) 1 rfl hGN
          clear hGN ha hdep
          go_simp
          exact ⟨_, rfl, Below.refl _ _, hmk _ _ rfl⟩
        · intro a' w' hb ha hdep
          have d45 : a'.tmps.getD 45 undef = .pointer (some ⟨g, 0, none⟩) := (hdep 45 (of_decide_eq_true (by kernel_rfl))).is 1 rfl
          have hmk := fun (x : Value) (W : World) => SlotG.mk (x := x) (w := W) 2 rfl hGN
          clear hGN ha hdep
          go_simp
          exact ⟨_, rfl, Below.refl _ _, hmk _ _ rfl⟩
        · intro a' w' hb ha hdep
          have d46 : a'.tmps.getD 46 undef = .pointer (some ⟨g, 0, none⟩) := (hdep 46 (of_decide_eq_true (by kernel_rfl))).is 2 rfl
          have hmk := fun (x : Value) (W : World) => SlotG.mk (x := x) (w := W) 3 rfl hGN
          clear hGN ha hdep
          have y0 : w'.cell? ⟨g, 0, none⟩ = some (.slice (some ⟨gp, 0, none⟩) N cr) := (rg5.below hb rg5.lt).cell 0
          go_simp
          exact ⟨_, rfl, Below.refl _ _, hmk _ _ rfl⟩
        · intro a' w' hb ha hdep
          have d10 : a'.tmps.getD 10 undef = .pointer (some ⟨wr.heap.size, 0, none⟩) := ha.at 10 (by kernel_rfl)
          have hmk := fun (x : Value) (W : World) => SlotG.mk (x := x) (w := W) 4 rfl hGN
          clear hGN ha hdep
          go_simp
          exact ⟨_, rfl, Below.refl _ _, hmk _ _ rfl⟩
        · intro a' w' hb ha hdep
          have d48 : a'.tmps.getD 48 undef = .pointer (some ⟨wr.heap.size, 0, none⟩) := (hdep 48 (of_decide_eq_true (by kernel_rfl))).is 4 rfl
          have hmk := fun (x : Value) (W : World) => SlotG.mk (x := x) (w := W) 5 rfl hGN
          clear hGN ha hdep
          have y0 : w'.cell? ⟨wr.heap.size, 0, none⟩ = some (.int .i64 (r : Int)) := (re.below hb re.lt).cell 0
          go_simp
          exact ⟨_, rfl, Below.refl _ _, hmk _ _ rfl⟩
        · intro a' w' hb ha hdep
          have d47 : a'.tmps.getD 47 undef = .slice (some ⟨gp, 0, none⟩) N cr := (hdep 47 (of_decide_eq_true (by kernel_rfl))).is 3 rfl
          have d49 : a'.tmps.getD 49 undef = .int .i64 (r : Int) := (hdep 49 (of_decide_eq_true (by kernel_rfl))).is 5 rfl
          have hmk := fun (x : Value) (W : World) => SlotG.mk (x := x) (w := W) 6 rfl hGN
          clear hGN ha hdep
          go_simp
          exact ⟨_, rfl, Below.refl _ _, hmk _ _ rfl⟩
        · intro a' w' hb ha hdep
          have d50 : a'.tmps.getD 50 undef = .pointer (some ⟨gp, r, none⟩) := (hdep 50 (of_decide_eq_true (by kernel_rfl))).is 6 rfl
          have hmk := fun (x : Value) (W : World) => SlotG.mk (x := x) (w := W) 7 rfl hGN
          clear hGN ha hdep
          have z : w'.cell? ⟨gp, r, none⟩ = some (.pointer (some ⟨hh, 0, none⟩)) := by rw [hb.cell (p := ⟨gp, r, none⟩) hgp]; exact p0
          go_simp
          exact ⟨_, rfl, Below.refl _ _, hmk _ _ rfl⟩
        · intro a' w' hb ha hdep
          have d10 : a'.tmps.getD 10 undef = .pointer (some ⟨wr.heap.size, 0, none⟩) := ha.at 10 (by kernel_rfl)
          have hmk := fun (x : Value) (W : World) => SlotG.mk (x := x) (w := W) 8 rfl hGN
          clear hGN ha hdep
          go_simp
          exact ⟨_, rfl, Below.refl _ _, hmk _ _ rfl⟩
        · intro a' w' hb ha hdep
          have d52 : a'.tmps.getD 52 undef = .pointer (some ⟨wr.heap.size, 1, none⟩) := (hdep 52 (of_decide_eq_true (by kernel_rfl))).is 8 rfl
          have hmk := fun (x : Value) (W : World) => SlotG.mk (x := x) (w := W) 9 rfl hGN
          clear hGN ha hdep
          have y1 : w'.cell? ⟨wr.heap.size, 1, none⟩ = some (.int .i64 (i : Int)) := (re.below hb re.lt).cell 1
          go_simp
          exact ⟨_, rfl, Below.refl _ _, hmk _ _ rfl⟩
        · intro a' w' hb ha hdep
          have d2 : a'.tmps.getD 2 undef = .bool up := ha.at 2 (by kernel_rfl)
          have hmk := fun (x : Value) (W : World) => SlotG.mk (x := x) (w := W) 10 rfl hGN
          clear hGN ha hdep
          go_simp
          exact ⟨_, rfl, Below.refl _ _, hmk _ _ rfl⟩
      · intro a' w' hb ha hG
        clear hGN
        have d51 : a'.tmps.getD 51 undef = .pointer (some ⟨hh, 0, none⟩) := (hG _ (List.mem_of_getElem? (i := 7) rfl) 51 rfl).is 7 rfl
        have d53 : a'.tmps.getD 53 undef = .int .i64 (i : Int) := (hG _ (List.mem_of_getElem? (i := 9) rfl) 53 rfl).is 9 rfl
        have d54 : a'.tmps.getD 54 undef = .bool up := (hG _ (List.mem_of_getElem? (i := 10) rfl) 54 rfl).is 10 rfl
        have d0 : a'.tmps.getD 0 undef = .agg #[.slice p ps.length c1, .slice q ls.length c2] := ha.at 0 (by kernel_rfl)
        have d1 : a'.tmps.getD 1 undef = .int .i64 (m : Int) := ha.at 1 (by kernel_rfl)
        have d2 : a'.tmps.getD 2 undef = .bool up := ha.at 2 (by kernel_rfl)
        have d3 : a'.tmps.getD 3 undef = .pointer (some ⟨w.heap.size, 0, none⟩) := ha.at 3 (by kernel_rfl)
        have d4 : a'.tmps.getD 4 undef = undef := ha.at 4 (by kernel_rfl)
        have d5 : a'.tmps.getD 5 undef = undef := ha.at 5 (by kernel_rfl)
        have d6 : a'.tmps.getD 6 undef = .pointer (some ⟨w.heap.size + 1, 0, none⟩) := ha.at 6 (by kernel_rfl)
        have d7 : a'.tmps.getD 7 undef = .pointer (some ⟨g, 0, none⟩) := ha.at 7 (by kernel_rfl)
        have d8 : a'.tmps.getD 8 undef = .pointer (some ⟨b2, 0, none⟩) := ha.at 8 (by kernel_rfl)
        have d9 : a'.tmps.getD 9 undef = undef := ha.at 9 (by kernel_rfl)
        have d11 : a'.tmps.getD 11 undef = .agg #[.slice p ps.length c1, .slice q ls.length c2] := ha.at 11 (by kernel_rfl)
        have d12 : a'.tmps.getD 12 undef = .bool true := ha.at 12 (by kernel_rfl)
        have d13 : a'.tmps.getD 13 undef = .bool false := ha.at 13 (by kernel_rfl)
        have d14 : a'.tmps.getD 14 undef = undef := ha.at 14 (by kernel_rfl)
        have d15 : a'.tmps.getD 15 undef = .int .i64 (m : Int) := ha.at 15 (by kernel_rfl)
        have d16 : a'.tmps.getD 16 undef = .bool false := ha.at 16 (by kernel_rfl)
        have d17 : a'.tmps.getD 17 undef = .bool false := ha.at 17 (by kernel_rfl)
        have d18 : a'.tmps.getD 18 undef = .int .i64 (m : Int) := ha.at 18 (by kernel_rfl)
        have d19 : a'.tmps.getD 19 undef = .pointer (some ⟨w.heap.size, 1, none⟩) := ha.at 19 (by kernel_rfl)
        have d20 : a'.tmps.getD 20 undef = .slice q ls.length c2 := ha.at 20 (by kernel_rfl)
        have d21 : a'.tmps.getD 21 undef = .int .i64 (ls.length : Int) := ha.at 21 (by kernel_rfl)
        have d22 : a'.tmps.getD 22 undef = .bool false := ha.at 22 (by kernel_rfl)
        have d23 : a'.tmps.getD 23 undef = .bool false := ha.at 23 (by kernel_rfl)
        have d24 : a'.tmps.getD 24 undef = undef := ha.at 24 (by kernel_rfl)
        have d25 : a'.tmps.getD 25 undef = .agg #[.slice p ps.length c1, .slice q ls.length c2] := ha.at 25 (by kernel_rfl)
        have d26 : a'.tmps.getD 26 undef = .pointer (some ⟨g, 0, none⟩) := ha.at 26 (by kernel_rfl)
        have d27 : a'.tmps.getD 27 undef = .pointer (some ⟨g, 0, none⟩) := ha.at 27 (by kernel_rfl)
        have d28 : a'.tmps.getD 28 undef = .pointer (some ⟨g, 0, none⟩) := ha.at 28 (by kernel_rfl)
        have d29 : a'.tmps.getD 29 undef = .pointer (some ⟨g, 1, none⟩) := ha.at 29 (by kernel_rfl)
        have d30 : a'.tmps.getD 30 undef = .slice (some ⟨gl, 0, none⟩) ls.length dl := ha.at 30 (by kernel_rfl)
        have d31 : a'.tmps.getD 31 undef = .int .i64 (m : Int) := ha.at 31 (by kernel_rfl)
        have d32 : a'.tmps.getD 32 undef = .pointer (some ⟨gl, m * 4, none⟩) := ha.at 32 (by kernel_rfl)
        have d33 : a'.tmps.getD 33 undef = .agg #[.int .i64 (r : Int), .int .i64 (i : Int), .int .i64 (s : Int), .int .i64 (j : Int)] := ha.at 33 (by kernel_rfl)
        have d34 : a'.tmps.getD 34 undef = .agg #[.int .i64 (r : Int), .int .i64 (i : Int), .int .i64 (s : Int), .int .i64 (j : Int)] := ha.at 34 (by kernel_rfl)
        have d35 : a'.tmps.getD 35 undef = .pointer (some ⟨g, 0, none⟩) := ha.at 35 (by kernel_rfl)
        have d36 : a'.tmps.getD 36 undef = .agg #[.int .i64 (r : Int), .int .i64 (i : Int), .int .i64 (s : Int), .int .i64 (j : Int)] := ha.at 36 (by kernel_rfl)
        have d37 : a'.tmps.getD 37 undef = .bool up := ha.at 37 (by kernel_rfl)
        have d38 : a'.tmps.getD 38 undef = .bool false := ha.at 38 (by kernel_rfl)
        have d39 : a'.tmps.getD 39 undef = undef := ha.at 39 (by kernel_rfl)
        have d40 : a'.tmps.getD 40 undef = .agg #[.int .i64 (r : Int), .int .i64 (i : Int), .int .i64 (s : Int), .int .i64 (j : Int)] := ha.at 40 (by kernel_rfl)
        have d57 : a'.tmps.getD 57 undef = undef := ha.at 57 (by kernel_rfl)
        have d58 : a'.tmps.getD 58 undef = undef := ha.at 58 (by kernel_rfl)
        have d41 : a'.tmps.getD 41 undef = .int .i64 0 := ha.at 41 (by kernel_rfl)
        have e2 : a' = ⟨#[a'.tmps.getD 0 undef, a'.tmps.getD 1 undef, a'.tmps.getD 2 undef, a'.tmps.getD 3 undef, a'.tmps.getD 4 undef, a'.tmps.getD 5 undef, a'.tmps.getD 6 undef, a'.tmps.getD 7 undef, a'.tmps.getD 8 undef, a'.tmps.getD 9 undef, a'.tmps.getD 10 undef, a'.tmps.getD 11 undef, a'.tmps.getD 12 undef, a'.tmps.getD 13 undef, a'.tmps.getD 14 undef, a'.tmps.getD 15 undef, a'.tmps.getD 16 undef, a'.tmps.getD 17 undef, a'.tmps.getD 18 undef, a'.tmps.getD 19 undef, a'.tmps.getD 20 undef, a'.tmps.getD 21 undef, a'.tmps.getD 22 undef, a'.tmps.getD 23 undef, a'.tmps.getD 24 undef, a'.tmps.getD 25 undef, a'.tmps.getD 26 undef, a'.tmps.getD 27 undef, a'.tmps.getD 28 undef, a'.tmps.getD 29 undef, a'.tmps.getD 30 undef, a'.tmps.getD 31 undef, a'.tmps.getD 32 undef, a'.tmps.getD 33 undef, a'.tmps.getD 34 undef, a'.tmps.getD 35 undef, a'.tmps.getD 36 undef, a'.tmps.getD 37 undef, a'.tmps.getD 38 undef, a'.tmps.getD 39 undef, a'.tmps.getD 40 undef, a'.tmps.getD 41 undef, a'.tmps.getD 42 undef, a'.tmps.getD 43 undef, a'.tmps.getD 44 undef, a'.tmps.getD 45 undef, a'.tmps.getD 46 undef, a'.tmps.getD 47 undef, a'.tmps.getD 48 undef, a'.tmps.getD 49 undef, a'.tmps.getD 50 undef, a'.tmps.getD 51 undef, a'.tmps.getD 52 undef, a'.tmps.getD 53 undef, a'.tmps.getD 54 undef, a'.tmps.getD 55 undef, a'.tmps.getD 56 undef, a'.tmps.getD 57 undef, a'.tmps.getD 58 undef], []⟩ := by rw [← (show a'.defers = [] from ha.2.1)]; exact act_eq a' 59 ha.1
        rw [d51, d53, d54, d0, d1, d2, d3, d4, d5, d6, d7, d8, d9, d11, d12, d13, d14, d15, d16, d17, d18, d19, d20, d21, d22, d23, d24, d25, d26, d27, d28, d29, d30, d31, d32, d33, d34, d35, d36, d37, d38, d39, d40, d57, d58, d41] at e2
        clear hG ha d51 d53 d54 d0 d1 d2 d3 d4 d5 d6 d7 d8 d9 d11 d12 d13 d14 d15 d16 d17 d18 d19 d20 d21 d22 d23 d24 d25 d26 d27 d28 d29 d30 d31 d32 d33 d34 d35 d36 d37 d38 d39 d40 d57 d58 d41
        generalize a'.tmps.getD 10 undef = x10 at *
        generalize a'.tmps.getD 42 undef = x42 at *
        generalize a'.tmps.getD 43 undef = x43 at *
        generalize a'.tmps.getD 44 undef = x44 at *
        generalize a'.tmps.getD 45 undef = x45 at *
        generalize a'.tmps.getD 46 undef = x46 at *
        generalize a'.tmps.getD 47 undef = x47 at *
        generalize a'.tmps.getD 48 undef = x48 at *
        generalize a'.tmps.getD 49 undef = x49 at *
        generalize a'.tmps.getD 50 undef = x50 at *
        generalize a'.tmps.getD 52 undef = x52 at *
        generalize a'.tmps.getD 55 undef = x55 at *
        generalize a'.tmps.getD 56 undef = x56 at *
        subst e2
        simp only [List.drop_succ_cons, List.drop_zero]
        replace rz5 := rz5.below hb rz5.lt
        replace hK5 := hK5.below hb
        have hsz := hb.size
        have hsz5 := HS5.out
        replace hB5 := hB5.trans (hb.mono hB5.size)
        clear hb rg5 re p0
        go_wp2_with fail
        refine (HTU.out _ hK5 (by omega)).mono ?_
        rintro e w6 ⟨⟨v6, rfl⟩, ⟨a6, hK6⟩, hb6, hk6⟩
        have hs6 := hb6.size
        have HZ : Hid _ := And.intro hK6 (And.intro (hk6 _ _ _ (by decide) rz5) (And.intro (hB5.trans (hb6.mono HBs.out)) hs6))
        clear hK6 hk6 hb6 rz5 hB5 hK5
        go_wp2_with fail
        go_roundw
        case rel => exact ⟨1, _, by omega, by go_num, (fun e => absurd e (by omega)), (fun _ => HMT.out a6), (fun e => absurd e (by omega)), HZ.out.1, HZ.out.2.1, HZ.out.2.2.1, by have := HZ.out.2.2.2; omega⟩
        case measure => simp [intOf]
    · rw [show ((1 : Nat) : Int) = 1 from rfl]
      subst hT2
      subst hT1
      have hT := h1 rfl
      clear h0 h1 h2
      have hl5 : qs1.length = qs.length := by have := congrArg List.length hT; simpa [turn1] using this
      have hq5 : s < qs1.length := by have := HSQ.out; omega
      have hq0 : s < qs.length := HSQ.out
      have hv5 : qs1[s].2 = qs[s].2 := by
        have e1 := map_at hq5
        rw [hT] at e1
        refine e1.symm.trans (Eq.trans ?_ (map_at hq0))
        unfold turn1
        rw [getElem!_pos _ s (by rw [List.length_set, List.length_map]; exact hq0), getElem!_pos _ s (by rw [List.length_map]; exact hq0), List.getElem_set_ne HNE.out]
      have HMT : Hid (∀ a6 : Ip, (qs1.set s (a6, turnT qs1[s].2 (j : Int) up)).map (·.2) = turn1 (turn1 (qs.map (·.2)) r (i : Int) up) s (j : Int) up) := fun a6 => by
        rw [set_snd, ← map_at hq5, hT]
        rfl
      obtain ⟨gp, cr5, q5, d5, rg5, hgp, hrh, p0⟩ := mwk_ptr (hK.below (ent_new0 wr (.cells #[.int .i64 (s : Int), .int .i64 (j : Int)] 135))) hq5
      have HTU : Hid (∀ W, MwkAt W w1.heap.size g hs qs1 ls → w1.heap.size ≤ W.heap.size → Calls Tryz.prog 90 #[.pointer (some ⟨hs[s], 0, none⟩), .int .i64 (j : Int), .bool up] W fun e w' => (∃ v, e = .returned v) ∧ (∃ a', MwkAt w' w1.heap.size g hs (qs1.set s (a', turnT qs1[s].2 (j : Int) up)) ls) ∧ Below w1.heap.size W w' ∧ ∀ b t l, t ≠ 131 → Row W b t l → Row w' b t l) := fun W k hb => mwk_turn k hq5 hrh (j : Int) up hb (by rw [hv5]; exact (HBd.out s hq0).1) (by rw [hv5]; exact (HBd.out s hq0).2)
      have drN : s < hs.length := hrh
      have dr : decide ((s : Int) < (hs.length : Int)) = true := by simpa using hrh
      generalize hs[s] = hh at *
      generalize hs.length = N at *
      generalize cr5 = cr at *
      have hix := fun w => idx1_run (r : Int) (i : Int) (s : Int) (j : Int) w
      have re := Row.new wr 135 [.int .i64 (s : Int), .int .i64 (j : Int)]
      have rz5 := rz.alloc (.cells #[.int .i64 (s : Int), .int .i64 (j : Int)] 135)
      have hK5 := hK.below (ent_new0 wr (.cells #[.int .i64 (s : Int), .int .i64 (j : Int)] 135))
      have hB5 := hB.alloc hB.size (.cells #[.int .i64 (s : Int), .int .i64 (j : Int)] 135)
      have HS5 : Hid (w1.heap.size ≤ (wr.alloc (.cells #[.int .i64 (s : Int), .int .i64 (j : Int)] 135)).heap.size) := by show _ ≤ _; simp; omega
      have HP : Hid _ := And.intro rg5 (And.intro re (And.intro rz5 (And.intro hK5 (And.intro hB5 (And.intro hgp p0)))))
      clear rg5 re rz5 hK5 hB5 hgp p0 rz hK hB hT hv5 hq0
      go_wp2_with fail
      obtain ⟨rg5, re, rz5, hK5, hB5, hgp, p0⟩ := HP.out
      clear HP
      generalize wr.alloc (.cells #[.int .i64 (s : Int), .int .i64 (j : Int)] 135) = W5 at *
      have hGN : (([(44, Is (.pointer (some ⟨g, 0, none⟩))), (45, Is (.pointer (some ⟨g, 0, none⟩))), (46, Is (.pointer (some ⟨g, 0, none⟩))), (47, Is (.slice (some ⟨gp, 0, none⟩) N cr)), (48, Is (.pointer (some ⟨wr.heap.size, 0, none⟩))), (49, Is (.int .i64 (s : Int))), (50, Is (.pointer (some ⟨gp, s, none⟩))), (51, Is (.pointer (some ⟨hh, 0, none⟩))), (52, Is (.pointer (some ⟨wr.heap.size, 1, none⟩))), (53, Is (.int .i64 (j : Int))), (54, Is (.bool up))] : List (Nat × (Value → World → Prop))).map (·.1)).Nodup := by simp
      refine wp_region_steady 11 (SlotG [(44, Is (.pointer (some ⟨g, 0, none⟩))), (45, Is (.pointer (some ⟨g, 0, none⟩))), (46, Is (.pointer (some ⟨g, 0, none⟩))), (47, Is (.slice (some ⟨gp, 0, none⟩) N cr)), (48, Is (.pointer (some ⟨wr.heap.size, 0, none⟩))), (49, Is (.int .i64 (s : Int))), (50, Is (.pointer (some ⟨gp, s, none⟩))), (51, Is (.pointer (some ⟨hh, 0, none⟩))), (52, Is (.pointer (some ⟨wr.heap.size, 1, none⟩))), (53, Is (.int .i64 (j : Int))), (54, Is (.bool up))]) (by kernel_rfl) (by kernel_rfl) (Stabs.all ⟨stab_is _, stab_is _, stab_is _, stab_is _, stab_is _, stab_is _, stab_is _, stab_is _, stab_is _, stab_is _, stab_is _, trivial⟩) ?_ ?_
      · intro o ho
        simp only [List.take_succ_cons, List.take_zero, List.mem_cons, List.not_mem_nil, or_false] at ho
        rcases ho with rfl | rfl | rfl | rfl | rfl | rfl | rfl | rfl | rfl | rfl | rfl
        · intro a' w' hb ha hdep
          have d7 : a'.tmps.getD 7 undef = .pointer (some ⟨g, 0, none⟩) := ha.at 7 (by kernel_rfl)
          have hmk := fun (x : Value) (W : World) => SlotG.mk (x := x) (w := W) 0 rfl hGN
          clear hGN ha hdep
          go_simp
          exact ⟨_, rfl, Below.refl _ _, hmk _ _ rfl⟩
        · intro a' w' hb ha hdep
          have d44 : a'.tmps.getD 44 undef = .pointer (some ⟨g, 0, none⟩) := (hdep 44 (of_decide_eq_true (by kernel_rfl))).is 0 rfl
          have hmk := fun (x : Value) (W : World) => SlotG.mk (x := x) (w := W) 1 rfl hGN
          clear hGN ha hdep
          go_simp
          exact ⟨_, rfl, Below.refl _ _, hmk _ _ rfl⟩
        · intro a' w' hb ha hdep
          have d45 : a'.tmps.getD 45 undef = .pointer (some ⟨g, 0, none⟩) := (hdep 45 (of_decide_eq_true (by kernel_rfl))).is 1 rfl
          have hmk := fun (x : Value) (W : World) => SlotG.mk (x := x) (w := W) 2 rfl hGN
          clear hGN ha hdep
          go_simp
          exact ⟨_, rfl, Below.refl _ _, hmk _ _ rfl⟩
        · intro a' w' hb ha hdep
          have d46 : a'.tmps.getD 46 undef = .pointer (some ⟨g, 0, none⟩) := (hdep 46 (of_decide_eq_true (by kernel_rfl))).is 2 rfl
          have hmk := fun (x : Value) (W : World) => SlotG.mk (x := x) (w := W) 3 rfl hGN
          clear hGN ha hdep
          have y0 : w'.cell? ⟨g, 0, none⟩ = some (.slice (some ⟨gp, 0, none⟩) N cr) := (rg5.below hb rg5.lt).cell 0
          go_simp
          exact ⟨_, rfl, Below.refl _ _, hmk _ _ rfl⟩
        · intro a' w' hb ha hdep
          have d10 : a'.tmps.getD 10 undef = .pointer (some ⟨wr.heap.size, 0, none⟩) := ha.at 10 (by kernel_rfl)
          have hmk := fun (x : Value) (W : World) => SlotG.mk (x := x) (w := W) 4 rfl hGN
          clear hGN ha hdep
          go_simp
          exact ⟨_, rfl, Below.refl _ _, hmk _ _ rfl⟩
        · intro a' w' hb ha hdep
          have d48 : a'.tmps.getD 48 undef = .pointer (some ⟨wr.heap.size, 0, none⟩) := (hdep 48 (of_decide_eq_true (by kernel_rfl))).is 4 rfl
          have hmk := fun (x : Value) (W : World) => SlotG.mk (x := x) (w := W) 5 rfl hGN
          clear hGN ha hdep
          have y0 : w'.cell? ⟨wr.heap.size, 0, none⟩ = some (.int .i64 (s : Int)) := (re.below hb re.lt).cell 0
          go_simp
          exact ⟨_, rfl, Below.refl _ _, hmk _ _ rfl⟩
        · intro a' w' hb ha hdep
          have d47 : a'.tmps.getD 47 undef = .slice (some ⟨gp, 0, none⟩) N cr := (hdep 47 (of_decide_eq_true (by kernel_rfl))).is 3 rfl
          have d49 : a'.tmps.getD 49 undef = .int .i64 (s : Int) := (hdep 49 (of_decide_eq_true (by kernel_rfl))).is 5 rfl
          have hmk := fun (x : Value) (W : World) => SlotG.mk (x := x) (w := W) 6 rfl hGN
          clear hGN ha hdep
          go_simp
          exact ⟨_, rfl, Below.refl _ _, hmk _ _ rfl⟩
        · intro a' w' hb ha hdep
          have d50 : a'.tmps.getD 50 undef = .pointer (some ⟨gp, s, none⟩) := (hdep 50 (of_decide_eq_true (by kernel_rfl))).is 6 rfl
          have hmk := fun (x : Value) (W : World) => SlotG.mk (x := x) (w := W) 7 rfl hGN
          clear hGN ha hdep
          have z : w'.cell? ⟨gp, s, none⟩ = some (.pointer (some ⟨hh, 0, none⟩)) := by rw [hb.cell (p := ⟨gp, s, none⟩) hgp]; exact p0
          go_simp
          exact ⟨_, rfl, Below.refl _ _, hmk _ _ rfl⟩
        · intro a' w' hb ha hdep
          have d10 : a'.tmps.getD 10 undef = .pointer (some ⟨wr.heap.size, 0, none⟩) := ha.at 10 (by kernel_rfl)
          have hmk := fun (x : Value) (W : World) => SlotG.mk (x := x) (w := W) 8 rfl hGN
          clear hGN ha hdep
          go_simp
          exact ⟨_, rfl, Below.refl _ _, hmk _ _ rfl⟩
        · intro a' w' hb ha hdep
          have d52 : a'.tmps.getD 52 undef = .pointer (some ⟨wr.heap.size, 1, none⟩) := (hdep 52 (of_decide_eq_true (by kernel_rfl))).is 8 rfl
          have hmk := fun (x : Value) (W : World) => SlotG.mk (x := x) (w := W) 9 rfl hGN
          clear hGN ha hdep
          have y1 : w'.cell? ⟨wr.heap.size, 1, none⟩ = some (.int .i64 (j : Int)) := (re.below hb re.lt).cell 1
          go_simp
          exact ⟨_, rfl, Below.refl _ _, hmk _ _ rfl⟩
        · intro a' w' hb ha hdep
          have d2 : a'.tmps.getD 2 undef = .bool up := ha.at 2 (by kernel_rfl)
          have hmk := fun (x : Value) (W : World) => SlotG.mk (x := x) (w := W) 10 rfl hGN
          clear hGN ha hdep
          go_simp
          exact ⟨_, rfl, Below.refl _ _, hmk _ _ rfl⟩
      · intro a' w' hb ha hG
        clear hGN
        have d51 : a'.tmps.getD 51 undef = .pointer (some ⟨hh, 0, none⟩) := (hG _ (List.mem_of_getElem? (i := 7) rfl) 51 rfl).is 7 rfl
        have d53 : a'.tmps.getD 53 undef = .int .i64 (j : Int) := (hG _ (List.mem_of_getElem? (i := 9) rfl) 53 rfl).is 9 rfl
        have d54 : a'.tmps.getD 54 undef = .bool up := (hG _ (List.mem_of_getElem? (i := 10) rfl) 54 rfl).is 10 rfl
        have d0 : a'.tmps.getD 0 undef = .agg #[.slice p ps.length c1, .slice q ls.length c2] := ha.at 0 (by kernel_rfl)
        have d1 : a'.tmps.getD 1 undef = .int .i64 (m : Int) := ha.at 1 (by kernel_rfl)
        have d2 : a'.tmps.getD 2 undef = .bool up := ha.at 2 (by kernel_rfl)
        have d3 : a'.tmps.getD 3 undef = .pointer (some ⟨w.heap.size, 0, none⟩) := ha.at 3 (by kernel_rfl)
        have d4 : a'.tmps.getD 4 undef = undef := ha.at 4 (by kernel_rfl)
        have d5 : a'.tmps.getD 5 undef = undef := ha.at 5 (by kernel_rfl)
        have d6 : a'.tmps.getD 6 undef = .pointer (some ⟨w.heap.size + 1, 0, none⟩) := ha.at 6 (by kernel_rfl)
        have d7 : a'.tmps.getD 7 undef = .pointer (some ⟨g, 0, none⟩) := ha.at 7 (by kernel_rfl)
        have d8 : a'.tmps.getD 8 undef = .pointer (some ⟨b2, 0, none⟩) := ha.at 8 (by kernel_rfl)
        have d9 : a'.tmps.getD 9 undef = undef := ha.at 9 (by kernel_rfl)
        have d11 : a'.tmps.getD 11 undef = .agg #[.slice p ps.length c1, .slice q ls.length c2] := ha.at 11 (by kernel_rfl)
        have d12 : a'.tmps.getD 12 undef = .bool true := ha.at 12 (by kernel_rfl)
        have d13 : a'.tmps.getD 13 undef = .bool false := ha.at 13 (by kernel_rfl)
        have d14 : a'.tmps.getD 14 undef = undef := ha.at 14 (by kernel_rfl)
        have d15 : a'.tmps.getD 15 undef = .int .i64 (m : Int) := ha.at 15 (by kernel_rfl)
        have d16 : a'.tmps.getD 16 undef = .bool false := ha.at 16 (by kernel_rfl)
        have d17 : a'.tmps.getD 17 undef = .bool false := ha.at 17 (by kernel_rfl)
        have d18 : a'.tmps.getD 18 undef = .int .i64 (m : Int) := ha.at 18 (by kernel_rfl)
        have d19 : a'.tmps.getD 19 undef = .pointer (some ⟨w.heap.size, 1, none⟩) := ha.at 19 (by kernel_rfl)
        have d20 : a'.tmps.getD 20 undef = .slice q ls.length c2 := ha.at 20 (by kernel_rfl)
        have d21 : a'.tmps.getD 21 undef = .int .i64 (ls.length : Int) := ha.at 21 (by kernel_rfl)
        have d22 : a'.tmps.getD 22 undef = .bool false := ha.at 22 (by kernel_rfl)
        have d23 : a'.tmps.getD 23 undef = .bool false := ha.at 23 (by kernel_rfl)
        have d24 : a'.tmps.getD 24 undef = undef := ha.at 24 (by kernel_rfl)
        have d25 : a'.tmps.getD 25 undef = .agg #[.slice p ps.length c1, .slice q ls.length c2] := ha.at 25 (by kernel_rfl)
        have d26 : a'.tmps.getD 26 undef = .pointer (some ⟨g, 0, none⟩) := ha.at 26 (by kernel_rfl)
        have d27 : a'.tmps.getD 27 undef = .pointer (some ⟨g, 0, none⟩) := ha.at 27 (by kernel_rfl)
        have d28 : a'.tmps.getD 28 undef = .pointer (some ⟨g, 0, none⟩) := ha.at 28 (by kernel_rfl)
        have d29 : a'.tmps.getD 29 undef = .pointer (some ⟨g, 1, none⟩) := ha.at 29 (by kernel_rfl)
        have d30 : a'.tmps.getD 30 undef = .slice (some ⟨gl, 0, none⟩) ls.length dl := ha.at 30 (by kernel_rfl)
        have d31 : a'.tmps.getD 31 undef = .int .i64 (m : Int) := ha.at 31 (by kernel_rfl)
        have d32 : a'.tmps.getD 32 undef = .pointer (some ⟨gl, m * 4, none⟩) := ha.at 32 (by kernel_rfl)
        have d33 : a'.tmps.getD 33 undef = .agg #[.int .i64 (r : Int), .int .i64 (i : Int), .int .i64 (s : Int), .int .i64 (j : Int)] := ha.at 33 (by kernel_rfl)
        have d34 : a'.tmps.getD 34 undef = .agg #[.int .i64 (r : Int), .int .i64 (i : Int), .int .i64 (s : Int), .int .i64 (j : Int)] := ha.at 34 (by kernel_rfl)
        have d35 : a'.tmps.getD 35 undef = .pointer (some ⟨g, 0, none⟩) := ha.at 35 (by kernel_rfl)
        have d36 : a'.tmps.getD 36 undef = .agg #[.int .i64 (r : Int), .int .i64 (i : Int), .int .i64 (s : Int), .int .i64 (j : Int)] := ha.at 36 (by kernel_rfl)
        have d37 : a'.tmps.getD 37 undef = .bool up := ha.at 37 (by kernel_rfl)
        have d38 : a'.tmps.getD 38 undef = .bool false := ha.at 38 (by kernel_rfl)
        have d39 : a'.tmps.getD 39 undef = undef := ha.at 39 (by kernel_rfl)
        have d40 : a'.tmps.getD 40 undef = .agg #[.int .i64 (r : Int), .int .i64 (i : Int), .int .i64 (s : Int), .int .i64 (j : Int)] := ha.at 40 (by kernel_rfl)
        have d57 : a'.tmps.getD 57 undef = undef := ha.at 57 (by kernel_rfl)
        have d58 : a'.tmps.getD 58 undef = undef := ha.at 58 (by kernel_rfl)
        have d41 : a'.tmps.getD 41 undef = .int .i64 1 := ha.at 41 (by kernel_rfl)
        have e2 : a' = ⟨#[a'.tmps.getD 0 undef, a'.tmps.getD 1 undef, a'.tmps.getD 2 undef, a'.tmps.getD 3 undef, a'.tmps.getD 4 undef, a'.tmps.getD 5 undef, a'.tmps.getD 6 undef, a'.tmps.getD 7 undef, a'.tmps.getD 8 undef, a'.tmps.getD 9 undef, a'.tmps.getD 10 undef, a'.tmps.getD 11 undef, a'.tmps.getD 12 undef, a'.tmps.getD 13 undef, a'.tmps.getD 14 undef, a'.tmps.getD 15 undef, a'.tmps.getD 16 undef, a'.tmps.getD 17 undef, a'.tmps.getD 18 undef, a'.tmps.getD 19 undef, a'.tmps.getD 20 undef, a'.tmps.getD 21 undef, a'.tmps.getD 22 undef, a'.tmps.getD 23 undef, a'.tmps.getD 24 undef, a'.tmps.getD 25 undef, a'.tmps.getD 26 undef, a'.tmps.getD 27 undef, a'.tmps.getD 28 undef, a'.tmps.getD 29 undef, a'.tmps.getD 30 undef, a'.tmps.getD 31 undef, a'.tmps.getD 32 undef, a'.tmps.getD 33 undef, a'.tmps.getD 34 undef, a'.tmps.getD 35 undef, a'.tmps.getD 36 undef, a'.tmps.getD 37 undef, a'.tmps.getD 38 undef, a'.tmps.getD 39 undef, a'.tmps.getD 40 undef, a'.tmps.getD 41 undef, a'.tmps.getD 42 undef, a'.tmps.getD 43 undef, a'.tmps.getD 44 undef, a'.tmps.getD 45 undef, a'.tmps.getD 46 undef, a'.tmps.getD 47 undef, a'.tmps.getD 48 undef, a'.tmps.getD 49 undef, a'.tmps.getD 50 undef, a'.tmps.getD 51 undef, a'.tmps.getD 52 undef, a'.tmps.getD 53 undef, a'.tmps.getD 54 undef, a'.tmps.getD 55 undef, a'.tmps.getD 56 undef, a'.tmps.getD 57 undef, a'.tmps.getD 58 undef], []⟩ := by rw [← (show a'.defers = [] from ha.2.1)]; exact act_eq a' 59 ha.1
        rw [d51, d53, d54, d0, d1, d2, d3, d4, d5, d6, d7, d8, d9, d11, d12, d13, d14, d15, d16, d17, d18, d19, d20, d21, d22, d23, d24, d25, d26, d27, d28, d29, d30, d31, d32, d33, d34, d35, d36, d37, d38, d39, d40, d57, d58, d41] at e2
        clear hG ha d51 d53 d54 d0 d1 d2 d3 d4 d5 d6 d7 d8 d9 d11 d12 d13 d14 d15 d16 d17 d18 d19 d20 d21 d22 d23 d24 d25 d26 d27 d28 d29 d30 d31 d32 d33 d34 d35 d36 d37 d38 d39 d40 d57 d58 d41
        generalize a'.tmps.getD 10 undef = x10 at *
        generalize a'.tmps.getD 42 undef = x42 at *
        generalize a'.tmps.getD 43 undef = x43 at *
        generalize a'.tmps.getD 44 undef = x44 at *
        generalize a'.tmps.getD 45 undef = x45 at *
        generalize a'.tmps.getD 46 undef = x46 at *
        generalize a'.tmps.getD 47 undef = x47 at *
        generalize a'.tmps.getD 48 undef = x48 at *
        generalize a'.tmps.getD 49 undef = x49 at *
        generalize a'.tmps.getD 50 undef = x50 at *
        generalize a'.tmps.getD 52 undef = x52 at *
        generalize a'.tmps.getD 55 undef = x55 at *
        generalize a'.tmps.getD 56 undef = x56 at *
        subst e2
        simp only [List.drop_succ_cons, List.drop_zero]
        replace rz5 := rz5.below hb rz5.lt
        replace hK5 := hK5.below hb
        have hsz := hb.size
        have hsz5 := HS5.out
        replace hB5 := hB5.trans (hb.mono hB5.size)
        clear hb rg5 re p0
        go_wp2_with fail
        refine (HTU.out _ hK5 (by omega)).mono ?_
        rintro e w6 ⟨⟨v6, rfl⟩, ⟨a6, hK6⟩, hb6, hk6⟩
        have hs6 := hb6.size
        have HZ : Hid _ := And.intro hK6 (And.intro (hk6 _ _ _ (by decide) rz5) (And.intro (hB5.trans (hb6.mono HBs.out)) hs6))
        clear hK6 hk6 hb6 rz5 hB5 hK5
        go_wp2_with fail
        go_roundw
        case rel => exact ⟨2, _, by omega, by go_num, (fun e => absurd e (by omega)), (fun e => absurd e (by omega)), (fun _ => HMT.out a6), HZ.out.1, HZ.out.2.1, HZ.out.2.2.1, by have := HZ.out.2.2.2; omega⟩
        case measure => simp [intOf]
    · rw [show ((2 : Nat) : Int) = 2 from rfl]
      have hT := h2 rfl
      clear h0 h1 h2
      have hl5 : qs1.length = qs.length := by have := congrArg List.length hT; rw [← hT2, ← hT1] at this; simpa [turn1] using this
      have hq5 : qs1.length ≤ 100000 := by have := HLQ.out; omega
      clear hl5
      have HTD : Hid (∀ W, MwkAt W w1.heap.size g hs qs1 ls → w1.heap.size ≤ W.heap.size → Calls Tryz.prog 45 #[.pointer (some ⟨g, 0, none⟩)] W fun e w' => (∃ p c q d, e = .returned (.agg #[.slice p qs1.length c, .slice q ls.length d, .int .i64 0]) ∧ OwnMesh w' w1.heap.size p qs1.length c q ls.length d qs1 ls) ∧ Below W.heap.size W w') := fun W k hb => mtold_any w1.heap.size g hs qs1 ls W k hb hq5
      go_wp2_with fail
      refine (HTD.out _ hK hS).mono ?_
      rintro e w6 ⟨⟨p2, cc2, q2, dd2, rfl, om⟩, hb6⟩
      replace rz := rz.below hb6 rz.lt
      replace hB := hB.trans (hb6.mono hB.size)
      clear hb6 HTD hK
      have z0 : w6.cell? ⟨w.heap.size + 1, 0, none⟩ = some (.slice none 0 0) := rz.cell 0
      have z1 : w6.cell? ⟨w.heap.size + 1, 1, none⟩ = some (.slice none 0 0) := rz.cell 1
      have z2 : w6.cell? ⟨w.heap.size + 1, 2, none⟩ = some (.int .i64 0) := rz.cell 2
      have f0 := rz.frozen 0
      have f1 := rz.frozen 1
      have f2 := rz.frozen 2
      have HE : Hid (Row (((w6.setCell ⟨w.heap.size + 1, 0, none⟩ (.slice p2 qs1.length cc2)).setCell ⟨w.heap.size + 1, 1, none⟩ (.slice q2 ls.length dd2)).setCell ⟨w.heap.size + 1, 2, none⟩ (.int .i64 0)) (w.heap.size + 1) 28 [.slice p2 qs1.length cc2, .slice q2 ls.length dd2, .int .i64 0] ∧ OwnMesh (((w6.setCell ⟨w.heap.size + 1, 0, none⟩ (.slice p2 qs1.length cc2)).setCell ⟨w.heap.size + 1, 1, none⟩ (.slice q2 ls.length dd2)).setCell ⟨w.heap.size + 1, 2, none⟩ (.int .i64 0)) w1.heap.size p2 qs1.length cc2 q2 ls.length dd2 qs1 ls ∧ Below w.heap.size w (((w6.setCell ⟨w.heap.size + 1, 0, none⟩ (.slice p2 qs1.length cc2)).setCell ⟨w.heap.size + 1, 1, none⟩ (.slice q2 ls.length dd2)).setCell ⟨w.heap.size + 1, 2, none⟩ (.int .i64 0))) := ⟨((rz.set 0 (.slice p2 qs1.length cc2)).set 1 (.slice q2 ls.length dd2)).set 2 (.int .i64 0), om.kept (fun b t l ht hb => by
        have hne : b ≠ w.heap.size + 1 := fun e => by
          subst e
          have h1 := rz
          unfold Row at h1 hb
          rw [h1] at hb
          simp only [Option.some.injEq, Obj.cells.injEq] at hb
          rcases ht with e | e | e | e <;> (rw [e] at hb; exact absurd hb.2.1 (by decide))
        exact ((hb.other 0 (.slice p2 qs1.length cc2) hne).other 1 (.slice q2 ls.length dd2) hne).other 2 (.int .i64 0) hne), ((hB.setCell (p := ⟨w.heap.size + 1, 0, none⟩) (by show w.heap.size ≤ w.heap.size + 1; omega) (.slice p2 qs1.length cc2)).setCell (p := ⟨w.heap.size + 1, 1, none⟩) (by show w.heap.size ≤ w.heap.size + 1; omega) (.slice q2 ls.length dd2)).setCell (p := ⟨w.heap.size + 1, 2, none⟩) (by show w.heap.size ≤ w.heap.size + 1; omega) (.int .i64 0)⟩
      clear rz hB om
      go_wp2_with fail
      obtain ⟨k1, k2, k3⟩ := HE.out
      clear HE z0 z1 z2 f0 f1 f2
      generalize (((w6.setCell ⟨w.heap.size + 1, 0, none⟩ (.slice p2 qs1.length cc2)).setCell ⟨w.heap.size + 1, 1, none⟩ (.slice q2 ls.length dd2)).setCell ⟨w.heap.size + 1, 2, none⟩ (.int .i64 0)) = Y at *
      have e0 : Y.cell? ⟨w.heap.size + 1, 0, none⟩ = some (.slice p2 qs1.length cc2) := k1.cell 0
      have e1 : Y.cell? ⟨w.heap.size + 1, 1, none⟩ = some (.slice q2 ls.length dd2) := k1.cell 1
      have e2 : Y.cell? ⟨w.heap.size + 1, 2, none⟩ = some (.int .i64 0) := k1.cell 2
      have hO : OutM w.heap.size RES (.returned (.agg #[.slice p2 qs1.length cc2, .slice q2 ls.length dd2, .int .i64 0])) Y := by
        rw [hR, ← hT]
        exact ⟨p2, cc2, q2, dd2, qs1, by simp only [List.length_map], rfl, by simp only [List.length_map]; exact k2.mono HBs.out⟩
      exact bodyPost_ret (v := .agg #[.slice p2 qs1.length cc2, .slice q2 ls.length dd2, .int .i64 0]) (by simp [results, Tryz.results51, go_sem, e0, e1, e2]) rfl ⟨hO, k3⟩
end Go.Proofs.YtcnadobnihbldaaGreat
/- A cut and a join: one call of turned. (Written by gen_mcut.py.) -/
namespace Go.Proofs.YtcnadobnihbldaaGreat
open Go.RowKit Go.Sort

theorem l10Ill_any (c : Int) (w : World) : Calls Tryz.prog 25 #[.int .i64 c] w fun e w' => e = .returned (.agg #[.slice none 0 0, .slice none 0 0, .int .i64 c]) ∧ Below w.heap.size w w' := by
  go_enter Tryz.func25, Tryz.ntmps25
  go_wp2_with fail
  exact bodyPost_ret (v := .agg #[.slice none 0 0, .slice none 0 0, .int .i64 c]) (by simp [results, Tryz.results25, go_sem]) rfl ⟨rfl, ent_new0 w _⟩
set_option maxRecDepth 100000 in
set_option maxHeartbeats 4000000 in
theorem implCut_any (p : Option Addr) (c1 : Nat) (ps : List IvP) (q : Option Addr) (c2 : Nat) (ls : List Li) (n : Int) (w : World) (h : IvsIn w p ps) (hL : LisAt w q ls) (hq : q = none → c2 = 0) (hn : ps.length ≤ 100000000) (hl : ls.length ≤ 100000000) (hm : ∀ e ∈ ps, IvM e.1 e.2 ∧ (e.1.x = none → e.1.c1 = 0) ∧ (e.1.y = none → e.1.c2 = 0)) :
    Calls Tryz.prog 22 #[.agg #[.slice p ps.length c1, .slice q ls.length c2], .int .i64 n] w fun e w' => OutM w.heap.size (turnMO (ps.map (·.2)) ls n false) e w' ∧ Below w.heap.size w w' := by
  have rz := Row.new (w.alloc (.cells #[.slice p ps.length c1, .slice q ls.length c2] 26)) 28 [.slice none 0 0, .slice none 0 0, .int .i64 0]
  rw [show (w.alloc (.cells #[.slice p ps.length c1, .slice q ls.length c2] 26)).heap.size = w.heap.size + 1 by simp] at rz
  have hB : Below w.heap.size w ((w.alloc (.cells #[.slice p ps.length c1, .slice q ls.length c2] 26)).alloc (.cells #[.slice none 0 0, .slice none 0 0, .int .i64 0] 28)) := (ent_new0 w _).alloc (by simp) _
  have HT : Hid (Calls Tryz.prog 51 #[.agg #[.slice p ps.length c1, .slice q ls.length c2], .int .i64 n, .bool false] ((w.alloc (.cells #[.slice p ps.length c1, .slice q ls.length c2] 26)).alloc (.cells #[.slice none 0 0, .slice none 0 0, .int .i64 0] 28)) fun e w' => OutM ((w.alloc (.cells #[.slice p ps.length c1, .slice q ls.length c2] 26)).alloc (.cells #[.slice none 0 0, .slice none 0 0, .int .i64 0] 28)).heap.size (turnMO (ps.map (·.2)) ls n false) e w' ∧ Below ((w.alloc (.cells #[.slice p ps.length c1, .slice q ls.length c2] 26)).alloc (.cells #[.slice none 0 0, .slice none 0 0, .int .i64 0] 28)).heap.size ((w.alloc (.cells #[.slice p ps.length c1, .slice q ls.length c2] 26)).alloc (.cells #[.slice none 0 0, .slice none 0 0, .int .i64 0] 28)) w') := implTurned_any p c1 ps q c2 ls n false _ (h.below hB) (hL.below hB) hq hn hl hm
  have HQ : Hid _ := And.intro rz hB
  generalize turnMO (ps.map (·.2)) ls n false = RES at *
  obtain ⟨RC, RL, RS⟩ := RES
  clear rz hB h hL hq hn hl hm
  go_enter Tryz.func22, Tryz.ntmps22
  go_wp2_with fail
  refine (HT.out).mono ?_
  rintro e w1 ⟨⟨p2, cc, q2, dd, qs, rfl, hmp, om⟩, hb1⟩
  obtain ⟨rz, hB⟩ := HQ.out
  replace rz := rz.below hb1 rz.lt
  have hs := hB.size
  replace hB := hB.trans (hb1.mono hB.size)
  replace om := om.mono hs
  simp only at om hmp
  have z0 : w1.cell? ⟨w.heap.size + 1, 0, none⟩ = some (.slice none 0 0) := rz.cell 0
  have z1 : w1.cell? ⟨w.heap.size + 1, 1, none⟩ = some (.slice none 0 0) := rz.cell 1
  have z2 : w1.cell? ⟨w.heap.size + 1, 2, none⟩ = some (.int .i64 0) := rz.cell 2
  have f0 := rz.frozen 0
  have f1 := rz.frozen 1
  have f2 := rz.frozen 2
  have HE : Hid (Row (((w1.setCell ⟨w.heap.size + 1, 0, none⟩ (.slice p2 RL.length cc)).setCell ⟨w.heap.size + 1, 1, none⟩ (.slice q2 RS.length dd)).setCell ⟨w.heap.size + 1, 2, none⟩ (.int .i64 RC)) (w.heap.size + 1) 28 [.slice p2 RL.length cc, .slice q2 RS.length dd, .int .i64 RC] ∧ OwnMesh (((w1.setCell ⟨w.heap.size + 1, 0, none⟩ (.slice p2 RL.length cc)).setCell ⟨w.heap.size + 1, 1, none⟩ (.slice q2 RS.length dd)).setCell ⟨w.heap.size + 1, 2, none⟩ (.int .i64 RC)) w.heap.size p2 RL.length cc q2 RS.length dd qs RS ∧ Below w.heap.size w (((w1.setCell ⟨w.heap.size + 1, 0, none⟩ (.slice p2 RL.length cc)).setCell ⟨w.heap.size + 1, 1, none⟩ (.slice q2 RS.length dd)).setCell ⟨w.heap.size + 1, 2, none⟩ (.int .i64 RC))) := ⟨((rz.set 0 (.slice p2 RL.length cc)).set 1 (.slice q2 RS.length dd)).set 2 (.int .i64 RC), om.kept (fun b t l ht hb => by
    have hne : b ≠ w.heap.size + 1 := fun e => by
      subst e
      have h1 := rz
      unfold Row at h1 hb
      rw [h1] at hb
      simp only [Option.some.injEq, Obj.cells.injEq] at hb
      rcases ht with e | e | e | e <;> (rw [e] at hb; exact absurd hb.2.1 (by decide))
    exact ((hb.other 0 (.slice p2 RL.length cc) hne).other 1 (.slice q2 RS.length dd) hne).other 2 (.int .i64 RC) hne), ((hB.setCell (p := ⟨w.heap.size + 1, 0, none⟩) (by show w.heap.size ≤ w.heap.size + 1; omega) (.slice p2 RL.length cc)).setCell (p := ⟨w.heap.size + 1, 1, none⟩) (by show w.heap.size ≤ w.heap.size + 1; omega) (.slice q2 RS.length dd)).setCell (p := ⟨w.heap.size + 1, 2, none⟩) (by show w.heap.size ≤ w.heap.size + 1; omega) (.int .i64 RC)⟩
  clear rz hB om hb1 HT HQ hs
  go_wp2_with fail
  obtain ⟨k1, k2, k3⟩ := HE.out
  clear HE z0 z1 z2 f0 f1 f2
  generalize (((w1.setCell ⟨w.heap.size + 1, 0, none⟩ (.slice p2 RL.length cc)).setCell ⟨w.heap.size + 1, 1, none⟩ (.slice q2 RS.length dd)).setCell ⟨w.heap.size + 1, 2, none⟩ (.int .i64 RC)) = Y at *
  have e0 : Y.cell? ⟨w.heap.size + 1, 0, none⟩ = some (.slice p2 RL.length cc) := k1.cell 0
  have e1 : Y.cell? ⟨w.heap.size + 1, 1, none⟩ = some (.slice q2 RS.length dd) := k1.cell 1
  have e2 : Y.cell? ⟨w.heap.size + 1, 2, none⟩ = some (.int .i64 RC) := k1.cell 2
  have hO : OutM w.heap.size (RC, RL, RS) (.returned (.agg #[.slice p2 RL.length cc, .slice q2 RS.length dd, .int .i64 RC])) Y := ⟨p2, cc, q2, dd, qs, rfl, hmp, k2⟩
  exact bodyPost_ret (v := .agg #[.slice p2 RL.length cc, .slice q2 RS.length dd, .int .i64 RC]) (by simp [results, Tryz.results22, go_sem, e0, e1, e2]) rfl ⟨hO, k3⟩
set_option maxRecDepth 100000 in
set_option maxHeartbeats 4000000 in
theorem implJoin_any (p : Option Addr) (c1 : Nat) (ps : List IvP) (q : Option Addr) (c2 : Nat) (ls : List Li) (n : Int) (w : World) (h : IvsIn w p ps) (hL : LisAt w q ls) (hq : q = none → c2 = 0) (hn : ps.length ≤ 100000000) (hl : ls.length ≤ 100000000) (hm : ∀ e ∈ ps, IvM e.1 e.2 ∧ (e.1.x = none → e.1.c1 = 0) ∧ (e.1.y = none → e.1.c2 = 0)) :
    Calls Tryz.prog 24 #[.agg #[.slice p ps.length c1, .slice q ls.length c2], .int .i64 n] w fun e w' => OutM w.heap.size (turnMO (ps.map (·.2)) ls n true) e w' ∧ Below w.heap.size w w' := by
  have rz := Row.new (w.alloc (.cells #[.slice p ps.length c1, .slice q ls.length c2] 26)) 28 [.slice none 0 0, .slice none 0 0, .int .i64 0]
  rw [show (w.alloc (.cells #[.slice p ps.length c1, .slice q ls.length c2] 26)).heap.size = w.heap.size + 1 by simp] at rz
  have hB : Below w.heap.size w ((w.alloc (.cells #[.slice p ps.length c1, .slice q ls.length c2] 26)).alloc (.cells #[.slice none 0 0, .slice none 0 0, .int .i64 0] 28)) := (ent_new0 w _).alloc (by simp) _
  have HT : Hid (Calls Tryz.prog 51 #[.agg #[.slice p ps.length c1, .slice q ls.length c2], .int .i64 n, .bool true] ((w.alloc (.cells #[.slice p ps.length c1, .slice q ls.length c2] 26)).alloc (.cells #[.slice none 0 0, .slice none 0 0, .int .i64 0] 28)) fun e w' => OutM ((w.alloc (.cells #[.slice p ps.length c1, .slice q ls.length c2] 26)).alloc (.cells #[.slice none 0 0, .slice none 0 0, .int .i64 0] 28)).heap.size (turnMO (ps.map (·.2)) ls n true) e w' ∧ Below ((w.alloc (.cells #[.slice p ps.length c1, .slice q ls.length c2] 26)).alloc (.cells #[.slice none 0 0, .slice none 0 0, .int .i64 0] 28)).heap.size ((w.alloc (.cells #[.slice p ps.length c1, .slice q ls.length c2] 26)).alloc (.cells #[.slice none 0 0, .slice none 0 0, .int .i64 0] 28)) w') := implTurned_any p c1 ps q c2 ls n true _ (h.below hB) (hL.below hB) hq hn hl hm
  have HQ : Hid _ := And.intro rz hB
  generalize turnMO (ps.map (·.2)) ls n true = RES at *
  obtain ⟨RC, RL, RS⟩ := RES
  clear rz hB h hL hq hn hl hm
  go_enter Tryz.func24, Tryz.ntmps24
  go_wp2_with fail
  refine (HT.out).mono ?_
  rintro e w1 ⟨⟨p2, cc, q2, dd, qs, rfl, hmp, om⟩, hb1⟩
  obtain ⟨rz, hB⟩ := HQ.out
  replace rz := rz.below hb1 rz.lt
  have hs := hB.size
  replace hB := hB.trans (hb1.mono hB.size)
  replace om := om.mono hs
  simp only at om hmp
  have z0 : w1.cell? ⟨w.heap.size + 1, 0, none⟩ = some (.slice none 0 0) := rz.cell 0
  have z1 : w1.cell? ⟨w.heap.size + 1, 1, none⟩ = some (.slice none 0 0) := rz.cell 1
  have z2 : w1.cell? ⟨w.heap.size + 1, 2, none⟩ = some (.int .i64 0) := rz.cell 2
  have f0 := rz.frozen 0
  have f1 := rz.frozen 1
  have f2 := rz.frozen 2
  have HE : Hid (Row (((w1.setCell ⟨w.heap.size + 1, 0, none⟩ (.slice p2 RL.length cc)).setCell ⟨w.heap.size + 1, 1, none⟩ (.slice q2 RS.length dd)).setCell ⟨w.heap.size + 1, 2, none⟩ (.int .i64 RC)) (w.heap.size + 1) 28 [.slice p2 RL.length cc, .slice q2 RS.length dd, .int .i64 RC] ∧ OwnMesh (((w1.setCell ⟨w.heap.size + 1, 0, none⟩ (.slice p2 RL.length cc)).setCell ⟨w.heap.size + 1, 1, none⟩ (.slice q2 RS.length dd)).setCell ⟨w.heap.size + 1, 2, none⟩ (.int .i64 RC)) w.heap.size p2 RL.length cc q2 RS.length dd qs RS ∧ Below w.heap.size w (((w1.setCell ⟨w.heap.size + 1, 0, none⟩ (.slice p2 RL.length cc)).setCell ⟨w.heap.size + 1, 1, none⟩ (.slice q2 RS.length dd)).setCell ⟨w.heap.size + 1, 2, none⟩ (.int .i64 RC))) := ⟨((rz.set 0 (.slice p2 RL.length cc)).set 1 (.slice q2 RS.length dd)).set 2 (.int .i64 RC), om.kept (fun b t l ht hb => by
    have hne : b ≠ w.heap.size + 1 := fun e => by
      subst e
      have h1 := rz
      unfold Row at h1 hb
      rw [h1] at hb
      simp only [Option.some.injEq, Obj.cells.injEq] at hb
      rcases ht with e | e | e | e <;> (rw [e] at hb; exact absurd hb.2.1 (by decide))
    exact ((hb.other 0 (.slice p2 RL.length cc) hne).other 1 (.slice q2 RS.length dd) hne).other 2 (.int .i64 RC) hne), ((hB.setCell (p := ⟨w.heap.size + 1, 0, none⟩) (by show w.heap.size ≤ w.heap.size + 1; omega) (.slice p2 RL.length cc)).setCell (p := ⟨w.heap.size + 1, 1, none⟩) (by show w.heap.size ≤ w.heap.size + 1; omega) (.slice q2 RS.length dd)).setCell (p := ⟨w.heap.size + 1, 2, none⟩) (by show w.heap.size ≤ w.heap.size + 1; omega) (.int .i64 RC)⟩
  clear rz hB om hb1 HT HQ hs
  go_wp2_with fail
  obtain ⟨k1, k2, k3⟩ := HE.out
  clear HE z0 z1 z2 f0 f1 f2
  generalize (((w1.setCell ⟨w.heap.size + 1, 0, none⟩ (.slice p2 RL.length cc)).setCell ⟨w.heap.size + 1, 1, none⟩ (.slice q2 RS.length dd)).setCell ⟨w.heap.size + 1, 2, none⟩ (.int .i64 RC)) = Y at *
  have e0 : Y.cell? ⟨w.heap.size + 1, 0, none⟩ = some (.slice p2 RL.length cc) := k1.cell 0
  have e1 : Y.cell? ⟨w.heap.size + 1, 1, none⟩ = some (.slice q2 RS.length dd) := k1.cell 1
  have e2 : Y.cell? ⟨w.heap.size + 1, 2, none⟩ = some (.int .i64 RC) := k1.cell 2
  have hO : OutM w.heap.size (RC, RL, RS) (.returned (.agg #[.slice p2 RL.length cc, .slice q2 RS.length dd, .int .i64 RC])) Y := ⟨p2, cc, q2, dd, qs, rfl, hmp, k2⟩
  exact bodyPost_ret (v := .agg #[.slice p2 RL.length cc, .slice q2 RS.length dd, .int .i64 RC]) (by simp [results, Tryz.results24, go_sem, e0, e1, e2]) rfl ⟨hO, k3⟩
end Go.Proofs.YtcnadobnihbldaaGreat
/- One Inst stored into a Mesh that is one's own. (By hand.) -/
namespace Go.Proofs.YtcnadobnihbldaaGreat
open Go.RowKit Go.Sort

theorem rowIv_put (qs : List IvP) (rest : List Value) (r : Nat) (hr : r < qs.length) (a : Ip) (T : Iv) :
    ((((rowIv qs ++ rest).set (r * 3) (.slice a.x T.is.length a.c1)).set (r * 3 + 1) (.slice a.y T.rs.length a.c2)).set (r * 3 + 2) (.int .i64 T.now)) = rowIv (qs.set r (a, T)) ++ rest := by
  have e1 : rowIv qs = rowIv (qs.take r) ++ (ivL qs[r].1 qs[r].2 ++ rowIv (qs.drop (r + 1))) := by
    rw [← rowIv_cons, ← rowIv_append]
    congr 1
    rw [← List.drop_eq_getElem_cons hr, List.take_append_drop]
  have e2 : rowIv (qs.set r (a, T)) = rowIv (qs.take r) ++ (ivL a T ++ rowIv (qs.drop (r + 1))) := by
    rw [← rowIv_cons (a, T), ← rowIv_append]
    congr 1
    rw [List.set_eq_take_append_cons_drop, if_pos hr]
  rw [e1, e2, List.append_assoc, List.append_assoc, List.append_assoc, List.append_assoc]
  exact set3Iv _ _ r (by rw [rowIv_length, List.length_take]; omega) _ _ _ _ _ _
/-- The three stores. -/
def putIv (w : World) (g r : Nat) (a : Ip) (T : Iv) : World := ((w.setCell ⟨g, r * 3, none⟩ (.slice a.x T.is.length a.c1)).setCell ⟨g, r * 3 + 1, none⟩ (.slice a.y T.rs.length a.c2)).setCell ⟨g, r * 3 + 2, none⟩ (.int .i64 T.now)
theorem putIv_other {w : World} {g r b : Nat} {a : Ip} {T : Iv} {t : TypeId} {l : List Value} (h : Row w b t l) (hne : b ≠ g) : Row (putIv w g r a T) b t l := ((h.other _ _ hne).other _ _ hne).other _ _ hne
theorem OwnMesh.store {w : World} {base gp : Nat} {n c : Nat} {q : Option Addr} {m d : Nat} {qs : List IvP} {ls : List Li} (h : OwnMesh w base (some ⟨gp, 0, none⟩) n c q m d qs ls) (hn : n = qs.length) {r N : Nat} (hr : r < qs.length) {a : Ip} {T : Iv} (ho : OwnIv w base a T)
    (hold : ∀ j (hj : j < qs.length) b, qs[j].1.x = some ⟨b, 0, none⟩ ∨ qs[j].1.y = some ⟨b, 0, none⟩ → b < N) (ha : a = qs[r].1 ∨ ∀ b, a.x = some ⟨b, 0, none⟩ ∨ a.y = some ⟨b, 0, none⟩ → N ≤ b) : OwnMesh (putIv w gp r a T) base (some ⟨gp, 0, none⟩) n c q m d (qs.set r (a, T)) ls ∧ base ≤ gp := by
  obtain ⟨h1, h2, h3, h4⟩ := h
  subst hn
  rcases owns_opened h1 with h0 | ⟨g, rest, e, hb, hc1, hc2, hrw, hl⟩
  · omega
  cases e
  have hkp : ∀ {ty : TypeId} {sz : Nat} {p : Option Addr} {n cv : Nat} {xs : List Value} {B : Nat}, ty ≠ 61 → w.ownsRow B ty sz (.slice p n cv) n xs → (putIv w gp r a T).ownsRow B ty sz (.slice p n cv) n xs := fun ht o => owns_kept o (fun b t l e hrow => putIv_other hrow (fun e2 => by
    subst e2
    exact owns_ne o hrw (Ne.symm ht) e))
  have hkI : ∀ {a3 : Ip} {t3 : Iv}, OwnIv w base a3 t3 → OwnIv (putIv w gp r a T) base a3 t3 := fun o => ⟨hkp (by decide) o.1, hkp (by decide) o.2⟩
  refine ⟨⟨?_, ?_, apQ_set h3 hr hold ha, hkp (by decide) h4⟩, hb⟩
  · have hr3 : Row (putIv w gp r a T) gp 61 (rowIv (qs.set r (a, T)) ++ rest) := by
      rw [← rowIv_put qs rest r hr a T]
      exact ((hrw.set (r * 3) _).set (r * 3 + 1) _).set (r * 3 + 2) _
    refine owns_shut (by rw [rowIv_length, List.length_set]; omega) hb hc1 hc2 hr3 ?_
    rw [List.length_append, rowIv_length, List.length_set]
    rw [List.length_append, rowIv_length] at hl
    exact hl
  · intro j hj
    rw [List.length_set] at hj
    rw [List.getElem_set]
    by_cases e : r = j
    · rw [if_pos e]; exact hkI ho
    · rw [if_neg e]; exact hkI (h2 j hj)
end Go.Proofs.YtcnadobnihbldaaGreat
