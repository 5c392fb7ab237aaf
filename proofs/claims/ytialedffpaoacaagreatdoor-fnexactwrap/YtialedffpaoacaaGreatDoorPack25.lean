/- Texts that stand on each other, in one file: WrpI, WrapI. -/
import Derived.Test.YtialedffpaoacaaGreatDoorPack23
import Derived.Test.YtialedffpaoacaaGreatDoorPack22
import Derived.Test.YtialedffpaoacaaGreatDoorPack18
/- What is sent of a tenant's Iface, by the program. (Written by gen_wrap.py.) -/
namespace Go.Proofs.YtialedffpaoacaaGreatDoor
open Go.RowKit Go.Sort

set_option maxRecDepth 100000 in
set_option maxHeartbeats 4000000 in
theorem wrapped_any (x : Option Addr) (c1 : Nat) (y : Option Addr) (c2 : Nat) (p : Option Addr) (n3 c3 : Nat) (q : Option Addr) (n4 c4 : Nat) (t : Tn) (k : Nat) (vl : Int) (all : Bool) (w : World) (h1 : IfsIn w x t.is) (hc : t.is.length ≤ c1) (hc1 : x = none → c1 = 0) (h2 : RtsIn w y t.rs) (hc2 : y = none → c2 = 0) (hn1 : t.is.length ≤ 100000000) (hk : k < t.is.length) (hW : Wr t t.is[k] (offL t.is[k] (k : Int) all t.rs)) (hv : vl = 0 ∨ 1 ≤ vl ∧ vl ≤ 4094) (hL : Laid w) :
    Calls Tryz.prog 26 #[.agg #[.slice x t.is.length c1, .slice y t.rs.length c2, .int .i64 t.now, .string t.key, .int .i64 t.qu, .slice p n3 c3, .slice q n4 c4, .int .i64 t.dr], .int .i64 (k : Int), .int .i64 vl, .bool all] w fun e w' => e = .returned (.string (wrapT t.is[k] t.key t.now (offL t.is[k] (k : Int) all t.rs) vl)) ∧ Below w.heap.size w w' := by
  have hOE : offerO t.is t.rs t.now (k : Int) all = (offL t.is[k] (k : Int) all t.rs) := by
    unfold offerO offL
    rw [if_pos hW.ins]
    have : ifAt t.is (k : Int) = some t.is[k] := by unfold ifAt; rw [if_pos (by omega), Int.toNat_natCast, List.getElem?_eq_getElem hk]
    rw [this]
  have hn2 := hW.rts
  have HOF : Hid (∀ w, IfsIn w x t.is → RtsIn w y t.rs → Calls Tryz.prog 57 #[.agg #[.slice x t.is.length c1, .slice y t.rs.length c2, .int .i64 t.now], .int .i64 (k : Int), .bool all] w fun e w' => (∃ p' c', e = .returned (.slice p' (offL t.is[k] (k : Int) all t.rs).length c') ∧ EntsIn w' p' (offL t.is[k] (k : Int) all t.rs)) ∧ Below w.heap.size w w') := fun w a b => by
    refine (implOffer_any x c1 y c2 t.is t.rs t.now (k : Int) all w a hc hc1 b hc2 hn1 (by omega)).mono ?_
    rintro e w' ⟨⟨v, rfl, ho⟩, hb⟩
    rw [hOE] at ho
    obtain ⟨p', c', rfl, hE⟩ := ho.form
    exact ⟨⟨p', c', rfl, hE⟩, hb⟩
  have hkey : t.key.size ≤ 32 := by have := hW.key; unfold inKey at this; exact (of_decide_eq_true this).2
  have hnow := hW.now
  have hWT : frmdO vl t.is[k].d (offL t.is[k] (k : Int) all t.rs) t.key t.now = (wrapT t.is[k] t.key t.now (offL t.is[k] (k : Int) all t.rs) vl) ∨ (offL t.is[k] (k : Int) all t.rs) = [] := by
    by_cases he : (offL t.is[k] (k : Int) all t.rs) = []
    · exact .inr he
    refine .inl ?_
    unfold frmdO
    rw [hW.sign]
    by_cases hn : t.now = 0
    · rw [if_pos hn, if_pos rfl]
      exact (if_pos (.inr (.inl hn))).symm
    rw [if_neg hn, if_neg (fun h => by have := congrArg ByteArray.size h; rw [signT_size] at this; simp [ByteArray.size] at this)]
    exact hW.wire hv he hn
  have HW0 : Hid ((offL t.is[k] (k : Int) all t.rs) = [] → (wrapT t.is[k] t.key t.now (offL t.is[k] (k : Int) all t.rs) vl) = ByteArray.empty) := fun h => if_pos (.inl h)
  have HFM : Hid ((offL t.is[k] (k : Int) all t.rs) ≠ [] → ∀ p' c' w, EntsIn w p' (offL t.is[k] (k : Int) all t.rs) → Laid w → Calls Tryz.prog 58 #[.int .i64 vl, .int .i64 t.is[k].d, .slice p' (offL t.is[k] (k : Int) all t.rs).length c', .string t.key, .int .i64 t.now] w fun e w' => e = .returned (.string (wrapT t.is[k] t.key t.now (offL t.is[k] (k : Int) all t.rs) vl)) ∧ Below w.heap.size w w') := fun he p' c' w h hL => by
    rw [← hWT.resolve_right he]
    have := hW.now
    exact framed_any vl _ p' c' _ t.key t.now w h (by have := hW.few; omega) (by have := hW.key; unfold inKey at this; exact Nat.le_trans (of_decide_eq_true this).2 (by decide)) (by omega) hL
  have HX : Hid (IfsIn w x t.is ∧ RtsIn w y t.rs ∧ Laid w) := ⟨h1, h2, hL⟩
  have HK : Hid (k < t.is.length) := hk
  obtain ⟨is, rs, now, key, qu, ss, es0, dr⟩ := t
  simp only at *
  have HF : Hid (∀ f, is[k] = f → is[k].d = f.d) := fun f e => by rw [e]
  clear h1 h2 hc hc1 hc2 hW hv hOE hn2 hWT
  generalize (wrapT is[k] key now (offL is[k] (k : Int) all rs) vl) = RES at *
  generalize (offL is[k] (k : Int) all rs) = ES at *
  generalize is[k].d = FD at *
  have HQ : Hid _ := And.intro (Row.new w 55 [.slice x is.length c1, .slice y rs.length c2, .int .i64 now, .string key, .int .i64 qu, .slice p n3 c3, .slice q n4 c4, .int .i64 dr]) (ent_new0 w (.cells #[.slice x is.length c1, .slice y rs.length c2, .int .i64 now, .string key, .int .i64 qu, .slice p n3 c3, .slice q n4 c4, .int .i64 dr] 55))
  go_enter Tryz.func26, Tryz.ntmps26
  go_wp2_with fail
  obtain ⟨q0, hB⟩ := HQ.out
  clear HQ
  refine (HOF.out _ (HX.out.1.below hB) (HX.out.2.1.below hB)).mono ?_
  rintro e w1 ⟨⟨p', c', rfl, hE⟩, hb1⟩
  replace q0 := q0.below hb1 q0.lt
  replace hB := hB.trans (hb1.mono hB.size)
  clear hb1 HOF
  by_cases hE0 : ES = []
  · have hr := HW0.out hE0
    subst hE0
    clear HW0 HFM HX HF q0 hE
    go_wp2_with fail
    go_ret
    exact ⟨by first | rfl | (rw [hr]; rfl), hB⟩
  have hlen : 0 < ES.length := List.length_pos_iff.2 hE0
  have dz : ((ES.length : Int) == 0) = false := by simp; omega
  have HFN : Hid _ := HFM.out hE0
  clear HFM HW0 hE0 hlen
  have hkk := HK.out
  obtain ⟨gi, fd, fa, fl, fc, fu, rfl, hgi, hfk, e0, e1, e2, e3, e4⟩ := (HX.out.1.below hB).at k hkk
  have hfd := HF.out _ hfk
  simp only at hfd
  subst hfd
  clear hfk HF
  have dk : decide ((k : Int) < (is.length : Int)) = true := by simpa using hkk
  have s0 : w1.cell? ⟨w.heap.size, 0, none⟩ = some (.slice (some ⟨gi, 0, none⟩) is.length c1) := q0.cell 0
  have s1 : w1.cell? ⟨w.heap.size, 1, none⟩ = some (.slice y rs.length c2) := q0.cell 1
  have s2 : w1.cell? ⟨w.heap.size, 2, none⟩ = some (.int .i64 now) := q0.cell 2
  have s3 : w1.cell? ⟨w.heap.size, 3, none⟩ = some (.string key) := q0.cell 3
  have s4 : w1.cell? ⟨w.heap.size, 4, none⟩ = some (.int .i64 qu) := q0.cell 4
  have s5 : w1.cell? ⟨w.heap.size, 5, none⟩ = some (.slice p n3 c3) := q0.cell 5
  have s6 : w1.cell? ⟨w.heap.size, 6, none⟩ = some (.slice q n4 c4) := q0.cell 6
  have s7 : w1.cell? ⟨w.heap.size, 7, none⟩ = some (.int .i64 dr) := q0.cell 7
  have HL1 := HX.out.2.2.below hB
  have HFR : Hid (∀ d os, Calls Tryz.prog 58 #[.int .i64 vl, .int .i64 FD, .slice p' ES.length c', .string key, .int .i64 now] (grow (redrawn w1 d) os) fun e w'' => e = .returned (.string RES) ∧ ∃ p : Regrown, w'' = grow (redrawn w1 p.d) p.os) := fun d os => Calls.regrown_of (HFN.out _ _ _ (hE.below (below_regrown w1 d os)) (HL1.below (below_regrown w1 d os)))
  have HB : Hid _ := hB
  clear HX HFN hE HL1 q0 hB
  replace s0 := cell_regrown s0
  replace s1 := cell_regrown s1
  replace s2 := cell_regrown s2
  replace s3 := cell_regrown s3
  replace s4 := cell_regrown s4
  replace s5 := cell_regrown s5
  replace s6 := cell_regrown s6
  replace s7 := cell_regrown s7
  replace e0 := cell_regrown e0
  replace e1 := cell_regrown e1
  replace e2 := cell_regrown e2
  replace e3 := cell_regrown e3
  replace e4 := cell_regrown e4
  go_wp2_with fail
  refine wp_region_quiet_below (by kernel_rfl) (by kernel_rfl) ?_
  repeat (go_big_quiet_step (first | (go_at_call 58; exact HFR.out _ _)))
  refine wpQuiet_nil ?_
  intro w3 hw'
  obtain ⟨⟨dq, osq⟩, hw''⟩ := hw'
  have hbq := below_regrown w1 dq osq
  rw [← hw''] at hbq
  have hB := HB.out.trans (hbq.mono HB.out.size)
  clear hbq hw'' osq dq HB HFR s0 s1 s2 s3 s4 s5 s6 s7 e0 e1 e2 e3 e4 dk hkk HK
  go_wp2_with fail
  go_ret
  exact ⟨rfl, hB⟩
end Go.Proofs.YtialedffpaoacaaGreatDoor
/- Wrap of the program. (Written by gen_wrap.py.) -/
namespace Go.Proofs.YtialedffpaoacaaGreatDoor
open Go.RowKit Go.Sort

set_option maxRecDepth 100000 in
set_option maxHeartbeats 4000000 in
theorem implWrap_any (p : Option Addr) (cap : Nat) (ps : List TnP) (pb : Option Addr) (cb : Nat) (l : List Bd) (pl : Option Addr) (cl : Nat) (ls : List Lk) (lost : Int) (n i : Int) (all : Bool) (w : World) (h : TensIn w p ps) (hb0 : BdsIn w pb l) (hk0 : LksIn w pl ls) (hn : ps.length ≤ 100000000) (hm : ∀ e ∈ ps, TnM e.2 ∧ TpO e.1 e.2) (hl : l.length ≤ 100000000) (hk : ls.length ≤ 100000000) (hL : Laid w) :
    Calls Tryz.prog 8 #[.agg #[.slice p ps.length cap, .slice pb l.length cb, .slice pl ls.length cl, .int .i64 lost], .int .i64 n, .int .i64 i, .bool all] w fun e w' => e = .returned (.string (wrapO (ps.map (·.2)) l ls lost n i all)) ∧ Below w.heap.size w w' := by
  have HBX : Hid (∀ w, TensIn w p ps → BdsIn w pb l → LksIn w pl ls → Calls Tryz.prog 24 #[.agg #[.slice p ps.length cap, .slice pb l.length cb, .slice pl ls.length cl, .int .i64 lost]] w fun e w' => e = .returned (.bool (boxB (ps.map (·.2)) l ls lost)) ∧ Below w.heap.size w w') := fun w a b c => implBox_any p cap ps pb cb l pl cl ls lost w a b c hn (fun e he => ⟨(hm e he).1, (hm e he).2.1⟩) hl hk
  have HFC : Hid (∀ w, TensIn w p ps → Calls Tryz.prog 25 #[.agg #[.int .i64 n, .int .i64 i], .agg #[.slice p ps.length cap, .slice pb l.length cb, .slice pl ls.length cl, .int .i64 lost]] w fun e w' => e = .returned (.bool (inFc (ps.map (·.2)) n i)) ∧ Below w.heap.size w w') := fun w a => fitsI_any n i p cap ps pb l.length cb pl ls.length cl lost w a hn
  have HX : Hid (TensIn w p ps ∧ BdsIn w pb l ∧ LksIn w pl ls ∧ Laid w) := ⟨h, hb0, hk0, hL⟩
  have HR : Hid (wrapO (ps.map (·.2)) l ls lost n i all = if (boxB (ps.map (·.2)) l ls lost && inFc (ps.map (·.2)) n i) = true then wrapT ((ps.map (fun x : TnP => x.2))[n.toNat]!).is[i.toNat]! ((ps.map (fun x : TnP => x.2))[n.toNat]!).key ((ps.map (fun x : TnP => x.2))[n.toNat]!).now (offL ((ps.map (fun x : TnP => x.2))[n.toNat]!).is[i.toNat]! i all ((ps.map (fun x : TnP => x.2))[n.toNat]!).rs) (vlF l n i) else ByteArray.empty) := rfl
  generalize hWO : wrapO (ps.map (·.2)) l ls lost n i all = WO at *
  clear h hb0 hk0 hk hL hWO
  have r0 := (Row.new w 33 [.slice p ps.length cap, .slice pb l.length cb, .slice pl ls.length cl, .int .i64 lost]).alloc (.cells #[.int .i64 n, .int .i64 i] 62)
  have rz := Row.new (w.alloc (.cells #[.slice p ps.length cap, .slice pb l.length cb, .slice pl ls.length cl, .int .i64 lost] 33)) 62 [.int .i64 n, .int .i64 i]
  rw [show (w.alloc (.cells #[.slice p ps.length cap, .slice pb l.length cb, .slice pl ls.length cl, .int .i64 lost] 33)).heap.size = w.heap.size + 1 by simp] at rz
  have hB : Below w.heap.size w ((w.alloc (.cells #[.slice p ps.length cap, .slice pb l.length cb, .slice pl ls.length cl, .int .i64 lost] 33)).alloc (.cells #[.int .i64 n, .int .i64 i] 62)) := (ent_new0 w _).alloc (by simp) _
  have HQ : Hid _ := And.intro r0 (And.intro rz hB)
  clear r0 rz hB
  go_enter Tryz.func8, Tryz.ntmps8
  go_wp2_with fail
  obtain ⟨r0, rz, hB⟩ := HQ.out
  clear HQ
  refine (HBX.out _ (HX.out.1.below hB) (HX.out.2.1.below hB) (HX.out.2.2.1.below hB)).mono ?_
  rintro e w1 ⟨rfl, hb1⟩
  replace r0 := r0.below hb1 r0.lt
  replace rz := rz.below hb1 rz.lt
  replace hB := hB.trans (hb1.mono hB.size)
  clear hb1 HBX
  have hR := HR.out
  clear HR
  cases hBX : boxB (ps.map (·.2)) l ls lost
  · rw [hBX] at hR
    simp only [Bool.false_and, Bool.false_eq_true, if_false] at hR
    clear hBX HX HFC hm r0 rz
    go_wp2
    go_ret
    exact ⟨by first | rfl | (rw [hR]; rfl), hB⟩
  rw [hBX, Bool.true_and] at hR
  have HBXt : Hid _ := hBX
  clear hBX
  have s0 : w1.cell? ⟨w.heap.size, 0, none⟩ = some (.slice p ps.length cap) := r0.cell 0
  have s1 : w1.cell? ⟨w.heap.size, 1, none⟩ = some (.slice pb l.length cb) := r0.cell 1
  have s2 : w1.cell? ⟨w.heap.size, 2, none⟩ = some (.slice pl ls.length cl) := r0.cell 2
  have s3 : w1.cell? ⟨w.heap.size, 3, none⟩ = some (.int .i64 lost) := r0.cell 3
  have y0 : w1.cell? ⟨w.heap.size + 1, 0, none⟩ = some (.int .i64 n) := rz.cell 0
  have y1 : w1.cell? ⟨w.heap.size + 1, 1, none⟩ = some (.int .i64 i) := rz.cell 1
  go_wp2_with fail
  clear s0 s1 s2 s3 y0 y1
  refine (HFC.out _ (HX.out.1.below hB)).mono ?_
  rintro e w2 ⟨rfl, hb2⟩
  replace r0 := r0.below hb2 r0.lt
  replace hB := hB.trans (hb2.mono hB.size)
  clear hb2 HFC rz
  cases hi : inFc (ps.map (·.2)) n i
  · rw [hi] at hR
    simp only [Bool.false_eq_true, if_false] at hR
    clear HX hm HBXt hi r0
    go_wp2
    go_ret
    exact ⟨by first | rfl | (rw [hR]; rfl), hB⟩
  rw [hi] at hR
  have hn0 : (0 ≤ n ∧ n < (ps.length : Int)) ∧ 0 ≤ i ∧ i < (((ps.map (fun x : TnP => x.2))[n.toNat]!).is.length : Int) := by
    unfold inFc inTn at hi
    simp only [Bool.and_eq_true, decide_eq_true_eq, List.length_map] at hi
    exact hi
  clear hi
  obtain ⟨m, rfl⟩ : ∃ m : Nat, n = (m : Int) := ⟨n.toNat, by omega⟩
  obtain ⟨k, rfl⟩ : ∃ k : Nat, i = (k : Int) := ⟨i.toNat, by omega⟩
  have hm2 : m < ps.length := by omega
  simp only [if_true, Int.toNat_natCast] at hR hn0
  have HKK : Hid _ := And.intro r0 hB
  obtain ⟨g, a, t, rfl, hg, hek, hI, c0, c1, c2, c3, c4, c5, c6, c7⟩ := (HX.out.1.below hB).at m hm2
  obtain ⟨r0, hB⟩ := HKK.out
  clear HKK
  rw [tn_at hm2 hek] at hR hn0
  have hkk : k < t.is.length := by omega
  rw [getElem!_pos t.is k hkk] at hR
  have hTT : tenT t = true := by
    have := ten_of HBXt.out (k := m) (by simpa using hm2)
    rw [tn_at' hm2 hek] at this
    exact this
  have hMM := hm _ (List.getElem_mem hm2)
  rw [hek] at hMM
  have hW := wr_of hTT hkk (k : Int) all
  have hvl := vlF_in (binds_of HBXt.out) (m : Int) (k : Int)
  have HV : Hid (∀ d os, Calls Tryz.prog 27 #[.slice pb l.length cb, .int .i64 (m : Int), .int .i64 (k : Int)] (grow (redrawn w2 d) os) fun e w'' => e = .returned (.int .i64 (vlF l (m : Int) (k : Int))) ∧ ∃ p : Regrown, w'' = grow (redrawn w2 p.d) p.os) := fun d os => Calls.regrown_of (vlanOf_any pb cb l m k _ ((HX.out.2.1.below hB).below (below_regrown w2 d os)) hl)
  have HWR : Hid (∀ d os, Calls Tryz.prog 26 #[.agg #[.slice a.x t.is.length a.c1, .slice a.y t.rs.length a.c2, .int .i64 t.now, .string t.key, .int .i64 t.qu, .slice a.p t.ss.length a.c3, .slice a.q t.es.length a.c4, .int .i64 t.dr], .int .i64 (k : Int), .int .i64 (vlF l (m : Int) (k : Int)), .bool all] (grow (redrawn w2 d) os) fun e w'' => e = .returned (.string WO) ∧ ∃ p : Regrown, w'' = grow (redrawn w2 p.d) p.os) := fun d os => Calls.regrown_of (by
    rw [hR]
    exact wrapped_any a.x a.c1 a.y a.c2 a.p t.ss.length a.c3 a.q t.es.length a.c4 t k _ all _ (hI.1.below (below_regrown w2 d os)) hMM.2.1 hMM.2.2.1 (hI.2.1.below (below_regrown w2 d os)) hMM.2.2.2 hMM.1.1.1 hkk hW hvl ((HX.out.2.2.2.below hB).below (below_regrown w2 d os)))
  clear hI hek hR HBXt hm HX hTT hMM hW hvl
  generalize vlF l (m : Int) (k : Int) = V at *
  generalize a.x = ax at *
  generalize a.y = ay at *
  generalize a.p = ap at *
  generalize a.q = aq at *
  generalize a.c1 = ac1 at *
  generalize a.c2 = ac2 at *
  generalize a.c3 = ac3 at *
  generalize a.c4 = ac4 at *
  generalize t.is.length = tn1 at *
  generalize t.rs.length = tn2 at *
  generalize t.ss.length = tn3 at *
  generalize t.es.length = tn4 at *
  generalize t.now = tw at *
  generalize t.key = tk at *
  generalize t.qu = tq at *
  generalize t.dr = td at *
  have s0 : w2.cell? ⟨w.heap.size, 0, none⟩ = some (.slice (some ⟨g, 0, none⟩) ps.length cap) := r0.cell 0
  have s1 : w2.cell? ⟨w.heap.size, 1, none⟩ = some (.slice pb l.length cb) := r0.cell 1
  replace s0 := cell_regrown s0
  replace s1 := cell_regrown s1
  replace c0 := cell_regrown c0
  replace c1 := cell_regrown c1
  replace c2 := cell_regrown c2
  replace c3 := cell_regrown c3
  replace c4 := cell_regrown c4
  replace c5 := cell_regrown c5
  replace c6 := cell_regrown c6
  replace c7 := cell_regrown c7
  have dmm : decide ((m : Int) < (ps.length : Int)) = true := by simpa using hm2
  have HB : Hid _ := hB
  clear hB r0
  go_wp2_with fail
  refine wp_region_quiet_below (by kernel_rfl) (by kernel_rfl) ?_
  repeat (go_big_quiet_step (first | (go_at_call 27; exact HV.out _ _) | (go_at_call 26; exact HWR.out _ _)))
  refine wpQuiet_nil ?_
  intro w3 hw'
  obtain ⟨⟨dq, osq⟩, hw''⟩ := hw'
  have hbq := below_regrown w2 dq osq
  rw [← hw''] at hbq
  have hB := HB.out.trans (hbq.mono HB.out.size)
  clear hbq hw'' osq dq HB HV HWR c0 c1 c2 c3 c4 c5 c6 c7 s0 s1
  go_wp2_with fail
  go_ret
  exact ⟨rfl, hB⟩
end Go.Proofs.YtialedffpaoacaaGreatDoor
