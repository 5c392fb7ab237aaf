/- Texts that stand on each other, in one file: Wrp9, WrapS. -/
import Derived.Test.YtialedffpaoacaaGreatDoorPack23
import Derived.Test.YtialedffpaoacaaGreatDoorPack15
import Derived.Test.YtialedffpaoacaaGreatDoorPack17
import Derived.Test.YtialedffpaoacaaGreatDoorPack19
import Derived.Test.YtialedffpaoacaaGreatDoorPack18
/- What is sent of a tenant's Iface, by the model. (Written by gen_wrap.py.) -/
namespace Go.Proofs.YtialedffpaoacaaGreatDoor
open Go.RowKit Go.Sort

set_option maxRecDepth 100000 in
set_option maxHeartbeats 4000000 in
theorem l09Dgram_any (s : Int) (t : ByteArray) (w : World) : Calls Tryz.prog 48 #[.int .i64 s, .string t] w fun e w' => e = .returned (dgV s 3758096393 520 520 1 t) ∧ Below w.heap.size w w' := by
  unfold dgV
  go_enter Tryz.func48, Tryz.ntmps48
  go_wp2_with fail
  exact bodyPost_ret (v := .agg #[.int .i64 s, .int .i64 3758096393, .int .i64 520, .int .i64 520, .int .i64 1, .string t]) (by simp [results, Tryz.results48, go_sem]) rfl ⟨rfl, ent_new0 w _⟩
set_option maxRecDepth 100000 in
set_option maxHeartbeats 4000000 in
theorem l09Wrap_any (p : Option Addr) (cap : Nat) (ps : List TnP) (pb : Option Addr) (cb : Nat) (l : List Bd) (pl : Option Addr) (nl cl : Nat) (lost : Int) (m : Nat) (a : Tp) (t : Tn) (k : Nat) (all : Bool) (w : World) (h : TensIn w p ps) (hb0 : BdsIn w pb l) (hm2 : m < ps.length) (hek : ps[m] = (a, t)) (hl : l.length ≤ 100000000) (hn1 : t.is.length ≤ 100000000) (hk : k < t.is.length) (hW : Wr t t.is[k] (offL t.is[k] (k : Int) all t.rs)) (hbv : ∀ b ∈ l, 1 ≤ b.vl ∧ b.vl ≤ 4094) :
    Calls Tryz.prog 20 #[.agg #[.slice p ps.length cap, .slice pb l.length cb, .slice pl nl cl, .int .i64 lost], .int .i64 (m : Int), .int .i64 (k : Int), .bool all] w fun e w' => e = .returned (.string (wrapT t.is[k] t.key t.now (offL t.is[k] (k : Int) all t.rs) (vlF l (m : Int) (k : Int)))) ∧ Below w.heap.size w w' := by
  obtain ⟨g, a', t', rfl, hg, hek', hI, c0, c1, c2, c3, c4, c5, c6, c7⟩ := (h.below (ent_new0 w (.cells #[.slice p ps.length cap, .slice pb l.length cb, .slice pl nl cl, .int .i64 lost] 33))).at m hm2
  rw [hek] at hek'
  cases hek'
  have hX := hb0.alloc (.cells #[.slice (some ⟨g, 0, none⟩) ps.length cap, .slice pb l.length cb, .slice pl nl cl, .int .i64 lost] 33)
  have HOF : Hid (∀ w, IfsIn w a.x t.is → RtsIn w a.y t.rs → Calls Tryz.prog 44 #[.agg #[.slice a.x t.is.length a.c1, .slice a.y t.rs.length a.c2, .int .i64 t.now], .int .i64 (k : Int), .bool all] w fun e w' => (∃ p' c', e = .returned (.slice p' (offL t.is[k] (k : Int) all t.rs).length c') ∧ EntsIn w' p' (offL t.is[k] (k : Int) all t.rs)) ∧ Below w.heap.size w w') := fun w x y => by
    refine (l07Offer_any a.x a.c1 a.y a.c2 t.is t.rs t.now k all w x y hk hW.rts).mono ?_
    rintro e w' ⟨⟨v, rfl, ho⟩, hb⟩
    obtain ⟨p', c', rfl, hE⟩ := (show OwnE w' w.heap.size v (offL t.is[k] (k : Int) all t.rs) from ho).form
    exact ⟨⟨p', c', rfl, hE⟩, hb⟩
  have HSG : Hid (t.now ≠ 0 → ∀ p' c' w, EntsIn w p' (offL t.is[k] (k : Int) all t.rs) → Calls Tryz.prog 45 #[.agg #[.int .i64 2, .slice p' (offL t.is[k] (k : Int) all t.rs).length c'], .string t.key, .int .i64 t.now] w fun e w' => e = .returned (.string (signT 2 (offL t.is[k] (k : Int) all t.rs) t.key t.now)) ∧ Below w.heap.size w w') := fun hn p' c' w h => spec05Sign_any 2 p' c' _ t.key t.now w h hW.rip hW.key (hW.seq hn)
  have HGD : Hid (∀ (s : Int) (t : ByteArray) (w : World), Calls Tryz.prog 48 #[.int .i64 s, .string t] w fun e w' => e = .returned (.agg #[.int .i64 s, .int .i64 3758096393, .int .i64 520, .int .i64 520, .int .i64 1, .string t]) ∧ Below w.heap.size w w') := l09Dgram_any
  have HDG : Hid (∀ w, Calls Tryz.prog 47 #[.agg #[.int .i64 t.is[k].d, .int .i64 3758096393, .int .i64 520, .int .i64 520, .int .i64 1, .string (signT 2 (offL t.is[k] (k : Int) all t.rs) t.key t.now)]] w fun e w' => e = .returned (.string (dgT t.is[k].d 3758096393 520 520 1 (signT 2 (offL t.is[k] (k : Int) all t.rs) t.key t.now))) ∧ Below w.heap.size w w') := fun w => specDgram_any t.is[k].d 3758096393 520 520 1 (signT 2 (offL t.is[k] (k : Int) all t.rs) t.key t.now) w hW.dg
  have HFR : Hid (∀ v, 1 ≤ v → v ≤ 4094 → ∀ w, Calls Tryz.prog 46 #[.agg #[.int .i64 v, .string (dgT t.is[k].d 3758096393 520 520 1 (signT 2 (offL t.is[k] (k : Int) all t.rs) t.key t.now))]] w fun e w' => e = .returned (.string (frT v (dgT t.is[k].d 3758096393 520 520 1 (signT 2 (offL t.is[k] (k : Int) all t.rs) t.key t.now)))) ∧ Below w.heap.size w w') := fun v a b w => by
    rw [← frT_eq]
    exact specFrame_any v (dgT t.is[k].d 3758096393 520 520 1 (signT 2 (offL t.is[k] (k : Int) all t.rs) t.key t.now)) w a b (by rw [dgT_size, signT_size]; have := hW.few; omega)
  have HW0 : Hid (∀ v, (offL t.is[k] (k : Int) all t.rs) = [] ∨ t.now = 0 → wrapT t.is[k] t.key t.now (offL t.is[k] (k : Int) all t.rs) v = ByteArray.empty) := fun v h => if_pos (by rcases h with h | h; exact .inl h; exact .inr (.inl h))
  have HWZ : Hid (wrapT t.is[k] t.key t.now (offL t.is[k] (k : Int) all t.rs) 0 = ByteArray.empty) := if_pos (.inr (.inr rfl))
  have HW1 : Hid (∀ v, (offL t.is[k] (k : Int) all t.rs) ≠ [] → t.now ≠ 0 → 1 ≤ v → wrapT t.is[k] t.key t.now (offL t.is[k] (k : Int) all t.rs) v = frT v (dgT t.is[k].d 3758096393 520 520 1 (signT 2 (offL t.is[k] (k : Int) all t.rs) t.key t.now))) := fun v a b c => if_neg (by rintro (h | h | h); exact a h; exact b h; omega)
  have HF : Hid (∀ f, t.is[k] = f → t.is[k].d = f.d) := fun f e => by rw [e]
  have HBV : Hid (∀ b ∈ l, 1 ≤ b.vl ∧ b.vl ≤ 4094) := hbv
  have HVF : Hid (∀ j (hj : j < l.length), (∀ i' (hi : i' < l.length), i' < j → isFc (m : Int) (k : Int) l[i'] = false) → isFc (m : Int) (k : Int) l[j] = true → vlF l (m : Int) (k : Int) = l[j].vl) := fun j hj a b => vlF_some hj a b
  have HVG : Hid ((∀ j (hj : j < l.length), isFc (m : Int) (k : Int) l[j] = false) → vlF l (m : Int) (k : Int) = 0) := vlF_none
  have HK : Hid (k < t.is.length) := hk
  have HM : Hid (m < ps.length) := hm2
  have hnl : t.now = 0 ∨ t.now ≠ 0 := Decidable.em _
  have HRS : Hid (IfsIn (w.alloc (.cells #[.slice (some ⟨g, 0, none⟩) ps.length cap, .slice pb l.length cb, .slice pl nl cl, .int .i64 lost] 33)) a.x t.is ∧ RtsIn (w.alloc (.cells #[.slice (some ⟨g, 0, none⟩) ps.length cap, .slice pb l.length cb, .slice pl nl cl, .int .i64 lost] 33)) a.y t.rs ∧ BdsIn (w.alloc (.cells #[.slice (some ⟨g, 0, none⟩) ps.length cap, .slice pb l.length cb, .slice pl nl cl, .int .i64 lost] 33)) pb l) := ⟨hI.1, hI.2.1, hX⟩
  clear h hb0 hek hI hX hbv hW
  generalize vlF l (m : Int) (k : Int) = VV at *
  generalize wrapT t.is[k] t.key t.now (offL t.is[k] (k : Int) all t.rs) = WF at *
  generalize (dgT t.is[k].d 3758096393 520 520 1 (signT 2 (offL t.is[k] (k : Int) all t.rs) t.key t.now)) = DG at *
  generalize (signT 2 (offL t.is[k] (k : Int) all t.rs) t.key t.now) = SG at *
  generalize (offL t.is[k] (k : Int) all t.rs) = ES at *
  obtain ⟨is, rs, tw, tk, tq, ss, es0, td⟩ := t
  simp only at *
  generalize is[k].d = FD at *
  generalize ss.length = tn3 at *
  generalize es0.length = tn4 at *
  generalize a.x = ax at *
  generalize a.y = ay at *
  generalize a.p = ap at *
  generalize a.q = aq at *
  generalize a.c1 = ac1 at *
  generalize a.c2 = ac2 at *
  generalize a.c3 = ac3 at *
  generalize a.c4 = ac4 at *
  have q0 := Row.new w 33 [.slice (some ⟨g, 0, none⟩) ps.length cap, .slice pb l.length cb, .slice pl nl cl, .int .i64 lost]
  have hB := ent_new0 w (.cells #[.slice (some ⟨g, 0, none⟩) ps.length cap, .slice pb l.length cb, .slice pl nl cl, .int .i64 lost] 33)
  generalize hW0 : w.alloc (.cells #[.slice (some ⟨g, 0, none⟩) ps.length cap, .slice pb l.length cb, .slice pl nl cl, .int .i64 lost] 33) = W0 at *
  have hb0 : w.heap.size < W0.heap.size := by rw [← hW0]; simp
  have hz0 : W0.heap.size = w.heap.size + 1 := by rw [← hW0]; simp
  have qt := Row.new W0 55 [.slice ax is.length ac1, .slice ay rs.length ac2, .int .i64 tw, .string tk, .int .i64 tq, .slice ap tn3 ac3, .slice aq tn4 ac4, .int .i64 td]
  rw [hz0] at qt
  have HA : Hid _ := And.intro (q0.alloc (.cells #[.slice ax is.length ac1, .slice ay rs.length ac2, .int .i64 tw, .string tk, .int .i64 tq, .slice ap tn3 ac3, .slice aq tn4 ac4, .int .i64 td] 55)) (And.intro qt (And.intro (hB.alloc hB.size (.cells #[.slice ax is.length ac1, .slice ay rs.length ac2, .int .i64 tw, .string tk, .int .i64 tq, .slice ap tn3 ac3, .slice aq tn4 ac4, .int .i64 td] 55)) (And.intro (HRS.out.1.alloc (.cells #[.slice ax is.length ac1, .slice ay rs.length ac2, .int .i64 tw, .string tk, .int .i64 tq, .slice ap tn3 ac3, .slice aq tn4 ac4, .int .i64 td] 55)) (And.intro (HRS.out.2.1.alloc (.cells #[.slice ax is.length ac1, .slice ay rs.length ac2, .int .i64 tw, .string tk, .int .i64 tq, .slice ap tn3 ac3, .slice aq tn4 ac4, .int .i64 td] 55)) (HRS.out.2.2.alloc (.cells #[.slice ax is.length ac1, .slice ay rs.length ac2, .int .i64 tw, .string tk, .int .i64 tq, .slice ap tn3 ac3, .slice aq tn4 ac4, .int .i64 td] 55))))))
  have s0 : W0.cell? ⟨w.heap.size, 0, none⟩ = some (.slice (some ⟨g, 0, none⟩) ps.length cap) := q0.cell 0
  have dmm : decide ((m : Int) < (ps.length : Int)) = true := by simpa using hm2
  clear q0 hB qt HRS hz0
  subst hW0
  go_enter Tryz.func20, Tryz.ntmps20
  go_wp2_with fail
  obtain ⟨q0, qt, hB, hIs, hRs, hBd⟩ := HA.out
  refine (HOF.out _ hIs hRs).mono ?_
  rintro e w1 ⟨⟨p', c', rfl, hE⟩, hb1⟩
  replace q0 := q0.below hb1 q0.lt
  replace qt := qt.below hb1 qt.lt
  replace hB := hB.trans (hb1.mono hB.size)
  replace hIs := hIs.below hb1
  replace hBd := hBd.below hb1
  clear hb1 HOF HA hRs s0 c0 c1 c2 c3 c4 c5 c6 c7 dmm
  have t2 : w1.cell? ⟨w.heap.size + 1, 2, none⟩ = some (.int .i64 tw) := qt.cell 2
  by_cases hE0 : ES = []
  · have hr := HW0.out VV (.inl hE0)
    subst hE0
    clear HSG HGD HDG HFR HW0 HWZ HW1 HF HBV HVF HVG q0 qt hIs hBd
    go_wp2_with fail
    go_ret
    exact ⟨by first | rfl | (rw [hr]; rfl), hB⟩
  have hlen : 0 < ES.length := List.length_pos_iff.2 hE0
  have dz : ((ES.length : Int) == 0) = false := by simp; omega
  by_cases hn0 : tw = 0
  · have hr := HW0.out VV (.inr hn0)
    have dn : (tw == 0) = true := by simpa using hn0
    clear HSG HGD HDG HFR HW0 HWZ HW1 HF HBV HVF HVG q0 qt hIs hBd hn0 hnl
    go_wp2_with fail
    go_ret
    exact ⟨by first | rfl | (rw [hr]; rfl), hB⟩
  have dn : (tw == 0) = false := by simpa using hn0
  have HS : Hid _ := HSG.out hn0
  have HWF : Hid (∀ v, 1 ≤ v → WF v = frT v DG) := fun v h => HW1.out v hE0 hn0 h
  have HQ : Hid _ := And.intro q0 (And.intro qt (And.intro hB (And.intro hIs (And.intro hBd hE))))
  clear HSG HW0 HW1 q0 qt hB hIs hBd hE hlen hn0 hE0 hnl
  go_wp2_with fail
  clear t2
  go_loopw [11] (fun i' wr => ∃ j : Nat, j ≤ l.length ∧ i' = .int .i64 j ∧ (∀ j' (hj : j' < l.length), j' < j → isFc (m : Int) (k : Int) l[j'] = false) ∧ Row wr w.heap.size 33 [.slice (some ⟨g, 0, none⟩) ps.length cap, .slice pb l.length cb, .slice pl nl cl, .int .i64 lost] ∧ Row wr (w.heap.size + 1) 55 [.slice ax is.length ac1, .slice ay rs.length ac2, .int .i64 tw, .string tk, .int .i64 tq, .slice ap tn3 ac3, .slice aq tn4 ac4, .int .i64 td] ∧ Below w.heap.size w wr ∧ IfsIn wr ax is ∧ BdsIn wr pb l ∧ EntsIn wr p' ES) (fun i' _ => l.length - (intOf i').toNat)
  case atStart => exact ⟨0, Nat.zero_le _, rfl, fun j _ hj => absurd hj (by omega), HQ.out⟩
  case round =>
    clear HQ
    obtain ⟨j, hj, rfl, ha, q0, qt, hB, hIs, hBd, hE⟩ := hrel
    have s1 : wr.cell? ⟨w.heap.size, 1, none⟩ = some (.slice pb l.length cb) := q0.cell 1
    by_cases hlt : j < l.length
    · have dk : decide ((j : Int) < (l.length : Int)) = true := by simpa using hlt
      obtain ⟨gb, b0, b1, b2, b3, rfl, hgb, heb, d0, d1, d2, d3⟩ := hBd.at j hlt
      have hbr := HBV.out _ (List.getElem_mem hlt)
      rw [heb] at hbr
      simp only at hbr
      have HSC : Hid (isFc (m : Int) (k : Int) l[j] = (b2 == (m : Int) && b3 == (k : Int))) := by show _ = _; rw [heb]; rfl
      have HV1 : Hid (l[j].vl = b1) := by show _ = _; rw [heb]
      have HAA : Hid (∀ j' (hj : j' < l.length), j' < j → isFc (m : Int) (k : Int) l[j'] = false) := ha
      have hgl := q0.lt
      have hgt := qt.lt
      have qb := Row.new wr 77 [.int .i64 b0, .int .i64 b1, .int .i64 b2, .int .i64 b3]
      have HR : Hid _ := And.intro (q0.alloc (.cells #[.int .i64 b0, .int .i64 b1, .int .i64 b2, .int .i64 b3] 77)) (And.intro (qt.alloc (.cells #[.int .i64 b0, .int .i64 b1, .int .i64 b2, .int .i64 b3] 77)) (And.intro (hB.alloc hB.size (.cells #[.int .i64 b0, .int .i64 b1, .int .i64 b2, .int .i64 b3] 77)) (And.intro (hIs.alloc (.cells #[.int .i64 b0, .int .i64 b1, .int .i64 b2, .int .i64 b3] 77)) (And.intro (hBd.alloc (.cells #[.int .i64 b0, .int .i64 b1, .int .i64 b2, .int .i64 b3] 77)) (hE.alloc (.cells #[.int .i64 b0, .int .i64 b1, .int .i64 b2, .int .i64 b3] 77))))))
      have HRB : Hid (Row (wr.alloc (.cells #[.int .i64 b0, .int .i64 b1, .int .i64 b2, .int .i64 b3] 77)) wr.heap.size 77 [.int .i64 b0, .int .i64 b1, .int .i64 b2, .int .i64 b3]) := qb
      have t0 : wr.cell? ⟨w.heap.size + 1, 0, none⟩ = some (.slice ax is.length ac1) := qt.cell 0
      have t2 : wr.cell? ⟨w.heap.size + 1, 2, none⟩ = some (.int .i64 tw) := qt.cell 2
      have t3 : wr.cell? ⟨w.heap.size + 1, 3, none⟩ = some (.string tk) := qt.cell 3
      clear heb ha q0 qt hB hIs hBd hE qb
      by_cases h0 : b2 = (m : Int)
      · have e0 : (b2 == (m : Int)) = true := by simpa using h0
        by_cases h1 : b3 = (k : Int)
        · have e1 : (b3 == (k : Int)) = true := by simpa using h1
          have hF := HVF.out j hlt HAA.out (by rw [HSC.out, e0, e1]; rfl)
          rw [HV1.out] at hF
          clear h0 h1 HVF HVG HSC HAA HV1 HBV HWZ
          generalize hbw : wr.heap.size = bw at *
          go_wp2_with fail
          obtain ⟨q0, qt, hB, hIs, hBd, hE⟩ := HR.out
          refine (HS.out _ _ _ hE).mono ?_
          rintro e w4 ⟨rfl, hb4⟩
          have qb := HRB.out
          replace qt := qt.below hb4 qt.lt
          replace qb := qb.below hb4 qb.lt
          replace hB := hB.trans (hb4.mono hB.size)
          replace hIs := hIs.below hb4
          clear hb4 q0 hBd hE HR HRB HS t0 t2 t3 d0 d1 d2 d3 s1
          have t0 : w4.cell? ⟨w.heap.size + 1, 0, none⟩ = some (.slice ax is.length ac1) := qt.cell 0
          have z1 : w4.cell? ⟨bw, 1, none⟩ = some (.int .i64 b1) := qb.cell 1
          have hkk := HK.out
          obtain ⟨gi, fd, fa, fl, fc, fu, rfl, hgi, hfk, x0, x1, x2, x3, x4⟩ := hIs.at k hkk
          have hfd := HF.out _ hfk
          simp only at hfd
          subst hfd
          have dkk : decide ((k : Int) < (is.length : Int)) = true := by simpa using hkk
          have HB : Hid _ := hB
          have HFQ : Hid (∀ w, Calls Tryz.prog 46 #[.agg #[.int .i64 b1, .string DG]] w fun e w' => e = .returned (.string (WF VV)) ∧ Below w.heap.size w w') := fun w => by
            rw [hF, HWF.out b1 hbr.1]
            exact HFR.out b1 hbr.1 hbr.2 w
          clear x1 x2 x3 x4 hfk HF hB qt qb hIs HFR HWF
          replace t0 := cell_regrown t0
          replace z1 := cell_regrown z1
          replace x0 := cell_regrown x0
          go_wp2_with fail
          refine wp_region_quiet_below (by kernel_rfl) (by kernel_rfl) ?_
          repeat (go_big_quiet_step (first | (go_at_call 48; exact Calls.regrown_of (HGD.out _ _ _)) | (go_at_call 47; exact Calls.regrown_of (HDG.out _)) | (go_at_call 46; exact Calls.regrown_of (HFQ.out _))))
          refine wpQuiet_nil ?_
          intro w5 hw'
          obtain ⟨⟨dq, osq⟩, hw''⟩ := hw'
          have hbq := below_regrown w4 dq osq
          rw [← hw''] at hbq
          have hB := HB.out.trans (hbq.mono HB.out.size)
          clear hbq hw'' osq dq HB HGD HDG HFQ t0 z1 x0
          go_wp2_with fail
          go_ret
          exact ⟨rfl, hB⟩
        · have e1 : (b3 == (k : Int)) = false := by simpa using h1
          have HN : Hid (isFc (m : Int) (k : Int) l[j] = false) := by show _ = _; rw [HSC.out, e1, Bool.and_false]
          clear h0 h1 HSC HVF HVG HV1 HBV HWZ HWF HFR HGD HDG HS HRB t0 t2 t3
          go_wp2_with fail
          clear d0 d1 d2 d3 s1
          go_roundw
          case rel => exact ⟨j + 1, hlt, by go_num, (fun j' hj' hjk => by
            rcases Nat.lt_or_ge j' j with h' | h'
            · exact HAA.out j' hj' h'
            · obtain rfl : j' = j := (by omega)
              exact HN.out), HR.out⟩
          case measure => simp [intOf]; omega
      · have e0 : (b2 == (m : Int)) = false := by simpa using h0
        have HN : Hid (isFc (m : Int) (k : Int) l[j] = false) := by show _ = _; rw [HSC.out, e0, Bool.false_and]
        clear h0 HSC HVF HVG HV1 HBV HWZ HWF HFR HGD HDG HS HRB t0 t2 t3
        go_wp2_with fail
        clear d0 d1 d2 d3 s1
        go_roundw
        case rel => exact ⟨j + 1, hlt, by go_num, (fun j' hj' hjk => by
          rcases Nat.lt_or_ge j' j with h' | h'
          · exact HAA.out j' hj' h'
          · obtain rfl : j' = j := (by omega)
            exact HN.out), HR.out⟩
        case measure => simp [intOf]; omega
    · have dk : decide ((j : Int) < (l.length : Int)) = false := by simpa using hlt
      have hG := HVG.out (fun j' hj' => ha j' hj' (by omega))
      have hz := HWZ.out
      clear HVF HVG ha HBV HWF HFR HGD HDG HS q0 qt hIs hBd hE
      go_wp2_with fail
      go_ret
      exact ⟨by rw [hG, hz]; rfl, hB⟩
end Go.Proofs.YtialedffpaoacaaGreatDoor
/- Wrap of the model. (Written by gen_wrap.py.) -/
namespace Go.Proofs.YtialedffpaoacaaGreatDoor
open Go.RowKit Go.Sort

set_option maxRecDepth 100000 in
set_option maxHeartbeats 4000000 in
theorem specWrap_any (p : Option Addr) (cap : Nat) (ps : List TnP) (pb : Option Addr) (cb : Nat) (l : List Bd) (pl : Option Addr) (cl : Nat) (ls : List Lk) (lost : Int) (n i : Int) (all : Bool) (w : World) (h : TensIn w p ps) (hb0 : BdsIn w pb l) (hk0 : LksIn w pl ls) (hn : ps.length ≤ 100000000) (hm : ∀ e ∈ ps, TnM e.2 ∧ TpO e.1 e.2) (hl : l.length ≤ 100000000) (hk : ls.length ≤ 100000000) :
    Calls Tryz.prog 6 #[.agg #[.slice p ps.length cap, .slice pb l.length cb, .slice pl ls.length cl, .int .i64 lost], .int .i64 n, .int .i64 i, .bool all] w fun e w' => e = .returned (.string (wrapO (ps.map (·.2)) l ls lost n i all)) ∧ Below w.heap.size w w' := by
  have HBX : Hid (∀ w, TensIn w p ps → BdsIn w pb l → LksIn w pl ls → Calls Tryz.prog 17 #[.agg #[.slice p ps.length cap, .slice pb l.length cb, .slice pl ls.length cl, .int .i64 lost]] w fun e w' => e = .returned (.bool (boxB (ps.map (·.2)) l ls lost)) ∧ Below w.heap.size w w') := fun w a b c => specBox_any p cap ps pb cb l pl cl ls lost w a b c hn (fun e he => ⟨(hm e he).1, (hm e he).2.1⟩) hl hk
  have HTH : Hid (∀ w, Calls Tryz.prog 18 #[.agg #[.slice p ps.length cap, .slice pb l.length cb, .slice pl ls.length cl, .int .i64 lost], .int .i64 n] w fun e w' => e = .returned (.bool (decide (0 ≤ n ∧ n ≤ (ps.length : Int) - 1))) ∧ Below w.heap.size w w') := fun w => l09There_any p ps.length cap pb l.length cb pl ls.length cl lost n w hn
  have HX : Hid (TensIn w p ps ∧ BdsIn w pb l ∧ LksIn w pl ls) := ⟨h, hb0, hk0⟩
  have HR : Hid (wrapO (ps.map (·.2)) l ls lost n i all = if (boxB (ps.map (·.2)) l ls lost && inFc (ps.map (·.2)) n i) = true then wrapT ((ps.map (fun x : TnP => x.2))[n.toNat]!).is[i.toNat]! ((ps.map (fun x : TnP => x.2))[n.toNat]!).key ((ps.map (fun x : TnP => x.2))[n.toNat]!).now (offL ((ps.map (fun x : TnP => x.2))[n.toNat]!).is[i.toNat]! i all ((ps.map (fun x : TnP => x.2))[n.toNat]!).rs) (vlF l n i) else ByteArray.empty) := rfl
  generalize hWO : wrapO (ps.map (·.2)) l ls lost n i all = WO at *
  clear h hb0 hk0 hk hWO
  have HQ : Hid _ := And.intro (Row.new w 33 [.slice p ps.length cap, .slice pb l.length cb, .slice pl ls.length cl, .int .i64 lost]) (ent_new0 w (.cells #[.slice p ps.length cap, .slice pb l.length cb, .slice pl ls.length cl, .int .i64 lost] 33))
  go_enter Tryz.func6, Tryz.ntmps6
  go_wp2_with fail
  obtain ⟨r0, hB⟩ := HQ.out
  clear HQ
  refine (HBX.out _ (HX.out.1.below hB) (HX.out.2.1.below hB) (HX.out.2.2.below hB)).mono ?_
  rintro e w1 ⟨rfl, hb1⟩
  replace r0 := r0.below hb1 r0.lt
  replace hB := hB.trans (hb1.mono hB.size)
  clear hb1 HBX
  have hR := HR.out
  clear HR
  cases hBX : boxB (ps.map (·.2)) l ls lost
  · rw [hBX] at hR
    simp only [Bool.false_and, Bool.false_eq_true, if_false] at hR
    clear hBX HX HTH hm r0
    go_wp2
    go_ret
    exact ⟨by first | rfl | (rw [hR]; rfl), hB⟩
  rw [hBX, Bool.true_and] at hR
  have HBXt : Hid _ := hBX
  clear hBX
  have s0 : w1.cell? ⟨w.heap.size, 0, none⟩ = some (.slice p ps.length cap) := r0.cell 0
  have s1 : w1.cell? ⟨w.heap.size, 1, none⟩ = some (.slice pb l.length cb) := r0.cell 1
  have s2 : w1.cell? ⟨w.heap.size, 2, none⟩ = some (.slice pl ls.length cl) := r0.cell 2
  have s3 : w1.cell? ⟨w.heap.size, 3, none⟩ = some (.int .i64 lost) := r0.cell 3
  go_wp2_with fail
  clear s0 s1 s2 s3
  refine (HTH.out _).mono ?_
  rintro e w2 ⟨rfl, hb2⟩
  replace r0 := r0.below hb2 r0.lt
  replace hB := hB.trans (hb2.mono hB.size)
  clear hb2 HTH
  by_cases hn0 : 0 ≤ n ∧ n ≤ (ps.length : Int) - 1
  case neg =>
    have e0 : decide (0 ≤ n ∧ n ≤ (ps.length : Int) - 1) = false := decide_eq_false hn0
    rw [e0]
    have hi : inFc (ps.map (·.2)) n i = false := by
      unfold inFc inTn
      rw [List.length_map, ← Bool.decide_and, decide_eq_false (by omega), Bool.false_and]
    rw [hi] at hR
    simp only [Bool.false_eq_true, if_false] at hR
    clear HX hm HBXt r0
    go_wp2
    go_ret
    exact ⟨by first | rfl | (rw [hR]; rfl), hB⟩
  have e0 : decide (0 ≤ n ∧ n ≤ (ps.length : Int) - 1) = true := decide_eq_true hn0
  rw [e0]
  obtain ⟨m, rfl⟩ : ∃ m : Nat, n = (m : Int) := ⟨n.toNat, by omega⟩
  have hm2 : m < ps.length := by omega
  have hi : inFc (ps.map (·.2)) (m : Int) i = (decide (0 ≤ i) && decide (i < (((ps.map (fun x : TnP => x.2))[m]!).is.length : Int))) := by
    unfold inFc inTn
    rw [List.length_map, decide_eq_true (show (0 : Int) ≤ (m : Int) by omega), decide_eq_true (show (m : Int) < (ps.length : Int) by omega), Int.toNat_natCast]
    rfl
  rw [hi] at hR
  simp only [Int.toNat_natCast] at hR
  have HKK : Hid _ := And.intro r0 hB
  obtain ⟨g, a, t, rfl, hg, hek, hI, c0, c1, c2, c3, c4, c5, c6, c7⟩ := (HX.out.1.below hB).at m hm2
  obtain ⟨r0, hB⟩ := HKK.out
  clear HKK c3 c4 c5 c6 c7 hi
  rw [tn_at hm2 hek] at hR
  have hMM := hm _ (List.getElem_mem hm2)
  rw [hek] at hMM
  have HTL : Hid (∀ w, Calls Tryz.prog 19 #[.agg #[.slice a.x t.is.length a.c1, .slice a.y t.rs.length a.c2, .int .i64 t.now], .int .i64 i] w fun e w' => e = .returned (.bool (decide (0 ≤ i ∧ i ≤ (t.is.length : Int) - 1))) ∧ Below w.heap.size w w') := fun w => l07There_any a.x t.is.length a.c1 a.y t.rs.length a.c2 t.now i w hMM.1.1.1
  have s0 : w2.cell? ⟨w.heap.size, 0, none⟩ = some (.slice (some ⟨g, 0, none⟩) ps.length cap) := r0.cell 0
  have dmm : decide ((m : Int) < (ps.length : Int)) = true := by simpa using hm2
  have HTT : Hid (tenT t = true) := by
    have := ten_of HBXt.out (k := m) (by simpa using hm2)
    rw [tn_at' hm2 hek] at this
    exact this
  have HN : Hid (t.is.length ≤ 100000000) := hMM.1.1.1
  have HEK : Hid (ps[m] = (a, t)) := hek
  clear hI hek hm hMM e0
  have HRR : Hid _ := hR
  clear hR
  generalize hti : t.is.length = tn1 at *
  generalize t.rs.length = tn2 at *
  generalize htw : t.now = tw at *
  have HTI : Hid (t.is.length = tn1 ∧ t.now = tw) := ⟨hti, htw⟩
  clear hti htw
  generalize a.x = ax at *
  generalize a.y = ay at *
  generalize a.c1 = ac1 at *
  generalize a.c2 = ac2 at *
  go_wp2_with fail
  clear s0 c0 c1 c2 dmm
  refine (HTL.out _).mono ?_
  rintro e w3 ⟨rfl, hb3⟩
  replace r0 := r0.below hb3 r0.lt
  replace hB := hB.trans (hb3.mono hB.size)
  clear hb3 HTL
  have hR := HRR.out
  clear HRR
  by_cases hi0 : 0 ≤ i ∧ i ≤ (tn1 : Int) - 1
  case neg =>
    rw [decide_eq_false hi0]
    rw [← Bool.decide_and, decide_eq_false (by omega)] at hR
    simp only [Bool.false_eq_true, if_false] at hR
    clear HX HBXt r0 HTT HEK HN HTI
    go_wp2
    go_ret
    exact ⟨by first | rfl | (rw [hR]; rfl), hB⟩
  rw [decide_eq_true hi0]
  rw [← Bool.decide_and, decide_eq_true (by omega)] at hR
  simp only [if_true] at hR
  obtain ⟨k, rfl⟩ : ∃ k : Nat, i = (k : Int) := ⟨i.toNat, by omega⟩
  have hkk : k < t.is.length := by rw [HTI.out.1]; omega
  rw [Int.toNat_natCast, getElem!_pos t.is k hkk, ← HTI.out.2] at hR
  have HWP : Hid (∀ w, TensIn w (some ⟨g, 0, none⟩) ps → BdsIn w pb l → Calls Tryz.prog 20 #[.agg #[.slice (some ⟨g, 0, none⟩) ps.length cap, .slice pb l.length cb, .slice pl ls.length cl, .int .i64 lost], .int .i64 (m : Int), .int .i64 (k : Int), .bool all] w fun e w' => e = .returned (.string WO) ∧ Below w.heap.size w w') := fun w x y => by
    rw [hR]
    exact l09Wrap_any (some ⟨g, 0, none⟩) cap ps pb cb l pl ls.length cl lost m a t k all w x y hm2 HEK.out hl (by rw [HTI.out.1]; exact HN.out) hkk (wr_of HTT.out hkk (k : Int) all) (bv_of (binds_of HBXt.out))
  clear hR HTT HEK HN HTI HBXt hkk hi0
  have s0 : w3.cell? ⟨w.heap.size, 0, none⟩ = some (.slice (some ⟨g, 0, none⟩) ps.length cap) := r0.cell 0
  have s1 : w3.cell? ⟨w.heap.size, 1, none⟩ = some (.slice pb l.length cb) := r0.cell 1
  have s2 : w3.cell? ⟨w.heap.size, 2, none⟩ = some (.slice pl ls.length cl) := r0.cell 2
  have s3 : w3.cell? ⟨w.heap.size, 3, none⟩ = some (.int .i64 lost) := r0.cell 3
  go_wp2_with fail
  clear s0 s1 s2 s3
  refine (HWP.out _ (HX.out.1.below hB) (HX.out.2.1.below hB)).mono ?_
  rintro e w4 ⟨rfl, hb4⟩
  replace hB := hB.trans (hb4.mono hB.size)
  clear hb4 HWP HX r0
  go_wp2_with fail
  go_ret
  exact ⟨rfl, hB⟩
end Go.Proofs.YtialedffpaoacaaGreatDoor
