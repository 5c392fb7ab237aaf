/- Texts that stand on each other, in one file: OfferI, OfferS. -/
import Derived.Test.YtflmbkjnlgibnaaPack19
import Derived.Test.YtflmbkjnlgibnaaPack20
import Derived.Test.YtflmbkjnlgibnaaPack23
/- Offer of the program. (Written by gen_offer.py.) -/
namespace Go.Proofs.Ytflmbkjnlgibnaa
open Go.RowKit Go.Sort

set_option maxRecDepth 100000 in
set_option maxHeartbeats 2000000 in
theorem offered_any (r : Rt) (i : Int) (w : World) : Calls Try.prog 60 #[rtV r, .int .i64 i] w fun e w' => e = .returned (entV (offE i r)) ∧ Below w.heap.size w w' := by
  obtain ⟨a, l, m, n, ii, t, u, b, c⟩ := r
  unfold rtV rtA offE entV
  simp only
  by_cases hI : ii = i
  · have zI : (ii == i) = true := by simpa using hI
    rw [if_pos hI]
    clear hI
    go_enter Try.func60, Try.ntmps60
    go_wp2_with fail
    exact bodyPost_ret (v := .agg #[.int .i64 a, .int .i64 l, .int .i64 0, .int .i64 16, .int .i64 t]) (by simp [results, Try.results60, go_sem]) rfl ⟨rfl, ((ent_new0 w _).alloc (by simp) _).alloc (by simp; omega) _⟩
  · have zI : (ii == i) = false := by simpa using hI
    rw [if_neg hI]
    clear hI
    go_enter Try.func60, Try.ntmps60
    go_wp2_with fail
    exact bodyPost_ret (v := .agg #[.int .i64 a, .int .i64 l, .int .i64 0, .int .i64 m, .int .i64 t]) (by simp [results, Try.results60, go_sem]) rfl ⟨rfl, ((ent_new0 w _).alloc (by simp) _).alloc (by simp; omega) _⟩
set_option maxRecDepth 100000 in
set_option maxHeartbeats 2000000 in
theorem implOffer_any (x : Option Addr) (c1 : Nat) (y : Option Addr) (c2 : Nat) (is : List If) (rs : List Rt) (now : Int) (i : Int) (all : Bool) (w : World) (h1 : IfsIn w x is) (hc : is.length ≤ c1) (hc1 : x = none → c1 = 0) (h2 : RtsIn w y rs) (hc2 : y = none → c2 = 0) (hn1 : is.length ≤ 100000000) (hn2 : rs.length ≤ 100000000) :
    Calls Try.prog 26 #[instV x is.length c1 y rs.length c2 now, .int .i64 i, .bool all] w fun e w' => (∃ v, e = .returned v ∧ OwnE w' w.heap.size v (offerO is rs now i all)) ∧ Below w.heap.size w w' := by
  have HR : Hid (∀ w, IfsIn w x is → RtsIn w y rs → Calls Try.prog 12 #[instV x is.length c1 y rs.length c2 now] w fun e w' => e = .returned (.bool (instB is rs now)) ∧ Below w.heap.size w w') := fun w p q => implInst_any x c1 y c2 is rs now w p hc q hn1 hn2
  have HA : Hid (∀ w, IfsIn w x is → RtsIn w y rs → Calls Try.prog 50 #[instV x is.length c1 y rs.length c2 now] w fun e w' => ∃ g, e = .returned (.pointer (some ⟨g, 0, none⟩)) ∧ AtW w.heap.size is rs now g w' ∧ Below w.heap.size w w') := fun w p q => atWork_any x c1 y c2 is rs now w p hc1 q hc2 hn1 hn2
  have HL : Hid (∀ base g w, AtW base is rs now g w → Calls Try.prog 57 #[.pointer (some ⟨g, 0, none⟩), .int .i64 i, .bool true] w fun e w' => e = .returned (.int .i64 (lookC is i true)) ∧ Below w.heap.size w w') := fun base g w h => by
    obtain ⟨q1, k1, q2, k2, hg, hr, oi, orr⟩ := h
    exact look_any g q2 _ k2 q1 k1 now is i true w hr (ownsI_in rfl oi) hn1
  have HC : Hid ((match ifAt is i with | none => (6 : Int) | some f => if f.u = true then (0 : Int) else 10) = lookC is i true) := rfl
  generalize lookC is i true = CC at *
  have HF : Hid (∀ r w, Calls Try.prog 60 #[rtV r, .int .i64 i] w fun e w' => e = .returned (entV (offE i r)) ∧ Below w.heap.size w w') := fun r w => offered_any r i w
  have HX : Hid (IfsIn w x is ∧ RtsIn w y rs) := ⟨h1, h2⟩
  have HD : Hid (offerO is rs now i all = if instB is rs now = true then (match ifAt is i with | none => [] | some f => if f.u = true then rs.filterMap (offF i all) else []) else []) := rfl
  have H8 : Hid (instB is rs now = true → rs.length ≤ 8) := fun h => by
    unfold instB at h
    simp only [Bool.and_eq_true] at h
    exact (ribB_spec h.2.1).1
  clear h1 h2 hc hc1 hc2
  generalize offerO is rs now i all = RES at *
  generalize instB is rs now = IB at *
  unfold instV at *
  have HQ : Hid _ := And.intro (Row.new w 35 [.slice x is.length c1, .slice y rs.length c2, .int .i64 now]) (ent_new0 w (.cells #[.slice x is.length c1, .slice y rs.length c2, .int .i64 now] 35))
  go_enter Try.func26, Try.ntmps26
  go_wp2_with fail
  obtain ⟨q0, hB⟩ := HQ.out
  refine (HR.out _ (HX.out.1.below hB) (HX.out.2.below hB)).mono ?_
  rintro e w1 ⟨rfl, hb1⟩
  have q0 := q0.below hb1 q0.lt
  have hB := hB.trans (hb1.mono hB.size)
  clear hb1 HR HQ
  have hR := HD.out
  have hcc := HC.out
  clear HD HC
  cases IB
  · simp only [Bool.false_eq_true, if_false] at hR
    go_wp2
    go_ret
    exact ⟨⟨_, rfl, by rw [hR]; exact OwnE.nil _ _⟩, hB⟩
  · simp only [if_true] at hR
    have h8 := H8.out rfl
    clear H8
    have y0 : w1.cell? ⟨w.heap.size, 0, none⟩ = some (.slice x is.length c1) := q0.cell 0
    have y1 : w1.cell? ⟨w.heap.size, 1, none⟩ = some (.slice y rs.length c2) := q0.cell 1
    have y2 : w1.cell? ⟨w.heap.size, 2, none⟩ = some (.int .i64 now) := q0.cell 2
    go_wp2_with fail
    refine (HA.out _ (HX.out.1.below hB) (HX.out.2.below hB)).mono ?_
    rintro e w2 ⟨g, rfl, hat, hb2⟩
    have q0 := q0.below hb2 q0.lt
    have hB := hB.trans (hb2.mono hB.size)
    clear hb2 HA y0 y1 y2
    go_wp2_with fail
    refine (HL.out _ _ _ hat).mono ?_
    rintro e w3 ⟨rfl, hb3⟩
    have q0 := q0.below hb3 q0.lt
    have hB := hB.trans (hb3.mono hB.size)
    clear hb3 HL hat
    cases hia : ifAt is i with
    | none =>
      rw [hia] at hR hcc
      simp only at hR hcc
      subst hcc
      clear hia
      go_wp2
      go_ret
      exact ⟨⟨_, rfl, by rw [hR]; exact OwnE.nil _ _⟩, hB⟩
    | some f =>
      rw [hia] at hR hcc
      simp only at hR hcc
      clear hia
      by_cases hu : f.u = true
      · rw [if_pos hu] at hR hcc
        subst hcc
        clear hu
        have y1 : w3.cell? ⟨w.heap.size, 1, none⟩ = some (.slice y rs.length c2) := q0.cell 1
        have HQ : Hid _ := And.intro q0 hB
        clear q0 hB
        go_wp2_with fail
        clear y1
        go_loopw [24, 7] (fun i' v wr => ∃ k : Nat, k ≤ rs.length ∧ i' = .int .i64 k ∧ OwnE wr w.heap.size v ((rs.take k).filterMap (offF i all)) ∧ Below w.heap.size w wr) (fun i' _ _ => rs.length - (intOf i').toNat)
        case atStart => exact ⟨0, Nat.zero_le _, rfl, OwnE.nil _ _, HQ.out.2⟩
        case round =>
          obtain ⟨k, hk, rfl, ho, hBr⟩ := hrel
          clear HQ
          by_cases hlt : k < rs.length
          · have d1 : decide ((k : Int) < (rs.length : Int)) = true := by simpa using hlt
            have hnx := off_next (offF i all) rs k hlt
            have hle := off_le (offF i all) rs k
            obtain ⟨gr, a, l, m, n, ii, t, u, b, c, rfl, hg, hek, c0, c1', c2', c3, c4, c5, c6, c7, c8⟩ := ((HX.out.2).below hBr).at k hlt
            rw [hek] at hnx
            have hBs := hBr.size
            obtain ⟨pv, cv, rfl, -⟩ := ho.form
            have hB2 := hBr.alloc hBr.size (.cells #[.int .i64 a, .int .i64 l, .int .i64 m, .int .i64 n, .int .i64 ii, .int .i64 t, .int .i64 u, .int .i64 b, .bool c] 101)
            have ho2 := ho.alloc (.cells #[.int .i64 a, .int .i64 l, .int .i64 m, .int .i64 n, .int .i64 ii, .int .i64 t, .int .i64 u, .int .i64 b, .bool c] 101)
            have HFk : Hid (∀ w, Calls Try.prog 60 #[.agg #[.int .i64 a, .int .i64 l, .int .i64 m, .int .i64 n, .int .i64 ii, .int .i64 t, .int .i64 u, .int .i64 b, .bool c], .int .i64 i] w fun e w' => e = .returned (entV (offE i ⟨a, l, m, n, ii, t, u, b, c⟩)) ∧ Below w.heap.size w w') := HF.out ⟨a, l, m, n, ii, t, u, b, c⟩
            have hnx' := hnx
            have hof : offF i all ⟨a, l, m, n, ii, t, u, b, c⟩ = if (all || c) = true then some (offE i ⟨a, l, m, n, ii, t, u, b, c⟩) else none := rfl
            rw [hof] at hnx
            clear hof
            by_cases hA : (all || c) = true
            · rw [if_pos hA] at hnx
              generalize hEE : offE i ⟨a, l, m, n, ii, t, u, b, c⟩ = E at *
              clear hEE
              have HNX : Hid _ := hnx
              have HO : Hid _ := And.intro ho2 hB2
              have hK : ∀ w4, Below (wr.alloc (.cells #[.int .i64 a, .int .i64 l, .int .i64 m, .int .i64 n, .int .i64 ii, .int .i64 t, .int .i64 u, .int .i64 b, .bool c] 101)).heap.size (wr.alloc (.cells #[.int .i64 a, .int .i64 l, .int .i64 m, .int .i64 n, .int .i64 ii, .int .i64 t, .int .i64 u, .int .i64 b, .bool c] 101)) w4 → OwnE (w4.alloc (.cells #[.int .i64 E.a, .int .i64 E.l, .int .i64 E.n, .int .i64 E.m, .int .i64 E.t] 103)) w.heap.size (.slice pv ((rs.take k).filterMap (offF i all)).length cv) ((rs.take k).filterMap (offF i all)) ∧ Below w.heap.size w (w4.alloc (.cells #[.int .i64 E.a, .int .i64 E.l, .int .i64 E.n, .int .i64 E.m, .int .i64 E.t] 103)) := fun w4 hb4 => ⟨(HO.out.1.below hb4).alloc _, (HO.out.2.trans (hb4.mono HO.out.2.size)).alloc (by have := HO.out.2.size; have := hb4.size; omega) _⟩
              have HKK : Hid _ := hK
              have hc' : all = true ∨ all = false ∧ c = true := by cases all <;> cases c <;> simp_all
              clear hA hnx hnx' ho ho2 hBr hB2 hK hg hek HO
              rcases hc' with rfl | ⟨rfl, rfl⟩
              · go_wp2_with fail
                refine (HFk.out _).mono ?_
                rintro e w4 ⟨rfl, hb4⟩
                obtain ⟨ho4, hB4⟩ := HKK.out _ hb4
                have hs4 : wr.heap.size + 1 ≤ w4.heap.size := by have := hb4.size; simpa using this
                have rE := Row.new w4 103 [.int .i64 E.a, .int .i64 E.l, .int .i64 E.n, .int .i64 E.m, .int .i64 E.t]
                clear hb4 HKK HFk HF
                unfold entV
                go_wp2_with (at_builtin; refine wpList_append_ent rfl _ _ rfl w.heap.size _ _ rfl ho4 w4.heap.size 1 E rfl rE (by omega) (by simp; omega) ?_)
                intro v5 w5 ho5 hb5
                have HZ : Hid _ := And.intro ho5 (hB4.trans hb5)
                clear ho5 hb5 ho4 hB4 rE
                go_wp2_with fail
                go_roundw
                case rel => exact ⟨k + 1, hlt, by go_num, by rw [HNX.out]; exact HZ.out.1, HZ.out.2⟩
                case measure => simp [intOf]; omega
              · go_wp2_with fail
                refine (HFk.out _).mono ?_
                rintro e w4 ⟨rfl, hb4⟩
                obtain ⟨ho4, hB4⟩ := HKK.out _ hb4
                have hs4 : wr.heap.size + 1 ≤ w4.heap.size := by have := hb4.size; simpa using this
                have rE := Row.new w4 103 [.int .i64 E.a, .int .i64 E.l, .int .i64 E.n, .int .i64 E.m, .int .i64 E.t]
                clear hb4 HKK HFk HF
                unfold entV
                go_wp2_with (at_builtin; refine wpList_append_ent rfl _ _ rfl w.heap.size _ _ rfl ho4 w4.heap.size 1 E rfl rE (by omega) (by simp; omega) ?_)
                intro v5 w5 ho5 hb5
                have HZ : Hid _ := And.intro ho5 (hB4.trans hb5)
                clear ho5 hb5 ho4 hB4 rE
                go_wp2_with fail
                go_roundw
                case rel => exact ⟨k + 1, hlt, by go_num, by rw [HNX.out]; exact HZ.out.1, HZ.out.2⟩
                case measure => simp [intOf]; omega
            · rw [if_neg hA] at hnx
              have hnx3 : (rs.take (k + 1)).filterMap (offF i all) = (rs.take k).filterMap (offF i all) := by rw [hnx']; unfold offF; rw [if_neg (by simpa using hA)]; simp
              obtain ⟨rfl, rfl⟩ : all = false ∧ c = false := by cases all <;> cases c <;> simp_all
              have HZ : Hid _ := And.intro ho2 (And.intro hB2 hnx3)
              clear hA hnx hnx' ho ho2 hBr hB2 hnx3 hek HFk HF
              go_wp2_with fail
              go_roundw
              case rel => exact ⟨k + 1, hlt, by go_num, by rw [HZ.out.2.2]; exact HZ.out.1, HZ.out.2.1⟩
              case measure => simp [intOf]; omega
          · obtain rfl : k = rs.length := by omega
            have d1 : decide ((rs.length : Int) < (rs.length : Int)) = false := by simp
            rw [List.take_length] at ho
            clear hlt hk
            go_wp2
            go_ret
            exact ⟨⟨_, rfl, by rw [hR]; exact ho⟩, hBr⟩
      · rw [if_neg hu] at hR hcc
        subst hcc
        clear hu
        go_wp2
        go_ret
        exact ⟨⟨_, rfl, by rw [hR]; exact OwnE.nil _ _⟩, hB⟩
end Go.Proofs.Ytflmbkjnlgibnaa
/- Offer of the model. (Written by gen_offer.py.) -/
namespace Go.Proofs.Ytflmbkjnlgibnaa
open Go.RowKit Go.Sort

set_option maxRecDepth 100000 in
set_option maxHeartbeats 2000000 in
theorem l07Offer_any (x : Option Addr) (c1 : Nat) (y : Option Addr) (c2 : Nat) (is : List If) (rs : List Rt) (now : Int) (k : Nat) (all : Bool) (w : World) (h1 : IfsIn w x is) (h2 : RtsIn w y rs) (hk : k < is.length) (h8 : rs.length ≤ 8) :
    Calls Try.prog 59 #[instV x is.length c1 y rs.length c2 now, .int .i64 (k : Int), .bool all] w fun e w' => (∃ v, e = .returned v ∧ OwnE w' w.heap.size v (if is[k].u = true then rs.filterMap (offF (k : Int) all) else [])) ∧ Below w.heap.size w w' := by
  have HX : Hid (IfsIn w x is ∧ RtsIn w y rs) := ⟨h1, h2⟩
  have HK : Hid (∀ f, is[k] = f → is[k].u = f.u) := fun f e => by rw [e]
  have HKf : Hid (k < is.length) := hk
  generalize is[k].u = U at *
  generalize hRR : (if U = true then rs.filterMap (offF (k : Int) all) else []) = RES at *
  have HRES : Hid ((if U = true then rs.filterMap (offF (k : Int) all) else []) = RES) := hRR
  clear h1 h2 hRR
  unfold instV at *
  have hB0 := (ent_new0 w (.cells #[.slice x is.length c1, .slice y rs.length c2, .int .i64 now] 35)).alloc (by simp) (.cells #[] 103)
  have q0 := (Row.new w 35 [.slice x is.length c1, .slice y rs.length c2, .int .i64 now]).alloc (.cells #[] 103)
  have ho0 : OwnE ((w.alloc (.cells #[.slice x is.length c1, .slice y rs.length c2, .int .i64 now] 35)).alloc (.cells #[] 103)) (w.heap.size + 1) (.slice (some ⟨w.heap.size + 1, 0, none⟩) 0 0) [] := by
    have ho := World.ownsRow_lit (base := (w.alloc (.cells #[.slice x is.length c1, .slice y rs.length c2, .int .i64 now] 35)).heap.size) (e := 103) (size := 5) (w.alloc (.cells #[.slice x is.length c1, .slice y rs.length c2, .int .i64 now] 35)) #[] 0 (Nat.le_refl _) (Nat.zero_le _) (by simp)
    have hz : (w.alloc (.cells #[.slice x is.length c1, .slice y rs.length c2, .int .i64 now] 35)).heap.size = w.heap.size + 1 := by simp
    rw [hz] at ho
    simpa [OwnE, rowE] using ho
  have zk : (k : Int) < (is.length : Int) := by omega
  have HQ : Hid _ := And.intro q0 (And.intro ho0 hB0)
  clear q0 ho0 hB0
  go_enter Try.func59, Try.ntmps59
  go_wp2_with fail
  go_loopw [8, 7] (fun i' v wr => ∃ k' : Nat, k' ≤ rs.length ∧ i' = .int .i64 k' ∧ (k' = 0 ∨ U = true) ∧ Row wr w.heap.size 35 [.slice x is.length c1, .slice y rs.length c2, .int .i64 now] ∧ OwnE wr (w.heap.size + 1) v ((rs.take k').filterMap (offF (k : Int) all)) ∧ Below w.heap.size w wr) (fun i' _ _ => rs.length - (intOf i').toNat)
  case atStart => exact ⟨0, Nat.zero_le _, rfl, .inl rfl, HQ.out.1, HQ.out.2.1, HQ.out.2.2⟩
  case round =>
    obtain ⟨k', hk', rfl, hU, q0, ho, hB⟩ := hrel
    clear HQ
    have y0 : wr.cell? ⟨w.heap.size, 0, none⟩ = some (.slice x is.length c1) := q0.cell 0
    have y1 : wr.cell? ⟨w.heap.size, 1, none⟩ = some (.slice y rs.length c2) := q0.cell 1
    have HUU : Hid (k' = 0 ∨ U = true) := hU
    clear hU
    by_cases hlt : k' < rs.length
    · have d1 : decide ((k' : Int) < (rs.length : Int)) = true := by simpa using hlt
      obtain ⟨gi, fd, fa, fl, fc, fu, rfl, hgi, hfk, e0, e1, e2, e3, e4⟩ := (HX.out.1.below hB).at k HKf.out
      have hu := HK.out _ hfk
      simp only at hu
      clear hfk e0 e1 e2 e3
      cases fu
      · subst hu
        have h0 : k' = 0 := by rcases HUU.out with h | h; exact h; cases h
        subst h0
        have ho : OwnE wr w.heap.size _ [] := OwnE.mono (base := w.heap.size + 1) ho (by omega)
        have hr := HRES.out
        simp only [Bool.false_eq_true, if_false] at hr
        subst hr
        clear HRES
        clear hk' HUU
        go_wp2
        go_ret
        exact ⟨⟨_, rfl, by simpa using ho⟩, hB⟩
      · subst hu
        have hnx := off_next (offF (k : Int) all) rs k' hlt
        have hle := off_le (offF (k : Int) all) rs k'
        obtain ⟨gr, a, l, m, n, ii, t, u, b, c, rfl, hg, hek, c0, c1', c2', c3, c4, c5, c6, c7, c8⟩ := ((HX.out.2).below hB).at k' hlt
        rw [hek] at hnx
        have hBs := hB.size
        have q1 := q0
        obtain ⟨pv, cv, rfl, -⟩ := ho.form
        have hkeep : ∀ w4, Below wr.heap.size wr w4 → Row w4 w.heap.size 35 [.slice (some ⟨gi, 0, none⟩) is.length c1, .slice (some ⟨gr, 0, none⟩) rs.length c2, .int .i64 now] := fun w4 hb4 => q0.below hb4 q0.lt
        have HKP : Hid _ := hkeep
        clear q0 q1 hkeep hek HX HKf HK HRES
        cases all
        · cases c
          · have hnx3 : (rs.take (k' + 1)).filterMap (offF (k : Int) false) = (rs.take k').filterMap (offF (k : Int) false) := by rw [hnx]; unfold offF; simp
            have HZ : Hid _ := And.intro (ho.alloc (.cells #[.int .i64 a, .int .i64 l, .int .i64 m, .int .i64 n, .int .i64 ii, .int .i64 t, .int .i64 u, .int .i64 b, .bool false] 101)) (And.intro (hB.alloc hB.size (.cells #[.int .i64 a, .int .i64 l, .int .i64 m, .int .i64 n, .int .i64 ii, .int .i64 t, .int .i64 u, .int .i64 b, .bool false] 101)) hnx3)
            clear ho hB hnx hnx3
            go_wp2_with fail
            go_roundw
            case rel => exact ⟨k' + 1, hlt, by go_num, .inr trivial, HKP.out _ (ent_new0 _ _), by rw [HZ.out.2.2]; exact HZ.out.1, HZ.out.2.1⟩
            case measure => simp [intOf]; omega
          · have hcc : (false || true) = true := rfl
            by_cases hI : ii = (k : Int)
            · have zI : (ii == (k : Int)) = true := by simpa using hI
              have HNX : Hid ((rs.take (k' + 1)).filterMap (offF (k : Int) false) = (rs.take k').filterMap (offF (k : Int) false) ++ [⟨a, l, 0, 16, t⟩]) := by
                show _ = _
                rw [hnx]; unfold offF offE; simp [hI, hcc]
              clear hI hnx hcc
              have rE := Row.new ((wr.alloc (.cells #[.int .i64 a, .int .i64 l, .int .i64 m, .int .i64 n, .int .i64 ii, .int .i64 t, .int .i64 u, .int .i64 b, .bool true] 101)).alloc (.cells #[.int .i64 a, .int .i64 l, .int .i64 0, .int .i64 16, .int .i64 t] 103)) 103 [.int .i64 a, .int .i64 l, .int .i64 0, .int .i64 16, .int .i64 t]
              have hs2 : ((wr.alloc (.cells #[.int .i64 a, .int .i64 l, .int .i64 m, .int .i64 n, .int .i64 ii, .int .i64 t, .int .i64 u, .int .i64 b, .bool true] 101)).alloc (.cells #[.int .i64 a, .int .i64 l, .int .i64 0, .int .i64 16, .int .i64 t] 103)).heap.size = wr.heap.size + 1 + 1 := by simp
              rw [hs2] at rE
              have ho4 := ((ho.alloc (.cells #[.int .i64 a, .int .i64 l, .int .i64 m, .int .i64 n, .int .i64 ii, .int .i64 t, .int .i64 u, .int .i64 b, .bool true] 101)).alloc (.cells #[.int .i64 a, .int .i64 l, .int .i64 0, .int .i64 16, .int .i64 t] 103)).alloc (.cells #[.int .i64 a, .int .i64 l, .int .i64 0, .int .i64 16, .int .i64 t] 103)
              have hBx := ((ent_new0 wr (.cells #[.int .i64 a, .int .i64 l, .int .i64 m, .int .i64 n, .int .i64 ii, .int .i64 t, .int .i64 u, .int .i64 b, .bool true] 101)).alloc (by simp) (.cells #[.int .i64 a, .int .i64 l, .int .i64 0, .int .i64 16, .int .i64 t] 103)).alloc (by simp; omega) (.cells #[.int .i64 a, .int .i64 l, .int .i64 0, .int .i64 16, .int .i64 t] 103)
              have hB4 := ((hB.alloc hB.size (.cells #[.int .i64 a, .int .i64 l, .int .i64 m, .int .i64 n, .int .i64 ii, .int .i64 t, .int .i64 u, .int .i64 b, .bool true] 101)).alloc (by simp; omega) (.cells #[.int .i64 a, .int .i64 l, .int .i64 0, .int .i64 16, .int .i64 t] 103)).alloc (by simp; omega) (.cells #[.int .i64 a, .int .i64 l, .int .i64 0, .int .i64 16, .int .i64 t] 103)
              have q4 := HKP.out _ hBx
              clear ho hB hBx
              go_wp2_with (at_builtin; refine wpList_append_ent rfl _ _ rfl (w.heap.size + 1) _ _ rfl ho4 (wr.heap.size + 1 + 1) 1 ⟨a, l, 0, 16, t⟩ rfl rE (by omega) (by simp; omega) ?_)
              intro v5 w5 ho5 hb5
              have HZ : Hid _ := And.intro ho5 (And.intro (hB4.trans (hb5.mono (by omega))) ((q4.below hb5 (Nat.lt_succ_self _))))
              clear ho5 hb5 ho4 hB4 rE hs2 q4
              go_wp2_with fail
              go_roundw
              case rel => exact ⟨k' + 1, hlt, by go_num, .inr trivial, HZ.out.2.2, by rw [HNX.out]; exact HZ.out.1, HZ.out.2.1⟩
              case measure => simp [intOf]; omega
            · have zI : (ii == (k : Int)) = false := by simpa using hI
              have HNX : Hid ((rs.take (k' + 1)).filterMap (offF (k : Int) false) = (rs.take k').filterMap (offF (k : Int) false) ++ [⟨a, l, 0, m, t⟩]) := by
                show _ = _
                rw [hnx]; unfold offF offE; simp [hI, hcc]
              clear hI hnx hcc
              have rE := Row.new ((wr.alloc (.cells #[.int .i64 a, .int .i64 l, .int .i64 m, .int .i64 n, .int .i64 ii, .int .i64 t, .int .i64 u, .int .i64 b, .bool true] 101)).alloc (.cells #[.int .i64 a, .int .i64 l, .int .i64 0, .int .i64 m, .int .i64 t] 103)) 103 [.int .i64 a, .int .i64 l, .int .i64 0, .int .i64 m, .int .i64 t]
              have hs2 : ((wr.alloc (.cells #[.int .i64 a, .int .i64 l, .int .i64 m, .int .i64 n, .int .i64 ii, .int .i64 t, .int .i64 u, .int .i64 b, .bool true] 101)).alloc (.cells #[.int .i64 a, .int .i64 l, .int .i64 0, .int .i64 m, .int .i64 t] 103)).heap.size = wr.heap.size + 1 + 1 := by simp
              rw [hs2] at rE
              have ho4 := ((ho.alloc (.cells #[.int .i64 a, .int .i64 l, .int .i64 m, .int .i64 n, .int .i64 ii, .int .i64 t, .int .i64 u, .int .i64 b, .bool true] 101)).alloc (.cells #[.int .i64 a, .int .i64 l, .int .i64 0, .int .i64 m, .int .i64 t] 103)).alloc (.cells #[.int .i64 a, .int .i64 l, .int .i64 0, .int .i64 m, .int .i64 t] 103)
              have hBx := ((ent_new0 wr (.cells #[.int .i64 a, .int .i64 l, .int .i64 m, .int .i64 n, .int .i64 ii, .int .i64 t, .int .i64 u, .int .i64 b, .bool true] 101)).alloc (by simp) (.cells #[.int .i64 a, .int .i64 l, .int .i64 0, .int .i64 m, .int .i64 t] 103)).alloc (by simp; omega) (.cells #[.int .i64 a, .int .i64 l, .int .i64 0, .int .i64 m, .int .i64 t] 103)
              have hB4 := ((hB.alloc hB.size (.cells #[.int .i64 a, .int .i64 l, .int .i64 m, .int .i64 n, .int .i64 ii, .int .i64 t, .int .i64 u, .int .i64 b, .bool true] 101)).alloc (by simp; omega) (.cells #[.int .i64 a, .int .i64 l, .int .i64 0, .int .i64 m, .int .i64 t] 103)).alloc (by simp; omega) (.cells #[.int .i64 a, .int .i64 l, .int .i64 0, .int .i64 m, .int .i64 t] 103)
              have q4 := HKP.out _ hBx
              clear ho hB hBx
              go_wp2_with (at_builtin; refine wpList_append_ent rfl _ _ rfl (w.heap.size + 1) _ _ rfl ho4 (wr.heap.size + 1 + 1) 1 ⟨a, l, 0, m, t⟩ rfl rE (by omega) (by simp; omega) ?_)
              intro v5 w5 ho5 hb5
              have HZ : Hid _ := And.intro ho5 (And.intro (hB4.trans (hb5.mono (by omega))) ((q4.below hb5 (Nat.lt_succ_self _))))
              clear ho5 hb5 ho4 hB4 rE hs2 q4
              go_wp2_with fail
              go_roundw
              case rel => exact ⟨k' + 1, hlt, by go_num, .inr trivial, HZ.out.2.2, by rw [HNX.out]; exact HZ.out.1, HZ.out.2.1⟩
              case measure => simp [intOf]; omega
        · have hcc : (true || c) = true := rfl
          by_cases hI : ii = (k : Int)
          · have zI : (ii == (k : Int)) = true := by simpa using hI
            have HNX : Hid ((rs.take (k' + 1)).filterMap (offF (k : Int) true) = (rs.take k').filterMap (offF (k : Int) true) ++ [⟨a, l, 0, 16, t⟩]) := by
              show _ = _
              rw [hnx]; unfold offF offE; simp [hI, hcc]
            clear hI hnx hcc
            have rE := Row.new ((wr.alloc (.cells #[.int .i64 a, .int .i64 l, .int .i64 m, .int .i64 n, .int .i64 ii, .int .i64 t, .int .i64 u, .int .i64 b, .bool c] 101)).alloc (.cells #[.int .i64 a, .int .i64 l, .int .i64 0, .int .i64 16, .int .i64 t] 103)) 103 [.int .i64 a, .int .i64 l, .int .i64 0, .int .i64 16, .int .i64 t]
            have hs2 : ((wr.alloc (.cells #[.int .i64 a, .int .i64 l, .int .i64 m, .int .i64 n, .int .i64 ii, .int .i64 t, .int .i64 u, .int .i64 b, .bool c] 101)).alloc (.cells #[.int .i64 a, .int .i64 l, .int .i64 0, .int .i64 16, .int .i64 t] 103)).heap.size = wr.heap.size + 1 + 1 := by simp
            rw [hs2] at rE
            have ho4 := ((ho.alloc (.cells #[.int .i64 a, .int .i64 l, .int .i64 m, .int .i64 n, .int .i64 ii, .int .i64 t, .int .i64 u, .int .i64 b, .bool c] 101)).alloc (.cells #[.int .i64 a, .int .i64 l, .int .i64 0, .int .i64 16, .int .i64 t] 103)).alloc (.cells #[.int .i64 a, .int .i64 l, .int .i64 0, .int .i64 16, .int .i64 t] 103)
            have hBx := ((ent_new0 wr (.cells #[.int .i64 a, .int .i64 l, .int .i64 m, .int .i64 n, .int .i64 ii, .int .i64 t, .int .i64 u, .int .i64 b, .bool c] 101)).alloc (by simp) (.cells #[.int .i64 a, .int .i64 l, .int .i64 0, .int .i64 16, .int .i64 t] 103)).alloc (by simp; omega) (.cells #[.int .i64 a, .int .i64 l, .int .i64 0, .int .i64 16, .int .i64 t] 103)
            have hB4 := ((hB.alloc hB.size (.cells #[.int .i64 a, .int .i64 l, .int .i64 m, .int .i64 n, .int .i64 ii, .int .i64 t, .int .i64 u, .int .i64 b, .bool c] 101)).alloc (by simp; omega) (.cells #[.int .i64 a, .int .i64 l, .int .i64 0, .int .i64 16, .int .i64 t] 103)).alloc (by simp; omega) (.cells #[.int .i64 a, .int .i64 l, .int .i64 0, .int .i64 16, .int .i64 t] 103)
            have q4 := HKP.out _ hBx
            clear ho hB hBx
            go_wp2_with (at_builtin; refine wpList_append_ent rfl _ _ rfl (w.heap.size + 1) _ _ rfl ho4 (wr.heap.size + 1 + 1) 1 ⟨a, l, 0, 16, t⟩ rfl rE (by omega) (by simp; omega) ?_)
            intro v5 w5 ho5 hb5
            have HZ : Hid _ := And.intro ho5 (And.intro (hB4.trans (hb5.mono (by omega))) ((q4.below hb5 (Nat.lt_succ_self _))))
            clear ho5 hb5 ho4 hB4 rE hs2 q4
            go_wp2_with fail
            go_roundw
            case rel => exact ⟨k' + 1, hlt, by go_num, .inr trivial, HZ.out.2.2, by rw [HNX.out]; exact HZ.out.1, HZ.out.2.1⟩
            case measure => simp [intOf]; omega
          · have zI : (ii == (k : Int)) = false := by simpa using hI
            have HNX : Hid ((rs.take (k' + 1)).filterMap (offF (k : Int) true) = (rs.take k').filterMap (offF (k : Int) true) ++ [⟨a, l, 0, m, t⟩]) := by
              show _ = _
              rw [hnx]; unfold offF offE; simp [hI, hcc]
            clear hI hnx hcc
            have rE := Row.new ((wr.alloc (.cells #[.int .i64 a, .int .i64 l, .int .i64 m, .int .i64 n, .int .i64 ii, .int .i64 t, .int .i64 u, .int .i64 b, .bool c] 101)).alloc (.cells #[.int .i64 a, .int .i64 l, .int .i64 0, .int .i64 m, .int .i64 t] 103)) 103 [.int .i64 a, .int .i64 l, .int .i64 0, .int .i64 m, .int .i64 t]
            have hs2 : ((wr.alloc (.cells #[.int .i64 a, .int .i64 l, .int .i64 m, .int .i64 n, .int .i64 ii, .int .i64 t, .int .i64 u, .int .i64 b, .bool c] 101)).alloc (.cells #[.int .i64 a, .int .i64 l, .int .i64 0, .int .i64 m, .int .i64 t] 103)).heap.size = wr.heap.size + 1 + 1 := by simp
            rw [hs2] at rE
            have ho4 := ((ho.alloc (.cells #[.int .i64 a, .int .i64 l, .int .i64 m, .int .i64 n, .int .i64 ii, .int .i64 t, .int .i64 u, .int .i64 b, .bool c] 101)).alloc (.cells #[.int .i64 a, .int .i64 l, .int .i64 0, .int .i64 m, .int .i64 t] 103)).alloc (.cells #[.int .i64 a, .int .i64 l, .int .i64 0, .int .i64 m, .int .i64 t] 103)
            have hBx := ((ent_new0 wr (.cells #[.int .i64 a, .int .i64 l, .int .i64 m, .int .i64 n, .int .i64 ii, .int .i64 t, .int .i64 u, .int .i64 b, .bool c] 101)).alloc (by simp) (.cells #[.int .i64 a, .int .i64 l, .int .i64 0, .int .i64 m, .int .i64 t] 103)).alloc (by simp; omega) (.cells #[.int .i64 a, .int .i64 l, .int .i64 0, .int .i64 m, .int .i64 t] 103)
            have hB4 := ((hB.alloc hB.size (.cells #[.int .i64 a, .int .i64 l, .int .i64 m, .int .i64 n, .int .i64 ii, .int .i64 t, .int .i64 u, .int .i64 b, .bool c] 101)).alloc (by simp; omega) (.cells #[.int .i64 a, .int .i64 l, .int .i64 0, .int .i64 m, .int .i64 t] 103)).alloc (by simp; omega) (.cells #[.int .i64 a, .int .i64 l, .int .i64 0, .int .i64 m, .int .i64 t] 103)
            have q4 := HKP.out _ hBx
            clear ho hB hBx
            go_wp2_with (at_builtin; refine wpList_append_ent rfl _ _ rfl (w.heap.size + 1) _ _ rfl ho4 (wr.heap.size + 1 + 1) 1 ⟨a, l, 0, m, t⟩ rfl rE (by omega) (by simp; omega) ?_)
            intro v5 w5 ho5 hb5
            have HZ : Hid _ := And.intro ho5 (And.intro (hB4.trans (hb5.mono (by omega))) ((q4.below hb5 (Nat.lt_succ_self _))))
            clear ho5 hb5 ho4 hB4 rE hs2 q4
            go_wp2_with fail
            go_roundw
            case rel => exact ⟨k' + 1, hlt, by go_num, .inr trivial, HZ.out.2.2, by rw [HNX.out]; exact HZ.out.1, HZ.out.2.1⟩
            case measure => simp [intOf]; omega
    · obtain rfl : k' = rs.length := by omega
      have d1 : decide ((rs.length : Int) < (rs.length : Int)) = false := by simp
      have hE : (rs.take rs.length).filterMap (offF (k : Int) all) = (if U = true then rs.filterMap (offF (k : Int) all) else []) := by
        rw [List.take_length]
        rcases HUU.out with h | h
        · have : rs = [] := List.length_eq_zero_iff.1 h
          subst this
          cases U <;> rfl
        · rw [h]
          rfl
      rw [hE, HRES.out] at ho
      have ho := OwnE.mono (base' := w.heap.size) ho (by omega)
      clear hE HRES
      clear hlt hk' HUU
      go_wp2
      go_ret
      exact ⟨⟨_, rfl, ho⟩, hB⟩
set_option maxRecDepth 100000 in
set_option maxHeartbeats 2000000 in
theorem specOffer_any (x : Option Addr) (c1 : Nat) (y : Option Addr) (c2 : Nat) (is : List If) (rs : List Rt) (now : Int) (i : Int) (all : Bool) (w : World) (h1 : IfsIn w x is) (hc : is.length ≤ c1) (h2 : RtsIn w y rs) (hn1 : is.length ≤ 100000000) (hn2 : rs.length ≤ 100000000) :
    Calls Try.prog 25 #[instV x is.length c1 y rs.length c2 now, .int .i64 i, .bool all] w fun e w' => (∃ v, e = .returned v ∧ OwnE w' w.heap.size v (offerO is rs now i all)) ∧ Below w.heap.size w w' := by
  have HR : Hid (∀ w, IfsIn w x is → RtsIn w y rs → Calls Try.prog 10 #[instV x is.length c1 y rs.length c2 now] w fun e w' => e = .returned (.bool (instB is rs now)) ∧ Below w.heap.size w w') := fun w p q => specInst_any x c1 y c2 is rs now w p hc q hn1 hn2
  have HT : Hid (∀ w, Calls Try.prog 55 #[instV x is.length c1 y rs.length c2 now, .int .i64 i] w fun e w' => e = .returned (.bool (decide (0 ≤ i ∧ i ≤ (is.length : Int) - 1))) ∧ Below w.heap.size w w') := fun w => l07There_any x is.length c1 y rs.length c2 now i w hn1
  have HO : Hid (instB is rs now = true → ∀ k (hk : k < is.length) w, IfsIn w x is → RtsIn w y rs → Calls Try.prog 59 #[instV x is.length c1 y rs.length c2 now, .int .i64 (k : Int), .bool all] w fun e w' => (∃ v, e = .returned v ∧ OwnE w' w.heap.size v (if is[k].u = true then rs.filterMap (offF (k : Int) all) else [])) ∧ Below w.heap.size w w') := fun hI k hk w p q => l07Offer_any x c1 y c2 is rs now k all w p q hk (ribB_spec (instB_ifs hI).2.1).1
  have HX : Hid (IfsIn w x is ∧ RtsIn w y rs) := ⟨h1, h2⟩
  have HD : Hid (offerO is rs now i all = if instB is rs now = true then (match ifAt is i with | none => [] | some f => if f.u = true then rs.filterMap (offF i all) else []) else []) := rfl
  clear h1 h2 hc hn1 hn2
  generalize offerO is rs now i all = RES at *
  generalize instB is rs now = IB at *
  unfold instV at *
  have HQ : Hid _ := And.intro (Row.new w 35 [.slice x is.length c1, .slice y rs.length c2, .int .i64 now]) (ent_new0 w (.cells #[.slice x is.length c1, .slice y rs.length c2, .int .i64 now] 35))
  go_enter Try.func25, Try.ntmps25
  go_wp2_with fail
  obtain ⟨q0, hB⟩ := HQ.out
  refine (HR.out _ (HX.out.1.below hB) (HX.out.2.below hB)).mono ?_
  rintro e w1 ⟨rfl, hb1⟩
  have q0 := q0.below hb1 q0.lt
  have hB := hB.trans (hb1.mono hB.size)
  clear hb1 HR HQ
  have hR := HD.out
  clear HD
  have hLit : ∀ (w4 : World), Below w.heap.size w w4 → OwnE (w4.alloc (.cells #[] 103)) w.heap.size (.slice (some ⟨w4.heap.size, 0, none⟩) 0 0) [] := fun w4 hb4 => by
    have ho := World.ownsRow_lit (base := w4.heap.size) (e := 103) (size := 5) w4 #[] 0 (Nat.le_refl _) (Nat.zero_le _) (by simp)
    exact OwnE.mono (base := w4.heap.size) (by simpa [OwnE, rowE] using ho) hb4.size
  have HLT : Hid _ := hLit
  clear hLit
  cases IB
  · simp only [Bool.false_eq_true, if_false] at hR
    go_wp2
    go_ret
    exact ⟨⟨_, rfl, by rw [hR]; exact HLT.out _ hB⟩, hB.alloc hB.size _⟩
  · simp only [if_true] at hR
    have y0 : w1.cell? ⟨w.heap.size, 0, none⟩ = some (.slice x is.length c1) := q0.cell 0
    have y1 : w1.cell? ⟨w.heap.size, 1, none⟩ = some (.slice y rs.length c2) := q0.cell 1
    have y2 : w1.cell? ⟨w.heap.size, 2, none⟩ = some (.int .i64 now) := q0.cell 2
    go_wp2_with fail
    refine (HT.out _).mono ?_
    rintro e w2 ⟨rfl, hb2⟩
    have q0 := q0.below hb2 q0.lt
    have hBf : Below w.heap.size w w2 := hB.trans (hb2.mono hB.size)
    clear hb2 HT y0 y1 y2 hB
    cases hia : ifAt is i with
    | none =>
      rw [hia] at hR
      simp only at hR
      have hd : decide (0 ≤ i ∧ i ≤ (is.length : Int) - 1) = false := by
        have := ifAt_out hia
        simp only [decide_eq_false_iff_not]
        omega
      rw [hd]
      clear hd hia
      go_wp2
      go_ret
      exact ⟨⟨_, rfl, by rw [hR]; exact HLT.out _ hBf⟩, hBf.alloc hBf.size _⟩
    | some f =>
      rw [hia] at hR
      simp only at hR
      obtain ⟨k, rfl, hk, e⟩ := ifAt_some hia
      have hd : decide (0 ≤ (k : Int) ∧ (k : Int) ≤ (is.length : Int) - 1) = true := by simp only [decide_eq_true_eq]; omega
      have HOk := HO.out trivial k hk
      rw [e, ← hR] at HOk
      clear hia e HO HLT hR
      rw [hd]
      clear hd
      have y0 : w2.cell? ⟨w.heap.size, 0, none⟩ = some (.slice x is.length c1) := q0.cell 0
      have y1 : w2.cell? ⟨w.heap.size, 1, none⟩ = some (.slice y rs.length c2) := q0.cell 1
      have y2 : w2.cell? ⟨w.heap.size, 2, none⟩ = some (.int .i64 now) := q0.cell 2
      go_wp2_with fail
      refine (HOk _ (HX.out.1.below hBf) (HX.out.2.below hBf)).mono ?_
      rintro e w3 ⟨⟨v, rfl, ho⟩, hb3⟩
      have ho := ho.mono hBf.size
      have hBg : Below w.heap.size w w3 := hBf.trans (hb3.mono hBf.size)
      clear hb3 y0 y1 y2
      obtain ⟨pv, cv, rfl, -⟩ := ho.form
      go_wp2
      go_ret
      exact ⟨⟨_, rfl, ho⟩, hBg⟩
end Go.Proofs.Ytflmbkjnlgibnaa
