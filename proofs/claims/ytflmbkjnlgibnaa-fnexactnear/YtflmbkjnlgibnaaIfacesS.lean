/- The Ifaces of a router, right: by the model. (Written by gen_ifss.py.) -/
import Derived.Test.YtflmbkjnlgibnaaIfacesI
namespace Go.Proofs.Ytflmbkjnlgibnaa
open Go.RowKit Go.Sort

theorem likeI_comm (f g : If) : likeI f g = likeI g f := by
  unfold likeI
  rw [Bool.eq_iff_iff]
  simp only [Bool.or_eq_true, Bool.and_eq_true, decide_eq_true_eq]
  omega
theorem ifsOk_bad {rs : List If} {k j : Nat} (hk : k < rs.length) (hj : j < k) (h : likeI rs[j]! rs[k]! = true) : ifsOk rs k = false := by
  unfold ifsOk
  rw [Bool.and_eq_false_iff]
  right
  refine unlikeB_bad (k := j) (by rw [List.length_take]; omega) ?_
  rw [List.getElem_take, likeI_comm, ← get_bangI (by omega)]
  exact h
theorem ifsOk_good {rs : List If} {k : Nat} (hk : k < rs.length) (hi : ifB rs[k]! = true) (h : ∀ j, j < k → likeI rs[j]! rs[k]! = false) : ifsOk rs k = true := by
  unfold ifsOk
  rw [hi, Bool.true_and]
  refine unlikeB_good fun j hj => ?_
  rw [List.length_take] at hj
  rw [List.getElem_take, likeI_comm, ← get_bangI (by omega)]
  exact h j (by omega)
set_option maxRecDepth 100000 in
set_option maxHeartbeats 4000000 in
theorem l07Ifaces_any (p : Option Addr) (cap : Nat) (rs : List If) (w : World) (h : IfsIn w p rs) (hn : rs.length ≤ 100000000) :
    Calls Try.prog 40 #[.slice p rs.length cap] w fun e w' => e = .returned (.bool (ifsB rs)) ∧ Below w.heap.size w w' := by
  have HX : Hid (IfsIn w p rs) := h
  have HB1 : Hid (∀ k, k < rs.length → ifsOk rs k = false → ifsB rs = false) := fun k hk h => ifsB_bad hk h
  clear h
  by_cases h3 : rs.length ≤ 3
  · have d3 : decide (3 < (rs.length : Int)) = false := by simp; omega
    have HG : Hid ((∀ j, j < rs.length → ifsOk rs j = true) → ifsB rs = true) := fun h => ifsB_good h3 h
    generalize ifsB rs = R at *
    go_enter Try.func40, Try.ntmps40
    go_wp2_with fail
    go_loopw [3] (fun i wr => ∃ k : Nat, k ≤ rs.length ∧ i = .int .i64 k ∧ (∀ j, j < k → ifsOk rs j = true) ∧ Below w.heap.size w wr) (fun i _ => rs.length - (intOf i).toNat)
    case atStart => exact ⟨0, Nat.zero_le _, rfl, fun j hj => absurd hj (by omega), Below.refl _ _⟩
    case round =>
      obtain ⟨k, hk, rfl, ha, hB⟩ := hrel
      by_cases hlt : k < rs.length
      · have d1 : decide ((k : Int) < (rs.length : Int)) = true := by simpa using hlt
        obtain ⟨g, d, a, l, c, u, rfl, hg, hek, c0, c1, c2, c3, c4⟩ := (HX.out.below hB).at k hlt
        have hbk : rs[k]! = ⟨d, a, l, c, u⟩ := (get_bangI hlt).trans hek
        have HI : Hid (∀ w, Calls Try.prog 71 #[.agg #[.int .i64 d, .int .i64 a, .int .i64 l, .int .i64 c, .bool u]] w fun e w' => e = .returned (.bool (ifB ⟨d, a, l, c, u⟩)) ∧ Below w.heap.size w w') := specIface_any ⟨d, a, l, c, u⟩
        have HBad : Hid (ifsOk rs k = false → R = false) := HB1.out k hlt
        have HNxO : Hid (ifsOk rs k = true → ∀ j, j < k + 1 → ifsOk rs j = true) := fun h j hj => by
          rcases Nat.lt_or_ge j k with h' | h'
          · exact ha j h'
          · obtain rfl : j = k := by omega
            exact h
        have HBI : Hid (ifB ⟨d, a, l, c, u⟩ = false → ifsOk rs k = false) := fun h => by unfold ifsOk; rw [hbk, h]; rfl
        have HGo : Hid (ifB ⟨d, a, l, c, u⟩ = true → (∀ j, j < k → likeI rs[j]! rs[k]! = false) → ifsOk rs k = true) := fun h h' => ifsOk_good hlt (by rw [hbk]; exact h) h'
        have HLb : Hid (∀ j, j < k → likeI rs[j]! rs[k]! = true → ifsOk rs k = false) := fun j hj h => ifsOk_bad hlt hj h
        have HBK : Hid _ := hbk
        clear HB1 HG ha hek hbk
        go_wp2_with fail
        refine (HI.out _).mono ?_
        rintro e w1 ⟨rfl, hb1⟩
        have hB1 := hB.trans (hb1.mono hB.size)
        clear hb1 HI c0 c1 c2 c3 c4 hB
        generalize ifB ⟨d, a, l, c, u⟩ = IB at *
        cases IB
        · go_wp2
          go_ret
          exact ⟨ret_bool (HBad.out (HBI.out (by trivial))).symm, hB1⟩
        · clear HBI
          go_wp2_with fail
          go_loopw [4] (fun i wr => ∃ j : Nat, j ≤ k ∧ i = .int .i64 j ∧ (∀ t, t < j → likeI rs[t]! rs[k]! = false) ∧ Below w.heap.size w wr) (fun i _ => k - (intOf i).toNat)
          case atStart => exact ⟨0, Nat.zero_le _, rfl, fun j hj => absurd hj (by omega), hB1⟩
          case round =>
            obtain ⟨j, hj, rfl, hb, hB2⟩ := hrel
            clear hB1
            by_cases hjk : j < k
            · have d2 : decide ((j : Int) < (k : Int)) = true := by simpa using hjk
              have hjN : j < rs.length := by omega
              have d4 : decide ((j : Int) < (rs.length : Int)) = true := by simp; omega
              obtain ⟨g', D, A, L, C, U, hgg, hg', hej, x0, x1, x2, x3, x4⟩ := (HX.out.below hB2).at j hjN
              simp only [Option.some.injEq, Addr.mk.injEq, and_true] at hgg
              subst hgg
              obtain ⟨g', d', a', l', c', u', hgg, hg', hek', y0, y1, y2, y3, y4⟩ := (HX.out.below hB2).at k hlt
              simp only [Option.some.injEq, Addr.mk.injEq, and_true] at hgg
              subst hgg
              have hh := (get_bangI hlt).symm.trans HBK.out
              rw [hek'] at hh
              simp only [If.mk.injEq] at hh
              obtain ⟨rfl, rfl, rfl, rfl, rfl⟩ := hh
              have hlk : likeI rs[j]! rs[k]! = (decide (D = d') || (decide (A = a') && decide (L = l'))) := by rw [get_bangI hjN, get_bangI hlt, hej, hek']; rfl
              have HNe : Hid (likeI rs[j]! rs[k]! = false → ∀ t, t < j + 1 → likeI rs[t]! rs[k]! = false) := fun h t ht => by
                rcases Nat.lt_or_ge t j with h' | h'
                · exact hb t h'
                · obtain rfl : t = j := by omega
                  exact h
              have HLj : Hid (likeI rs[j]! rs[k]! = true → R = false) := fun h => HBad.out (HLb.out j hjk h)
              rw [hlk] at HLj
              have HNe2 : Hid ((decide (D = d') || (decide (A = a') && decide (L = l'))) = false → ∀ t, t < j + 1 → likeI rs[t]! rs[k]! = false) := fun h => HNe.out (by rw [hlk]; exact h)
              clear x3 x4 y3 y4 HNe hlk hek' hej hb HGo HLb HNxO
              by_cases e0 : D = d'
              · have z0 : (D == d') = true := by simpa using e0
                have HLk : Hid (R = false) := HLj.out (by simp [e0])
                clear e0 HLj HNe2 HBad
                go_wp2_with fail
                replace x0 := cell_regrown x0
                replace x1 := cell_regrown x1
                replace x2 := cell_regrown x2
                replace y0 := cell_regrown y0
                replace y1 := cell_regrown y1
                replace y2 := cell_regrown y2
                refine wp_region_quiet_below (by kernel_rfl) (by kernel_rfl) ?_
                repeat (go_big_quiet_step (fail))
                refine wpQuiet_nil ?_
                intro w3 hw'
                obtain ⟨⟨dq, osq⟩, hw''⟩ := hw'
                have hbq := below_regrown wr dq osq
                rw [← hw''] at hbq
                clear hw'' osq dq x0 x1 x2 y0 y1 y2
                have hB3 := hB2.trans (hbq.mono hB2.size)
                clear hbq
                go_wp2
                go_ret
                exact ⟨ret_bool HLk.out.symm, hB3⟩
              · have z0 : (D == d') = false := by simpa using e0
                by_cases e1 : A = a'
                · have z1 : (A == a') = true := by simpa using e1
                  by_cases e2 : L = l'
                  · have z2 : (L == l') = true := by simpa using e2
                    have HLk : Hid (R = false) := HLj.out (by simp [e1, e2])
                    clear e0 e1 e2 HLj HNe2 HBad
                    go_wp2_with fail
                    replace x0 := cell_regrown x0
                    replace x1 := cell_regrown x1
                    replace x2 := cell_regrown x2
                    replace y0 := cell_regrown y0
                    replace y1 := cell_regrown y1
                    replace y2 := cell_regrown y2
                    refine wp_region_quiet_below (by kernel_rfl) (by kernel_rfl) ?_
                    repeat (go_big_quiet_step (fail))
                    refine wpQuiet_nil ?_
                    intro w3 hw'
                    obtain ⟨⟨dq, osq⟩, hw''⟩ := hw'
                    have hbq := below_regrown wr dq osq
                    rw [← hw''] at hbq
                    clear hw'' osq dq x0 x1 x2 y0 y1 y2
                    have hB3 := hB2.trans (hbq.mono hB2.size)
                    clear hbq
                    go_wp2
                    go_ret
                    exact ⟨ret_bool HLk.out.symm, hB3⟩
                  · have z2 : (L == l') = false := by simpa using e2
                    have HNx : Hid _ := HNe2.out (by simp [e0, e2])
                    clear e0 e1 e2 HLj HNe2 HBad
                    go_wp2_with fail
                    replace x0 := cell_regrown x0
                    replace x1 := cell_regrown x1
                    replace x2 := cell_regrown x2
                    replace y0 := cell_regrown y0
                    replace y1 := cell_regrown y1
                    replace y2 := cell_regrown y2
                    refine wp_region_quiet_below (by kernel_rfl) (by kernel_rfl) ?_
                    repeat (go_big_quiet_step (fail))
                    refine wpQuiet_nil ?_
                    intro w3 hw'
                    obtain ⟨⟨dq, osq⟩, hw''⟩ := hw'
                    have hbq := below_regrown wr dq osq
                    rw [← hw''] at hbq
                    clear hw'' osq dq x0 x1 x2 y0 y1 y2
                    have hB3 := hB2.trans (hbq.mono hB2.size)
                    clear hbq
                    go_wp2
                    go_roundw
                    case rel => exact ⟨j + 1, hjk, by go_num, HNx.out, hB3⟩
                    case measure => simp [intOf]; omega
                · have z1 : (A == a') = false := by simpa using e1
                  have HNx : Hid _ := HNe2.out (by simp [e0, e1])
                  clear e0 e1 HLj HNe2 HBad
                  go_wp2_with fail
                  replace x0 := cell_regrown x0
                  replace x1 := cell_regrown x1
                  replace x2 := cell_regrown x2
                  replace y0 := cell_regrown y0
                  replace y1 := cell_regrown y1
                  replace y2 := cell_regrown y2
                  refine wp_region_quiet_below (by kernel_rfl) (by kernel_rfl) ?_
                  repeat (go_big_quiet_step (fail))
                  refine wpQuiet_nil ?_
                  intro w3 hw'
                  obtain ⟨⟨dq, osq⟩, hw''⟩ := hw'
                  have hbq := below_regrown wr dq osq
                  rw [← hw''] at hbq
                  clear hw'' osq dq x0 x1 x2 y0 y1 y2
                  have hB3 := hB2.trans (hbq.mono hB2.size)
                  clear hbq
                  go_wp2
                  go_roundw
                  case rel => exact ⟨j + 1, hjk, by go_num, HNx.out, hB3⟩
                  case measure => simp [intOf]; omega
            · obtain rfl : j = k := by omega
              have d2 : decide ((j : Int) < (j : Int)) = false := by simp
              have HNx : Hid _ := HNxO.out (HGo.out (by trivial) hb)
              clear hjk hj HBad HGo HLb HNxO hb
              go_wp2
              go_roundw
              case rel => exact ⟨j + 1, hlt, by go_num, HNx.out, hB2⟩
              case measure => simp [intOf]; omega
      · obtain rfl : k = rs.length := by omega
        have d1 : decide ((rs.length : Int) < (rs.length : Int)) = false := by simp
        have hR := HG.out ha
        clear hlt hk HB1 HG ha
        go_wp2
        go_ret
        exact ⟨by rw [hR]; rfl, hB⟩
  · have d3 : decide (3 < (rs.length : Int)) = true := by simp; omega
    have hf : ifsB rs = false := by unfold ifsB; rw [decide_eq_false h3]; rfl
    rw [hf]
    clear HB1 hf
    go_enter Try.func40, Try.ntmps40
    go_wp2
    go_ret
    exact ⟨rfl, Below.refl _ _⟩
end Go.Proofs.Ytflmbkjnlgibnaa
