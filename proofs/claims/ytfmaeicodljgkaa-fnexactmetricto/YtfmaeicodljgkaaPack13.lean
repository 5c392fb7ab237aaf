/- Texts that stand on each other, in one file: IfacesI, IfacesS, RibR, InstR, MeshM, HasI, ApartS, ThereL. -/
import Derived.Test.YtfmaeicodljgkaaPack12
import Derived.Lib.QuietBelow
import Derived.BigQuiet
import Derived.Test.YtfmaeicodljgkaaPack9
import Derived.Test.YtfmaeicodljgkaaPack11
import Derived.Test.YtfmaeicodljgkaaTail
import Derived.Test.YtfmaeicodljgkaaPack7
/- The Ifaces of a router, right: by the program. (Written by gen_ifsr.py.) -/
namespace Go.Proofs.Ytfmaeicodljgkaa
open Go.RowKit Go.Sort

def ifsOk (rs : List If) (k : Nat) : Bool := ifB rs[k]! && unlikeB rs[k]! (rs.take k)
def ifsB (rs : List If) : Bool := decide (rs.length ≤ 3) && (List.range rs.length).all (ifsOk rs)
theorem ifsB_bad {rs : List If} {k : Nat} (hk : k < rs.length) (h : ifsOk rs k = false) : ifsB rs = false := by
  unfold ifsB
  rw [Bool.and_eq_false_iff]
  right
  rw [List.all_eq_false]
  exact ⟨k, List.mem_range.2 hk, by simp [h]⟩
theorem ifsB_good {rs : List If} (h3 : rs.length ≤ 3) (h : ∀ j, j < rs.length → ifsOk rs j = true) : ifsB rs = true := by
  unfold ifsB
  rw [decide_eq_true h3, Bool.true_and, List.all_eq_true]
  intro j hj
  exact h j (List.mem_range.1 hj)
theorem get_bangI {rs : List If} {k : Nat} (h : k < rs.length) : rs[k]! = rs[k] := by simp [h]
theorem IfsIn.take {w : World} {p : Option Addr} {rs : List If} (h : IfsIn w p rs) (k : Nat) : IfsIn w p (rs.take k) := by
  rcases h with rfl | ⟨g, e, hg, hc⟩
  · exact .inl (by simp)
  · refine .inr ⟨g, e, hg, fun j u hj => hc j u ?_⟩
    rw [← List.take_append_drop k rs, rowI_append, List.getElem?_append_left (List.getElem?_eq_some_iff.1 hj).1]
    exact hj
theorem sliceI_upto (g n cap k : Nat) (x : Int) (hx : x = k) (hk : k ≤ cap) (w : World) : (Instr.slice 30 (.slice (some ⟨g, 0, none⟩) n cap) none (some (.int .i64 x)) none).run Try.prog w = .ok (.slice (some ⟨g, 0, none⟩) k cap) w := by
  subst hx
  have hb := run_sliceBound (P := Try.prog) w .i64 (k : Int) cap .sliceAcap (by omega) (by omega)
  have ha : (⟨g, 0, none⟩ : Addr).add 0 = ⟨g, 0, none⟩ := by unfold Addr.add; simp
  unfold Instr.slice Instr.sliceBounds
  simp [Sem.run_bind, run_underlying Try.underlying30, hb, ha]
set_option maxRecDepth 100000 in
set_option maxHeartbeats 4000000 in
theorem ifacesRight_any (p : Option Addr) (cap : Nat) (rs : List If) (w : World) (h : IfsIn w p rs) (hcl : rs.length ≤ cap) (hn : rs.length ≤ 100000000) :
    Calls Try.prog 29 #[.slice p rs.length cap] w fun e w' => e = .returned (.bool (ifsB rs)) ∧ Below w.heap.size w w' := by
  have HX : Hid (IfsIn w p rs) := h
  have HB1 : Hid (∀ k, k < rs.length → ifsOk rs k = false → ifsB rs = false) := fun k hk h => ifsB_bad hk h
  clear h
  by_cases h3 : rs.length ≤ 3
  · have d3 : decide (3 < (rs.length : Int)) = false := by simp; omega
    have HG : Hid ((∀ j, j < rs.length → ifsOk rs j = true) → ifsB rs = true) := fun h => ifsB_good h3 h
    generalize ifsB rs = R at *
    go_enter Try.func29, Try.ntmps29
    go_wp2_with fail
    go_loopw [10] (fun i wr => ∃ k : Nat, k ≤ rs.length ∧ i = .int .i64 k ∧ (∀ j, j < k → ifsOk rs j = true) ∧ Below w.heap.size w wr) (fun i _ => rs.length - (intOf i).toNat)
    case atStart => exact ⟨0, Nat.zero_le _, rfl, fun j hj => absurd hj (by omega), Below.refl _ _⟩
    case round =>
      obtain ⟨k, hk, rfl, ha, hB⟩ := hrel
      by_cases hlt : k < rs.length
      · have d1 : decide ((k : Int) < (rs.length : Int)) = true := by simpa using hlt
        obtain ⟨g, D, A, L, C, U, rfl, hg, hek, c0, c1, c2, c3, c4⟩ := (HX.out.below hB).at k hlt
        have hok : ifsOk rs k = (ifB ⟨D, A, L, C, U⟩ && unlikeB ⟨D, A, L, C, U⟩ (rs.take k)) := by unfold ifsOk; rw [get_bangI hlt, hek]
        have HI : Hid (∀ w, Calls Try.prog 59 #[.agg #[.int .i64 D, .int .i64 A, .int .i64 L, .int .i64 C, .bool U]] w fun e w' => e = .returned (.bool (ifB ⟨D, A, L, C, U⟩)) ∧ Below w.heap.size w w') := implIface_any ⟨D, A, L, C, U⟩
        have HU : Hid (∀ w, IfsIn w (some ⟨g, 0, none⟩) (rs.take k) → Calls Try.prog 60 #[.agg #[.int .i64 D, .int .i64 A, .int .i64 L, .int .i64 C, .bool U], .slice (some ⟨g, 0, none⟩) k cap] w fun e w' => e = .returned (.bool (unlikeB ⟨D, A, L, C, U⟩ (rs.take k))) ∧ Below w.heap.size w w') := fun w h => by
          have := unlike_any ⟨D, A, L, C, U⟩ (some ⟨g, 0, none⟩) cap (rs.take k) w h (by rw [List.length_take]; omega)
          rw [List.length_take, Nat.min_eq_left (by omega)] at this
          exact this
        have hX1 := ((HX.out.below hB).alloc (.cells #[.int .i64 D, .int .i64 A, .int .i64 L, .int .i64 C, .bool U] 73)).take k
        have qn := Row.new wr 73 [.int .i64 D, .int .i64 A, .int .i64 L, .int .i64 C, .bool U]
        have HBad : Hid (ifsOk rs k = false → R = false) := HB1.out k hlt
        have hNx : ifsOk rs k = true → ∀ j, j < k + 1 → ifsOk rs j = true := fun h j hj => by
          rcases Nat.lt_or_ge j k with h' | h'
          · exact ha j h'
          · obtain rfl : j = k := by omega
            exact h
        have HNx : Hid _ := hNx
        rw [hok] at HNx HBad
        have hBr := hB.alloc hB.size (.cells #[.int .i64 D, .int .i64 A, .int .i64 L, .int .i64 C, .bool U] 73)
        have hsl := sliceI_upto g rs.length cap k (k : Int) rfl (by omega)
        have y0 : (wr.alloc (.cells #[.int .i64 D, .int .i64 A, .int .i64 L, .int .i64 C, .bool U] 73)).cell? ⟨wr.heap.size, 0, none⟩ = some (.int .i64 D) := qn.cell 0
        have y1 : (wr.alloc (.cells #[.int .i64 D, .int .i64 A, .int .i64 L, .int .i64 C, .bool U] 73)).cell? ⟨wr.heap.size, 1, none⟩ = some (.int .i64 A) := qn.cell 1
        have y2 : (wr.alloc (.cells #[.int .i64 D, .int .i64 A, .int .i64 L, .int .i64 C, .bool U] 73)).cell? ⟨wr.heap.size, 2, none⟩ = some (.int .i64 L) := qn.cell 2
        have y3 : (wr.alloc (.cells #[.int .i64 D, .int .i64 A, .int .i64 L, .int .i64 C, .bool U] 73)).cell? ⟨wr.heap.size, 3, none⟩ = some (.int .i64 C) := qn.cell 3
        have y4 : (wr.alloc (.cells #[.int .i64 D, .int .i64 A, .int .i64 L, .int .i64 C, .bool U] 73)).cell? ⟨wr.heap.size, 4, none⟩ = some (.bool U) := qn.cell 4
        clear HB1 HG ha hB hok hNx qn hek
        generalize unlikeB ⟨D, A, L, C, U⟩ (rs.take k) = UB at *
        generalize ifB ⟨D, A, L, C, U⟩ = IB at *
        cases IB
        · clear HU hsl
          go_wp2_with fail
          replace y0 := cell_regrown y0
          replace y1 := cell_regrown y1
          replace y2 := cell_regrown y2
          replace y3 := cell_regrown y3
          replace y4 := cell_regrown y4
          refine wp_region_quiet_below (by kernel_rfl) (by kernel_rfl) ?_
          repeat (go_big_quiet_step (first | (go_at_call 59; exact Calls.regrown_of (HI.out _))))
          refine wpQuiet_nil ?_
          intro w1 hw'
          obtain ⟨⟨dq, osq⟩, hw''⟩ := hw'
          have hbq := below_regrown (wr.alloc (.cells #[.int .i64 D, .int .i64 A, .int .i64 L, .int .i64 C, .bool U] 73)) dq osq
          rw [← hw''] at hbq
          clear hw'' osq dq y0 y1 y2 y3 y4
          have hB2 := hBr.trans (hbq.mono hBr.size)
          clear hbq
          go_wp2
          go_ret
          exact ⟨ret_bool (HBad.out (by rfl)).symm, hB2⟩
        · cases UB
          · clear HNx
            go_wp2_with fail
            replace y0 := cell_regrown y0
            replace y1 := cell_regrown y1
            replace y2 := cell_regrown y2
            replace y3 := cell_regrown y3
            replace y4 := cell_regrown y4
            refine wp_region_quiet_below (by kernel_rfl) (by kernel_rfl) ?_
            repeat (go_big_quiet_step (first | (go_at_call 59; exact Calls.regrown_of (HI.out _)) | (go_at_call 60; exact Calls.regrown_of (HU.out _ (hX1.below (below_regrown _ _ _))))))
            refine wpQuiet_nil ?_
            intro w1 hw'
            obtain ⟨⟨dq, osq⟩, hw''⟩ := hw'
            have hbq := below_regrown (wr.alloc (.cells #[.int .i64 D, .int .i64 A, .int .i64 L, .int .i64 C, .bool U] 73)) dq osq
            rw [← hw''] at hbq
            clear hw'' osq dq y0 y1 y2 y3 y4
            have hB2 := hBr.trans (hbq.mono hBr.size)
            clear hbq
            go_wp2
            go_ret
            exact ⟨ret_bool (HBad.out (by rfl)).symm, hB2⟩
          · clear HBad
            go_wp2_with fail
            replace y0 := cell_regrown y0
            replace y1 := cell_regrown y1
            replace y2 := cell_regrown y2
            replace y3 := cell_regrown y3
            replace y4 := cell_regrown y4
            refine wp_region_quiet_below (by kernel_rfl) (by kernel_rfl) ?_
            repeat (go_big_quiet_step (first | (go_at_call 59; exact Calls.regrown_of (HI.out _)) | (go_at_call 60; exact Calls.regrown_of (HU.out _ (hX1.below (below_regrown _ _ _))))))
            refine wpQuiet_nil ?_
            intro w1 hw'
            obtain ⟨⟨dq, osq⟩, hw''⟩ := hw'
            have hbq := below_regrown (wr.alloc (.cells #[.int .i64 D, .int .i64 A, .int .i64 L, .int .i64 C, .bool U] 73)) dq osq
            rw [← hw''] at hbq
            clear hw'' osq dq y0 y1 y2 y3 y4
            have hB2 := hBr.trans (hbq.mono hBr.size)
            clear hbq
            go_wp2
            go_roundw
            case rel => exact ⟨k + 1, hlt, by go_num, HNx.out (by rfl), hB2⟩
            case measure => simp [intOf]; omega
      · obtain rfl : k = rs.length := by omega
        have d1 : decide ((rs.length : Int) < (rs.length : Int)) = false := by simp
        have hR := HG.out ha
        clear hlt hk HB1 HG ha
        go_wp2
        go_ret
        exact ⟨by rw [hR]; rfl, hB⟩
  · have d3 : decide (3 < (rs.length : Int)) = true := by simp; omega
    have hf : ifsB rs = false := by unfold ifsB; rw [decide_eq_false h3]; rfl
    rw [hf]
    clear HB1 hf
    go_enter Try.func29, Try.ntmps29
    go_wp2
    go_ret
    exact ⟨rfl, Below.refl _ _⟩
end Go.Proofs.Ytfmaeicodljgkaa
/- The Ifaces of a router, right: by the model. (Written by gen_ifss.py.) -/
namespace Go.Proofs.Ytfmaeicodljgkaa
open Go.RowKit Go.Sort

theorem likeI_comm (f g : If) : likeI f g = likeI g f := by
  unfold likeI
  rw [Bool.eq_iff_iff]
  simp only [Bool.or_eq_true, Bool.and_eq_true, decide_eq_true_eq]
  omega
theorem ifsOk_bad {rs : List If} {k j : Nat} (hk : k < rs.length) (hj : j < k) (h : likeI rs[j]! rs[k]! = true) : ifsOk rs k = false := by
  unfold ifsOk
  rw [Bool.and_eq_false_iff]
  right
  refine unlikeB_bad (k := j) (by rw [List.length_take]; omega) ?_
  rw [List.getElem_take, likeI_comm, ← get_bangI (by omega)]
  exact h
theorem ifsOk_good {rs : List If} {k : Nat} (hk : k < rs.length) (hi : ifB rs[k]! = true) (h : ∀ j, j < k → likeI rs[j]! rs[k]! = false) : ifsOk rs k = true := by
  unfold ifsOk
  rw [hi, Bool.true_and]
  refine unlikeB_good fun j hj => ?_
  rw [List.length_take] at hj
  rw [List.getElem_take, likeI_comm, ← get_bangI (by omega)]
  exact h j (by omega)
set_option maxRecDepth 100000 in
set_option maxHeartbeats 4000000 in
theorem l07Ifaces_any (p : Option Addr) (cap : Nat) (rs : List If) (w : World) (h : IfsIn w p rs) (hn : rs.length ≤ 100000000) :
    Calls Try.prog 24 #[.slice p rs.length cap] w fun e w' => e = .returned (.bool (ifsB rs)) ∧ Below w.heap.size w w' := by
  have HX : Hid (IfsIn w p rs) := h
  have HB1 : Hid (∀ k, k < rs.length → ifsOk rs k = false → ifsB rs = false) := fun k hk h => ifsB_bad hk h
  clear h
  by_cases h3 : rs.length ≤ 3
  · have d3 : decide (3 < (rs.length : Int)) = false := by simp; omega
    have HG : Hid ((∀ j, j < rs.length → ifsOk rs j = true) → ifsB rs = true) := fun h => ifsB_good h3 h
    generalize ifsB rs = R at *
    go_enter Try.func24, Try.ntmps24
    go_wp2_with fail
    go_loopw [3] (fun i wr => ∃ k : Nat, k ≤ rs.length ∧ i = .int .i64 k ∧ (∀ j, j < k → ifsOk rs j = true) ∧ Below w.heap.size w wr) (fun i _ => rs.length - (intOf i).toNat)
    case atStart => exact ⟨0, Nat.zero_le _, rfl, fun j hj => absurd hj (by omega), Below.refl _ _⟩
    case round =>
      obtain ⟨k, hk, rfl, ha, hB⟩ := hrel
      by_cases hlt : k < rs.length
      · have d1 : decide ((k : Int) < (rs.length : Int)) = true := by simpa using hlt
        obtain ⟨g, d, a, l, c, u, rfl, hg, hek, c0, c1, c2, c3, c4⟩ := (HX.out.below hB).at k hlt
        have hbk : rs[k]! = ⟨d, a, l, c, u⟩ := (get_bangI hlt).trans hek
        have HI : Hid (∀ w, Calls Try.prog 54 #[.agg #[.int .i64 d, .int .i64 a, .int .i64 l, .int .i64 c, .bool u]] w fun e w' => e = .returned (.bool (ifB ⟨d, a, l, c, u⟩)) ∧ Below w.heap.size w w') := specIface_any ⟨d, a, l, c, u⟩
        have HBad : Hid (ifsOk rs k = false → R = false) := HB1.out k hlt
        have HNxO : Hid (ifsOk rs k = true → ∀ j, j < k + 1 → ifsOk rs j = true) := fun h j hj => by
          rcases Nat.lt_or_ge j k with h' | h'
          · exact ha j h'
          · obtain rfl : j = k := by omega
            exact h
        have HBI : Hid (ifB ⟨d, a, l, c, u⟩ = false → ifsOk rs k = false) := fun h => by unfold ifsOk; rw [hbk, h]; rfl
        have HGo : Hid (ifB ⟨d, a, l, c, u⟩ = true → (∀ j, j < k → likeI rs[j]! rs[k]! = false) → ifsOk rs k = true) := fun h h' => ifsOk_good hlt (by rw [hbk]; exact h) h'
        have HLb : Hid (∀ j, j < k → likeI rs[j]! rs[k]! = true → ifsOk rs k = false) := fun j hj h => ifsOk_bad hlt hj h
        have HBK : Hid _ := hbk
        clear HB1 HG ha hek hbk
        go_wp2_with fail
        refine (HI.out _).mono ?_
        rintro e w1 ⟨rfl, hb1⟩
        have hB1 := hB.trans (hb1.mono hB.size)
        clear hb1 HI c0 c1 c2 c3 c4 hB
        generalize ifB ⟨d, a, l, c, u⟩ = IB at *
        cases IB
        · go_wp2
          go_ret
          exact ⟨ret_bool (HBad.out (HBI.out (by trivial))).symm, hB1⟩
        · clear HBI
          go_wp2_with fail
          go_loopw [4] (fun i wr => ∃ j : Nat, j ≤ k ∧ i = .int .i64 j ∧ (∀ t, t < j → likeI rs[t]! rs[k]! = false) ∧ Below w.heap.size w wr) (fun i _ => k - (intOf i).toNat)
          case atStart => exact ⟨0, Nat.zero_le _, rfl, fun j hj => absurd hj (by omega), hB1⟩
          case round =>
            obtain ⟨j, hj, rfl, hb, hB2⟩ := hrel
            clear hB1
            by_cases hjk : j < k
            · have d2 : decide ((j : Int) < (k : Int)) = true := by simpa using hjk
              have hjN : j < rs.length := by omega
              have d4 : decide ((j : Int) < (rs.length : Int)) = true := by simp; omega
              obtain ⟨g', D, A, L, C, U, hgg, hg', hej, x0, x1, x2, x3, x4⟩ := (HX.out.below hB2).at j hjN
              simp only [Option.some.injEq, Addr.mk.injEq, and_true] at hgg
              subst hgg
              obtain ⟨g', d', a', l', c', u', hgg, hg', hek', y0, y1, y2, y3, y4⟩ := (HX.out.below hB2).at k hlt
              simp only [Option.some.injEq, Addr.mk.injEq, and_true] at hgg
              subst hgg
              have hh := (get_bangI hlt).symm.trans HBK.out
              rw [hek'] at hh
              simp only [If.mk.injEq] at hh
              obtain ⟨rfl, rfl, rfl, rfl, rfl⟩ := hh
              have hlk : likeI rs[j]! rs[k]! = (decide (D = d') || (decide (A = a') && decide (L = l'))) := by rw [get_bangI hjN, get_bangI hlt, hej, hek']; rfl
              have HNe : Hid (likeI rs[j]! rs[k]! = false → ∀ t, t < j + 1 → likeI rs[t]! rs[k]! = false) := fun h t ht => by
                rcases Nat.lt_or_ge t j with h' | h'
                · exact hb t h'
                · obtain rfl : t = j := by omega
                  exact h
              have HLj : Hid (likeI rs[j]! rs[k]! = true → R = false) := fun h => HBad.out (HLb.out j hjk h)
              rw [hlk] at HLj
              have HNe2 : Hid ((decide (D = d') || (decide (A = a') && decide (L = l'))) = false → ∀ t, t < j + 1 → likeI rs[t]! rs[k]! = false) := fun h => HNe.out (by rw [hlk]; exact h)
              clear x3 x4 y3 y4 HNe hlk hek' hej hb HGo HLb HNxO
              by_cases e0 : D = d'
              · have z0 : (D == d') = true := by simpa using e0
                have HLk : Hid (R = false) := HLj.out (by simp [e0])
                clear e0 HLj HNe2 HBad
                go_wp2_with fail
                replace x0 := cell_regrown x0
                replace x1 := cell_regrown x1
                replace x2 := cell_regrown x2
                replace y0 := cell_regrown y0
                replace y1 := cell_regrown y1
                replace y2 := cell_regrown y2
                refine wp_region_quiet_below (by kernel_rfl) (by kernel_rfl) ?_
                repeat (go_big_quiet_step (fail))
                refine wpQuiet_nil ?_
                intro w3 hw'
                obtain ⟨⟨dq, osq⟩, hw''⟩ := hw'
                have hbq := below_regrown wr dq osq
                rw [← hw''] at hbq
                clear hw'' osq dq x0 x1 x2 y0 y1 y2
                have hB3 := hB2.trans (hbq.mono hB2.size)
                clear hbq
                go_wp2
                go_ret
                exact ⟨ret_bool HLk.out.symm, hB3⟩
              · have z0 : (D == d') = false := by simpa using e0
                by_cases e1 : A = a'
                · have z1 : (A == a') = true := by simpa using e1
                  by_cases e2 : L = l'
                  · have z2 : (L == l') = true := by simpa using e2
                    have HLk : Hid (R = false) := HLj.out (by simp [e1, e2])
                    clear e0 e1 e2 HLj HNe2 HBad
                    go_wp2_with fail
                    replace x0 := cell_regrown x0
                    replace x1 := cell_regrown x1
                    replace x2 := cell_regrown x2
                    replace y0 := cell_regrown y0
                    replace y1 := cell_regrown y1
                    replace y2 := cell_regrown y2
                    refine wp_region_quiet_below (by kernel_rfl) (by kernel_rfl) ?_
                    repeat (go_big_quiet_step (fail))
                    refine wpQuiet_nil ?_
                    intro w3 hw'
                    obtain ⟨⟨dq, osq⟩, hw''⟩ := hw'
                    have hbq := below_regrown wr dq osq
                    rw [← hw''] at hbq
                    clear hw'' osq dq x0 x1 x2 y0 y1 y2
                    have hB3 := hB2.trans (hbq.mono hB2.size)
                    clear hbq
                    go_wp2
                    go_ret
                    exact ⟨ret_bool HLk.out.symm, hB3⟩
                  · have z2 : (L == l') = false := by simpa using e2
                    have HNx : Hid _ := HNe2.out (by simp [e0, e2])
                    clear e0 e1 e2 HLj HNe2 HBad
                    go_wp2_with fail
                    replace x0 := cell_regrown x0
                    replace x1 := cell_regrown x1
                    replace x2 := cell_regrown x2
                    replace y0 := cell_regrown y0
                    replace y1 := cell_regrown y1
                    replace y2 := cell_regrown y2
                    refine wp_region_quiet_below (by kernel_rfl) (by kernel_rfl) ?_
                    repeat (go_big_quiet_step (fail))
                    refine wpQuiet_nil ?_
                    intro w3 hw'
                    obtain ⟨⟨dq, osq⟩, hw''⟩ := hw'
                    have hbq := below_regrown wr dq osq
                    rw [← hw''] at hbq
                    clear hw'' osq dq x0 x1 x2 y0 y1 y2
                    have hB3 := hB2.trans (hbq.mono hB2.size)
                    clear hbq
                    go_wp2
                    go_roundw
                    case rel => exact ⟨j + 1, hjk, by go_num, HNx.out, hB3⟩
                    case measure => simp [intOf]; omega
                · have z1 : (A == a') = false := by simpa using e1
                  have HNx : Hid _ := HNe2.out (by simp [e0, e1])
                  clear e0 e1 HLj HNe2 HBad
                  go_wp2_with fail
                  replace x0 := cell_regrown x0
                  replace x1 := cell_regrown x1
                  replace x2 := cell_regrown x2
                  replace y0 := cell_regrown y0
                  replace y1 := cell_regrown y1
                  replace y2 := cell_regrown y2
                  refine wp_region_quiet_below (by kernel_rfl) (by kernel_rfl) ?_
                  repeat (go_big_quiet_step (fail))
                  refine wpQuiet_nil ?_
                  intro w3 hw'
                  obtain ⟨⟨dq, osq⟩, hw''⟩ := hw'
                  have hbq := below_regrown wr dq osq
                  rw [← hw''] at hbq
                  clear hw'' osq dq x0 x1 x2 y0 y1 y2
                  have hB3 := hB2.trans (hbq.mono hB2.size)
                  clear hbq
                  go_wp2
                  go_roundw
                  case rel => exact ⟨j + 1, hjk, by go_num, HNx.out, hB3⟩
                  case measure => simp [intOf]; omega
            · obtain rfl : j = k := by omega
              have d2 : decide ((j : Int) < (j : Int)) = false := by simp
              have HNx : Hid _ := HNxO.out (HGo.out (by trivial) hb)
              clear hjk hj HBad HGo HLb HNxO hb
              go_wp2
              go_roundw
              case rel => exact ⟨j + 1, hlt, by go_num, HNx.out, hB2⟩
              case measure => simp [intOf]; omega
      · obtain rfl : k = rs.length := by omega
        have d1 : decide ((rs.length : Int) < (rs.length : Int)) = false := by simp
        have hR := HG.out ha
        clear hlt hk HB1 HG ha
        go_wp2
        go_ret
        exact ⟨by rw [hR]; rfl, hB⟩
  · have d3 : decide (3 < (rs.length : Int)) = true := by simp; omega
    have hf : ifsB rs = false := by unfold ifsB; rw [decide_eq_false h3]; rfl
    rw [hf]
    clear HB1 hf
    go_enter Try.func24, Try.ntmps24
    go_wp2
    go_ret
    exact ⟨rfl, Below.refl _ _⟩
end Go.Proofs.Ytfmaeicodljgkaa
/- Is a table right? Asked by the program and by the model. (Written by gen_ribr.py.) -/
namespace Go.Proofs.Ytfmaeicodljgkaa
open Go.RowKit Go.Sort

/-- One route's net is ahead of another one's. -/
def ltR (r s : Rt) : Bool := decide (r.a < s.a) || (r.a == s.a && decide (r.l < s.l))
/-- The route at k is right, and behind the one ahead of it. -/
def okAt (rs : List Rt) (k : Nat) : Bool := routeB rs[k]! && (decide (k = 0) || ltR rs[k - 1]! rs[k]!)
def ribB (rs : List Rt) : Bool := decide (rs.length ≤ 8) && (List.range rs.length).all (okAt rs)
theorem get_bang {rs : List Rt} {k : Nat} (h : k < rs.length) : rs[k]! = rs[k] := by simp [h]
theorem ribB_long {rs : List Rt} (h : ¬ rs.length ≤ 8) : ribB rs = false := by simp [ribB, h]
theorem ribB_bad {rs : List Rt} {k : Nat} (hk : k < rs.length) (h : okAt rs k = false) : ribB rs = false := by
  unfold ribB
  have : (List.range rs.length).all (okAt rs) = false := by
    rw [List.all_eq_false]
    exact ⟨k, List.mem_range.2 hk, by rw [h]; simp⟩
  rw [this, Bool.and_false]
theorem ribB_good {rs : List Rt} (h8 : rs.length ≤ 8) (h : ∀ j, j < rs.length → okAt rs j = true) : ribB rs = true := by
  unfold ribB
  have : (List.range rs.length).all (okAt rs) = true := by
    rw [List.all_eq_true]
    exact fun j hj => h j (List.mem_range.1 hj)
  rw [this, decide_eq_true h8]; rfl
theorem ribB_spec {rs : List Rt} (h : ribB rs = true) : rs.length ≤ 8 ∧ ∀ j, j < rs.length → okAt rs j = true := by
  simp only [ribB, Bool.and_eq_true, decide_eq_true_eq, List.all_eq_true] at h
  exact ⟨h.1, fun j hj => h.2 j (List.mem_range.2 hj)⟩
theorem okAt_route {rs : List Rt} {k : Nat} (h : okAt rs k = true) : routeB rs[k]! = true := by
  unfold okAt at h; simp only [Bool.and_eq_true] at h; exact h.1
theorem routeB_right {r : Rt} (h : routeB r = true) : rightB r.a r.l = true := by
  unfold routeB saidB entB rtE at h
  simp only [Bool.and_eq_true] at h
  exact h.1.1.1.1.1.1
theorem box1 {w w1 : World} {x : Value} {t : TypeId} (h : Below (w.alloc (.cells #[x] t)).heap.size (w.alloc (.cells #[x] t)) w1) : w1.cell? ⟨w.heap.size, 0, none⟩ = some x ∧ Below w.heap.size w w1 := by
  have q := Row.new w t [x]
  exact ⟨(q.below h q.lt).cell 0, (ent_new0 w _).trans (h.mono (by simp))⟩
set_option maxRecDepth 100000 in
set_option maxHeartbeats 1000000 in
theorem implRib_any (p : Option Addr) (cap : Nat) (rs : List Rt) (w : World) (h : RtsIn w p rs) (hn : rs.length ≤ 100000000) :
    Calls Try.prog 30 #[ribV p rs.length cap] w fun e w' => e = .returned (.bool (ribB rs)) ∧ Below w.heap.size w w' := by
  have HE : Hid (∀ e w, Calls Try.prog 61 #[rtV e] w fun r w' => r = .returned (.bool (routeB e)) ∧ Below w.heap.size w w') := implRoute_any
  have HL : Hid (∀ a l b m w, Calls Try.prog 62 #[.agg #[.int .i64 a, .int .i64 l], .agg #[.int .i64 b, .int .i64 m]] w fun e w' => e = .returned (.bool (lessB a l b m)) ∧ Below w.heap.size w w') := fun a l b m w => implLess_any a l b m w
  have HBd : Hid (∀ k, k < rs.length → okAt rs k = false → ribB rs = false) := fun k hk hf => ribB_bad hk hf
  have HX : Hid (RtsIn w p rs) := h
  clear h
  unfold ribV
  by_cases hl : rs.length ≤ 8
  · have d8 : decide (8 < (rs.length : Int)) = false := by simp; omega
    have HYs : Hid ((∀ j, j < rs.length → okAt rs j = true) → ribB rs = true) := fun h => ribB_good hl h
    generalize ribB rs = R at *
    go_enter Try.func30, Try.ntmps30
    go_wp2_with fail
    go_loopw [12] (fun i wr => ∃ k : Nat, k ≤ rs.length ∧ i = .int .i64 k ∧ (∀ j, j < k → okAt rs j = true) ∧ Below (w.alloc (.cells #[.slice p rs.length cap] 33)).heap.size (w.alloc (.cells #[.slice p rs.length cap] 33)) wr) (fun i _ => rs.length - (intOf i).toNat)
    case atStart => exact ⟨0, Nat.zero_le _, rfl, fun j hj => absurd hj (by omega), Below.refl _ _⟩
    case round =>
      obtain ⟨k, hk, rfl, ha, hb0⟩ := hrel
      obtain ⟨x0, hb⟩ := box1 hb0
      by_cases hlt : k < rs.length
      · have d1 : decide ((k : Int) < (rs.length : Int)) = true := by simpa using hlt
        obtain ⟨g, a, l, m, n, ii, t, u, b, c, rfl, hg, hek, c0, c1, c2, c3, c4, c5, c6, c7, c8⟩ := (HX.out.below hb).at k hlt
        have hbk : rs[k]! = ⟨a, l, m, n, ii, t, u, b, c⟩ := (get_bang hlt).trans hek
        have HEk : Hid (∀ w, Calls Try.prog 61 #[.agg #[.int .i64 a, .int .i64 l, .int .i64 m, .int .i64 n, .int .i64 ii, .int .i64 t, .int .i64 u, .int .i64 b, .bool c]] w fun r w' => r = .returned (.bool (routeB ⟨a, l, m, n, ii, t, u, b, c⟩)) ∧ Below w.heap.size w w') := HE.out ⟨a, l, m, n, ii, t, u, b, c⟩
        have HBk : Hid (okAt rs k = false → R = false) := HBd.out k hlt
        have HNx : Hid (okAt rs k = true → ∀ j, j < k + 1 → okAt rs j = true) := fun h j hj => by
          rcases Nat.lt_or_ge j k with h' | h'
          · exact ha j h'
          · obtain rfl : j = k := by omega
            exact h
        by_cases hz : k = 0
        · have hok : okAt rs k = routeB ⟨a, l, m, n, ii, t, u, b, c⟩ := by unfold okAt; rw [hbk, decide_eq_true hz]; simp
          rw [hok] at HBk HNx
          clear hok HE HL hek HBd ha hbk
          generalize routeB ⟨a, l, m, n, ii, t, u, b, c⟩ = B at *
          have z0 : decide (0 < k) = false := by simp; omega
          have z1 : decide (0 < (k : Int)) = false := by simp; omega
          clear hz
          have HBN : Hid (Below wr.heap.size wr (wr.alloc (.cells #[.int .i64 a, .int .i64 l, .int .i64 m, .int .i64 n, .int .i64 ii, .int .i64 t, .int .i64 u, .int .i64 b, .bool c] 81))) := ent_new0 wr _
          have HQN : Hid (Row (wr.alloc (.cells #[.int .i64 a, .int .i64 l, .int .i64 m, .int .i64 n, .int .i64 ii, .int .i64 t, .int .i64 u, .int .i64 b, .bool c] 81)) wr.heap.size 81 [.int .i64 a, .int .i64 l, .int .i64 m, .int .i64 n, .int .i64 ii, .int .i64 t, .int .i64 u, .int .i64 b, .bool c]) := Row.new wr _ _
          have HX0 : Hid ((wr.alloc (.cells #[.int .i64 a, .int .i64 l, .int .i64 m, .int .i64 n, .int .i64 ii, .int .i64 t, .int .i64 u, .int .i64 b, .bool c] 81)).cell? ⟨w.heap.size, 0, none⟩ = some (.slice (some ⟨g, 0, none⟩) rs.length cap)) := by show _ = _; rw [HBN.out.cell (p := ⟨w.heap.size, 0, none⟩) (by have := hb0.size; simp at this; show w.heap.size < wr.heap.size; omega)]; exact x0
          cases B
          · go_wp2_with fail
            clear c0 c1 c2 c3 c4 c5 c6 c7 c8 x0
            generalize (wr.alloc (.cells #[.int .i64 a, .int .i64 l, .int .i64 m, .int .i64 n, .int .i64 ii, .int .i64 t, .int .i64 u, .int .i64 b, .bool c] 81)) = WR at *
            have x0 := cell_regrown HX0.out
            have c0 : WR.cell? ⟨wr.heap.size, 0, none⟩ = some (.int .i64 a) := HQN.out.cell 0
            replace c0 := cell_regrown c0
            have c1 : WR.cell? ⟨wr.heap.size, 1, none⟩ = some (.int .i64 l) := HQN.out.cell 1
            replace c1 := cell_regrown c1
            have c2 : WR.cell? ⟨wr.heap.size, 2, none⟩ = some (.int .i64 m) := HQN.out.cell 2
            replace c2 := cell_regrown c2
            have c3 : WR.cell? ⟨wr.heap.size, 3, none⟩ = some (.int .i64 n) := HQN.out.cell 3
            replace c3 := cell_regrown c3
            have c4 : WR.cell? ⟨wr.heap.size, 4, none⟩ = some (.int .i64 ii) := HQN.out.cell 4
            replace c4 := cell_regrown c4
            have c5 : WR.cell? ⟨wr.heap.size, 5, none⟩ = some (.int .i64 t) := HQN.out.cell 5
            replace c5 := cell_regrown c5
            have c6 : WR.cell? ⟨wr.heap.size, 6, none⟩ = some (.int .i64 u) := HQN.out.cell 6
            replace c6 := cell_regrown c6
            have c7 : WR.cell? ⟨wr.heap.size, 7, none⟩ = some (.int .i64 b) := HQN.out.cell 7
            replace c7 := cell_regrown c7
            have c8 : WR.cell? ⟨wr.heap.size, 8, none⟩ = some (.bool c) := HQN.out.cell 8
            replace c8 := cell_regrown c8
            refine wp_region_quiet_below (by kernel_rfl) (by kernel_rfl) ?_
            repeat (go_big_quiet_step (first | (go_at_call 61; exact Calls.regrown_of (HEk.out _))))
            refine wpQuiet_nil ?_
            intro w1 hw'
            obtain ⟨⟨dq, osq⟩, hw''⟩ := hw'
            have hbq := below_regrown WR dq osq
            rw [← hw''] at hbq
            clear hw'' osq dq
            clear c0 c1 c2 c3 c4 c5 c6 c7 c8 x0 HQN HX0
            have hB1 := hb.trans ((HBN.out.trans (hbq.mono HBN.out.size)).mono hb.size)
            clear hbq HBN
            go_wp2
            go_ret
            exact ⟨ret_bool (HBk.out (by trivial)).symm, hB1⟩
          · go_wp2_with fail
            clear c0 c1 c2 c3 c4 c5 c6 c7 c8 x0
            generalize (wr.alloc (.cells #[.int .i64 a, .int .i64 l, .int .i64 m, .int .i64 n, .int .i64 ii, .int .i64 t, .int .i64 u, .int .i64 b, .bool c] 81)) = WR at *
            have x0 := cell_regrown HX0.out
            have c0 : WR.cell? ⟨wr.heap.size, 0, none⟩ = some (.int .i64 a) := HQN.out.cell 0
            replace c0 := cell_regrown c0
            have c1 : WR.cell? ⟨wr.heap.size, 1, none⟩ = some (.int .i64 l) := HQN.out.cell 1
            replace c1 := cell_regrown c1
            have c2 : WR.cell? ⟨wr.heap.size, 2, none⟩ = some (.int .i64 m) := HQN.out.cell 2
            replace c2 := cell_regrown c2
            have c3 : WR.cell? ⟨wr.heap.size, 3, none⟩ = some (.int .i64 n) := HQN.out.cell 3
            replace c3 := cell_regrown c3
            have c4 : WR.cell? ⟨wr.heap.size, 4, none⟩ = some (.int .i64 ii) := HQN.out.cell 4
            replace c4 := cell_regrown c4
            have c5 : WR.cell? ⟨wr.heap.size, 5, none⟩ = some (.int .i64 t) := HQN.out.cell 5
            replace c5 := cell_regrown c5
            have c6 : WR.cell? ⟨wr.heap.size, 6, none⟩ = some (.int .i64 u) := HQN.out.cell 6
            replace c6 := cell_regrown c6
            have c7 : WR.cell? ⟨wr.heap.size, 7, none⟩ = some (.int .i64 b) := HQN.out.cell 7
            replace c7 := cell_regrown c7
            have c8 : WR.cell? ⟨wr.heap.size, 8, none⟩ = some (.bool c) := HQN.out.cell 8
            replace c8 := cell_regrown c8
            refine wp_region_quiet_below (by kernel_rfl) (by kernel_rfl) ?_
            repeat (go_big_quiet_step (first | (go_at_call 61; exact Calls.regrown_of (HEk.out _))))
            refine wpQuiet_nil ?_
            intro w1 hw'
            obtain ⟨⟨dq, osq⟩, hw''⟩ := hw'
            have hbq := below_regrown WR dq osq
            rw [← hw''] at hbq
            clear hw'' osq dq
            clear c0 c1 c2 c3 c4 c5 c6 c7 c8 x0 HQN HX0
            have hB0 := hb0.trans ((HBN.out.trans (hbq.mono HBN.out.size)).mono hb0.size)
            clear hbq HBN
            go_wp2
            go_roundw
            case rel => exact ⟨k + 1, hlt, by go_num, HNx.out (by trivial), hB0⟩
            case measure => simp [intOf]; omega
        · obtain ⟨g', a', l', m', n', ii', t', u', b', c', hgg, hg', hej, d0, d1', d2, d3, d4, d5, d6, d7, d8⟩ := (HX.out.below hb).at (k - 1) (by omega)
          simp only [Option.some.injEq, Addr.mk.injEq, and_true] at hgg
          subst hgg
          have hbj : rs[k - 1]! = ⟨a', l', m', n', ii', t', u', b', c'⟩ := (get_bang (by omega)).trans hej
          have hrj := okAt_route (ha (k - 1) (by omega))
          rw [hbj] at hrj
          have hok : okAt rs k = (routeB ⟨a, l, m, n, ii, t, u, b, c⟩ && (decide (a' < a) || (a' == a && decide (l' < l)))) := by unfold okAt; rw [hbk, hbj, decide_eq_false hz]; rfl
          have HLk : Hid (∀ w, Calls Try.prog 62 #[.agg #[.int .i64 a', .int .i64 l'], .agg #[.int .i64 a, .int .i64 l]] w fun e w' => e = .returned (.bool (lessB a' l' a l)) ∧ Below w.heap.size w w') := HL.out a' l' a l
          have HLe : Hid (routeB ⟨a, l, m, n, ii, t, u, b, c⟩ = true → lessB a' l' a l = (decide (a' < a) || (a' == a && decide (l' < l)))) := fun h => by unfold lessB; rw [routeB_right hrj, routeB_right h]; rfl
          rw [hok] at HBk HNx
          clear hok HE HL hek hej HBd ha hbk hbj hrj
          generalize routeB ⟨a, l, m, n, ii, t, u, b, c⟩ = B at *
          have z0 : decide (0 < k) = true := by simp; omega
          have z1 : decide (0 < (k : Int)) = true := by simp; omega
          have z2 : IntKind.i64.wrap ((k : Int) - 1) = ((k - 1 : Nat) : Int) := by rw [wrap_i64_in _ (by omega) (by omega)]; omega
          have z3 : (k : Int) - 1 = ((k - 1 : Nat) : Int) := by omega
          have z4 : decide (((k - 1 : Nat) : Int) < (rs.length : Int)) = true := by simp; omega
          have z5 : k - 1 < rs.length := by omega
          have HBN : Hid (Below wr.heap.size wr (wr.alloc (.cells #[.int .i64 a, .int .i64 l, .int .i64 m, .int .i64 n, .int .i64 ii, .int .i64 t, .int .i64 u, .int .i64 b, .bool c] 81))) := ent_new0 wr _
          have HQN : Hid (Row (wr.alloc (.cells #[.int .i64 a, .int .i64 l, .int .i64 m, .int .i64 n, .int .i64 ii, .int .i64 t, .int .i64 u, .int .i64 b, .bool c] 81)) wr.heap.size 81 [.int .i64 a, .int .i64 l, .int .i64 m, .int .i64 n, .int .i64 ii, .int .i64 t, .int .i64 u, .int .i64 b, .bool c]) := Row.new wr _ _
          have HX0 : Hid ((wr.alloc (.cells #[.int .i64 a, .int .i64 l, .int .i64 m, .int .i64 n, .int .i64 ii, .int .i64 t, .int .i64 u, .int .i64 b, .bool c] 81)).cell? ⟨w.heap.size, 0, none⟩ = some (.slice (some ⟨g, 0, none⟩) rs.length cap)) := by show _ = _; rw [HBN.out.cell (p := ⟨w.heap.size, 0, none⟩) (by have := hb0.size; simp at this; show w.heap.size < wr.heap.size; omega)]; exact x0
          have HD0 : Hid ((wr.alloc (.cells #[.int .i64 a, .int .i64 l, .int .i64 m, .int .i64 n, .int .i64 ii, .int .i64 t, .int .i64 u, .int .i64 b, .bool c] 81)).cell? ⟨g, (k - 1) * 9, none⟩ = some (.int .i64 a')) := by show _ = _; rw [HBN.out.cell (p := ⟨g, (k - 1) * 9, none⟩) hg]; exact d0
          have HD1 : Hid ((wr.alloc (.cells #[.int .i64 a, .int .i64 l, .int .i64 m, .int .i64 n, .int .i64 ii, .int .i64 t, .int .i64 u, .int .i64 b, .bool c] 81)).cell? ⟨g, (k - 1) * 9 + 1, none⟩ = some (.int .i64 l')) := by show _ = _; rw [HBN.out.cell (p := ⟨g, (k - 1) * 9 + 1, none⟩) hg]; exact d1'
          clear d0 d1' d2 d3 d4 d5 d6 d7 d8
          cases B
          · clear HLk
            go_wp2_with fail
            clear c0 c1 c2 c3 c4 c5 c6 c7 c8 x0
            generalize (wr.alloc (.cells #[.int .i64 a, .int .i64 l, .int .i64 m, .int .i64 n, .int .i64 ii, .int .i64 t, .int .i64 u, .int .i64 b, .bool c] 81)) = WR at *
            have x0 := cell_regrown HX0.out
            have c0 : WR.cell? ⟨wr.heap.size, 0, none⟩ = some (.int .i64 a) := HQN.out.cell 0
            replace c0 := cell_regrown c0
            have c1 : WR.cell? ⟨wr.heap.size, 1, none⟩ = some (.int .i64 l) := HQN.out.cell 1
            replace c1 := cell_regrown c1
            have c2 : WR.cell? ⟨wr.heap.size, 2, none⟩ = some (.int .i64 m) := HQN.out.cell 2
            replace c2 := cell_regrown c2
            have c3 : WR.cell? ⟨wr.heap.size, 3, none⟩ = some (.int .i64 n) := HQN.out.cell 3
            replace c3 := cell_regrown c3
            have c4 : WR.cell? ⟨wr.heap.size, 4, none⟩ = some (.int .i64 ii) := HQN.out.cell 4
            replace c4 := cell_regrown c4
            have c5 : WR.cell? ⟨wr.heap.size, 5, none⟩ = some (.int .i64 t) := HQN.out.cell 5
            replace c5 := cell_regrown c5
            have c6 : WR.cell? ⟨wr.heap.size, 6, none⟩ = some (.int .i64 u) := HQN.out.cell 6
            replace c6 := cell_regrown c6
            have c7 : WR.cell? ⟨wr.heap.size, 7, none⟩ = some (.int .i64 b) := HQN.out.cell 7
            replace c7 := cell_regrown c7
            have c8 : WR.cell? ⟨wr.heap.size, 8, none⟩ = some (.bool c) := HQN.out.cell 8
            replace c8 := cell_regrown c8
            have d0 := cell_regrown HD0.out
            have d1' := cell_regrown HD1.out
            refine wp_region_quiet_below (by kernel_rfl) (by kernel_rfl) ?_
            repeat (go_big_quiet_step (first | (go_at_call 61; exact Calls.regrown_of (HEk.out _))))
            refine wpQuiet_nil ?_
            intro w1 hw'
            obtain ⟨⟨dq, osq⟩, hw''⟩ := hw'
            have hbq := below_regrown WR dq osq
            rw [← hw''] at hbq
            clear hw'' osq dq
            clear c0 c1 c2 c3 c4 c5 c6 c7 c8 x0 d0 d1' HQN HX0 HD0 HD1
            have hB1 := hb.trans ((HBN.out.trans (hbq.mono HBN.out.size)).mono hb.size)
            clear hbq HBN
            go_wp2
            go_ret
            exact ⟨ret_bool (HBk.out (by trivial)).symm, hB1⟩
          · have HLe' := HLe.out (by trivial)
            rw [HLe'] at HLk
            clear HLe HLe'
            generalize (decide (a' < a) || (a' == a && decide (l' < l))) = L at *
            cases L
            · go_wp2_with fail
              clear c0 c1 c2 c3 c4 c5 c6 c7 c8 x0
              generalize (wr.alloc (.cells #[.int .i64 a, .int .i64 l, .int .i64 m, .int .i64 n, .int .i64 ii, .int .i64 t, .int .i64 u, .int .i64 b, .bool c] 81)) = WR at *
              have x0 := cell_regrown HX0.out
              have c0 : WR.cell? ⟨wr.heap.size, 0, none⟩ = some (.int .i64 a) := HQN.out.cell 0
              replace c0 := cell_regrown c0
              have c1 : WR.cell? ⟨wr.heap.size, 1, none⟩ = some (.int .i64 l) := HQN.out.cell 1
              replace c1 := cell_regrown c1
              have c2 : WR.cell? ⟨wr.heap.size, 2, none⟩ = some (.int .i64 m) := HQN.out.cell 2
              replace c2 := cell_regrown c2
              have c3 : WR.cell? ⟨wr.heap.size, 3, none⟩ = some (.int .i64 n) := HQN.out.cell 3
              replace c3 := cell_regrown c3
              have c4 : WR.cell? ⟨wr.heap.size, 4, none⟩ = some (.int .i64 ii) := HQN.out.cell 4
              replace c4 := cell_regrown c4
              have c5 : WR.cell? ⟨wr.heap.size, 5, none⟩ = some (.int .i64 t) := HQN.out.cell 5
              replace c5 := cell_regrown c5
              have c6 : WR.cell? ⟨wr.heap.size, 6, none⟩ = some (.int .i64 u) := HQN.out.cell 6
              replace c6 := cell_regrown c6
              have c7 : WR.cell? ⟨wr.heap.size, 7, none⟩ = some (.int .i64 b) := HQN.out.cell 7
              replace c7 := cell_regrown c7
              have c8 : WR.cell? ⟨wr.heap.size, 8, none⟩ = some (.bool c) := HQN.out.cell 8
              replace c8 := cell_regrown c8
              have d0 := cell_regrown HD0.out
              have d1' := cell_regrown HD1.out
              refine wp_region_quiet_below (by kernel_rfl) (by kernel_rfl) ?_
              repeat (go_big_quiet_step (first | (go_at_call 61; exact Calls.regrown_of (HEk.out _)) | (go_at_call 62; exact Calls.regrown_of (HLk.out _))))
              refine wpQuiet_nil ?_
              intro w1 hw'
              obtain ⟨⟨dq, osq⟩, hw''⟩ := hw'
              have hbq := below_regrown WR dq osq
              rw [← hw''] at hbq
              clear hw'' osq dq
              clear c0 c1 c2 c3 c4 c5 c6 c7 c8 x0 d0 d1' HQN HX0 HD0 HD1
              have hB1 := hb.trans ((HBN.out.trans (hbq.mono HBN.out.size)).mono hb.size)
              clear hbq HBN
              go_wp2
              go_ret
              exact ⟨ret_bool (HBk.out (by trivial)).symm, hB1⟩
            · go_wp2_with fail
              clear c0 c1 c2 c3 c4 c5 c6 c7 c8 x0
              generalize (wr.alloc (.cells #[.int .i64 a, .int .i64 l, .int .i64 m, .int .i64 n, .int .i64 ii, .int .i64 t, .int .i64 u, .int .i64 b, .bool c] 81)) = WR at *
              have x0 := cell_regrown HX0.out
              have c0 : WR.cell? ⟨wr.heap.size, 0, none⟩ = some (.int .i64 a) := HQN.out.cell 0
              replace c0 := cell_regrown c0
              have c1 : WR.cell? ⟨wr.heap.size, 1, none⟩ = some (.int .i64 l) := HQN.out.cell 1
              replace c1 := cell_regrown c1
              have c2 : WR.cell? ⟨wr.heap.size, 2, none⟩ = some (.int .i64 m) := HQN.out.cell 2
              replace c2 := cell_regrown c2
              have c3 : WR.cell? ⟨wr.heap.size, 3, none⟩ = some (.int .i64 n) := HQN.out.cell 3
              replace c3 := cell_regrown c3
              have c4 : WR.cell? ⟨wr.heap.size, 4, none⟩ = some (.int .i64 ii) := HQN.out.cell 4
              replace c4 := cell_regrown c4
              have c5 : WR.cell? ⟨wr.heap.size, 5, none⟩ = some (.int .i64 t) := HQN.out.cell 5
              replace c5 := cell_regrown c5
              have c6 : WR.cell? ⟨wr.heap.size, 6, none⟩ = some (.int .i64 u) := HQN.out.cell 6
              replace c6 := cell_regrown c6
              have c7 : WR.cell? ⟨wr.heap.size, 7, none⟩ = some (.int .i64 b) := HQN.out.cell 7
              replace c7 := cell_regrown c7
              have c8 : WR.cell? ⟨wr.heap.size, 8, none⟩ = some (.bool c) := HQN.out.cell 8
              replace c8 := cell_regrown c8
              have d0 := cell_regrown HD0.out
              have d1' := cell_regrown HD1.out
              refine wp_region_quiet_below (by kernel_rfl) (by kernel_rfl) ?_
              repeat (go_big_quiet_step (first | (go_at_call 61; exact Calls.regrown_of (HEk.out _)) | (go_at_call 62; exact Calls.regrown_of (HLk.out _))))
              refine wpQuiet_nil ?_
              intro w1 hw'
              obtain ⟨⟨dq, osq⟩, hw''⟩ := hw'
              have hbq := below_regrown WR dq osq
              rw [← hw''] at hbq
              clear hw'' osq dq
              clear c0 c1 c2 c3 c4 c5 c6 c7 c8 x0 d0 d1' HQN HX0 HD0 HD1
              have hB0 := hb0.trans ((HBN.out.trans (hbq.mono HBN.out.size)).mono hb0.size)
              clear hbq HBN
              go_wp2
              go_roundw
              case rel => exact ⟨k + 1, hlt, by go_num, HNx.out (by trivial), hB0⟩
              case measure => simp [intOf]; omega
      · obtain rfl : k = rs.length := by omega
        have d1 : decide ((rs.length : Int) < (rs.length : Int)) = false := by simp
        have hR := HYs.out ha
        clear hlt hk
        go_wp2
        go_ret
        exact ⟨ret_bool hR.symm, hb⟩
  · rw [ribB_long hl]
    have d8 : decide (8 < (rs.length : Int)) = true := by simp; omega
    go_enter Try.func30, Try.ntmps30
    go_wp2
    go_ret
    exact ⟨rfl, ent_new0 w _⟩
set_option maxRecDepth 100000 in
set_option maxHeartbeats 1000000 in
theorem specRib_any (p : Option Addr) (cap : Nat) (rs : List Rt) (w : World) (h : RtsIn w p rs) (hn : rs.length ≤ 100000000) :
    Calls Try.prog 25 #[ribV p rs.length cap] w fun e w' => e = .returned (.bool (ribB rs)) ∧ Below w.heap.size w w' := by
  have HE : Hid (∀ e w, Calls Try.prog 55 #[rtV e] w fun r w' => r = .returned (.bool (routeB e)) ∧ Below w.heap.size w w') := specRoute_any
  have HL : Hid (∀ a l b m w, Calls Try.prog 56 #[.agg #[.int .i64 a, .int .i64 l], .agg #[.int .i64 b, .int .i64 m]] w fun e w' => e = .returned (.bool (decide (a < b) || (a == b && decide (l < m)))) ∧ Below w.heap.size w w') := fun a l b m w => l03Less_any a l b m w
  have HBd : Hid (∀ k, k < rs.length → okAt rs k = false → ribB rs = false) := fun k hk hf => ribB_bad hk hf
  have HX : Hid (RtsIn w p rs) := h
  clear h
  unfold ribV
  by_cases hl : rs.length ≤ 8
  · have d8 : decide (8 < (rs.length : Int)) = false := by simp; omega
    have HYs : Hid ((∀ j, j < rs.length → okAt rs j = true) → ribB rs = true) := fun h => ribB_good hl h
    generalize ribB rs = R at *
    go_enter Try.func25, Try.ntmps25
    go_wp2_with fail
    go_loopw [3] (fun i wr => ∃ k : Nat, k ≤ rs.length ∧ i = .int .i64 k ∧ (∀ j, j < k → okAt rs j = true) ∧ Below (w.alloc (.cells #[.slice p rs.length cap] 33)).heap.size (w.alloc (.cells #[.slice p rs.length cap] 33)) wr) (fun i _ => rs.length - (intOf i).toNat)
    case atStart => exact ⟨0, Nat.zero_le _, rfl, fun j hj => absurd hj (by omega), Below.refl _ _⟩
    case round =>
      obtain ⟨k, hk, rfl, ha, hb0⟩ := hrel
      obtain ⟨x0, hb⟩ := box1 hb0
      by_cases hlt : k < rs.length
      · have d1 : decide ((k : Int) < (rs.length : Int)) = true := by simpa using hlt
        obtain ⟨g, a, l, m, n, ii, t, u, b, c, rfl, hg, hek, c0, c1, c2, c3, c4, c5, c6, c7, c8⟩ := (HX.out.below hb).at k hlt
        have hbk : rs[k]! = ⟨a, l, m, n, ii, t, u, b, c⟩ := (get_bang hlt).trans hek
        have HEk : Hid (∀ w, Calls Try.prog 55 #[.agg #[.int .i64 a, .int .i64 l, .int .i64 m, .int .i64 n, .int .i64 ii, .int .i64 t, .int .i64 u, .int .i64 b, .bool c]] w fun r w' => r = .returned (.bool (routeB ⟨a, l, m, n, ii, t, u, b, c⟩)) ∧ Below w.heap.size w w') := HE.out ⟨a, l, m, n, ii, t, u, b, c⟩
        have HBk : Hid (okAt rs k = false → R = false) := HBd.out k hlt
        have HNx : Hid (okAt rs k = true → ∀ j, j < k + 1 → okAt rs j = true) := fun h j hj => by
          rcases Nat.lt_or_ge j k with h' | h'
          · exact ha j h'
          · obtain rfl : j = k := by omega
            exact h
        by_cases hz : k = 0
        · have hok : okAt rs k = routeB ⟨a, l, m, n, ii, t, u, b, c⟩ := by unfold okAt; rw [hbk, decide_eq_true hz]; simp
          rw [hok] at HBk HNx
          clear hok HE HL hek HBd ha hbk
          generalize routeB ⟨a, l, m, n, ii, t, u, b, c⟩ = B at *
          have z0 : decide (0 < k) = false := by simp; omega
          have z1 : decide (0 < (k : Int)) = false := by simp; omega
          clear hz
          have HBN : Hid (Below wr.heap.size wr wr) := Below.refl _ _
          cases B
          · go_wp2_with fail
            replace x0 := cell_regrown x0
            replace c0 := cell_regrown c0
            replace c1 := cell_regrown c1
            replace c2 := cell_regrown c2
            replace c3 := cell_regrown c3
            replace c4 := cell_regrown c4
            replace c5 := cell_regrown c5
            replace c6 := cell_regrown c6
            replace c7 := cell_regrown c7
            replace c8 := cell_regrown c8
            refine wp_region_quiet_below (by kernel_rfl) (by kernel_rfl) ?_
            repeat (go_big_quiet_step (first | (go_at_call 55; exact Calls.regrown_of (HEk.out _))))
            refine wpQuiet_nil ?_
            intro w1 hw'
            obtain ⟨⟨dq, osq⟩, hw''⟩ := hw'
            have hbq := below_regrown wr dq osq
            rw [← hw''] at hbq
            clear hw'' osq dq
            clear c0 c1 c2 c3 c4 c5 c6 c7 c8 x0
            have hB1 := hb.trans ((HBN.out.trans (hbq.mono HBN.out.size)).mono hb.size)
            clear hbq HBN
            go_wp2
            go_ret
            exact ⟨ret_bool (HBk.out (by trivial)).symm, hB1⟩
          · go_wp2_with fail
            replace x0 := cell_regrown x0
            replace c0 := cell_regrown c0
            replace c1 := cell_regrown c1
            replace c2 := cell_regrown c2
            replace c3 := cell_regrown c3
            replace c4 := cell_regrown c4
            replace c5 := cell_regrown c5
            replace c6 := cell_regrown c6
            replace c7 := cell_regrown c7
            replace c8 := cell_regrown c8
            refine wp_region_quiet_below (by kernel_rfl) (by kernel_rfl) ?_
            repeat (go_big_quiet_step (first | (go_at_call 55; exact Calls.regrown_of (HEk.out _))))
            refine wpQuiet_nil ?_
            intro w1 hw'
            obtain ⟨⟨dq, osq⟩, hw''⟩ := hw'
            have hbq := below_regrown wr dq osq
            rw [← hw''] at hbq
            clear hw'' osq dq
            clear c0 c1 c2 c3 c4 c5 c6 c7 c8 x0
            have hB0 := hb0.trans ((HBN.out.trans (hbq.mono HBN.out.size)).mono hb0.size)
            clear hbq HBN
            go_wp2
            go_roundw
            case rel => exact ⟨k + 1, hlt, by go_num, HNx.out (by trivial), hB0⟩
            case measure => simp [intOf]; omega
        · obtain ⟨g', a', l', m', n', ii', t', u', b', c', hgg, hg', hej, d0, d1', d2, d3, d4, d5, d6, d7, d8⟩ := (HX.out.below hb).at (k - 1) (by omega)
          simp only [Option.some.injEq, Addr.mk.injEq, and_true] at hgg
          subst hgg
          have hbj : rs[k - 1]! = ⟨a', l', m', n', ii', t', u', b', c'⟩ := (get_bang (by omega)).trans hej
          have hrj := okAt_route (ha (k - 1) (by omega))
          rw [hbj] at hrj
          have hok : okAt rs k = (routeB ⟨a, l, m, n, ii, t, u, b, c⟩ && (decide (a' < a) || (a' == a && decide (l' < l)))) := by unfold okAt; rw [hbk, hbj, decide_eq_false hz]; rfl
          have HLk : Hid (∀ w, Calls Try.prog 56 #[.agg #[.int .i64 a', .int .i64 l'], .agg #[.int .i64 a, .int .i64 l]] w fun e w' => e = .returned (.bool (decide (a' < a) || (a' == a && decide (l' < l)))) ∧ Below w.heap.size w w') := HL.out a' l' a l
          rw [hok] at HBk HNx
          clear hok HE HL hek hej HBd ha hbk hbj hrj
          generalize routeB ⟨a, l, m, n, ii, t, u, b, c⟩ = B at *
          have z0 : decide (0 < k) = true := by simp; omega
          have z1 : decide (0 < (k : Int)) = true := by simp; omega
          have z2 : IntKind.i64.wrap ((k : Int) - 1) = ((k - 1 : Nat) : Int) := by rw [wrap_i64_in _ (by omega) (by omega)]; omega
          have z3 : (k : Int) - 1 = ((k - 1 : Nat) : Int) := by omega
          have z4 : decide (((k - 1 : Nat) : Int) < (rs.length : Int)) = true := by simp; omega
          have z5 : k - 1 < rs.length := by omega
          have HBN : Hid (Below wr.heap.size wr wr) := Below.refl _ _
          clear d2 d3 d4 d5 d6 d7 d8
          cases B
          · clear HLk
            go_wp2_with fail
            replace x0 := cell_regrown x0
            replace c0 := cell_regrown c0
            replace c1 := cell_regrown c1
            replace c2 := cell_regrown c2
            replace c3 := cell_regrown c3
            replace c4 := cell_regrown c4
            replace c5 := cell_regrown c5
            replace c6 := cell_regrown c6
            replace c7 := cell_regrown c7
            replace c8 := cell_regrown c8
            replace d0 := cell_regrown d0
            replace d1' := cell_regrown d1'
            refine wp_region_quiet_below (by kernel_rfl) (by kernel_rfl) ?_
            repeat (go_big_quiet_step (first | (go_at_call 55; exact Calls.regrown_of (HEk.out _))))
            refine wpQuiet_nil ?_
            intro w1 hw'
            obtain ⟨⟨dq, osq⟩, hw''⟩ := hw'
            have hbq := below_regrown wr dq osq
            rw [← hw''] at hbq
            clear hw'' osq dq
            clear c0 c1 c2 c3 c4 c5 c6 c7 c8 x0 d0 d1'
            have hB1 := hb.trans ((HBN.out.trans (hbq.mono HBN.out.size)).mono hb.size)
            clear hbq HBN
            go_wp2
            go_ret
            exact ⟨ret_bool (HBk.out (by trivial)).symm, hB1⟩
          · generalize (decide (a' < a) || (a' == a && decide (l' < l))) = L at *
            cases L
            · go_wp2_with fail
              replace x0 := cell_regrown x0
              replace c0 := cell_regrown c0
              replace c1 := cell_regrown c1
              replace c2 := cell_regrown c2
              replace c3 := cell_regrown c3
              replace c4 := cell_regrown c4
              replace c5 := cell_regrown c5
              replace c6 := cell_regrown c6
              replace c7 := cell_regrown c7
              replace c8 := cell_regrown c8
              replace d0 := cell_regrown d0
              replace d1' := cell_regrown d1'
              refine wp_region_quiet_below (by kernel_rfl) (by kernel_rfl) ?_
              repeat (go_big_quiet_step (first | (go_at_call 55; exact Calls.regrown_of (HEk.out _)) | (go_at_call 56; exact Calls.regrown_of (HLk.out _))))
              refine wpQuiet_nil ?_
              intro w1 hw'
              obtain ⟨⟨dq, osq⟩, hw''⟩ := hw'
              have hbq := below_regrown wr dq osq
              rw [← hw''] at hbq
              clear hw'' osq dq
              clear c0 c1 c2 c3 c4 c5 c6 c7 c8 x0 d0 d1'
              have hB1 := hb.trans ((HBN.out.trans (hbq.mono HBN.out.size)).mono hb.size)
              clear hbq HBN
              go_wp2
              go_ret
              exact ⟨ret_bool (HBk.out (by trivial)).symm, hB1⟩
            · go_wp2_with fail
              replace x0 := cell_regrown x0
              replace c0 := cell_regrown c0
              replace c1 := cell_regrown c1
              replace c2 := cell_regrown c2
              replace c3 := cell_regrown c3
              replace c4 := cell_regrown c4
              replace c5 := cell_regrown c5
              replace c6 := cell_regrown c6
              replace c7 := cell_regrown c7
              replace c8 := cell_regrown c8
              replace d0 := cell_regrown d0
              replace d1' := cell_regrown d1'
              refine wp_region_quiet_below (by kernel_rfl) (by kernel_rfl) ?_
              repeat (go_big_quiet_step (first | (go_at_call 55; exact Calls.regrown_of (HEk.out _)) | (go_at_call 56; exact Calls.regrown_of (HLk.out _))))
              refine wpQuiet_nil ?_
              intro w1 hw'
              obtain ⟨⟨dq, osq⟩, hw''⟩ := hw'
              have hbq := below_regrown wr dq osq
              rw [← hw''] at hbq
              clear hw'' osq dq
              clear c0 c1 c2 c3 c4 c5 c6 c7 c8 x0 d0 d1'
              have hB0 := hb0.trans ((HBN.out.trans (hbq.mono HBN.out.size)).mono hb0.size)
              clear hbq HBN
              go_wp2
              go_roundw
              case rel => exact ⟨k + 1, hlt, by go_num, HNx.out (by trivial), hB0⟩
              case measure => simp [intOf]; omega
      · obtain rfl : k = rs.length := by omega
        have d1 : decide ((rs.length : Int) < (rs.length : Int)) = false := by simp
        have hR := HYs.out ha
        clear hlt hk
        go_wp2
        go_ret
        exact ⟨ret_bool hR.symm, hb⟩
  · rw [ribB_long hl]
    have d8 : decide (8 < (rs.length : Int)) = true := by simp; omega
    go_enter Try.func25, Try.ntmps25
    go_wp2
    go_ret
    exact ⟨rfl, ent_new0 w _⟩
end Go.Proofs.Ytfmaeicodljgkaa
/- InstRight, of the program and of the model. (Written by gen_inst.py.) -/
namespace Go.Proofs.Ytfmaeicodljgkaa
open Go.RowKit Go.Sort

def instB (is : List If) (rs : List Rt) (now : Int) : Bool := ifsB is && (ribB rs && (decide (0 ≤ now) && decide (now ≤ 999800)))
set_option maxRecDepth 100000 in
set_option maxHeartbeats 2000000 in
theorem implInst_any (x : Option Addr) (c1 : Nat) (y : Option Addr) (c2 : Nat) (is : List If) (rs : List Rt) (now : Int) (w : World) (h1 : IfsIn w x is) (hc : is.length ≤ c1) (h2 : RtsIn w y rs) (hn1 : is.length ≤ 100000000) (hn2 : rs.length ≤ 100000000) :
    Calls Try.prog 10 #[instV x is.length c1 y rs.length c2 now] w fun e w' => e = .returned (.bool (instB is rs now)) ∧ Below w.heap.size w w' := by
  have HI : Hid (∀ w, IfsIn w x is → Calls Try.prog 29 #[.slice x is.length c1] w fun e w' => e = .returned (.bool (ifsB is)) ∧ Below w.heap.size w w') := fun w h => ifacesRight_any x c1 is w h hc hn1
  have HR : Hid (∀ w, RtsIn w y rs → Calls Try.prog 30 #[.agg #[.slice y rs.length c2]] w fun e w' => e = .returned (.bool (ribB rs)) ∧ Below w.heap.size w w') := fun w h => implRib_any y c2 rs w h hn2
  have HX : Hid (IfsIn w x is ∧ RtsIn w y rs) := ⟨h1, h2⟩
  clear h1 h2 hc hn1 hn2
  unfold instV instB
  generalize is.length = n1 at *
  generalize rs.length = n2 at *
  generalize ifsB is = IB at *
  generalize ribB rs = RBB at *
  have q0 := Row.new w 35 [.slice x n1 c1, .slice y n2 c2, .int .i64 now]
  have HQ : Hid _ := And.intro q0 (ent_new0 w (.cells #[.slice x n1 c1, .slice y n2 c2, .int .i64 now] 35))
  clear q0
  go_enter Try.func10, Try.ntmps10
  go_wp2_with fail
  obtain ⟨q0, hB⟩ := HQ.out
  refine (HI.out _ (HX.out.1.below hB)).mono ?_
  rintro e w1 ⟨rfl, hb1⟩
  have q0 := q0.below hb1 q0.lt
  have hB := hB.trans (hb1.mono hB.size)
  clear hb1 HI HQ
  have x1 : w1.cell? ⟨w.heap.size, 1, none⟩ = some (.slice y n2 c2) := q0.cell 1
  cases IB
  · go_wp2
    go_ret
    exact ⟨rfl, hB⟩
  · go_wp2_with fail
    refine (HR.out _ (HX.out.2.below hB)).mono ?_
    rintro e w2 ⟨rfl, hb2⟩
    have q0 := q0.below hb2 q0.lt
    have hB := hB.trans (hb2.mono hB.size)
    clear hb2 HR x1
    have x2 : w2.cell? ⟨w.heap.size, 2, none⟩ = some (.int .i64 now) := q0.cell 2
    cases RBB
    · go_wp2
      go_ret
      exact ⟨rfl, hB⟩
    · by_cases k1 : 0 ≤ now
      · by_cases k2 : now ≤ 999800
        · go_wp2
          go_ret
          exact ⟨ret_bool (by simp [k1, k2]), hB⟩
        · go_wp2
          go_ret
          exact ⟨ret_bool (by simp; omega), hB⟩
      · go_wp2
        go_ret
        exact ⟨ret_bool (by simp; omega), hB⟩
set_option maxRecDepth 100000 in
set_option maxHeartbeats 2000000 in
theorem specInst_any (x : Option Addr) (c1 : Nat) (y : Option Addr) (c2 : Nat) (is : List If) (rs : List Rt) (now : Int) (w : World) (h1 : IfsIn w x is) (_hc : is.length ≤ c1) (h2 : RtsIn w y rs) (hn1 : is.length ≤ 100000000) (hn2 : rs.length ≤ 100000000) :
    Calls Try.prog 8 #[instV x is.length c1 y rs.length c2 now] w fun e w' => e = .returned (.bool (instB is rs now)) ∧ Below w.heap.size w w' := by
  have HI : Hid (∀ w, IfsIn w x is → Calls Try.prog 24 #[.slice x is.length c1] w fun e w' => e = .returned (.bool (ifsB is)) ∧ Below w.heap.size w w') := fun w h => l07Ifaces_any x c1 is w h hn1
  have HR : Hid (∀ w, RtsIn w y rs → Calls Try.prog 25 #[.agg #[.slice y rs.length c2]] w fun e w' => e = .returned (.bool (ribB rs)) ∧ Below w.heap.size w w') := fun w h => specRib_any y c2 rs w h hn2
  have HN : Hid (∀ w, Calls Try.prog 26 #[.int .i64 now, .int .i64 0, .int .i64 999800] w fun e w' => e = .returned (.bool (decide (0 ≤ now) && decide (now ≤ 999800))) ∧ w = w') := fun w => (l03Is_any now 0 999800 w).mono fun e w' h => by rw [← Bool.decide_and]; exact h
  have HX : Hid (IfsIn w x is ∧ RtsIn w y rs) := ⟨h1, h2⟩
  clear h1 h2 _hc hn1 hn2
  unfold instV instB
  generalize is.length = n1 at *
  generalize rs.length = n2 at *
  generalize ifsB is = IB at *
  generalize ribB rs = RBB at *
  have q0 := Row.new w 35 [.slice x n1 c1, .slice y n2 c2, .int .i64 now]
  have HQ : Hid _ := And.intro q0 (ent_new0 w (.cells #[.slice x n1 c1, .slice y n2 c2, .int .i64 now] 35))
  clear q0
  go_enter Try.func8, Try.ntmps8
  go_wp2_with fail
  obtain ⟨q0, hB⟩ := HQ.out
  refine (HI.out _ (HX.out.1.below hB)).mono ?_
  rintro e w1 ⟨rfl, hb1⟩
  have q0 := q0.below hb1 q0.lt
  have hB := hB.trans (hb1.mono hB.size)
  clear hb1 HI HQ
  have x1 : w1.cell? ⟨w.heap.size, 1, none⟩ = some (.slice y n2 c2) := q0.cell 1
  cases IB
  · go_wp2
    go_ret
    exact ⟨rfl, hB⟩
  · go_wp2_with fail
    refine (HR.out _ (HX.out.2.below hB)).mono ?_
    rintro e w2 ⟨rfl, hb2⟩
    have q0 := q0.below hb2 q0.lt
    have hB := hB.trans (hb2.mono hB.size)
    clear hb2 HR x1
    have x2 : w2.cell? ⟨w.heap.size, 2, none⟩ = some (.int .i64 now) := q0.cell 2
    cases RBB
    · go_wp2
      go_ret
      exact ⟨rfl, hB⟩
    · go_wp2_with fail
      refine (HN.out _).mono ?_
      rintro e w3 ⟨rfl, rfl⟩
      go_wp2
      go_ret
      exact ⟨rfl, hB⟩
end Go.Proofs.Ytfmaeicodljgkaa
/- Right meshes, in plain lists: both readings of their Links agree. -/
namespace Go.Proofs.Ytfmaeicodljgkaa
open Go.RowKit Go.Sort

def hasR (n : Nat) (r : Int) : Bool := decide (0 ≤ r) && decide (r < (n : Int))
/-- Is the end there? -/
def endB (ts : List Iv) (e : Int × Int) : Bool := hasR ts.length e.1 && (decide (0 ≤ e.2) && decide (e.2 < (ts[e.1.toNat]!.is.length : Int)))
def ifAtE (ts : List Iv) (e : Int × Int) : If := ts[e.1.toNat]!.is[e.2.toNat]!
/-- Of two routers, and of one net? -/
def fitB (ts : List Iv) (a b : Int × Int) : Bool := decide (a.1 ≠ b.1) && (decide ((ifAtE ts a).a = (ifAtE ts b).a) && decide ((ifAtE ts a).l = (ifAtE ts b).l))
def wayB (ts : List Iv) (y : Wy) : Bool := endB ts y.1 && (endB ts y.2 && fitB ts y.1 y.2)
/-- What is taken behind these ways. -/
def takenE (ys : List Wy) : List (Int × Int) := ys.map (·.1)
def stepB (ts : List Iv) (ys : List Wy) (y : Wy) : Bool := wayB ts y && !((takenE ys).contains y.1)
/-- Link by link, as the model looks. -/
def apartB (x y : Li) : Bool := decide (((x.la ≠ y.la ∨ x.lx ≠ y.lx) ∧ (x.la ≠ y.lb ∨ x.lx ≠ y.ly)) ∧ ((x.lb ≠ y.la ∨ x.ly ≠ y.lx) ∧ (x.lb ≠ y.lb ∨ x.ly ≠ y.ly)))
def linkB (ts : List Iv) (x : Li) : Bool := decide (x.la ≠ x.lb) && (endB ts (x.la, x.lx) && (endB ts (x.lb, x.ly) && (decide ((ifAtE ts (x.la, x.lx)).a = (ifAtE ts (x.lb, x.ly)).a) && decide ((ifAtE ts (x.la, x.lx)).l = (ifAtE ts (x.lb, x.ly)).l))))
def linkAt (ts : List Iv) (ls : List Li) (i : Nat) : Bool := linkB ts ls[i]! && (ls.take i).all fun z => apartB z ls[i]!
def linksB (ts : List Iv) (ls : List Li) : Bool := decide (ls.length ≤ 4) && (List.range ls.length).all (linkAt ts ls)
def ivB (t : Iv) : Bool := instB t.is t.rs t.now
def routersB (ts : List Iv) : Bool := decide (1 ≤ ts.length ∧ ts.length ≤ 4) && ts.all ivB
/-- Is the mesh right? -/
def meshB (ts : List Iv) (ls : List Li) : Bool := routersB ts && linksB ts ls

theorem linksB_long {ts : List Iv} {ls : List Li} (h : ¬ ls.length ≤ 4) : linksB ts ls = false := by unfold linksB; rw [decide_eq_false h]; rfl
theorem linksB_bad {ts : List Iv} {ls : List Li} {i : Nat} (hi : i < ls.length) (h : linkAt ts ls i = false) : linksB ts ls = false := by
  unfold linksB
  rw [Bool.and_eq_false_iff]
  right
  rw [List.all_eq_false]
  exact ⟨i, List.mem_range.2 hi, by simp [h]⟩
theorem linksB_good {ts : List Iv} {ls : List Li} (h4 : ls.length ≤ 4) (h : ∀ i, i < ls.length → linkAt ts ls i = true) : linksB ts ls = true := by
  unfold linksB
  rw [decide_eq_true h4, Bool.true_and, List.all_eq_true]
  exact fun i hi => h i (List.mem_range.1 hi)
theorem fitB_symm (ts : List Iv) (a b : Int × Int) : fitB ts a b = fitB ts b a := by
  unfold fitB
  rw [show decide (a.1 ≠ b.1) = decide (b.1 ≠ a.1) from decide_eq_decide.2 ⟨fun h => h.symm, fun h => h.symm⟩, show decide ((ifAtE ts a).a = (ifAtE ts b).a) = decide ((ifAtE ts b).a = (ifAtE ts a).a) from decide_eq_decide.2 ⟨fun h => h.symm, fun h => h.symm⟩,
    show decide ((ifAtE ts a).l = (ifAtE ts b).l) = decide ((ifAtE ts b).l = (ifAtE ts a).l) from decide_eq_decide.2 ⟨fun h => h.symm, fun h => h.symm⟩]
theorem linkB_ways (ts : List Iv) (x : Li) : (linkB ts x = true ↔ wayB ts (wayAB x) = true) ∧ (wayB ts (wayBA x) = true ↔ wayB ts (wayAB x) = true) := by
  unfold linkB wayB wayAB wayBA
  constructor
  · simp only [fitB, Bool.and_eq_true, decide_eq_true_eq]
    constructor
    · rintro ⟨h1, h2, h3, h4, h5⟩; exact ⟨h2, h3, h1, h4, h5⟩
    · rintro ⟨h2, h3, h1, h4, h5⟩; exact ⟨h1, h2, h3, h4, h5⟩
  · simp only [Bool.and_eq_true]
    rw [fitB_symm ts (x.lb, x.ly) (x.la, x.lx)]
    constructor
    · rintro ⟨h1, h2, h3⟩; exact ⟨h2, h1, h3⟩
    · rintro ⟨h1, h2, h3⟩; exact ⟨h2, h1, h3⟩
theorem takenE_mem {ls : List Li} {e : Int × Int} : e ∈ takenE (wayL ls) ↔ ∃ z ∈ ls, e = (z.la, z.lx) ∨ e = (z.lb, z.ly) := by
  induction ls with
  | nil => simp [takenE, wayL]
  | cons x ls ih =>
    rw [wayL_cons]
    simp only [takenE, List.map_cons, List.mem_cons] at ih ⊢
    constructor
    · rintro (h | h | h)
      · exact ⟨x, .inl rfl, .inl h⟩
      · exact ⟨x, .inl rfl, .inr h⟩
      · obtain ⟨z, hz, h⟩ := ih.1 h
        exact ⟨z, .inr hz, h⟩
    · rintro ⟨z, rfl | hz, h⟩
      · rcases h with h | h
        · exact .inl h
        · exact .inr (.inl h)
      · exact .inr (.inr (ih.2 ⟨z, hz, h⟩))
theorem wayL_take (ls : List Li) (k : Nat) : (wayL ls).take (2 * k) = wayL (ls.take k) := by
  induction ls generalizing k with
  | nil => simp [wayL]
  | cons x ls ih =>
    cases k with
    | zero => rfl
    | succ k =>
      rw [wayL_cons, show 2 * (k + 1) = 2 * k + 1 + 1 by omega, List.take_succ_cons, List.take_succ_cons, ih k, List.take_succ_cons, wayL_cons]
theorem take_more {α : Type} (l : List α) (k : Nat) (x : α) (h : l[k]? = some x) : l.take (k + 1) = l.take k ++ [x] := by
  rw [List.take_add_one, h]
  rfl
/-- A Link that the model lets by is let by from both ends. -/
theorem steps_of_link {ts : List Iv} {ls : List Li} {k : Nat} (hk : k < ls.length) (h : linkAt ts ls k = true) :
    stepB ts ((wayL ls).take (2 * k)) (wayAB ls[k]) = true ∧ stepB ts ((wayL ls).take (2 * k + 1)) (wayBA ls[k]) = true := by
  unfold linkAt at h
  rw [getElem!_pos ls k hk, Bool.and_eq_true, List.all_eq_true] at h
  obtain ⟨h1, h2⟩ := h
  have w1 := (linkB_ways ts ls[k]).1.1 h1
  have w2 := (linkB_ways ts ls[k]).2.2 w1
  have hne : ls[k].la ≠ ls[k].lb := by
    unfold linkB at h1
    simp only [Bool.and_eq_true, decide_eq_true_eq] at h1
    exact h1.1
  have hap : ∀ z ∈ ls.take k, (z.la, z.lx) ≠ (ls[k].la, ls[k].lx) ∧ (z.la, z.lx) ≠ (ls[k].lb, ls[k].ly) ∧ (z.lb, z.ly) ≠ (ls[k].la, ls[k].lx) ∧ (z.lb, z.ly) ≠ (ls[k].lb, ls[k].ly) := fun z hz => by
    have := h2 z hz
    unfold apartB at this
    simp only [decide_eq_true_eq] at this
    simp only [ne_eq, Prod.mk.injEq]
    omega
  constructor
  · unfold stepB
    rw [w1, Bool.true_and, Bool.not_eq_true', wayL_take]
    rw [← Bool.not_eq_true, List.contains_iff_mem, takenE_mem]
    rintro ⟨z, hz, h | h⟩
    · exact (hap z hz).1 h.symm
    · exact (hap z hz).2.2.1 h.symm
  · unfold stepB
    rw [w2, Bool.true_and, Bool.not_eq_true', take_more _ _ _ (wayL_at0 ls k hk), wayL_take]
    rw [← Bool.not_eq_true, List.contains_iff_mem]
    unfold takenE
    rw [List.map_append, List.mem_append]
    rintro (h | h)
    · obtain ⟨z, hz, h | h⟩ := takenE_mem.1 h
      · exact (hap z hz).2.1 h.symm
      · exact (hap z hz).2.2.2 h.symm
    · simp only [List.map_cons, List.map_nil, List.mem_singleton, wayAB, wayBA, Prod.mk.injEq] at h
      exact hne h.1.symm
/-- A Link that is let by from both ends the model lets by. -/
theorem link_of_steps {ts : List Iv} {ls : List Li} {k : Nat} (hk : k < ls.length) (h1 : stepB ts ((wayL ls).take (2 * k)) (wayAB ls[k]) = true) (h2 : stepB ts ((wayL ls).take (2 * k + 1)) (wayBA ls[k]) = true) : linkAt ts ls k = true := by
  unfold stepB at h1 h2
  rw [Bool.and_eq_true, Bool.not_eq_true', ← Bool.not_eq_true, List.contains_iff_mem] at h1 h2
  obtain ⟨w1, n1⟩ := h1
  obtain ⟨w2, n2⟩ := h2
  rw [wayL_take, takenE_mem] at n1
  rw [take_more _ _ _ (wayL_at0 ls k hk), wayL_take] at n2
  have n2 : ¬ (ls[k].lb, ls[k].ly) ∈ takenE (wayL (ls.take k)) := fun h => n2 (by unfold takenE at h ⊢; rw [List.map_append, List.mem_append]; exact .inl h)
  rw [takenE_mem] at n2
  unfold linkAt
  rw [getElem!_pos ls k hk, Bool.and_eq_true, List.all_eq_true]
  refine ⟨(linkB_ways ts ls[k]).1.2 w1, fun z hz => ?_⟩
  have a1 : ¬ (ls[k].la, ls[k].lx) = (z.la, z.lx) := fun h => n1 ⟨z, hz, .inl h⟩
  have a2 : ¬ (ls[k].la, ls[k].lx) = (z.lb, z.ly) := fun h => n1 ⟨z, hz, .inr h⟩
  have a3 : ¬ (ls[k].lb, ls[k].ly) = (z.la, z.lx) := fun h => n2 ⟨z, hz, .inl h⟩
  have a4 : ¬ (ls[k].lb, ls[k].ly) = (z.lb, z.ly) := fun h => n2 ⟨z, hz, .inr h⟩
  unfold apartB
  simp only [Prod.mk.injEq] at a1 a2 a3 a4
  simp only [decide_eq_true_eq]
  omega
/-- One way that is not let by: the Links are not right. -/
theorem linksB_step {ts : List Iv} {ls : List Li} {j : Nat} {y : Wy} (hy : (wayL ls)[j]? = some y) (h : stepB ts ((wayL ls).take j) y = false) : linksB ts ls = false := by
  have hj : j < (wayL ls).length := (List.getElem?_eq_some_iff.1 hy).1
  rw [wayL_length] at hj
  have hk : j / 2 < ls.length := by omega
  cases hl : linkAt ts ls (j / 2) with
  | false => exact linksB_bad hk hl
  | true =>
    obtain ⟨s1, s2⟩ := steps_of_link hk hl
    rcases Nat.mod_two_eq_zero_or_one j with h0 | h0
    · have e : 2 * (j / 2) = j := by omega
      have := wayL_at0 ls (j / 2) hk
      rw [e, hy] at this
      cases this
      rw [e] at s1
      rw [s1] at h; cases h
    · have e : 2 * (j / 2) + 1 = j := by omega
      have := wayL_at1 ls (j / 2) hk
      rw [e, hy] at this
      cases this
      rw [e] at s2
      rw [s2] at h; cases h
/-- All ways let by: the Links are right. -/
theorem linksB_steps {ts : List Iv} {ls : List Li} (h4 : ls.length ≤ 4) (h : ∀ j y, (wayL ls)[j]? = some y → stepB ts ((wayL ls).take j) y = true) : linksB ts ls = true :=
  linksB_good h4 fun k hk => link_of_steps hk (h _ _ (wayL_at0 ls k hk)) (h _ _ (wayL_at1 ls k hk))
theorem routersB_few {ts : List Iv} (h : ¬ (1 ≤ ts.length ∧ ts.length ≤ 4)) : routersB ts = false := by unfold routersB; rw [decide_eq_false h]; rfl
theorem routersB_bad {ts : List Iv} {k : Nat} (hk : k < ts.length) (h : ivB ts[k] = false) : routersB ts = false := by
  unfold routersB
  rw [Bool.and_eq_false_iff]
  right
  rw [List.all_eq_false]
  exact ⟨ts[k], List.getElem_mem hk, by simp [h]⟩
theorem routersB_good {ts : List Iv} (h1 : 1 ≤ ts.length) (h4 : ts.length ≤ 4) (h : ∀ k (hk : k < ts.length), ivB ts[k] = true) : routersB ts = true := by
  unfold routersB
  rw [decide_eq_true ⟨h1, h4⟩, Bool.true_and, List.all_eq_true]
  intro t ht
  obtain ⟨k, hk, rfl⟩ := List.mem_iff_getElem.1 ht
  exact h k hk
theorem iv_at {ps : List IvP} {k : Nat} {a : Ip} {t : Iv} (hk : k < ps.length) (h : ps[k] = (a, t)) : (ps.map (·.2))[k]! = t := by
  rw [getElem!_pos _ k (by simpa using hk), List.getElem_map, h]
theorem iv_at' {ps : List IvP} {k : Nat} {a : Ip} {t : Iv} (hk : k < ps.length) (h : ps[k] = (a, t)) : (ps.map (·.2))[k]'(by simpa using hk) = t := by rw [List.getElem_map, h]
theorem endB_spec {ts : List Iv} {e : Int × Int} (h : endB ts e = true) : ∃ r i : Nat, e = ((r : Int), (i : Int)) ∧ r < ts.length ∧ i < ts[r]!.is.length := by
  unfold endB hasR at h
  simp only [Bool.and_eq_true, decide_eq_true_eq] at h
  obtain ⟨⟨h1, h2⟩, h3, h4⟩ := h
  refine ⟨e.1.toNat, e.2.toNat, ?_, by omega, by omega⟩
  rw [Int.toNat_of_nonneg h1, Int.toNat_of_nonneg h3]
end Go.Proofs.Ytfmaeicodljgkaa
/- What a mesh has: hasRouter, hasEnd, ifaceAt, fitting of the program. (Written by gen_hasi.py.) -/
namespace Go.Proofs.Ytfmaeicodljgkaa
open Go.RowKit Go.Sort

set_option maxRecDepth 100000 in
set_option maxHeartbeats 4000000 in
theorem hasRouter_any (p : Option Addr) (n1 c1 : Nat) (q : Option Addr) (m1 c2 : Nat) (r : Int) (w : World) (_hn : n1 ≤ 100000000) :
    Calls Try.prog 44 #[.agg #[.slice p n1 c1, .slice q m1 c2], .int .i64 r] w fun e w' => e = .returned (.bool (hasR n1 r)) ∧ Below w.heap.size w w' := by
  have HB : Hid (Below w.heap.size w (w.alloc (.cells #[.slice p n1 c1, .slice q m1 c2] 48))) := ent_new0 w _
  unfold hasR
  by_cases h1 : 0 ≤ r
  · have d1 : decide (0 ≤ r) = true := by simpa using h1
    rw [d1, Bool.true_and]
    generalize hD : decide (r < (n1 : Int)) = D
    go_enter Try.func44, Try.ntmps44
    go_wp2
    go_ret
    exact ⟨rfl, HB.out⟩
  · have d1 : decide (0 ≤ r) = false := by simpa using h1
    rw [d1, Bool.false_and]
    go_enter Try.func44, Try.ntmps44
    go_wp2
    go_ret
    exact ⟨rfl, HB.out⟩
set_option maxRecDepth 100000 in
set_option maxHeartbeats 4000000 in
theorem hasEnd_any (p : Option Addr) (c1 : Nat) (ps : List IvP) (q : Option Addr) (m1 c2 : Nat) (e0 e1 : Int) (w : World) (h : IvsIn w p ps) (hn : ps.length ≤ 100000000) :
    Calls Try.prog 68 #[.agg #[.slice p ps.length c1, .slice q m1 c2], .agg #[.int .i64 e0, .int .i64 e1]] w fun e w' => e = .returned (.bool (endB (ps.map (·.2)) (e0, e1))) ∧ Below w.heap.size w w' := by
  have HC : Hid (∀ w, Calls Try.prog 44 #[.agg #[.slice p ps.length c1, .slice q m1 c2], .int .i64 e0] w fun e w' => e = .returned (.bool (hasR ps.length e0)) ∧ Below w.heap.size w w') := fun w => hasRouter_any p ps.length c1 q m1 c2 e0 w hn
  have HR : Hid (endB (ps.map (·.2)) (e0, e1) = (hasR ps.length e0 && (decide (0 ≤ e1) && decide (e1 < (((ps.map (fun x : IvP => x.2))[e0.toNat]!).is.length : Int))))) := by show _ = _; unfold endB; rw [List.length_map]
  generalize endB (ps.map (·.2)) (e0, e1) = RES at *
  have q0 := (Row.new w 48 [.slice p ps.length c1, .slice q m1 c2]).alloc (.cells #[.int .i64 e0, .int .i64 e1] 112)
  have q1 := Row.new (w.alloc (.cells #[.slice p ps.length c1, .slice q m1 c2] 48)) 112 [.int .i64 e0, .int .i64 e1]
  rw [show (w.alloc (.cells #[.slice p ps.length c1, .slice q m1 c2] 48)).heap.size = w.heap.size + 1 by simp] at q1
  have hB : Below w.heap.size w ((w.alloc (.cells #[.slice p ps.length c1, .slice q m1 c2] 48)).alloc (.cells #[.int .i64 e0, .int .i64 e1] 112)) := (ent_new0 w _).alloc (by simp) _
  have HX : Hid (IvsIn w p ps) := h
  have HQ : Hid _ := And.intro q0 (And.intro q1 hB)
  clear q0 q1 hB h
  go_enter Try.func68, Try.ntmps68
  go_wp2_with fail
  obtain ⟨q0, q1, hB⟩ := HQ.out
  have hX := HX.out.below hB
  clear HQ HX
  generalize ((w.alloc (.cells #[.slice p ps.length c1, .slice q m1 c2] 48)).alloc (.cells #[.int .i64 e0, .int .i64 e1] 112)) = W at *
  have s0 : W.cell? ⟨w.heap.size, 0, none⟩ = some (.slice p ps.length c1) := q0.cell 0
  have s1 : W.cell? ⟨w.heap.size, 1, none⟩ = some (.slice q m1 c2) := q0.cell 1
  have t0 : W.cell? ⟨w.heap.size + 1, 0, none⟩ = some (.int .i64 e0) := q1.cell 0
  have t1 : W.cell? ⟨w.heap.size + 1, 1, none⟩ = some (.int .i64 e1) := q1.cell 1
  have HB : Hid _ := hB
  have HCr : Hid (∀ d os, Calls Try.prog 44 #[.agg #[.slice p ps.length c1, .slice q m1 c2], .int .i64 e0] (grow (redrawn W d) os) fun e w'' => e = .returned (.bool (hasR ps.length e0)) ∧ ∃ p : Regrown, w'' = grow (redrawn W p.d) p.os) := fun d os => Calls.regrown_of (HC.out _)
  have hR := HR.out
  clear q0 q1 hB HC HR
  replace s0 := cell_regrown s0
  replace s1 := cell_regrown s1
  replace t0 := cell_regrown t0
  replace t1 := cell_regrown t1
  cases hh : hasR ps.length e0
  · rw [hh, Bool.false_and] at hR
    rw [hh] at HCr
    clear hX hh
    refine wp_region_quiet_below (by kernel_rfl) (by kernel_rfl) ?_
    repeat (go_big_quiet_step ((go_at_call 44; exact HCr.out _ _)))
    refine wpQuiet_nil ?_
    intro w1 hw'
    obtain ⟨⟨dq, osq⟩, hw''⟩ := hw'
    have hbq := below_regrown W dq osq
    rw [← hw''] at hbq
    clear hw'' osq dq
    clear s0 s1 t0 t1 HCr
    have hB := HB.out.trans (hbq.mono HB.out.size)
    clear hbq HB
    go_wp2
    go_ret
    exact ⟨by first | rfl | (rw [hR]; rfl), hB⟩
  rw [hh, Bool.true_and] at hR
  rw [hh] at HCr
  unfold hasR at hh
  simp only [Bool.and_eq_true, decide_eq_true_eq] at hh
  obtain ⟨m, rfl⟩ : ∃ m : Nat, e0 = (m : Int) := ⟨e0.toNat, by omega⟩
  have hm : m < ps.length := by omega
  obtain ⟨g, a, t, rfl, hg, hek, -, y0, -, -⟩ := hX.at m hm
  rw [Int.toNat_natCast, iv_at hm hek] at hR
  have dm : decide ((m : Int) < (ps.length : Int)) = true := by simpa using hm
  clear hh hX hek
  generalize t.is.length = tn1 at *
  generalize a.x = ax at *
  generalize a.c1 = ac1 at *
  replace y0 := cell_regrown y0
  by_cases h2 : 0 ≤ e1
  case neg =>
    have d2 : decide (0 ≤ e1) = false := by simpa using h2
    rw [d2, Bool.false_and] at hR
    refine wp_region_quiet_below (by kernel_rfl) (by kernel_rfl) ?_
    repeat (go_big_quiet_step ((go_at_call 44; exact HCr.out _ _)))
    refine wpQuiet_nil ?_
    intro w1 hw'
    obtain ⟨⟨dq, osq⟩, hw''⟩ := hw'
    have hbq := below_regrown W dq osq
    rw [← hw''] at hbq
    clear hw'' osq dq
    clear s0 s1 t0 t1 y0 HCr
    have hB := HB.out.trans (hbq.mono HB.out.size)
    clear hbq HB
    go_wp2
    go_ret
    exact ⟨by first | rfl | (rw [hR]; rfl), hB⟩
  have d2 : decide (0 ≤ e1) = true := by simpa using h2
  rw [d2, Bool.true_and] at hR
  by_cases h3 : e1 < (tn1 : Int)
  · have d3 : decide (e1 < (tn1 : Int)) = true := by simpa using h3
    rw [d3] at hR
    refine wp_region_quiet_below (by kernel_rfl) (by kernel_rfl) ?_
    repeat (go_big_quiet_step ((go_at_call 44; exact HCr.out _ _)))
    refine wpQuiet_nil ?_
    intro w1 hw'
    obtain ⟨⟨dq, osq⟩, hw''⟩ := hw'
    have hbq := below_regrown W dq osq
    rw [← hw''] at hbq
    clear hw'' osq dq
    clear s0 s1 t0 t1 y0 HCr
    have hB := HB.out.trans (hbq.mono HB.out.size)
    clear hbq HB
    go_wp2
    go_ret
    exact ⟨by first | rfl | (rw [hR]; rfl), hB⟩
  · have d3 : decide (e1 < (tn1 : Int)) = false := by simpa using h3
    rw [d3] at hR
    refine wp_region_quiet_below (by kernel_rfl) (by kernel_rfl) ?_
    repeat (go_big_quiet_step ((go_at_call 44; exact HCr.out _ _)))
    refine wpQuiet_nil ?_
    intro w1 hw'
    obtain ⟨⟨dq, osq⟩, hw''⟩ := hw'
    have hbq := below_regrown W dq osq
    rw [← hw''] at hbq
    clear hw'' osq dq
    clear s0 s1 t0 t1 y0 HCr
    have hB := HB.out.trans (hbq.mono HB.out.size)
    clear hbq HB
    go_wp2
    go_ret
    exact ⟨by first | rfl | (rw [hR]; rfl), hB⟩
theorem below_drewM {w W : World} {B : Nat} (h : Below B w W) (n : Nat) : Below B w (W.drewN n) := h.trans ⟨rfl, rfl, rfl, Nat.le_refl _, fun _ _ => rfl⟩
set_option maxRecDepth 100000 in
set_option maxHeartbeats 4000000 in
theorem ifaceAt_any (p : Option Addr) (c1 : Nat) (ps : List IvP) (q : Option Addr) (m1 c2 : Nat) (r i : Nat) (w : World) (h : IvsIn w p ps) (hr : r < ps.length) (hi : i < ((ps.map (fun x : IvP => x.2))[r]!).is.length) (_hn : ps.length ≤ 100000000) :
    Calls Try.prog 79 #[.agg #[.slice p ps.length c1, .slice q m1 c2], .agg #[.int .i64 (r : Int), .int .i64 (i : Int)]] w fun e w' => e = .returned (ifV (ifAtE (ps.map (·.2)) ((r : Int), (i : Int)))) ∧ Below w.heap.size w w' := by
  obtain ⟨W, hW, q0, q1, q2, hB, hS⟩ := three_new w [.slice p ps.length c1, .slice q m1 c2] [.int .i64 (r : Int), .int .i64 (i : Int)] [.int .i64 0, .int .i64 0, .int .i64 0, .int .i64 0, .bool false] 48 112 73
  have hX := h.below hB
  obtain ⟨g, a, t, rfl, hg, hek, hI, y0, -, -⟩ := hX.at r hr
  rw [iv_at hr hek] at hi
  obtain ⟨b, fd, fa, fl, fc, fu, hbx, hb, hfk, z0, z1, z2, z3, z4⟩ := hI.1.at i hi
  have hR : ifAtE (ps.map (·.2)) ((r : Int), (i : Int)) = ⟨fd, fa, fl, fc, fu⟩ := by
    unfold ifAtE
    rw [Int.toNat_natCast, Int.toNat_natCast, iv_at hr hek, getElem!_pos t.is i hi, hfk]
  rw [hR]
  have HW : Hid _ := hW
  have hs0 := hS
  have dr : decide ((r : Int) < (ps.length : Int)) = true := by simpa using hr
  have di : decide ((i : Int) < (t.is.length : Int)) = true := by simpa using hi
  rw [hbx] at y0
  clear hW hX h hI hek hfk hR hbx
  generalize t.is.length = tn1 at *
  generalize a.c1 = ac1 at *
  have s0 : W.cell? ⟨w.heap.size, 0, none⟩ = some (.slice (some ⟨g, 0, none⟩) ps.length c1) := q0.cell 0
  have s1 : W.cell? ⟨w.heap.size, 1, none⟩ = some (.slice q m1 c2) := q0.cell 1
  have t0 : W.cell? ⟨w.heap.size + 1, 0, none⟩ = some (.int .i64 (r : Int)) := q1.cell 0
  have t1 : W.cell? ⟨w.heap.size + 1, 1, none⟩ = some (.int .i64 (i : Int)) := q1.cell 1
  have HQ : Hid _ := And.intro q2 hB
  clear q0 q1 q2 hB hS
  go_enter Try.func79, Try.ntmps79
  go_wp2_with fail
  rw [← HW.out]
  clear HW
  refine wp_region_tail 11 (by kernel_rfl) (by kernel_rfl) ?_
  simp only [List.take_succ_cons, List.take_zero, List.drop_succ_cons, List.drop_zero]
  repeat (quiet_step (fail))
  refine wpQuiet_nil ?_
  intro _ hw'
  obtain ⟨nq, hw''⟩ := hw'
  subst hw''
  obtain ⟨q2, hB⟩ := HQ.out
  have q2 := q2.drewN nq
  have hB := below_drewM hB nq
  clear HQ s0 s1 t0 t1 y0 z0 z1 z2 z3 z4
  generalize W.drewN nq = V at *
  have a0 : V.cell? ⟨w.heap.size + 1 + 1, 0, none⟩ = some (.int .i64 0) := q2.cell 0
  have a1 : V.cell? ⟨w.heap.size + 1 + 1, 1, none⟩ = some (.int .i64 0) := q2.cell 1
  have a2 : V.cell? ⟨w.heap.size + 1 + 1, 2, none⟩ = some (.int .i64 0) := q2.cell 2
  have a3 : V.cell? ⟨w.heap.size + 1 + 1, 3, none⟩ = some (.int .i64 0) := q2.cell 3
  have a4 : V.cell? ⟨w.heap.size + 1 + 1, 4, none⟩ = some (.bool false) := q2.cell 4
  have f0 : V.frozen? ⟨w.heap.size + 1 + 1, 0, none⟩ = false := q2.frozen 0
  have f1 : V.frozen? ⟨w.heap.size + 1 + 1, 1, none⟩ = false := q2.frozen 1
  have f2 : V.frozen? ⟨w.heap.size + 1 + 1, 2, none⟩ = false := q2.frozen 2
  have f3 : V.frozen? ⟨w.heap.size + 1 + 1, 3, none⟩ = false := q2.frozen 3
  have f4 : V.frozen? ⟨w.heap.size + 1 + 1, 4, none⟩ = false := q2.frozen 4
  have HF : Hid (Row (((((V.setCell ⟨w.heap.size + 1 + 1, 0, none⟩ (.int .i64 fd)).setCell ⟨w.heap.size + 1 + 1, 1, none⟩ (.int .i64 fa)).setCell ⟨w.heap.size + 1 + 1, 2, none⟩ (.int .i64 fl)).setCell ⟨w.heap.size + 1 + 1, 3, none⟩ (.int .i64 fc)).setCell ⟨w.heap.size + 1 + 1, 4, none⟩ (.bool fu)) (w.heap.size + 1 + 1) 73 [.int .i64 fd, .int .i64 fa, .int .i64 fl, .int .i64 fc, .bool fu] ∧ Below w.heap.size w (((((V.setCell ⟨w.heap.size + 1 + 1, 0, none⟩ (.int .i64 fd)).setCell ⟨w.heap.size + 1 + 1, 1, none⟩ (.int .i64 fa)).setCell ⟨w.heap.size + 1 + 1, 2, none⟩ (.int .i64 fl)).setCell ⟨w.heap.size + 1 + 1, 3, none⟩ (.int .i64 fc)).setCell ⟨w.heap.size + 1 + 1, 4, none⟩ (.bool fu))) := ⟨(((((q2.set 0 (.int .i64 fd)).set 1 (.int .i64 fa)).set 2 (.int .i64 fl)).set 3 (.int .i64 fc)).set 4 (.bool fu)), (((((hB.setCell (p := ⟨w.heap.size + 1 + 1, 0, none⟩) (by show w.heap.size ≤ w.heap.size + 1 + 1; omega) (.int .i64 fd)).setCell (p := ⟨w.heap.size + 1 + 1, 1, none⟩) (by show w.heap.size ≤ w.heap.size + 1 + 1; omega) (.int .i64 fa)).setCell (p := ⟨w.heap.size + 1 + 1, 2, none⟩) (by show w.heap.size ≤ w.heap.size + 1 + 1; omega) (.int .i64 fl)).setCell (p := ⟨w.heap.size + 1 + 1, 3, none⟩) (by show w.heap.size ≤ w.heap.size + 1 + 1; omega) (.int .i64 fc)).setCell (p := ⟨w.heap.size + 1 + 1, 4, none⟩) (by show w.heap.size ≤ w.heap.size + 1 + 1; omega) (.bool fu))⟩
  clear q2 hB
  go_wp2_with fail
  have hF := HF.out
  clear HF a0 f0 a1 f1 a2 f2 a3 f3 a4 f4
  generalize (((((V.setCell ⟨w.heap.size + 1 + 1, 0, none⟩ (.int .i64 fd)).setCell ⟨w.heap.size + 1 + 1, 1, none⟩ (.int .i64 fa)).setCell ⟨w.heap.size + 1 + 1, 2, none⟩ (.int .i64 fl)).setCell ⟨w.heap.size + 1 + 1, 3, none⟩ (.int .i64 fc)).setCell ⟨w.heap.size + 1 + 1, 4, none⟩ (.bool fu)) = Y at *
  obtain ⟨k1, k2⟩ := hF
  have e0 : Y.cell? ⟨w.heap.size + 1 + 1, 0, none⟩ = some (.int .i64 fd) := k1.cell 0
  have e1 : Y.cell? ⟨w.heap.size + 1 + 1, 1, none⟩ = some (.int .i64 fa) := k1.cell 1
  have e2 : Y.cell? ⟨w.heap.size + 1 + 1, 2, none⟩ = some (.int .i64 fl) := k1.cell 2
  have e3 : Y.cell? ⟨w.heap.size + 1 + 1, 3, none⟩ = some (.int .i64 fc) := k1.cell 3
  have e4 : Y.cell? ⟨w.heap.size + 1 + 1, 4, none⟩ = some (.bool fu) := k1.cell 4
  exact bodyPost_ret (v := .agg #[.int .i64 fd, .int .i64 fa, .int .i64 fl, .int .i64 fc, .bool fu]) (by simp [results, Try.results79, go_sem, e0, e1, e2, e3, e4]) rfl ⟨rfl, k2⟩
theorem fieldNet_run (fd fa fl fc : Int) (fu : Bool) (w : World) : (Instr.field 73 (.agg #[.int .i64 fd, .int .i64 fa, .int .i64 fl, .int .i64 fc, .bool fu]) 1).run Try.prog w = .ok (.agg #[.int .i64 fa, .int .i64 fl]) w := by kernel_rfl
set_option maxRecDepth 100000 in
set_option maxHeartbeats 4000000 in
theorem fitting_any (p : Option Addr) (c1 : Nat) (ps : List IvP) (q : Option Addr) (m1 c2 : Nat) (r i s j : Nat) (w : World) (h : IvsIn w p ps) (hr : r < ps.length) (hi : i < ((ps.map (fun x : IvP => x.2))[r]!).is.length) (hs : s < ps.length) (hj : j < ((ps.map (fun x : IvP => x.2))[s]!).is.length) (hn : ps.length ≤ 100000000) :
    Calls Try.prog 69 #[.agg #[.slice p ps.length c1, .slice q m1 c2], .agg #[.int .i64 (r : Int), .int .i64 (i : Int)], .agg #[.int .i64 (s : Int), .int .i64 (j : Int)]] w fun e w' => e = .returned (.bool (fitB (ps.map (·.2)) ((r : Int), (i : Int)) ((s : Int), (j : Int)))) ∧ Below w.heap.size w w' := by
  obtain ⟨W, hW, q0, q1, q2, hB, hS⟩ := three_new w [.slice p ps.length c1, .slice q m1 c2] [.int .i64 (r : Int), .int .i64 (i : Int)] [.int .i64 (s : Int), .int .i64 (j : Int)] 48 112 112
  have hX := h.below hB
  have HA : Hid (∀ d os, Calls Try.prog 79 #[.agg #[.slice p ps.length c1, .slice q m1 c2], .agg #[.int .i64 (r : Int), .int .i64 (i : Int)]] (grow (redrawn W d) os) fun e w'' => e = .returned (ifV (ifAtE (ps.map (·.2)) ((r : Int), (i : Int)))) ∧ ∃ p : Regrown, w'' = grow (redrawn W p.d) p.os) := fun d os => Calls.regrown_of (ifaceAt_any p c1 ps q m1 c2 r i _ (hX.below (below_regrown W d os)) hr hi hn)
  have HC : Hid (∀ d os, Calls Try.prog 79 #[.agg #[.slice p ps.length c1, .slice q m1 c2], .agg #[.int .i64 (s : Int), .int .i64 (j : Int)]] (grow (redrawn W d) os) fun e w'' => e = .returned (ifV (ifAtE (ps.map (·.2)) ((s : Int), (j : Int)))) ∧ ∃ p : Regrown, w'' = grow (redrawn W p.d) p.os) := fun d os => Calls.regrown_of (ifaceAt_any p c1 ps q m1 c2 s j _ (hX.below (below_regrown W d os)) hs hj hn)
  have HR : Hid (fitB (ps.map (·.2)) ((r : Int), (i : Int)) ((s : Int), (j : Int)) = (decide ((r : Int) ≠ (s : Int)) && (decide ((ifAtE (ps.map (·.2)) ((r : Int), (i : Int))).a = (ifAtE (ps.map (·.2)) ((s : Int), (j : Int))).a) && decide ((ifAtE (ps.map (·.2)) ((r : Int), (i : Int))).l = (ifAtE (ps.map (·.2)) ((s : Int), (j : Int))).l)))) := rfl
  generalize fitB (ps.map (·.2)) ((r : Int), (i : Int)) ((s : Int), (j : Int)) = RES at *
  generalize ifAtE (ps.map (·.2)) ((r : Int), (i : Int)) = F at *
  generalize ifAtE (ps.map (·.2)) ((s : Int), (j : Int)) = G at *
  obtain ⟨fd, fa, fl, fc, fu⟩ := F
  obtain ⟨gd, ga, gl, gc, gu⟩ := G
  unfold ifV ifA at HA HC
  simp only at HA HC
  have hR := HR.out
  simp only at hR
  clear HR hX h hi hj
  have HW : Hid _ := hW
  have s0 : W.cell? ⟨w.heap.size, 0, none⟩ = some (.slice p ps.length c1) := q0.cell 0
  have s1 : W.cell? ⟨w.heap.size, 1, none⟩ = some (.slice q m1 c2) := q0.cell 1
  have t0 : W.cell? ⟨w.heap.size + 1, 0, none⟩ = some (.int .i64 (r : Int)) := q1.cell 0
  have t1 : W.cell? ⟨w.heap.size + 1, 1, none⟩ = some (.int .i64 (i : Int)) := q1.cell 1
  have u0 : W.cell? ⟨w.heap.size + 1 + 1, 0, none⟩ = some (.int .i64 (s : Int)) := q2.cell 0
  have u1 : W.cell? ⟨w.heap.size + 1 + 1, 1, none⟩ = some (.int .i64 (j : Int)) := q2.cell 1
  have HB : Hid _ := hB
  clear hW q0 q1 q2 hB hS
  replace s0 := cell_regrown s0
  replace s1 := cell_regrown s1
  replace t0 := cell_regrown t0
  replace t1 := cell_regrown t1
  replace u0 := cell_regrown u0
  replace u1 := cell_regrown u1
  have n1 : ∀ w, (Instr.field 73 (.agg #[.int .i64 fd, .int .i64 fa, .int .i64 fl, .int .i64 fc, .bool fu]) 1).run Try.prog w = .ok (.agg #[.int .i64 fa, .int .i64 fl]) w := fun w => fieldNet_run fd fa fl fc fu w
  have n2 : ∀ w, (Instr.field 73 (.agg #[.int .i64 gd, .int .i64 ga, .int .i64 gl, .int .i64 gc, .bool gu]) 1).run Try.prog w = .ok (.agg #[.int .i64 ga, .int .i64 gl]) w := fun w => fieldNet_run gd ga gl gc gu w
  go_enter Try.func69, Try.ntmps69
  go_wp2_with fail
  rw [← HW.out]
  clear HW
  by_cases k1 : (r : Int) = (s : Int)
  · have d1 : ((r : Int) != (s : Int)) = false := by simpa using k1
    rw [decide_eq_false (fun h => h k1), Bool.false_and] at hR
    clear HA HC n1 n2
    refine wp_region_quiet_below (by kernel_rfl) (by kernel_rfl) ?_
    repeat (go_big_quiet_step (fail))
    refine wpQuiet_nil ?_
    intro w1 hw'
    obtain ⟨⟨dq, osq⟩, hw''⟩ := hw'
    have hbq := below_regrown W dq osq
    rw [← hw''] at hbq
    clear hw'' osq dq
    clear s0 s1 t0 t1 u0 u1 
    have hB := HB.out.trans (hbq.mono HB.out.size)
    clear hbq HB
    go_wp2
    go_ret
    exact ⟨by first | rfl | (rw [hR]; rfl), hB⟩
  have d1 : ((r : Int) != (s : Int)) = true := by simpa using k1
  rw [decide_eq_true k1, Bool.true_and] at hR
  by_cases k2 : fa = ga
  case neg =>
    have d2 : (fa == ga) = false := by simpa using k2
    rw [decide_eq_false k2, Bool.false_and] at hR
    refine wp_region_quiet_below (by kernel_rfl) (by kernel_rfl) ?_
    repeat (go_big_quiet_step (first | (go_at_call_of 79 (#[Value.agg #[Value.slice p ps.length c1, Value.slice q m1 c2], Value.agg #[Value.int IntKind.i64 (r : Int), Value.int IntKind.i64 (i : Int)]]); exact HA.out _ _) | (go_at_call_of 79 (#[Value.agg #[Value.slice p ps.length c1, Value.slice q m1 c2], Value.agg #[Value.int IntKind.i64 (s : Int), Value.int IntKind.i64 (j : Int)]]); exact HC.out _ _)))
    refine wpQuiet_nil ?_
    intro w1 hw'
    obtain ⟨⟨dq, osq⟩, hw''⟩ := hw'
    have hbq := below_regrown W dq osq
    rw [← hw''] at hbq
    clear hw'' osq dq
    clear s0 s1 t0 t1 u0 u1 HA HC
    have hB := HB.out.trans (hbq.mono HB.out.size)
    clear hbq HB
    go_wp2
    go_ret
    exact ⟨by first | rfl | (rw [hR]; rfl), hB⟩
  have d2 : (fa == ga) = true := by simpa using k2
  rw [decide_eq_true k2, Bool.true_and] at hR
  clear k2
  by_cases k3 : fl = gl
  · have d3 : (fl == gl) = true := by simpa using k3
    rw [decide_eq_true k3] at hR
    clear k3
    refine wp_region_quiet_below (by kernel_rfl) (by kernel_rfl) ?_
    repeat (go_big_quiet_step (first | (go_at_call_of 79 (#[Value.agg #[Value.slice p ps.length c1, Value.slice q m1 c2], Value.agg #[Value.int IntKind.i64 (r : Int), Value.int IntKind.i64 (i : Int)]]); exact HA.out _ _) | (go_at_call_of 79 (#[Value.agg #[Value.slice p ps.length c1, Value.slice q m1 c2], Value.agg #[Value.int IntKind.i64 (s : Int), Value.int IntKind.i64 (j : Int)]]); exact HC.out _ _)))
    refine wpQuiet_nil ?_
    intro w1 hw'
    obtain ⟨⟨dq, osq⟩, hw''⟩ := hw'
    have hbq := below_regrown W dq osq
    rw [← hw''] at hbq
    clear hw'' osq dq
    clear s0 s1 t0 t1 u0 u1 HA HC
    have hB := HB.out.trans (hbq.mono HB.out.size)
    clear hbq HB
    go_wp2
    go_ret
    exact ⟨by first | rfl | (rw [hR]; rfl), hB⟩
  · have d3 : (fl == gl) = false := by simpa using k3
    rw [decide_eq_false k3] at hR
    refine wp_region_quiet_below (by kernel_rfl) (by kernel_rfl) ?_
    repeat (go_big_quiet_step (first | (go_at_call_of 79 (#[Value.agg #[Value.slice p ps.length c1, Value.slice q m1 c2], Value.agg #[Value.int IntKind.i64 (r : Int), Value.int IntKind.i64 (i : Int)]]); exact HA.out _ _) | (go_at_call_of 79 (#[Value.agg #[Value.slice p ps.length c1, Value.slice q m1 c2], Value.agg #[Value.int IntKind.i64 (s : Int), Value.int IntKind.i64 (j : Int)]]); exact HC.out _ _)))
    refine wpQuiet_nil ?_
    intro w1 hw'
    obtain ⟨⟨dq, osq⟩, hw''⟩ := hw'
    have hbq := below_regrown W dq osq
    rw [← hw''] at hbq
    clear hw'' osq dq
    clear s0 s1 t0 t1 u0 u1 HA HC
    have hB := HB.out.trans (hbq.mono HB.out.size)
    clear hbq HB
    go_wp2
    go_ret
    exact ⟨by first | rfl | (rw [hR]; rfl), hB⟩
end Go.Proofs.Ytfmaeicodljgkaa
/- l10Apart of the model. (Written by gen_meshs.py.) -/
namespace Go.Proofs.Ytfmaeicodljgkaa
open Go.RowKit Go.Sort

set_option maxRecDepth 100000 in
set_option maxHeartbeats 4000000 in
theorem l10Apart_any (x0 x1 x2 x3 y0 y1 y2 y3 : Int) (w : World) :
    Calls Try.prog 36 #[.agg #[.int .i64 x0, .int .i64 x1, .int .i64 x2, .int .i64 x3], .agg #[.int .i64 y0, .int .i64 y1, .int .i64 y2, .int .i64 y3]] w fun e w' => e = .returned (.bool (decide (((x0 ≠ y0 ∨ x1 ≠ y1) ∧ (x0 ≠ y2 ∨ x1 ≠ y3)) ∧ ((x2 ≠ y0 ∨ x3 ≠ y1) ∧ (x2 ≠ y2 ∨ x3 ≠ y3))))) ∧ Below w.heap.size w w' := by
  have HQ : Hid (Below w.heap.size w ((w.alloc (.cells #[.int .i64 x0, .int .i64 x1, .int .i64 x2, .int .i64 x3] 70)).alloc (.cells #[.int .i64 y0, .int .i64 y1, .int .i64 y2, .int .i64 y3] 70))) := (ent_new0 w _).alloc (by simp) _
  go_enter Try.func36, Try.ntmps36
  by_cases e0 : x0 = y0
  · have n0 : (x0 != y0) = false := by simpa using e0
    by_cases f0 : x1 = y1
    · have m0 : (x1 != y1) = false := by simpa using f0
      have hR : decide (((x0 ≠ y0 ∨ x1 ≠ y1) ∧ (x0 ≠ y2 ∨ x1 ≠ y3)) ∧ ((x2 ≠ y0 ∨ x3 ≠ y1) ∧ (x2 ≠ y2 ∨ x3 ≠ y3))) = false := by rw [decide_eq_false_iff_not]; omega
      clear e0 f0
      go_wp2
      go_ret
      exact ⟨by first | rfl | (rw [hR]; rfl), HQ.out⟩
    · have m0 : (x1 != y1) = true := by simpa using f0
      by_cases e1 : x0 = y2
      · have n1 : (x0 != y2) = false := by simpa using e1
        by_cases f1 : x1 = y3
        · have m1 : (x1 != y3) = false := by simpa using f1
          have hR : decide (((x0 ≠ y0 ∨ x1 ≠ y1) ∧ (x0 ≠ y2 ∨ x1 ≠ y3)) ∧ ((x2 ≠ y0 ∨ x3 ≠ y1) ∧ (x2 ≠ y2 ∨ x3 ≠ y3))) = false := by rw [decide_eq_false_iff_not]; omega
          clear e0 f0 e1 f1
          go_wp2
          go_ret
          exact ⟨by first | rfl | (rw [hR]; rfl), HQ.out⟩
        · have m1 : (x1 != y3) = true := by simpa using f1
          by_cases e2 : x2 = y0
          · have n2 : (x2 != y0) = false := by simpa using e2
            by_cases f2 : x3 = y1
            · have m2 : (x3 != y1) = false := by simpa using f2
              have hR : decide (((x0 ≠ y0 ∨ x1 ≠ y1) ∧ (x0 ≠ y2 ∨ x1 ≠ y3)) ∧ ((x2 ≠ y0 ∨ x3 ≠ y1) ∧ (x2 ≠ y2 ∨ x3 ≠ y3))) = false := by rw [decide_eq_false_iff_not]; omega
              clear e0 f0 e1 f1 e2 f2
              go_wp2
              go_ret
              exact ⟨by first | rfl | (rw [hR]; rfl), HQ.out⟩
            · have m2 : (x3 != y1) = true := by simpa using f2
              by_cases e3 : x2 = y2
              · have n3 : (x2 != y2) = false := by simpa using e3
                by_cases f3 : x3 = y3
                · have m3 : (x3 != y3) = false := by simpa using f3
                  have hR : decide (((x0 ≠ y0 ∨ x1 ≠ y1) ∧ (x0 ≠ y2 ∨ x1 ≠ y3)) ∧ ((x2 ≠ y0 ∨ x3 ≠ y1) ∧ (x2 ≠ y2 ∨ x3 ≠ y3))) = false := by rw [decide_eq_false_iff_not]; omega
                  clear e0 f0 e1 f1 e2 f2 e3 f3
                  go_wp2
                  go_ret
                  exact ⟨by first | rfl | (rw [hR]; rfl), HQ.out⟩
                · have m3 : (x3 != y3) = true := by simpa using f3
                  have hR : decide (((x0 ≠ y0 ∨ x1 ≠ y1) ∧ (x0 ≠ y2 ∨ x1 ≠ y3)) ∧ ((x2 ≠ y0 ∨ x3 ≠ y1) ∧ (x2 ≠ y2 ∨ x3 ≠ y3))) = true := by rw [decide_eq_true_eq]; omega
                  clear e0 f0 e1 f1 e2 f2 e3 f3
                  go_wp2
                  go_ret
                  exact ⟨by first | rfl | (rw [hR]; rfl), HQ.out⟩
              · have n3 : (x2 != y2) = true := by simpa using e3
                have hR : decide (((x0 ≠ y0 ∨ x1 ≠ y1) ∧ (x0 ≠ y2 ∨ x1 ≠ y3)) ∧ ((x2 ≠ y0 ∨ x3 ≠ y1) ∧ (x2 ≠ y2 ∨ x3 ≠ y3))) = true := by rw [decide_eq_true_eq]; omega
                clear e0 f0 e1 f1 e2 f2 e3
                go_wp2
                go_ret
                exact ⟨by first | rfl | (rw [hR]; rfl), HQ.out⟩
          · have n2 : (x2 != y0) = true := by simpa using e2
            by_cases e3 : x2 = y2
            · have n3 : (x2 != y2) = false := by simpa using e3
              by_cases f3 : x3 = y3
              · have m3 : (x3 != y3) = false := by simpa using f3
                have hR : decide (((x0 ≠ y0 ∨ x1 ≠ y1) ∧ (x0 ≠ y2 ∨ x1 ≠ y3)) ∧ ((x2 ≠ y0 ∨ x3 ≠ y1) ∧ (x2 ≠ y2 ∨ x3 ≠ y3))) = false := by rw [decide_eq_false_iff_not]; omega
                clear e0 f0 e1 f1 e2 e3 f3
                go_wp2
                go_ret
                exact ⟨by first | rfl | (rw [hR]; rfl), HQ.out⟩
              · have m3 : (x3 != y3) = true := by simpa using f3
                have hR : decide (((x0 ≠ y0 ∨ x1 ≠ y1) ∧ (x0 ≠ y2 ∨ x1 ≠ y3)) ∧ ((x2 ≠ y0 ∨ x3 ≠ y1) ∧ (x2 ≠ y2 ∨ x3 ≠ y3))) = true := by rw [decide_eq_true_eq]; omega
                clear e0 f0 e1 f1 e2 e3 f3
                go_wp2
                go_ret
                exact ⟨by first | rfl | (rw [hR]; rfl), HQ.out⟩
            · have n3 : (x2 != y2) = true := by simpa using e3
              have hR : decide (((x0 ≠ y0 ∨ x1 ≠ y1) ∧ (x0 ≠ y2 ∨ x1 ≠ y3)) ∧ ((x2 ≠ y0 ∨ x3 ≠ y1) ∧ (x2 ≠ y2 ∨ x3 ≠ y3))) = true := by rw [decide_eq_true_eq]; omega
              clear e0 f0 e1 f1 e2 e3
              go_wp2
              go_ret
              exact ⟨by first | rfl | (rw [hR]; rfl), HQ.out⟩
      · have n1 : (x0 != y2) = true := by simpa using e1
        by_cases e2 : x2 = y0
        · have n2 : (x2 != y0) = false := by simpa using e2
          by_cases f2 : x3 = y1
          · have m2 : (x3 != y1) = false := by simpa using f2
            have hR : decide (((x0 ≠ y0 ∨ x1 ≠ y1) ∧ (x0 ≠ y2 ∨ x1 ≠ y3)) ∧ ((x2 ≠ y0 ∨ x3 ≠ y1) ∧ (x2 ≠ y2 ∨ x3 ≠ y3))) = false := by rw [decide_eq_false_iff_not]; omega
            clear e0 f0 e1 e2 f2
            go_wp2
            go_ret
            exact ⟨by first | rfl | (rw [hR]; rfl), HQ.out⟩
          · have m2 : (x3 != y1) = true := by simpa using f2
            by_cases e3 : x2 = y2
            · have n3 : (x2 != y2) = false := by simpa using e3
              by_cases f3 : x3 = y3
              · have m3 : (x3 != y3) = false := by simpa using f3
                have hR : decide (((x0 ≠ y0 ∨ x1 ≠ y1) ∧ (x0 ≠ y2 ∨ x1 ≠ y3)) ∧ ((x2 ≠ y0 ∨ x3 ≠ y1) ∧ (x2 ≠ y2 ∨ x3 ≠ y3))) = false := by rw [decide_eq_false_iff_not]; omega
                clear e0 f0 e1 e2 f2 e3 f3
                go_wp2
                go_ret
                exact ⟨by first | rfl | (rw [hR]; rfl), HQ.out⟩
              · have m3 : (x3 != y3) = true := by simpa using f3
                have hR : decide (((x0 ≠ y0 ∨ x1 ≠ y1) ∧ (x0 ≠ y2 ∨ x1 ≠ y3)) ∧ ((x2 ≠ y0 ∨ x3 ≠ y1) ∧ (x2 ≠ y2 ∨ x3 ≠ y3))) = true := by rw [decide_eq_true_eq]; omega
                clear e0 f0 e1 e2 f2 e3 f3
                go_wp2
                go_ret
                exact ⟨by first | rfl | (rw [hR]; rfl), HQ.out⟩
            · have n3 : (x2 != y2) = true := by simpa using e3
              have hR : decide (((x0 ≠ y0 ∨ x1 ≠ y1) ∧ (x0 ≠ y2 ∨ x1 ≠ y3)) ∧ ((x2 ≠ y0 ∨ x3 ≠ y1) ∧ (x2 ≠ y2 ∨ x3 ≠ y3))) = true := by rw [decide_eq_true_eq]; omega
              clear e0 f0 e1 e2 f2 e3
              go_wp2
              go_ret
              exact ⟨by first | rfl | (rw [hR]; rfl), HQ.out⟩
        · have n2 : (x2 != y0) = true := by simpa using e2
          by_cases e3 : x2 = y2
          · have n3 : (x2 != y2) = false := by simpa using e3
            by_cases f3 : x3 = y3
            · have m3 : (x3 != y3) = false := by simpa using f3
              have hR : decide (((x0 ≠ y0 ∨ x1 ≠ y1) ∧ (x0 ≠ y2 ∨ x1 ≠ y3)) ∧ ((x2 ≠ y0 ∨ x3 ≠ y1) ∧ (x2 ≠ y2 ∨ x3 ≠ y3))) = false := by rw [decide_eq_false_iff_not]; omega
              clear e0 f0 e1 e2 e3 f3
              go_wp2
              go_ret
              exact ⟨by first | rfl | (rw [hR]; rfl), HQ.out⟩
            · have m3 : (x3 != y3) = true := by simpa using f3
              have hR : decide (((x0 ≠ y0 ∨ x1 ≠ y1) ∧ (x0 ≠ y2 ∨ x1 ≠ y3)) ∧ ((x2 ≠ y0 ∨ x3 ≠ y1) ∧ (x2 ≠ y2 ∨ x3 ≠ y3))) = true := by rw [decide_eq_true_eq]; omega
              clear e0 f0 e1 e2 e3 f3
              go_wp2
              go_ret
              exact ⟨by first | rfl | (rw [hR]; rfl), HQ.out⟩
          · have n3 : (x2 != y2) = true := by simpa using e3
            have hR : decide (((x0 ≠ y0 ∨ x1 ≠ y1) ∧ (x0 ≠ y2 ∨ x1 ≠ y3)) ∧ ((x2 ≠ y0 ∨ x3 ≠ y1) ∧ (x2 ≠ y2 ∨ x3 ≠ y3))) = true := by rw [decide_eq_true_eq]; omega
            clear e0 f0 e1 e2 e3
            go_wp2
            go_ret
            exact ⟨by first | rfl | (rw [hR]; rfl), HQ.out⟩
  · have n0 : (x0 != y0) = true := by simpa using e0
    by_cases e1 : x0 = y2
    · have n1 : (x0 != y2) = false := by simpa using e1
      by_cases f1 : x1 = y3
      · have m1 : (x1 != y3) = false := by simpa using f1
        have hR : decide (((x0 ≠ y0 ∨ x1 ≠ y1) ∧ (x0 ≠ y2 ∨ x1 ≠ y3)) ∧ ((x2 ≠ y0 ∨ x3 ≠ y1) ∧ (x2 ≠ y2 ∨ x3 ≠ y3))) = false := by rw [decide_eq_false_iff_not]; omega
        clear e0 e1 f1
        go_wp2
        go_ret
        exact ⟨by first | rfl | (rw [hR]; rfl), HQ.out⟩
      · have m1 : (x1 != y3) = true := by simpa using f1
        by_cases e2 : x2 = y0
        · have n2 : (x2 != y0) = false := by simpa using e2
          by_cases f2 : x3 = y1
          · have m2 : (x3 != y1) = false := by simpa using f2
            have hR : decide (((x0 ≠ y0 ∨ x1 ≠ y1) ∧ (x0 ≠ y2 ∨ x1 ≠ y3)) ∧ ((x2 ≠ y0 ∨ x3 ≠ y1) ∧ (x2 ≠ y2 ∨ x3 ≠ y3))) = false := by rw [decide_eq_false_iff_not]; omega
            clear e0 e1 f1 e2 f2
            go_wp2
            go_ret
            exact ⟨by first | rfl | (rw [hR]; rfl), HQ.out⟩
          · have m2 : (x3 != y1) = true := by simpa using f2
            by_cases e3 : x2 = y2
            · have n3 : (x2 != y2) = false := by simpa using e3
              by_cases f3 : x3 = y3
              · have m3 : (x3 != y3) = false := by simpa using f3
                have hR : decide (((x0 ≠ y0 ∨ x1 ≠ y1) ∧ (x0 ≠ y2 ∨ x1 ≠ y3)) ∧ ((x2 ≠ y0 ∨ x3 ≠ y1) ∧ (x2 ≠ y2 ∨ x3 ≠ y3))) = false := by rw [decide_eq_false_iff_not]; omega
                clear e0 e1 f1 e2 f2 e3 f3
                go_wp2
                go_ret
                exact ⟨by first | rfl | (rw [hR]; rfl), HQ.out⟩
              · have m3 : (x3 != y3) = true := by simpa using f3
                have hR : decide (((x0 ≠ y0 ∨ x1 ≠ y1) ∧ (x0 ≠ y2 ∨ x1 ≠ y3)) ∧ ((x2 ≠ y0 ∨ x3 ≠ y1) ∧ (x2 ≠ y2 ∨ x3 ≠ y3))) = true := by rw [decide_eq_true_eq]; omega
                clear e0 e1 f1 e2 f2 e3 f3
                go_wp2
                go_ret
                exact ⟨by first | rfl | (rw [hR]; rfl), HQ.out⟩
            · have n3 : (x2 != y2) = true := by simpa using e3
              have hR : decide (((x0 ≠ y0 ∨ x1 ≠ y1) ∧ (x0 ≠ y2 ∨ x1 ≠ y3)) ∧ ((x2 ≠ y0 ∨ x3 ≠ y1) ∧ (x2 ≠ y2 ∨ x3 ≠ y3))) = true := by rw [decide_eq_true_eq]; omega
              clear e0 e1 f1 e2 f2 e3
              go_wp2
              go_ret
              exact ⟨by first | rfl | (rw [hR]; rfl), HQ.out⟩
        · have n2 : (x2 != y0) = true := by simpa using e2
          by_cases e3 : x2 = y2
          · have n3 : (x2 != y2) = false := by simpa using e3
            by_cases f3 : x3 = y3
            · have m3 : (x3 != y3) = false := by simpa using f3
              have hR : decide (((x0 ≠ y0 ∨ x1 ≠ y1) ∧ (x0 ≠ y2 ∨ x1 ≠ y3)) ∧ ((x2 ≠ y0 ∨ x3 ≠ y1) ∧ (x2 ≠ y2 ∨ x3 ≠ y3))) = false := by rw [decide_eq_false_iff_not]; omega
              clear e0 e1 f1 e2 e3 f3
              go_wp2
              go_ret
              exact ⟨by first | rfl | (rw [hR]; rfl), HQ.out⟩
            · have m3 : (x3 != y3) = true := by simpa using f3
              have hR : decide (((x0 ≠ y0 ∨ x1 ≠ y1) ∧ (x0 ≠ y2 ∨ x1 ≠ y3)) ∧ ((x2 ≠ y0 ∨ x3 ≠ y1) ∧ (x2 ≠ y2 ∨ x3 ≠ y3))) = true := by rw [decide_eq_true_eq]; omega
              clear e0 e1 f1 e2 e3 f3
              go_wp2
              go_ret
              exact ⟨by first | rfl | (rw [hR]; rfl), HQ.out⟩
          · have n3 : (x2 != y2) = true := by simpa using e3
            have hR : decide (((x0 ≠ y0 ∨ x1 ≠ y1) ∧ (x0 ≠ y2 ∨ x1 ≠ y3)) ∧ ((x2 ≠ y0 ∨ x3 ≠ y1) ∧ (x2 ≠ y2 ∨ x3 ≠ y3))) = true := by rw [decide_eq_true_eq]; omega
            clear e0 e1 f1 e2 e3
            go_wp2
            go_ret
            exact ⟨by first | rfl | (rw [hR]; rfl), HQ.out⟩
    · have n1 : (x0 != y2) = true := by simpa using e1
      by_cases e2 : x2 = y0
      · have n2 : (x2 != y0) = false := by simpa using e2
        by_cases f2 : x3 = y1
        · have m2 : (x3 != y1) = false := by simpa using f2
          have hR : decide (((x0 ≠ y0 ∨ x1 ≠ y1) ∧ (x0 ≠ y2 ∨ x1 ≠ y3)) ∧ ((x2 ≠ y0 ∨ x3 ≠ y1) ∧ (x2 ≠ y2 ∨ x3 ≠ y3))) = false := by rw [decide_eq_false_iff_not]; omega
          clear e0 e1 e2 f2
          go_wp2
          go_ret
          exact ⟨by first | rfl | (rw [hR]; rfl), HQ.out⟩
        · have m2 : (x3 != y1) = true := by simpa using f2
          by_cases e3 : x2 = y2
          · have n3 : (x2 != y2) = false := by simpa using e3
            by_cases f3 : x3 = y3
            · have m3 : (x3 != y3) = false := by simpa using f3
              have hR : decide (((x0 ≠ y0 ∨ x1 ≠ y1) ∧ (x0 ≠ y2 ∨ x1 ≠ y3)) ∧ ((x2 ≠ y0 ∨ x3 ≠ y1) ∧ (x2 ≠ y2 ∨ x3 ≠ y3))) = false := by rw [decide_eq_false_iff_not]; omega
              clear e0 e1 e2 f2 e3 f3
              go_wp2
              go_ret
              exact ⟨by first | rfl | (rw [hR]; rfl), HQ.out⟩
            · have m3 : (x3 != y3) = true := by simpa using f3
              have hR : decide (((x0 ≠ y0 ∨ x1 ≠ y1) ∧ (x0 ≠ y2 ∨ x1 ≠ y3)) ∧ ((x2 ≠ y0 ∨ x3 ≠ y1) ∧ (x2 ≠ y2 ∨ x3 ≠ y3))) = true := by rw [decide_eq_true_eq]; omega
              clear e0 e1 e2 f2 e3 f3
              go_wp2
              go_ret
              exact ⟨by first | rfl | (rw [hR]; rfl), HQ.out⟩
          · have n3 : (x2 != y2) = true := by simpa using e3
            have hR : decide (((x0 ≠ y0 ∨ x1 ≠ y1) ∧ (x0 ≠ y2 ∨ x1 ≠ y3)) ∧ ((x2 ≠ y0 ∨ x3 ≠ y1) ∧ (x2 ≠ y2 ∨ x3 ≠ y3))) = true := by rw [decide_eq_true_eq]; omega
            clear e0 e1 e2 f2 e3
            go_wp2
            go_ret
            exact ⟨by first | rfl | (rw [hR]; rfl), HQ.out⟩
      · have n2 : (x2 != y0) = true := by simpa using e2
        by_cases e3 : x2 = y2
        · have n3 : (x2 != y2) = false := by simpa using e3
          by_cases f3 : x3 = y3
          · have m3 : (x3 != y3) = false := by simpa using f3
            have hR : decide (((x0 ≠ y0 ∨ x1 ≠ y1) ∧ (x0 ≠ y2 ∨ x1 ≠ y3)) ∧ ((x2 ≠ y0 ∨ x3 ≠ y1) ∧ (x2 ≠ y2 ∨ x3 ≠ y3))) = false := by rw [decide_eq_false_iff_not]; omega
            clear e0 e1 e2 e3 f3
            go_wp2
            go_ret
            exact ⟨by first | rfl | (rw [hR]; rfl), HQ.out⟩
          · have m3 : (x3 != y3) = true := by simpa using f3
            have hR : decide (((x0 ≠ y0 ∨ x1 ≠ y1) ∧ (x0 ≠ y2 ∨ x1 ≠ y3)) ∧ ((x2 ≠ y0 ∨ x3 ≠ y1) ∧ (x2 ≠ y2 ∨ x3 ≠ y3))) = true := by rw [decide_eq_true_eq]; omega
            clear e0 e1 e2 e3 f3
            go_wp2
            go_ret
            exact ⟨by first | rfl | (rw [hR]; rfl), HQ.out⟩
        · have n3 : (x2 != y2) = true := by simpa using e3
          have hR : decide (((x0 ≠ y0 ∨ x1 ≠ y1) ∧ (x0 ≠ y2 ∨ x1 ≠ y3)) ∧ ((x2 ≠ y0 ∨ x3 ≠ y1) ∧ (x2 ≠ y2 ∨ x3 ≠ y3))) = true := by rw [decide_eq_true_eq]; omega
          clear e0 e1 e2 e3
          go_wp2
          go_ret
          exact ⟨by first | rfl | (rw [hR]; rfl), HQ.out⟩
end Go.Proofs.Ytfmaeicodljgkaa
/- Is there such an iface? By the model. -/
namespace Go.Proofs.Ytfmaeicodljgkaa
open Go.RowKit Go.Sort

set_option maxRecDepth 100000 in
set_option maxHeartbeats 2000000 in
theorem l07There_any (x : Option Addr) (n1 c1 : Nat) (y : Option Addr) (n2 c2 : Nat) (now i : Int) (w : World) (hn : n1 ≤ 100000000) :
    Calls Try.prog 65 #[instV x n1 c1 y n2 c2 now, .int .i64 i] w fun e w' => e = .returned (.bool (decide (0 ≤ i ∧ i ≤ (n1 : Int) - 1))) ∧ Below w.heap.size w w' := by
  have HI : Hid (∀ w, Calls Try.prog 26 #[.int .i64 i, .int .i64 0, .int .i64 ((n1 : Int) - 1)] w fun e w' => e = .returned (.bool (decide (0 ≤ i ∧ i ≤ (n1 : Int) - 1))) ∧ w = w') := fun w => l03Is_any i 0 ((n1 : Int) - 1) w
  generalize decide (0 ≤ i ∧ i ≤ (n1 : Int) - 1) = R at *
  unfold instV
  go_enter Try.func65, Try.ntmps65
  go_wp2_with fail
  refine (HI.out _).mono ?_
  rintro e w1 ⟨rfl, rfl⟩
  go_wp2
  go_ret
  exact ⟨rfl, ent_new0 w _⟩
end Go.Proofs.Ytfmaeicodljgkaa
