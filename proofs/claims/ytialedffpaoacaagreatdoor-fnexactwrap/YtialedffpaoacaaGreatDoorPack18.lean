/- Texts that stand on each other, in one file: IfacesS, RibR, InstR, TenR, OpenLk, Lks, LksR, BoxM, AppI, AppS, OwnO, TnsI, FitI, RisB, BoxI, ThereL, InstB, ThereB. -/
import Derived.Test.YtialedffpaoacaaGreatDoorPack17
import Derived.Test.YtialedffpaoacaaGreatDoorPack10
import Derived.Lib.QuietBelow
import Derived.BigQuiet
import Derived.Test.YtialedffpaoacaaGreatDoorPack12
import Derived.Test.YtialedffpaoacaaGreatDoorPack4
import Derived.Lib.SmallJoins
import Derived.Deep.Slices
import Derived.OwnWalk
import Derived.Test.YtialedffpaoacaaGreatDoorRowV
import Derived.Test.YtialedffpaoacaaGreatDoorPack3
import Derived.Test.YtialedffpaoacaaGreatDoorPack5
/- The Ifaces of a router, right: by the model. (Written by gen_ifss.py.) -/
namespace Go.Proofs.YtialedffpaoacaaGreatDoor
open Go.RowKit Go.Sort

theorem likeI_comm (f g : If) : likeI f g = likeI g f := by
  unfold likeI
  rw [Bool.eq_iff_iff]
  simp only [Bool.or_eq_true, Bool.and_eq_true, decide_eq_true_eq]
  omega
theorem ifsOk_bad {rs : List If} {k j : Nat} (hk : k < rs.length) (hj : j < k) (h : likeI rs[j]! rs[k]! = true) : ifsOk rs k = false := by
  unfold ifsOk
  rw [Bool.and_eq_false_iff]
  right
  refine unlikeB_bad (k := j) (by rw [List.length_take]; omega) ?_
  rw [List.getElem_take, likeI_comm, ← get_bangI (by omega)]
  exact h
theorem ifsOk_good {rs : List If} {k : Nat} (hk : k < rs.length) (hi : ifB rs[k]! = true) (h : ∀ j, j < k → likeI rs[j]! rs[k]! = false) : ifsOk rs k = true := by
  unfold ifsOk
  rw [hi, Bool.true_and]
  refine unlikeB_good fun j hj => ?_
  rw [List.length_take] at hj
  rw [List.getElem_take, likeI_comm, ← get_bangI (by omega)]
  exact h j (by omega)
set_option maxRecDepth 100000 in
set_option maxHeartbeats 4000000 in
theorem l07Ifaces_any (p : Option Addr) (cap : Nat) (rs : List If) (w : World) (h : IfsIn w p rs) (hn : rs.length ≤ 100000000) :
    Calls Tryz.prog 63 #[.slice p rs.length cap] w fun e w' => e = .returned (.bool (ifsB rs)) ∧ Below w.heap.size w w' := by
  have HX : Hid (IfsIn w p rs) := h
  have HB1 : Hid (∀ k, k < rs.length → ifsOk rs k = false → ifsB rs = false) := fun k hk h => ifsB_bad hk h
  clear h
  by_cases h3 : rs.length ≤ 3
  · have d3 : decide (3 < (rs.length : Int)) = false := by simp; omega
    have HG : Hid ((∀ j, j < rs.length → ifsOk rs j = true) → ifsB rs = true) := fun h => ifsB_good h3 h
    generalize ifsB rs = R at *
    go_enter Tryz.func63, Tryz.ntmps63
    go_wp2_with fail
    go_loopw [3] (fun i wr => ∃ k : Nat, k ≤ rs.length ∧ i = .int .i64 k ∧ (∀ j, j < k → ifsOk rs j = true) ∧ Below w.heap.size w wr) (fun i _ => rs.length - (intOf i).toNat)
    case atStart => exact ⟨0, Nat.zero_le _, rfl, fun j hj => absurd hj (by omega), Below.refl _ _⟩
    case round =>
      obtain ⟨k, hk, rfl, ha, hB⟩ := hrel
      by_cases hlt : k < rs.length
      · have d1 : decide ((k : Int) < (rs.length : Int)) = true := by simpa using hlt
        obtain ⟨g, d, a, l, c, u, rfl, hg, hek, c0, c1, c2, c3, c4⟩ := (HX.out.below hB).at k hlt
        have hbk : rs[k]! = ⟨d, a, l, c, u⟩ := (get_bangI hlt).trans hek
        have HI : Hid (∀ w, Calls Tryz.prog 111 #[.agg #[.int .i64 d, .int .i64 a, .int .i64 l, .int .i64 c, .bool u]] w fun e w' => e = .returned (.bool (ifB ⟨d, a, l, c, u⟩)) ∧ Below w.heap.size w w') := specIface_any ⟨d, a, l, c, u⟩
        have HBad : Hid (ifsOk rs k = false → R = false) := HB1.out k hlt
        have HNxO : Hid (ifsOk rs k = true → ∀ j, j < k + 1 → ifsOk rs j = true) := fun h j hj => by
          rcases Nat.lt_or_ge j k with h' | h'
          · exact ha j h'
          · obtain rfl : j = k := by omega
            exact h
        have HBI : Hid (ifB ⟨d, a, l, c, u⟩ = false → ifsOk rs k = false) := fun h => by unfold ifsOk; rw [hbk, h]; rfl
        have HGo : Hid (ifB ⟨d, a, l, c, u⟩ = true → (∀ j, j < k → likeI rs[j]! rs[k]! = false) → ifsOk rs k = true) := fun h h' => ifsOk_good hlt (by rw [hbk]; exact h) h'
        have HLb : Hid (∀ j, j < k → likeI rs[j]! rs[k]! = true → ifsOk rs k = false) := fun j hj h => ifsOk_bad hlt hj h
        have HBK : Hid _ := hbk
        clear HB1 HG ha hek hbk
        go_wp2_with fail
        refine (HI.out _).mono ?_
        rintro e w1 ⟨rfl, hb1⟩
        have hB1 := hB.trans (hb1.mono hB.size)
        clear hb1 HI c0 c1 c2 c3 c4 hB
        generalize ifB ⟨d, a, l, c, u⟩ = IB at *
        cases IB
        · go_wp2
          go_ret
          exact ⟨ret_bool (HBad.out (HBI.out (by trivial))).symm, hB1⟩
        · clear HBI
          go_wp2_with fail
          go_loopw [4] (fun i wr => ∃ j : Nat, j ≤ k ∧ i = .int .i64 j ∧ (∀ t, t < j → likeI rs[t]! rs[k]! = false) ∧ Below w.heap.size w wr) (fun i _ => k - (intOf i).toNat)
          case atStart => exact ⟨0, Nat.zero_le _, rfl, fun j hj => absurd hj (by omega), hB1⟩
          case round =>
            obtain ⟨j, hj, rfl, hb, hB2⟩ := hrel
            clear hB1
            by_cases hjk : j < k
            · have d2 : decide ((j : Int) < (k : Int)) = true := by simpa using hjk
              have hjN : j < rs.length := by omega
              have d4 : decide ((j : Int) < (rs.length : Int)) = true := by simp; omega
              obtain ⟨g', D, A, L, C, U, hgg, hg', hej, x0, x1, x2, x3, x4⟩ := (HX.out.below hB2).at j hjN
              simp only [Option.some.injEq, Addr.mk.injEq, and_true] at hgg
              subst hgg
              obtain ⟨g', d', a', l', c', u', hgg, hg', hek', y0, y1, y2, y3, y4⟩ := (HX.out.below hB2).at k hlt
              simp only [Option.some.injEq, Addr.mk.injEq, and_true] at hgg
              subst hgg
              have hh := (get_bangI hlt).symm.trans HBK.out
              rw [hek'] at hh
              simp only [If.mk.injEq] at hh
              obtain ⟨rfl, rfl, rfl, rfl, rfl⟩ := hh
              have hlk : likeI rs[j]! rs[k]! = (decide (D = d') || (decide (A = a') && decide (L = l'))) := by rw [get_bangI hjN, get_bangI hlt, hej, hek']; rfl
              have HNe : Hid (likeI rs[j]! rs[k]! = false → ∀ t, t < j + 1 → likeI rs[t]! rs[k]! = false) := fun h t ht => by
                rcases Nat.lt_or_ge t j with h' | h'
                · exact hb t h'
                · obtain rfl : t = j := by omega
                  exact h
              have HLj : Hid (likeI rs[j]! rs[k]! = true → R = false) := fun h => HBad.out (HLb.out j hjk h)
              rw [hlk] at HLj
              have HNe2 : Hid ((decide (D = d') || (decide (A = a') && decide (L = l'))) = false → ∀ t, t < j + 1 → likeI rs[t]! rs[k]! = false) := fun h => HNe.out (by rw [hlk]; exact h)
              clear x3 x4 y3 y4 HNe hlk hek' hej hb HGo HLb HNxO
              by_cases e0 : D = d'
              · have z0 : (D == d') = true := by simpa using e0
                have HLk : Hid (R = false) := HLj.out (by simp [e0])
                clear e0 HLj HNe2 HBad
                go_wp2_with fail
                replace x0 := cell_regrown x0
                replace x1 := cell_regrown x1
                replace x2 := cell_regrown x2
                replace y0 := cell_regrown y0
                replace y1 := cell_regrown y1
                replace y2 := cell_regrown y2
                refine wp_region_quiet_below (by kernel_rfl) (by kernel_rfl) ?_
                repeat (go_big_quiet_step (fail))
                refine wpQuiet_nil ?_
                intro w3 hw'
                obtain ⟨⟨dq, osq⟩, hw''⟩ := hw'
                have hbq := below_regrown wr dq osq
                rw [← hw''] at hbq
                clear hw'' osq dq x0 x1 x2 y0 y1 y2
                have hB3 := hB2.trans (hbq.mono hB2.size)
                clear hbq
                go_wp2
                go_ret
                exact ⟨ret_bool HLk.out.symm, hB3⟩
              · have z0 : (D == d') = false := by simpa using e0
                by_cases e1 : A = a'
                · have z1 : (A == a') = true := by simpa using e1
                  by_cases e2 : L = l'
                  · have z2 : (L == l') = true := by simpa using e2
                    have HLk : Hid (R = false) := HLj.out (by simp [e1, e2])
                    clear e0 e1 e2 HLj HNe2 HBad
                    go_wp2_with fail
                    replace x0 := cell_regrown x0
                    replace x1 := cell_regrown x1
                    replace x2 := cell_regrown x2
                    replace y0 := cell_regrown y0
                    replace y1 := cell_regrown y1
                    replace y2 := cell_regrown y2
                    refine wp_region_quiet_below (by kernel_rfl) (by kernel_rfl) ?_
                    repeat (go_big_quiet_step (fail))
                    refine wpQuiet_nil ?_
                    intro w3 hw'
                    obtain ⟨⟨dq, osq⟩, hw''⟩ := hw'
                    have hbq := below_regrown wr dq osq
                    rw [← hw''] at hbq
                    clear hw'' osq dq x0 x1 x2 y0 y1 y2
                    have hB3 := hB2.trans (hbq.mono hB2.size)
                    clear hbq
                    go_wp2
                    go_ret
                    exact ⟨ret_bool HLk.out.symm, hB3⟩
                  · have z2 : (L == l') = false := by simpa using e2
                    have HNx : Hid _ := HNe2.out (by simp [e0, e2])
                    clear e0 e1 e2 HLj HNe2 HBad
                    go_wp2_with fail
                    replace x0 := cell_regrown x0
                    replace x1 := cell_regrown x1
                    replace x2 := cell_regrown x2
                    replace y0 := cell_regrown y0
                    replace y1 := cell_regrown y1
                    replace y2 := cell_regrown y2
                    refine wp_region_quiet_below (by kernel_rfl) (by kernel_rfl) ?_
                    repeat (go_big_quiet_step (fail))
                    refine wpQuiet_nil ?_
                    intro w3 hw'
                    obtain ⟨⟨dq, osq⟩, hw''⟩ := hw'
                    have hbq := below_regrown wr dq osq
                    rw [← hw''] at hbq
                    clear hw'' osq dq x0 x1 x2 y0 y1 y2
                    have hB3 := hB2.trans (hbq.mono hB2.size)
                    clear hbq
                    go_wp2
                    go_roundw
                    case rel => exact ⟨j + 1, hjk, by go_num, HNx.out, hB3⟩
                    case measure => simp [intOf]; omega
                · have z1 : (A == a') = false := by simpa using e1
                  have HNx : Hid _ := HNe2.out (by simp [e0, e1])
                  clear e0 e1 HLj HNe2 HBad
                  go_wp2_with fail
                  replace x0 := cell_regrown x0
                  replace x1 := cell_regrown x1
                  replace x2 := cell_regrown x2
                  replace y0 := cell_regrown y0
                  replace y1 := cell_regrown y1
                  replace y2 := cell_regrown y2
                  refine wp_region_quiet_below (by kernel_rfl) (by kernel_rfl) ?_
                  repeat (go_big_quiet_step (fail))
                  refine wpQuiet_nil ?_
                  intro w3 hw'
                  obtain ⟨⟨dq, osq⟩, hw''⟩ := hw'
                  have hbq := below_regrown wr dq osq
                  rw [← hw''] at hbq
                  clear hw'' osq dq x0 x1 x2 y0 y1 y2
                  have hB3 := hB2.trans (hbq.mono hB2.size)
                  clear hbq
                  go_wp2
                  go_roundw
                  case rel => exact ⟨j + 1, hjk, by go_num, HNx.out, hB3⟩
                  case measure => simp [intOf]; omega
            · obtain rfl : j = k := by omega
              have d2 : decide ((j : Int) < (j : Int)) = false := by simp
              have HNx : Hid _ := HNxO.out (HGo.out (by trivial) hb)
              clear hjk hj HBad HGo HLb HNxO hb
              go_wp2
              go_roundw
              case rel => exact ⟨j + 1, hlt, by go_num, HNx.out, hB2⟩
              case measure => simp [intOf]; omega
      · obtain rfl : k = rs.length := by omega
        have d1 : decide ((rs.length : Int) < (rs.length : Int)) = false := by simp
        have hR := HG.out ha
        clear hlt hk HB1 HG ha
        go_wp2
        go_ret
        exact ⟨by rw [hR]; rfl, hB⟩
  · have d3 : decide (3 < (rs.length : Int)) = true := by simp; omega
    have hf : ifsB rs = false := by unfold ifsB; rw [decide_eq_false h3]; rfl
    rw [hf]
    clear HB1 hf
    go_enter Tryz.func63, Tryz.ntmps63
    go_wp2
    go_ret
    exact ⟨rfl, Below.refl _ _⟩
end Go.Proofs.YtialedffpaoacaaGreatDoor
/- Is a table right? Asked by the program and by the model. (Written by gen_ribr.py.) -/
namespace Go.Proofs.YtialedffpaoacaaGreatDoor
open Go.RowKit Go.Sort

/-- One route's net is ahead of another one's. -/
def ltR (r s : Rt) : Bool := decide (r.a < s.a) || (r.a == s.a && decide (r.l < s.l))
/-- The route at k is right, and behind the one ahead of it. -/
def okAt (rs : List Rt) (k : Nat) : Bool := routeB rs[k]! && (decide (k = 0) || ltR rs[k - 1]! rs[k]!)
def ribB (rs : List Rt) : Bool := decide (rs.length ≤ 8) && (List.range rs.length).all (okAt rs)
theorem get_bang {rs : List Rt} {k : Nat} (h : k < rs.length) : rs[k]! = rs[k] := by simp [h]
theorem ribB_long {rs : List Rt} (h : ¬ rs.length ≤ 8) : ribB rs = false := by simp [ribB, h]
theorem ribB_bad {rs : List Rt} {k : Nat} (hk : k < rs.length) (h : okAt rs k = false) : ribB rs = false := by
  unfold ribB
  have : (List.range rs.length).all (okAt rs) = false := by
    rw [List.all_eq_false]
    exact ⟨k, List.mem_range.2 hk, by rw [h]; simp⟩
  rw [this, Bool.and_false]
theorem ribB_good {rs : List Rt} (h8 : rs.length ≤ 8) (h : ∀ j, j < rs.length → okAt rs j = true) : ribB rs = true := by
  unfold ribB
  have : (List.range rs.length).all (okAt rs) = true := by
    rw [List.all_eq_true]
    exact fun j hj => h j (List.mem_range.1 hj)
  rw [this, decide_eq_true h8]; rfl
theorem ribB_spec {rs : List Rt} (h : ribB rs = true) : rs.length ≤ 8 ∧ ∀ j, j < rs.length → okAt rs j = true := by
  simp only [ribB, Bool.and_eq_true, decide_eq_true_eq, List.all_eq_true] at h
  exact ⟨h.1, fun j hj => h.2 j (List.mem_range.2 hj)⟩
theorem okAt_route {rs : List Rt} {k : Nat} (h : okAt rs k = true) : routeB rs[k]! = true := by
  unfold okAt at h; simp only [Bool.and_eq_true] at h; exact h.1
theorem routeB_right {r : Rt} (h : routeB r = true) : rightB r.a r.l = true := by
  unfold routeB saidB entB rtE at h
  simp only [Bool.and_eq_true] at h
  exact h.1.1.1.1.1.1
theorem box1 {w w1 : World} {x : Value} {t : TypeId} (h : Below (w.alloc (.cells #[x] t)).heap.size (w.alloc (.cells #[x] t)) w1) : w1.cell? ⟨w.heap.size, 0, none⟩ = some x ∧ Below w.heap.size w w1 := by
  have q := Row.new w t [x]
  exact ⟨(q.below h q.lt).cell 0, (ent_new0 w _).trans (h.mono (by simp))⟩
set_option maxRecDepth 100000 in
set_option maxHeartbeats 1000000 in
theorem implRib_any (p : Option Addr) (cap : Nat) (rs : List Rt) (w : World) (h : RtsIn w p rs) (hn : rs.length ≤ 100000000) :
    Calls Tryz.prog 142 #[ribV p rs.length cap] w fun e w' => e = .returned (.bool (ribB rs)) ∧ Below w.heap.size w w' := by
  have HE : Hid (∀ e w, Calls Tryz.prog 179 #[rtV e] w fun r w' => r = .returned (.bool (routeB e)) ∧ Below w.heap.size w w') := implRoute_any
  have HL : Hid (∀ a l b m w, Calls Tryz.prog 180 #[.agg #[.int .i64 a, .int .i64 l], .agg #[.int .i64 b, .int .i64 m]] w fun e w' => e = .returned (.bool (lessB a l b m)) ∧ Below w.heap.size w w') := fun a l b m w => implLess_any a l b m w
  have HBd : Hid (∀ k, k < rs.length → okAt rs k = false → ribB rs = false) := fun k hk hf => ribB_bad hk hf
  have HX : Hid (RtsIn w p rs) := h
  clear h
  unfold ribV
  by_cases hl : rs.length ≤ 8
  · have d8 : decide (8 < (rs.length : Int)) = false := by simp; omega
    have HYs : Hid ((∀ j, j < rs.length → okAt rs j = true) → ribB rs = true) := fun h => ribB_good hl h
    generalize ribB rs = R at *
    go_enter Tryz.func142, Tryz.ntmps142
    go_wp2_with fail
    go_loopw [12] (fun i wr => ∃ k : Nat, k ≤ rs.length ∧ i = .int .i64 k ∧ (∀ j, j < k → okAt rs j = true) ∧ Below (w.alloc (.cells #[.slice p rs.length cap] 49)).heap.size (w.alloc (.cells #[.slice p rs.length cap] 49)) wr) (fun i _ => rs.length - (intOf i).toNat)
    case atStart => exact ⟨0, Nat.zero_le _, rfl, fun j hj => absurd hj (by omega), Below.refl _ _⟩
    case round =>
      obtain ⟨k, hk, rfl, ha, hb0⟩ := hrel
      obtain ⟨x0, hb⟩ := box1 hb0
      by_cases hlt : k < rs.length
      · have d1 : decide ((k : Int) < (rs.length : Int)) = true := by simpa using hlt
        obtain ⟨g, a, l, m, n, ii, t, u, b, c, rfl, hg, hek, c0, c1, c2, c3, c4, c5, c6, c7, c8⟩ := (HX.out.below hb).at k hlt
        have hbk : rs[k]! = ⟨a, l, m, n, ii, t, u, b, c⟩ := (get_bang hlt).trans hek
        have HEk : Hid (∀ w, Calls Tryz.prog 179 #[.agg #[.int .i64 a, .int .i64 l, .int .i64 m, .int .i64 n, .int .i64 ii, .int .i64 t, .int .i64 u, .int .i64 b, .bool c]] w fun r w' => r = .returned (.bool (routeB ⟨a, l, m, n, ii, t, u, b, c⟩)) ∧ Below w.heap.size w w') := HE.out ⟨a, l, m, n, ii, t, u, b, c⟩
        have HBk : Hid (okAt rs k = false → R = false) := HBd.out k hlt
        have HNx : Hid (okAt rs k = true → ∀ j, j < k + 1 → okAt rs j = true) := fun h j hj => by
          rcases Nat.lt_or_ge j k with h' | h'
          · exact ha j h'
          · obtain rfl : j = k := by omega
            exact h
        by_cases hz : k = 0
        · have hok : okAt rs k = routeB ⟨a, l, m, n, ii, t, u, b, c⟩ := by unfold okAt; rw [hbk, decide_eq_true hz]; simp
          rw [hok] at HBk HNx
          clear hok HE HL hek HBd ha hbk
          generalize routeB ⟨a, l, m, n, ii, t, u, b, c⟩ = B at *
          have z0 : decide (0 < k) = false := by simp; omega
          have z1 : decide (0 < (k : Int)) = false := by simp; omega
          clear hz
          have HBN : Hid (Below wr.heap.size wr (wr.alloc (.cells #[.int .i64 a, .int .i64 l, .int .i64 m, .int .i64 n, .int .i64 ii, .int .i64 t, .int .i64 u, .int .i64 b, .bool c] 144))) := ent_new0 wr _
          have HQN : Hid (Row (wr.alloc (.cells #[.int .i64 a, .int .i64 l, .int .i64 m, .int .i64 n, .int .i64 ii, .int .i64 t, .int .i64 u, .int .i64 b, .bool c] 144)) wr.heap.size 144 [.int .i64 a, .int .i64 l, .int .i64 m, .int .i64 n, .int .i64 ii, .int .i64 t, .int .i64 u, .int .i64 b, .bool c]) := Row.new wr _ _
          have HX0 : Hid ((wr.alloc (.cells #[.int .i64 a, .int .i64 l, .int .i64 m, .int .i64 n, .int .i64 ii, .int .i64 t, .int .i64 u, .int .i64 b, .bool c] 144)).cell? ⟨w.heap.size, 0, none⟩ = some (.slice (some ⟨g, 0, none⟩) rs.length cap)) := by show _ = _; rw [HBN.out.cell (p := ⟨w.heap.size, 0, none⟩) (by have := hb0.size; simp at this; show w.heap.size < wr.heap.size; omega)]; exact x0
          cases B
          · go_wp2_with fail
            clear c0 c1 c2 c3 c4 c5 c6 c7 c8 x0
            generalize (wr.alloc (.cells #[.int .i64 a, .int .i64 l, .int .i64 m, .int .i64 n, .int .i64 ii, .int .i64 t, .int .i64 u, .int .i64 b, .bool c] 144)) = WR at *
            have x0 := cell_regrown HX0.out
            have c0 : WR.cell? ⟨wr.heap.size, 0, none⟩ = some (.int .i64 a) := HQN.out.cell 0
            replace c0 := cell_regrown c0
            have c1 : WR.cell? ⟨wr.heap.size, 1, none⟩ = some (.int .i64 l) := HQN.out.cell 1
            replace c1 := cell_regrown c1
            have c2 : WR.cell? ⟨wr.heap.size, 2, none⟩ = some (.int .i64 m) := HQN.out.cell 2
            replace c2 := cell_regrown c2
            have c3 : WR.cell? ⟨wr.heap.size, 3, none⟩ = some (.int .i64 n) := HQN.out.cell 3
            replace c3 := cell_regrown c3
            have c4 : WR.cell? ⟨wr.heap.size, 4, none⟩ = some (.int .i64 ii) := HQN.out.cell 4
            replace c4 := cell_regrown c4
            have c5 : WR.cell? ⟨wr.heap.size, 5, none⟩ = some (.int .i64 t) := HQN.out.cell 5
            replace c5 := cell_regrown c5
            have c6 : WR.cell? ⟨wr.heap.size, 6, none⟩ = some (.int .i64 u) := HQN.out.cell 6
            replace c6 := cell_regrown c6
            have c7 : WR.cell? ⟨wr.heap.size, 7, none⟩ = some (.int .i64 b) := HQN.out.cell 7
            replace c7 := cell_regrown c7
            have c8 : WR.cell? ⟨wr.heap.size, 8, none⟩ = some (.bool c) := HQN.out.cell 8
            replace c8 := cell_regrown c8
            refine wp_region_quiet_below (by kernel_rfl) (by kernel_rfl) ?_
            repeat (go_big_quiet_step (first | (go_at_call 179; exact Calls.regrown_of (HEk.out _))))
            refine wpQuiet_nil ?_
            intro w1 hw'
            obtain ⟨⟨dq, osq⟩, hw''⟩ := hw'
            have hbq := below_regrown WR dq osq
            rw [← hw''] at hbq
            clear hw'' osq dq
            clear c0 c1 c2 c3 c4 c5 c6 c7 c8 x0 HQN HX0
            have hB1 := hb.trans ((HBN.out.trans (hbq.mono HBN.out.size)).mono hb.size)
            clear hbq HBN
            go_wp2
            go_ret
            exact ⟨ret_bool (HBk.out (by trivial)).symm, hB1⟩
          · go_wp2_with fail
            clear c0 c1 c2 c3 c4 c5 c6 c7 c8 x0
            generalize (wr.alloc (.cells #[.int .i64 a, .int .i64 l, .int .i64 m, .int .i64 n, .int .i64 ii, .int .i64 t, .int .i64 u, .int .i64 b, .bool c] 144)) = WR at *
            have x0 := cell_regrown HX0.out
            have c0 : WR.cell? ⟨wr.heap.size, 0, none⟩ = some (.int .i64 a) := HQN.out.cell 0
            replace c0 := cell_regrown c0
            have c1 : WR.cell? ⟨wr.heap.size, 1, none⟩ = some (.int .i64 l) := HQN.out.cell 1
            replace c1 := cell_regrown c1
            have c2 : WR.cell? ⟨wr.heap.size, 2, none⟩ = some (.int .i64 m) := HQN.out.cell 2
            replace c2 := cell_regrown c2
            have c3 : WR.cell? ⟨wr.heap.size, 3, none⟩ = some (.int .i64 n) := HQN.out.cell 3
            replace c3 := cell_regrown c3
            have c4 : WR.cell? ⟨wr.heap.size, 4, none⟩ = some (.int .i64 ii) := HQN.out.cell 4
            replace c4 := cell_regrown c4
            have c5 : WR.cell? ⟨wr.heap.size, 5, none⟩ = some (.int .i64 t) := HQN.out.cell 5
            replace c5 := cell_regrown c5
            have c6 : WR.cell? ⟨wr.heap.size, 6, none⟩ = some (.int .i64 u) := HQN.out.cell 6
            replace c6 := cell_regrown c6
            have c7 : WR.cell? ⟨wr.heap.size, 7, none⟩ = some (.int .i64 b) := HQN.out.cell 7
            replace c7 := cell_regrown c7
            have c8 : WR.cell? ⟨wr.heap.size, 8, none⟩ = some (.bool c) := HQN.out.cell 8
            replace c8 := cell_regrown c8
            refine wp_region_quiet_below (by kernel_rfl) (by kernel_rfl) ?_
            repeat (go_big_quiet_step (first | (go_at_call 179; exact Calls.regrown_of (HEk.out _))))
            refine wpQuiet_nil ?_
            intro w1 hw'
            obtain ⟨⟨dq, osq⟩, hw''⟩ := hw'
            have hbq := below_regrown WR dq osq
            rw [← hw''] at hbq
            clear hw'' osq dq
            clear c0 c1 c2 c3 c4 c5 c6 c7 c8 x0 HQN HX0
            have hB0 := hb0.trans ((HBN.out.trans (hbq.mono HBN.out.size)).mono hb0.size)
            clear hbq HBN
            go_wp2
            go_roundw
            case rel => exact ⟨k + 1, hlt, by go_num, HNx.out (by trivial), hB0⟩
            case measure => simp [intOf]; omega
        · obtain ⟨g', a', l', m', n', ii', t', u', b', c', hgg, hg', hej, d0, d1', d2, d3, d4, d5, d6, d7, d8⟩ := (HX.out.below hb).at (k - 1) (by omega)
          simp only [Option.some.injEq, Addr.mk.injEq, and_true] at hgg
          subst hgg
          have hbj : rs[k - 1]! = ⟨a', l', m', n', ii', t', u', b', c'⟩ := (get_bang (by omega)).trans hej
          have hrj := okAt_route (ha (k - 1) (by omega))
          rw [hbj] at hrj
          have hok : okAt rs k = (routeB ⟨a, l, m, n, ii, t, u, b, c⟩ && (decide (a' < a) || (a' == a && decide (l' < l)))) := by unfold okAt; rw [hbk, hbj, decide_eq_false hz]; rfl
          have HLk : Hid (∀ w, Calls Tryz.prog 180 #[.agg #[.int .i64 a', .int .i64 l'], .agg #[.int .i64 a, .int .i64 l]] w fun e w' => e = .returned (.bool (lessB a' l' a l)) ∧ Below w.heap.size w w') := HL.out a' l' a l
          have HLe : Hid (routeB ⟨a, l, m, n, ii, t, u, b, c⟩ = true → lessB a' l' a l = (decide (a' < a) || (a' == a && decide (l' < l)))) := fun h => by unfold lessB; rw [routeB_right hrj, routeB_right h]; rfl
          rw [hok] at HBk HNx
          clear hok HE HL hek hej HBd ha hbk hbj hrj
          generalize routeB ⟨a, l, m, n, ii, t, u, b, c⟩ = B at *
          have z0 : decide (0 < k) = true := by simp; omega
          have z1 : decide (0 < (k : Int)) = true := by simp; omega
          have z2 : IntKind.i64.wrap ((k : Int) - 1) = ((k - 1 : Nat) : Int) := by rw [wrap_i64_in _ (by omega) (by omega)]; omega
          have z3 : (k : Int) - 1 = ((k - 1 : Nat) : Int) := by omega
          have z4 : decide (((k - 1 : Nat) : Int) < (rs.length : Int)) = true := by simp; omega
          have z5 : k - 1 < rs.length := by omega
          have HBN : Hid (Below wr.heap.size wr (wr.alloc (.cells #[.int .i64 a, .int .i64 l, .int .i64 m, .int .i64 n, .int .i64 ii, .int .i64 t, .int .i64 u, .int .i64 b, .bool c] 144))) := ent_new0 wr _
          have HQN : Hid (Row (wr.alloc (.cells #[.int .i64 a, .int .i64 l, .int .i64 m, .int .i64 n, .int .i64 ii, .int .i64 t, .int .i64 u, .int .i64 b, .bool c] 144)) wr.heap.size 144 [.int .i64 a, .int .i64 l, .int .i64 m, .int .i64 n, .int .i64 ii, .int .i64 t, .int .i64 u, .int .i64 b, .bool c]) := Row.new wr _ _
          have HX0 : Hid ((wr.alloc (.cells #[.int .i64 a, .int .i64 l, .int .i64 m, .int .i64 n, .int .i64 ii, .int .i64 t, .int .i64 u, .int .i64 b, .bool c] 144)).cell? ⟨w.heap.size, 0, none⟩ = some (.slice (some ⟨g, 0, none⟩) rs.length cap)) := by show _ = _; rw [HBN.out.cell (p := ⟨w.heap.size, 0, none⟩) (by have := hb0.size; simp at this; show w.heap.size < wr.heap.size; omega)]; exact x0
          have HD0 : Hid ((wr.alloc (.cells #[.int .i64 a, .int .i64 l, .int .i64 m, .int .i64 n, .int .i64 ii, .int .i64 t, .int .i64 u, .int .i64 b, .bool c] 144)).cell? ⟨g, (k - 1) * 9, none⟩ = some (.int .i64 a')) := by show _ = _; rw [HBN.out.cell (p := ⟨g, (k - 1) * 9, none⟩) hg]; exact d0
          have HD1 : Hid ((wr.alloc (.cells #[.int .i64 a, .int .i64 l, .int .i64 m, .int .i64 n, .int .i64 ii, .int .i64 t, .int .i64 u, .int .i64 b, .bool c] 144)).cell? ⟨g, (k - 1) * 9 + 1, none⟩ = some (.int .i64 l')) := by show _ = _; rw [HBN.out.cell (p := ⟨g, (k - 1) * 9 + 1, none⟩) hg]; exact d1'
          clear d0 d1' d2 d3 d4 d5 d6 d7 d8
          cases B
          · clear HLk
            go_wp2_with fail
            clear c0 c1 c2 c3 c4 c5 c6 c7 c8 x0
            generalize (wr.alloc (.cells #[.int .i64 a, .int .i64 l, .int .i64 m, .int .i64 n, .int .i64 ii, .int .i64 t, .int .i64 u, .int .i64 b, .bool c] 144)) = WR at *
            have x0 := cell_regrown HX0.out
            have c0 : WR.cell? ⟨wr.heap.size, 0, none⟩ = some (.int .i64 a) := HQN.out.cell 0
            replace c0 := cell_regrown c0
            have c1 : WR.cell? ⟨wr.heap.size, 1, none⟩ = some (.int .i64 l) := HQN.out.cell 1
            replace c1 := cell_regrown c1
            have c2 : WR.cell? ⟨wr.heap.size, 2, none⟩ = some (.int .i64 m) := HQN.out.cell 2
            replace c2 := cell_regrown c2
            have c3 : WR.cell? ⟨wr.heap.size, 3, none⟩ = some (.int .i64 n) := HQN.out.cell 3
            replace c3 := cell_regrown c3
            have c4 : WR.cell? ⟨wr.heap.size, 4, none⟩ = some (.int .i64 ii) := HQN.out.cell 4
            replace c4 := cell_regrown c4
            have c5 : WR.cell? ⟨wr.heap.size, 5, none⟩ = some (.int .i64 t) := HQN.out.cell 5
            replace c5 := cell_regrown c5
            have c6 : WR.cell? ⟨wr.heap.size, 6, none⟩ = some (.int .i64 u) := HQN.out.cell 6
            replace c6 := cell_regrown c6
            have c7 : WR.cell? ⟨wr.heap.size, 7, none⟩ = some (.int .i64 b) := HQN.out.cell 7
            replace c7 := cell_regrown c7
            have c8 : WR.cell? ⟨wr.heap.size, 8, none⟩ = some (.bool c) := HQN.out.cell 8
            replace c8 := cell_regrown c8
            have d0 := cell_regrown HD0.out
            have d1' := cell_regrown HD1.out
            refine wp_region_quiet_below (by kernel_rfl) (by kernel_rfl) ?_
            repeat (go_big_quiet_step (first | (go_at_call 179; exact Calls.regrown_of (HEk.out _))))
            refine wpQuiet_nil ?_
            intro w1 hw'
            obtain ⟨⟨dq, osq⟩, hw''⟩ := hw'
            have hbq := below_regrown WR dq osq
            rw [← hw''] at hbq
            clear hw'' osq dq
            clear c0 c1 c2 c3 c4 c5 c6 c7 c8 x0 d0 d1' HQN HX0 HD0 HD1
            have hB1 := hb.trans ((HBN.out.trans (hbq.mono HBN.out.size)).mono hb.size)
            clear hbq HBN
            go_wp2
            go_ret
            exact ⟨ret_bool (HBk.out (by trivial)).symm, hB1⟩
          · have HLe' := HLe.out (by trivial)
            rw [HLe'] at HLk
            clear HLe HLe'
            generalize (decide (a' < a) || (a' == a && decide (l' < l))) = L at *
            cases L
            · go_wp2_with fail
              clear c0 c1 c2 c3 c4 c5 c6 c7 c8 x0
              generalize (wr.alloc (.cells #[.int .i64 a, .int .i64 l, .int .i64 m, .int .i64 n, .int .i64 ii, .int .i64 t, .int .i64 u, .int .i64 b, .bool c] 144)) = WR at *
              have x0 := cell_regrown HX0.out
              have c0 : WR.cell? ⟨wr.heap.size, 0, none⟩ = some (.int .i64 a) := HQN.out.cell 0
              replace c0 := cell_regrown c0
              have c1 : WR.cell? ⟨wr.heap.size, 1, none⟩ = some (.int .i64 l) := HQN.out.cell 1
              replace c1 := cell_regrown c1
              have c2 : WR.cell? ⟨wr.heap.size, 2, none⟩ = some (.int .i64 m) := HQN.out.cell 2
              replace c2 := cell_regrown c2
              have c3 : WR.cell? ⟨wr.heap.size, 3, none⟩ = some (.int .i64 n) := HQN.out.cell 3
              replace c3 := cell_regrown c3
              have c4 : WR.cell? ⟨wr.heap.size, 4, none⟩ = some (.int .i64 ii) := HQN.out.cell 4
              replace c4 := cell_regrown c4
              have c5 : WR.cell? ⟨wr.heap.size, 5, none⟩ = some (.int .i64 t) := HQN.out.cell 5
              replace c5 := cell_regrown c5
              have c6 : WR.cell? ⟨wr.heap.size, 6, none⟩ = some (.int .i64 u) := HQN.out.cell 6
              replace c6 := cell_regrown c6
              have c7 : WR.cell? ⟨wr.heap.size, 7, none⟩ = some (.int .i64 b) := HQN.out.cell 7
              replace c7 := cell_regrown c7
              have c8 : WR.cell? ⟨wr.heap.size, 8, none⟩ = some (.bool c) := HQN.out.cell 8
              replace c8 := cell_regrown c8
              have d0 := cell_regrown HD0.out
              have d1' := cell_regrown HD1.out
              refine wp_region_quiet_below (by kernel_rfl) (by kernel_rfl) ?_
              repeat (go_big_quiet_step (first | (go_at_call 179; exact Calls.regrown_of (HEk.out _)) | (go_at_call 180; exact Calls.regrown_of (HLk.out _))))
              refine wpQuiet_nil ?_
              intro w1 hw'
              obtain ⟨⟨dq, osq⟩, hw''⟩ := hw'
              have hbq := below_regrown WR dq osq
              rw [← hw''] at hbq
              clear hw'' osq dq
              clear c0 c1 c2 c3 c4 c5 c6 c7 c8 x0 d0 d1' HQN HX0 HD0 HD1
              have hB1 := hb.trans ((HBN.out.trans (hbq.mono HBN.out.size)).mono hb.size)
              clear hbq HBN
              go_wp2
              go_ret
              exact ⟨ret_bool (HBk.out (by trivial)).symm, hB1⟩
            · go_wp2_with fail
              clear c0 c1 c2 c3 c4 c5 c6 c7 c8 x0
              generalize (wr.alloc (.cells #[.int .i64 a, .int .i64 l, .int .i64 m, .int .i64 n, .int .i64 ii, .int .i64 t, .int .i64 u, .int .i64 b, .bool c] 144)) = WR at *
              have x0 := cell_regrown HX0.out
              have c0 : WR.cell? ⟨wr.heap.size, 0, none⟩ = some (.int .i64 a) := HQN.out.cell 0
              replace c0 := cell_regrown c0
              have c1 : WR.cell? ⟨wr.heap.size, 1, none⟩ = some (.int .i64 l) := HQN.out.cell 1
              replace c1 := cell_regrown c1
              have c2 : WR.cell? ⟨wr.heap.size, 2, none⟩ = some (.int .i64 m) := HQN.out.cell 2
              replace c2 := cell_regrown c2
              have c3 : WR.cell? ⟨wr.heap.size, 3, none⟩ = some (.int .i64 n) := HQN.out.cell 3
              replace c3 := cell_regrown c3
              have c4 : WR.cell? ⟨wr.heap.size, 4, none⟩ = some (.int .i64 ii) := HQN.out.cell 4
              replace c4 := cell_regrown c4
              have c5 : WR.cell? ⟨wr.heap.size, 5, none⟩ = some (.int .i64 t) := HQN.out.cell 5
              replace c5 := cell_regrown c5
              have c6 : WR.cell? ⟨wr.heap.size, 6, none⟩ = some (.int .i64 u) := HQN.out.cell 6
              replace c6 := cell_regrown c6
              have c7 : WR.cell? ⟨wr.heap.size, 7, none⟩ = some (.int .i64 b) := HQN.out.cell 7
              replace c7 := cell_regrown c7
              have c8 : WR.cell? ⟨wr.heap.size, 8, none⟩ = some (.bool c) := HQN.out.cell 8
              replace c8 := cell_regrown c8
              have d0 := cell_regrown HD0.out
              have d1' := cell_regrown HD1.out
              refine wp_region_quiet_below (by kernel_rfl) (by kernel_rfl) ?_
              repeat (go_big_quiet_step (first | (go_at_call 179; exact Calls.regrown_of (HEk.out _)) | (go_at_call 180; exact Calls.regrown_of (HLk.out _))))
              refine wpQuiet_nil ?_
              intro w1 hw'
              obtain ⟨⟨dq, osq⟩, hw''⟩ := hw'
              have hbq := below_regrown WR dq osq
              rw [← hw''] at hbq
              clear hw'' osq dq
              clear c0 c1 c2 c3 c4 c5 c6 c7 c8 x0 d0 d1' HQN HX0 HD0 HD1
              have hB0 := hb0.trans ((HBN.out.trans (hbq.mono HBN.out.size)).mono hb0.size)
              clear hbq HBN
              go_wp2
              go_roundw
              case rel => exact ⟨k + 1, hlt, by go_num, HNx.out (by trivial), hB0⟩
              case measure => simp [intOf]; omega
      · obtain rfl : k = rs.length := by omega
        have d1 : decide ((rs.length : Int) < (rs.length : Int)) = false := by simp
        have hR := HYs.out ha
        clear hlt hk
        go_wp2
        go_ret
        exact ⟨ret_bool hR.symm, hb⟩
  · rw [ribB_long hl]
    have d8 : decide (8 < (rs.length : Int)) = true := by simp; omega
    go_enter Tryz.func142, Tryz.ntmps142
    go_wp2
    go_ret
    exact ⟨rfl, ent_new0 w _⟩
set_option maxRecDepth 100000 in
set_option maxHeartbeats 1000000 in
theorem specRib_any (p : Option Addr) (cap : Nat) (rs : List Rt) (w : World) (h : RtsIn w p rs) (hn : rs.length ≤ 100000000) :
    Calls Tryz.prog 124 #[ribV p rs.length cap] w fun e w' => e = .returned (.bool (ribB rs)) ∧ Below w.heap.size w w' := by
  have HE : Hid (∀ e w, Calls Tryz.prog 170 #[rtV e] w fun r w' => r = .returned (.bool (routeB e)) ∧ Below w.heap.size w w') := specRoute_any
  have HL : Hid (∀ a l b m w, Calls Tryz.prog 160 #[.agg #[.int .i64 a, .int .i64 l], .agg #[.int .i64 b, .int .i64 m]] w fun e w' => e = .returned (.bool (decide (a < b) || (a == b && decide (l < m)))) ∧ Below w.heap.size w w') := fun a l b m w => l03Less_any a l b m w
  have HBd : Hid (∀ k, k < rs.length → okAt rs k = false → ribB rs = false) := fun k hk hf => ribB_bad hk hf
  have HX : Hid (RtsIn w p rs) := h
  clear h
  unfold ribV
  by_cases hl : rs.length ≤ 8
  · have d8 : decide (8 < (rs.length : Int)) = false := by simp; omega
    have HYs : Hid ((∀ j, j < rs.length → okAt rs j = true) → ribB rs = true) := fun h => ribB_good hl h
    generalize ribB rs = R at *
    go_enter Tryz.func124, Tryz.ntmps124
    go_wp2_with fail
    go_loopw [3] (fun i wr => ∃ k : Nat, k ≤ rs.length ∧ i = .int .i64 k ∧ (∀ j, j < k → okAt rs j = true) ∧ Below (w.alloc (.cells #[.slice p rs.length cap] 49)).heap.size (w.alloc (.cells #[.slice p rs.length cap] 49)) wr) (fun i _ => rs.length - (intOf i).toNat)
    case atStart => exact ⟨0, Nat.zero_le _, rfl, fun j hj => absurd hj (by omega), Below.refl _ _⟩
    case round =>
      obtain ⟨k, hk, rfl, ha, hb0⟩ := hrel
      obtain ⟨x0, hb⟩ := box1 hb0
      by_cases hlt : k < rs.length
      · have d1 : decide ((k : Int) < (rs.length : Int)) = true := by simpa using hlt
        obtain ⟨g, a, l, m, n, ii, t, u, b, c, rfl, hg, hek, c0, c1, c2, c3, c4, c5, c6, c7, c8⟩ := (HX.out.below hb).at k hlt
        have hbk : rs[k]! = ⟨a, l, m, n, ii, t, u, b, c⟩ := (get_bang hlt).trans hek
        have HEk : Hid (∀ w, Calls Tryz.prog 170 #[.agg #[.int .i64 a, .int .i64 l, .int .i64 m, .int .i64 n, .int .i64 ii, .int .i64 t, .int .i64 u, .int .i64 b, .bool c]] w fun r w' => r = .returned (.bool (routeB ⟨a, l, m, n, ii, t, u, b, c⟩)) ∧ Below w.heap.size w w') := HE.out ⟨a, l, m, n, ii, t, u, b, c⟩
        have HBk : Hid (okAt rs k = false → R = false) := HBd.out k hlt
        have HNx : Hid (okAt rs k = true → ∀ j, j < k + 1 → okAt rs j = true) := fun h j hj => by
          rcases Nat.lt_or_ge j k with h' | h'
          · exact ha j h'
          · obtain rfl : j = k := by omega
            exact h
        by_cases hz : k = 0
        · have hok : okAt rs k = routeB ⟨a, l, m, n, ii, t, u, b, c⟩ := by unfold okAt; rw [hbk, decide_eq_true hz]; simp
          rw [hok] at HBk HNx
          clear hok HE HL hek HBd ha hbk
          generalize routeB ⟨a, l, m, n, ii, t, u, b, c⟩ = B at *
          have z0 : decide (0 < k) = false := by simp; omega
          have z1 : decide (0 < (k : Int)) = false := by simp; omega
          clear hz
          have HBN : Hid (Below wr.heap.size wr wr) := Below.refl _ _
          cases B
          · go_wp2_with fail
            replace x0 := cell_regrown x0
            replace c0 := cell_regrown c0
            replace c1 := cell_regrown c1
            replace c2 := cell_regrown c2
            replace c3 := cell_regrown c3
            replace c4 := cell_regrown c4
            replace c5 := cell_regrown c5
            replace c6 := cell_regrown c6
            replace c7 := cell_regrown c7
            replace c8 := cell_regrown c8
            refine wp_region_quiet_below (by kernel_rfl) (by kernel_rfl) ?_
            repeat (go_big_quiet_step (first | (go_at_call 170; exact Calls.regrown_of (HEk.out _))))
            refine wpQuiet_nil ?_
            intro w1 hw'
            obtain ⟨⟨dq, osq⟩, hw''⟩ := hw'
            have hbq := below_regrown wr dq osq
            rw [← hw''] at hbq
            clear hw'' osq dq
            clear c0 c1 c2 c3 c4 c5 c6 c7 c8 x0
            have hB1 := hb.trans ((HBN.out.trans (hbq.mono HBN.out.size)).mono hb.size)
            clear hbq HBN
            go_wp2
            go_ret
            exact ⟨ret_bool (HBk.out (by trivial)).symm, hB1⟩
          · go_wp2_with fail
            replace x0 := cell_regrown x0
            replace c0 := cell_regrown c0
            replace c1 := cell_regrown c1
            replace c2 := cell_regrown c2
            replace c3 := cell_regrown c3
            replace c4 := cell_regrown c4
            replace c5 := cell_regrown c5
            replace c6 := cell_regrown c6
            replace c7 := cell_regrown c7
            replace c8 := cell_regrown c8
            refine wp_region_quiet_below (by kernel_rfl) (by kernel_rfl) ?_
            repeat (go_big_quiet_step (first | (go_at_call 170; exact Calls.regrown_of (HEk.out _))))
            refine wpQuiet_nil ?_
            intro w1 hw'
            obtain ⟨⟨dq, osq⟩, hw''⟩ := hw'
            have hbq := below_regrown wr dq osq
            rw [← hw''] at hbq
            clear hw'' osq dq
            clear c0 c1 c2 c3 c4 c5 c6 c7 c8 x0
            have hB0 := hb0.trans ((HBN.out.trans (hbq.mono HBN.out.size)).mono hb0.size)
            clear hbq HBN
            go_wp2
            go_roundw
            case rel => exact ⟨k + 1, hlt, by go_num, HNx.out (by trivial), hB0⟩
            case measure => simp [intOf]; omega
        · obtain ⟨g', a', l', m', n', ii', t', u', b', c', hgg, hg', hej, d0, d1', d2, d3, d4, d5, d6, d7, d8⟩ := (HX.out.below hb).at (k - 1) (by omega)
          simp only [Option.some.injEq, Addr.mk.injEq, and_true] at hgg
          subst hgg
          have hbj : rs[k - 1]! = ⟨a', l', m', n', ii', t', u', b', c'⟩ := (get_bang (by omega)).trans hej
          have hrj := okAt_route (ha (k - 1) (by omega))
          rw [hbj] at hrj
          have hok : okAt rs k = (routeB ⟨a, l, m, n, ii, t, u, b, c⟩ && (decide (a' < a) || (a' == a && decide (l' < l)))) := by unfold okAt; rw [hbk, hbj, decide_eq_false hz]; rfl
          have HLk : Hid (∀ w, Calls Tryz.prog 160 #[.agg #[.int .i64 a', .int .i64 l'], .agg #[.int .i64 a, .int .i64 l]] w fun e w' => e = .returned (.bool (decide (a' < a) || (a' == a && decide (l' < l)))) ∧ Below w.heap.size w w') := HL.out a' l' a l
          rw [hok] at HBk HNx
          clear hok HE HL hek hej HBd ha hbk hbj hrj
          generalize routeB ⟨a, l, m, n, ii, t, u, b, c⟩ = B at *
          have z0 : decide (0 < k) = true := by simp; omega
          have z1 : decide (0 < (k : Int)) = true := by simp; omega
          have z2 : IntKind.i64.wrap ((k : Int) - 1) = ((k - 1 : Nat) : Int) := by rw [wrap_i64_in _ (by omega) (by omega)]; omega
          have z3 : (k : Int) - 1 = ((k - 1 : Nat) : Int) := by omega
          have z4 : decide (((k - 1 : Nat) : Int) < (rs.length : Int)) = true := by simp; omega
          have z5 : k - 1 < rs.length := by omega
          have HBN : Hid (Below wr.heap.size wr wr) := Below.refl _ _
          clear d2 d3 d4 d5 d6 d7 d8
          cases B
          · clear HLk
            go_wp2_with fail
            replace x0 := cell_regrown x0
            replace c0 := cell_regrown c0
            replace c1 := cell_regrown c1
            replace c2 := cell_regrown c2
            replace c3 := cell_regrown c3
            replace c4 := cell_regrown c4
            replace c5 := cell_regrown c5
            replace c6 := cell_regrown c6
            replace c7 := cell_regrown c7
            replace c8 := cell_regrown c8
            replace d0 := cell_regrown d0
            replace d1' := cell_regrown d1'
            refine wp_region_quiet_below (by kernel_rfl) (by kernel_rfl) ?_
            repeat (go_big_quiet_step (first | (go_at_call 170; exact Calls.regrown_of (HEk.out _))))
            refine wpQuiet_nil ?_
            intro w1 hw'
            obtain ⟨⟨dq, osq⟩, hw''⟩ := hw'
            have hbq := below_regrown wr dq osq
            rw [← hw''] at hbq
            clear hw'' osq dq
            clear c0 c1 c2 c3 c4 c5 c6 c7 c8 x0 d0 d1'
            have hB1 := hb.trans ((HBN.out.trans (hbq.mono HBN.out.size)).mono hb.size)
            clear hbq HBN
            go_wp2
            go_ret
            exact ⟨ret_bool (HBk.out (by trivial)).symm, hB1⟩
          · generalize (decide (a' < a) || (a' == a && decide (l' < l))) = L at *
            cases L
            · go_wp2_with fail
              replace x0 := cell_regrown x0
              replace c0 := cell_regrown c0
              replace c1 := cell_regrown c1
              replace c2 := cell_regrown c2
              replace c3 := cell_regrown c3
              replace c4 := cell_regrown c4
              replace c5 := cell_regrown c5
              replace c6 := cell_regrown c6
              replace c7 := cell_regrown c7
              replace c8 := cell_regrown c8
              replace d0 := cell_regrown d0
              replace d1' := cell_regrown d1'
              refine wp_region_quiet_below (by kernel_rfl) (by kernel_rfl) ?_
              repeat (go_big_quiet_step (first | (go_at_call 170; exact Calls.regrown_of (HEk.out _)) | (go_at_call 160; exact Calls.regrown_of (HLk.out _))))
              refine wpQuiet_nil ?_
              intro w1 hw'
              obtain ⟨⟨dq, osq⟩, hw''⟩ := hw'
              have hbq := below_regrown wr dq osq
              rw [← hw''] at hbq
              clear hw'' osq dq
              clear c0 c1 c2 c3 c4 c5 c6 c7 c8 x0 d0 d1'
              have hB1 := hb.trans ((HBN.out.trans (hbq.mono HBN.out.size)).mono hb.size)
              clear hbq HBN
              go_wp2
              go_ret
              exact ⟨ret_bool (HBk.out (by trivial)).symm, hB1⟩
            · go_wp2_with fail
              replace x0 := cell_regrown x0
              replace c0 := cell_regrown c0
              replace c1 := cell_regrown c1
              replace c2 := cell_regrown c2
              replace c3 := cell_regrown c3
              replace c4 := cell_regrown c4
              replace c5 := cell_regrown c5
              replace c6 := cell_regrown c6
              replace c7 := cell_regrown c7
              replace c8 := cell_regrown c8
              replace d0 := cell_regrown d0
              replace d1' := cell_regrown d1'
              refine wp_region_quiet_below (by kernel_rfl) (by kernel_rfl) ?_
              repeat (go_big_quiet_step (first | (go_at_call 170; exact Calls.regrown_of (HEk.out _)) | (go_at_call 160; exact Calls.regrown_of (HLk.out _))))
              refine wpQuiet_nil ?_
              intro w1 hw'
              obtain ⟨⟨dq, osq⟩, hw''⟩ := hw'
              have hbq := below_regrown wr dq osq
              rw [← hw''] at hbq
              clear hw'' osq dq
              clear c0 c1 c2 c3 c4 c5 c6 c7 c8 x0 d0 d1'
              have hB0 := hb0.trans ((HBN.out.trans (hbq.mono HBN.out.size)).mono hb0.size)
              clear hbq HBN
              go_wp2
              go_roundw
              case rel => exact ⟨k + 1, hlt, by go_num, HNx.out (by trivial), hB0⟩
              case measure => simp [intOf]; omega
      · obtain rfl : k = rs.length := by omega
        have d1 : decide ((rs.length : Int) < (rs.length : Int)) = false := by simp
        have hR := HYs.out ha
        clear hlt hk
        go_wp2
        go_ret
        exact ⟨ret_bool hR.symm, hb⟩
  · rw [ribB_long hl]
    have d8 : decide (8 < (rs.length : Int)) = true := by simp; omega
    go_enter Tryz.func124, Tryz.ntmps124
    go_wp2
    go_ret
    exact ⟨rfl, ent_new0 w _⟩
end Go.Proofs.YtialedffpaoacaaGreatDoor
/- InstRight, of the program and of the model. (Written by gen_inst.py.) -/
namespace Go.Proofs.YtialedffpaoacaaGreatDoor
open Go.RowKit Go.Sort

def instB (is : List If) (rs : List Rt) (now : Int) : Bool := ifsB is && (ribB rs && (decide (0 ≤ now) && decide (now ≤ 999800)))
set_option maxRecDepth 100000 in
set_option maxHeartbeats 2000000 in
theorem implInst_any (x : Option Addr) (c1 : Nat) (y : Option Addr) (c2 : Nat) (is : List If) (rs : List Rt) (now : Int) (w : World) (h1 : IfsIn w x is) (hc : is.length ≤ c1) (h2 : RtsIn w y rs) (hn1 : is.length ≤ 100000000) (hn2 : rs.length ≤ 100000000) :
    Calls Tryz.prog 99 #[instV x is.length c1 y rs.length c2 now] w fun e w' => e = .returned (.bool (instB is rs now)) ∧ Below w.heap.size w w' := by
  have HI : Hid (∀ w, IfsIn w x is → Calls Tryz.prog 117 #[.slice x is.length c1] w fun e w' => e = .returned (.bool (ifsB is)) ∧ Below w.heap.size w w') := fun w h => ifacesRight_any x c1 is w h hc hn1
  have HR : Hid (∀ w, RtsIn w y rs → Calls Tryz.prog 142 #[.agg #[.slice y rs.length c2]] w fun e w' => e = .returned (.bool (ribB rs)) ∧ Below w.heap.size w w') := fun w h => implRib_any y c2 rs w h hn2
  have HX : Hid (IfsIn w x is ∧ RtsIn w y rs) := ⟨h1, h2⟩
  clear h1 h2 hc hn1 hn2
  unfold instV instB
  generalize is.length = n1 at *
  generalize rs.length = n2 at *
  generalize ifsB is = IB at *
  generalize ribB rs = RBB at *
  have q0 := Row.new w 51 [.slice x n1 c1, .slice y n2 c2, .int .i64 now]
  have HQ : Hid _ := And.intro q0 (ent_new0 w (.cells #[.slice x n1 c1, .slice y n2 c2, .int .i64 now] 51))
  clear q0
  go_enter Tryz.func99, Tryz.ntmps99
  go_wp2_with fail
  obtain ⟨q0, hB⟩ := HQ.out
  refine (HI.out _ (HX.out.1.below hB)).mono ?_
  rintro e w1 ⟨rfl, hb1⟩
  have q0 := q0.below hb1 q0.lt
  have hB := hB.trans (hb1.mono hB.size)
  clear hb1 HI HQ
  have x1 : w1.cell? ⟨w.heap.size, 1, none⟩ = some (.slice y n2 c2) := q0.cell 1
  cases IB
  · go_wp2
    go_ret
    exact ⟨rfl, hB⟩
  · go_wp2_with fail
    refine (HR.out _ (HX.out.2.below hB)).mono ?_
    rintro e w2 ⟨rfl, hb2⟩
    have q0 := q0.below hb2 q0.lt
    have hB := hB.trans (hb2.mono hB.size)
    clear hb2 HR x1
    have x2 : w2.cell? ⟨w.heap.size, 2, none⟩ = some (.int .i64 now) := q0.cell 2
    cases RBB
    · go_wp2
      go_ret
      exact ⟨rfl, hB⟩
    · by_cases k1 : 0 ≤ now
      · by_cases k2 : now ≤ 999800
        · go_wp2
          go_ret
          exact ⟨ret_bool (by simp [k1, k2]), hB⟩
        · go_wp2
          go_ret
          exact ⟨ret_bool (by simp; omega), hB⟩
      · go_wp2
        go_ret
        exact ⟨ret_bool (by simp; omega), hB⟩
set_option maxRecDepth 100000 in
set_option maxHeartbeats 2000000 in
theorem specInst_any (x : Option Addr) (c1 : Nat) (y : Option Addr) (c2 : Nat) (is : List If) (rs : List Rt) (now : Int) (w : World) (h1 : IfsIn w x is) (_hc : is.length ≤ c1) (h2 : RtsIn w y rs) (hn1 : is.length ≤ 100000000) (hn2 : rs.length ≤ 100000000) :
    Calls Tryz.prog 80 #[instV x is.length c1 y rs.length c2 now] w fun e w' => e = .returned (.bool (instB is rs now)) ∧ Below w.heap.size w w' := by
  have HI : Hid (∀ w, IfsIn w x is → Calls Tryz.prog 63 #[.slice x is.length c1] w fun e w' => e = .returned (.bool (ifsB is)) ∧ Below w.heap.size w w') := fun w h => l07Ifaces_any x c1 is w h hn1
  have HR : Hid (∀ w, RtsIn w y rs → Calls Tryz.prog 124 #[.agg #[.slice y rs.length c2]] w fun e w' => e = .returned (.bool (ribB rs)) ∧ Below w.heap.size w w') := fun w h => specRib_any y c2 rs w h hn2
  have HN : Hid (∀ w, Calls Tryz.prog 43 #[.int .i64 now, .int .i64 0, .int .i64 999800] w fun e w' => e = .returned (.bool (decide (0 ≤ now) && decide (now ≤ 999800))) ∧ w = w') := fun w => (l03Is_any now 0 999800 w).mono fun e w' h => by rw [← Bool.decide_and]; exact h
  have HX : Hid (IfsIn w x is ∧ RtsIn w y rs) := ⟨h1, h2⟩
  clear h1 h2 _hc hn1 hn2
  unfold instV instB
  generalize is.length = n1 at *
  generalize rs.length = n2 at *
  generalize ifsB is = IB at *
  generalize ribB rs = RBB at *
  have q0 := Row.new w 51 [.slice x n1 c1, .slice y n2 c2, .int .i64 now]
  have HQ : Hid _ := And.intro q0 (ent_new0 w (.cells #[.slice x n1 c1, .slice y n2 c2, .int .i64 now] 51))
  clear q0
  go_enter Tryz.func80, Tryz.ntmps80
  go_wp2_with fail
  obtain ⟨q0, hB⟩ := HQ.out
  refine (HI.out _ (HX.out.1.below hB)).mono ?_
  rintro e w1 ⟨rfl, hb1⟩
  have q0 := q0.below hb1 q0.lt
  have hB := hB.trans (hb1.mono hB.size)
  clear hb1 HI HQ
  have x1 : w1.cell? ⟨w.heap.size, 1, none⟩ = some (.slice y n2 c2) := q0.cell 1
  cases IB
  · go_wp2
    go_ret
    exact ⟨rfl, hB⟩
  · go_wp2_with fail
    refine (HR.out _ (HX.out.2.below hB)).mono ?_
    rintro e w2 ⟨rfl, hb2⟩
    have q0 := q0.below hb2 q0.lt
    have hB := hB.trans (hb2.mono hB.size)
    clear hb2 HR x1
    have x2 : w2.cell? ⟨w.heap.size, 2, none⟩ = some (.int .i64 now) := q0.cell 2
    cases RBB
    · go_wp2
      go_ret
      exact ⟨rfl, hB⟩
    · go_wp2_with fail
      refine (HN.out _).mono ?_
      rintro e w3 ⟨rfl, rfl⟩
      go_wp2
      go_ret
      exact ⟨rfl, hB⟩
end Go.Proofs.YtialedffpaoacaaGreatDoor
/- TenantRight, of the program and of the model. (Written by gen_ten.py.) -/
namespace Go.Proofs.YtialedffpaoacaaGreatDoor
open Go.RowKit Go.Sort

def tenB (is : List If) (rs : List Rt) (now : Int) (key : ByteArray) (qu : Int) (ss : List Sn) (es : List Se) (dr : Int) : Bool := instB is rs now && (inKey key && (decide (1 ≤ qu) && (decide (qu ≤ 6) && (ringB ss qu && (heardB es && inTime dr)))))
theorem Below.same {B : Nat} {w w' : World} (h : w = w') : Below B w w' := by subst h; exact Below.refl _ _
set_option maxRecDepth 100000 in
set_option maxHeartbeats 4000000 in
theorem implTenant_any (x : Option Addr) (c1 : Nat) (y : Option Addr) (c2 : Nat) (p : Option Addr) (c3 : Nat) (q : Option Addr) (c4 : Nat) (is : List If) (rs : List Rt) (now : Int) (key : ByteArray) (qu : Int) (ss : List Sn) (es : List Se) (dr : Int) (w : World) (h : IfsIn w x is ∧ RtsIn w y rs ∧ SnsIn w p ss ∧ SesIn w q es) (hc1 : is.length ≤ c1) (hk : key.size ≤ maxLen) (hx : ∀ s ∈ ss, s.tx.size ≤ 100000000) (hn : is.length ≤ 100000000 ∧ rs.length ≤ 100000000 ∧ ss.length ≤ 100000000 ∧ es.length ≤ 100000000) :
    Calls Tryz.prog 94 #[tenV x is.length c1 y rs.length c2 now key qu p ss.length c3 q es.length c4 dr] w fun e w' => e = .returned (.bool (tenB is rs now key qu ss es dr)) ∧ Below w.heap.size w w' := by
  have HI : Hid (∀ w, IfsIn w x is → RtsIn w y rs → Calls Tryz.prog 99 #[.agg #[.slice x is.length c1, .slice y rs.length c2, .int .i64 now]] w fun e w' => e = .returned (.bool (instB is rs now)) ∧ Below w.heap.size w w') := fun w a b => implInst_any x c1 y c2 is rs now w a hc1 b hn.1 hn.2.1
  have HK : Hid (∀ w, Calls Tryz.prog 133 #[.string key] w fun e w' => e = .returned (.bool (inKey key)) ∧ w = w') := fun w => keyRight_any key w hk
  have HS : Hid (∀ w, SnsIn w p ss → Calls Tryz.prog 134 #[.slice p ss.length c3, .int .i64 qu] w fun e w' => e = .returned (.bool (ringB ss qu)) ∧ Below w.heap.size w w') := fun w a => ringRight_any p c3 ss qu w a hn.2.2.1 hx
  have HE : Hid (∀ w, SesIn w q es → Calls Tryz.prog 135 #[.slice q es.length c4] w fun e w' => e = .returned (.bool (heardB es)) ∧ Below w.heap.size w w') := fun w a => heardRight_any q c4 es w a hn.2.2.2
  have HT : Hid (∀ w, Calls Tryz.prog 55 #[.int .i64 dr] w fun e w' => e = .returned (.bool (inTime dr)) ∧ w = w') := fun w => isTime_any dr w
  have HX : Hid (IfsIn w x is ∧ RtsIn w y rs ∧ SnsIn w p ss ∧ SesIn w q es) := h
  have HR : Hid (tenB is rs now key qu ss es dr = (instB is rs now && (inKey key && (decide (1 ≤ qu) && (decide (qu ≤ 6) && (ringB ss qu && (heardB es && inTime dr))))))) := rfl
  clear h hn hk hx hc1
  generalize tenB is rs now key qu ss es dr = RES at *
  generalize instB is rs now = B1 at *
  generalize inKey key = B2 at *
  generalize ringB ss qu = B3 at *
  generalize heardB es = B4 at *
  generalize inTime dr = B5 at *
  unfold tenV
  generalize is.length = n1 at *
  generalize rs.length = n2 at *
  generalize ss.length = n3 at *
  generalize es.length = n4 at *
  have HQ : Hid _ := And.intro (Row.new w 55 [.slice x n1 c1, .slice y n2 c2, .int .i64 now, .string key, .int .i64 qu, .slice p n3 c3, .slice q n4 c4, .int .i64 dr]) (ent_new0 w (.cells #[.slice x n1 c1, .slice y n2 c2, .int .i64 now, .string key, .int .i64 qu, .slice p n3 c3, .slice q n4 c4, .int .i64 dr] 55))
  go_enter Tryz.func94, Tryz.ntmps94
  go_wp2_with fail
  obtain ⟨r0, hB⟩ := HQ.out
  clear HQ
  refine (HI.out _ (HX.out.1.below hB) (HX.out.2.1.below hB)).mono ?_
  rintro e w1 ⟨rfl, hb1⟩
  have r0 := r0.below hb1 r0.lt
  have hB := hB.trans (hb1.mono hB.size)
  clear hb1
  have hR := HR.out
  clear HR HI
  cases B1
  · simp only [Bool.false_and] at hR
    go_wp2
    go_ret
    exact ⟨by first | rfl | (rw [hR]; rfl) | (rw [← hR]; rfl), hB⟩
  rw [Bool.true_and] at hR
  have s0 : w1.cell? ⟨w.heap.size, 0, none⟩ = some (.slice x n1 c1) := r0.cell 0
  have s1 : w1.cell? ⟨w.heap.size, 1, none⟩ = some (.slice y n2 c2) := r0.cell 1
  have s2 : w1.cell? ⟨w.heap.size, 2, none⟩ = some (.int .i64 now) := r0.cell 2
  have s3 : w1.cell? ⟨w.heap.size, 3, none⟩ = some (.string key) := r0.cell 3
  have s4 : w1.cell? ⟨w.heap.size, 4, none⟩ = some (.int .i64 qu) := r0.cell 4
  have s5 : w1.cell? ⟨w.heap.size, 5, none⟩ = some (.slice p n3 c3) := r0.cell 5
  have s6 : w1.cell? ⟨w.heap.size, 6, none⟩ = some (.slice q n4 c4) := r0.cell 6
  have s7 : w1.cell? ⟨w.heap.size, 7, none⟩ = some (.int .i64 dr) := r0.cell 7
  go_wp2_with fail
  clear s0 s1 s2 s3 s4 s5 s6 s7
  refine (HK.out _).mono ?_
  rintro e w2 ⟨rfl, rfl⟩
  clear HK
  cases B2
  · simp only [Bool.false_and] at hR
    go_wp2
    go_ret
    exact ⟨by first | rfl | (rw [hR]; rfl) | (rw [← hR]; rfl), hB⟩
  rw [Bool.true_and] at hR
  have s0 : w1.cell? ⟨w.heap.size, 0, none⟩ = some (.slice x n1 c1) := r0.cell 0
  have s1 : w1.cell? ⟨w.heap.size, 1, none⟩ = some (.slice y n2 c2) := r0.cell 1
  have s2 : w1.cell? ⟨w.heap.size, 2, none⟩ = some (.int .i64 now) := r0.cell 2
  have s3 : w1.cell? ⟨w.heap.size, 3, none⟩ = some (.string key) := r0.cell 3
  have s4 : w1.cell? ⟨w.heap.size, 4, none⟩ = some (.int .i64 qu) := r0.cell 4
  have s5 : w1.cell? ⟨w.heap.size, 5, none⟩ = some (.slice p n3 c3) := r0.cell 5
  have s6 : w1.cell? ⟨w.heap.size, 6, none⟩ = some (.slice q n4 c4) := r0.cell 6
  have s7 : w1.cell? ⟨w.heap.size, 7, none⟩ = some (.int .i64 dr) := r0.cell 7
  by_cases k1 : 1 ≤ qu
  case neg =>
    have d1 : decide (1 ≤ qu) = false := by simpa using k1
    rw [d1, Bool.false_and] at hR
    go_wp2
    go_ret
    exact ⟨by first | rfl | (rw [hR]; rfl) | (rw [← hR]; rfl), hB⟩
  have d1 : decide (1 ≤ qu) = true := by simpa using k1
  rw [d1, Bool.true_and] at hR
  by_cases k2 : qu ≤ 6
  case neg =>
    have d2 : decide (qu ≤ 6) = false := by simpa using k2
    rw [d2, Bool.false_and] at hR
    go_wp2
    go_ret
    exact ⟨by first | rfl | (rw [hR]; rfl) | (rw [← hR]; rfl), hB⟩
  have d2 : decide (qu ≤ 6) = true := by simpa using k2
  rw [d2, Bool.true_and] at hR
  go_wp2_with fail
  clear s0 s1 s2 s3 s4 s5 s6 s7
  refine (HS.out _ (HX.out.2.2.1.below hB)).mono ?_
  rintro e w3 ⟨rfl, hb3⟩
  have r0 := r0.below hb3 r0.lt
  have hB := hB.trans (hb3.mono hB.size)
  clear hb3
  clear HS
  cases B3
  · simp only [Bool.false_and] at hR
    go_wp2
    go_ret
    exact ⟨by first | rfl | (rw [hR]; rfl) | (rw [← hR]; rfl), hB⟩
  rw [Bool.true_and] at hR
  have s0 : w3.cell? ⟨w.heap.size, 0, none⟩ = some (.slice x n1 c1) := r0.cell 0
  have s1 : w3.cell? ⟨w.heap.size, 1, none⟩ = some (.slice y n2 c2) := r0.cell 1
  have s2 : w3.cell? ⟨w.heap.size, 2, none⟩ = some (.int .i64 now) := r0.cell 2
  have s3 : w3.cell? ⟨w.heap.size, 3, none⟩ = some (.string key) := r0.cell 3
  have s4 : w3.cell? ⟨w.heap.size, 4, none⟩ = some (.int .i64 qu) := r0.cell 4
  have s5 : w3.cell? ⟨w.heap.size, 5, none⟩ = some (.slice p n3 c3) := r0.cell 5
  have s6 : w3.cell? ⟨w.heap.size, 6, none⟩ = some (.slice q n4 c4) := r0.cell 6
  have s7 : w3.cell? ⟨w.heap.size, 7, none⟩ = some (.int .i64 dr) := r0.cell 7
  go_wp2_with fail
  clear s0 s1 s2 s3 s4 s5 s6 s7
  refine (HE.out _ (HX.out.2.2.2.below hB)).mono ?_
  rintro e w4 ⟨rfl, hb4⟩
  have r0 := r0.below hb4 r0.lt
  have hB := hB.trans (hb4.mono hB.size)
  clear hb4
  clear HE
  cases B4
  · simp only [Bool.false_and] at hR
    go_wp2
    go_ret
    exact ⟨by first | rfl | (rw [hR]; rfl) | (rw [← hR]; rfl), hB⟩
  rw [Bool.true_and] at hR
  have s0 : w4.cell? ⟨w.heap.size, 0, none⟩ = some (.slice x n1 c1) := r0.cell 0
  have s1 : w4.cell? ⟨w.heap.size, 1, none⟩ = some (.slice y n2 c2) := r0.cell 1
  have s2 : w4.cell? ⟨w.heap.size, 2, none⟩ = some (.int .i64 now) := r0.cell 2
  have s3 : w4.cell? ⟨w.heap.size, 3, none⟩ = some (.string key) := r0.cell 3
  have s4 : w4.cell? ⟨w.heap.size, 4, none⟩ = some (.int .i64 qu) := r0.cell 4
  have s5 : w4.cell? ⟨w.heap.size, 5, none⟩ = some (.slice p n3 c3) := r0.cell 5
  have s6 : w4.cell? ⟨w.heap.size, 6, none⟩ = some (.slice q n4 c4) := r0.cell 6
  have s7 : w4.cell? ⟨w.heap.size, 7, none⟩ = some (.int .i64 dr) := r0.cell 7
  go_wp2_with fail
  clear s0 s1 s2 s3 s4 s5 s6 s7
  refine (HT.out _).mono ?_
  rintro e w5 ⟨rfl, rfl⟩
  clear HT
  go_wp2
  go_ret
  exact ⟨by first | rfl | (rw [hR]; rfl) | (rw [← hR]; rfl), hB⟩
set_option maxRecDepth 100000 in
set_option maxHeartbeats 4000000 in
theorem specTenant_any (x : Option Addr) (c1 : Nat) (y : Option Addr) (c2 : Nat) (p : Option Addr) (c3 : Nat) (q : Option Addr) (c4 : Nat) (is : List If) (rs : List Rt) (now : Int) (key : ByteArray) (qu : Int) (ss : List Sn) (es : List Se) (dr : Int) (w : World) (h : IfsIn w x is ∧ RtsIn w y rs ∧ SnsIn w p ss ∧ SesIn w q es) (hc1 : is.length ≤ c1) (hk : key.size ≤ maxLen) (hx : ∀ s ∈ ss, s.tx.size ≤ 100000000) (hn : is.length ≤ 100000000 ∧ rs.length ≤ 100000000 ∧ ss.length ≤ 100000000 ∧ es.length ≤ 100000000) :
    Calls Tryz.prog 42 #[tenV x is.length c1 y rs.length c2 now key qu p ss.length c3 q es.length c4 dr] w fun e w' => e = .returned (.bool (tenB is rs now key qu ss es dr)) ∧ Below w.heap.size w w' := by
  have HI : Hid (∀ w, IfsIn w x is → RtsIn w y rs → Calls Tryz.prog 80 #[.agg #[.slice x is.length c1, .slice y rs.length c2, .int .i64 now]] w fun e w' => e = .returned (.bool (instB is rs now)) ∧ Below w.heap.size w w') := fun w a b => specInst_any x c1 y c2 is rs now w a hc1 b hn.1 hn.2.1
  have HK : Hid (∀ w, Calls Tryz.prog 81 #[.string key] w fun e w' => e = .returned (.bool (inKey key)) ∧ w = w') := fun w => specKey_any key w hk
  have HQ6 : Hid (∀ w, Calls Tryz.prog 43 #[.int .i64 qu, .int .i64 1, .int .i64 6] w fun e w' => e = .returned (.bool (decide (1 ≤ qu ∧ qu ≤ 6))) ∧ w = w') := fun w => l03Is_any qu 1 6 w
  have HF : Hid (∀ a w, Calls Tryz.prog 43 #[.int .i64 a, .int .i64 0, .int .i64 2] w fun e w' => e = .returned (.bool (decide (0 ≤ a ∧ a ≤ 2))) ∧ w = w') := fun a w => l03Is_any a 0 2 w
  have HE : Hid (∀ w, SesIn w q es → Calls Tryz.prog 82 #[.slice q es.length c4] w fun e w' => e = .returned (.bool (heardB es)) ∧ Below w.heap.size w w') := fun w a => specHeard_any q c4 es w a hn.2.2.2
  have HT : Hid (∀ w, Calls Tryz.prog 41 #[.int .i64 dr] w fun e w' => e = .returned (.bool (inTime dr)) ∧ w = w') := fun w => l03Time_any dr w
  have HX : Hid (IfsIn w x is ∧ RtsIn w y rs ∧ SnsIn w p ss ∧ SesIn w q es) := h
  have HR : Hid (tenB is rs now key qu ss es dr = (instB is rs now && (inKey key && (decide (1 ≤ qu ∧ qu ≤ 6) && (ringB ss qu && (heardB es && inTime dr)))))) := by show _ = _; unfold tenB; rw [Bool.decide_and, Bool.and_assoc]
  have HL : Hid (qu < (ss.length : Int) → ringB ss qu = false) := fun h => ringB_long (by omega)
  have HB1 : Hid (∀ k (hk : k < ss.length), snB ss[k] = false → ringB ss qu = false) := fun k hk h => ringB_bad hk h
  have HG : Hid ((ss.length : Int) ≤ qu → (∀ j (hj : j < ss.length), snB ss[j] = true) → ringB ss qu = true) := fun a b => ringB_good a b
  have HZ : Hid (∀ s ∈ ss, s.tx.size ≤ 100000000) := hx
  have hn3 := hn.2.2.1
  clear h hn hk hx hc1
  generalize tenB is rs now key qu ss es dr = RES at *
  generalize instB is rs now = B1 at *
  generalize inKey key = B2 at *
  generalize ringB ss qu = B3 at *
  generalize heardB es = B4 at *
  generalize inTime dr = B5 at *
  unfold tenV
  generalize is.length = n1 at *
  generalize rs.length = n2 at *
  generalize es.length = n4 at *
  have HQ : Hid _ := And.intro (Row.new w 55 [.slice x n1 c1, .slice y n2 c2, .int .i64 now, .string key, .int .i64 qu, .slice p ss.length c3, .slice q n4 c4, .int .i64 dr]) (ent_new0 w (.cells #[.slice x n1 c1, .slice y n2 c2, .int .i64 now, .string key, .int .i64 qu, .slice p ss.length c3, .slice q n4 c4, .int .i64 dr] 55))
  go_enter Tryz.func42, Tryz.ntmps42
  go_wp2_with fail
  obtain ⟨r0, hB⟩ := HQ.out
  clear HQ
  refine (HI.out _ (HX.out.1.below hB) (HX.out.2.1.below hB)).mono ?_
  rintro e w1 ⟨rfl, hb1⟩
  have r0 := r0.below hb1 r0.lt
  have hB := hB.trans (hb1.mono hB.size)
  clear hb1
  have hR := HR.out
  clear HR HI
  cases B1
  · simp only [Bool.false_and] at hR
    go_wp2
    go_ret
    exact ⟨by first | rfl | (rw [hR]; rfl) | (rw [← hR]; rfl), hB⟩
  rw [Bool.true_and] at hR
  have s0 : w1.cell? ⟨w.heap.size, 0, none⟩ = some (.slice x n1 c1) := r0.cell 0
  have s1 : w1.cell? ⟨w.heap.size, 1, none⟩ = some (.slice y n2 c2) := r0.cell 1
  have s2 : w1.cell? ⟨w.heap.size, 2, none⟩ = some (.int .i64 now) := r0.cell 2
  have s3 : w1.cell? ⟨w.heap.size, 3, none⟩ = some (.string key) := r0.cell 3
  have s4 : w1.cell? ⟨w.heap.size, 4, none⟩ = some (.int .i64 qu) := r0.cell 4
  have s5 : w1.cell? ⟨w.heap.size, 5, none⟩ = some (.slice p ss.length c3) := r0.cell 5
  have s6 : w1.cell? ⟨w.heap.size, 6, none⟩ = some (.slice q n4 c4) := r0.cell 6
  have s7 : w1.cell? ⟨w.heap.size, 7, none⟩ = some (.int .i64 dr) := r0.cell 7
  go_wp2_with fail
  clear s0 s1 s2 s3 s4 s5 s6 s7
  refine (HK.out _).mono ?_
  rintro e w2 ⟨rfl, rfl⟩
  clear HK
  cases B2
  · simp only [Bool.false_and] at hR
    go_wp2
    go_ret
    exact ⟨by first | rfl | (rw [hR]; rfl) | (rw [← hR]; rfl), hB⟩
  rw [Bool.true_and] at hR
  have s0 : w1.cell? ⟨w.heap.size, 0, none⟩ = some (.slice x n1 c1) := r0.cell 0
  have s1 : w1.cell? ⟨w.heap.size, 1, none⟩ = some (.slice y n2 c2) := r0.cell 1
  have s2 : w1.cell? ⟨w.heap.size, 2, none⟩ = some (.int .i64 now) := r0.cell 2
  have s3 : w1.cell? ⟨w.heap.size, 3, none⟩ = some (.string key) := r0.cell 3
  have s4 : w1.cell? ⟨w.heap.size, 4, none⟩ = some (.int .i64 qu) := r0.cell 4
  have s5 : w1.cell? ⟨w.heap.size, 5, none⟩ = some (.slice p ss.length c3) := r0.cell 5
  have s6 : w1.cell? ⟨w.heap.size, 6, none⟩ = some (.slice q n4 c4) := r0.cell 6
  have s7 : w1.cell? ⟨w.heap.size, 7, none⟩ = some (.int .i64 dr) := r0.cell 7
  go_wp2_with fail
  clear s0 s1 s2 s3 s4 s5 s6 s7
  refine (HQ6.out _).mono ?_
  rintro e w3 ⟨rfl, rfl⟩
  clear HQ6
  by_cases k1 : 1 ≤ qu ∧ qu ≤ 6
  case neg =>
    have d1 : decide (1 ≤ qu ∧ qu ≤ 6) = false := decide_eq_false k1
    rw [d1, Bool.false_and] at hR
    rw [d1]
    go_wp2
    go_ret
    exact ⟨by first | rfl | (rw [hR]; rfl) | (rw [← hR]; rfl), hB⟩
  have d1 : decide (1 ≤ qu ∧ qu ≤ 6) = true := decide_eq_true k1
  rw [d1, Bool.true_and] at hR
  rw [d1]
  have K1 : Hid _ := k1
  clear d1 k1
  have s0 : w1.cell? ⟨w.heap.size, 0, none⟩ = some (.slice x n1 c1) := r0.cell 0
  have s1 : w1.cell? ⟨w.heap.size, 1, none⟩ = some (.slice y n2 c2) := r0.cell 1
  have s2 : w1.cell? ⟨w.heap.size, 2, none⟩ = some (.int .i64 now) := r0.cell 2
  have s3 : w1.cell? ⟨w.heap.size, 3, none⟩ = some (.string key) := r0.cell 3
  have s4 : w1.cell? ⟨w.heap.size, 4, none⟩ = some (.int .i64 qu) := r0.cell 4
  have s5 : w1.cell? ⟨w.heap.size, 5, none⟩ = some (.slice p ss.length c3) := r0.cell 5
  have s6 : w1.cell? ⟨w.heap.size, 6, none⟩ = some (.slice q n4 c4) := r0.cell 6
  have s7 : w1.cell? ⟨w.heap.size, 7, none⟩ = some (.int .i64 dr) := r0.cell 7
  by_cases k2 : (ss.length : Int) ≤ qu
  case neg =>
    have d2 : decide (qu < (ss.length : Int)) = true := by simp; omega
    have hL := HL.out (by omega)
    subst hL
    simp only [Bool.false_and] at hR
    go_wp2
    go_ret
    exact ⟨by first | rfl | (rw [hR]; rfl) | (rw [← hR]; rfl), hB⟩
  have d2 : decide (qu < (ss.length : Int)) = false := by simp; omega
  have K2 : Hid ((ss.length : Int) ≤ qu) := k2
  clear k2
  go_wp2_with fail
  clear s0 s1 s2 s3 s4 s5 s6 s7 d2
  refine (HE.out _ (HX.out.2.2.2.below hB)).mono ?_
  rintro e w4 ⟨rfl, hb4⟩
  have r0 := r0.below hb4 r0.lt
  have hB := hB.trans (hb4.mono hB.size)
  clear hb4
  clear HE
  cases B4
  · simp only [Bool.false_and, Bool.and_false] at hR
    go_wp2
    go_ret
    exact ⟨by first | rfl | (rw [hR]; rfl) | (rw [← hR]; rfl), hB⟩
  rw [Bool.true_and] at hR
  have s0 : w4.cell? ⟨w.heap.size, 0, none⟩ = some (.slice x n1 c1) := r0.cell 0
  have s1 : w4.cell? ⟨w.heap.size, 1, none⟩ = some (.slice y n2 c2) := r0.cell 1
  have s2 : w4.cell? ⟨w.heap.size, 2, none⟩ = some (.int .i64 now) := r0.cell 2
  have s3 : w4.cell? ⟨w.heap.size, 3, none⟩ = some (.string key) := r0.cell 3
  have s4 : w4.cell? ⟨w.heap.size, 4, none⟩ = some (.int .i64 qu) := r0.cell 4
  have s5 : w4.cell? ⟨w.heap.size, 5, none⟩ = some (.slice p ss.length c3) := r0.cell 5
  have s6 : w4.cell? ⟨w.heap.size, 6, none⟩ = some (.slice q n4 c4) := r0.cell 6
  have s7 : w4.cell? ⟨w.heap.size, 7, none⟩ = some (.int .i64 dr) := r0.cell 7
  go_wp2_with fail
  clear s0 s1 s2 s3 s4 s5 s6 s7
  refine (HT.out _).mono ?_
  rintro e w5 ⟨rfl, rfl⟩
  clear HT
  cases B5
  · simp only [Bool.and_false] at hR
    go_wp2
    go_ret
    exact ⟨by first | rfl | (rw [hR]; rfl) | (rw [← hR]; rfl), hB⟩
  rw [Bool.and_true] at hR
  have HRR : Hid (RES = B3) := hR
  have HB4 : Hid _ := And.intro r0 hB
  clear hR r0 hB
  go_wp2_with fail
  go_loopw [3] (fun i wr => ∃ k : Nat, k ≤ ss.length ∧ i = .int .i64 k ∧ (∀ j (hj : j < ss.length), j < k → snB ss[j] = true) ∧ Row wr w.heap.size 55 [.slice x n1 c1, .slice y n2 c2, .int .i64 now, .string key, .int .i64 qu, .slice p ss.length c3, .slice q n4 c4, .int .i64 dr] ∧ Below w.heap.size w wr) (fun i _ => ss.length - (intOf i).toNat)
  case atStart => exact ⟨0, Nat.zero_le _, rfl, fun j _ hj => absurd hj (by omega), HB4.out.1, HB4.out.2⟩
  case round =>
    clear HB4
    obtain ⟨k, hk, rfl, ha, rk, hBk⟩ := hrel
    have s5 : wr.cell? ⟨w.heap.size, 5, none⟩ = some (.slice p ss.length c3) := rk.cell 5
    by_cases hlt : k < ss.length
    · have d1 : decide ((k : Int) < (ss.length : Int)) = true := by simpa using hlt
      obtain ⟨g, fc, tx, rfl, hg, hek, c0, c1⟩ := (HX.out.2.2.1.below hBk).at k hlt
      have hsz := HZ.out ss[k] (List.getElem_mem hlt)
      have HBad : Hid (snB ss[k] = false → B3 = false) := HB1.out k hlt
      have HNx : Hid (snB ss[k] = true → ∀ j (hj : j < ss.length), j < k + 1 → snB ss[j] = true) := fun h j hj hjk => by
        rcases Nat.lt_or_ge j k with h' | h'
        · exact ha j hj h'
        · obtain rfl : j = k := by omega
          exact h
      rw [hek] at HBad HNx hsz
      simp only at hsz
      have e1 : snB ⟨fc, tx⟩ = (decide (0 ≤ fc ∧ fc ≤ 2) && decide (tx.size ≤ 1000)) := rfl
      rw [e1] at HBad HNx
      have HBB : Hid _ := And.intro rk hBk
      have HFk : Hid (∀ w, Calls Tryz.prog 43 #[.int .i64 fc, .int .i64 0, .int .i64 2] w fun e w' => e = .returned (.bool (decide (0 ≤ fc ∧ fc ≤ 2))) ∧ w = w') := HF.out fc
      clear HB1 HG ha hek e1 rk hBk HF
      go_wp2_with fail
      refine (HFk.out _).mono ?_
      rintro e w2 ⟨rfl, rfl⟩
      cases hL : decide (0 ≤ fc ∧ fc ≤ 2)
      · have hR := HBad.out (by rw [hL]; rfl)
        have hR := HRR.out.trans hR
        clear hL HRR HBad
        go_wp2
        go_ret
        exact ⟨by first | rfl | (rw [hR]; rfl) | (rw [← hR]; rfl), HBB.out.2⟩
      · have hL2 : Hid _ := hL
        clear hL
        by_cases z4 : 1000 < tx.size
        · have z5 : decide (1000 < (tx.size : Int)) = true := by simp; omega
          have hR := HBad.out (by rw [decide_eq_false (show ¬ tx.size ≤ 1000 by omega), Bool.and_false])
          have hR := HRR.out.trans hR
          clear HRR HBad
          go_wp2
          go_ret
          exact ⟨by first | rfl | (rw [hR]; rfl) | (rw [← hR]; rfl), HBB.out.2⟩
        · have z5 : decide (1000 < (tx.size : Int)) = false := by simp; omega
          have HN := HNx.out (by rw [hL2.out, decide_eq_true (show tx.size ≤ 1000 by omega)]; rfl)
          have HNN : Hid _ := HN
          clear HN HNx HBad hL2
          go_wp2_with fail
          clear c0 c1 s5
          go_roundw
          case rel => exact ⟨k + 1, hlt, by go_num, HNN.out, HBB.out.1, HBB.out.2⟩
          case measure => simp [intOf]; omega
    · obtain rfl : k = ss.length := by omega
      have d1 : decide ((ss.length : Int) < (ss.length : Int)) = false := by simp
      have hR := HRR.out.trans (HG.out K2.out (fun j hj => ha j hj hj))
      clear hlt hk HB1 HG HX ha HRR
      go_wp2
      go_ret
      exact ⟨by first | rfl | (rw [hR]; rfl) | (rw [← hR]; rfl), hBk⟩
end Go.Proofs.YtialedffpaoacaaGreatDoor
/- The laws' own Leaks handed in: opened. (Written by gen_lk.py.) -/
namespace Go.Proofs.YtialedffpaoacaaGreatDoor
open Go.ChangeShapes Go.WideShapes Go.RowKit Go.Deep Go.WideElems Go.Maps Go.Joins

def lkL (f : Lk) : List Value := [.int .i64 f.fr, .int .i64 f.tt, .int .i64 f.a, .int .i64 f.l, .int .i64 f.ad, .int .i64 f.tg]
theorem array6k {α : Type} {cs : Array α} (h : cs.size = 6) : ∃ c0 c1 c2 c3 c4 c5, cs = #[c0, c1, c2, c3, c4, c5] := by
  obtain ⟨l⟩ := cs
  match l, h with
  | [c0, c1, c2, c3, c4, c5], _ => exact ⟨c0, c1, c2, c3, c4, c5, rfl⟩
/-- All six numbers of a Leak are of 64 bits. -/
def LkW (f : Lk) : Prop := (Lit.int .i64 f.fr).wf = true ∧ (Lit.int .i64 f.tt).wf = true ∧ (Lit.int .i64 f.a).wf = true ∧ (Lit.int .i64 f.l).wf = true ∧ (Lit.int .i64 f.ad).wf = true ∧ (Lit.int .i64 f.tg).wf = true
theorem Tryz.cellsLeak : Tryz.prog.cellsOf 117 = 6 := by kernel_rfl
theorem Tryz.cellsNetK : Tryz.prog.cellsOf 115 = 2 := by kernel_rfl
theorem Tryz.cellsIntK : Tryz.prog.cellsOf 2 = 1 := by kernel_rfl
section
variable {H : Type} {enc : TypeId × Value → H} {w : World} {base : Nat} {spare : Nat → Bool} {held : Bool}
set_option maxRecDepth 100000 in
theorem open_lk {fuel : Nat} {cs : List Value} {x : DataW H × List MemPlace} (h : DataW.trod enc Tryz.prog w base spare held fuel 117 cs = some x) : ∃ f : Lk, cs = lkL f ∧ LkW f := by
  obtain ⟨xs, n, _, _, hl, hx, hg⟩ := DataW.trod_struct Tryz.underlying117 h
  rw [Tryz.cellsLeak] at hl
  match cs, hl, xs, hx with
  | [c0, c1, c2, c3, c4, c5], _, [y0, y1, y2, y3, y4], _ =>
    have h0 : DataW.trod enc Tryz.prog w base spare held n 2 ((([c0, c1, c2, c3, c4, c5] : List Value).drop 0).take (Tryz.prog.cellsOf 2)) = [y0, y1, y2, y3, y4][0]? := hg 0 _ rfl
    rw [Tryz.cellsIntK] at h0
    replace h0 : DataW.trod enc Tryz.prog w base spare held n 2 [c0] = some y0 := h0
    have h1 : DataW.trod enc Tryz.prog w base spare held n 2 ((([c0, c1, c2, c3, c4, c5] : List Value).drop 1).take (Tryz.prog.cellsOf 2)) = [y0, y1, y2, y3, y4][1]? := hg 1 _ rfl
    rw [Tryz.cellsIntK] at h1
    replace h1 : DataW.trod enc Tryz.prog w base spare held n 2 [c1] = some y1 := h1
    have h2 : DataW.trod enc Tryz.prog w base spare held n 115 ((([c0, c1, c2, c3, c4, c5] : List Value).drop 2).take (Tryz.prog.cellsOf 115)) = [y0, y1, y2, y3, y4][2]? := hg 2 _ rfl
    rw [Tryz.cellsNetK] at h2
    replace h2 : DataW.trod enc Tryz.prog w base spare held n 115 [c2, c3] = some y2 := h2
    have h3 : DataW.trod enc Tryz.prog w base spare held n 2 ((([c0, c1, c2, c3, c4, c5] : List Value).drop 4).take (Tryz.prog.cellsOf 2)) = [y0, y1, y2, y3, y4][3]? := hg 3 _ rfl
    rw [Tryz.cellsIntK] at h3
    replace h3 : DataW.trod enc Tryz.prog w base spare held n 2 [c4] = some y3 := h3
    have h4 : DataW.trod enc Tryz.prog w base spare held n 2 ((([c0, c1, c2, c3, c4, c5] : List Value).drop 5).take (Tryz.prog.cellsOf 2)) = [y0, y1, y2, y3, y4][4]? := hg 4 _ rfl
    rw [Tryz.cellsIntK] at h4
    replace h4 : DataW.trod enc Tryz.prog w base spare held n 2 [c5] = some y4 := h4
    obtain ⟨zs, k, _, _, _, hz, hk⟩ := DataW.trod_struct Tryz.underlying115 h2
    match zs, hz with
    | [z0, z1], _ =>
      have k0 : DataW.trod enc Tryz.prog w base spare held k 2 ((([c2, c3] : List Value).drop 0).take (Tryz.prog.cellsOf 2)) = [z0, z1][0]? := hk 0 _ rfl
      rw [Tryz.cellsIntK] at k0
      replace k0 : DataW.trod enc Tryz.prog w base spare held k 2 [c2] = some z0 := k0
      have k1 : DataW.trod enc Tryz.prog w base spare held k 2 ((([c2, c3] : List Value).drop 1).take (Tryz.prog.cellsOf 2)) = [z0, z1][1]? := hk 1 _ rfl
      rw [Tryz.cellsIntK] at k1
      replace k1 : DataW.trod enc Tryz.prog w base spare held k 2 [c3] = some z1 := k1
      obtain ⟨fr, efr, _, wfr⟩ := DataW.trod_int Tryz.underlying2 h0
      obtain ⟨tt, ett, _, wtt⟩ := DataW.trod_int Tryz.underlying2 h1
      obtain ⟨a, ea, _, wa⟩ := DataW.trod_int Tryz.underlying2 k0
      obtain ⟨l, el, _, wl⟩ := DataW.trod_int Tryz.underlying2 k1
      obtain ⟨ad, ead, _, wad⟩ := DataW.trod_int Tryz.underlying2 h3
      obtain ⟨tg, etg, _, wtg⟩ := DataW.trod_int Tryz.underlying2 h4
      simp only [List.cons.injEq, and_true] at efr ett ea el ead etg
      subst efr ett ea el ead etg
      exact ⟨⟨fr, tt, a, l, ad, tg⟩, rfl, wfr, wtt, wa, wl, wad, wtg⟩
set_option maxRecDepth 100000 in
theorem open_lkV {r : Reach} {b0 : Nat} {v : Value} {d : DataW H} {p : List MemPlace} (hv : Value.okWide Tryz.prog w r b0 117 v) (h : DataW.Trod enc Tryz.prog w base spare held 117 v d p) :
    ∃ f : Lk, v = lkV f ∧ LkW f := by
  obtain ⟨cs, rfl, hsz⟩ := okWide_struct Tryz.underlying117 hv
  obtain ⟨c0, c1, c2, c3, c4, c5, rfl⟩ := array6k (hsz.trans Tryz.cellsLeak)
  obtain ⟨fuel, hf⟩ := h
  obtain ⟨f, he, hw⟩ := open_lk hf
  refine ⟨f, ?_, hw⟩
  simp only [Value.cells, lkL] at he
  simp only [List.cons.injEq, and_true] at he
  obtain ⟨rfl, rfl, rfl, rfl, rfl, rfl⟩ := he
  rfl
end
end Go.Proofs.YtialedffpaoacaaGreatDoor
/- Lists of Leaks in memory. (Written by gen_lks.py.) -/
namespace Go.Proofs.YtialedffpaoacaaGreatDoor
open Go.RowKit Go.Sort

def rowL (rs : List Lk) : List Value := rs.flatMap lkL
theorem lkL_length (r : Lk) : (lkL r).length = 6 := rfl
theorem rowL_length (rs : List Lk) : (rowL rs).length = 6 * rs.length := by
  induction rs with
  | nil => rfl
  | cons e es ih => simp only [rowL, List.flatMap_cons, List.length_append, List.length_cons] at ih ⊢; rw [ih, lkL_length]; omega
theorem rowL_append (a b : List Lk) : rowL (a ++ b) = rowL a ++ rowL b := by simp [rowL]
theorem rowL_cons (e : Lk) (es : List Lk) : rowL (e :: es) = lkL e ++ rowL es := rfl
theorem rowL_get (es : List Lk) (i k : Nat) (hi : i < es.length) (hk : k < 6) : (rowL es)[i * 6 + k]? = (lkL es[i])[k]? := by
  induction es generalizing i with
  | nil => simp at hi
  | cons e es ih =>
    rw [rowL_cons]
    match i with
    | 0 => rw [Nat.zero_mul, Nat.zero_add, List.getElem?_append_left (by rw [lkL_length]; omega)]; rfl
    | i + 1 =>
      rw [List.getElem?_append_right (by rw [lkL_length]; omega), lkL_length, show (i + 1) * 6 + k - 6 = i * 6 + k by omega, ih i (by simpa using hi)]
      rfl
theorem rowL_one (es : List Lk) : ∀ u ∈ rowL es, u.oneCell' = true := by
  intro u hu
  simp only [rowL, List.mem_flatMap, lkL, List.mem_cons, List.not_mem_nil, or_false] at hu
  obtain ⟨e, _, h⟩ := hu
  rcases h with h | h | h | h | h | h <;> (rw [h]; rfl)
/-- The slice (p, rs.length) holds the Leaks rs. -/
def LksIn (w : World) (p : Option Addr) (rs : List Lk) : Prop := rs = [] ∨ ∃ g, p = some ⟨g, 0, none⟩ ∧ g < w.heap.size ∧ ∀ j u, (rowL rs)[j]? = some u → w.cell? ⟨g, j, none⟩ = some u
theorem LksIn.below {w w' : World} {p : Option Addr} {rs : List Lk} (h : LksIn w p rs) (hb : Below w.heap.size w w') : LksIn w' p rs := by
  rcases h with h | ⟨g, hp, hg, hc⟩
  · exact .inl h
  · refine .inr ⟨g, hp, by have := hb.size; omega, fun j u hj => ?_⟩
    rw [hb.cell (p := ⟨g, j, none⟩) hg]
    exact hc j u hj
theorem LksIn.alloc {w : World} {p : Option Addr} {rs : List Lk} (h : LksIn w p rs) (o : Obj) : LksIn (w.alloc o) p rs := h.below (ent_new0 w o)
theorem LksIn.at {w : World} {p : Option Addr} {rs : List Lk} (h : LksIn w p rs) (i : Nat) (hi : i < rs.length) : ∃ g fr tt a l ad tg, p = some ⟨g, 0, none⟩ ∧ g < w.heap.size ∧ rs[i] = ⟨fr, tt, a, l, ad, tg⟩ ∧ w.cell? ⟨g, i * 6, none⟩ = some (.int .i64 fr) ∧ w.cell? ⟨g, i * 6 + 1, none⟩ = some (.int .i64 tt) ∧ w.cell? ⟨g, i * 6 + 2, none⟩ = some (.int .i64 a) ∧ w.cell? ⟨g, i * 6 + 3, none⟩ = some (.int .i64 l) ∧ w.cell? ⟨g, i * 6 + 4, none⟩ = some (.int .i64 ad) ∧ w.cell? ⟨g, i * 6 + 5, none⟩ = some (.int .i64 tg) := by
  rcases h with rfl | ⟨g, hp, hg, hc⟩
  · simp at hi
  · exact ⟨g, rs[i].fr, rs[i].tt, rs[i].a, rs[i].l, rs[i].ad, rs[i].tg, hp, hg, rfl, hc _ _ (rowL_get rs i 0 hi (by omega)), hc _ _ (rowL_get rs i 1 hi (by omega)), hc _ _ (rowL_get rs i 2 hi (by omega)), hc _ _ (rowL_get rs i 3 hi (by omega)), hc _ _ (rowL_get rs i 4 hi (by omega)), hc _ _ (rowL_get rs i 5 hi (by omega))⟩
theorem lksIn_row {w : World} {g : Nat} {t : TypeId} {rs : List Lk} (h : Row w g t (rowL rs)) : LksIn w (some ⟨g, 0, none⟩) rs := .inr ⟨g, rfl, h.lt, fun j _ hj => (h.cell j).trans hj⟩
end Go.Proofs.YtialedffpaoacaaGreatDoor
/- LeaksRight, of the program and of the model. (Written by gen_lksr.py.) -/
namespace Go.Proofs.YtialedffpaoacaaGreatDoor
open Go.RowKit Go.Sort

def lksB (rs : List Lk) : Bool := decide (rs.length ≤ 4) && rs.all lkB
theorem lksB_bad {rs : List Lk} {k : Nat} (hk : k < rs.length) (h : lkB rs[k] = false) : lksB rs = false := by
  unfold lksB
  have : rs.all lkB = false := by rw [List.all_eq_false]; exact ⟨rs[k], List.getElem_mem hk, by simp [h]⟩
  rw [this, Bool.and_false]
theorem lksB_good {rs : List Lk} (h4 : rs.length ≤ 4) (h : ∀ j (hj : j < rs.length), lkB rs[j] = true) : lksB rs = true := by
  unfold lksB
  have : rs.all lkB = true := by
    rw [List.all_eq_true]
    intro x hx
    obtain ⟨j, hj, rfl⟩ := List.mem_iff_getElem.1 hx
    exact h j hj
  rw [this, decide_eq_true h4]
  rfl
theorem lksB_long {rs : List Lk} (h4 : ¬ rs.length ≤ 4) : lksB rs = false := by
  unfold lksB
  rw [decide_eq_false h4]
  rfl
set_option maxRecDepth 100000 in
set_option maxHeartbeats 2000000 in
theorem implLeaks_any (p : Option Addr) (cap : Nat) (rs : List Lk) (w : World) (h : LksIn w p rs) (hn : rs.length ≤ 100000000) :
    Calls Tryz.prog 54 #[.slice p rs.length cap] w fun e w' => e = .returned (.bool (lksB rs)) ∧ Below w.heap.size w w' := by
  have HX : Hid (LksIn w p rs) := h
  have HE : Hid (∀ f w, Calls Tryz.prog 98 #[lkV f] w fun e w' => e = .returned (.bool (lkB f)) ∧ Below w.heap.size w w') := implLeak_any
  have HB1 : Hid (∀ k (hk : k < rs.length), lkB rs[k] = false → lksB rs = false) := fun k hk h => lksB_bad hk h
  have HG : Hid (rs.length ≤ 4 → (∀ j (hj : j < rs.length), lkB rs[j] = true) → lksB rs = true) := fun a b => lksB_good a b
  clear h
  by_cases h4 : rs.length ≤ 4
  case neg =>
    have hR := lksB_long h4
    have d0 : decide (4 < (rs.length : Int)) = true := by simp; omega
    clear HB1 HG HX HE
    go_enter Tryz.func54, Tryz.ntmps54
    go_wp2
    go_ret
    exact ⟨by rw [hR]; rfl, Below.refl _ _⟩
  have d0 : decide (4 < (rs.length : Int)) = false := by simp; omega
  go_enter Tryz.func54, Tryz.ntmps54
  go_wp2_with fail
  go_loopw [10] (fun i wr => ∃ k : Nat, k ≤ rs.length ∧ i = .int .i64 k ∧ (∀ j (hj : j < rs.length), j < k → lkB rs[j] = true) ∧ Below w.heap.size w wr) (fun i _ => rs.length - (intOf i).toNat)
  case atStart => exact ⟨0, Nat.zero_le _, rfl, fun j _ hj => absurd hj (by omega), Below.refl _ _⟩
  case round =>
    obtain ⟨k, hk, rfl, ha, hB⟩ := hrel
    by_cases hlt : k < rs.length
    · have d1 : decide ((k : Int) < (rs.length : Int)) = true := by simpa using hlt
      obtain ⟨g, fr, tt, a, l, ad, tg, rfl, hg, hek, c0, c1, c2, c3, c4, c5⟩ := (HX.out.below hB).at k hlt
      have HEk : Hid (∀ w, Calls Tryz.prog 98 #[.agg #[.int .i64 fr, .int .i64 tt, .int .i64 a, .int .i64 l, .int .i64 ad, .int .i64 tg]] w fun e w' => e = .returned (.bool (lkB ⟨fr, tt, a, l, ad, tg⟩)) ∧ Below w.heap.size w w') := HE.out ⟨fr, tt, a, l, ad, tg⟩
      have HBad : Hid (lkB rs[k] = false → lksB rs = false) := HB1.out k hlt
      have HNx : Hid (lkB rs[k] = true → ∀ j (hj : j < rs.length), j < k + 1 → lkB rs[j] = true) := fun h j hj hjk => by
        rcases Nat.lt_or_ge j k with h' | h'
        · exact ha j hj h'
        · obtain rfl : j = k := by omega
          exact h
      rw [hek] at HBad HNx
      have hB := hB.alloc hB.size (.cells #[.int .i64 fr, .int .i64 tt, .int .i64 a, .int .i64 l, .int .i64 ad, .int .i64 tg] 113)
      clear HB1 HG ha HE hek
      go_wp2_with fail
      clear c0 c1 c2 c3 c4 c5
      refine (HEk.out _).mono ?_
      rintro e w2 ⟨rfl, hb2⟩
      have hB := hB.trans (hb2.mono hB.size)
      clear hb2 HEk
      cases hL : lkB ⟨fr, tt, a, l, ad, tg⟩
      · have hR := HBad.out hL
        go_wp2
        go_ret
        exact ⟨by rw [hR]; rfl, hB⟩
      · go_wp2_with fail
        go_roundw
        case rel => exact ⟨k + 1, hlt, by go_num, HNx.out hL, hB⟩
        case measure => simp [intOf]; omega
    · obtain rfl : k = rs.length := by omega
      have d1 : decide ((rs.length : Int) < (rs.length : Int)) = false := by simp
      have hR := HG.out h4 (fun j hj => ha j hj hj)
      clear hlt hk HB1 HG HX ha
      go_wp2
      go_ret
      exact ⟨by rw [hR]; rfl, hB⟩
set_option maxRecDepth 100000 in
set_option maxHeartbeats 2000000 in
theorem specLeaks_any (p : Option Addr) (cap : Nat) (rs : List Lk) (w : World) (h : LksIn w p rs) (hn : rs.length ≤ 100000000) :
    Calls Tryz.prog 40 #[.slice p rs.length cap] w fun e w' => e = .returned (.bool (lksB rs)) ∧ Below w.heap.size w w' := by
  have HX : Hid (LksIn w p rs) := h
  have HE : Hid (∀ f w, Calls Tryz.prog 79 #[lkV f] w fun e w' => e = .returned (.bool (lkB f)) ∧ Below w.heap.size w w') := specLeak_any
  have HB1 : Hid (∀ k (hk : k < rs.length), lkB rs[k] = false → lksB rs = false) := fun k hk h => lksB_bad hk h
  have HG : Hid (rs.length ≤ 4 → (∀ j (hj : j < rs.length), lkB rs[j] = true) → lksB rs = true) := fun a b => lksB_good a b
  clear h
  go_enter Tryz.func40, Tryz.ntmps40
  go_wp2_with fail
  go_loopw [3] (fun i wr => ∃ k : Nat, k ≤ rs.length ∧ i = .int .i64 k ∧ (∀ j (hj : j < rs.length), j < k → lkB rs[j] = true) ∧ k ≤ 5 ∧ Below w.heap.size w wr) (fun i _ => rs.length - (intOf i).toNat)
  case atStart => exact ⟨0, Nat.zero_le _, rfl, fun j _ hj => absurd hj (by omega), by omega, Below.refl _ _⟩
  case round =>
    obtain ⟨k, hk, rfl, ha, h5, hB⟩ := hrel
    by_cases hlt : k < rs.length ∧ k ≤ 4
    · have d1 : decide ((k : Int) < (rs.length : Int)) = true := by simpa using hlt.1
      have d2 : decide ((k : Int) ≤ 4) = true := by simp; omega
      have hlt := hlt.1
      obtain ⟨g, fr, tt, a, l, ad, tg, rfl, hg, hek, c0, c1, c2, c3, c4, c5⟩ := (HX.out.below hB).at k hlt
      have HEk : Hid (∀ w, Calls Tryz.prog 79 #[.agg #[.int .i64 fr, .int .i64 tt, .int .i64 a, .int .i64 l, .int .i64 ad, .int .i64 tg]] w fun e w' => e = .returned (.bool (lkB ⟨fr, tt, a, l, ad, tg⟩)) ∧ Below w.heap.size w w') := HE.out ⟨fr, tt, a, l, ad, tg⟩
      have HBad : Hid (lkB rs[k] = false → lksB rs = false) := HB1.out k hlt
      have HNx : Hid (lkB rs[k] = true → ∀ j (hj : j < rs.length), j < k + 1 → lkB rs[j] = true) := fun h j hj hjk => by
        rcases Nat.lt_or_ge j k with h' | h'
        · exact ha j hj h'
        · obtain rfl : j = k := by omega
          exact h
      rw [hek] at HBad HNx
      clear HB1 HG ha HE hek
      go_wp2_with fail
      refine (HEk.out _).mono ?_
      rintro e w2 ⟨rfl, hb2⟩
      have hB := hB.trans (hb2.mono hB.size)
      clear hb2 HEk
      cases hL : lkB ⟨fr, tt, a, l, ad, tg⟩
      · have hR := HBad.out hL
        go_wp2
        go_ret
        exact ⟨by rw [hR]; rfl, hB⟩
      · go_wp2_with fail
        go_roundw
        case rel => exact ⟨k + 1, hlt, by go_num, HNx.out hL, by omega, hB⟩
        case measure => simp [intOf]; omega
    · have hR : lksB rs = decide (rs.length ≤ 4) := by
        by_cases h4 : rs.length ≤ 4
        · rw [decide_eq_true h4]
          exact HG.out h4 (fun j hj => ha j hj (by omega))
        · rw [decide_eq_false h4]
          exact lksB_long h4
      clear HB1 HG HX ha
      by_cases hk2 : k < rs.length
      · have d1 : decide ((k : Int) < (rs.length : Int)) = true := by simpa using hk2
        have d2 : decide ((k : Int) ≤ 4) = false := by simp; omega
        clear hlt hk
        go_wp2
        go_ret
        exact ⟨ret_bool (by rw [hR]; exact decide_eq_decide.2 (by omega)), hB⟩
      · have d1 : decide ((k : Int) < (rs.length : Int)) = false := by simp; omega
        clear hlt hk
        go_wp2
        go_ret
        exact ⟨ret_bool (by rw [hR]; exact decide_eq_decide.2 (by omega)), hB⟩
end Go.Proofs.YtialedffpaoacaaGreatDoor
/- Right boxes, in plain lists. (Written by gen_box.py.) -/
namespace Go.Proofs.YtialedffpaoacaaGreatDoor
open Go.RowKit Go.Sort

def tenT (t : Tn) : Bool := tenB t.is t.rs t.now t.key t.qu t.ss t.es t.dr
def tnOk (ts : List Tn) (t : Tn) : Bool := tenT t && decide (t.now = ts[0]!.now)
def tensB (ts : List Tn) : Bool := decide (1 ≤ ts.length) && (decide (ts.length ≤ 3) && ts.all (tnOk ts))
theorem tensB_few {ts : List Tn} (h : ¬ 1 ≤ ts.length) : tensB ts = false := by unfold tensB; rw [decide_eq_false h, Bool.false_and]
theorem tensB_many {ts : List Tn} (h : ¬ ts.length ≤ 3) : tensB ts = false := by unfold tensB; rw [decide_eq_false h, Bool.false_and, Bool.and_false]
theorem tensB_bad {ts : List Tn} {k : Nat} (hk : k < ts.length) (h : tnOk ts ts[k] = false) : tensB ts = false := by
  unfold tensB
  have : ts.all (tnOk ts) = false := by rw [List.all_eq_false]; exact ⟨ts[k], List.getElem_mem hk, by simp [h]⟩
  rw [this, Bool.and_false, Bool.and_false]
theorem tensB_good {ts : List Tn} (h1 : 1 ≤ ts.length) (h3 : ts.length ≤ 3) (h : ∀ j (hj : j < ts.length), tnOk ts ts[j] = true) : tensB ts = true := by
  unfold tensB
  have : ts.all (tnOk ts) = true := List.all_eq_true.2 fun x hx => by
    obtain ⟨j, hj, rfl⟩ := List.mem_iff_getElem.1 hx
    exact h j hj
  rw [this, decide_eq_true h1, decide_eq_true h3]
  rfl
/-- The tenant is there; so is its iface. -/
def inTn (ts : List Tn) (n : Int) : Bool := decide (0 ≤ n) && decide (n < (ts.length : Int))
def inFc (ts : List Tn) (n i : Int) : Bool := inTn ts n && (decide (0 ≤ i) && decide (i < ((ts[n.toNat]!).is.length : Int)))
def bdB (ts : List Tn) (b : Bd) : Bool := decide (0 ≤ b.po) && (decide (b.po ≤ 3) && (decide (1 ≤ b.vl) && (decide (b.vl ≤ 4094) && inFc ts b.tn b.ic)))
def bdLt (a b : Bd) : Bool := decide (a.po < b.po ∨ a.po = b.po ∧ a.vl < b.vl)
def bdUp (l : List Bd) (k : Nat) : Bool := decide (k = 0) || bdLt l[k - 1]! l[k]!
def bindsB (ts : List Tn) (l : List Bd) : Bool := decide (l.length ≤ 9) && ((List.range l.length).all fun k => bdB ts l[k]! && bdUp l k)
theorem bindsB_bad {ts : List Tn} {l : List Bd} {k : Nat} (hk : k < l.length) (h : (bdB ts l[k]! && bdUp l k) = false) : bindsB ts l = false := by
  unfold bindsB
  have : ((List.range l.length).all fun k => bdB ts l[k]! && bdUp l k) = false := by rw [List.all_eq_false]; exact ⟨k, List.mem_range.2 hk, by rw [h]; simp⟩
  rw [this, Bool.and_false]
theorem bindsB_good {ts : List Tn} {l : List Bd} (h9 : l.length ≤ 9) (h : ∀ j, j < l.length → (bdB ts l[j]! && bdUp l j) = true) : bindsB ts l = true := by
  unfold bindsB
  have : ((List.range l.length).all fun k => bdB ts l[k]! && bdUp l k) = true := List.all_eq_true.2 fun x hx => h x (List.mem_range.1 hx)
  rw [this, Bool.and_true]
  exact decide_eq_true h9
theorem bindsB_long {ts : List Tn} {l : List Bd} (h9 : ¬ l.length ≤ 9) : bindsB ts l = false := by unfold bindsB; rw [decide_eq_false h9, Bool.false_and]
def boxB (ts : List Tn) (bs : List Bd) (ls : List Lk) (lost : Int) : Bool := tensB ts && (bindsB ts bs && (lksB ls && inTime lost))
theorem tn_at {ps : List TnP} {k : Nat} {a : Tp} {t : Tn} (hk : k < ps.length) (h : ps[k] = (a, t)) : (ps.map (·.2))[k]! = t := by
  rw [getElem!_pos _ k (by simpa using hk), List.getElem_map, h]
theorem tn_at' {ps : List TnP} {k : Nat} {a : Tp} {t : Tn} (hk : k < ps.length) (h : ps[k] = (a, t)) : (ps.map (·.2))[k]'(by simpa using hk) = t := by rw [List.getElem_map, h]
theorem get_bangB (l : List Bd) (k : Nat) (hk : k < l.length) : l[k]! = l[k] := getElem!_pos l k hk
/-- No list of it is longer than a machine bears. -/
def TnM (t : Tn) : Prop := (t.is.length ≤ 100000000 ∧ t.rs.length ≤ 100000000 ∧ t.ss.length ≤ 100000000 ∧ t.es.length ≤ 100000000) ∧ t.key.size ≤ maxLen ∧ (∀ s ∈ t.ss, s.tx.size ≤ 100000000)
/-- Its ifaces' list is no longer than its room. -/
def TpC (a : Tp) (t : Tn) : Prop := t.is.length ≤ a.c1
end Go.Proofs.YtialedffpaoacaaGreatDoor
/- Ifaces appended to a list of the call's own; owned lists of Ifaces. (Written by gen_near.py.) -/
namespace Go.Proofs.YtialedffpaoacaaGreatDoor
open Go.RowKit Go.Sort

theorem ownsI_none {w : World} {base : Nat} {v : Value} {n : Nat} {xs : List Value} (h : w.ownsRow base 72 5 v n xs) (ty : TypeId) : (Builtin.append_ #[46, 46] ty #[v, .slice none 0 0]).run Tryz.prog w = .ok v w := by
  obtain ⟨i0, hi0, _, _, _⟩ := info_parts Tryz.infoI
  exact run_append_owned_none w base _ ty 72 i0 5 Tryz.underlying46 hi0 v n xs h
theorem run_append_ifs (w : World) (base : Nat) (v : Value) (ls ms : List If) (q : Option Addr) (c : Nat) (ty : TypeId) (hown : w.ownsRow base 72 5 v ls.length (rowI ls)) (hq0 : q = none → ms = [] ∧ c = 0)
    (hq : ∀ ad, q = some ad → ∀ j u, (rowI ms)[j]? = some u → w.cell? (ad.add j) = some u) (hlen : ls.length + ms.length ≤ 1000000000) (hbase : base ≤ w.heap.size) :
    ∃ v' w', (Builtin.append_ #[46, 46] ty #[v, .slice q ms.length c]).run Tryz.prog w = .ok v' w' ∧ w'.ownsRow base 72 5 v' (ls ++ ms).length (rowI (ls ++ ms)) ∧ Below base w w' := by
  obtain ⟨i0, hi0, hz0, hz1, hz2⟩ := info_parts Tryz.infoI
  cases q with
  | none =>
    obtain ⟨rfl, rfl⟩ := hq0 rfl
    exact ⟨v, w, ownsI_none hown ty, by rw [List.append_nil]; exact hown, Below.refl _ _⟩
  | some ad =>
    obtain ⟨v', w', hr, h2, h3, _⟩ := run_append_own (P := Tryz.prog) w base _ ty 72 i0 _ 5 40 Tryz.underlying46 hi0 hz0 hz1 hz2 rfl (by decide) v ls.length (rowI ls) hown ad ms.length c (rowI ms) (by rw [rowI_length]; omega) (hq ad rfl) (rowI_one ms) (by unfold maxLen; omega) (by omega) hbase
    refine ⟨v', w', hr, ?_, (Below.refl base w).grown h3 hbase fun k hk => (World.ownsRow.lt hown k hk).1⟩
    rw [List.length_append, rowI_append]
    exact h2
theorem ifsIn_none {w : World} {p : Option Addr} {rs : List If} (h : IfsIn w p rs) : p = none → rs = [] := by
  rintro rfl
  rcases h with h | ⟨g, e, _⟩
  · exact h
  · cases e
theorem ownsI_shape {w : World} {base n : Nat} {v : Value} {xs : List Value} (h : w.ownsRow base 72 5 v n xs) : ∃ q c, v = .slice q n c := by
  rcases h.2 with ⟨h1, h2⟩ | ⟨g, cap, cur, h1, _⟩
  · exact ⟨none, 0, by rw [h1, h2]⟩
  · exact ⟨_, _, h1⟩
theorem ownsI_below {w w' : World} {base n : Nat} {v : Value} {xs : List Value} (h : w.ownsRow base 72 5 v n xs) (hb : Below w.heap.size w w') : w'.ownsRow base 72 5 v n xs :=
  World.ownsRow.kept h (row := none) ⟨hb.os, hb.tape, hb.output, hb.size, fun k hk _ => hb.block k hk⟩ (by cases v.ownBlock <;> simp)
theorem ownsI_mono {w : World} {base base' n : Nat} {v : Value} {xs : List Value} (h : w.ownsRow base 72 5 v n xs) (hb : base' ≤ base) : w.ownsRow base' 72 5 v n xs := by
  rcases h.2 with ⟨h1, h2⟩ | ⟨g, cap, cur, h1, h2, h3, h4, h5, h6, h7⟩
  · exact ⟨h.1, .inl ⟨h1, h2⟩⟩
  · exact ⟨h.1, .inr ⟨g, cap, cur, h1, by omega, h3, h4, h5, h6, h7⟩⟩
theorem ownsI_opened {w : World} {base : Nat} {p : Option Addr} {cv : Nat} {es : List If} (h : w.ownsRow base 72 5 (.slice p es.length cv) es.length (rowI es)) : es = [] ∨ ∃ g rest, p = some ⟨g, 0, none⟩ ∧ base ≤ g ∧ es.length ≤ cv ∧ cv ≤ maxLen ∧ Row w g 72 (rowI es ++ rest) ∧ (rowI es ++ rest).length = cv * 5 := by
  rcases h.2 with ⟨_, h2⟩ | ⟨g, cap, cur, h1, h2, h3, h4, h5, h6, h7⟩
  · exact .inl (List.length_eq_zero_iff.1 h2)
  · simp only [Value.slice.injEq] at h1
    obtain ⟨rfl, -, rfl⟩ := h1
    refine .inr ⟨g, cur.toList.drop (es.length * 5), rfl, h2, h4, h5, ?_, ?_⟩
    · unfold Row
      rw [← h7, List.take_append_drop]
      simpa using h3
    · rw [← h7, List.take_append_drop]
      simpa using h6
theorem ownsI_shut {w : World} {base g n cv : Nat} {es : List If} {rest : List Value} (hn : n = es.length) (hb : base ≤ g) (h4 : n ≤ cv) (h5 : cv ≤ maxLen) (hr : Row w g 72 (rowI es ++ rest)) (hl : (rowI es ++ rest).length = cv * 5) : w.ownsRow base 72 5 (.slice (some ⟨g, 0, none⟩) n cv) n (rowI es) := by
  subst hn
  refine ⟨by rw [rowI_length]; omega, .inr ⟨g, cv, (rowI es ++ rest).toArray, rfl, hb, hr, h4, h5, by simpa using hl, ?_⟩⟩
  simp only [List.take_append_of_le_length (show es.length * 5 ≤ (rowI es).length by rw [rowI_length]; omega)]
  rw [List.take_of_length_le (by rw [rowI_length]; omega)]
theorem ifsIn_rest {w : World} {g : Nat} {t : TypeId} {es : List If} {rest : List Value} (h : Row w g t (rowI es ++ rest)) : IfsIn w (some ⟨g, 0, none⟩) es := .inr ⟨g, rfl, h.lt, fun j u hj => by rw [h.cell, List.getElem?_append_left (List.getElem?_eq_some_iff.1 hj).1]; exact hj⟩
theorem ownsI_in {w : World} {base : Nat} {p : Option Addr} {n cv : Nat} {es : List If} (hn : n = es.length) (h : w.ownsRow base 72 5 (.slice p n cv) n (rowI es)) : IfsIn w p es := by
  subst hn
  rcases ownsI_opened h with h0 | ⟨g, rest, rfl, -, -, -, hr, -⟩
  · exact .inl h0
  · exact ifsIn_rest hr
end Go.Proofs.YtialedffpaoacaaGreatDoor
/- Routes appended to a list of the call's own; a list of routes cut. -/
namespace Go.Proofs.YtialedffpaoacaaGreatDoor
open Go.RowKit Go.Sort

theorem ownsR_none {w : World} {base : Nat} {v : Value} {n : Nat} {xs : List Value} (h : w.ownsRow base 144 9 v n xs) (ty : TypeId) : (Builtin.append_ #[47, 47] ty #[v, .slice none 0 0]).run Tryz.prog w = .ok v w := by
  obtain ⟨i0, hi0, _, _, _⟩ := info_parts Tryz.infoR
  exact run_append_owned_none w base _ ty 144 i0 9 Tryz.underlying47 hi0 v n xs h
/-- 'append(v, x...)' of routes. -/
theorem run_append_rts (w : World) (base : Nat) (v : Value) (ls ms : List Rt) (q : Option Addr) (c : Nat) (ty : TypeId) (hown : w.ownsRow base 144 9 v ls.length (rowR ls)) (hq0 : q = none → ms = [] ∧ c = 0)
    (hq : ∀ ad, q = some ad → ∀ j u, (rowR ms)[j]? = some u → w.cell? (ad.add j) = some u) (hlen : ls.length + ms.length ≤ 1000000000) (hbase : base ≤ w.heap.size) :
    ∃ v' w', (Builtin.append_ #[47, 47] ty #[v, .slice q ms.length c]).run Tryz.prog w = .ok v' w' ∧ w'.ownsRow base 144 9 v' (ls ++ ms).length (rowR (ls ++ ms)) ∧ Below base w w' := by
  obtain ⟨i0, hi0, hz0, hz1, hz2⟩ := info_parts Tryz.infoR
  cases q with
  | none =>
    obtain ⟨rfl, rfl⟩ := hq0 rfl
    exact ⟨v, w, ownsR_none hown ty, by rw [List.append_nil]; exact hown, Below.refl _ _⟩
  | some ad =>
    obtain ⟨v', w', hr, h2, h3, _⟩ := run_append_own (P := Tryz.prog) w base _ ty 144 i0 _ 9 72 Tryz.underlying47 hi0 hz0 hz1 hz2 rfl (by decide) v ls.length (rowR ls) hown ad ms.length c (rowR ms) (by rw [rowR_length]; omega) (hq ad rfl) (rowR_one ms) (by unfold maxLen; omega) (by omega) hbase
    refine ⟨v', w', hr, ?_, (Below.refl base w).grown h3 hbase fun k hk => (World.ownsRow.lt hown k hk).1⟩
    rw [List.length_append, rowR_append]
    exact h2
theorem wpList_append_runs {P : Program} {w : World} {ops : Array Oper} {rest : List Oper} {o : Oper} {a : Act} {Q : Exit → Act → World → Prop} (hgd : o.guard = none) (s x : Operand) (t : TypeId)
    (ho : o.op = .call { callee := .builtin .append, args := #[s, x], argTypes := #[t, t] }) (vs vx : Value) (hs : a.eval s = vs) (hx : a.eval x = vx)
    {v' : Value} {w' : World} (hr : (Builtin.append_ #[t, t] o.type #[vs, vx]).run P w = .ok v' w') (h : wpList P ops Q rest (a.put o.dst v') w') : wpList P ops Q (o :: rest) a w := by
  refine wpList_plain hgd fun K hK => ?_
  unfold Oper.wp execOp
  simp only [ho, resolve, invoke, builtin, Sem.run_bind, Sem.run_pure, Result.andThen_ok, List.map_toArray, List.map_cons, List.map_nil, hs, hx, hr]
  exact hK _ _ h
theorem addR (g o j : Nat) : (⟨g, o, none⟩ : Addr).add j = ⟨g, o + j, none⟩ := by unfold Addr.add; split <;> simp_all
/-- Where the part of a list behind k begins. -/
def fromR (p : Option Addr) (cap k : Nat) : Option Addr := if cap = k then p else p.map (·.add (k * 9))
theorem sliceR_upto (p : Option Addr) (n cap k : Nat) (x : Int) (hx : x = k) (hk : k ≤ cap) (w : World) : (Instr.slice 47 (.slice p n cap) none (some (.int .i64 x)) none).run Tryz.prog w = .ok (.slice (fromR p cap 0) k cap) w := by
  subst hx
  have hb := run_sliceBound (P := Tryz.prog) w .i64 (k : Int) cap .sliceAcap (by omega) (by omega)
  unfold Instr.slice Instr.sliceBounds
  simp [Sem.run_bind, run_underlying Tryz.underlying47, hb, fromR]
theorem sliceR_from (p : Option Addr) (n cap k : Nat) (x : Int) (hx : x = k) (hk : k ≤ n) (w : World) : (Instr.slice 47 (.slice p n cap) (some (.int .i64 x)) none none).run Tryz.prog w = .ok (.slice (fromR p cap k) (n - k) (cap - k)) w := by
  subst hx
  have hb := run_sliceBound (P := Tryz.prog) w .i64 (k : Int) n .sliceB (by omega) (by omega)
  unfold Instr.slice Instr.sliceBounds
  simp [Sem.run_bind, run_underlying Tryz.underlying47, hb, fromR]
theorem fromR_none {p : Option Addr} {cap k : Nat} {rs : List Rt} (hc : p = none → cap = 0) (h : p = none → rs = []) : fromR p cap k = none → rs.drop k = [] ∧ cap - k = 0 := by
  intro e
  have hp : p = none := by
    unfold fromR at e
    split at e
    · exact e
    · simpa using e
  have := hc hp
  exact ⟨by rw [h hp]; simp, by omega⟩
theorem rtsIn_none {w : World} {p : Option Addr} {rs : List Rt} (h : RtsIn w p rs) : p = none → rs = [] := by
  rintro rfl
  rcases h with h | ⟨g, e, _⟩
  · exact h
  · cases e
theorem fromR_cells {w : World} {p : Option Addr} {cap k : Nat} {rs : List Rt} (h : RtsIn w p rs) (hl : rs.length ≤ cap) : ∀ ad, fromR p cap k = some ad → ∀ j u, (rowR (rs.drop k))[j]? = some u → w.cell? (ad.add j) = some u := by
  intro ad e j u hj
  rcases h with rfl | ⟨g, rfl, hg, hc⟩
  · simp [rowR] at hj
  · have hj9 : j < 9 * (rs.length - k) := by
      have := (List.getElem?_eq_some_iff.1 hj).1
      rw [rowR_length, List.length_drop] at this
      exact this
    unfold fromR at e
    rw [if_neg (by omega)] at e
    simp only [Option.map_some, Option.some.injEq] at e
    subst e
    have ea : ((⟨g, 0, none⟩ : Addr).add (k * 9)).add j = ⟨g, k * 9 + j, none⟩ := by rw [addR, addR, Nat.zero_add]
    rw [ea]
    refine hc _ _ ?_
    rw [← hj, ← List.take_append_drop k rs, rowR_append, List.take_append_drop, List.getElem?_append_right (by rw [rowR_length, List.length_take]; omega), rowR_length, List.length_take]
    congr 1
    omega
theorem fromR_upto {w : World} {p : Option Addr} {cap k : Nat} {rs : List Rt} (h : RtsIn w p rs) : ∀ ad, fromR p cap 0 = some ad → ∀ j u, (rowR (rs.take k))[j]? = some u → w.cell? (ad.add j) = some u := by
  intro ad e j u hj
  rcases h with rfl | ⟨g, rfl, hg, hc⟩
  · simp [rowR] at hj
  · have e' : ad = ⟨g, 0, none⟩ := by
      unfold fromR at e
      split at e
      · simpa using e.symm
      · simp only [Option.map_some, Option.some.injEq] at e
        rw [← e]; unfold Addr.add; split <;> simp_all
    subst e'
    have ea : (⟨g, 0, none⟩ : Addr).add j = ⟨g, j, none⟩ := by unfold Addr.add; split <;> simp_all
    rw [ea]
    refine hc _ _ ?_
    rw [← hj, ← List.take_append_drop k rs, rowR_append, List.take_append_drop]
    rw [List.getElem?_append_left (List.getElem?_eq_some_iff.1 hj).1]
end Go.Proofs.YtialedffpaoacaaGreatDoor
/- Lists of Routes that are one's own. (From gen_markr.py's MarkR and OwnRb.) -/
namespace Go.Proofs.YtialedffpaoacaaGreatDoor
open Go.RowKit Go.Sort

theorem ownsR_opened {w : World} {base : Nat} {p : Option Addr} {cv : Nat} {es : List Rt} (h : w.ownsRow base 144 9 (.slice p es.length cv) es.length (rowR es)) : es = [] ∨ ∃ g rest, p = some ⟨g, 0, none⟩ ∧ base ≤ g ∧ es.length ≤ cv ∧ cv ≤ maxLen ∧ Row w g 144 (rowR es ++ rest) ∧ (rowR es ++ rest).length = cv * 9 := by
  rcases h.2 with ⟨h1, h2⟩ | ⟨g, cap, cur, h1, h2, h3, h4, h5, h6, h7⟩
  · exact .inl (List.length_eq_zero_iff.1 h2)
  · simp only [Value.slice.injEq] at h1
    obtain ⟨rfl, _, rfl⟩ := h1
    refine .inr ⟨g, cur.toList.drop (es.length * 9), rfl, h2, h4, h5, ?_, ?_⟩
    · unfold Row
      rw [← h7, List.take_append_drop]
      exact h3
    · rw [← h7, List.take_append_drop]; simpa using h6
theorem ownsR_shut {w : World} {base g n cv : Nat} {es : List Rt} {rest : List Value} (hn : n = es.length) (hb : base ≤ g) (h4 : n ≤ cv) (h5 : cv ≤ maxLen) (hr : Row w g 144 (rowR es ++ rest)) (hl : (rowR es ++ rest).length = cv * 9) : w.ownsRow base 144 9 (.slice (some ⟨g, 0, none⟩) n cv) n (rowR es) := by
  subst hn
  exact ⟨by rw [rowR_length]; omega, .inr ⟨g, cv, _, rfl, hb, hr, h4, h5, by simpa using hl, by
    have : (rowR es).length = es.length * 9 := by rw [rowR_length]; omega
    simp only
    rw [← this]; simp⟩⟩
theorem rtsIn_rest {w : World} {g : Nat} {t : TypeId} {es : List Rt} {rest : List Value} (h : Row w g t (rowR es ++ rest)) : RtsIn w (some ⟨g, 0, none⟩) es := .inr ⟨g, rfl, h.lt, fun j u hj => by rw [h.cell, List.getElem?_append_left (List.getElem?_eq_some_iff.1 hj).1]; exact hj⟩

theorem ownsR_in {w : World} {base : Nat} {p : Option Addr} {n cv : Nat} {es : List Rt} (hn : n = es.length) (h : w.ownsRow base 144 9 (.slice p n cv) n (rowR es)) : RtsIn w p es := by
  subst hn
  rcases ownsR_opened h with h0 | ⟨g, rest, rfl, -, -, -, hr, -⟩
  · exact .inl h0
  · exact rtsIn_rest hr
theorem ownsR_row {w : World} {g n : Nat} {es : List Rt} (hn : n = es.length) (h8 : n ≤ 100000000) (h : Row w g 144 (rowR es)) : w.ownsRow g 144 9 (.slice (some ⟨g, 0, none⟩) n n) n (rowR es) := ownsR_shut (rest := []) hn (Nat.le_refl _) (Nat.le_refl _) (by unfold maxLen; omega) (by rw [List.append_nil]; exact h) (by rw [List.append_nil, rowR_length, hn]; omega)
theorem ownsR_kept {w w' : World} {base : Nat} {p : Option Addr} {n cv : Nat} {es : List Rt} (hn : n = es.length) (h : w.ownsRow base 144 9 (.slice p n cv) n (rowR es)) (hk : ∀ b t l, p = some ⟨b, 0, none⟩ → Row w b t l → Row w' b t l) : w'.ownsRow base 144 9 (.slice p n cv) n (rowR es) := by
  subst hn
  rcases ownsR_opened h with h0 | ⟨g, rest, rfl, h1, h2, h3, hr, hl⟩
  · subst h0
    rcases h.2 with ⟨e1, e2⟩ | ⟨g, cap, cur, e1, e2, e3, e4, e5, e6, e7⟩
    · exact ⟨rfl, .inl ⟨e1, e2⟩⟩
    · simp only [Value.slice.injEq] at e1
      obtain ⟨rfl, -, rfl⟩ := e1
      have := hk g 144 cur.toList rfl (by unfold Row; simpa using e3)
      exact ⟨rfl, .inr ⟨g, _, cur, rfl, e2, by unfold Row at this; simpa using this, e4, e5, e6, e7⟩⟩
  · exact ownsR_shut rfl h1 h2 h3 (hk _ _ _ rfl hr) hl
theorem ownsR_below {w w' : World} {base n : Nat} {v : Value} {xs : List Value} (h : w.ownsRow base 144 9 v n xs) (hb : Below w.heap.size w w') : w'.ownsRow base 144 9 v n xs :=
  World.ownsRow.kept h (row := none) ⟨hb.os, hb.tape, hb.output, hb.size, fun k hk _ => hb.block k hk⟩ (by cases v.ownBlock <;> simp)
theorem ownsR_mono {w : World} {base base' n : Nat} {v : Value} {xs : List Value} (h : w.ownsRow base 144 9 v n xs) (hb : base' ≤ base) : w.ownsRow base' 144 9 v n xs := by
  rcases h.2 with ⟨h1, h2⟩ | ⟨g, cap, cur, h1, h2, h3, h4, h5, h6, h7⟩
  · exact ⟨h.1, .inl ⟨h1, h2⟩⟩
  · exact ⟨h.1, .inr ⟨g, cap, cur, h1, by omega, h3, h4, h5, h6, h7⟩⟩
theorem ownsR_ne {w : World} {base n cv g : Nat} {p : Option Addr} {xs l : List Value} {t : TypeId} (h : w.ownsRow base 144 9 (.slice p n cv) n xs) (hr : Row w g t l) (ht : t ≠ 144) : p ≠ some ⟨g, 0, none⟩ := by
  rintro rfl
  rcases h.2 with ⟨h1, _⟩ | ⟨g', cap, cur, h1, _, h3, _⟩
  · simp at h1
  · simp only [Value.slice.injEq, Option.some.injEq, Addr.mk.injEq, and_true] at h1
    obtain ⟨rfl, _⟩ := h1
    unfold Row at hr
    rw [h3] at hr
    simp only [Option.some.injEq, Obj.cells.injEq] at hr
    exact ht hr.2.1.symm
theorem ownsR_base {w : World} {base n cv g : Nat} {p : Option Addr} {xs : List Value} (h : w.ownsRow base 144 9 (.slice p n cv) n xs) (hg : g < base) : p ≠ some ⟨g, 0, none⟩ := by
  rintro rfl
  have := (World.ownsRow.lt h g rfl).1
  omega
theorem ownsR_size {w : World} {base n cv g : Nat} {p : Option Addr} {xs : List Value} (h : w.ownsRow base 144 9 (.slice p n cv) n xs) (hg : w.heap.size ≤ g) : p ≠ some ⟨g, 0, none⟩ := by
  rintro rfl
  have := (World.ownsRow.lt h g rfl).2
  omega
theorem row_ne {w : World} {g k : Nat} {l m : List Value} {t u : TypeId} (h : Row w g t l) (hk : Row w k u m) (ht : t ≠ u) : g ≠ k := by
  rintro rfl
  unfold Row at h hk
  rw [h] at hk
  simp only [Option.some.injEq, Obj.cells.injEq] at hk
  exact ht hk.2.1
end Go.Proofs.YtialedffpaoacaaGreatDoor
/- tenantsRight of the program. (Written by gen_box.py.) -/
namespace Go.Proofs.YtialedffpaoacaaGreatDoor
open Go.RowKit Go.Sort

set_option maxRecDepth 100000 in
set_option maxHeartbeats 4000000 in
theorem tenantsRight_any (p : Option Addr) (cap : Nat) (ps : List TnP) (w : World) (h : TensIn w p ps) (hn : ps.length ≤ 100000000) (hm : ∀ e ∈ ps, TnM e.2 ∧ TpC e.1 e.2) :
    Calls Tryz.prog 52 #[.slice p ps.length cap] w fun e w' => e = .returned (.bool (tensB (ps.map (·.2)))) ∧ Below w.heap.size w w' := by
  have HX : Hid (TensIn w p ps) := h
  have HM : Hid (∀ e ∈ ps, TnM e.2 ∧ TpC e.1 e.2) := hm
  have HL1 : Hid (¬ 1 ≤ ps.length → tensB (ps.map (·.2)) = false) := fun h => tensB_few (by simpa using h)
  have HL3 : Hid (¬ ps.length ≤ 3 → tensB (ps.map (·.2)) = false) := fun h => tensB_many (by simpa using h)
  have HB1 : Hid (∀ k (hk : k < (ps.map (·.2)).length), tnOk (ps.map (·.2)) (ps.map (·.2))[k] = false → tensB (ps.map (·.2)) = false) := fun k hk h => tensB_bad hk h
  have HG : Hid (1 ≤ ps.length → ps.length ≤ 3 → (∀ j (hj : j < (ps.map (·.2)).length), tnOk (ps.map (·.2)) (ps.map (·.2))[j] = true) → tensB (ps.map (·.2)) = true) := fun a b c => tensB_good (by simpa using a) (by simpa using b) c
  clear h hm
  generalize tensB (ps.map (·.2)) = RES at *
  by_cases h1 : 1 ≤ ps.length
  case neg =>
    have d1 : decide ((ps.length : Int) < 1) = true := by simp; omega
    have hR := HL1.out h1
    clear HX HM HL1 HL3 HB1 HG
    go_enter Tryz.func52, Tryz.ntmps52
    go_wp2
    go_ret
    exact ⟨by first | rfl | (rw [hR]; rfl), Below.refl _ _⟩
  have d1 : decide ((ps.length : Int) < 1) = false := by simp; omega
  by_cases h3 : ps.length ≤ 3
  case neg =>
    have d3 : decide (3 < (ps.length : Int)) = true := by simp; omega
    have hR := HL3.out h3
    clear HX HM HL1 HL3 HB1 HG
    go_enter Tryz.func52, Tryz.ntmps52
    go_wp2
    go_ret
    exact ⟨by first | rfl | (rw [hR]; rfl), Below.refl _ _⟩
  have d3 : decide (3 < (ps.length : Int)) = false := by simp; omega
  go_enter Tryz.func52, Tryz.ntmps52
  go_wp2_with fail
  clear d1 d3
  go_loopw [15] (fun i wr => ∃ k : Nat, k ≤ ps.length ∧ i = .int .i64 k ∧ (∀ j (hj : j < (ps.map (·.2)).length), j < k → tnOk (ps.map (·.2)) (ps.map (·.2))[j] = true) ∧ Below w.heap.size w wr) (fun i _ => ps.length - (intOf i).toNat)
  case atStart => exact ⟨0, Nat.zero_le _, rfl, fun j _ hj => absurd hj (by omega), Below.refl _ _⟩
  case round =>
    obtain ⟨k, hk, rfl, ha, hB⟩ := hrel
    by_cases hlt : k < ps.length
    · have dk : decide ((k : Int) < (ps.length : Int)) = true := by simpa using hlt
      have d00 : decide ((0 : Int) < (ps.length : Int)) = true := by simp; omega
      have d01 : 0 < ps.length := by omega
      obtain ⟨g, a, t, rfl, hg, hek, hI, c0, c1, c2, c3, c4, c5, c6, c7⟩ := (HX.out.below hB).at k hlt
      obtain ⟨g', a0, t0, e', hg', hek0, hI0, -, -, d2, -, -, -, -, -⟩ := (HX.out.below hB).at 0 (by omega)
      cases e'
      have d2 : wr.cell? ⟨g, 2, none⟩ = some (.int .i64 t0.now) := by simpa using d2
      have hM := HM.out _ (List.getElem_mem hlt)
      rw [hek] at hM
      have hlm : k < (ps.map (·.2)).length := by simpa using hlt
      have HBad : Hid (tnOk (ps.map (·.2)) t = false → RES = false) := fun h => HB1.out k hlm (by rw [tn_at' hlt hek]; exact h)
      have HNx : Hid (tnOk (ps.map (·.2)) t = true → ∀ j (hj : j < (ps.map (·.2)).length), j < k + 1 → tnOk (ps.map (·.2)) (ps.map (·.2))[j] = true) := fun h j hj hjk => by
        rcases Nat.lt_or_ge j k with h' | h'
        · exact ha j hj h'
        · obtain rfl : j = k := by omega
          rw [tn_at' hlt hek]; exact h
      have HOk : Hid (tnOk (ps.map (·.2)) t = (tenT t && decide (t.now = t0.now))) := by show _ = _; unfold tnOk; rw [tn_at (by omega) hek0]
      have HC : Hid (∀ d os, Calls Tryz.prog 94 #[.agg #[.slice a.x t.is.length a.c1, .slice a.y t.rs.length a.c2, .int .i64 t.now, .string t.key, .int .i64 t.qu, .slice a.p t.ss.length a.c3, .slice a.q t.es.length a.c4, .int .i64 t.dr]] (grow (redrawn (wr.alloc (.cells #[.slice a.x t.is.length a.c1, .slice a.y t.rs.length a.c2, .int .i64 t.now, .string t.key, .int .i64 t.qu, .slice a.p t.ss.length a.c3, .slice a.q t.es.length a.c4, .int .i64 t.dr] 55)) d) os) fun e w'' => e = .returned (.bool (tenT t)) ∧ ∃ p : Regrown, w'' = grow (redrawn (wr.alloc (.cells #[.slice a.x t.is.length a.c1, .slice a.y t.rs.length a.c2, .int .i64 t.now, .string t.key, .int .i64 t.qu, .slice a.p t.ss.length a.c3, .slice a.q t.es.length a.c4, .int .i64 t.dr] 55)) p.d) p.os) := fun d os => Calls.regrown_of (implTenant_any a.x a.c1 a.y a.c2 a.p a.c3 a.q a.c4 t.is t.rs t.now t.key t.qu t.ss t.es t.dr _ ((hI.alloc _).below (below_regrown _ d os)) hM.2 hM.1.2.1 hM.1.2.2 hM.1.1)
      clear HB1 HG HL1 HL3 ha hek hek0 hI hI0 hM HX HM hlm
      generalize tnOk (ps.map (·.2)) t = OK at *
      generalize tenT t = TB at *
      generalize t0.now = n0 at *
      generalize a.x = ax at *
      generalize a.y = ay at *
      generalize a.p = ap at *
      generalize a.q = aq at *
      generalize a.c1 = ac1 at *
      generalize a.c2 = ac2 at *
      generalize a.c3 = ac3 at *
      generalize a.c4 = ac4 at *
      generalize t.is.length = tn1 at *
      generalize t.rs.length = tn2 at *
      generalize t.ss.length = tn3 at *
      generalize t.es.length = tn4 at *
      generalize t.now = tw at *
      generalize t.key = tk at *
      generalize t.qu = tq at *
      generalize t.dr = td at *
      have r0 := Row.new wr 55 [.slice ax tn1 ac1, .slice ay tn2 ac2, .int .i64 tw, .string tk, .int .i64 tq, .slice ap tn3 ac3, .slice aq tn4 ac4, .int .i64 td]
      have e2 : (wr.alloc (.cells #[.slice ax tn1 ac1, .slice ay tn2 ac2, .int .i64 tw, .string tk, .int .i64 tq, .slice ap tn3 ac3, .slice aq tn4 ac4, .int .i64 td] 55)).cell? ⟨g, 2, none⟩ = some (.int .i64 n0) := by rw [(ent_new0 wr (.cells #[.slice ax tn1 ac1, .slice ay tn2 ac2, .int .i64 tw, .string tk, .int .i64 tq, .slice ap tn3 ac3, .slice aq tn4 ac4, .int .i64 td] 55)).cell (p := ⟨g, 2, none⟩) hg]; exact d2
      have hB := hB.alloc hB.size (.cells #[.slice ax tn1 ac1, .slice ay tn2 ac2, .int .i64 tw, .string tk, .int .i64 tq, .slice ap tn3 ac3, .slice aq tn4 ac4, .int .i64 td] 55)
      have y0 : (wr.alloc (.cells #[.slice ax tn1 ac1, .slice ay tn2 ac2, .int .i64 tw, .string tk, .int .i64 tq, .slice ap tn3 ac3, .slice aq tn4 ac4, .int .i64 td] 55)).cell? ⟨wr.heap.size, 0, none⟩ = some (.slice ax tn1 ac1) := r0.cell 0
      have y1 : (wr.alloc (.cells #[.slice ax tn1 ac1, .slice ay tn2 ac2, .int .i64 tw, .string tk, .int .i64 tq, .slice ap tn3 ac3, .slice aq tn4 ac4, .int .i64 td] 55)).cell? ⟨wr.heap.size, 1, none⟩ = some (.slice ay tn2 ac2) := r0.cell 1
      have y2 : (wr.alloc (.cells #[.slice ax tn1 ac1, .slice ay tn2 ac2, .int .i64 tw, .string tk, .int .i64 tq, .slice ap tn3 ac3, .slice aq tn4 ac4, .int .i64 td] 55)).cell? ⟨wr.heap.size, 2, none⟩ = some (.int .i64 tw) := r0.cell 2
      have y3 : (wr.alloc (.cells #[.slice ax tn1 ac1, .slice ay tn2 ac2, .int .i64 tw, .string tk, .int .i64 tq, .slice ap tn3 ac3, .slice aq tn4 ac4, .int .i64 td] 55)).cell? ⟨wr.heap.size, 3, none⟩ = some (.string tk) := r0.cell 3
      have y4 : (wr.alloc (.cells #[.slice ax tn1 ac1, .slice ay tn2 ac2, .int .i64 tw, .string tk, .int .i64 tq, .slice ap tn3 ac3, .slice aq tn4 ac4, .int .i64 td] 55)).cell? ⟨wr.heap.size, 4, none⟩ = some (.int .i64 tq) := r0.cell 4
      have y5 : (wr.alloc (.cells #[.slice ax tn1 ac1, .slice ay tn2 ac2, .int .i64 tw, .string tk, .int .i64 tq, .slice ap tn3 ac3, .slice aq tn4 ac4, .int .i64 td] 55)).cell? ⟨wr.heap.size, 5, none⟩ = some (.slice ap tn3 ac3) := r0.cell 5
      have y6 : (wr.alloc (.cells #[.slice ax tn1 ac1, .slice ay tn2 ac2, .int .i64 tw, .string tk, .int .i64 tq, .slice ap tn3 ac3, .slice aq tn4 ac4, .int .i64 td] 55)).cell? ⟨wr.heap.size, 6, none⟩ = some (.slice aq tn4 ac4) := r0.cell 6
      have y7 : (wr.alloc (.cells #[.slice ax tn1 ac1, .slice ay tn2 ac2, .int .i64 tw, .string tk, .int .i64 tq, .slice ap tn3 ac3, .slice aq tn4 ac4, .int .i64 td] 55)).cell? ⟨wr.heap.size, 7, none⟩ = some (.int .i64 td) := r0.cell 7
      have HA : Hid _ := And.intro e2 (And.intro hB (And.intro HC.out r0))
      clear e2 hB HC r0 d2
      go_wp2_with fail
      generalize hbx : wr.heap.size = bx at *
      generalize wr.alloc (.cells #[.slice ax tn1 ac1, .slice ay tn2 ac2, .int .i64 tw, .string tk, .int .i64 tq, .slice ap tn3 ac3, .slice aq tn4 ac4, .int .i64 td] 55) = W at *
      obtain ⟨e2, hB, HC', -⟩ := HA.out
      have HC : Hid _ := HC'
      clear HA hbx HC' c0 c1 c2 c3 c4 c5 c6 c7
      replace y0 := cell_regrown y0
      replace y1 := cell_regrown y1
      replace y2 := cell_regrown y2
      replace y3 := cell_regrown y3
      replace y4 := cell_regrown y4
      replace y5 := cell_regrown y5
      replace y6 := cell_regrown y6
      replace y7 := cell_regrown y7
      replace e2 := cell_regrown e2
      cases TB
      · have hR := HBad.out (by rw [HOk.out]; rfl)
        clear HBad HNx HOk
        refine wp_region_quiet_below (by kernel_rfl) (by kernel_rfl) ?_
        repeat (go_big_quiet_step ((go_at_call 94; exact HC.out _ _)))
        refine wpQuiet_nil ?_
        intro w1 hw'
        obtain ⟨⟨dq, osq⟩, hw''⟩ := hw'
        have hbq := below_regrown W dq osq
        rw [← hw''] at hbq
        clear hw'' osq dq
        clear e2 y0 y1 y2 y3 y4 y5 y6 y7 HC
        have hB := hB.trans (hbq.mono hB.size)
        clear hbq
        go_wp2
        go_ret
        exact ⟨by first | rfl | (rw [hR]; rfl), hB⟩
      by_cases hz : tw = n0
      · have dz : (tw != n0) = false := by simp [hz]
        have HN : Hid _ := HNx.out (by rw [HOk.out, decide_eq_true hz]; rfl)
        clear HBad HNx HOk hz
        refine wp_region_quiet_below (by kernel_rfl) (by kernel_rfl) ?_
        repeat (go_big_quiet_step ((go_at_call 94; exact HC.out _ _)))
        refine wpQuiet_nil ?_
        intro w1 hw'
        obtain ⟨⟨dq, osq⟩, hw''⟩ := hw'
        have hbq := below_regrown W dq osq
        rw [← hw''] at hbq
        clear hw'' osq dq
        clear e2 y0 y1 y2 y3 y4 y5 y6 y7 HC
        have HB : Hid _ := hB.trans (hbq.mono hB.size)
        clear hbq hB
        go_wp2
        go_roundw
        case rel => exact ⟨k + 1, hlt, by go_num, HN.out, HB.out⟩
        case measure => simp [intOf]; omega
      · have dz : (tw != n0) = true := bne_iff_ne.2 hz
        have hR := HBad.out (by rw [HOk.out, decide_eq_false hz]; rfl)
        clear HBad HNx HOk hz
        refine wp_region_quiet_below (by kernel_rfl) (by kernel_rfl) ?_
        repeat (go_big_quiet_step ((go_at_call 94; exact HC.out _ _)))
        refine wpQuiet_nil ?_
        intro w1 hw'
        obtain ⟨⟨dq, osq⟩, hw''⟩ := hw'
        have hbq := below_regrown W dq osq
        rw [← hw''] at hbq
        clear hw'' osq dq
        clear e2 y0 y1 y2 y3 y4 y5 y6 y7 HC
        have hB := hB.trans (hbq.mono hB.size)
        clear hbq
        go_wp2
        go_ret
        exact ⟨by first | rfl | (rw [hR]; rfl), hB⟩
    · have dk : decide ((k : Int) < (ps.length : Int)) = false := by simpa using hlt
      have hR := HG.out h1 h3 (fun j hj => ha j hj (by simp at hj; omega))
      clear HX HM HL1 HL3 HB1 HG ha
      go_wp2
      go_ret
      exact ⟨by first | rfl | (rw [hR]; rfl), hB⟩
end Go.Proofs.YtialedffpaoacaaGreatDoor
/- Whether a box has what a request is asked of, of the program. (Written by gen_box.py.) -/
namespace Go.Proofs.YtialedffpaoacaaGreatDoor
open Go.RowKit Go.Sort

set_option maxRecDepth 100000 in
set_option maxHeartbeats 4000000 in
theorem fitsT_any (n : Int) (p : Option Addr) (nt cap : Nat) (pb : Option Addr) (nb cb : Nat) (pl : Option Addr) (nl cl : Nat) (lost : Int) (w : World) (_hn : nt ≤ 100000000) :
    Calls Tryz.prog 56 #[.agg #[.int .i64 n], .agg #[.slice p nt cap, .slice pb nb cb, .slice pl nl cl, .int .i64 lost]] w fun e w' => e = .returned (.bool (decide (0 ≤ n) && decide (n < (nt : Int)))) ∧ Below w.heap.size w w' := by
  by_cases h1 : 0 ≤ n
  · have d1 : decide (0 ≤ n) = true := by simpa using h1
    rw [d1, Bool.true_and]
    have HB : Hid (Below w.heap.size w ((w.alloc (.cells #[.int .i64 n] 60)).alloc (.cells #[.slice p nt cap, .slice pb nb cb, .slice pl nl cl, .int .i64 lost] 33))) := (ent_new0 w _).alloc (by simp) _
    generalize hD : decide (n < (nt : Int)) = D
    go_enter Tryz.func56, Tryz.ntmps56
    go_wp2
    go_ret
    exact ⟨rfl, HB.out⟩
  · have d1 : decide (0 ≤ n) = false := by simpa using h1
    rw [d1, Bool.false_and]
    have HB : Hid (Below w.heap.size w ((w.alloc (.cells #[.int .i64 n] 60)).alloc (.cells #[.slice p nt cap, .slice pb nb cb, .slice pl nl cl, .int .i64 lost] 33))) := (ent_new0 w _).alloc (by simp) _
    go_enter Tryz.func56, Tryz.ntmps56
    go_wp2
    go_ret
    exact ⟨rfl, HB.out⟩
set_option maxRecDepth 100000 in
set_option maxHeartbeats 4000000 in
theorem fitsI_any (n i : Int) (p : Option Addr) (cap : Nat) (ps : List TnP) (pb : Option Addr) (nb cb : Nat) (pl : Option Addr) (nl cl : Nat) (lost : Int) (w : World) (h : TensIn w p ps) (hn : ps.length ≤ 100000000) :
    Calls Tryz.prog 25 #[.agg #[.int .i64 n, .int .i64 i], .agg #[.slice p ps.length cap, .slice pb nb cb, .slice pl nl cl, .int .i64 lost]] w fun e w' => e = .returned (.bool (inFc (ps.map (·.2)) n i)) ∧ Below w.heap.size w w' := by
  have HC : Hid (∀ w, Calls Tryz.prog 56 #[.agg #[.int .i64 n], .agg #[.slice p ps.length cap, .slice pb nb cb, .slice pl nl cl, .int .i64 lost]] w fun e w' => e = .returned (.bool (decide (0 ≤ n) && decide (n < (ps.length : Int)))) ∧ Below w.heap.size w w') := fun w => fitsT_any n p ps.length cap pb nb cb pl nl cl lost w hn
  have HR : Hid (inFc (ps.map (·.2)) n i = ((decide (0 ≤ n) && decide (n < (ps.length : Int))) && (decide (0 ≤ i) && decide (i < (((ps.map (fun x : TnP => x.2))[n.toNat]!).is.length : Int))))) := by show _ = _; unfold inFc inTn; rw [List.length_map]
  generalize inFc (ps.map (·.2)) n i = RES at *
  have q0 := (Row.new w 62 [.int .i64 n, .int .i64 i]).alloc (.cells #[.slice p ps.length cap, .slice pb nb cb, .slice pl nl cl, .int .i64 lost] 33)
  have q1 := Row.new (w.alloc (.cells #[.int .i64 n, .int .i64 i] 62)) 33 [.slice p ps.length cap, .slice pb nb cb, .slice pl nl cl, .int .i64 lost]
  rw [show (w.alloc (.cells #[.int .i64 n, .int .i64 i] 62)).heap.size = w.heap.size + 1 by simp] at q1
  have hB : Below w.heap.size w ((w.alloc (.cells #[.int .i64 n, .int .i64 i] 62)).alloc (.cells #[.slice p ps.length cap, .slice pb nb cb, .slice pl nl cl, .int .i64 lost] 33)) := (ent_new0 w _).alloc (by simp) _
  have HX : Hid (TensIn w p ps) := h
  have HQ : Hid _ := And.intro q0 (And.intro q1 hB)
  clear q0 q1 hB h
  go_enter Tryz.func25, Tryz.ntmps25
  go_wp2_with fail
  obtain ⟨q0, q1, hB⟩ := HQ.out
  have hX := HX.out.below hB
  clear HQ HX
  generalize ((w.alloc (.cells #[.int .i64 n, .int .i64 i] 62)).alloc (.cells #[.slice p ps.length cap, .slice pb nb cb, .slice pl nl cl, .int .i64 lost] 33)) = W at *
  have s0 : W.cell? ⟨w.heap.size, 0, none⟩ = some (.int .i64 n) := q0.cell 0
  have s1 : W.cell? ⟨w.heap.size, 1, none⟩ = some (.int .i64 i) := q0.cell 1
  have t0 : W.cell? ⟨w.heap.size + 1, 0, none⟩ = some (.slice p ps.length cap) := q1.cell 0
  have t1 : W.cell? ⟨w.heap.size + 1, 1, none⟩ = some (.slice pb nb cb) := q1.cell 1
  have t2 : W.cell? ⟨w.heap.size + 1, 2, none⟩ = some (.slice pl nl cl) := q1.cell 2
  have t3 : W.cell? ⟨w.heap.size + 1, 3, none⟩ = some (.int .i64 lost) := q1.cell 3
  have HB : Hid _ := hB
  have HCr : Hid (∀ d os, Calls Tryz.prog 56 #[.agg #[.int .i64 n], .agg #[.slice p ps.length cap, .slice pb nb cb, .slice pl nl cl, .int .i64 lost]] (grow (redrawn W d) os) fun e w'' => e = .returned (.bool (decide (0 ≤ n) && decide (n < (ps.length : Int)))) ∧ ∃ p : Regrown, w'' = grow (redrawn W p.d) p.os) := fun d os => Calls.regrown_of (HC.out _)
  have hR := HR.out
  clear q0 q1 hB HC HR
  replace s0 := cell_regrown s0
  replace s1 := cell_regrown s1
  replace t0 := cell_regrown t0
  replace t1 := cell_regrown t1
  replace t2 := cell_regrown t2
  replace t3 := cell_regrown t3
  by_cases h1 : 0 ≤ n ∧ n < (ps.length : Int)
  case neg =>
    have dn : (decide (0 ≤ n) && decide (n < (ps.length : Int))) = false := by rw [← Bool.decide_and]; exact decide_eq_false h1
    rw [dn] at HCr
    rw [dn, Bool.false_and] at hR
    clear hX h1 dn
    refine wp_region_quiet_below (by kernel_rfl) (by kernel_rfl) ?_
    repeat (go_big_quiet_step ((go_at_call 56; exact HCr.out _ _)))
    refine wpQuiet_nil ?_
    intro w1 hw'
    obtain ⟨⟨dq, osq⟩, hw''⟩ := hw'
    have hbq := below_regrown W dq osq
    rw [← hw''] at hbq
    clear hw'' osq dq
    clear s0 s1 t0 t1 t2 t3 HCr
    have hB := HB.out.trans (hbq.mono HB.out.size)
    clear hbq HB
    go_wp2
    go_ret
    exact ⟨by first | rfl | (rw [hR]; rfl), hB⟩
  have dn : (decide (0 ≤ n) && decide (n < (ps.length : Int))) = true := by rw [← Bool.decide_and]; exact decide_eq_true h1
  rw [dn] at HCr
  rw [dn, Bool.true_and] at hR
  obtain ⟨m, rfl⟩ : ∃ m : Nat, n = (m : Int) := ⟨n.toNat, by omega⟩
  have hm : m < ps.length := by omega
  obtain ⟨g, a, t, rfl, hg, hek, -, c0, -, -, -, -, -, -, -⟩ := hX.at m hm
  rw [Int.toNat_natCast, tn_at hm hek] at hR
  have dm : decide ((m : Int) < (ps.length : Int)) = true := by simpa using hm
  clear h1 dn hX hek
  generalize t.is.length = tn1 at *
  generalize a.x = ax at *
  generalize a.c1 = ac1 at *
  replace c0 := cell_regrown c0
  by_cases h2 : 0 ≤ i
  case neg =>
    have d2 : decide (0 ≤ i) = false := by simpa using h2
    rw [d2, Bool.false_and] at hR
    refine wp_region_quiet_below (by kernel_rfl) (by kernel_rfl) ?_
    repeat (go_big_quiet_step ((go_at_call 56; exact HCr.out _ _)))
    refine wpQuiet_nil ?_
    intro w1 hw'
    obtain ⟨⟨dq, osq⟩, hw''⟩ := hw'
    have hbq := below_regrown W dq osq
    rw [← hw''] at hbq
    clear hw'' osq dq
    clear c0 s0 s1 t0 t1 t2 t3 HCr
    have hB := HB.out.trans (hbq.mono HB.out.size)
    clear hbq HB
    go_wp2
    go_ret
    exact ⟨by first | rfl | (rw [hR]; rfl), hB⟩
  have d2 : decide (0 ≤ i) = true := by simpa using h2
  rw [d2, Bool.true_and] at hR
  by_cases h3 : i < (tn1 : Int)
  · have d3 : decide (i < (tn1 : Int)) = true := by simpa using h3
    rw [d3] at hR
    refine wp_region_quiet_below (by kernel_rfl) (by kernel_rfl) ?_
    repeat (go_big_quiet_step ((go_at_call 56; exact HCr.out _ _)))
    refine wpQuiet_nil ?_
    intro w1 hw'
    obtain ⟨⟨dq, osq⟩, hw''⟩ := hw'
    have hbq := below_regrown W dq osq
    rw [← hw''] at hbq
    clear hw'' osq dq
    clear c0 s0 s1 t0 t1 t2 t3 HCr
    have hB := HB.out.trans (hbq.mono HB.out.size)
    clear hbq HB
    go_wp2
    go_ret
    exact ⟨by first | rfl | (rw [hR]; rfl), hB⟩
  · have d3 : decide (i < (tn1 : Int)) = false := by simpa using h3
    rw [d3] at hR
    refine wp_region_quiet_below (by kernel_rfl) (by kernel_rfl) ?_
    repeat (go_big_quiet_step ((go_at_call 56; exact HCr.out _ _)))
    refine wpQuiet_nil ?_
    intro w1 hw'
    obtain ⟨⟨dq, osq⟩, hw''⟩ := hw'
    have hbq := below_regrown W dq osq
    rw [← hw''] at hbq
    clear hw'' osq dq
    clear c0 s0 s1 t0 t1 t2 t3 HCr
    have hB := HB.out.trans (hbq.mono HB.out.size)
    clear hbq HB
    go_wp2
    go_ret
    exact ⟨by first | rfl | (rw [hR]; rfl), hB⟩
set_option maxRecDepth 100000 in
set_option maxHeartbeats 4000000 in
theorem bindRight_any (po vl tn ic : Int) (p : Option Addr) (cap : Nat) (ps : List TnP) (pb : Option Addr) (nb cb : Nat) (pl : Option Addr) (nl cl : Nat) (lost : Int) (w : World) (h : TensIn w p ps) (hn : ps.length ≤ 100000000) :
    Calls Tryz.prog 95 #[.agg #[.int .i64 po, .int .i64 vl, .int .i64 tn, .int .i64 ic], .agg #[.slice p ps.length cap, .slice pb nb cb, .slice pl nl cl, .int .i64 lost]] w fun e w' => e = .returned (.bool (bdB (ps.map (·.2)) ⟨po, vl, tn, ic⟩)) ∧ Below w.heap.size w w' := by
  have HC : Hid (∀ w, TensIn w p ps → Calls Tryz.prog 25 #[.agg #[.int .i64 tn, .int .i64 ic], .agg #[.slice p ps.length cap, .slice pb nb cb, .slice pl nl cl, .int .i64 lost]] w fun e w' => e = .returned (.bool (inFc (ps.map (·.2)) tn ic)) ∧ Below w.heap.size w w') := fun w h => fitsI_any tn ic p cap ps pb nb cb pl nl cl lost w h hn
  have HR : Hid (bdB (ps.map (·.2)) ⟨po, vl, tn, ic⟩ = (decide (0 ≤ po) && (decide (po ≤ 3) && (decide (1 ≤ vl) && (decide (vl ≤ 4094) && inFc (ps.map (·.2)) tn ic))))) := rfl
  generalize bdB (ps.map (·.2)) ⟨po, vl, tn, ic⟩ = RES at *
  generalize inFc (ps.map (·.2)) tn ic = FC at *
  have HX : Hid (TensIn w p ps) := h
  have q0 := (Row.new w 77 [.int .i64 po, .int .i64 vl, .int .i64 tn, .int .i64 ic]).alloc (.cells #[.slice p ps.length cap, .slice pb nb cb, .slice pl nl cl, .int .i64 lost] 33)
  have q1 := Row.new (w.alloc (.cells #[.int .i64 po, .int .i64 vl, .int .i64 tn, .int .i64 ic] 77)) 33 [.slice p ps.length cap, .slice pb nb cb, .slice pl nl cl, .int .i64 lost]
  rw [show (w.alloc (.cells #[.int .i64 po, .int .i64 vl, .int .i64 tn, .int .i64 ic] 77)).heap.size = w.heap.size + 1 by simp] at q1
  have hB : Below w.heap.size w ((w.alloc (.cells #[.int .i64 po, .int .i64 vl, .int .i64 tn, .int .i64 ic] 77)).alloc (.cells #[.slice p ps.length cap, .slice pb nb cb, .slice pl nl cl, .int .i64 lost] 33)) := (ent_new0 w _).alloc (by simp) _
  have hB := hB.alloc hB.size (.cells #[.int .i64 tn, .int .i64 ic] 62)
  have HQ : Hid _ := hB
  have hR := HR.out
  clear q0 q1 hB h HR
  by_cases h1 : 0 ≤ po
  case neg =>
    have d1 : decide (0 ≤ po) = false := by simpa using h1
    rw [d1, Bool.false_and] at hR
    go_enter Tryz.func95, Tryz.ntmps95
    go_wp2
    go_ret
    exact ⟨by first | rfl | (rw [hR]; rfl), HQ.out⟩
  have d1 : decide (0 ≤ po) = true := by simpa using h1
  rw [d1, Bool.true_and] at hR
  by_cases h2 : po ≤ 3
  case neg =>
    have d2 : decide (po ≤ 3) = false := by simpa using h2
    rw [d2, Bool.false_and] at hR
    go_enter Tryz.func95, Tryz.ntmps95
    go_wp2
    go_ret
    exact ⟨by first | rfl | (rw [hR]; rfl), HQ.out⟩
  have d2 : decide (po ≤ 3) = true := by simpa using h2
  rw [d2, Bool.true_and] at hR
  by_cases h3 : 1 ≤ vl
  case neg =>
    have d3 : decide (1 ≤ vl) = false := by simpa using h3
    rw [d3, Bool.false_and] at hR
    go_enter Tryz.func95, Tryz.ntmps95
    go_wp2
    go_ret
    exact ⟨by first | rfl | (rw [hR]; rfl), HQ.out⟩
  have d3 : decide (1 ≤ vl) = true := by simpa using h3
  rw [d3, Bool.true_and] at hR
  by_cases h4 : vl ≤ 4094
  case neg =>
    have d4 : decide (vl ≤ 4094) = false := by simpa using h4
    rw [d4, Bool.false_and] at hR
    go_enter Tryz.func95, Tryz.ntmps95
    go_wp2
    go_ret
    exact ⟨by first | rfl | (rw [hR]; rfl), HQ.out⟩
  have d4 : decide (vl ≤ 4094) = true := by simpa using h4
  rw [d4, Bool.true_and] at hR
  go_enter Tryz.func95, Tryz.ntmps95
  go_wp2_with fail
  refine (HC.out _ (HX.out.below HQ.out)).mono ?_
  rintro e w1 ⟨rfl, hb1⟩
  have hB := HQ.out.trans (hb1.mono HQ.out.size)
  clear hb1 HC HQ HX
  go_wp2
  go_ret
  exact ⟨by first | rfl | (rw [hR]; rfl), hB⟩
end Go.Proofs.YtialedffpaoacaaGreatDoor
/- Binds rise, of the program. (Written by gen_box.py.) -/
namespace Go.Proofs.YtialedffpaoacaaGreatDoor
open Go.RowKit Go.Sort

theorem stab_two (c d : Int) : ∀ (v : Value) (w1 w2 : World), (∃ g, v = .slice (some ⟨g, 0, none⟩) 2 2 ∧ Row w1 g 3 [.int .i64 c, .int .i64 d]) → Below w1.heap.size w1 w2 → ∃ g, v = .slice (some ⟨g, 0, none⟩) 2 2 ∧ Row w2 g 3 [.int .i64 c, .int .i64 d] := by
  rintro v w1 w2 ⟨g, e, h⟩ hb
  exact ⟨g, e, h.below hb h.lt⟩
def orJ (c d : Int) : Int := if c = 0 then d else c
set_option maxRecDepth 100000 in
set_option maxHeartbeats 4000000 in
theorem cmpOr_any (c d : Int) (g : Nat) (w : World) (h : Row w g 3 [.int .i64 c, .int .i64 d]) : Calls Tryz.prog 136 #[.slice (some ⟨g, 0, none⟩) 2 2] w fun e w' => e = .returned (.int .i64 (orJ c d)) ∧ w = w' := by
  have c0 : w.cell? ⟨g, 0, none⟩ = some (.int .i64 c) := h.cell 0
  have c1 : w.cell? ⟨g, 1, none⟩ = some (.int .i64 d) := h.cell 1
  have HR : Hid (orJ c d = if c = 0 then d else c) := rfl
  generalize orJ c d = R at *
  clear h
  go_enter Tryz.func136, Tryz.ntmps136
  go_wp2_with fail
  go_loop [8] (fun i => i = .int .i64 0 ∨ i = .int .i64 1 ∧ c = 0 ∨ i = .int .i64 2 ∧ c = 0 ∧ d = 0) (fun i => 2 - (intOf i).toNat)
  case atStart => exact .inl rfl
  case round =>
    rcases hrel with rfl | ⟨rfl, hc⟩ | ⟨rfl, hc, hd⟩
    · by_cases hc : c = 0
      · have dc : (c != 0) = false := by simp [hc]
        have HC : Hid (c = 0) := hc
        clear hc
        go_wp2
        go_round
        case rel => exact .inr (.inl ⟨by go_num, HC.out⟩)
        case measure => simp [intOf]
      · have dc : (c != 0) = true := bne_iff_ne.2 hc
        have hR : R = c := by rw [HR.out, if_neg hc]
        clear hc
        go_wp2
        go_ret
        exact ⟨by first | rfl | (rw [hR]; rfl), rfl⟩
    · have HC : Hid (c = 0) := hc
      clear hc
      by_cases hd : d = 0
      · have dc : (d != 0) = false := by simp [hd]
        have HD : Hid (d = 0) := hd
        clear hd
        go_wp2
        go_round
        case rel => exact .inr (.inr ⟨by go_num, HC.out, HD.out⟩)
        case measure => simp [intOf]
      · have dc : (d != 0) = true := bne_iff_ne.2 hd
        have hR : R = d := by rw [HR.out, if_pos HC.out]
        clear hd
        go_wp2
        go_ret
        exact ⟨by first | rfl | (rw [hR]; rfl), rfl⟩
    · have hR : R = 0 := by rw [HR.out, if_pos hc, hd]
      clear hc hd
      go_wp2
      go_ret
      exact ⟨by first | rfl | (rw [hR]; rfl), rfl⟩
/-- What bindOrder tells. -/
def ordB (a0 a1 b0 b1 : Int) : Int := orJ (cmpJ a0 b0) (cmpJ a1 b1)
set_option maxRecDepth 100000 in
set_option maxHeartbeats 4000000 in
theorem bindOrder_any (a0 a1 a2 a3 b0 b1 b2 b3 : Int) (w : World) : Calls Tryz.prog 97 #[.agg #[.int .i64 a0, .int .i64 a1, .int .i64 a2, .int .i64 a3], .agg #[.int .i64 b0, .int .i64 b1, .int .i64 b2, .int .i64 b3]] w fun e w' => e = .returned (.int .i64 (ordB a0 a1 b0 b1)) ∧ Below w.heap.size w w' := by
  have HC1 : Hid (∀ w, Calls Tryz.prog 137 #[.int .i64 a0, .int .i64 b0] w fun e w' => e = .returned (.int .i64 (cmpJ a0 b0)) ∧ w = w') := cmpJ_any a0 b0
  have HC2 : Hid (∀ w, Calls Tryz.prog 137 #[.int .i64 a1, .int .i64 b1] w fun e w' => e = .returned (.int .i64 (cmpJ a1 b1)) ∧ w = w') := cmpJ_any a1 b1
  have HO : Hid (∀ g w, Row w g 3 [.int .i64 (cmpJ a0 b0), .int .i64 (cmpJ a1 b1)] → Calls Tryz.prog 136 #[.slice (some ⟨g, 0, none⟩) 2 2] w fun e w' => e = .returned (.int .i64 (ordB a0 a1 b0 b1)) ∧ w = w') := fun g w h => cmpOr_any _ _ g w h
  generalize ordB a0 a1 b0 b1 = r at *
  generalize cmpJ a0 b0 = c at *
  generalize cmpJ a1 b1 = d at *
  have q0 := (Row.new w 77 [.int .i64 a0, .int .i64 a1, .int .i64 a2, .int .i64 a3]).alloc (.cells #[.int .i64 b0, .int .i64 b1, .int .i64 b2, .int .i64 b3] 77)
  have q1 := Row.new (w.alloc (.cells #[.int .i64 a0, .int .i64 a1, .int .i64 a2, .int .i64 a3] 77)) 77 [.int .i64 b0, .int .i64 b1, .int .i64 b2, .int .i64 b3]
  rw [show (w.alloc (.cells #[.int .i64 a0, .int .i64 a1, .int .i64 a2, .int .i64 a3] 77)).heap.size = w.heap.size + 1 by simp] at q1
  have hB : Below w.heap.size w ((w.alloc (.cells #[.int .i64 a0, .int .i64 a1, .int .i64 a2, .int .i64 a3] 77)).alloc (.cells #[.int .i64 b0, .int .i64 b1, .int .i64 b2, .int .i64 b3] 77)) := (ent_new0 w _).alloc (by simp) _
  have HQ : Hid _ := And.intro q0 (And.intro q1 hB)
  clear q0 q1 hB
  go_enter Tryz.func97, Tryz.ntmps97
  go_wp2_with fail
  obtain ⟨q0, q1, hB⟩ := HQ.out
  clear HQ
  generalize ((w.alloc (.cells #[.int .i64 a0, .int .i64 a1, .int .i64 a2, .int .i64 a3] 77)).alloc (.cells #[.int .i64 b0, .int .i64 b1, .int .i64 b2, .int .i64 b3] 77)) = W at *
  have hGN : (([(5, Is (.pointer (some ⟨w.heap.size, 0, none⟩))), (6, Is (.int .i64 a0)), (7, Is (.pointer (some ⟨w.heap.size + 1, 0, none⟩))), (8, Is (.int .i64 b0)), (9, Is (.int .i64 c)), (10, Is (.pointer (some ⟨w.heap.size, 1, none⟩))), (11, Is (.int .i64 a1)), (12, Is (.pointer (some ⟨w.heap.size + 1, 1, none⟩))), (13, Is (.int .i64 b1)), (14, Is (.int .i64 d)), (15, fun v W => ∃ g, v = .slice (some ⟨g, 0, none⟩) 2 2 ∧ Row W g 3 [.int .i64 c, .int .i64 d]), (16, Is (.int .i64 r))] : List (Nat × (Value → World → Prop))).map (·.1)).Nodup := by simp
  refine wp_region_steady 12 (SlotG [(5, Is (.pointer (some ⟨w.heap.size, 0, none⟩))), (6, Is (.int .i64 a0)), (7, Is (.pointer (some ⟨w.heap.size + 1, 0, none⟩))), (8, Is (.int .i64 b0)), (9, Is (.int .i64 c)), (10, Is (.pointer (some ⟨w.heap.size, 1, none⟩))), (11, Is (.int .i64 a1)), (12, Is (.pointer (some ⟨w.heap.size + 1, 1, none⟩))), (13, Is (.int .i64 b1)), (14, Is (.int .i64 d)), (15, fun v W => ∃ g, v = .slice (some ⟨g, 0, none⟩) 2 2 ∧ Row W g 3 [.int .i64 c, .int .i64 d]), (16, Is (.int .i64 r))]) (by kernel_rfl) (by kernel_rfl) (Stabs.all ⟨stab_is _, stab_is _, stab_is _, stab_is _, stab_is _, stab_is _, stab_is _, stab_is _, stab_is _, stab_is _, stab_two c d, stab_is _, trivial⟩) ?_ ?_
  · intro o ho
    simp only [List.take_succ_cons, List.take_zero, List.mem_cons, List.not_mem_nil, or_false] at ho
    rcases ho with rfl | rfl | rfl | rfl | rfl | rfl | rfl | rfl | rfl | rfl | rfl | rfl
    · intro a' w' hb ha hdep
      have d2 : a'.tmps.getD 2 undef = .pointer (some ⟨w.heap.size, 0, none⟩) := ha.at 2 (by kernel_rfl)
      have hmk := fun (x : Value) (W : World) => SlotG.mk (x := x) (w := W) 0 rfl hGN
      clear hGN ha hdep
      go_simp
      exact ⟨_, rfl, Below.refl _ _, hmk _ _ rfl⟩
    · intro a' w' hb ha hdep
      have d5 : a'.tmps.getD 5 undef = .pointer (some ⟨w.heap.size, 0, none⟩) := (hdep 5 (of_decide_eq_true (by kernel_rfl))).is 0 rfl
      have hmk := fun (x : Value) (W : World) => SlotG.mk (x := x) (w := W) 1 rfl hGN
      clear hGN ha hdep
      have y : w'.cell? ⟨w.heap.size, 0, none⟩ = some (.int .i64 a0) := (q0.below hb q0.lt).cell 0
      go_simp
      exact ⟨_, rfl, Below.refl _ _, hmk _ _ rfl⟩
    · intro a' w' hb ha hdep
      have d3 : a'.tmps.getD 3 undef = .pointer (some ⟨w.heap.size + 1, 0, none⟩) := ha.at 3 (by kernel_rfl)
      have hmk := fun (x : Value) (W : World) => SlotG.mk (x := x) (w := W) 2 rfl hGN
      clear hGN ha hdep
      go_simp
      exact ⟨_, rfl, Below.refl _ _, hmk _ _ rfl⟩
    · intro a' w' hb ha hdep
      have d7 : a'.tmps.getD 7 undef = .pointer (some ⟨w.heap.size + 1, 0, none⟩) := (hdep 7 (of_decide_eq_true (by kernel_rfl))).is 2 rfl
      have hmk := fun (x : Value) (W : World) => SlotG.mk (x := x) (w := W) 3 rfl hGN
      clear hGN ha hdep
      have y : w'.cell? ⟨w.heap.size + 1, 0, none⟩ = some (.int .i64 b0) := (q1.below hb q1.lt).cell 0
      go_simp
      exact ⟨_, rfl, Below.refl _ _, hmk _ _ rfl⟩
    · intro a' w' hb ha hdep
      have d6 : a'.tmps.getD 6 undef = .int .i64 a0 := (hdep 6 (of_decide_eq_true (by kernel_rfl))).is 1 rfl
      have d8 : a'.tmps.getD 8 undef = .int .i64 b0 := (hdep 8 (of_decide_eq_true (by kernel_rfl))).is 3 rfl
      have hmk := fun (x : Value) (W : World) => SlotG.mk (x := x) (w := W) 4 rfl hGN
      clear hGN ha hdep
      go_simp
      refine (HC1.out _).mono ?_
      rintro e w2 ⟨rfl, rfl⟩
      exact ⟨_, rfl, Below.refl _ _, hmk _ _ rfl⟩
    · intro a' w' hb ha hdep
      have d2 : a'.tmps.getD 2 undef = .pointer (some ⟨w.heap.size, 0, none⟩) := ha.at 2 (by kernel_rfl)
      have hmk := fun (x : Value) (W : World) => SlotG.mk (x := x) (w := W) 5 rfl hGN
      clear hGN ha hdep
      go_simp
      exact ⟨_, rfl, Below.refl _ _, hmk _ _ rfl⟩
    · intro a' w' hb ha hdep
      have d10 : a'.tmps.getD 10 undef = .pointer (some ⟨w.heap.size, 1, none⟩) := (hdep 10 (of_decide_eq_true (by kernel_rfl))).is 5 rfl
      have hmk := fun (x : Value) (W : World) => SlotG.mk (x := x) (w := W) 6 rfl hGN
      clear hGN ha hdep
      have y : w'.cell? ⟨w.heap.size, 1, none⟩ = some (.int .i64 a1) := (q0.below hb q0.lt).cell 1
      go_simp
      exact ⟨_, rfl, Below.refl _ _, hmk _ _ rfl⟩
    · intro a' w' hb ha hdep
      have d3 : a'.tmps.getD 3 undef = .pointer (some ⟨w.heap.size + 1, 0, none⟩) := ha.at 3 (by kernel_rfl)
      have hmk := fun (x : Value) (W : World) => SlotG.mk (x := x) (w := W) 7 rfl hGN
      clear hGN ha hdep
      go_simp
      exact ⟨_, rfl, Below.refl _ _, hmk _ _ rfl⟩
    · intro a' w' hb ha hdep
      have d12 : a'.tmps.getD 12 undef = .pointer (some ⟨w.heap.size + 1, 1, none⟩) := (hdep 12 (of_decide_eq_true (by kernel_rfl))).is 7 rfl
      have hmk := fun (x : Value) (W : World) => SlotG.mk (x := x) (w := W) 8 rfl hGN
      clear hGN ha hdep
      have y : w'.cell? ⟨w.heap.size + 1, 1, none⟩ = some (.int .i64 b1) := (q1.below hb q1.lt).cell 1
      go_simp
      exact ⟨_, rfl, Below.refl _ _, hmk _ _ rfl⟩
    · intro a' w' hb ha hdep
      have d11 : a'.tmps.getD 11 undef = .int .i64 a1 := (hdep 11 (of_decide_eq_true (by kernel_rfl))).is 6 rfl
      have d13 : a'.tmps.getD 13 undef = .int .i64 b1 := (hdep 13 (of_decide_eq_true (by kernel_rfl))).is 8 rfl
      have hmk := fun (x : Value) (W : World) => SlotG.mk (x := x) (w := W) 9 rfl hGN
      clear hGN ha hdep
      go_simp
      refine (HC2.out _).mono ?_
      rintro e w2 ⟨rfl, rfl⟩
      exact ⟨_, rfl, Below.refl _ _, hmk _ _ rfl⟩
    · intro a' w' hb ha hdep
      have d9 : a'.tmps.getD 9 undef = .int .i64 c := (hdep 9 (of_decide_eq_true (by kernel_rfl))).is 4 rfl
      have d14 : a'.tmps.getD 14 undef = .int .i64 d := (hdep 14 (of_decide_eq_true (by kernel_rfl))).is 9 rfl
      have hmk := fun (x : Value) (W : World) => SlotG.mk (x := x) (w := W) 10 rfl hGN
      clear hGN ha hdep
      rw [Array.getD_eq_getD_getElem?] at d9 d14
      go_simp
      exact ⟨_, rfl, ent_new0 _ _, hmk _ _ ⟨_, rfl, Row.new w' 3 _⟩⟩
    · intro a' w' hb ha hdep
      have D15 := (hdep 15 (of_decide_eq_true (by kernel_rfl))).get 10 rfl
      have hmk := fun (x : Value) (W : World) => SlotG.mk (x := x) (w := W) 11 rfl hGN
      clear hGN ha hdep
      obtain ⟨g, d15, hr⟩ := D15
      go_simp
      refine (HO.out g _ hr).mono ?_
      rintro e w2 ⟨rfl, rfl⟩
      exact ⟨_, rfl, Below.refl _ _, hmk _ _ rfl⟩
  · intro a' w' hb ha hG
    clear hGN
    have d16 : a'.tmps.getD 16 undef = .int .i64 r := (hG _ (List.mem_of_getElem? (i := 11) rfl) 16 rfl).is 11 rfl
    have e2 : a' = ⟨#[a'.tmps.getD 0 undef, a'.tmps.getD 1 undef, a'.tmps.getD 2 undef, a'.tmps.getD 3 undef, a'.tmps.getD 4 undef, a'.tmps.getD 5 undef, a'.tmps.getD 6 undef, a'.tmps.getD 7 undef, a'.tmps.getD 8 undef, a'.tmps.getD 9 undef, a'.tmps.getD 10 undef, a'.tmps.getD 11 undef, a'.tmps.getD 12 undef, a'.tmps.getD 13 undef, a'.tmps.getD 14 undef, a'.tmps.getD 15 undef, a'.tmps.getD 16 undef], []⟩ := by rw [← (show a'.defers = [] from ha.2.1)]; exact act_eq a' 17 ha.1
    rw [d16] at e2
    clear hG ha d16
    generalize a'.tmps.getD 0 undef = x0 at *
    generalize a'.tmps.getD 1 undef = x1 at *
    generalize a'.tmps.getD 2 undef = x2 at *
    generalize a'.tmps.getD 3 undef = x3 at *
    generalize a'.tmps.getD 4 undef = x4 at *
    generalize a'.tmps.getD 5 undef = x5 at *
    generalize a'.tmps.getD 6 undef = x6 at *
    generalize a'.tmps.getD 7 undef = x7 at *
    generalize a'.tmps.getD 8 undef = x8 at *
    generalize a'.tmps.getD 9 undef = x9 at *
    generalize a'.tmps.getD 10 undef = x10 at *
    generalize a'.tmps.getD 11 undef = x11 at *
    generalize a'.tmps.getD 12 undef = x12 at *
    generalize a'.tmps.getD 13 undef = x13 at *
    generalize a'.tmps.getD 14 undef = x14 at *
    generalize a'.tmps.getD 15 undef = x15 at *
    subst e2
    simp only [List.drop_succ_cons, List.drop_zero]
    have hB10 := hB.trans (hb.mono hB.size)
    clear hb
    go_wp2
    go_ret
    exact ⟨rfl, hB10⟩
theorem ordB_val (a b : Bd) : ordB a.po a.vl b.po b.vl = -1 ∧ bdLt a b = true ∨ ordB a.po a.vl b.po b.vl = 0 ∧ bdLt a b = false ∨ ordB a.po a.vl b.po b.vl = 1 ∧ bdLt a b = false := by
  unfold ordB orJ bdLt cmpJ
  by_cases h1 : a.po < b.po
  · left; simp [h1]
  · by_cases h2 : b.po < a.po
    · right; right; simp [h1, h2]; omega
    · have e : a.po = b.po := by omega
      by_cases h3 : a.vl < b.vl
      · left; simp [e, h3]
      · by_cases h4 : b.vl < a.vl
        · right; right; simp [e, h3, h4]
        · right; left; simp [e, h3, h4]
set_option maxRecDepth 100000 in
set_option maxHeartbeats 4000000 in
theorem bindRise_any (p : Option Addr) (cap : Nat) (l : List Bd) (w : World) (h : BdsIn w p l) (hn : l.length ≤ 100000000) :
    Calls Tryz.prog 96 #[.slice p l.length cap, .func (.func 97) #[] #[]] w fun e w' => (∃ R : Bool, e = .returned (.bool R) ∧ (R = true → ∀ j, j < l.length → bdUp l j = true) ∧ (R = false → ∃ j, j < l.length ∧ bdUp l j = false)) ∧ Below w.heap.size w w' := by
  have HX : Hid (BdsIn w p l) := h
  have HO : Hid (∀ a0 a1 a2 a3 b0 b1 b2 b3 w, Calls Tryz.prog 97 #[.agg #[.int .i64 a0, .int .i64 a1, .int .i64 a2, .int .i64 a3], .agg #[.int .i64 b0, .int .i64 b1, .int .i64 b2, .int .i64 b3]] w fun e w' => e = .returned (.int .i64 (ordB a0 a1 b0 b1)) ∧ Below w.heap.size w w') := bindOrder_any
  clear h
  go_enter Tryz.func96, Tryz.ntmps96
  go_wp2_with fail
  go_loopw [5] (fun i wr => ∃ k : Nat, 1 ≤ k ∧ (k ≤ l.length ∨ k = 1) ∧ i = .int .i64 k ∧ (∀ j, j < k → j < l.length → bdUp l j = true) ∧ Below w.heap.size w wr) (fun i _ => l.length + 1 - (intOf i).toNat)
  case atStart => exact ⟨1, Nat.le_refl _, .inr rfl, rfl, fun j hj _ => (by obtain rfl : j = 0 := (by omega); unfold bdUp; simp), Below.refl _ _⟩
  case round =>
    obtain ⟨k, hk1, hk, rfl, ha, hB⟩ := hrel
    by_cases hlt : k < l.length
    · have d1 : decide ((k : Int) < (l.length : Int)) = true := by simpa using hlt
      obtain ⟨g, b0, b1, b2, b3, rfl, hg, hek, c0, c1, c2, c3⟩ := (HX.out.below hB).at k hlt
      obtain ⟨g', a0, a1, a2, a3, e', hg', hek', e0, e1, e2, e3⟩ := (HX.out.below hB).at (k - 1) (by omega)
      cases e'
      have hup : bdUp l k = bdLt ⟨a0, a1, a2, a3⟩ ⟨b0, b1, b2, b3⟩ := by
        unfold bdUp
        rw [get_bangB l k hlt, get_bangB l (k - 1) (by omega), hek, hek', decide_eq_false (by omega), Bool.false_or]
      have z2 : IntKind.i64.wrap ((k : Int) - 1) = ((k - 1 : Nat) : Int) := by rw [wrap_i64_in _ (by omega) (by omega)]; omega
      have z3 : (k : Int) - 1 = ((k - 1 : Nat) : Int) := by omega
      have z4 : decide (((k - 1 : Nat) : Int) < (l.length : Int)) = true := by simp; omega
      have z5 : k - 1 < l.length := by omega
      have HOk : Hid (∀ w, Calls Tryz.prog 97 #[.agg #[.int .i64 a0, .int .i64 a1, .int .i64 a2, .int .i64 a3], .agg #[.int .i64 b0, .int .i64 b1, .int .i64 b2, .int .i64 b3]] w fun e w' => e = .returned (.int .i64 (ordB a0 a1 b0 b1)) ∧ Below w.heap.size w w') := HO.out a0 a1 a2 a3 b0 b1 b2 b3
      have HA : Hid (∀ j, j < k → j < l.length → bdUp l j = true) := ha
      have hcv := ordB_val ⟨a0, a1, a2, a3⟩ ⟨b0, b1, b2, b3⟩
      simp only at hcv
      clear HO hek hek' ha
      generalize ordB a0 a1 b0 b1 = C at *
      replace c0 := cell_regrown c0
      replace e0 := cell_regrown e0
      replace c1 := cell_regrown c1
      replace e1 := cell_regrown e1
      replace c2 := cell_regrown c2
      replace e2 := cell_regrown e2
      replace c3 := cell_regrown c3
      replace e3 := cell_regrown e3
      rcases hcv with ⟨rfl, hu⟩ | ⟨rfl, hu⟩ | ⟨rfl, hu⟩
      · have HU : Hid (bdUp l k = true) := by rw [hup]; exact hu
        clear hu hup
        go_wp2_with fail
        refine wp_region_quiet_below (by kernel_rfl) (by kernel_rfl) ?_
        repeat (go_big_quiet_step ((go_at_call 97; exact Calls.regrown_of (HOk.out _))))
        refine wpQuiet_nil ?_
        intro w1 hw'
        obtain ⟨⟨dq, osq⟩, hw''⟩ := hw'
        have hbq := below_regrown wr dq osq
        rw [← hw''] at hbq
        clear hw'' osq dq c0 c1 c2 c3 e0 e1 e2 e3 HOk
        have HB : Hid _ := hB.trans (hbq.mono hB.size)
        clear hbq
        go_wp2
        go_roundw
        case rel => exact ⟨k + 1, by omega, .inl hlt, by go_num, (fun j hj hl => by
          rcases Nat.lt_or_ge j k with h' | h'
          · exact HA.out j h' hl
          · obtain rfl : j = k := (by omega)
            exact HU.out), HB.out⟩
        case measure => simp [intOf]; omega
      · have HU : Hid (bdUp l k = false) := by rw [hup]; exact hu
        clear hu hup
        go_wp2_with fail
        refine wp_region_quiet_below (by kernel_rfl) (by kernel_rfl) ?_
        repeat (go_big_quiet_step ((go_at_call 97; exact Calls.regrown_of (HOk.out _))))
        refine wpQuiet_nil ?_
        intro w1 hw'
        obtain ⟨⟨dq, osq⟩, hw''⟩ := hw'
        have hbq := below_regrown wr dq osq
        rw [← hw''] at hbq
        clear hw'' osq dq c0 c1 c2 c3 e0 e1 e2 e3 HOk
        have HB : Hid _ := hB.trans (hbq.mono hB.size)
        clear hbq
        go_wp2
        go_ret
        exact ⟨⟨false, rfl, fun h => by simp at h, fun _ => ⟨k, hlt, HU.out⟩⟩, HB.out⟩
      · have HU : Hid (bdUp l k = false) := by rw [hup]; exact hu
        clear hu hup
        go_wp2_with fail
        refine wp_region_quiet_below (by kernel_rfl) (by kernel_rfl) ?_
        repeat (go_big_quiet_step ((go_at_call 97; exact Calls.regrown_of (HOk.out _))))
        refine wpQuiet_nil ?_
        intro w1 hw'
        obtain ⟨⟨dq, osq⟩, hw''⟩ := hw'
        have hbq := below_regrown wr dq osq
        rw [← hw''] at hbq
        clear hw'' osq dq c0 c1 c2 c3 e0 e1 e2 e3 HOk
        have HB : Hid _ := hB.trans (hbq.mono hB.size)
        clear hbq
        go_wp2
        go_ret
        exact ⟨⟨false, rfl, fun h => by simp at h, fun _ => ⟨k, hlt, HU.out⟩⟩, HB.out⟩
    · have d1 : decide ((k : Int) < (l.length : Int)) = false := by simpa using hlt
      have HB : Hid _ := hB
      have HA : Hid (∀ j, j < k → j < l.length → bdUp l j = true) := ha
      clear HX HO hB ha
      go_wp2
      go_ret
      exact ⟨⟨true, rfl, fun _ j hj => HA.out j (by omega) hj, fun h => by simp at h⟩, HB.out⟩
end Go.Proofs.YtialedffpaoacaaGreatDoor
/- bindsRight and BoxRight of the program. (Written by gen_box.py.) -/
namespace Go.Proofs.YtialedffpaoacaaGreatDoor
open Go.RowKit Go.Sort

set_option maxRecDepth 100000 in
set_option maxHeartbeats 4000000 in
theorem bindsRight_any (p : Option Addr) (cap : Nat) (ps : List TnP) (pb : Option Addr) (cb : Nat) (l : List Bd) (pl : Option Addr) (nl cl : Nat) (lost : Int) (w : World) (h : TensIn w p ps) (hb0 : BdsIn w pb l) (hn : ps.length ≤ 100000000) (hl : l.length ≤ 100000000) :
    Calls Tryz.prog 53 #[.agg #[.slice p ps.length cap, .slice pb l.length cb, .slice pl nl cl, .int .i64 lost]] w fun e w' => e = .returned (.bool (bindsB (ps.map (·.2)) l)) ∧ Below w.heap.size w w' := by
  have HX : Hid (TensIn w p ps ∧ BdsIn w pb l) := ⟨h, hb0⟩
  have HC : Hid (∀ b0 b1 b2 b3 w, TensIn w p ps → Calls Tryz.prog 95 #[.agg #[.int .i64 b0, .int .i64 b1, .int .i64 b2, .int .i64 b3], .agg #[.slice p ps.length cap, .slice pb l.length cb, .slice pl nl cl, .int .i64 lost]] w fun e w' => e = .returned (.bool (bdB (ps.map (·.2)) ⟨b0, b1, b2, b3⟩)) ∧ Below w.heap.size w w') := fun b0 b1 b2 b3 w h => bindRight_any b0 b1 b2 b3 p cap ps pb l.length cb pl nl cl lost w h hn
  have HRI : Hid (∀ w, BdsIn w pb l → Calls Tryz.prog 96 #[.slice pb l.length cb, .func (.func 97) #[] #[]] w fun e w' => (∃ R : Bool, e = .returned (.bool R) ∧ (R = true → ∀ j, j < l.length → bdUp l j = true) ∧ (R = false → ∃ j, j < l.length ∧ bdUp l j = false)) ∧ Below w.heap.size w w') := fun w h => bindRise_any pb cb l w h hl
  have HB1 : Hid (∀ k, k < l.length → (bdB (ps.map (·.2)) l[k]! && bdUp l k) = false → bindsB (ps.map (·.2)) l = false) := fun k hk h => bindsB_bad hk h
  have HG : Hid (l.length ≤ 9 → (∀ j, j < l.length → (bdB (ps.map (·.2)) l[j]! && bdUp l j) = true) → bindsB (ps.map (·.2)) l = true) := fun a b => bindsB_good a b
  have HQ : Hid _ := And.intro (Row.new w 33 [.slice p ps.length cap, .slice pb l.length cb, .slice pl nl cl, .int .i64 lost]) (ent_new0 w (.cells #[.slice p ps.length cap, .slice pb l.length cb, .slice pl nl cl, .int .i64 lost] 33))
  clear h hb0
  by_cases h9 : l.length ≤ 9
  case neg =>
    have hR := bindsB_long (ts := ps.map (·.2)) h9
    have d0 : decide (9 < (l.length : Int)) = true := by simp; omega
    have hB := HQ.out.2
    clear HB1 HG HX HC HRI HQ
    go_enter Tryz.func53, Tryz.ntmps53
    go_wp2
    go_ret
    exact ⟨by first | rfl | (rw [hR]; rfl), hB⟩
  have d0 : decide (9 < (l.length : Int)) = false := by simp; omega
  generalize bindsB (ps.map (·.2)) l = RES at *
  go_enter Tryz.func53, Tryz.ntmps53
  go_wp2_with fail
  go_loopw [12] (fun i wr => ∃ k : Nat, k ≤ l.length ∧ i = .int .i64 k ∧ (∀ j, j < k → bdB (ps.map (·.2)) l[j]! = true) ∧ Row wr w.heap.size 33 [.slice p ps.length cap, .slice pb l.length cb, .slice pl nl cl, .int .i64 lost] ∧ Below w.heap.size w wr) (fun i _ => l.length - (intOf i).toNat)
  case atStart => exact ⟨0, Nat.zero_le _, rfl, fun j hj => absurd hj (by omega), HQ.out.1, HQ.out.2⟩
  case round =>
    clear HQ
    obtain ⟨k, hk, rfl, ha, r0, hB⟩ := hrel
    by_cases hlt : k < l.length
    · have d1 : decide ((k : Int) < (l.length : Int)) = true := by simpa using hlt
      obtain ⟨g, b0, b1, b2, b3, rfl, hg, hek, c0, c1, c2, c3⟩ := (HX.out.2.below hB).at k hlt
      have HK : Hid (bdB (ps.map (·.2)) l[k]! = bdB (ps.map (·.2)) ⟨b0, b1, b2, b3⟩) := by show _ = _; rw [get_bangB l k hlt, hek]
      have HBad : Hid (bdB (ps.map (·.2)) l[k]! = false → RES = false) := fun h => HB1.out k hlt (by rw [h]; rfl)
      have HNx : Hid (bdB (ps.map (·.2)) l[k]! = true → ∀ j, j < k + 1 → bdB (ps.map (·.2)) l[j]! = true) := fun h j hjk => by
        rcases Nat.lt_or_ge j k with h' | h'
        · exact ha j h'
        · obtain rfl : j = k := by omega
          exact h
      have HCk : Hid (∀ w, TensIn w p ps → Calls Tryz.prog 95 #[.agg #[.int .i64 b0, .int .i64 b1, .int .i64 b2, .int .i64 b3], .agg #[.slice p ps.length cap, .slice (some ⟨g, 0, none⟩) l.length cb, .slice pl nl cl, .int .i64 lost]] w fun e w' => e = .returned (.bool (bdB (ps.map (·.2)) ⟨b0, b1, b2, b3⟩)) ∧ Below w.heap.size w w') := HC.out b0 b1 b2 b3
      clear HB1 HG ha hek HC HRI
      generalize bdB (ps.map (·.2)) l[k]! = SB at *
      generalize bdB (ps.map (·.2)) ⟨b0, b1, b2, b3⟩ = A1 at *
      have r1 := r0.alloc (.cells #[.int .i64 b0, .int .i64 b1, .int .i64 b2, .int .i64 b3] 77)
      have hB1 := hB.alloc hB.size (.cells #[.int .i64 b0, .int .i64 b1, .int .i64 b2, .int .i64 b3] 77)
      have t0 : (wr.alloc (.cells #[.int .i64 b0, .int .i64 b1, .int .i64 b2, .int .i64 b3] 77)).cell? ⟨w.heap.size, 0, none⟩ = some (.slice p ps.length cap) := r1.cell 0
      have t1 : (wr.alloc (.cells #[.int .i64 b0, .int .i64 b1, .int .i64 b2, .int .i64 b3] 77)).cell? ⟨w.heap.size, 1, none⟩ = some (.slice (some ⟨g, 0, none⟩) l.length cb) := r1.cell 1
      have t2 : (wr.alloc (.cells #[.int .i64 b0, .int .i64 b1, .int .i64 b2, .int .i64 b3] 77)).cell? ⟨w.heap.size, 2, none⟩ = some (.slice pl nl cl) := r1.cell 2
      have t3 : (wr.alloc (.cells #[.int .i64 b0, .int .i64 b1, .int .i64 b2, .int .i64 b3] 77)).cell? ⟨w.heap.size, 3, none⟩ = some (.int .i64 lost) := r1.cell 3
      have HBB : Hid _ := And.intro r1 hB1
      clear r0 hB r1 hB1
      go_wp2_with fail
      clear c0 c1 c2 c3 t0 t1 t2 t3
      obtain ⟨r1, hB1⟩ := HBB.out
      refine (HCk.out _ (HX.out.1.below hB1)).mono ?_
      rintro e w2 ⟨rfl, hb2⟩
      have HF : Hid _ := And.intro (r1.below hb2 r1.lt) (hB1.trans (hb2.mono hB1.size))
      clear HBB r1 hB1 hb2 HCk
      cases A1
      · have hR := HBad.out HK.out
        go_wp2
        go_ret
        exact ⟨by first | rfl | (rw [hR]; rfl), HF.out.2⟩
      · have HNN : Hid _ := HNx.out HK.out
        clear HNx HBad
        go_wp2_with fail
        go_roundw
        case rel => exact ⟨k + 1, hlt, by go_num, HNN.out, HF.out.1, HF.out.2⟩
        case measure => simp [intOf]; omega
    · obtain rfl : k = l.length := by omega
      have d1 : decide ((l.length : Int) < (l.length : Int)) = false := by simp
      have HA : Hid (∀ j, j < l.length → bdB (ps.map (·.2)) l[j]! = true) := ha
      have t0 : wr.cell? ⟨w.heap.size, 0, none⟩ = some (.slice p ps.length cap) := r0.cell 0
      have t1 : wr.cell? ⟨w.heap.size, 1, none⟩ = some (.slice pb l.length cb) := r0.cell 1
      have t2 : wr.cell? ⟨w.heap.size, 2, none⟩ = some (.slice pl nl cl) := r0.cell 2
      have t3 : wr.cell? ⟨w.heap.size, 3, none⟩ = some (.int .i64 lost) := r0.cell 3
      have HB : Hid _ := hB
      clear hlt hk ha hB r0 HC
      go_wp2_with fail
      clear t0 t1 t2 t3
      refine (HRI.out _ (HX.out.2.below HB.out)).mono ?_
      rintro e w1 ⟨⟨R, rfl, hr1, hr2⟩, hb1⟩
      have hB := HB.out.trans (hb1.mono HB.out.size)
      have HF : Hid (R = RES) := by
        cases R
        · obtain ⟨j, hj, hu⟩ := hr2 rfl
          exact (HB1.out j hj (by rw [hu, Bool.and_false])).symm
        · exact (HG.out h9 (fun j hj => by rw [HA.out j hj, hr1 rfl j hj]; rfl)).symm
      clear hr1 hr2 hb1 HRI HB HB1 HG HX
      go_wp2
      go_ret
      exact ⟨by rw [← HF.out]; rfl, hB⟩
set_option maxRecDepth 100000 in
set_option maxHeartbeats 4000000 in
theorem implBox_any (p : Option Addr) (cap : Nat) (ps : List TnP) (pb : Option Addr) (cb : Nat) (l : List Bd) (pl : Option Addr) (cl : Nat) (ls : List Lk) (lost : Int) (w : World) (h : TensIn w p ps) (hb0 : BdsIn w pb l) (hk0 : LksIn w pl ls) (hn : ps.length ≤ 100000000) (hm : ∀ e ∈ ps, TnM e.2 ∧ TpC e.1 e.2) (hl : l.length ≤ 100000000) (hk : ls.length ≤ 100000000) :
    Calls Tryz.prog 24 #[.agg #[.slice p ps.length cap, .slice pb l.length cb, .slice pl ls.length cl, .int .i64 lost]] w fun e w' => e = .returned (.bool (boxB (ps.map (·.2)) l ls lost)) ∧ Below w.heap.size w w' := by
  have H1 : Hid (∀ w, TensIn w p ps → Calls Tryz.prog 52 #[.slice p ps.length cap] w fun e w' => e = .returned (.bool (tensB (ps.map (·.2)))) ∧ Below w.heap.size w w') := fun w h => tenantsRight_any p cap ps w h hn hm
  have H2 : Hid (∀ w, TensIn w p ps → BdsIn w pb l → Calls Tryz.prog 53 #[.agg #[.slice p ps.length cap, .slice pb l.length cb, .slice pl ls.length cl, .int .i64 lost]] w fun e w' => e = .returned (.bool (bindsB (ps.map (·.2)) l)) ∧ Below w.heap.size w w') := fun w a b => bindsRight_any p cap ps pb cb l pl ls.length cl lost w a b hn hl
  have H3 : Hid (∀ w, LksIn w pl ls → Calls Tryz.prog 54 #[.slice pl ls.length cl] w fun e w' => e = .returned (.bool (lksB ls)) ∧ Below w.heap.size w w') := fun w a => implLeaks_any pl cl ls w a hk
  have H4 : Hid (∀ w, Calls Tryz.prog 55 #[.int .i64 lost] w fun e w' => e = .returned (.bool (inTime lost)) ∧ w = w') := fun w => isTime_any lost w
  have HX : Hid (TensIn w p ps ∧ BdsIn w pb l ∧ LksIn w pl ls) := ⟨h, hb0, hk0⟩
  have HR : Hid (boxB (ps.map (·.2)) l ls lost = (tensB (ps.map (·.2)) && (bindsB (ps.map (·.2)) l && (lksB ls && inTime lost)))) := rfl
  clear h hb0 hk0 hn hm hl hk
  generalize boxB (ps.map (·.2)) l ls lost = RES at *
  generalize tensB (ps.map (·.2)) = V1 at *
  generalize bindsB (ps.map (·.2)) l = V2 at *
  generalize lksB ls = V3 at *
  generalize inTime lost = V4 at *
  have HQ : Hid _ := And.intro (Row.new w 33 [.slice p ps.length cap, .slice pb l.length cb, .slice pl ls.length cl, .int .i64 lost]) (ent_new0 w (.cells #[.slice p ps.length cap, .slice pb l.length cb, .slice pl ls.length cl, .int .i64 lost] 33))
  go_enter Tryz.func24, Tryz.ntmps24
  go_wp2_with fail
  obtain ⟨r0, hB⟩ := HQ.out
  clear HQ
  refine (H1.out _ (HX.out.1.below hB)).mono ?_
  rintro e w1 ⟨rfl, hb1⟩
  have r0 := r0.below hb1 r0.lt
  have hB := hB.trans (hb1.mono hB.size)
  clear hb1
  have hR := HR.out
  clear HR H1
  cases V1
  · rw [Bool.false_and] at hR
    go_wp2
    go_ret
    exact ⟨by first | rfl | (rw [hR]; rfl), hB⟩
  rw [Bool.true_and] at hR
  have s0 : w1.cell? ⟨w.heap.size, 0, none⟩ = some (.slice p ps.length cap) := r0.cell 0
  have s1 : w1.cell? ⟨w.heap.size, 1, none⟩ = some (.slice pb l.length cb) := r0.cell 1
  have s2 : w1.cell? ⟨w.heap.size, 2, none⟩ = some (.slice pl ls.length cl) := r0.cell 2
  have s3 : w1.cell? ⟨w.heap.size, 3, none⟩ = some (.int .i64 lost) := r0.cell 3
  go_wp2_with fail
  clear s0 s1 s2 s3
  refine (H2.out _ (HX.out.1.below hB) (HX.out.2.1.below hB)).mono ?_
  rintro e w2 ⟨rfl, hb2⟩
  have r0 := r0.below hb2 r0.lt
  have hB := hB.trans (hb2.mono hB.size)
  clear hb2
  clear H2
  cases V2
  · rw [Bool.false_and] at hR
    go_wp2
    go_ret
    exact ⟨by first | rfl | (rw [hR]; rfl), hB⟩
  rw [Bool.true_and] at hR
  have s0 : w2.cell? ⟨w.heap.size, 0, none⟩ = some (.slice p ps.length cap) := r0.cell 0
  have s1 : w2.cell? ⟨w.heap.size, 1, none⟩ = some (.slice pb l.length cb) := r0.cell 1
  have s2 : w2.cell? ⟨w.heap.size, 2, none⟩ = some (.slice pl ls.length cl) := r0.cell 2
  have s3 : w2.cell? ⟨w.heap.size, 3, none⟩ = some (.int .i64 lost) := r0.cell 3
  go_wp2_with fail
  clear s0 s1 s2 s3
  refine (H3.out _ (HX.out.2.2.below hB)).mono ?_
  rintro e w3 ⟨rfl, hb3⟩
  have r0 := r0.below hb3 r0.lt
  have hB := hB.trans (hb3.mono hB.size)
  clear hb3
  clear H3
  cases V3
  · rw [Bool.false_and] at hR
    go_wp2
    go_ret
    exact ⟨by first | rfl | (rw [hR]; rfl), hB⟩
  rw [Bool.true_and] at hR
  have s0 : w3.cell? ⟨w.heap.size, 0, none⟩ = some (.slice p ps.length cap) := r0.cell 0
  have s1 : w3.cell? ⟨w.heap.size, 1, none⟩ = some (.slice pb l.length cb) := r0.cell 1
  have s2 : w3.cell? ⟨w.heap.size, 2, none⟩ = some (.slice pl ls.length cl) := r0.cell 2
  have s3 : w3.cell? ⟨w.heap.size, 3, none⟩ = some (.int .i64 lost) := r0.cell 3
  go_wp2_with fail
  clear s0 s1 s2 s3
  refine (H4.out _).mono ?_
  rintro e w4 ⟨rfl, rfl⟩
  clear H4
  go_wp2
  go_ret
  exact ⟨by first | rfl | (rw [hR]; rfl), hB⟩
end Go.Proofs.YtialedffpaoacaaGreatDoor
/- Is there such an iface? By the model. -/
namespace Go.Proofs.YtialedffpaoacaaGreatDoor
open Go.RowKit Go.Sort

set_option maxRecDepth 100000 in
set_option maxHeartbeats 2000000 in
theorem l07There_any (x : Option Addr) (n1 c1 : Nat) (y : Option Addr) (n2 c2 : Nat) (now i : Int) (w : World) (hn : n1 ≤ 100000000) :
    Calls Tryz.prog 19 #[instV x n1 c1 y n2 c2 now, .int .i64 i] w fun e w' => e = .returned (.bool (decide (0 ≤ i ∧ i ≤ (n1 : Int) - 1))) ∧ Below w.heap.size w w' := by
  have HI : Hid (∀ w, Calls Tryz.prog 43 #[.int .i64 i, .int .i64 0, .int .i64 ((n1 : Int) - 1)] w fun e w' => e = .returned (.bool (decide (0 ≤ i ∧ i ≤ (n1 : Int) - 1))) ∧ w = w') := fun w => l03Is_any i 0 ((n1 : Int) - 1) w
  generalize decide (0 ≤ i ∧ i ≤ (n1 : Int) - 1) = R at *
  unfold instV
  go_enter Tryz.func19, Tryz.ntmps19
  go_wp2_with fail
  refine (HI.out _).mono ?_
  rintro e w1 ⟨rfl, rfl⟩
  go_wp2
  go_ret
  exact ⟨rfl, ent_new0 w _⟩
end Go.Proofs.YtialedffpaoacaaGreatDoor
/- Is there an Iface, and is it near: by the model. (Written by gen_near2.py.) -/
namespace Go.Proofs.YtialedffpaoacaaGreatDoor
open Go.RowKit Go.Sort

theorem ifsB_right {is : List If} (h : ifsB is = true) (k : Nat) (hk : k < is.length) : rightB is[k].a is[k].l = true := by
  unfold ifsB at h
  simp only [Bool.and_eq_true, List.all_eq_true, List.mem_range] at h
  have := h.2 k hk
  unfold ifsOk at this
  rw [getElem!_pos is k hk] at this
  simp only [Bool.and_eq_true] at this
  have h1 := this.1
  unfold ifB at h1
  simp only [Bool.and_eq_true] at h1
  have h2 := h1.1
  unfold coversB at h2
  simp only [Bool.and_eq_true] at h2
  exact h2.1
theorem instB_ifs {is : List If} {rs : List Rt} {now : Int} (h : instB is rs now = true) : ifsB is = true ∧ ribB rs = true ∧ 0 ≤ now ∧ now ≤ 999800 := by
  unfold instB at h
  simp only [Bool.and_eq_true, decide_eq_true_eq] at h
  exact h
end Go.Proofs.YtialedffpaoacaaGreatDoor
/- Is there such a tenant? By the model. (Written by gen_boxs.py.) -/
namespace Go.Proofs.YtialedffpaoacaaGreatDoor
open Go.RowKit Go.Sort

set_option maxRecDepth 100000 in
set_option maxHeartbeats 4000000 in
theorem l09There_any (p : Option Addr) (nt cap : Nat) (pb : Option Addr) (nb cb : Nat) (pl : Option Addr) (nl cl : Nat) (lost : Int) (n : Int) (w : World) (hn : nt ≤ 100000000) :
    Calls Tryz.prog 18 #[.agg #[.slice p nt cap, .slice pb nb cb, .slice pl nl cl, .int .i64 lost], .int .i64 n] w fun e w' => e = .returned (.bool (decide (0 ≤ n ∧ n ≤ (nt : Int) - 1))) ∧ Below w.heap.size w w' := by
  have HI : Hid (∀ w, Calls Tryz.prog 43 #[.int .i64 n, .int .i64 0, .int .i64 ((nt : Int) - 1)] w fun e w' => e = .returned (.bool (decide (0 ≤ n ∧ n ≤ (nt : Int) - 1))) ∧ w = w') := fun w => l03Is_any n 0 ((nt : Int) - 1) w
  have HB : Hid _ := ent_new0 w (.cells #[.slice p nt cap, .slice pb nb cb, .slice pl nl cl, .int .i64 lost] 33)
  generalize decide (0 ≤ n ∧ n ≤ (nt : Int) - 1) = R at *
  go_enter Tryz.func18, Tryz.ntmps18
  go_wp2_with fail
  refine (HI.out _).mono ?_
  rintro e w1 ⟨rfl, rfl⟩
  go_wp2
  go_ret
  exact ⟨rfl, HB.out⟩
end Go.Proofs.YtialedffpaoacaaGreatDoor
