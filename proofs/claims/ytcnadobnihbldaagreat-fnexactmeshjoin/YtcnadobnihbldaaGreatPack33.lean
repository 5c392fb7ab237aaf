/- Texts that stand on each other, in one file: TickI, TickW, TickAt, LoseI, LoseAt. -/
import Derived.Test.YtcnadobnihbldaaGreatPack30
import Derived.Test.YtcnadobnihbldaaGreatPack24
import Derived.Test.YtcnadobnihbldaaGreatPack1
import Derived.Test.YtcnadobnihbldaaGreatPack18
import Derived.Test.YtcnadobnihbldaaGreatPack4
/- RibTick of the program. (Written by gen_turn.py.) -/
namespace Go.Proofs.YtcnadobnihbldaaGreat
open Go.RowKit Go.Sort Go.Shelf
attribute [local go_sem] Oper.semAt_some

set_option maxRecDepth 100000 in
set_option maxHeartbeats 4000000 in
theorem implTick_right (p : Option Addr) (cap : Nat) (rs : List Rt) (now : Int) (w : World) (h : RtsIn w p rs) (hr : ribB rs = true) (h0 : 0 ≤ now) (h1 : now ≤ 999900) (hnow : inNow now = true) (hr2 : ribB (rs.filterMap (tickF now)) = true) :
    Calls Tryz.prog 172 #[ribV p rs.length cap, .int .i64 now] w fun e w' => OutR w.heap.size 0 (rs.filterMap (tickF now)) e w' ∧ Below w.heap.size w w' := by
  have h8 := (ribB_spec hr).1
  have HB : Hid (∀ w, RtsIn w p rs → Calls Tryz.prog 146 #[.agg #[.slice p rs.length cap]] w fun e w' => e = .returned (.bool true) ∧ Below w.heap.size w w') := fun w h => by have := implRib_any p cap rs w h (by omega); rw [hr] at this; exact this
  have HL : Hid (∀ w, RtsIn w p rs → Calls Tryz.prog 162 #[.agg #[.slice p rs.length cap]] w fun e w' => ∃ B, e = .returned (.agg #[.map (some B), .func (.func 185) #[] #[]]) ∧ w.heap.size ≤ B ∧ MapIs w' B rs ∧ Below w.heap.size w w') := fun w h => (laidOut_any p cap rs w h (by omega)).mono fun e w' h => by
    obtain ⟨B, e1, hB, hm, hb⟩ := h
    rw [laidN_right hr] at hm
    exact ⟨B, e1, hB, hm, hb⟩
  have HA : Hid (∀ B w, Calls Tryz.prog 190 #[.agg #[.map (some B), .func (.func 185) #[] #[]]] w fun e w' => e = .returned (.func (.func 196) #[] #[.pointer (some ⟨w.heap.size, 0, none⟩)]) ∧ w.alloc (.cells #[.map (some B), .func (.func 185) #[] #[]] 212) = w') := fun B w => all_make B w
  have HP : Hid (∀ B ms r w, MapIs w B ms → Calls Tryz.prog 184 #[tabV B, netV r.a r.l, rtV r] w fun e w' => e = .returned (.tuple #[]) ∧ MapIs w' B (putN ms r) ∧ w.grownBy w' (some B)) := put_any
  have HD : Hid (∀ B ms a l w, MapIs w B ms → Calls Tryz.prog 192 #[tabV B, netV a l] w fun e w' => e = .returned (.tuple #[]) ∧ MapIs w' B (dropN ms a l) ∧ w.grownBy w' (some B)) := drop_any
  have HNw : Hid (∀ w, Calls Tryz.prog 176 #[.int .i64 now] w fun e w' => e = .returned (.bool true) ∧ w = w') := fun w => by have := isNow_any now w; rw [hnow] at this; exact this
  have HDu : Hid (∀ a w, Calls Tryz.prog 191 #[.int .i64 a, .int .i64 now] w fun e w' => e = .returned (.bool (dueB a now)) ∧ w = w') := fun a w => isDue_any a now w
  have HR : Hid (∀ r w, Calls Tryz.prog 193 #[rtV r, .int .i64 now] w fun e w' => e = .returned (rtV (reachR r now)) ∧ Below w.heap.size w w') := fun r w => outOfReach_any r now w h0 h1
  clear hnow h0 h1
  have HO : Hid (∀ B w, MapIs w B (rs.filterMap (tickF now)) → Calls Tryz.prog 179 #[.agg #[.map (some B), .func (.func 185) #[] #[]]] w fun e w' => ∃ p cap, e = .returned (.agg #[.slice p (rs.filterMap (tickF now)).length cap]) ∧ w'.ownsRow w.heap.size 155 9 (.slice p (rs.filterMap (tickF now)).length cap) (rs.filterMap (tickF now)).length (rowR (rs.filterMap (tickF now))) ∧ Below w.heap.size w w') := fun B w h => ribOf_any B _ _ (List.Perm.refl _) hr2 w h
  have hris := rib_rising hr
  have HX : Hid (RtsIn w p rs) := h
  clear h
  obtain ⟨W, hW, q0, q1, q2, hB, hS, -⟩ := rows3 w [.slice p rs.length cap] [.int .i64 now] [.slice none 0 0, .int .i64 0] 59 2 94
  have HW : Hid _ := hW
  have c0 : W.cell? ⟨w.heap.size, 0, none⟩ = some (.slice p rs.length cap) := q0.cell 0
  have HQ : Hid _ := And.intro q0 (And.intro q1 (And.intro q2 (And.intro hB hS)))
  clear hW q0 q1 q2 hB hS
  unfold ribV
  refine (callsIn_wide (n := 9)).1 ?_
  refine callsIn_of_wp_marks Tryz.func172 rfl trivial ?_ rfl
  simp only [Tryz.ntmps172, List.size_toArray, List.length_cons, List.length_nil, Nat.reduceAdd, Nat.reduceSub, Array.replicate_succ, Array.replicate_zero, List.push_toArray, List.append_toArray, List.nil_append, List.cons_append]
  gi_wp2_with fail
  refine ⟨trivial, ?_⟩
  rw [← HW.out]
  obtain ⟨q0, q1, q2, hB, hS⟩ := HQ.out
  refine (callsIn_wide.2 (HB.out _ ((HX.out).below hB))).mono ?_
  rintro e w1 ⟨rfl, hb1⟩
  clear HB HW HQ c0
  have c1 : w1.cell? ⟨w.heap.size, 0, none⟩ = some (.slice p rs.length cap) := (q0.below hb1 q0.lt).cell 0
  have hX1 := ((HX.out).below hB).below hb1
  have n1 : w1.cell? ⟨w.heap.size + 1, 0, none⟩ = some (.int .i64 now) := (q1.below hb1 q1.lt).cell 0
  have HK1 : Hid _ := And.intro (q2.below hb1 q2.lt) (And.intro (hB.trans (hb1.mono (by omega))) (q1.below hb1 q1.lt))
  have hs1 : w.heap.size + 1 + 1 + 1 ≤ w1.heap.size := by have := hb1.size; omega
  clear q0 q1 q2 hB hS hb1 HX
  gi_wp2_with fail
  refine ⟨trivial, ?_⟩
  refine (callsIn_wide.2 (HNw.out _)).mono ?_
  rintro e w1' ⟨rfl, rfl⟩
  clear HNw n1
  gi_wp2_with fail
  refine ⟨trivial, ?_⟩
  refine (callsIn_wide.2 (HL.out _ hX1)).mono ?_
  rintro e w2 ⟨B, rfl, hBB, hM, hb2⟩
  clear HL hX1 c1
  gi_wp2_with fail
  refine ⟨trivial, ?_⟩
  refine (callsIn_wide.2 (HA.out B _)).mono ?_
  rintro e w3 ⟨rfl, hw3⟩
  obtain ⟨rr, hB, rn⟩ := HK1.out
  have hs2 := hb2.size
  have hBl := hM.lt
  obtain ⟨V, hV, rt, rt', hbV, hsV⟩ := rows2 w2 [.map (some B), .func (.func 185) #[] #[]] [.map (some B), .func (.func 185) #[] #[]] 212 212
  simp only [World.size_alloc] at hw3 ⊢
  rw [show w3 = V from hw3.symm.trans hV.symm]
  have rr := (rr.below hb2 rr.lt).below hbV (rr.below hb2 rr.lt).lt
  have rn := (rn.below hb2 rn.lt).below hbV (rn.below hb2 rn.lt).lt
  have hB := (hB.trans (hb2.mono (by omega))).trans (hbV.mono (by omega))
  have hM := hM.below hbV hM.lt
  generalize hb2n : w2.heap.size = b2 at *
  clear hw3 hb2 hV HK1 HA
  gi_wp2_with fail
  refine wpIn_turns (by omega) (gf := 196) (lb := #[.pointer (some ⟨b2 + 1, 0, none⟩)]) rfl (enters_of Tryz.func196 (by kernel_rfl) rfl) rtV rs rfl KpM KpM.t (fun W o o' h hc => KpM.b o' h hc)
    (fun pre X => MapIs X B (halfR (tickF now) rs pre.length) ∧ Row X b2 212 [.map (some B), .func (.func 185) #[] #[]] ∧ Row X (w.heap.size + 1 + 1) 94 [.slice none 0 0, .int .i64 0] ∧ Row X (w.heap.size + 1) 2 [.int .i64 now] ∧ Below w.heap.size w X)
    ?ig ?ip ?seq ?start
    (fun k a' X => ∃ (hk : k < rs.length) (y : Rt) (Bx : Nat), y = rs[k] ∧ (b2 < Bx ∧ w.heap.size + 1 + 1 < Bx) ∧ Row X Bx 155 (rtL y) ∧ (MapIs X B (halfR (tickF now) rs k) ∧ Row X b2 212 [.map (some B), .func (.func 185) #[] #[]] ∧ Row X (w.heap.size + 1 + 1) 94 [.slice none 0 0, .int .i64 0] ∧ Row X (w.heap.size + 1) 2 [.int .i64 now] ∧ Below w.heap.size w X) ∧ a' = { tmps := #[.agg #[.slice p rs.length cap], .int .i64 now, .pointer (some ⟨w.heap.size, 0, none⟩), .pointer (some ⟨w.heap.size + 1, 0, none⟩), .pointer (some ⟨w.heap.size + 1 + 1, 0, none⟩), .pointer (some ⟨b2, 0, none⟩), .pointer (some ⟨Bx, 0, none⟩), .agg #[.slice p rs.length cap], .bool true, .bool false, .bool false, .int .i64 now, .bool true, .bool false, .bool false, undef, .agg #[.slice p rs.length cap], .agg #[.map (some B), .func (.func 185) #[] #[]], .agg #[.map (some B), .func (.func 185) #[] #[]], .func (.func 196) #[] #[.pointer (some ⟨b2 + 1, 0, none⟩)], rtV y, undef, undef, undef, undef, undef, undef, undef, undef, undef, undef, undef, undef, undef, undef, undef, undef, undef, undef, undef, undef, undef, undef, undef, undef], defers := [] })
    ?ap ?assign ?body ?done
  case ig =>
    rintro s X Y ⟨hm, rt, rr, rn, hb⟩ hg
    exact ⟨hm.kept (hg.block B hm.lt (by simp)), (hg.block _ rt.lt (by simp)).trans rt, (hg.block _ rr.lt (by simp)).trans rr, (hg.block _ rn.lt (by simp)).trans rn, hb.grown hg hb.size (fun k e => by cases e)⟩
  case ip =>
    rintro s X r o ⟨hm, rt, rr, rn, hb⟩ hl
    exact ⟨hm.kept (World.putObj_heap_other (by omega)), (World.putObj_heap_other (by omega)).trans rt, (World.putObj_heap_other (by omega)).trans rr, (World.putObj_heap_other (by omega)).trans rn, hb.trans (belowK_b (w := w) (Nat.le_refl _) X _ _ o (by omega) hl rfl rfl)⟩
  case seq =>
    intro l J W hbW hJ hJI hY h0
    exact all1_mut (9 - 1) (by omega) l (b2 + 1) B rs rs (List.Perm.refl _) hr J hJ (fun k hk X hj => by
      have := (hJI _ _ hj).1
      rw [hdr_len hk] at this
      exact ⟨_, this, halfR_look (tickF_net now) hris hk⟩) hY W (rt'.below hbW rt'.lt) (hM.below hbW hM.lt) h0
  case start =>
    exact ⟨by simpa [halfR_0] using hM, rt, rr, rn, hB⟩
  case ap =>
    rintro k a' X r o ⟨hk, y, Bx, hy, hBx, hRx, ⟨hm, rt, rr, rn, hb⟩, rfl⟩ hl
    refine ⟨hk, y, Bx, hy, hBx, (World.putObj_heap_other (fun e => ?_)).trans hRx, ⟨hm.kept (World.putObj_heap_other (by omega)), (World.putObj_heap_other (by omega)).trans rt, (World.putObj_heap_other (by omega)).trans rr, (World.putObj_heap_other (by omega)).trans rn, hb.trans (belowK_b (w := w) (Nat.le_refl _) X _ _ o (by omega) hl rfl rfl)⟩, rfl⟩
    subst e
    rw [show X.heap[V.heap.size + 1]? = _ from hRx] at hl
    cases hl
  case assign =>
    rintro l k hk X K ⟨hm, rt, rr, rn, hb⟩ hK
    rw [hdr_len hk] at hm
    obtain ⟨y, hy⟩ : ∃ y, y = rs[k] := ⟨_, rfl⟩
    rw [← hy]
    have hy' : Hid _ := hy
    clear hy
    obtain ⟨A, L, M, O, I, T, U, E, C⟩ := y
    unfold rtV rtA at hK ⊢
    simp only at hK ⊢
    have HE : Hid _ := And.intro hm (And.intro rt (And.intro rr (And.intro rn (And.intro hb hBl))))
    clear hm rt rr rn hb
    gi_wp2
    obtain ⟨hm, rt, rr, rn, hb, hBl⟩ := HE.out
    exact hK _ _ ((KeepsOthers.alloc _ _).from _) (KpM.below (ent_new0 _ _)) ⟨hk, ⟨A, L, M, O, I, T, U, E, C⟩, X.heap.size, hy'.out, ⟨rt.lt, rr.lt⟩, Row.new X 155 [.int .i64 A, .int .i64 L, .int .i64 M, .int .i64 O, .int .i64 I, .int .i64 T, .int .i64 U, .int .i64 E, .bool C], ⟨hm.below (ent_new0 X _) hm.lt, rt.alloc _, rr.alloc _, rn.alloc _, hb.alloc hb.size _⟩, rfl⟩
  case body =>
    rintro l k hk' a' X ⟨hk, y, Bx, hy, ⟨hBx, hBr⟩, hRx, ⟨hm, rt, rr, rn, hb⟩, rfl⟩
    rw [hdr_len2 hk]
    have hne := map_row_ne hm hRx
    have hyy : Hid _ := hy
    clear hy
    obtain ⟨A, L, M, O, I, T, U, E, C⟩ := y
    unfold rtV rtA
    simp only [rtL] at hRx ⊢
    have x0 : X.cell? ⟨Bx, 0, none⟩ = some (.int .i64 A) := hRx.cell 0
    have x1 : X.cell? ⟨Bx, 1, none⟩ = some (.int .i64 L) := hRx.cell 1
    have x2 : X.cell? ⟨Bx, 2, none⟩ = some (.int .i64 M) := hRx.cell 2
    have x3 : X.cell? ⟨Bx, 3, none⟩ = some (.int .i64 O) := hRx.cell 3
    have x4 : X.cell? ⟨Bx, 4, none⟩ = some (.int .i64 I) := hRx.cell 4
    have x5 : X.cell? ⟨Bx, 5, none⟩ = some (.int .i64 T) := hRx.cell 5
    have x6 : X.cell? ⟨Bx, 6, none⟩ = some (.int .i64 U) := hRx.cell 6
    have x7 : X.cell? ⟨Bx, 7, none⟩ = some (.int .i64 E) := hRx.cell 7
    have x8 : X.cell? ⟨Bx, 8, none⟩ = some (.bool C) := hRx.cell 8
    have t0 : X.cell? ⟨b2, 0, none⟩ = some (.map (some B)) := rt.cell 0
    have t1 : X.cell? ⟨b2, 1, none⟩ = some (.func (.func 185) #[] #[]) := rt.cell 1
    have n0 : X.cell? ⟨w.heap.size + 1, 0, none⟩ = some (.int .i64 now) := rn.cell 0
    have HE0 : Hid _ := And.intro hm (And.intro rt (And.intro rr (And.intro rn (And.intro hb hRx))))
    clear hm rt rr rn hb hRx
    gi_wp2_with fail
    refine ⟨trivial, (CallsIn.inRound l (callsIn_wide.2 (HDu.out _ _))).mono ?_⟩
    rintro e X0 ⟨rfl, rfl⟩
    cases hE : dueB E now
    · gi_wp2_with fail
      refine ⟨trivial, (CallsIn.inRound l (callsIn_wide.2 (HDu.out _ _))).mono ?_⟩
      rintro e X0 ⟨rfl, rfl⟩
      cases hU : dueB U now
      · have hF : tickF now rs[k] = some rs[k] := by rw [← hyy.out]; simp [tickF, hE, hU]
        obtain ⟨hm, rt, rr, rn, hb, hRx⟩ := HE0.out
        rw [halfR_same hk hF] at hm
        have HZ : Hid _ := And.intro (keepsFrom_below (n := V.heap.size) (Below.refl X.heap.size X)) (And.intro (KpM.below (Below.refl X.heap.size X)) (And.intro hm (And.intro rt (And.intro rr (And.intro rn hb)))))
        clear hm rt rr rn hb hRx HE0 hF
        gi_wp2_with fail
        have hz := HZ.out
        rw [hsV] at hz
        exact hz
      · have hF : tickF now rs[k] = some (reachR ⟨A, L, M, O, I, T, U, E, C⟩ now) := by rw [← hyy.out]; simp [tickF, hE, hU]
        have hrn := reachR_net ⟨A, L, M, O, I, T, U, E, C⟩ now
        have HRk : Hid (∀ w, Calls Tryz.prog 193 #[.agg #[.int .i64 A, .int .i64 L, .int .i64 M, .int .i64 O, .int .i64 I, .int .i64 T, .int .i64 U, .int .i64 E, .bool C], .int .i64 now] w fun e w' => e = .returned (rtV (reachR ⟨A, L, M, O, I, T, U, E, C⟩ now)) ∧ Below w.heap.size w w') := HR.out ⟨A, L, M, O, I, T, U, E, C⟩
        have HPk : Hid (∀ w, MapIs w B (halfR (tickF now) rs k) → Calls Tryz.prog 184 #[.agg #[.map (some B), .func (.func 185) #[] #[]], .agg #[.int .i64 A, .int .i64 L], rtV (reachR ⟨A, L, M, O, I, T, U, E, C⟩ now)] w fun e w' => e = .returned (.tuple #[]) ∧ MapIs w' B (halfR (tickF now) rs (k + 1)) ∧ w.grownBy w' (some B)) := fun w h => by
          have := HP.out B _ (reachR ⟨A, L, M, O, I, T, U, E, C⟩ now) w h
          rw [halfR_put (tickF_net now) hris hk hF, hrn.1, hrn.2] at this
          exact this
        generalize reachR ⟨A, L, M, O, I, T, U, E, C⟩ now = RR at *
        obtain ⟨hm, rt, rr, rn, hb, hRx⟩ := HE0.out
        have HE : Hid _ := And.intro hm (And.intro rr hb)
        clear hm rr hb HE0 hF hrn x0 x1 x2 x3 x4 x5 x6 x7 x8 t0 t1 n0 HR HP HD HDu
        gi_wp2_with fail
        have hGN : (([(35, Is (.agg #[.map (some B), .func (.func 185) #[] #[]])), (36, Is (.pointer (some ⟨Bx, 0, none⟩))), (37, Is (.agg #[.int .i64 A, .int .i64 L])), (38, Is (.agg #[.int .i64 A, .int .i64 L, .int .i64 M, .int .i64 O, .int .i64 I, .int .i64 T, .int .i64 U, .int .i64 E, .bool C])), (39, Is (.int .i64 now)), (40, Is (rtV RR))] : List (Nat × (Value → World → Prop))).map (·.1)).Nodup := by simp
        refine wpIn_region_steady (by kernel_rfl) (fun ⟨_, _, h⟩ => nomatch h) 6 (SlotG [(35, Is (.agg #[.map (some B), .func (.func 185) #[] #[]])), (36, Is (.pointer (some ⟨Bx, 0, none⟩))), (37, Is (.agg #[.int .i64 A, .int .i64 L])), (38, Is (.agg #[.int .i64 A, .int .i64 L, .int .i64 M, .int .i64 O, .int .i64 I, .int .i64 T, .int .i64 U, .int .i64 E, .bool C])), (39, Is (.int .i64 now)), (40, Is (rtV RR))]) (by kernel_rfl) (by kernel_rfl) (Stabs.all ⟨stab_is _, stab_is _, stab_is _, stab_is _, stab_is _, stab_is _, trivial⟩) ?_ ?_
        · intro o ho
          simp only [List.take_succ_cons, List.take_zero, List.mem_cons, List.not_mem_nil, or_false] at ho
          rcases ho with rfl | rfl | rfl | rfl | rfl | rfl
          · intro a' w' hb ha hdep
            have d5 : a'.tmps.getD 5 undef = .pointer (some ⟨b2, 0, none⟩) := ha.at 5 (by kernel_rfl)
            have hmk := fun (x : Value) (W : World) => SlotG.mk (x := x) (w := W) 0 rfl hGN
            clear hGN ha hdep
            have y0 : w'.cell? ⟨b2, 0, none⟩ = some (.map (some B)) := (rt.below hb rt.lt).cell 0
            have y1 : w'.cell? ⟨b2, 1, none⟩ = some (.func (.func 185) #[] #[]) := (rt.below hb rt.lt).cell 1
            go_simp
            exact ⟨_, rfl, Below.refl _ _, hmk _ _ rfl⟩
          · intro a' w' hb ha hdep
            have d6 : a'.tmps.getD 6 undef = .pointer (some ⟨Bx, 0, none⟩) := ha.at 6 (by kernel_rfl)
            have hmk := fun (x : Value) (W : World) => SlotG.mk (x := x) (w := W) 1 rfl hGN
            clear hGN ha hdep
            go_simp
            exact ⟨_, rfl, Below.refl _ _, hmk _ _ rfl⟩
          · intro a' w' hb ha hdep
            have d36 : a'.tmps.getD 36 undef = .pointer (some ⟨Bx, 0, none⟩) := (hdep 36 (of_decide_eq_true (by kernel_rfl))).is 1 rfl
            have hmk := fun (x : Value) (W : World) => SlotG.mk (x := x) (w := W) 2 rfl hGN
            clear hGN ha hdep
            have y0 : w'.cell? ⟨Bx, 0, none⟩ = some (.int .i64 A) := (hRx.below hb hRx.lt).cell 0
            have y1 : w'.cell? ⟨Bx, 1, none⟩ = some (.int .i64 L) := (hRx.below hb hRx.lt).cell 1
            go_simp
            exact ⟨_, rfl, Below.refl _ _, hmk _ _ rfl⟩
          · intro a' w' hb ha hdep
            have d6 : a'.tmps.getD 6 undef = .pointer (some ⟨Bx, 0, none⟩) := ha.at 6 (by kernel_rfl)
            have hmk := fun (x : Value) (W : World) => SlotG.mk (x := x) (w := W) 3 rfl hGN
            clear hGN ha hdep
            have y0 : w'.cell? ⟨Bx, 0, none⟩ = some (.int .i64 A) := (hRx.below hb hRx.lt).cell 0
            have y1 : w'.cell? ⟨Bx, 1, none⟩ = some (.int .i64 L) := (hRx.below hb hRx.lt).cell 1
            have y2 : w'.cell? ⟨Bx, 2, none⟩ = some (.int .i64 M) := (hRx.below hb hRx.lt).cell 2
            have y3 : w'.cell? ⟨Bx, 3, none⟩ = some (.int .i64 O) := (hRx.below hb hRx.lt).cell 3
            have y4 : w'.cell? ⟨Bx, 4, none⟩ = some (.int .i64 I) := (hRx.below hb hRx.lt).cell 4
            have y5 : w'.cell? ⟨Bx, 5, none⟩ = some (.int .i64 T) := (hRx.below hb hRx.lt).cell 5
            have y6 : w'.cell? ⟨Bx, 6, none⟩ = some (.int .i64 U) := (hRx.below hb hRx.lt).cell 6
            have y7 : w'.cell? ⟨Bx, 7, none⟩ = some (.int .i64 E) := (hRx.below hb hRx.lt).cell 7
            have y8 : w'.cell? ⟨Bx, 8, none⟩ = some (.bool C) := (hRx.below hb hRx.lt).cell 8
            go_simp
            exact ⟨_, rfl, Below.refl _ _, hmk _ _ rfl⟩
          · intro a' w' hb ha hdep
            have d3 : a'.tmps.getD 3 undef = .pointer (some ⟨w.heap.size + 1, 0, none⟩) := ha.at 3 (by kernel_rfl)
            have hmk := fun (x : Value) (W : World) => SlotG.mk (x := x) (w := W) 4 rfl hGN
            clear hGN ha hdep
            have y0 : w'.cell? ⟨w.heap.size + 1, 0, none⟩ = some (.int .i64 now) := (rn.below hb rn.lt).cell 0
            go_simp
            exact ⟨_, rfl, Below.refl _ _, hmk _ _ rfl⟩
          · intro a' w' hb ha hdep
            have d38 : a'.tmps.getD 38 undef = .agg #[.int .i64 A, .int .i64 L, .int .i64 M, .int .i64 O, .int .i64 I, .int .i64 T, .int .i64 U, .int .i64 E, .bool C] := (hdep 38 (of_decide_eq_true (by kernel_rfl))).is 3 rfl
            have d39 : a'.tmps.getD 39 undef = .int .i64 now := (hdep 39 (of_decide_eq_true (by kernel_rfl))).is 4 rfl
            have hmk := fun (x : Value) (W : World) => SlotG.mk (x := x) (w := W) 5 rfl hGN
            clear hGN ha hdep
            go_simp
            refine (HRk.out _).mono ?_
            rintro e w2 ⟨rfl, hb2⟩
            exact ⟨_, rfl, hb2, hmk _ _ rfl⟩
        · intro a' w' hb ha hG
          clear hGN
          have d35 : a'.tmps.getD 35 undef = .agg #[.map (some B), .func (.func 185) #[] #[]] := (hG _ (List.mem_of_getElem? (i := 0) rfl) 35 rfl).is 0 rfl
          have d37 : a'.tmps.getD 37 undef = .agg #[.int .i64 A, .int .i64 L] := (hG _ (List.mem_of_getElem? (i := 2) rfl) 37 rfl).is 2 rfl
          have d40 : a'.tmps.getD 40 undef = rtV RR := (hG _ (List.mem_of_getElem? (i := 5) rfl) 40 rfl).is 5 rfl
          have e2 : a' = ⟨#[a'.tmps.getD 0 undef, a'.tmps.getD 1 undef, a'.tmps.getD 2 undef, a'.tmps.getD 3 undef, a'.tmps.getD 4 undef, a'.tmps.getD 5 undef, a'.tmps.getD 6 undef, a'.tmps.getD 7 undef, a'.tmps.getD 8 undef, a'.tmps.getD 9 undef, a'.tmps.getD 10 undef, a'.tmps.getD 11 undef, a'.tmps.getD 12 undef, a'.tmps.getD 13 undef, a'.tmps.getD 14 undef, a'.tmps.getD 15 undef, a'.tmps.getD 16 undef, a'.tmps.getD 17 undef, a'.tmps.getD 18 undef, a'.tmps.getD 19 undef, a'.tmps.getD 20 undef, a'.tmps.getD 21 undef, a'.tmps.getD 22 undef, a'.tmps.getD 23 undef, a'.tmps.getD 24 undef, a'.tmps.getD 25 undef, a'.tmps.getD 26 undef, a'.tmps.getD 27 undef, a'.tmps.getD 28 undef, a'.tmps.getD 29 undef, a'.tmps.getD 30 undef, a'.tmps.getD 31 undef, a'.tmps.getD 32 undef, a'.tmps.getD 33 undef, a'.tmps.getD 34 undef, a'.tmps.getD 35 undef, a'.tmps.getD 36 undef, a'.tmps.getD 37 undef, a'.tmps.getD 38 undef, a'.tmps.getD 39 undef, a'.tmps.getD 40 undef, a'.tmps.getD 41 undef, a'.tmps.getD 42 undef, a'.tmps.getD 43 undef, a'.tmps.getD 44 undef], []⟩ := by rw [← (show a'.defers = [] from ha.2.1)]; exact act_eq a' 45 ha.1
          rw [d35, d37, d40] at e2
          clear hG ha d35 d37 d40
          generalize a'.tmps.getD 0 undef = x0 at *
          generalize a'.tmps.getD 1 undef = x1 at *
          generalize a'.tmps.getD 2 undef = x2 at *
          generalize a'.tmps.getD 3 undef = x3 at *
          generalize a'.tmps.getD 4 undef = x4 at *
          generalize a'.tmps.getD 5 undef = x5 at *
          generalize a'.tmps.getD 6 undef = x6 at *
          generalize a'.tmps.getD 7 undef = x7 at *
          generalize a'.tmps.getD 8 undef = x8 at *
          generalize a'.tmps.getD 9 undef = x9 at *
          generalize a'.tmps.getD 10 undef = x10 at *
          generalize a'.tmps.getD 11 undef = x11 at *
          generalize a'.tmps.getD 12 undef = x12 at *
          generalize a'.tmps.getD 13 undef = x13 at *
          generalize a'.tmps.getD 14 undef = x14 at *
          generalize a'.tmps.getD 15 undef = x15 at *
          generalize a'.tmps.getD 16 undef = x16 at *
          generalize a'.tmps.getD 17 undef = x17 at *
          generalize a'.tmps.getD 18 undef = x18 at *
          generalize a'.tmps.getD 19 undef = x19 at *
          generalize a'.tmps.getD 20 undef = x20 at *
          generalize a'.tmps.getD 21 undef = x21 at *
          generalize a'.tmps.getD 22 undef = x22 at *
          generalize a'.tmps.getD 23 undef = x23 at *
          generalize a'.tmps.getD 24 undef = x24 at *
          generalize a'.tmps.getD 25 undef = x25 at *
          generalize a'.tmps.getD 26 undef = x26 at *
          generalize a'.tmps.getD 27 undef = x27 at *
          generalize a'.tmps.getD 28 undef = x28 at *
          generalize a'.tmps.getD 29 undef = x29 at *
          generalize a'.tmps.getD 30 undef = x30 at *
          generalize a'.tmps.getD 31 undef = x31 at *
          generalize a'.tmps.getD 32 undef = x32 at *
          generalize a'.tmps.getD 33 undef = x33 at *
          generalize a'.tmps.getD 34 undef = x34 at *
          generalize a'.tmps.getD 36 undef = x36 at *
          generalize a'.tmps.getD 38 undef = x38 at *
          generalize a'.tmps.getD 39 undef = x39 at *
          generalize a'.tmps.getD 41 undef = x41 at *
          generalize a'.tmps.getD 42 undef = x42 at *
          generalize a'.tmps.getD 43 undef = x43 at *
          generalize a'.tmps.getD 44 undef = x44 at *
          subst e2
          simp only [List.drop_succ_cons, List.drop_zero]
          obtain ⟨hm, rr, hbX⟩ := HE.out
          have hmm := hm.below hb hm.lt
          have hmw : ∃ es c, w'.heap[B]? = some (.map es c) := by obtain ⟨es, c, h, _⟩ := hmm; exact ⟨es, c, h⟩
          have rt := rt.below hb rt.lt
          have rn := rn.below hb rn.lt
          have rr := rr.below hb rr.lt
          have hbX := hbX.trans (hb.mono hbX.size)
          have hkf : KeepsFrom V.heap.size X w' := keepsFrom_below hb
          have hkp : KpM X w' := KpM.below hb
          clear hb HE hm hRx HRk
          go_wp2_with fail
          refine (HPk.out _ hmm).mono ?_
          rintro e X2 ⟨rfl, hm2, hg2⟩
          have HZ : Hid _ := And.intro (keepsFrom_trans hkf (keepsFrom_grown hg2 (by omega : B < V.heap.size))) (And.intro (hkp.t (KpM.grown hg2 hmw)) (And.intro hm2 (And.intro (grown_row hg2 rt (by omega)) (And.intro (grown_row hg2 rr (by omega)) (And.intro (grown_row hg2 rn (by omega)) (hbX.grown hg2 hbX.size (fun k e => by cases e; omega)))))))
          clear hmm hm2 hg2 hmw hkp hkf rt rr rn hbX
          go_wp2_with fail
          have hz := HZ.out
          rw [hsV] at hz
          exact hz
    · have hF : tickF now rs[k] = none := by rw [← hyy.out]; simp [tickF, hE]
      have hyn : rs[k].a = A ∧ rs[k].l = L := by rw [← hyy.out]; exact ⟨rfl, rfl⟩
      have HDk : Hid (∀ w, MapIs w B (halfR (tickF now) rs k) → Calls Tryz.prog 192 #[.agg #[.map (some B), .func (.func 185) #[] #[]], .agg #[.int .i64 A, .int .i64 L]] w fun e w' => e = .returned (.tuple #[]) ∧ MapIs w' B (halfR (tickF now) rs (k + 1)) ∧ w.grownBy w' (some B)) := fun w h => by
        have := HD.out B _ rs[k].a rs[k].l w h
        rw [halfR_drop (tickF_net now) hris hk hF, hyn.1, hyn.2] at this
        exact this
      clear hyn hF
      gi_wp2_with fail
      obtain ⟨hm, rt, rr, rn, hb, hRx⟩ := HE0.out
      refine ⟨trivial, (CallsIn.inRound l (callsIn_wide.2 (HDk.out _ hm))).mono ?_⟩
      rintro e X2 ⟨rfl, hm2, hg2⟩
      have hmm : ∃ es c, X.heap[B]? = some (.map es c) := by obtain ⟨es, c, h, _⟩ := hm; exact ⟨es, c, h⟩
      have HZ : Hid _ := And.intro (keepsFrom_grown hg2 (by omega : B < V.heap.size)) (And.intro (KpM.grown hg2 hmm) (And.intro hm2 (And.intro (grown_row hg2 rt (by omega)) (And.intro (grown_row hg2 rr (by omega)) (And.intro (grown_row hg2 rn (by omega)) (hb.grown hg2 hb.size (fun k e => by cases e; omega)))))))
      clear hm hm2 hg2 hmm rt rr rn hb hRx HE0 x0 x1 x2 x3 x4 x5 x6 x7 x8 t0 t1 n0
      gi_wp2_with fail
      have hz := HZ.out
      rw [hsV] at hz
      exact hz
  case done =>
    rintro X ⟨hm, rt, rr, rn, hb⟩ hK
    rw [halfR_end] at hm
    have t0 : X.cell? ⟨b2, 0, none⟩ = some (.map (some B)) := rt.cell 0
    have t1 : X.cell? ⟨b2, 1, none⟩ = some (.func (.func 185) #[] #[]) := rt.cell 1
    have HE : Hid _ := And.intro hm (And.intro rr (And.intro hb (And.intro hK hB.size)))
    clear hm rt rr rn hb hK rt' hM hB HP
    gi_wp2_with fail
    refine ⟨trivial, ?_⟩
    obtain ⟨hm, rr, hb, hK, hBs⟩ := HE.out
    refine (callsIn_wide.2 (HO.out B _ hm)).mono ?_
    rintro e X1 ⟨q, c, rfl, ho, hb1⟩
    have hsX := rr.lt
    have rr := rr.below hb1 rr.lt
    have hK : X1.heap[V.heap.size]? = _ := (hb1.block _ (Array.getElem?_eq_some_iff.1 hK).1).trans hK
    have hb := hb.trans (hb1.mono hb.size)
    clear t0 t1 HE HO hm
    have f0 : X1.frozen? ⟨w.heap.size + 1 + 1, 0, none⟩ = false := rr.frozen 0
    have z0 : X1.cell? ⟨w.heap.size + 1 + 1, 0, none⟩ = some (.slice none 0 0) := rr.cell 0
    have f1 : X1.frozen? ⟨w.heap.size + 1 + 1, 1, none⟩ = false := rr.frozen 1
    have z1 : X1.cell? ⟨w.heap.size + 1 + 1, 1, none⟩ = some (.int .i64 0) := rr.cell 1
    have HF : Hid _ := And.intro ((rr.set 0 (.slice q (rs.filterMap (tickF now)).length c)).set 1 (.int .i64 0)) (And.intro ((hb.setCell (p := ⟨w.heap.size + 1 + 1, 0, none⟩) (by show w.heap.size ≤ w.heap.size + 1 + 1; omega) (.slice q (rs.filterMap (tickF now)).length c)).setCell (p := ⟨w.heap.size + 1 + 1, 1, none⟩) (by show w.heap.size ≤ w.heap.size + 1 + 1; omega) (.int .i64 0)) (And.intro (((Below.heap_setCell _ _ _ _ (by show V.heap.size ≠ w.heap.size + 1 + 1; omega)).trans ((Below.heap_setCell _ _ _ _ (by show V.heap.size ≠ w.heap.size + 1 + 1; omega)).trans hK)) : ((X1.setCell ⟨w.heap.size + 1 + 1, 0, none⟩ (.slice q (rs.filterMap (tickF now)).length c)).setCell ⟨w.heap.size + 1 + 1, 1, none⟩ (.int .i64 0)).heap[V.heap.size]? = some (.deferred (some []))) (ownR_set (base' := w.heap.size) (ownR_set (base' := X.heap.size) ho ⟨w.heap.size + 1 + 1, 0, none⟩ (by show w.heap.size + 1 + 1 < _; omega) (.slice q (rs.filterMap (tickF now)).length c) (Nat.le_refl _)) ⟨w.heap.size + 1 + 1, 1, none⟩ (by show w.heap.size + 1 + 1 < _; omega) (.int .i64 0) (by omega))))
    clear rr hb hK ho hb1
    gi_wp2_with fail
    have hF := HF.out
    clear HF f0 z0 f1 z1
    generalize (X1.setCell ⟨w.heap.size + 1 + 1, 0, none⟩ (.slice q (rs.filterMap (tickF now)).length c)).setCell ⟨w.heap.size + 1 + 1, 1, none⟩ (.int .i64 0) = Z at *
    obtain ⟨h1, h2, h3, h7⟩ := hF
    rw [hsV] at h3
    refine ⟨by simp, .inl ⟨_, _, rfl, run_takeDeferred h3, ?_⟩⟩
    have h4 : Below w.heap.size Z (Z.putObj (b2 + 1 + 1) (.deferred none)) := belowK_b (w := w) (Nat.le_refl _) Z (b2 + 1 + 1) _ _ (by omega) h3 rfl rfl
    have h5 : Row (Z.putObj (b2 + 1 + 1) (.deferred none)) (w.heap.size + 1 + 1) 94 [.slice q (rs.filterMap (tickF now)).length c, .int .i64 0] := (World.putObj_heap_other (by omega)).trans h1
    have h6 := h2.trans h4
    have h8 : (Z.putObj (b2 + 1 + 1) (.deferred none)).ownsRow w.heap.size 155 9 (.slice q (rs.filterMap (tickF now)).length c) (rs.filterMap (tickF now)).length (rowR (rs.filterMap (tickF now))) := World.ownsRow.kept h7 (row := some (b2 + 1 + 1)) (grownBy_putObj' Z (b2 + 1 + 1) (.deferred none)) (by
      rcases h7.2 with ⟨e, _⟩ | ⟨g, _, _, e, _, hg, _⟩
      · left; rw [e]; rfl
      · right
        rw [e]
        intro e'
        have e'' : g = (b2 + 1 + 1) := by simpa [Value.ownBlock] using e'
        rw [e'', h3] at hg
        cases hg)
    clear h1 h2 h3 h4 h7
    generalize Z.putObj (b2 + 1 + 1) (.deferred none) = Y at *
    have e0 : Y.cell? ⟨w.heap.size + 1 + 1, 0, none⟩ = some (.slice q (rs.filterMap (tickF now)).length c) := h5.cell 0
    have e1 : Y.cell? ⟨w.heap.size + 1 + 1, 1, none⟩ = some (.int .i64 0) := h5.cell 1
    refine ⟨.agg #[.slice q (rs.filterMap (tickF now)).length c, .int .i64 0], by simp [results, Tryz.results172, go_sem, e0, e1], ?_⟩
    exact ⟨⟨q, c, rfl, h8⟩, h6⟩
end Go.Proofs.YtcnadobnihbldaaGreat
/- RibTick of the program, at every argument. (Written by gen_tickt.py.) -/
namespace Go.Proofs.YtcnadobnihbldaaGreat
open Go.RowKit Go.Sort

set_option maxRecDepth 100000 in
set_option maxHeartbeats 2000000 in
theorem implTick_any (p : Option Addr) (cap : Nat) (rs : List Rt) (now : Int) (w : World) (h : RtsIn w p rs) (hn : rs.length ≤ 100000000) :
    Calls Tryz.prog 172 #[ribV p rs.length cap, .int .i64 now] w fun e w' => OutR w.heap.size (tickO rs now).1 (tickO rs now).2 e w' ∧ Below w.heap.size w w' := by
  unfold tickO
  cases h1 : ribB rs
  · have HB : Hid (∀ w, RtsIn w p rs → Calls Tryz.prog 146 #[.agg #[.slice p rs.length cap]] w fun e w' => e = .returned (.bool false) ∧ Below w.heap.size w w') := fun w h => by have := implRib_any p cap rs w h hn; rw [h1] at this; exact this
    have HX : Hid (RtsIn w p rs) := h
    simp only [Bool.false_and, Bool.false_eq_true, if_false]
    clear h hn h1
    generalize rs.length = N at *
    obtain ⟨W, hW, q0, q1, qr, hB, hS, -⟩ := rows3 w [.slice p N cap] [.int .i64 now] [.slice none 0 0, .int .i64 0] 59 2 94
    have HW : Hid _ := hW
    have HQ : Hid _ := And.intro q0 (And.intro q1 (And.intro qr hB))
    have x0 : W.cell? ⟨w.heap.size, 0, none⟩ = some (.slice p N cap) := q0.cell 0
    clear q0 q1 qr hB
    unfold ribV
    go_enter Tryz.func172, Tryz.ntmps172
    rw [hW] at x0
    clear hW
    go_wp2_with fail
    rw [← HW.out]
    obtain ⟨q0, q1, qr, hB⟩ := HQ.out
    clear x0
    refine (HB.out _ ((HX.out).below hB)).mono ?_
    rintro e w1 ⟨rfl, hb1⟩
    have q1 := q1.below hb1 (by omega)
    have qr := qr.below hb1 (by omega)
    have hB := hB.trans (hb1.mono (by omega))
    have hs1 := hb1.size
    have n0 : w1.cell? ⟨w.heap.size + 1, 0, none⟩ = some (.int .i64 now) := q1.cell 0
    clear HB HW HQ hb1 q0 q1
    clear n0
    have f0 : w1.frozen? ⟨w.heap.size + 1 + 1, 0, none⟩ = false := qr.frozen 0
    have f1 : w1.frozen? ⟨w.heap.size + 1 + 1, 1, none⟩ = false := qr.frozen 1
    have z0 : w1.cell? ⟨w.heap.size + 1 + 1, 0, none⟩ = some (.slice none 0 0) := qr.cell 0
    have z1 : w1.cell? ⟨w.heap.size + 1 + 1, 1, none⟩ = some (.int .i64 0) := qr.cell 1
    have HE2 : Hid _ := And.intro ((qr.set 0 (.slice none 0 0)).set 1 (.int .i64 1)) (And.intro ((hB.setCell (p := ⟨w.heap.size + 1 + 1, 0, none⟩) (by show w.heap.size ≤ w.heap.size + 1 + 1; omega) (.slice none 0 0)).setCell (p := ⟨w.heap.size + 1 + 1, 1, none⟩) (by show w.heap.size ≤ w.heap.size + 1 + 1; omega) (.int .i64 1)) trivial)
    clear qr hB 
    go_wp2_with fail
    obtain ⟨h1, h2, h3⟩ := HE2.out
    clear HE2 f0 f1 z0 z1
    generalize (w1.setCell ⟨w.heap.size + 1 + 1, 0, none⟩ (.slice none 0 0)).setCell ⟨w.heap.size + 1 + 1, 1, none⟩ (.int .i64 1) = Z at *
    have e0 : Z.cell? ⟨w.heap.size + 1 + 1, 0, none⟩ = some (.slice none 0 0) := h1.cell 0
    have e1 : Z.cell? ⟨w.heap.size + 1 + 1, 1, none⟩ = some (.int .i64 1) := h1.cell 1
    exact bodyPost_ret (v := .agg #[.slice none 0 0, .int .i64 1]) (by simp [results, Tryz.results172, go_sem, e0, e1]) rfl ⟨⟨_, _, rfl, World.ownsRow_nil _ _ _ 9⟩, h2⟩
  · cases h2 : inNow now
    · have HB : Hid (∀ w, RtsIn w p rs → Calls Tryz.prog 146 #[.agg #[.slice p rs.length cap]] w fun e w' => e = .returned (.bool true) ∧ Below w.heap.size w w') := fun w h => by have := implRib_any p cap rs w h hn; rw [h1] at this; exact this
      have HI : Hid (∀ w, Calls Tryz.prog 176 #[.int .i64 now] w fun e w' => e = .returned (.bool false) ∧ w = w') := fun w => by have := isNow_any now w; rw [h2] at this; exact this
      have HX : Hid (RtsIn w p rs) := h
      simp only [Bool.true_and, Bool.false_eq_true, if_false]
      clear h hn h1 h2
      generalize rs.length = N at *
      obtain ⟨W, hW, q0, q1, qr, hB, hS, -⟩ := rows3 w [.slice p N cap] [.int .i64 now] [.slice none 0 0, .int .i64 0] 59 2 94
      have HW : Hid _ := hW
      have HQ : Hid _ := And.intro q0 (And.intro q1 (And.intro qr hB))
      have x0 : W.cell? ⟨w.heap.size, 0, none⟩ = some (.slice p N cap) := q0.cell 0
      clear q0 q1 qr hB
      unfold ribV
      go_enter Tryz.func172, Tryz.ntmps172
      rw [hW] at x0
      clear hW
      go_wp2_with fail
      rw [← HW.out]
      obtain ⟨q0, q1, qr, hB⟩ := HQ.out
      clear x0
      refine (HB.out _ ((HX.out).below hB)).mono ?_
      rintro e w1 ⟨rfl, hb1⟩
      have q1 := q1.below hb1 (by omega)
      have qr := qr.below hb1 (by omega)
      have hB := hB.trans (hb1.mono (by omega))
      have hs1 := hb1.size
      have n0 : w1.cell? ⟨w.heap.size + 1, 0, none⟩ = some (.int .i64 now) := q1.cell 0
      clear HB HW HQ hb1 q0 q1
      go_wp2_with fail
      refine (HI.out _).mono ?_
      rintro e w1' ⟨rfl, rfl⟩
      clear n0 HI
      have f0 : w1.frozen? ⟨w.heap.size + 1 + 1, 0, none⟩ = false := qr.frozen 0
      have f1 : w1.frozen? ⟨w.heap.size + 1 + 1, 1, none⟩ = false := qr.frozen 1
      have z0 : w1.cell? ⟨w.heap.size + 1 + 1, 0, none⟩ = some (.slice none 0 0) := qr.cell 0
      have z1 : w1.cell? ⟨w.heap.size + 1 + 1, 1, none⟩ = some (.int .i64 0) := qr.cell 1
      have HE2 : Hid _ := And.intro ((qr.set 0 (.slice none 0 0)).set 1 (.int .i64 1)) (And.intro ((hB.setCell (p := ⟨w.heap.size + 1 + 1, 0, none⟩) (by show w.heap.size ≤ w.heap.size + 1 + 1; omega) (.slice none 0 0)).setCell (p := ⟨w.heap.size + 1 + 1, 1, none⟩) (by show w.heap.size ≤ w.heap.size + 1 + 1; omega) (.int .i64 1)) trivial)
      clear qr hB 
      go_wp2_with fail
      obtain ⟨h1, h2, h3⟩ := HE2.out
      clear HE2 f0 f1 z0 z1
      generalize (w1.setCell ⟨w.heap.size + 1 + 1, 0, none⟩ (.slice none 0 0)).setCell ⟨w.heap.size + 1 + 1, 1, none⟩ (.int .i64 1) = Z at *
      have e0 : Z.cell? ⟨w.heap.size + 1 + 1, 0, none⟩ = some (.slice none 0 0) := h1.cell 0
      have e1 : Z.cell? ⟨w.heap.size + 1 + 1, 1, none⟩ = some (.int .i64 1) := h1.cell 1
      exact bodyPost_ret (v := .agg #[.slice none 0 0, .int .i64 1]) (by simp [results, Tryz.results172, go_sem, e0, e1]) rfl ⟨⟨_, _, rfl, World.ownsRow_nil _ _ _ 9⟩, h2⟩
    · simp only [Bool.true_and, if_true]
      have hw := h2
      simp only [inNow, Bool.and_eq_true, decide_eq_true_eq] at hw
      exact implTick_right p cap rs now w h h1 hw.1 hw.2 h2 (tick_ribs h1 h2)

end Go.Proofs.YtcnadobnihbldaaGreat
/- A table at work: tick. (Written by gen_work.py.) -/
namespace Go.Proofs.YtcnadobnihbldaaGreat
open Go.RowKit Go.Sort

set_option maxRecDepth 100000 in
set_option maxHeartbeats 2000000 in
theorem tickAt_any (g k : Nat) (T : TypeId) (l : List Value) (p : Option Addr) (c0 : Nat) (rs : List Rt) (now : Int) (w : World) (hr : Row w g T l) (hk : l[k]? = some (.slice p rs.length c0)) (h : RtsIn w p rs) (hn : rs.length ≤ 100000000) :
    Calls Tryz.prog 151 #[.pointer (some ⟨g, k, none⟩), .int .i64 now] w fun e w' => e = .returned (.int .i64 (tickO rs now).1) ∧ Took g k T l w.heap.size (tickO rs now).1 (tickO rs now).2 w w' := by
  have HC : Hid (∀ w, RtsIn w p rs → Calls Tryz.prog 172 #[.agg #[.slice p rs.length c0], .int .i64 now] w fun e w' => OutR w.heap.size (tickO rs now).1 (tickO rs now).2 e w' ∧ Below w.heap.size w w') := fun w h => implTick_any p c0 rs now w h hn
  have HX : Hid (RtsIn w p rs) := h
  have HF : Hid (∀ q c (w1 w2 : World), Below w.heap.size w w1 → w1.ownsRow w.heap.size 155 9 (.slice q (tickO rs now).2.length c) (tickO rs now).2.length (rowR (tickO rs now).2) → Row w2 g T (if (tickO rs now).1 = 0 then l.set k (.slice q (tickO rs now).2.length c) else l) → Below g w1 w2 → (∀ b t l, b ≠ g → Row w1 b t l → Row w2 b t l) → Took g k T l w.heap.size (tickO rs now).1 (tickO rs now).2 w w2) := fun q c w1 w2 a b d e f => took_of hr.lt a b d e f
  clear h hn
  generalize (tickO rs now) = RR at *
  obtain ⟨cc, qs⟩ := RR
  simp only at HC HF ⊢
  unfold OutR at HC
  have HT : Hid (∀ q c (w : World), Row w g T l → Calls Tryz.prog 137 #[.pointer (some ⟨g, k, none⟩), .agg #[.slice q qs.length c, .int .i64 cc]] w fun e w' => e = .returned (.int .i64 cc) ∧ Row w' g T (if cc = 0 then l.set k (.slice q qs.length c) else l) ∧ Below g w w' ∧ ∀ b t l, b ≠ g → Row w b t l → Row w' b t l) := fun q c w hr => take_any g k T l q _ c cc _ w hr hk
  generalize rs.length = n at *
  generalize qs.length = N at *
  have y0 : w.cell? ⟨g, k, none⟩ = some (.slice p n c0) := (hr.cell k).trans hk
  go_enter Tryz.func151, Tryz.ntmps151
  go_wp2_with fail
  refine (HC.out _ HX.out).mono ?_
  rintro e w1 ⟨⟨q, c, rfl, ho⟩, hb1⟩
  have r1 := hr.below hb1 hr.lt
  clear y0 HC HX
  go_wp2_with fail
  refine (HT.out q c _ r1).mono ?_
  rintro e w2 ⟨rfl, r2, hb2, hk2⟩
  have hf := HF.out q c w1 w2 hb1 ho r2 hb2 hk2
  clear hb1 ho r2 hb2 hk2 r1 hr HF HT
  go_wp2
  go_ret
  exact ⟨rfl, hf⟩
end Go.Proofs.YtcnadobnihbldaaGreat
/- RibLose of the program. (Written by gen_lose.py.) -/
namespace Go.Proofs.YtcnadobnihbldaaGreat
open Go.RowKit Go.Sort Go.Shelf
attribute [local go_sem] Oper.semAt_some

theorem rows4 (w : World) (x y z v : List Value) (t1 t2 t3 t4 : TypeId) : ∃ W, W = (((w.alloc (.cells x.toArray t1)).alloc (.cells y.toArray t2)).alloc (.cells z.toArray t3)).alloc (.cells v.toArray t4) ∧ Row W w.heap.size t1 x ∧ Row W (w.heap.size + 1) t2 y ∧ Row W (w.heap.size + 1 + 1) t3 z ∧ Row W (w.heap.size + 1 + 1 + 1) t4 v ∧ Below w.heap.size w W ∧ W.heap.size = w.heap.size + 1 + 1 + 1 + 1 := by
  obtain ⟨W, rfl, q0, q1, q2, hB, hS, -⟩ := rows3 w x y z t1 t2 t3
  refine ⟨_, rfl, q0.alloc _, q1.alloc _, q2.alloc _, ?_, hB.alloc hB.size _, by simp only [World.size_alloc, hS]⟩
  have := Row.new (((w.alloc (.cells x.toArray t1)).alloc (.cells y.toArray t2)).alloc (.cells z.toArray t3)) t4 v
  rw [hS] at this
  exact this
set_option maxRecDepth 100000 in
set_option maxHeartbeats 4000000 in
theorem implLose_right (p : Option Addr) (cap : Nat) (rs : List Rt) (i now : Int) (w : World) (h : RtsIn w p rs) (hr : ribB rs = true) (h0 : 0 ≤ now) (h1 : now ≤ 999900) (hnow : inNow now = true) (hr2 : ribB (rs.filterMap (loseF i now)) = true) :
    Calls Tryz.prog 183 #[ribV p rs.length cap, .int .i64 i, .int .i64 now] w fun e w' => OutR w.heap.size 0 (rs.filterMap (loseF i now)) e w' ∧ Below w.heap.size w w' := by
  have h8 := (ribB_spec hr).1
  have HB : Hid (∀ w, RtsIn w p rs → Calls Tryz.prog 146 #[.agg #[.slice p rs.length cap]] w fun e w' => e = .returned (.bool true) ∧ Below w.heap.size w w') := fun w h => by have := implRib_any p cap rs w h (by omega); rw [hr] at this; exact this
  have HL : Hid (∀ w, RtsIn w p rs → Calls Tryz.prog 162 #[.agg #[.slice p rs.length cap]] w fun e w' => ∃ B, e = .returned (.agg #[.map (some B), .func (.func 185) #[] #[]]) ∧ w.heap.size ≤ B ∧ MapIs w' B rs ∧ Below w.heap.size w w') := fun w h => (laidOut_any p cap rs w h (by omega)).mono fun e w' h => by
    obtain ⟨B, e1, hB, hm, hb⟩ := h
    rw [laidN_right hr] at hm
    exact ⟨B, e1, hB, hm, hb⟩
  have HA : Hid (∀ B w, Calls Tryz.prog 190 #[.agg #[.map (some B), .func (.func 185) #[] #[]]] w fun e w' => e = .returned (.func (.func 196) #[] #[.pointer (some ⟨w.heap.size, 0, none⟩)]) ∧ w.alloc (.cells #[.map (some B), .func (.func 185) #[] #[]] 212) = w') := fun B w => all_make B w
  have HP : Hid (∀ B ms r w, MapIs w B ms → Calls Tryz.prog 184 #[tabV B, netV r.a r.l, rtV r] w fun e w' => e = .returned (.tuple #[]) ∧ MapIs w' B (putN ms r) ∧ w.grownBy w' (some B)) := put_any
  have HD : Hid (∀ B ms a l w, MapIs w B ms → Calls Tryz.prog 192 #[tabV B, netV a l] w fun e w' => e = .returned (.tuple #[]) ∧ MapIs w' B (dropN ms a l) ∧ w.grownBy w' (some B)) := drop_any
  have HNw : Hid (∀ w, Calls Tryz.prog 176 #[.int .i64 now] w fun e w' => e = .returned (.bool true) ∧ w = w') := fun w => by have := isNow_any now w; rw [hnow] at this; exact this
  have HOw : Hid (∀ (r : Rt) w, Calls Tryz.prog 175 #[rtV r] w fun e w' => e = .returned (.bool (decide (r.n = 0))) ∧ Below w.heap.size w w') := fun r w => isOwn_any r w
  have HR : Hid (∀ r w, Calls Tryz.prog 193 #[rtV r, .int .i64 now] w fun e w' => e = .returned (rtV (reachR r now)) ∧ Below w.heap.size w w') := fun r w => outOfReach_any r now w h0 h1
  clear hnow h0 h1
  have HO : Hid (∀ B w, MapIs w B (rs.filterMap (loseF i now)) → Calls Tryz.prog 179 #[.agg #[.map (some B), .func (.func 185) #[] #[]]] w fun e w' => ∃ p cap, e = .returned (.agg #[.slice p (rs.filterMap (loseF i now)).length cap]) ∧ w'.ownsRow w.heap.size 155 9 (.slice p (rs.filterMap (loseF i now)).length cap) (rs.filterMap (loseF i now)).length (rowR (rs.filterMap (loseF i now))) ∧ Below w.heap.size w w') := fun B w h => ribOf_any B _ _ (List.Perm.refl _) hr2 w h
  have hris := rib_rising hr
  have HX : Hid (RtsIn w p rs) := h
  clear h
  obtain ⟨W, hW, q0, q1, q2, q3, hB, hS⟩ := rows4 w [.slice p rs.length cap] [.int .i64 i] [.int .i64 now] [.slice none 0 0, .int .i64 0] 59 2 2 94
  have HW : Hid _ := hW
  have c0 : W.cell? ⟨w.heap.size, 0, none⟩ = some (.slice p rs.length cap) := q0.cell 0
  have HQ : Hid _ := And.intro q0 (And.intro q1 (And.intro q2 (And.intro q3 (And.intro hB hS))))
  clear hW q0 q1 q2 q3 hB hS
  unfold ribV
  refine (callsIn_wide (n := 9)).1 ?_
  refine callsIn_of_wp_marks Tryz.func183 rfl trivial ?_ rfl
  simp only [Tryz.ntmps183, List.size_toArray, List.length_cons, List.length_nil, Nat.reduceAdd, Nat.reduceSub, Array.replicate_succ, Array.replicate_zero, List.push_toArray, List.append_toArray, List.nil_append, List.cons_append]
  gi_wp2_with fail
  refine ⟨trivial, ?_⟩
  rw [← HW.out]
  obtain ⟨q0, q1, q2, q3, hB, hS⟩ := HQ.out
  refine (callsIn_wide.2 (HB.out _ ((HX.out).below hB))).mono ?_
  rintro e w1 ⟨rfl, hb1⟩
  clear HB HW HQ c0
  have c1 : w1.cell? ⟨w.heap.size, 0, none⟩ = some (.slice p rs.length cap) := (q0.below hb1 q0.lt).cell 0
  have hX1 := ((HX.out).below hB).below hb1
  have n1 : w1.cell? ⟨w.heap.size + 1 + 1, 0, none⟩ = some (.int .i64 now) := (q2.below hb1 q2.lt).cell 0
  have HK1 : Hid _ := And.intro (q3.below hb1 q3.lt) (And.intro (hB.trans (hb1.mono (by omega))) (And.intro (q1.below hb1 q1.lt) (q2.below hb1 q2.lt)))
  have hs1 : w.heap.size + 1 + 1 + 1 + 1 ≤ w1.heap.size := by have := hb1.size; omega
  clear q0 q1 q2 q3 hB hS hb1 HX
  gi_wp2_with fail
  refine ⟨trivial, ?_⟩
  refine (callsIn_wide.2 (HNw.out _)).mono ?_
  rintro e w1' ⟨rfl, rfl⟩
  clear HNw n1
  gi_wp2_with fail
  refine ⟨trivial, ?_⟩
  refine (callsIn_wide.2 (HL.out _ hX1)).mono ?_
  rintro e w2 ⟨B, rfl, hBB, hM, hb2⟩
  clear HL hX1 c1
  gi_wp2_with fail
  refine ⟨trivial, ?_⟩
  refine (callsIn_wide.2 (HA.out B _)).mono ?_
  rintro e w3 ⟨rfl, hw3⟩
  obtain ⟨rr, hB, ri, rn⟩ := HK1.out
  have hs2 := hb2.size
  have hBl := hM.lt
  obtain ⟨V, hV, rt, rt', hbV, hsV⟩ := rows2 w2 [.map (some B), .func (.func 185) #[] #[]] [.map (some B), .func (.func 185) #[] #[]] 212 212
  simp only [World.size_alloc] at hw3 ⊢
  rw [show w3 = V from hw3.symm.trans hV.symm]
  have rr := (rr.below hb2 rr.lt).below hbV (rr.below hb2 rr.lt).lt
  have rn := (rn.below hb2 rn.lt).below hbV (rn.below hb2 rn.lt).lt
  have ri := (ri.below hb2 ri.lt).below hbV (ri.below hb2 ri.lt).lt
  have hB := (hB.trans (hb2.mono (by omega))).trans (hbV.mono (by omega))
  have hM := hM.below hbV hM.lt
  generalize hb2n : w2.heap.size = b2 at *
  clear hw3 hb2 hV HK1 HA
  gi_wp2_with fail
  refine wpIn_turns (by omega) (gf := 196) (lb := #[.pointer (some ⟨b2 + 1, 0, none⟩)]) rfl (enters_of Tryz.func196 (by kernel_rfl) rfl) rtV rs rfl KpM KpM.t (fun W o o' h hc => KpM.b o' h hc)
    (fun pre X => MapIs X B (halfR (loseF i now) rs pre.length) ∧ Row X b2 212 [.map (some B), .func (.func 185) #[] #[]] ∧ Row X (w.heap.size + 1 + 1 + 1) 94 [.slice none 0 0, .int .i64 0] ∧ Row X (w.heap.size + 1) 2 [.int .i64 i] ∧ Row X (w.heap.size + 1 + 1) 2 [.int .i64 now] ∧ Below w.heap.size w X)
    ?ig ?ip ?seq ?start
    (fun k a' X => ∃ (hk : k < rs.length) (y : Rt) (Bx : Nat), y = rs[k] ∧ (b2 < Bx ∧ w.heap.size + 1 + 1 + 1 < Bx) ∧ Row X Bx 155 (rtL y) ∧ (MapIs X B (halfR (loseF i now) rs k) ∧ Row X b2 212 [.map (some B), .func (.func 185) #[] #[]] ∧ Row X (w.heap.size + 1 + 1 + 1) 94 [.slice none 0 0, .int .i64 0] ∧ Row X (w.heap.size + 1) 2 [.int .i64 i] ∧ Row X (w.heap.size + 1 + 1) 2 [.int .i64 now] ∧ Below w.heap.size w X) ∧ a' = { tmps := #[.agg #[.slice p rs.length cap], .int .i64 i, .int .i64 now, .pointer (some ⟨w.heap.size, 0, none⟩), .pointer (some ⟨w.heap.size + 1, 0, none⟩), .pointer (some ⟨w.heap.size + 1 + 1, 0, none⟩), .pointer (some ⟨w.heap.size + 1 + 1 + 1, 0, none⟩), .pointer (some ⟨b2, 0, none⟩), .pointer (some ⟨Bx, 0, none⟩), .agg #[.slice p rs.length cap], .bool true, .bool false, .bool false, .int .i64 now, .bool true, .bool false, .bool false, undef, .agg #[.slice p rs.length cap], .agg #[.map (some B), .func (.func 185) #[] #[]], .agg #[.map (some B), .func (.func 185) #[] #[]], .func (.func 196) #[] #[.pointer (some ⟨b2 + 1, 0, none⟩)], rtV y, undef, undef, undef, undef, undef, undef, undef, undef, undef, undef, undef, undef, undef, undef, undef, undef, undef, undef, undef, undef, undef, undef], defers := [] })
    ?ap ?assign ?body ?done
  case ig =>
    rintro s X Y ⟨hm, rt, rr, ri, rn, hb⟩ hg
    exact ⟨hm.kept (hg.block B hm.lt (by simp)), (hg.block _ rt.lt (by simp)).trans rt, (hg.block _ rr.lt (by simp)).trans rr, (hg.block _ ri.lt (by simp)).trans ri, (hg.block _ rn.lt (by simp)).trans rn, hb.grown hg hb.size (fun k e => by cases e)⟩
  case ip =>
    rintro s X r o ⟨hm, rt, rr, ri, rn, hb⟩ hl
    exact ⟨hm.kept (World.putObj_heap_other (by omega)), (World.putObj_heap_other (by omega)).trans rt, (World.putObj_heap_other (by omega)).trans rr, (World.putObj_heap_other (by omega)).trans ri, (World.putObj_heap_other (by omega)).trans rn, hb.trans (belowK_b (w := w) (Nat.le_refl _) X _ _ o (by omega) hl rfl rfl)⟩
  case seq =>
    intro l J W hbW hJ hJI hY h0
    exact all1_mut (9 - 1) (by omega) l (b2 + 1) B rs rs (List.Perm.refl _) hr J hJ (fun k hk X hj => by
      have := (hJI _ _ hj).1
      rw [hdr_len hk] at this
      exact ⟨_, this, halfR_look (loseF_net i now) hris hk⟩) hY W (rt'.below hbW rt'.lt) (hM.below hbW hM.lt) h0
  case start =>
    exact ⟨by simpa [halfR_0] using hM, rt, rr, ri, rn, hB⟩
  case ap =>
    rintro k a' X r o ⟨hk, y, Bx, hy, hBx, hRx, ⟨hm, rt, rr, ri, rn, hb⟩, rfl⟩ hl
    refine ⟨hk, y, Bx, hy, hBx, (World.putObj_heap_other (fun e => ?_)).trans hRx, ⟨hm.kept (World.putObj_heap_other (by omega)), (World.putObj_heap_other (by omega)).trans rt, (World.putObj_heap_other (by omega)).trans rr, (World.putObj_heap_other (by omega)).trans ri, (World.putObj_heap_other (by omega)).trans rn, hb.trans (belowK_b (w := w) (Nat.le_refl _) X _ _ o (by omega) hl rfl rfl)⟩, rfl⟩
    subst e
    rw [show X.heap[V.heap.size + 1]? = _ from hRx] at hl
    cases hl
  case assign =>
    rintro l k hk X K ⟨hm, rt, rr, ri, rn, hb⟩ hK
    rw [hdr_len hk] at hm
    obtain ⟨y, hy⟩ : ∃ y, y = rs[k] := ⟨_, rfl⟩
    rw [← hy]
    have hy' : Hid _ := hy
    clear hy
    obtain ⟨A, L, M, O, I, T, U, E, C⟩ := y
    unfold rtV rtA at hK ⊢
    simp only at hK ⊢
    have HE : Hid _ := And.intro hm (And.intro rt (And.intro rr (And.intro ri (And.intro rn (And.intro hb hBl)))))
    clear hm rt rr ri rn hb
    gi_wp2
    obtain ⟨hm, rt, rr, ri, rn, hb, hBl⟩ := HE.out
    exact hK _ _ ((KeepsOthers.alloc _ _).from _) (KpM.below (ent_new0 _ _)) ⟨hk, ⟨A, L, M, O, I, T, U, E, C⟩, X.heap.size, hy'.out, ⟨rt.lt, rr.lt⟩, Row.new X 155 [.int .i64 A, .int .i64 L, .int .i64 M, .int .i64 O, .int .i64 I, .int .i64 T, .int .i64 U, .int .i64 E, .bool C], ⟨hm.below (ent_new0 X _) hm.lt, rt.alloc _, rr.alloc _, ri.alloc _, rn.alloc _, hb.alloc hb.size _⟩, rfl⟩
  case body =>
    rintro l k hk' a' X ⟨hk, y, Bx, hy, ⟨hBx, hBr⟩, hRx, ⟨hm, rt, rr, ri, rn, hb⟩, rfl⟩
    rw [hdr_len2 hk]
    have hne := map_row_ne hm hRx
    have hyy : Hid _ := hy
    clear hy
    obtain ⟨A, L, M, O, I, T, U, E, C⟩ := y
    unfold rtV rtA
    simp only [rtL] at hRx ⊢
    have x0 : X.cell? ⟨Bx, 0, none⟩ = some (.int .i64 A) := hRx.cell 0
    have x1 : X.cell? ⟨Bx, 1, none⟩ = some (.int .i64 L) := hRx.cell 1
    have x2 : X.cell? ⟨Bx, 2, none⟩ = some (.int .i64 M) := hRx.cell 2
    have x3 : X.cell? ⟨Bx, 3, none⟩ = some (.int .i64 O) := hRx.cell 3
    have x4 : X.cell? ⟨Bx, 4, none⟩ = some (.int .i64 I) := hRx.cell 4
    have x5 : X.cell? ⟨Bx, 5, none⟩ = some (.int .i64 T) := hRx.cell 5
    have x6 : X.cell? ⟨Bx, 6, none⟩ = some (.int .i64 U) := hRx.cell 6
    have x7 : X.cell? ⟨Bx, 7, none⟩ = some (.int .i64 E) := hRx.cell 7
    have x8 : X.cell? ⟨Bx, 8, none⟩ = some (.bool C) := hRx.cell 8
    have t0 : X.cell? ⟨b2, 0, none⟩ = some (.map (some B)) := rt.cell 0
    have t1 : X.cell? ⟨b2, 1, none⟩ = some (.func (.func 185) #[] #[]) := rt.cell 1
    have n0 : X.cell? ⟨w.heap.size + 1, 0, none⟩ = some (.int .i64 i) := ri.cell 0
    have HE0 : Hid _ := And.intro hm (And.intro rt (And.intro rr (And.intro ri (And.intro rn (And.intro hb hRx)))))
    clear hm rt rr ri rn hb hRx
    by_cases hI : I = i
    · subst hI
      have zI : (I != I) = false := by simp
      gi_wp2_with fail
      refine ⟨trivial, (CallsIn.inRound l (callsIn_wide.2 (HOw.out ⟨A, L, M, O, I, T, U, E, C⟩ _))).mono ?_⟩
      rintro e X0 ⟨rfl, hb0⟩
      obtain ⟨hm, rt, rr, ri, rn, hb, hRx⟩ := HE0.out
      have hm := hm.below hb0 hm.lt
      have rt := rt.below hb0 rt.lt
      have rr := rr.below hb0 rr.lt
      have ri := ri.below hb0 ri.lt
      have rn := rn.below hb0 rn.lt
      have hRx := hRx.below hb0 hRx.lt
      have hb := hb.trans (hb0.mono hb.size)
      have hkf0 : KeepsFrom V.heap.size X X0 := keepsFrom_below hb0
      have hkp0 : KpM X X0 := KpM.below hb0
      clear hb0 HE0 n0 zI x0 x1 x2 x3 x4 x5 x6 x7 x8 t0 t1
      have x0 : X0.cell? ⟨Bx, 0, none⟩ = some (.int .i64 A) := hRx.cell 0
      have x1 : X0.cell? ⟨Bx, 1, none⟩ = some (.int .i64 L) := hRx.cell 1
      have x2 : X0.cell? ⟨Bx, 2, none⟩ = some (.int .i64 M) := hRx.cell 2
      have x3 : X0.cell? ⟨Bx, 3, none⟩ = some (.int .i64 O) := hRx.cell 3
      have x4 : X0.cell? ⟨Bx, 4, none⟩ = some (.int .i64 I) := hRx.cell 4
      have x5 : X0.cell? ⟨Bx, 5, none⟩ = some (.int .i64 T) := hRx.cell 5
      have x6 : X0.cell? ⟨Bx, 6, none⟩ = some (.int .i64 U) := hRx.cell 6
      have x7 : X0.cell? ⟨Bx, 7, none⟩ = some (.int .i64 E) := hRx.cell 7
      have x8 : X0.cell? ⟨Bx, 8, none⟩ = some (.bool C) := hRx.cell 8
      have t0 : X0.cell? ⟨b2, 0, none⟩ = some (.map (some B)) := rt.cell 0
      have t1 : X0.cell? ⟨b2, 1, none⟩ = some (.func (.func 185) #[] #[]) := rt.cell 1
      by_cases hO : O = 0
      · subst hO
        have zO : decide ((0 : Int) = 0) = true := by simp
        have hF : loseF I now rs[k] = none := by rw [← hyy.out]; simp [loseF]
        have hyn : rs[k].a = A ∧ rs[k].l = L := by rw [← hyy.out]; exact ⟨rfl, rfl⟩
        have HDk : Hid (∀ w, MapIs w B (halfR (loseF I now) rs k) → Calls Tryz.prog 192 #[.agg #[.map (some B), .func (.func 185) #[] #[]], .agg #[.int .i64 A, .int .i64 L]] w fun e w' => e = .returned (.tuple #[]) ∧ MapIs w' B (halfR (loseF I now) rs (k + 1)) ∧ w.grownBy w' (some B)) := fun w h => by
          have := HD.out B _ rs[k].a rs[k].l w h
          rw [halfR_drop (loseF_net I now) hris hk hF, hyn.1, hyn.2] at this
          exact this
        have HE : Hid _ := And.intro hm (And.intro rt (And.intro rr (And.intro ri (And.intro rn (And.intro hb (And.intro hkf0 hkp0))))))
        clear hyn hF hm rt rr ri rn hb hkf0 hkp0 hRx
        rw [zO]
        gi_wp2_with fail
        obtain ⟨hm, rt, rr, ri, rn, hb, hkf0, hkp0⟩ := HE.out
        refine ⟨trivial, (CallsIn.inRound l (callsIn_wide.2 (HDk.out _ hm))).mono ?_⟩
        rintro e X2 ⟨rfl, hm2, hg2⟩
        have hmm : ∃ es c, X0.heap[B]? = some (.map es c) := by obtain ⟨es, c, h, _⟩ := hm; exact ⟨es, c, h⟩
        have HZ : Hid _ := And.intro (keepsFrom_trans hkf0 (keepsFrom_grown hg2 (by omega : B < V.heap.size))) (And.intro (hkp0.t (KpM.grown hg2 hmm)) (And.intro hm2 (And.intro (grown_row hg2 rt (by omega)) (And.intro (grown_row hg2 rr (by omega)) (And.intro (grown_row hg2 ri (by omega)) (And.intro (grown_row hg2 rn (by omega)) (hb.grown hg2 hb.size (fun k e => by cases e; omega))))))))
        clear hm hm2 hg2 hmm rt rr ri rn hb HE x0 x1 x2 x3 x4 x5 x6 x7 x8 t0 t1
        gi_wp2_with fail
        have hz := HZ.out
        rw [hsV] at hz
        exact hz
      · have zO : decide (O = 0) = false := by simpa using hO
        have hF : loseF I now rs[k] = some (reachR ⟨A, L, M, O, I, T, U, E, C⟩ now) := by rw [← hyy.out]; simp [loseF, hO]
        have hrn := reachR_net ⟨A, L, M, O, I, T, U, E, C⟩ now
        have HRk : Hid (∀ w, Calls Tryz.prog 193 #[.agg #[.int .i64 A, .int .i64 L, .int .i64 M, .int .i64 O, .int .i64 I, .int .i64 T, .int .i64 U, .int .i64 E, .bool C], .int .i64 now] w fun e w' => e = .returned (rtV (reachR ⟨A, L, M, O, I, T, U, E, C⟩ now)) ∧ Below w.heap.size w w') := HR.out ⟨A, L, M, O, I, T, U, E, C⟩
        have HPk : Hid (∀ w, MapIs w B (halfR (loseF I now) rs k) → Calls Tryz.prog 184 #[.agg #[.map (some B), .func (.func 185) #[] #[]], .agg #[.int .i64 A, .int .i64 L], rtV (reachR ⟨A, L, M, O, I, T, U, E, C⟩ now)] w fun e w' => e = .returned (.tuple #[]) ∧ MapIs w' B (halfR (loseF I now) rs (k + 1)) ∧ w.grownBy w' (some B)) := fun w h => by
          have := HP.out B _ (reachR ⟨A, L, M, O, I, T, U, E, C⟩ now) w h
          rw [halfR_put (loseF_net I now) hris hk hF, hrn.1, hrn.2] at this
          exact this
        generalize reachR ⟨A, L, M, O, I, T, U, E, C⟩ now = RR at *
        have HE : Hid _ := And.intro hm (And.intro rr (And.intro hb (And.intro hkf0 hkp0)))
        clear hm rr hb hkf0 hkp0 hF hrn x0 x1 x2 x3 x4 x5 x6 x7 x8 t0 t1 HR HP HD hO
        simp only [zO]
        gi_wp2_with fail
        have hGN : (([(23, Is (.agg #[.map (some B), .func (.func 185) #[] #[]])), (24, Is (.pointer (some ⟨Bx, 0, none⟩))), (25, Is (.agg #[.int .i64 A, .int .i64 L])), (26, Is (.agg #[.int .i64 A, .int .i64 L, .int .i64 M, .int .i64 O, .int .i64 I, .int .i64 T, .int .i64 U, .int .i64 E, .bool C])), (27, Is (.int .i64 now)), (28, Is (rtV RR))] : List (Nat × (Value → World → Prop))).map (·.1)).Nodup := by simp
        refine wpIn_region_steady (by kernel_rfl) (fun ⟨_, _, h⟩ => nomatch h) 6 (SlotG [(23, Is (.agg #[.map (some B), .func (.func 185) #[] #[]])), (24, Is (.pointer (some ⟨Bx, 0, none⟩))), (25, Is (.agg #[.int .i64 A, .int .i64 L])), (26, Is (.agg #[.int .i64 A, .int .i64 L, .int .i64 M, .int .i64 O, .int .i64 I, .int .i64 T, .int .i64 U, .int .i64 E, .bool C])), (27, Is (.int .i64 now)), (28, Is (rtV RR))]) (by kernel_rfl) (by kernel_rfl) (Stabs.all ⟨stab_is _, stab_is _, stab_is _, stab_is _, stab_is _, stab_is _, trivial⟩) ?_ ?_
        · intro o ho
          simp only [List.take_succ_cons, List.take_zero, List.mem_cons, List.not_mem_nil, or_false] at ho
          rcases ho with rfl | rfl | rfl | rfl | rfl | rfl
          · intro a' w' hb ha hdep
            have d7 : a'.tmps.getD 7 undef = .pointer (some ⟨b2, 0, none⟩) := ha.at 7 (by kernel_rfl)
            have hmk := fun (x : Value) (W : World) => SlotG.mk (x := x) (w := W) 0 rfl hGN
            clear hGN ha hdep
            have y0 : w'.cell? ⟨b2, 0, none⟩ = some (.map (some B)) := (rt.below hb rt.lt).cell 0
            have y1 : w'.cell? ⟨b2, 1, none⟩ = some (.func (.func 185) #[] #[]) := (rt.below hb rt.lt).cell 1
            go_simp
            exact ⟨_, rfl, Below.refl _ _, hmk _ _ rfl⟩
          · intro a' w' hb ha hdep
            have d8 : a'.tmps.getD 8 undef = .pointer (some ⟨Bx, 0, none⟩) := ha.at 8 (by kernel_rfl)
            have hmk := fun (x : Value) (W : World) => SlotG.mk (x := x) (w := W) 1 rfl hGN
            clear hGN ha hdep
            go_simp
            exact ⟨_, rfl, Below.refl _ _, hmk _ _ rfl⟩
          · intro a' w' hb ha hdep
            have d24 : a'.tmps.getD 24 undef = .pointer (some ⟨Bx, 0, none⟩) := (hdep 24 (of_decide_eq_true (by kernel_rfl))).is 1 rfl
            have hmk := fun (x : Value) (W : World) => SlotG.mk (x := x) (w := W) 2 rfl hGN
            clear hGN ha hdep
            have y0 : w'.cell? ⟨Bx, 0, none⟩ = some (.int .i64 A) := (hRx.below hb hRx.lt).cell 0
            have y1 : w'.cell? ⟨Bx, 1, none⟩ = some (.int .i64 L) := (hRx.below hb hRx.lt).cell 1
            go_simp
            exact ⟨_, rfl, Below.refl _ _, hmk _ _ rfl⟩
          · intro a' w' hb ha hdep
            have d8 : a'.tmps.getD 8 undef = .pointer (some ⟨Bx, 0, none⟩) := ha.at 8 (by kernel_rfl)
            have hmk := fun (x : Value) (W : World) => SlotG.mk (x := x) (w := W) 3 rfl hGN
            clear hGN ha hdep
            have y0 : w'.cell? ⟨Bx, 0, none⟩ = some (.int .i64 A) := (hRx.below hb hRx.lt).cell 0
            have y1 : w'.cell? ⟨Bx, 1, none⟩ = some (.int .i64 L) := (hRx.below hb hRx.lt).cell 1
            have y2 : w'.cell? ⟨Bx, 2, none⟩ = some (.int .i64 M) := (hRx.below hb hRx.lt).cell 2
            have y3 : w'.cell? ⟨Bx, 3, none⟩ = some (.int .i64 O) := (hRx.below hb hRx.lt).cell 3
            have y4 : w'.cell? ⟨Bx, 4, none⟩ = some (.int .i64 I) := (hRx.below hb hRx.lt).cell 4
            have y5 : w'.cell? ⟨Bx, 5, none⟩ = some (.int .i64 T) := (hRx.below hb hRx.lt).cell 5
            have y6 : w'.cell? ⟨Bx, 6, none⟩ = some (.int .i64 U) := (hRx.below hb hRx.lt).cell 6
            have y7 : w'.cell? ⟨Bx, 7, none⟩ = some (.int .i64 E) := (hRx.below hb hRx.lt).cell 7
            have y8 : w'.cell? ⟨Bx, 8, none⟩ = some (.bool C) := (hRx.below hb hRx.lt).cell 8
            go_simp
            exact ⟨_, rfl, Below.refl _ _, hmk _ _ rfl⟩
          · intro a' w' hb ha hdep
            have d5 : a'.tmps.getD 5 undef = .pointer (some ⟨w.heap.size + 1 + 1, 0, none⟩) := ha.at 5 (by kernel_rfl)
            have hmk := fun (x : Value) (W : World) => SlotG.mk (x := x) (w := W) 4 rfl hGN
            clear hGN ha hdep
            have y0 : w'.cell? ⟨w.heap.size + 1 + 1, 0, none⟩ = some (.int .i64 now) := (rn.below hb rn.lt).cell 0
            go_simp
            exact ⟨_, rfl, Below.refl _ _, hmk _ _ rfl⟩
          · intro a' w' hb ha hdep
            have d26 : a'.tmps.getD 26 undef = .agg #[.int .i64 A, .int .i64 L, .int .i64 M, .int .i64 O, .int .i64 I, .int .i64 T, .int .i64 U, .int .i64 E, .bool C] := (hdep 26 (of_decide_eq_true (by kernel_rfl))).is 3 rfl
            have d27 : a'.tmps.getD 27 undef = .int .i64 now := (hdep 27 (of_decide_eq_true (by kernel_rfl))).is 4 rfl
            have hmk := fun (x : Value) (W : World) => SlotG.mk (x := x) (w := W) 5 rfl hGN
            clear hGN ha hdep
            go_simp
            refine (HRk.out _).mono ?_
            rintro e w2 ⟨rfl, hb2⟩
            exact ⟨_, rfl, hb2, hmk _ _ rfl⟩
        · intro a' w' hb ha hG
          clear hGN
          have d23 : a'.tmps.getD 23 undef = .agg #[.map (some B), .func (.func 185) #[] #[]] := (hG _ (List.mem_of_getElem? (i := 0) rfl) 23 rfl).is 0 rfl
          have d25 : a'.tmps.getD 25 undef = .agg #[.int .i64 A, .int .i64 L] := (hG _ (List.mem_of_getElem? (i := 2) rfl) 25 rfl).is 2 rfl
          have d28 : a'.tmps.getD 28 undef = rtV RR := (hG _ (List.mem_of_getElem? (i := 5) rfl) 28 rfl).is 5 rfl
          have e2 : a' = ⟨#[a'.tmps.getD 0 undef, a'.tmps.getD 1 undef, a'.tmps.getD 2 undef, a'.tmps.getD 3 undef, a'.tmps.getD 4 undef, a'.tmps.getD 5 undef, a'.tmps.getD 6 undef, a'.tmps.getD 7 undef, a'.tmps.getD 8 undef, a'.tmps.getD 9 undef, a'.tmps.getD 10 undef, a'.tmps.getD 11 undef, a'.tmps.getD 12 undef, a'.tmps.getD 13 undef, a'.tmps.getD 14 undef, a'.tmps.getD 15 undef, a'.tmps.getD 16 undef, a'.tmps.getD 17 undef, a'.tmps.getD 18 undef, a'.tmps.getD 19 undef, a'.tmps.getD 20 undef, a'.tmps.getD 21 undef, a'.tmps.getD 22 undef, a'.tmps.getD 23 undef, a'.tmps.getD 24 undef, a'.tmps.getD 25 undef, a'.tmps.getD 26 undef, a'.tmps.getD 27 undef, a'.tmps.getD 28 undef, a'.tmps.getD 29 undef, a'.tmps.getD 30 undef, a'.tmps.getD 31 undef, a'.tmps.getD 32 undef, a'.tmps.getD 33 undef, a'.tmps.getD 34 undef, a'.tmps.getD 35 undef, a'.tmps.getD 36 undef, a'.tmps.getD 37 undef, a'.tmps.getD 38 undef, a'.tmps.getD 39 undef, a'.tmps.getD 40 undef, a'.tmps.getD 41 undef, a'.tmps.getD 42 undef, a'.tmps.getD 43 undef, a'.tmps.getD 44 undef], []⟩ := by rw [← (show a'.defers = [] from ha.2.1)]; exact act_eq a' 45 ha.1
          rw [d23, d25, d28] at e2
          clear hG ha d23 d25 d28
          generalize a'.tmps.getD 0 undef = x0 at *
          generalize a'.tmps.getD 1 undef = x1 at *
          generalize a'.tmps.getD 2 undef = x2 at *
          generalize a'.tmps.getD 3 undef = x3 at *
          generalize a'.tmps.getD 4 undef = x4 at *
          generalize a'.tmps.getD 5 undef = x5 at *
          generalize a'.tmps.getD 6 undef = x6 at *
          generalize a'.tmps.getD 7 undef = x7 at *
          generalize a'.tmps.getD 8 undef = x8 at *
          generalize a'.tmps.getD 9 undef = x9 at *
          generalize a'.tmps.getD 10 undef = x10 at *
          generalize a'.tmps.getD 11 undef = x11 at *
          generalize a'.tmps.getD 12 undef = x12 at *
          generalize a'.tmps.getD 13 undef = x13 at *
          generalize a'.tmps.getD 14 undef = x14 at *
          generalize a'.tmps.getD 15 undef = x15 at *
          generalize a'.tmps.getD 16 undef = x16 at *
          generalize a'.tmps.getD 17 undef = x17 at *
          generalize a'.tmps.getD 18 undef = x18 at *
          generalize a'.tmps.getD 19 undef = x19 at *
          generalize a'.tmps.getD 20 undef = x20 at *
          generalize a'.tmps.getD 21 undef = x21 at *
          generalize a'.tmps.getD 22 undef = x22 at *
          generalize a'.tmps.getD 24 undef = x24 at *
          generalize a'.tmps.getD 26 undef = x26 at *
          generalize a'.tmps.getD 27 undef = x27 at *
          generalize a'.tmps.getD 29 undef = x29 at *
          generalize a'.tmps.getD 30 undef = x30 at *
          generalize a'.tmps.getD 31 undef = x31 at *
          generalize a'.tmps.getD 32 undef = x32 at *
          generalize a'.tmps.getD 33 undef = x33 at *
          generalize a'.tmps.getD 34 undef = x34 at *
          generalize a'.tmps.getD 35 undef = x35 at *
          generalize a'.tmps.getD 36 undef = x36 at *
          generalize a'.tmps.getD 37 undef = x37 at *
          generalize a'.tmps.getD 38 undef = x38 at *
          generalize a'.tmps.getD 39 undef = x39 at *
          generalize a'.tmps.getD 40 undef = x40 at *
          generalize a'.tmps.getD 41 undef = x41 at *
          generalize a'.tmps.getD 42 undef = x42 at *
          generalize a'.tmps.getD 43 undef = x43 at *
          generalize a'.tmps.getD 44 undef = x44 at *
          subst e2
          simp only [List.drop_succ_cons, List.drop_zero]
          obtain ⟨hm, rr, hbX, hkf0, hkp0⟩ := HE.out
          have hmm := hm.below hb hm.lt
          have hmw : ∃ es c, w'.heap[B]? = some (.map es c) := by obtain ⟨es, c, h, _⟩ := hmm; exact ⟨es, c, h⟩
          have rt := rt.below hb rt.lt
          have rn := rn.below hb rn.lt
          have ri := ri.below hb ri.lt
          have rr := rr.below hb rr.lt
          have hbX := hbX.trans (hb.mono hbX.size)
          have hkf : KeepsFrom V.heap.size X w' := keepsFrom_trans hkf0 (keepsFrom_below hb)
          have hkp : KpM X w' := hkp0.t (KpM.below hb)
          clear hb HE hm hRx HRk hkf0 hkp0
          go_wp2_with fail
          refine (HPk.out _ hmm).mono ?_
          rintro e X2 ⟨rfl, hm2, hg2⟩
          have HZ : Hid _ := And.intro (keepsFrom_trans hkf (keepsFrom_grown hg2 (by omega : B < V.heap.size))) (And.intro (hkp.t (KpM.grown hg2 hmw)) (And.intro hm2 (And.intro (grown_row hg2 rt (by omega)) (And.intro (grown_row hg2 rr (by omega)) (And.intro (grown_row hg2 ri (by omega)) (And.intro (grown_row hg2 rn (by omega)) (hbX.grown hg2 hbX.size (fun k e => by cases e; omega))))))))
          clear hmm hm2 hg2 hmw hkp hkf rt rr ri rn hbX
          go_wp2_with fail
          have hz := HZ.out
          rw [hsV] at hz
          exact hz
    · have zI : (I != i) = true := by simpa using hI
      have hF : loseF i now rs[k] = some rs[k] := by rw [← hyy.out]; simp [loseF, hI]
      obtain ⟨hm, rt, rr, ri, rn, hb, hRx⟩ := HE0.out
      rw [halfR_same hk hF] at hm
      have HZ : Hid _ := And.intro (keepsFrom_below (n := V.heap.size) (Below.refl X.heap.size X)) (And.intro (KpM.below (Below.refl X.heap.size X)) (And.intro hm (And.intro rt (And.intro rr (And.intro ri (And.intro rn hb))))))
      clear hm rt rr ri rn hb hRx HE0 hF hI
      gi_wp2_with fail
      have hz := HZ.out
      rw [hsV] at hz
      exact hz
  case done =>
    rintro X ⟨hm, rt, rr, ri, rn, hb⟩ hK
    rw [halfR_end] at hm
    have t0 : X.cell? ⟨b2, 0, none⟩ = some (.map (some B)) := rt.cell 0
    have t1 : X.cell? ⟨b2, 1, none⟩ = some (.func (.func 185) #[] #[]) := rt.cell 1
    have HE : Hid _ := And.intro hm (And.intro rr (And.intro hb (And.intro hK hB.size)))
    clear hm rt rr ri rn hb hK rt' hM hB HP
    gi_wp2_with fail
    refine ⟨trivial, ?_⟩
    obtain ⟨hm, rr, hb, hK, hBs⟩ := HE.out
    refine (callsIn_wide.2 (HO.out B _ hm)).mono ?_
    rintro e X1 ⟨q, c, rfl, ho, hb1⟩
    have hsX := rr.lt
    have rr := rr.below hb1 rr.lt
    have hK : X1.heap[V.heap.size]? = _ := (hb1.block _ (Array.getElem?_eq_some_iff.1 hK).1).trans hK
    have hb := hb.trans (hb1.mono hb.size)
    clear t0 t1 HE HO hm
    have f0 : X1.frozen? ⟨w.heap.size + 1 + 1 + 1, 0, none⟩ = false := rr.frozen 0
    have z0 : X1.cell? ⟨w.heap.size + 1 + 1 + 1, 0, none⟩ = some (.slice none 0 0) := rr.cell 0
    have f1 : X1.frozen? ⟨w.heap.size + 1 + 1 + 1, 1, none⟩ = false := rr.frozen 1
    have z1 : X1.cell? ⟨w.heap.size + 1 + 1 + 1, 1, none⟩ = some (.int .i64 0) := rr.cell 1
    have HF : Hid _ := And.intro ((rr.set 0 (.slice q (rs.filterMap (loseF i now)).length c)).set 1 (.int .i64 0)) (And.intro ((hb.setCell (p := ⟨w.heap.size + 1 + 1 + 1, 0, none⟩) (by show w.heap.size ≤ w.heap.size + 1 + 1 + 1; omega) (.slice q (rs.filterMap (loseF i now)).length c)).setCell (p := ⟨w.heap.size + 1 + 1 + 1, 1, none⟩) (by show w.heap.size ≤ w.heap.size + 1 + 1 + 1; omega) (.int .i64 0)) (And.intro (((Below.heap_setCell _ _ _ _ (by show V.heap.size ≠ w.heap.size + 1 + 1 + 1; omega)).trans ((Below.heap_setCell _ _ _ _ (by show V.heap.size ≠ w.heap.size + 1 + 1 + 1; omega)).trans hK)) : ((X1.setCell ⟨w.heap.size + 1 + 1 + 1, 0, none⟩ (.slice q (rs.filterMap (loseF i now)).length c)).setCell ⟨w.heap.size + 1 + 1 + 1, 1, none⟩ (.int .i64 0)).heap[V.heap.size]? = some (.deferred (some []))) (ownR_set (base' := w.heap.size) (ownR_set (base' := X.heap.size) ho ⟨w.heap.size + 1 + 1 + 1, 0, none⟩ (by show w.heap.size + 1 + 1 + 1 < _; omega) (.slice q (rs.filterMap (loseF i now)).length c) (Nat.le_refl _)) ⟨w.heap.size + 1 + 1 + 1, 1, none⟩ (by show w.heap.size + 1 + 1 + 1 < _; omega) (.int .i64 0) (by omega))))
    clear rr hb hK ho hb1
    gi_wp2_with fail
    have hF := HF.out
    clear HF f0 z0 f1 z1
    generalize (X1.setCell ⟨w.heap.size + 1 + 1 + 1, 0, none⟩ (.slice q (rs.filterMap (loseF i now)).length c)).setCell ⟨w.heap.size + 1 + 1 + 1, 1, none⟩ (.int .i64 0) = Z at *
    obtain ⟨h1, h2, h3, h7⟩ := hF
    rw [hsV] at h3
    refine ⟨by simp, .inl ⟨_, _, rfl, run_takeDeferred h3, ?_⟩⟩
    have h4 : Below w.heap.size Z (Z.putObj (b2 + 1 + 1) (.deferred none)) := belowK_b (w := w) (Nat.le_refl _) Z (b2 + 1 + 1) _ _ (by omega) h3 rfl rfl
    have h5 : Row (Z.putObj (b2 + 1 + 1) (.deferred none)) (w.heap.size + 1 + 1 + 1) 94 [.slice q (rs.filterMap (loseF i now)).length c, .int .i64 0] := (World.putObj_heap_other (by omega)).trans h1
    have h6 := h2.trans h4
    have h8 : (Z.putObj (b2 + 1 + 1) (.deferred none)).ownsRow w.heap.size 155 9 (.slice q (rs.filterMap (loseF i now)).length c) (rs.filterMap (loseF i now)).length (rowR (rs.filterMap (loseF i now))) := World.ownsRow.kept h7 (row := some (b2 + 1 + 1)) (grownBy_putObj' Z (b2 + 1 + 1) (.deferred none)) (by
      rcases h7.2 with ⟨e, _⟩ | ⟨g, _, _, e, _, hg, _⟩
      · left; rw [e]; rfl
      · right
        rw [e]
        intro e'
        have e'' : g = (b2 + 1 + 1) := by simpa [Value.ownBlock] using e'
        rw [e'', h3] at hg
        cases hg)
    clear h1 h2 h3 h4 h7
    generalize Z.putObj (b2 + 1 + 1) (.deferred none) = Y at *
    have e0 : Y.cell? ⟨w.heap.size + 1 + 1 + 1, 0, none⟩ = some (.slice q (rs.filterMap (loseF i now)).length c) := h5.cell 0
    have e1 : Y.cell? ⟨w.heap.size + 1 + 1 + 1, 1, none⟩ = some (.int .i64 0) := h5.cell 1
    refine ⟨.agg #[.slice q (rs.filterMap (loseF i now)).length c, .int .i64 0], by simp [results, Tryz.results183, go_sem, e0, e1], ?_⟩
    exact ⟨⟨q, c, rfl, h8⟩, h6⟩
end Go.Proofs.YtcnadobnihbldaaGreat
/- A table at work: lose. (Written by gen_work.py.) -/
namespace Go.Proofs.YtcnadobnihbldaaGreat
open Go.RowKit Go.Sort

theorem loseF_lists (i now : Int) : SameNet (loseF i now) := loseF_net i now
theorem lose_ribs {rs : List Rt} {i now : Int} (h : ribB rs = true) (hnow : inNow now = true) : ribB (rs.filterMap (loseF i now)) = true := by
  refine turned_right (loseF_net i now) h fun r hr s hs => ?_
  have hrr := rib_routes h r hr
  unfold loseF at hs
  split at hs
  · split at hs
    · cases hs
    · rename_i hn
      cases hs
      unfold reachR
      split
      · exact hrr
      · exact dead_right hrr hn hnow
  · cases hs
    exact hrr
/-- What RibLose makes of a right table at a right time. -/
def loseO (rs : List Rt) (i now : Int) : Int × List Rt := (0, rs.filterMap (loseF i now))
theorem inNow_bd {now : Int} (h : inNow now = true) : 0 ≤ now ∧ now ≤ 999900 := by
  simp only [inNow, Bool.and_eq_true, decide_eq_true_eq] at h
  exact h
set_option maxRecDepth 100000 in
set_option maxHeartbeats 2000000 in
theorem loseAt_any (g k : Nat) (T : TypeId) (l : List Value) (p : Option Addr) (c0 : Nat) (rs : List Rt) (i now : Int) (hrib : ribB rs = true) (hnow : inNow now = true) (w : World) (hr : Row w g T l) (hk : l[k]? = some (.slice p rs.length c0)) (h : RtsIn w p rs) (_hn : rs.length ≤ 100000000) :
    Calls Tryz.prog 157 #[.pointer (some ⟨g, k, none⟩), .int .i64 i, .int .i64 now] w fun e w' => e = .returned (.int .i64 (loseO rs i now).1) ∧ Took g k T l w.heap.size (loseO rs i now).1 (loseO rs i now).2 w w' := by
  have HC : Hid (∀ w, RtsIn w p rs → Calls Tryz.prog 183 #[.agg #[.slice p rs.length c0], .int .i64 i, .int .i64 now] w fun e w' => OutR w.heap.size (loseO rs i now).1 (loseO rs i now).2 e w' ∧ Below w.heap.size w w') := fun w h => implLose_right p c0 rs i now w h hrib (inNow_bd hnow).1 (inNow_bd hnow).2 hnow (lose_ribs hrib hnow)
  have HX : Hid (RtsIn w p rs) := h
  have HF : Hid (∀ q c (w1 w2 : World), Below w.heap.size w w1 → w1.ownsRow w.heap.size 155 9 (.slice q (loseO rs i now).2.length c) (loseO rs i now).2.length (rowR (loseO rs i now).2) → Row w2 g T (if (loseO rs i now).1 = 0 then l.set k (.slice q (loseO rs i now).2.length c) else l) → Below g w1 w2 → (∀ b t l, b ≠ g → Row w1 b t l → Row w2 b t l) → Took g k T l w.heap.size (loseO rs i now).1 (loseO rs i now).2 w w2) := fun q c w1 w2 a b d e f => took_of hr.lt a b d e f
  clear h _hn
  generalize (loseO rs i now) = RR at *
  obtain ⟨cc, qs⟩ := RR
  simp only at HC HF ⊢
  unfold OutR at HC
  have HT : Hid (∀ q c (w : World), Row w g T l → Calls Tryz.prog 137 #[.pointer (some ⟨g, k, none⟩), .agg #[.slice q qs.length c, .int .i64 cc]] w fun e w' => e = .returned (.int .i64 cc) ∧ Row w' g T (if cc = 0 then l.set k (.slice q qs.length c) else l) ∧ Below g w w' ∧ ∀ b t l, b ≠ g → Row w b t l → Row w' b t l) := fun q c w hr => take_any g k T l q _ c cc _ w hr hk
  generalize rs.length = n at *
  generalize qs.length = N at *
  have y0 : w.cell? ⟨g, k, none⟩ = some (.slice p n c0) := (hr.cell k).trans hk
  go_enter Tryz.func157, Tryz.ntmps157
  go_wp2_with fail
  refine (HC.out _ HX.out).mono ?_
  rintro e w1 ⟨⟨q, c, rfl, ho⟩, hb1⟩
  have r1 := hr.below hb1 hr.lt
  clear y0 HC HX
  go_wp2_with fail
  refine (HT.out q c _ r1).mono ?_
  rintro e w2 ⟨rfl, r2, hb2, hk2⟩
  have hf := HF.out q c w1 w2 hb1 ho r2 hb2 hk2
  clear hb1 ho r2 hb2 hk2 r1 hr HF HT
  go_wp2
  go_ret
  exact ⟨rfl, hf⟩
end Go.Proofs.YtcnadobnihbldaaGreat
