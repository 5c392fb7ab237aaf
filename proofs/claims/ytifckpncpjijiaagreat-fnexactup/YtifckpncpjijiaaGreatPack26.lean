/- Texts that stand on each other, in one file: MapD, TurnG, QuietI, QuietW, QuietAt, TickS, LoseS. -/
import Derived.Test.YtifckpncpjijiaaGreatPack25
import Derived.Test.YtifckpncpjijiaaGreatPack22
import Derived.Test.YtifckpncpjijiaaGreatPack1
import Derived.Test.YtifckpncpjijiaaGreatPack16
import Derived.Test.YtifckpncpjijiaaGreatPack15
/- A route dropped from a map of routes. -/
namespace Go.Proofs.YtifckpncpjijiaaGreat
open Go.RowKit Go.Sort

theorem map_erase {α β : Type} (f : α → β) : ∀ (l : List α) (k : Nat), (l.eraseIdx k).map f = (l.map f).eraseIdx k
  | [], k => by simp
  | x :: l, 0 => by simp
  | x :: l, k + 1 => by simp [map_erase f l k]
theorem map_drop {w : World} {b : Nat} {rs : List Rt} (h : MapIs w b rs) (a l : Int) (ty : TypeId) :
    ∃ w', (Builtin.delete_ #[177, 87] ty #[.map (some b), netV a l]).run Tryz.prog w = .ok (.tuple #[]) w' ∧ MapIs w' b (dropN rs a l) ∧ w.grownBy w' (some b) := by
  have hlt := h.lt
  obtain ⟨es, clock, hb, hh, hp, hc⟩ := h
  unfold Builtin.delete_
  simp only [List.getElem?_toArray, List.getElem?_cons_zero, List.getElem?_cons_succ, Sem.run_bind, run_underlying mapUnd, Result.andThen_ok, MapKept.run_getObj_map hb, checkNet, findKey_run a l w es.toList rs hh]
  unfold dropN
  cases hi : idxN rs a l with
  | none =>
    rw [idx_none hi]
    have hs := MapKept.run_setObj_map (P := Tryz.prog) (.map es clock) hb
    refine ⟨setB w b (.map es clock), by simp only [Option.bind_none, Sem.run_bind]; rw [hs]; rfl, ⟨es, clock, setB_at hlt, hh, hp, hc⟩, setB_grown _⟩
  | some k =>
    obtain ⟨hk, hl, hn, _⟩ := idx_get hi
    rw [hl]
    have hs := MapKept.run_setObj_map (P := Tryz.prog) (.map (es.eraseIdxIfInBounds k) clock) hb
    have hke : k < es.size := by have := hh.nil_iff; simp at this; omega
    have he : (es.eraseIdxIfInBounds k).toList = es.toList.eraseIdx k := by
      unfold Array.eraseIdxIfInBounds
      rw [dif_pos hke, Array.toList_eraseIdx]
    refine ⟨setB w b (.map (es.eraseIdxIfInBounds k) clock), by simp only [Option.bind_some, Option.map_some, Sem.run_bind]; rw [hs]; rfl, ⟨_, _, setB_at hlt, ?_, ?_, ?_⟩, setB_grown _⟩
    · simp only [Holds] at hh ⊢
      rw [he, map_erase, map_erase, hh]
    · rw [he, map_erase]
      exact hp.sublist (List.eraseIdx_sublist _ _)
    · intro e h'
      rw [he] at h'
      exact hc e (List.mem_of_mem_eraseIdx h')
set_option maxRecDepth 100000 in
theorem drop_any (B : Nat) (rs : List Rt) (a l : Int) (w : World) (h : MapIs w B rs) :
    Calls Tryz.prog 161 #[tabV B, netV a l] w fun e w' => e = .returned (.tuple #[]) ∧ MapIs w' B (dropN rs a l) ∧ w.grownBy w' (some B) := by
  have hlt := h.lt
  obtain ⟨W, hW, q0, q1, hB, hS⟩ := rows2 w [.map (some B), .func (.func 175) #[] #[]] [.int .i64 a, .int .i64 l] 180 87
  have hg0 : w.grownBy W (some B) := by rw [hW]; exact grown_trans (World.grownBy_alloc w _ _) (World.grownBy_alloc _ _ _)
  obtain ⟨w2, hrun, hm2, hg2⟩ := map_drop (h.below hB hlt) a l 0
  have HH : Hid (MapIs w2 B (dropN rs a l) ∧ w.grownBy w2 (some B)) := ⟨hm2, grown_trans hg0 hg2⟩
  clear hm2 hg2 h hB hg0
  unfold tabV netV
  unfold netV at hrun
  rw [hW] at hrun
  have c0 : W.cell? ⟨w.heap.size, 0, none⟩ = some (.map (some B)) := q0.cell 0
  have c1 : W.cell? ⟨w.heap.size, 1, none⟩ = some (.func (.func 175) #[] #[]) := q0.cell 1
  have d0 : W.cell? ⟨w.heap.size + 1, 0, none⟩ = some (.int .i64 a) := q1.cell 0
  have d1 : W.cell? ⟨w.heap.size + 1, 1, none⟩ = some (.int .i64 l) := q1.cell 1
  have HW : Hid _ := hW
  clear hW q0 q1
  go_enter Tryz.func161, Tryz.ntmps161
  go_wp2
  refine bodyPost_end (v := .tuple #[]) (by simp [results, Tryz.results161, go_sem]) rfl ⟨rfl, HH.out.1, HH.out.2⟩
end Go.Proofs.YtifckpncpjijiaaGreat
/- What a table that is ranged over and changed keeps. (Written by gen_turn.py.) -/
namespace Go.Proofs.YtifckpncpjijiaaGreat
open Go.RowKit Go.Sort Go.Shelf

theorem keepsFrom_grown {w X Y : World} {B : Nat} (h : X.grownBy Y (some B)) (hB : B < w.heap.size) : KeepsFrom w.heap.size X Y := ⟨h.size, fun k _ hk ho _ => (h.block k (Array.getElem?_eq_some_iff.1 ho).1 (by intro e; cases e; omega)).trans ho⟩
theorem grown_row {X Y : World} {B g : Nat} {t : TypeId} {l : List Value} (h : X.grownBy Y (some B)) (hr : Row X g t l) (hne : g ≠ B) : Row Y g t l := (h.block g hr.lt (by intro e; cases e; exact hne rfl)).trans hr
theorem map_row_ne {X : World} {B g : Nat} {t : TypeId} {l : List Value} {rs : List Rt} (h : MapIs X B rs) (hr : Row X g t l) : g ≠ B := by
  rintro rfl
  obtain ⟨es, c, hb, _⟩ := h
  unfold Row at hr
  rw [hr] at hb
  cases hb
theorem keepsFrom_trans {n : Nat} {X Y Z : World} (h : KeepsFrom n X Y) (k : KeepsFrom n Y Z) : KeepsFrom n X Z := ⟨Nat.le_trans h.size k.size, fun i _ hi ho hc => k.same i _ hi (h.same i _ hi ho hc) hc⟩
theorem kpm_set {W : World} {g : Nat} {l : List Value} (j : Nat) (v : Value) (hr : Row W g 98 l) : KpM W (W.setCell ⟨g, j, none⟩ v) := KpM.mk (by simp) (fun i cur t hi ht => Below.heap_setCell W ⟨g, j, none⟩ v i (fun e => by
  subst e
  rw [show W.heap[i]? = _ from hr] at hi
  simp only [Option.some.injEq, Obj.cells.injEq] at hi
  obtain ⟨_, ht', _⟩ := hi
  rcases ht with rfl | rfl <;> cases ht'))
theorem keepsFrom_below {n : Nat} {X Y : World} (h : Below X.heap.size X Y) : KeepsFrom n X Y := ⟨h.size, fun k _ _ ho _ => (h.block k (Array.getElem?_eq_some_iff.1 ho).1).trans ho⟩
theorem hdr_len2 {rs : List Rt} {k : Nat} (hk : k < rs.length) : (rs.take (k + 1)).length = k + 1 := by rw [List.length_take]; omega
theorem hdr_len {rs : List Rt} {k : Nat} (hk : k < rs.length) : (rs.take k).length = k := by rw [List.length_take]; omega
end Go.Proofs.YtifckpncpjijiaaGreat
/- RibQuiet of the program. (Written by gen_turn.py.) -/
namespace Go.Proofs.YtifckpncpjijiaaGreat
open Go.RowKit Go.Sort Go.Shelf
attribute [local go_sem] Oper.semAt_some

set_option maxRecDepth 100000 in
set_option maxHeartbeats 4000000 in
theorem implQuiet_right (p : Option Addr) (cap : Nat) (rs : List Rt) (w : World) (h : RtsIn w p rs) (hr : ribB rs = true) (hr2 : ribB (rs.filterMap hushF) = true) :
    Calls Tryz.prog 124 #[ribV p rs.length cap] w fun e w' => ∃ q c, e = .returned (ribV q (rs.filterMap hushF).length c) ∧ w'.ownsRow w.heap.size 98 9 (.slice q (rs.filterMap hushF).length c) (rs.filterMap hushF).length (rowR (rs.filterMap hushF)) ∧ Below w.heap.size w w' := by
  have h8 := (ribB_spec hr).1
  have HB : Hid (∀ w, RtsIn w p rs → Calls Tryz.prog 103 #[.agg #[.slice p rs.length cap]] w fun e w' => e = .returned (.bool true) ∧ Below w.heap.size w w') := fun w h => by have := implRib_any p cap rs w h (by omega); rw [hr] at this; exact this
  have HL : Hid (∀ w, RtsIn w p rs → Calls Tryz.prog 152 #[.agg #[.slice p rs.length cap]] w fun e w' => ∃ B, e = .returned (.agg #[.map (some B), .func (.func 175) #[] #[]]) ∧ w.heap.size ≤ B ∧ MapIs w' B rs ∧ Below w.heap.size w w') := fun w h => (laidOut_any p cap rs w h (by omega)).mono fun e w' h => by
    obtain ⟨B, e1, hB, hm, hb⟩ := h
    rw [laidN_right hr] at hm
    exact ⟨B, e1, hB, hm, hb⟩
  have HA : Hid (∀ B w, Calls Tryz.prog 159 #[.agg #[.map (some B), .func (.func 175) #[] #[]]] w fun e w' => e = .returned (.func (.func 178) #[] #[.pointer (some ⟨w.heap.size, 0, none⟩)]) ∧ w.alloc (.cells #[.map (some B), .func (.func 175) #[] #[]] 180) = w') := fun B w => all_make B w
  have HP : Hid (∀ B ms r w, MapIs w B ms → Calls Tryz.prog 162 #[tabV B, netV r.a r.l, rtV r] w fun e w' => e = .returned (.tuple #[]) ∧ MapIs w' B (putN ms r) ∧ w.grownBy w' (some B)) := put_any
  have HO : Hid (∀ B w, MapIs w B (rs.filterMap hushF) → Calls Tryz.prog 156 #[.agg #[.map (some B), .func (.func 175) #[] #[]]] w fun e w' => ∃ p cap, e = .returned (.agg #[.slice p (rs.filterMap hushF).length cap]) ∧ w'.ownsRow w.heap.size 98 9 (.slice p (rs.filterMap hushF).length cap) (rs.filterMap hushF).length (rowR (rs.filterMap hushF)) ∧ Below w.heap.size w w') := fun B w h => ribOf_any B _ _ (List.Perm.refl _) hr2 w h
  have hris := rib_rising hr
  have HX : Hid (RtsIn w p rs) := h
  clear h
  obtain ⟨W, hW, q0, q1, hB, hS⟩ := rows2 w [.slice p rs.length cap] [.slice none 0 0] 36 36
  have HW : Hid _ := hW
  have c0 : W.cell? ⟨w.heap.size, 0, none⟩ = some (.slice p rs.length cap) := q0.cell 0
  have HQ : Hid _ := And.intro q0 (And.intro q1 (And.intro hB hS))
  clear hW q0 q1 hB hS
  unfold ribV
  refine (callsIn_wide (n := 9)).1 ?_
  refine callsIn_of_wp_marks Tryz.func124 rfl trivial ?_ rfl
  simp only [Tryz.ntmps124, List.size_toArray, List.length_cons, List.length_nil, Nat.reduceAdd, Nat.reduceSub, Array.replicate_succ, Array.replicate_zero, List.push_toArray, List.append_toArray, List.nil_append, List.cons_append]
  gi_wp2_with fail
  refine ⟨trivial, ?_⟩
  rw [← HW.out]
  obtain ⟨q0, q1, hB, hS⟩ := HQ.out
  refine (callsIn_wide.2 (HB.out _ ((HX.out).below hB))).mono ?_
  rintro e w1 ⟨rfl, hb1⟩
  clear HB HW HQ c0
  have c1 : w1.cell? ⟨w.heap.size, 0, none⟩ = some (.slice p rs.length cap) := (q0.below hb1 q0.lt).cell 0
  have hX1 := ((HX.out).below hB).below hb1
  have HK1 : Hid _ := And.intro (q1.below hb1 q1.lt) (And.intro (hB.trans (hb1.mono (by omega))) (trivial))
  have hs1 : w.heap.size + 1 + 1 ≤ w1.heap.size := by have := hb1.size; omega
  clear q0 q1 hB hS hb1 HX
  gi_wp2_with fail
  refine ⟨trivial, ?_⟩
  refine (callsIn_wide.2 (HL.out _ hX1)).mono ?_
  rintro e w2 ⟨B, rfl, hBB, hM, hb2⟩
  clear HL hX1 c1
  gi_wp2_with fail
  refine ⟨trivial, ?_⟩
  refine (callsIn_wide.2 (HA.out B _)).mono ?_
  rintro e w3 ⟨rfl, hw3⟩
  obtain ⟨rr, hB, rn⟩ := HK1.out
  have hs2 := hb2.size
  have hBl := hM.lt
  obtain ⟨V, hV, rt, rt', hbV, hsV⟩ := rows2 w2 [.map (some B), .func (.func 175) #[] #[]] [.map (some B), .func (.func 175) #[] #[]] 180 180
  simp only [World.size_alloc] at hw3 ⊢
  rw [show w3 = V from hw3.symm.trans hV.symm]
  have rr := (rr.below hb2 rr.lt).below hbV (rr.below hb2 rr.lt).lt
  have hB := (hB.trans (hb2.mono (by omega))).trans (hbV.mono (by omega))
  have hM := hM.below hbV hM.lt
  generalize hb2n : w2.heap.size = b2 at *
  clear hw3 hb2 hV HK1 HA
  gi_wp2_with fail
  refine wpIn_turns (by omega) (gf := 178) (lb := #[.pointer (some ⟨b2 + 1, 0, none⟩)]) rfl (enters_of Tryz.func178 (by kernel_rfl) rfl) rtV rs rfl KpM KpM.t (fun W o o' h hc => KpM.b o' h hc)
    (fun pre X => MapIs X B (halfR hushF rs pre.length) ∧ Row X b2 180 [.map (some B), .func (.func 175) #[] #[]] ∧ Row X (w.heap.size + 1) 36 [.slice none 0 0] ∧ Below w.heap.size w X)
    ?ig ?ip ?seq ?start
    (fun k a' X => ∃ (hk : k < rs.length) (y : Rt) (Bx : Nat), y = rs[k] ∧ (b2 < Bx ∧ w.heap.size + 1 < Bx) ∧ Row X Bx 98 (rtL y) ∧ (MapIs X B (halfR hushF rs k) ∧ Row X b2 180 [.map (some B), .func (.func 175) #[] #[]] ∧ Row X (w.heap.size + 1) 36 [.slice none 0 0] ∧ Below w.heap.size w X) ∧ a' = { tmps := #[.agg #[.slice p rs.length cap], .pointer (some ⟨w.heap.size, 0, none⟩), .pointer (some ⟨w.heap.size + 1, 0, none⟩), .pointer (some ⟨b2, 0, none⟩), .pointer (some ⟨Bx, 0, none⟩), .agg #[.slice p rs.length cap], .bool true, .bool false, undef, .agg #[.slice p rs.length cap], .agg #[.map (some B), .func (.func 175) #[] #[]], .agg #[.map (some B), .func (.func 175) #[] #[]], .func (.func 178) #[] #[.pointer (some ⟨b2 + 1, 0, none⟩)], rtV y, undef, undef, undef, undef, undef, undef, undef, undef], defers := [] })
    ?ap ?assign ?body ?done
  case ig =>
    rintro s X Y ⟨hm, rt, rr, hb⟩ hg
    exact ⟨hm.kept (hg.block B hm.lt (by simp)), (hg.block _ rt.lt (by simp)).trans rt, (hg.block _ rr.lt (by simp)).trans rr, hb.grown hg hb.size (fun k e => by cases e)⟩
  case ip =>
    rintro s X r o ⟨hm, rt, rr, hb⟩ hl
    exact ⟨hm.kept (World.putObj_heap_other (by omega)), (World.putObj_heap_other (by omega)).trans rt, (World.putObj_heap_other (by omega)).trans rr, hb.trans (belowK_b (w := w) (Nat.le_refl _) X _ _ o (by omega) hl rfl rfl)⟩
  case seq =>
    intro l J W hbW hJ hJI hY h0
    exact all1_mut (9 - 1) (by omega) l (b2 + 1) B rs rs (List.Perm.refl _) hr J hJ (fun k hk X hj => by
      have := (hJI _ _ hj).1
      rw [hdr_len hk] at this
      exact ⟨_, this, halfR_look hushF_net hris hk⟩) hY W (rt'.below hbW rt'.lt) (hM.below hbW hM.lt) h0
  case start =>
    exact ⟨by simpa [halfR_0] using hM, rt, rr, hB⟩
  case ap =>
    rintro k a' X r o ⟨hk, y, Bx, hy, hBx, hRx, ⟨hm, rt, rr, hb⟩, rfl⟩ hl
    refine ⟨hk, y, Bx, hy, hBx, (World.putObj_heap_other (fun e => ?_)).trans hRx, ⟨hm.kept (World.putObj_heap_other (by omega)), (World.putObj_heap_other (by omega)).trans rt, (World.putObj_heap_other (by omega)).trans rr, hb.trans (belowK_b (w := w) (Nat.le_refl _) X _ _ o (by omega) hl rfl rfl)⟩, rfl⟩
    subst e
    rw [show X.heap[V.heap.size + 1]? = _ from hRx] at hl
    cases hl
  case assign =>
    rintro l k hk X K ⟨hm, rt, rr, hb⟩ hK
    rw [hdr_len hk] at hm
    obtain ⟨y, hy⟩ : ∃ y, y = rs[k] := ⟨_, rfl⟩
    rw [← hy]
    have hy' : Hid _ := hy
    clear hy
    obtain ⟨A, L, M, O, I, T, U, E, C⟩ := y
    unfold rtV rtA at hK ⊢
    simp only at hK ⊢
    have HE : Hid _ := And.intro hm (And.intro rt (And.intro rr (And.intro hb hBl)))
    clear hm rt rr hb
    gi_wp2
    obtain ⟨hm, rt, rr, hb, hBl⟩ := HE.out
    exact hK _ _ ((KeepsOthers.alloc _ _).from _) (KpM.below (ent_new0 _ _)) ⟨hk, ⟨A, L, M, O, I, T, U, E, C⟩, X.heap.size, hy'.out, ⟨rt.lt, rr.lt⟩, Row.new X 98 [.int .i64 A, .int .i64 L, .int .i64 M, .int .i64 O, .int .i64 I, .int .i64 T, .int .i64 U, .int .i64 E, .bool C], ⟨hm.below (ent_new0 X _) hm.lt, rt.alloc _, rr.alloc _, hb.alloc hb.size _⟩, rfl⟩
  case body =>
    rintro l k hk' a' X ⟨hk, y, Bx, hy, ⟨hBx, hBr⟩, hRx, ⟨hm, rt, rr, hb⟩, rfl⟩
    rw [hdr_len2 hk]
    have hne := map_row_ne hm hRx
    have hyy : Hid _ := hy
    clear hy
    obtain ⟨A, L, M, O, I, T, U, E, C⟩ := y
    unfold rtV rtA
    simp only [rtL] at hRx ⊢
    have x0 : X.cell? ⟨Bx, 0, none⟩ = some (.int .i64 A) := hRx.cell 0
    have x1 : X.cell? ⟨Bx, 1, none⟩ = some (.int .i64 L) := hRx.cell 1
    have x2 : X.cell? ⟨Bx, 2, none⟩ = some (.int .i64 M) := hRx.cell 2
    have x3 : X.cell? ⟨Bx, 3, none⟩ = some (.int .i64 O) := hRx.cell 3
    have x4 : X.cell? ⟨Bx, 4, none⟩ = some (.int .i64 I) := hRx.cell 4
    have x5 : X.cell? ⟨Bx, 5, none⟩ = some (.int .i64 T) := hRx.cell 5
    have x6 : X.cell? ⟨Bx, 6, none⟩ = some (.int .i64 U) := hRx.cell 6
    have x7 : X.cell? ⟨Bx, 7, none⟩ = some (.int .i64 E) := hRx.cell 7
    have x8 : X.cell? ⟨Bx, 8, none⟩ = some (.bool C) := hRx.cell 8
    have t0 : X.cell? ⟨b2, 0, none⟩ = some (.map (some B)) := rt.cell 0
    have t1 : X.cell? ⟨b2, 1, none⟩ = some (.func (.func 175) #[] #[]) := rt.cell 1
    have f8 : X.frozen? ⟨Bx, 8, none⟩ = false := hRx.frozen 8
    have hF : hushF rs[k] = some ⟨A, L, M, O, I, T, U, E, false⟩ := by rw [← hyy.out]; rfl
    have nb : ¬ Bx = b2 := by omega
    have nb' : ¬ b2 = Bx := by omega
    have nr : ¬ w.heap.size + 1 = Bx := by omega
    have HPk : Hid (∀ w, MapIs w B (halfR hushF rs k) → Calls Tryz.prog 162 #[.agg #[.map (some B), .func (.func 175) #[] #[]], .agg #[.int .i64 A, .int .i64 L], .agg #[.int .i64 A, .int .i64 L, .int .i64 M, .int .i64 O, .int .i64 I, .int .i64 T, .int .i64 U, .int .i64 E, .bool false]] w fun e w' => e = .returned (.tuple #[]) ∧ MapIs w' B (halfR hushF rs (k + 1)) ∧ w.grownBy w' (some B)) := fun w h => by
      have := HP.out B _ ⟨A, L, M, O, I, T, U, E, false⟩ w h
      rw [halfR_put hushF_net hris hk hF] at this
      exact this
    have HE : Hid _ := And.intro (hm.kept (Below.heap_setCell X ⟨Bx, 8, none⟩ (.bool false) B (fun e => hne e.symm))) (And.intro (rt.other 8 (.bool false) nb') (And.intro (rr.other 8 (.bool false) nr) (And.intro (hb.setCell (p := ⟨Bx, 8, none⟩) (by show w.heap.size ≤ Bx; omega) (.bool false)) (And.intro (kpm_set 8 (.bool false) hRx) ((KeepsOthers.setCell X ⟨Bx, 8, none⟩ (.bool false)).from V.heap.size)))))
    clear hm rt rr hb hRx hF
    gi_wp2_with fail
    obtain ⟨hm, rt, rr, hb, hkp, hkf⟩ := HE.out
    clear HE f8 t0 t1 nb nb' x0 x1 x2 x3 x4 x5 x6 x7 x8
    generalize X.setCell ⟨Bx, 8, none⟩ (.bool false) = X1 at *
    refine ⟨trivial, (CallsIn.inRound l (callsIn_wide.2 (HPk.out _ hm))).mono ?_⟩
    rintro e X2 ⟨rfl, hm2, hg2⟩
    have hmm : ∃ es c, X1.heap[B]? = some (.map es c) := by obtain ⟨es, c, h, _⟩ := hm; exact ⟨es, c, h⟩
    have HZ : Hid _ := And.intro (keepsFrom_trans hkf (keepsFrom_grown hg2 (by omega : B < V.heap.size))) (And.intro (hkp.t (KpM.grown hg2 hmm)) (And.intro hm2 (And.intro (grown_row hg2 rt (by omega)) (And.intro (grown_row hg2 rr (by omega)) (hb.grown hg2 hb.size (fun k e => by cases e; omega))))))
    clear hm hm2 hg2 hmm hkp hkf rt rr hb
    gi_wp2_with fail
    have hz := HZ.out
    rw [hsV] at hz
    exact hz
  case done =>
    rintro X ⟨hm, rt, rr, hb⟩ hK
    rw [halfR_end] at hm
    have t0 : X.cell? ⟨b2, 0, none⟩ = some (.map (some B)) := rt.cell 0
    have t1 : X.cell? ⟨b2, 1, none⟩ = some (.func (.func 175) #[] #[]) := rt.cell 1
    have HE : Hid _ := And.intro hm (And.intro rr (And.intro hb (And.intro hK hB.size)))
    clear hm rt rr hb hK rt' hM hB HP
    gi_wp2_with fail
    refine ⟨trivial, ?_⟩
    obtain ⟨hm, rr, hb, hK, hBs⟩ := HE.out
    refine (callsIn_wide.2 (HO.out B _ hm)).mono ?_
    rintro e X1 ⟨q, c, rfl, ho, hb1⟩
    have hsX := rr.lt
    have rr := rr.below hb1 rr.lt
    have hK : X1.heap[V.heap.size]? = _ := (hb1.block _ (Array.getElem?_eq_some_iff.1 hK).1).trans hK
    have hb := hb.trans (hb1.mono hb.size)
    clear t0 t1 HE HO hm
    have f0 : X1.frozen? ⟨w.heap.size + 1, 0, none⟩ = false := rr.frozen 0
    have z0 : X1.cell? ⟨w.heap.size + 1, 0, none⟩ = some (.slice none 0 0) := rr.cell 0
    have HF : Hid _ := And.intro (rr.set 0 (.slice q (rs.filterMap hushF).length c)) (And.intro (hb.setCell (p := ⟨w.heap.size + 1, 0, none⟩) (by show w.heap.size ≤ w.heap.size + 1; omega) (.slice q (rs.filterMap hushF).length c)) (And.intro (((Below.heap_setCell _ _ _ _ (by show V.heap.size ≠ w.heap.size + 1; omega)).trans hK) : (X1.setCell ⟨w.heap.size + 1, 0, none⟩ (.slice q (rs.filterMap hushF).length c)).heap[V.heap.size]? = some (.deferred (some []))) (ownR_set (base' := w.heap.size) ho ⟨w.heap.size + 1, 0, none⟩ (by show w.heap.size + 1 < _; omega) (.slice q (rs.filterMap hushF).length c) (by omega))))
    clear rr hb hK ho hb1
    gi_wp2_with fail
    have hF := HF.out
    clear HF f0 z0
    generalize X1.setCell ⟨w.heap.size + 1, 0, none⟩ (.slice q (rs.filterMap hushF).length c) = Z at *
    obtain ⟨h1, h2, h3, h7⟩ := hF
    rw [hsV] at h3
    refine ⟨by simp, .inl ⟨_, _, rfl, run_takeDeferred h3, ?_⟩⟩
    have h4 : Below w.heap.size Z (Z.putObj (b2 + 1 + 1) (.deferred none)) := belowK_b (w := w) (Nat.le_refl _) Z (b2 + 1 + 1) _ _ (by omega) h3 rfl rfl
    have h5 : Row (Z.putObj (b2 + 1 + 1) (.deferred none)) (w.heap.size + 1) 36 [.slice q (rs.filterMap hushF).length c] := (World.putObj_heap_other (by omega)).trans h1
    have h6 := h2.trans h4
    have h8 : (Z.putObj (b2 + 1 + 1) (.deferred none)).ownsRow w.heap.size 98 9 (.slice q (rs.filterMap hushF).length c) (rs.filterMap hushF).length (rowR (rs.filterMap hushF)) := World.ownsRow.kept h7 (row := some (b2 + 1 + 1)) (grownBy_putObj' Z (b2 + 1 + 1) (.deferred none)) (by
      rcases h7.2 with ⟨e, _⟩ | ⟨g, _, _, e, _, hg, _⟩
      · left; rw [e]; rfl
      · right
        rw [e]
        intro e'
        have e'' : g = (b2 + 1 + 1) := by simpa [Value.ownBlock] using e'
        rw [e'', h3] at hg
        cases hg)
    clear h1 h2 h3 h4 h7
    generalize Z.putObj (b2 + 1 + 1) (.deferred none) = Y at *
    have e0 : Y.cell? ⟨w.heap.size + 1, 0, none⟩ = some (.slice q (rs.filterMap hushF).length c) := h5.cell 0
    refine ⟨.agg #[.slice q (rs.filterMap hushF).length c], by simp [results, Tryz.results124, go_sem, e0], ?_⟩
    exact ⟨q, c, rfl, h8, h6⟩
end Go.Proofs.YtifckpncpjijiaaGreat
/- RibQuiet of the program, at every argument. (Written by gen_quiett.py.) -/
namespace Go.Proofs.YtifckpncpjijiaaGreat
open Go.RowKit Go.Sort

/-- What RibQuiet answers. -/
def quietO (rs : List Rt) : List Rt := if ribB rs = true then rs.filterMap hushF else []
theorem quietO_len (rs : List Rt) : (quietO rs).length ≤ 8 := by
  unfold quietO
  split
  · rename_i h
    exact Nat.le_trans (List.length_filterMap_le _ _) (ribB_spec h).1
  · simp
theorem quiet_ribs {rs : List Rt} (h : ribB rs = true) : ribB (rs.filterMap hushF) = true := by
  refine turned_right hushF_net h fun r hr s hs => ?_
  have hrr := rib_routes h r hr
  unfold hushF at hs
  cases hs
  exact hrr
set_option maxRecDepth 100000 in
set_option maxHeartbeats 2000000 in
theorem implQuiet_any (p : Option Addr) (cap : Nat) (rs : List Rt) (w : World) (h : RtsIn w p rs) (hn : rs.length ≤ 100000000) :
    Calls Tryz.prog 124 #[ribV p rs.length cap] w fun e w' => (∃ q c, e = .returned (ribV q (quietO rs).length c) ∧ w'.ownsRow w.heap.size 98 9 (.slice q (quietO rs).length c) (quietO rs).length (rowR (quietO rs))) ∧ Below w.heap.size w w' := by
  unfold quietO
  cases h1 : ribB rs
  · have HB : Hid (∀ w, RtsIn w p rs → Calls Tryz.prog 103 #[.agg #[.slice p rs.length cap]] w fun e w' => e = .returned (.bool false) ∧ Below w.heap.size w w') := fun w h => by have := implRib_any p cap rs w h hn; rw [h1] at this; exact this
    have HX : Hid (RtsIn w p rs) := h
    simp only [Bool.false_eq_true, if_false]
    clear h hn h1
    generalize rs.length = N at *
    obtain ⟨W, hW, q0, qr, hB, hS⟩ := rows2 w [.slice p N cap] [.slice none 0 0] 36 36
    have HW : Hid _ := hW
    have HQ : Hid _ := And.intro q0 (And.intro qr hB)
    have x0 : W.cell? ⟨w.heap.size, 0, none⟩ = some (.slice p N cap) := q0.cell 0
    clear q0 qr hB
    unfold ribV
    go_enter Tryz.func124, Tryz.ntmps124
    rw [hW] at x0
    clear hW
    go_wp2_with fail
    rw [← HW.out]
    obtain ⟨q0, qr, hB⟩ := HQ.out
    clear x0
    refine (HB.out _ ((HX.out).below hB)).mono ?_
    rintro e w1 ⟨rfl, hb1⟩
    have q0 := q0.below hb1 (by omega)
    have qr := qr.below hb1 (by omega)
    have hB := hB.trans (hb1.mono (by omega))
    have hs1 := hb1.size
    clear HB HW HQ hb1
    have f0 : w1.frozen? ⟨w.heap.size + 1, 0, none⟩ = false := qr.frozen 0
    have z0 : w1.cell? ⟨w.heap.size + 1, 0, none⟩ = some (.slice none 0 0) := qr.cell 0
    have HE2 : Hid _ := And.intro (qr.set 0 (.slice none 0 0)) (And.intro (hB.setCell (p := ⟨w.heap.size + 1, 0, none⟩) (by show w.heap.size ≤ w.heap.size + 1; omega) (.slice none 0 0)) trivial)
    clear qr hB q0
    go_wp2_with fail
    obtain ⟨h1, h2, h3⟩ := HE2.out
    clear HE2 f0 z0
    generalize w1.setCell ⟨w.heap.size + 1, 0, none⟩ (.slice none 0 0) = Z at *
    have e0 : Z.cell? ⟨w.heap.size + 1, 0, none⟩ = some (.slice none 0 0) := h1.cell 0
    exact bodyPost_ret (v := .agg #[.slice none 0 0]) (by simp [results, Tryz.results124, go_sem, e0]) rfl ⟨⟨_, _, rfl, World.ownsRow_nil _ _ _ 9⟩, h2⟩
  · simp only [if_true]
    refine (implQuiet_right p cap rs w h h1 (quiet_ribs h1)).mono ?_
    rintro e w' ⟨q, c, he, ho, hb⟩
    exact ⟨⟨q, c, he, ho⟩, hb⟩

end Go.Proofs.YtifckpncpjijiaaGreat
/- A table at work: quiet. (Written by gen_work.py.) -/
namespace Go.Proofs.YtifckpncpjijiaaGreat
open Go.RowKit Go.Sort

set_option maxRecDepth 100000 in
set_option maxHeartbeats 2000000 in
theorem quietAt_any (g k : Nat) (T : TypeId) (l : List Value) (p : Option Addr) (c0 : Nat) (rs : List Rt) (w : World) (hr : Row w g T l) (hk : l[k]? = some (.slice p rs.length c0)) (h : RtsIn w p rs) (hn : rs.length ≤ 100000000) :
    Calls Tryz.prog 76 #[.pointer (some ⟨g, k, none⟩)] w fun e w' => e = .returned (.int .i64 0) ∧ Took g k T l w.heap.size 0 (quietO rs) w w' := by
  have HC : Hid (∀ w, RtsIn w p rs → Calls Tryz.prog 124 #[.agg #[.slice p rs.length c0]] w fun e w' => (∃ q c, e = .returned (.agg #[.slice q (quietO rs).length c]) ∧ w'.ownsRow w.heap.size 98 9 (.slice q (quietO rs).length c) (quietO rs).length (rowR (quietO rs))) ∧ Below w.heap.size w w') := fun w h => implQuiet_any p c0 rs w h hn
  have HX : Hid (RtsIn w p rs) := h
  have HF : Hid (∀ q c (w1 w2 : World), Below w.heap.size w w1 → w1.ownsRow w.heap.size 98 9 (.slice q (quietO rs).length c) (quietO rs).length (rowR (quietO rs)) → Row w2 g T (if 0 = 0 then l.set k (.slice q (quietO rs).length c) else l) → Below g w1 w2 → (∀ b t l, b ≠ g → Row w1 b t l → Row w2 b t l) → Took g k T l w.heap.size 0 (quietO rs) w w2) := fun q c w1 w2 a b d e f => took_of hr.lt a b d e f
  clear h hn
  generalize (quietO rs) = qs at *
  have HT : Hid (∀ q c (w : World), Row w g T l → Calls Tryz.prog 108 #[.pointer (some ⟨g, k, none⟩), .agg #[.slice q qs.length c, .int .i64 0]] w fun e w' => e = .returned (.int .i64 0) ∧ Row w' g T (if (0 : Int) = 0 then l.set k (.slice q qs.length c) else l) ∧ Below g w w' ∧ ∀ b t l, b ≠ g → Row w b t l → Row w' b t l) := fun q c w hr => take_any g k T l q _ c 0 _ w hr hk
  generalize rs.length = n at *
  generalize qs.length = N at *
  have y0 : w.cell? ⟨g, k, none⟩ = some (.slice p n c0) := (hr.cell k).trans hk
  go_enter Tryz.func76, Tryz.ntmps76
  go_wp2_with fail
  refine (HC.out _ HX.out).mono ?_
  rintro e w1 ⟨⟨q, c, rfl, ho⟩, hb1⟩
  have r1 := hr.below hb1 hr.lt
  clear y0 HC HX
  go_wp2_with fail
  refine (HT.out q c _ r1).mono ?_
  rintro e w2 ⟨rfl, r2, hb2, hk2⟩
  have hf := HF.out q c w1 w2 hb1 ho r2 hb2 hk2
  clear hb1 ho r2 hb2 hk2 r1 hr HF HT
  go_wp2
  go_ret
  exact ⟨rfl, hf⟩
end Go.Proofs.YtifckpncpjijiaaGreat
/- RibTick of the model. (Written by gen_ticks.py.) -/
namespace Go.Proofs.YtifckpncpjijiaaGreat
open Go.RowKit Go.Sort

theorem ownsR_shapeT {w : World} {base n : Nat} {v : Value} {xs : List Value} (h : w.ownsRow base 98 9 v n xs) : ∃ q c, v = .slice q n c := by
  rcases h.2 with ⟨h1, h2⟩ | ⟨g, cap, cur, h1, _⟩
  · exact ⟨none, 0, by rw [h1, h2]⟩
  · exact ⟨_, _, h1⟩
theorem ownsR_belowT {w w' : World} {base n : Nat} {v : Value} {xs : List Value} (h : w.ownsRow base 98 9 v n xs) (hb : Below w.heap.size w w') : w'.ownsRow base 98 9 v n xs :=
  World.ownsRow.kept h (row := none) ⟨hb.os, hb.tape, hb.output, hb.size, fun k hk _ => hb.block k hk⟩ (by cases v.ownBlock <;> simp)
theorem set_owns {w : World} {base n : Nat} {v : Value} {xs : List Value} (h : w.ownsRow base 98 9 v n xs) {g : Nat} (hg : ∀ b, v.ownBlock = some b → b ≠ g) (j : Nat) (x : Value) : (w.setCell ⟨g, j, none⟩ x).ownsRow base 98 9 v n xs := by
  rcases h.2 with ⟨h1, h2⟩ | ⟨k, cap, cur, h1, h2, h3, h4⟩
  · exact ⟨h.1, .inl ⟨h1, h2⟩⟩
  · refine ⟨h.1, .inr ⟨k, cap, cur, h1, h2, (Below.heap_setCell w ⟨g, j, none⟩ x k (fun e => hg k (by rw [h1]; rfl) e)).trans h3, h4⟩⟩
theorem nine0_owns {w : World} {base n : Nat} {v : Value} {xs : List Value} (h : w.ownsRow base 98 9 v n xs) {g : Nat} (hg : ∀ b, v.ownBlock = some b → b ≠ g) (x0 x1 x2 x3 x4 x5 x6 x7 x8 : Value) : (nine0 w g x0 x1 x2 x3 x4 x5 x6 x7 x8).ownsRow base 98 9 v n xs :=
  set_owns (set_owns (set_owns (set_owns (set_owns (set_owns (set_owns (set_owns (set_owns h hg 0 x0) hg 1 x1) hg 2 x2) hg 3 x3) hg 4 x4) hg 5 x5) hg 6 x6) hg 7 x7) hg 8 x8
theorem take_turnL (f : Rt → Option Rt) {rs : List Rt} {k : Nat} (hk : k < rs.length) : (rs.take (k + 1)).filterMap f = (rs.take k).filterMap f ++ (f rs[k]).toList := take_turn f hk
set_option maxRecDepth 100000 in
set_option maxHeartbeats 4000000 in
theorem l06Tick_any (p : Option Addr) (cap : Nat) (rs : List Rt) (now : Int) (w : World) (h : RtsIn w p rs) (hn : rs.length ≤ 100000000) (hn0 : 0 ≤ now) (hn1 : now ≤ 999900) :
    Calls Tryz.prog 115 #[ribV p rs.length cap, .int .i64 now] w fun e w' => ∃ q c, e = .returned (ribV q (rs.filterMap (tickD now)).length c) ∧ w'.ownsRow w.heap.size 98 9 (.slice q (rs.filterMap (tickD now)).length c) (rs.filterMap (tickD now)).length (rowR (rs.filterMap (tickD now))) ∧ Below w.heap.size w w' := by
  have HD : Hid (∀ r w, Calls Tryz.prog 118 #[rtV r, .int .i64 now] w fun e w' => e = .returned (rtV (deadR r now)) ∧ Below w.heap.size w w') := fun r w => l06Dead_any r now w hn0 hn1
  have HX : Hid (RtsIn w p rs) := h
  clear h
  obtain ⟨W, hW, q0, q1, q2, hB, hS, -⟩ := rows3 w [.slice p rs.length cap] [.slice none 0 0] [.slice none 0 0] 36 36 36
  have HW : Hid _ := hW
  have HQ : Hid _ := And.intro q0 (And.intro q1 (And.intro q2 hB))
  have nz0 : w.heap.size ≠ w.heap.size + 1 + 1 := by omega
  have nz1 : w.heap.size + 1 ≠ w.heap.size + 1 + 1 := by omega
  clear hW q0 q1 q2 hB
  unfold ribV
  go_enter Tryz.func115, Tryz.ntmps115
  go_wp2_with fail
  rw [← HW.out]
  go_loopw [6] (fun i wr => ∃ (k : Nat) (v : Value), k ≤ rs.length ∧ i = .int .i64 k ∧ Row wr w.heap.size 36 [.slice p rs.length cap] ∧ Row wr (w.heap.size + 1) 36 [.slice none 0 0] ∧ Row wr (w.heap.size + 1 + 1) 36 [v] ∧ wr.ownsRow W.heap.size 98 9 v ((rs.take k).filterMap (tickD now)).length (rowR ((rs.take k).filterMap (tickD now))) ∧ Below w.heap.size w wr ∧ W.heap.size ≤ wr.heap.size) (fun i _ => rs.length - (intOf i).toNat)
  case atStart => exact ⟨0, .slice none 0 0, Nat.zero_le _, rfl, HQ.out.1, HQ.out.2.1, HQ.out.2.2.1, World.ownsRow_nil _ _ _ 9, HQ.out.2.2.2, Nat.le_refl _⟩
  case round =>
    obtain ⟨k, v, hk, rfl, r0, r1, r2, hown, hB, hWs⟩ := hrel
    clear HW HQ
    have x0 : wr.cell? ⟨w.heap.size, 0, none⟩ = some (.slice p rs.length cap) := r0.cell 0
    obtain ⟨q, cv, rfl⟩ := ownsR_shapeT hown
    by_cases hlt : k < rs.length
    · have d1 : decide ((k : Int) < (rs.length : Int)) = true := by simpa using hlt
      obtain ⟨g, a, l, m, n, ii, t, u, b, c, rfl, hg, hek, c0, c1, c2, c3, c4, c5, c6, c7, c8⟩ := ((HX.out).below hB).at k hlt
      have hnx := take_turnL (tickD now) hlt
      rw [hek] at hnx
      by_cases hb : dueB b now = true
      · have HTK : Hid ((rs.take (k + 1)).filterMap (tickD now) = (rs.take k).filterMap (tickD now)) := by
          show _ = _
          rw [hnx, show tickD now (⟨a, l, m, n, ii, t, u, b, c⟩ : Rt) = none by simp [tickD, hb]]
          simp
        simp only [dueB, Bool.and_eq_true, decide_eq_true_eq] at hb
        have db1 : decide (0 < b) = true := by simpa using hb.1
        have db2 : decide (b ≤ now) = true := by simpa using hb.2
        have HZ : Hid _ := And.intro (r0.alloc (.cells #[.int .i64 a, .int .i64 l, .int .i64 m, .int .i64 n, .int .i64 ii, .int .i64 t, .int .i64 u, .int .i64 b, .bool c] 98)) (And.intro (r1.alloc (.cells #[.int .i64 a, .int .i64 l, .int .i64 m, .int .i64 n, .int .i64 ii, .int .i64 t, .int .i64 u, .int .i64 b, .bool c] 98)) (And.intro (r2.alloc (.cells #[.int .i64 a, .int .i64 l, .int .i64 m, .int .i64 n, .int .i64 ii, .int .i64 t, .int .i64 u, .int .i64 b, .bool c] 98)) (And.intro (World.ownsRow.alloc hown (.cells #[.int .i64 a, .int .i64 l, .int .i64 m, .int .i64 n, .int .i64 ii, .int .i64 t, .int .i64 u, .int .i64 b, .bool c] 98)) (hB.alloc hB.size (.cells #[.int .i64 a, .int .i64 l, .int .i64 m, .int .i64 n, .int .i64 ii, .int .i64 t, .int .i64 u, .int .i64 b, .bool c] 98)))))
        clear r0 r1 r2 hown hB hb hnx hek
        go_wp2_with fail
        go_roundw
        case rel => exact ⟨k + 1, _, hlt, by go_num, HZ.out.1, HZ.out.2.1, HZ.out.2.2.1, by rw [HTK.out]; exact HZ.out.2.2.2.1, HZ.out.2.2.2.2, by simp; omega⟩
        case measure => simp [intOf]; omega
      · have hb0 := hb
        simp only [dueB, Bool.and_eq_true, decide_eq_true_eq] at hb0
        by_cases hb1 : 0 < b
        · have db1 : decide (0 < b) = true := by simpa using hb1
          have db2 : decide (b ≤ now) = false := by simp; omega
          clear hb0 hb1
          by_cases hu : dueB u now = true
          · have HTK : Hid ((rs.take (k + 1)).filterMap (tickD now) = (rs.take k).filterMap (tickD now) ++ [(⟨a, l, 16, n, ii, t, 0, now + 4, true⟩ : Rt)]) := by
              show _ = _
              rw [hnx, show tickD now (⟨a, l, m, n, ii, t, u, b, c⟩ : Rt) = some (⟨a, l, 16, n, ii, t, 0, now + 4, true⟩ : Rt) by simp [tickD, hb, hu, deadR]]
              rfl
            have hob : Hid (∀ b, (Value.slice q ((rs.take k).filterMap (tickD now)).length cv).ownBlock = some b → b ≠ wr.heap.size) := fun b e h => by have := (World.ownsRow.lt hown b e).2; omega
            simp only [dueB, Bool.and_eq_true, decide_eq_true_eq] at hu
            have du1 : decide (0 < u) = true := by simpa using hu.1
            have du2 : decide (u ≤ now) = true := by simpa using hu.2
            clear hb hu hnx
            have r0 := r0.alloc (.cells #[.int .i64 a, .int .i64 l, .int .i64 m, .int .i64 n, .int .i64 ii, .int .i64 t, .int .i64 u, .int .i64 b, .bool c] 98)
            have r1 := r1.alloc (.cells #[.int .i64 a, .int .i64 l, .int .i64 m, .int .i64 n, .int .i64 ii, .int .i64 t, .int .i64 u, .int .i64 b, .bool c] 98)
            have r2 := r2.alloc (.cells #[.int .i64 a, .int .i64 l, .int .i64 m, .int .i64 n, .int .i64 ii, .int .i64 t, .int .i64 u, .int .i64 b, .bool c] 98)
            have hown := World.ownsRow.alloc hown (.cells #[.int .i64 a, .int .i64 l, .int .i64 m, .int .i64 n, .int .i64 ii, .int .i64 t, .int .i64 u, .int .i64 b, .bool c] 98)
            have hB := hB.alloc hB.size (.cells #[.int .i64 a, .int .i64 l, .int .i64 m, .int .i64 n, .int .i64 ii, .int .i64 t, .int .i64 u, .int .i64 b, .bool c] 98)
            have hWs0 : W.heap.size ≤ wr.heap.size := hWs
            have hWs : W.heap.size ≤ (wr.alloc (.cells #[.int .i64 a, .int .i64 l, .int .i64 m, .int .i64 n, .int .i64 ii, .int .i64 t, .int .i64 u, .int .i64 b, .bool c] 98)).heap.size := by simp; omega
            have y2 : (wr.alloc (.cells #[.int .i64 a, .int .i64 l, .int .i64 m, .int .i64 n, .int .i64 ii, .int .i64 t, .int .i64 u, .int .i64 b, .bool c] 98)).cell? ⟨w.heap.size + 1 + 1, 0, none⟩ = some (.slice q ((rs.take k).filterMap (tickD now)).length cv) := r2.cell 0
            have qb := Row.new wr 98 [.int .i64 a, .int .i64 l, .int .i64 m, .int .i64 n, .int .i64 ii, .int .i64 t, .int .i64 u, .int .i64 b, .bool c]
            have HE : Hid _ := And.intro r0 (And.intro r1 (And.intro r2 (And.intro hown (And.intro hB qb))))
            have HDk : Hid (∀ w, Calls Tryz.prog 118 #[.agg #[.int .i64 a, .int .i64 l, .int .i64 m, .int .i64 n, .int .i64 ii, .int .i64 t, .int .i64 u, .int .i64 b, .bool c], .int .i64 now] w fun e w' => e = .returned (.agg #[.int .i64 a, .int .i64 l, .int .i64 16, .int .i64 n, .int .i64 ii, .int .i64 t, .int .i64 0, .int .i64 (now + 4), .bool true]) ∧ Below w.heap.size w w') := HD.out (⟨a, l, m, n, ii, t, u, b, c⟩ : Rt)
            clear r0 r1 r2 hown hB qb y2 hek
            go_wp2_with fail
            refine (HDk.out _).mono ?_
            rintro e w2 ⟨rfl, hb2⟩
            obtain ⟨r0, r1, r2, hown, hB, qb⟩ := HE.out
            have r0 := r0.below hb2 r0.lt
            have r1 := r1.below hb2 r1.lt
            have r2 := r2.below hb2 r2.lt
            have qb := qb.below hb2 qb.lt
            have hown := ownsR_belowT hown hb2
            have hB := hB.trans (hb2.mono hB.size)
            have hWs : W.heap.size ≤ w2.heap.size := Nat.le_trans hWs hb2.size
            clear HE HDk hb2 c0 c1 c2 c3 c4 c5 c6 c7 c8 x0
            have e0 : w2.cell? ⟨wr.heap.size, 0, none⟩ = some (.int .i64 a) := qb.cell 0
            have g0 : w2.frozen? ⟨wr.heap.size, 0, none⟩ = false := qb.frozen 0
            have e1 : w2.cell? ⟨wr.heap.size, 1, none⟩ = some (.int .i64 l) := qb.cell 1
            have g1 : w2.frozen? ⟨wr.heap.size, 1, none⟩ = false := qb.frozen 1
            have e2 : w2.cell? ⟨wr.heap.size, 2, none⟩ = some (.int .i64 m) := qb.cell 2
            have g2 : w2.frozen? ⟨wr.heap.size, 2, none⟩ = false := qb.frozen 2
            have e3 : w2.cell? ⟨wr.heap.size, 3, none⟩ = some (.int .i64 n) := qb.cell 3
            have g3 : w2.frozen? ⟨wr.heap.size, 3, none⟩ = false := qb.frozen 3
            have e4 : w2.cell? ⟨wr.heap.size, 4, none⟩ = some (.int .i64 ii) := qb.cell 4
            have g4 : w2.frozen? ⟨wr.heap.size, 4, none⟩ = false := qb.frozen 4
            have e5 : w2.cell? ⟨wr.heap.size, 5, none⟩ = some (.int .i64 t) := qb.cell 5
            have g5 : w2.frozen? ⟨wr.heap.size, 5, none⟩ = false := qb.frozen 5
            have e6 : w2.cell? ⟨wr.heap.size, 6, none⟩ = some (.int .i64 u) := qb.cell 6
            have g6 : w2.frozen? ⟨wr.heap.size, 6, none⟩ = false := qb.frozen 6
            have e7 : w2.cell? ⟨wr.heap.size, 7, none⟩ = some (.int .i64 b) := qb.cell 7
            have g7 : w2.frozen? ⟨wr.heap.size, 7, none⟩ = false := qb.frozen 7
            have e8 : w2.cell? ⟨wr.heap.size, 8, none⟩ = some (.bool c) := qb.cell 8
            have g8 : w2.frozen? ⟨wr.heap.size, 8, none⟩ = false := qb.frozen 8
            have nx0 : w.heap.size ≠ wr.heap.size := by omega
            have nx1 : w.heap.size + 1 ≠ wr.heap.size := by omega
            have nx2 : w.heap.size + 1 + 1 ≠ wr.heap.size := by omega
            have m2 : ¬ wr.heap.size = w.heap.size + 1 + 1 := by omega
            have m2' : ¬ w.heap.size + 1 + 1 = wr.heap.size := by omega
            have y2 : w2.cell? ⟨w.heap.size + 1 + 1, 0, none⟩ = some (.slice q ((rs.take k).filterMap (tickD now)).length cv) := r2.cell 0
            have r0 := nine0_other r0 wr.heap.size nx0 (.int .i64 a) (.int .i64 l) (.int .i64 16) (.int .i64 n) (.int .i64 ii) (.int .i64 t) (.int .i64 0) (.int .i64 (now + 4)) (.bool true)
            have r1 := nine0_other r1 wr.heap.size nx1 (.int .i64 a) (.int .i64 l) (.int .i64 16) (.int .i64 n) (.int .i64 ii) (.int .i64 t) (.int .i64 0) (.int .i64 (now + 4)) (.bool true)
            have r2 := nine0_other r2 wr.heap.size nx2 (.int .i64 a) (.int .i64 l) (.int .i64 16) (.int .i64 n) (.int .i64 ii) (.int .i64 t) (.int .i64 0) (.int .i64 (now + 4)) (.bool true)
            have hB := nine0_below hB wr.heap.size (by have := hWs0; omega) (.int .i64 a) (.int .i64 l) (.int .i64 16) (.int .i64 n) (.int .i64 ii) (.int .i64 t) (.int .i64 0) (.int .i64 (now + 4)) (.bool true)
            have hown : (nine0 w2 wr.heap.size (.int .i64 a) (.int .i64 l) (.int .i64 16) (.int .i64 n) (.int .i64 ii) (.int .i64 t) (.int .i64 0) (.int .i64 (now + 4)) (.bool true)).ownsRow W.heap.size 98 9 (.slice q ((rs.take k).filterMap (tickD now)).length cv) ((rs.take k).filterMap (tickD now)).length (rowR ((rs.take k).filterMap (tickD now))) := nine0_owns hown (hob.out)  (.int .i64 a) (.int .i64 l) (.int .i64 16) (.int .i64 n) (.int .i64 ii) (.int .i64 t) (.int .i64 0) (.int .i64 (now + 4)) (.bool true)
            have hWs : W.heap.size ≤ (nine0 w2 wr.heap.size (.int .i64 a) (.int .i64 l) (.int .i64 16) (.int .i64 n) (.int .i64 ii) (.int .i64 t) (.int .i64 0) (.int .i64 (now + 4)) (.bool true)).heap.size := by unfold nine0; simpa using hWs
            generalize hY : nine0 w2 wr.heap.size (.int .i64 a) (.int .i64 l) (.int .i64 16) (.int .i64 n) (.int .i64 ii) (.int .i64 t) (.int .i64 0) (.int .i64 (now + 4)) (.bool true) = Y at r0 r1 r2 hB hown hWs
            have hn0' : Y.heap.size ≥ W.heap.size := hWs
            have qn := Row.new (Y) 98 [.int .i64 a, .int .i64 l, .int .i64 16, .int .i64 n, .int .i64 ii, .int .i64 t, .int .i64 0, .int .i64 (now + 4), .bool true]
            have r0 := r0.alloc (.cells #[.int .i64 a, .int .i64 l, .int .i64 16, .int .i64 n, .int .i64 ii, .int .i64 t, .int .i64 0, .int .i64 (now + 4), .bool true] 98)
            have r1 := r1.alloc (.cells #[.int .i64 a, .int .i64 l, .int .i64 16, .int .i64 n, .int .i64 ii, .int .i64 t, .int .i64 0, .int .i64 (now + 4), .bool true] 98)
            have r2 := r2.alloc (.cells #[.int .i64 a, .int .i64 l, .int .i64 16, .int .i64 n, .int .i64 ii, .int .i64 t, .int .i64 0, .int .i64 (now + 4), .bool true] 98)
            have hB := hB.alloc hB.size (.cells #[.int .i64 a, .int .i64 l, .int .i64 16, .int .i64 n, .int .i64 ii, .int .i64 t, .int .i64 0, .int .i64 (now + 4), .bool true] 98)
            obtain ⟨v5, w5, happ, hown5, hb5⟩ := run_append_rts (Y.alloc (.cells #[.int .i64 a, .int .i64 l, .int .i64 16, .int .i64 n, .int .i64 ii, .int .i64 t, .int .i64 0, .int .i64 (now + 4), .bool true] 98)) W.heap.size (.slice q ((rs.take k).filterMap (tickD now)).length cv) ((rs.take k).filterMap (tickD now)) [(⟨a, l, 16, n, ii, t, 0, now + 4, true⟩ : Rt)] (some ⟨(Y).heap.size, 0, none⟩) 1 34 (World.ownsRow.alloc hown _) (fun e => by cases e) (fun ad e j x hj => by
              cases e
              rw [addR, Nat.zero_add, qn.cell]
              exact hj) (by have := List.length_filterMap_le (tickD now) (rs.take k); rw [List.length_take] at this; simp only [List.length_singleton]; omega) (by simp; omega)
            rw [List.length_singleton] at happ
            have hsz : (Y).heap.size = w2.heap.size := by rw [← hY]; unfold nine0; simp
            rw [hsz] at happ
            generalize hq5 : (rs.take k).filterMap (tickD now) ++ [(⟨a, l, 16, n, ii, t, 0, now + 4, true⟩ : Rt)] = Q5 at hown5
            have HQ5 : Hid _ := hq5
            clear hq5
            obtain ⟨q5, c5, rfl⟩ := ownsR_shapeT hown5
            have r0 := r0.below hb5 (by omega)
            have r1 := r1.below hb5 (by omega)
            have r2 := r2.below hb5 (by omega)
            have hB := hB.trans (hb5.mono (by omega))
            have hs5 : W.heap.size ≤ w5.heap.size := by have := hb5.size; simp at this; omega
            have f0 : w5.frozen? ⟨w.heap.size + 1 + 1, 0, none⟩ = false := r2.frozen 0
            have z0 : w5.cell? ⟨w.heap.size + 1 + 1, 0, none⟩ = some (.slice q ((rs.take k).filterMap (tickD now)).length cv) := r2.cell 0
            have HZ : Hid _ := And.intro (r0.other 0 (.slice q5 Q5.length c5) nz0) (And.intro (r1.other 0 (.slice q5 Q5.length c5) nz1) (And.intro (r2.set 0 (.slice q5 Q5.length c5)) (And.intro (ownR_set (base' := W.heap.size) hown5 ⟨w.heap.size + 1 + 1, 0, none⟩ (by show w.heap.size + 1 + 1 < W.heap.size; omega) (.slice q5 Q5.length c5) (Nat.le_refl _)) (hB.setCell (p := ⟨w.heap.size + 1 + 1, 0, none⟩) (by show w.heap.size ≤ w.heap.size + 1 + 1; omega) (.slice q5 Q5.length c5)))))
            clear r0 r1 r2 hB hown hown5 hb5 qn qb nx0 nx1 nx2
            unfold nine0 at hY
            rw [← hY] at happ
            clear hY hsz
            go_wp2_with (at_builtin; refine wpList_append_runs rfl _ _ 34 rfl _ _ rfl rfl happ ?_)
            go_roundw
            case rel => exact ⟨k + 1, .slice q5 Q5.length c5, hlt, by go_num, HZ.out.1, HZ.out.2.1, HZ.out.2.2.1, by rw [HTK.out, HQ5.out]; exact HZ.out.2.2.2.1, HZ.out.2.2.2.2, by simpa using hs5⟩
            case measure => simp [intOf]; omega
          · have HTK : Hid ((rs.take (k + 1)).filterMap (tickD now) = (rs.take k).filterMap (tickD now) ++ [(⟨a, l, m, n, ii, t, u, b, c⟩ : Rt)]) := by
              show _ = _
              rw [hnx, show tickD now (⟨a, l, m, n, ii, t, u, b, c⟩ : Rt) = some (⟨a, l, m, n, ii, t, u, b, c⟩ : Rt) by simp [tickD, hb, hu]]
              rfl
            simp only [dueB, Bool.and_eq_true, decide_eq_true_eq] at hu
            by_cases hu1 : 0 < u
            · have du1 : decide (0 < u) = true := by simpa using hu1
              have du2 : decide (u ≤ now) = false := by simp; omega
              clear hb hu hnx hu1
              have r0 := r0.alloc (.cells #[.int .i64 a, .int .i64 l, .int .i64 m, .int .i64 n, .int .i64 ii, .int .i64 t, .int .i64 u, .int .i64 b, .bool c] 98)
              have r1 := r1.alloc (.cells #[.int .i64 a, .int .i64 l, .int .i64 m, .int .i64 n, .int .i64 ii, .int .i64 t, .int .i64 u, .int .i64 b, .bool c] 98)
              have r2 := r2.alloc (.cells #[.int .i64 a, .int .i64 l, .int .i64 m, .int .i64 n, .int .i64 ii, .int .i64 t, .int .i64 u, .int .i64 b, .bool c] 98)
              have hown := World.ownsRow.alloc hown (.cells #[.int .i64 a, .int .i64 l, .int .i64 m, .int .i64 n, .int .i64 ii, .int .i64 t, .int .i64 u, .int .i64 b, .bool c] 98)
              have hB := hB.alloc hB.size (.cells #[.int .i64 a, .int .i64 l, .int .i64 m, .int .i64 n, .int .i64 ii, .int .i64 t, .int .i64 u, .int .i64 b, .bool c] 98)
              have hWs0 : W.heap.size ≤ wr.heap.size := hWs
              have hWs : W.heap.size ≤ (wr.alloc (.cells #[.int .i64 a, .int .i64 l, .int .i64 m, .int .i64 n, .int .i64 ii, .int .i64 t, .int .i64 u, .int .i64 b, .bool c] 98)).heap.size := by simp; omega
              have y2 : (wr.alloc (.cells #[.int .i64 a, .int .i64 l, .int .i64 m, .int .i64 n, .int .i64 ii, .int .i64 t, .int .i64 u, .int .i64 b, .bool c] 98)).cell? ⟨w.heap.size + 1 + 1, 0, none⟩ = some (.slice q ((rs.take k).filterMap (tickD now)).length cv) := r2.cell 0
              have hn0' : (wr.alloc (.cells #[.int .i64 a, .int .i64 l, .int .i64 m, .int .i64 n, .int .i64 ii, .int .i64 t, .int .i64 u, .int .i64 b, .bool c] 98)).heap.size ≥ W.heap.size := hWs
              have qn := Row.new ((wr.alloc (.cells #[.int .i64 a, .int .i64 l, .int .i64 m, .int .i64 n, .int .i64 ii, .int .i64 t, .int .i64 u, .int .i64 b, .bool c] 98))) 98 [.int .i64 a, .int .i64 l, .int .i64 m, .int .i64 n, .int .i64 ii, .int .i64 t, .int .i64 u, .int .i64 b, .bool c]
              have r0 := r0.alloc (.cells #[.int .i64 a, .int .i64 l, .int .i64 m, .int .i64 n, .int .i64 ii, .int .i64 t, .int .i64 u, .int .i64 b, .bool c] 98)
              have r1 := r1.alloc (.cells #[.int .i64 a, .int .i64 l, .int .i64 m, .int .i64 n, .int .i64 ii, .int .i64 t, .int .i64 u, .int .i64 b, .bool c] 98)
              have r2 := r2.alloc (.cells #[.int .i64 a, .int .i64 l, .int .i64 m, .int .i64 n, .int .i64 ii, .int .i64 t, .int .i64 u, .int .i64 b, .bool c] 98)
              have hB := hB.alloc hB.size (.cells #[.int .i64 a, .int .i64 l, .int .i64 m, .int .i64 n, .int .i64 ii, .int .i64 t, .int .i64 u, .int .i64 b, .bool c] 98)
              obtain ⟨v5, w5, happ, hown5, hb5⟩ := run_append_rts ((wr.alloc (.cells #[.int .i64 a, .int .i64 l, .int .i64 m, .int .i64 n, .int .i64 ii, .int .i64 t, .int .i64 u, .int .i64 b, .bool c] 98)).alloc (.cells #[.int .i64 a, .int .i64 l, .int .i64 m, .int .i64 n, .int .i64 ii, .int .i64 t, .int .i64 u, .int .i64 b, .bool c] 98)) W.heap.size (.slice q ((rs.take k).filterMap (tickD now)).length cv) ((rs.take k).filterMap (tickD now)) [(⟨a, l, m, n, ii, t, u, b, c⟩ : Rt)] (some ⟨((wr.alloc (.cells #[.int .i64 a, .int .i64 l, .int .i64 m, .int .i64 n, .int .i64 ii, .int .i64 t, .int .i64 u, .int .i64 b, .bool c] 98))).heap.size, 0, none⟩) 1 34 (World.ownsRow.alloc hown _) (fun e => by cases e) (fun ad e j x hj => by
                cases e
                rw [addR, Nat.zero_add, qn.cell]
                exact hj) (by have := List.length_filterMap_le (tickD now) (rs.take k); rw [List.length_take] at this; simp only [List.length_singleton]; omega) (by simp; omega)
              rw [List.length_singleton] at happ
              have hsz : ((wr.alloc (.cells #[.int .i64 a, .int .i64 l, .int .i64 m, .int .i64 n, .int .i64 ii, .int .i64 t, .int .i64 u, .int .i64 b, .bool c] 98))).heap.size = wr.heap.size + 1 := by simp
              rw [hsz] at happ
              generalize hq5 : (rs.take k).filterMap (tickD now) ++ [(⟨a, l, m, n, ii, t, u, b, c⟩ : Rt)] = Q5 at hown5
              have HQ5 : Hid _ := hq5
              clear hq5
              obtain ⟨q5, c5, rfl⟩ := ownsR_shapeT hown5
              have r0 := r0.below hb5 (by omega)
              have r1 := r1.below hb5 (by omega)
              have r2 := r2.below hb5 (by omega)
              have hB := hB.trans (hb5.mono (by omega))
              have hs5 : W.heap.size ≤ w5.heap.size := by have := hb5.size; simp at this; omega
              have f0 : w5.frozen? ⟨w.heap.size + 1 + 1, 0, none⟩ = false := r2.frozen 0
              have z0 : w5.cell? ⟨w.heap.size + 1 + 1, 0, none⟩ = some (.slice q ((rs.take k).filterMap (tickD now)).length cv) := r2.cell 0
              have HZ : Hid _ := And.intro (r0.other 0 (.slice q5 Q5.length c5) nz0) (And.intro (r1.other 0 (.slice q5 Q5.length c5) nz1) (And.intro (r2.set 0 (.slice q5 Q5.length c5)) (And.intro (ownR_set (base' := W.heap.size) hown5 ⟨w.heap.size + 1 + 1, 0, none⟩ (by show w.heap.size + 1 + 1 < W.heap.size; omega) (.slice q5 Q5.length c5) (Nat.le_refl _)) (hB.setCell (p := ⟨w.heap.size + 1 + 1, 0, none⟩) (by show w.heap.size ≤ w.heap.size + 1 + 1; omega) (.slice q5 Q5.length c5)))))
              clear r0 r1 r2 hB hown hown5 hb5 qn 
              go_wp2_with (at_builtin; refine wpList_append_runs rfl _ _ 34 rfl _ _ rfl rfl happ ?_)
              go_roundw
              case rel => exact ⟨k + 1, .slice q5 Q5.length c5, hlt, by go_num, HZ.out.1, HZ.out.2.1, HZ.out.2.2.1, by rw [HTK.out, HQ5.out]; exact HZ.out.2.2.2.1, HZ.out.2.2.2.2, by simpa using hs5⟩
              case measure => simp [intOf]; omega
            · have du1 : decide (0 < u) = false := by simpa using hu1
              clear hb hu hnx hu1
              have r0 := r0.alloc (.cells #[.int .i64 a, .int .i64 l, .int .i64 m, .int .i64 n, .int .i64 ii, .int .i64 t, .int .i64 u, .int .i64 b, .bool c] 98)
              have r1 := r1.alloc (.cells #[.int .i64 a, .int .i64 l, .int .i64 m, .int .i64 n, .int .i64 ii, .int .i64 t, .int .i64 u, .int .i64 b, .bool c] 98)
              have r2 := r2.alloc (.cells #[.int .i64 a, .int .i64 l, .int .i64 m, .int .i64 n, .int .i64 ii, .int .i64 t, .int .i64 u, .int .i64 b, .bool c] 98)
              have hown := World.ownsRow.alloc hown (.cells #[.int .i64 a, .int .i64 l, .int .i64 m, .int .i64 n, .int .i64 ii, .int .i64 t, .int .i64 u, .int .i64 b, .bool c] 98)
              have hB := hB.alloc hB.size (.cells #[.int .i64 a, .int .i64 l, .int .i64 m, .int .i64 n, .int .i64 ii, .int .i64 t, .int .i64 u, .int .i64 b, .bool c] 98)
              have hWs0 : W.heap.size ≤ wr.heap.size := hWs
              have hWs : W.heap.size ≤ (wr.alloc (.cells #[.int .i64 a, .int .i64 l, .int .i64 m, .int .i64 n, .int .i64 ii, .int .i64 t, .int .i64 u, .int .i64 b, .bool c] 98)).heap.size := by simp; omega
              have y2 : (wr.alloc (.cells #[.int .i64 a, .int .i64 l, .int .i64 m, .int .i64 n, .int .i64 ii, .int .i64 t, .int .i64 u, .int .i64 b, .bool c] 98)).cell? ⟨w.heap.size + 1 + 1, 0, none⟩ = some (.slice q ((rs.take k).filterMap (tickD now)).length cv) := r2.cell 0
              have hn0' : (wr.alloc (.cells #[.int .i64 a, .int .i64 l, .int .i64 m, .int .i64 n, .int .i64 ii, .int .i64 t, .int .i64 u, .int .i64 b, .bool c] 98)).heap.size ≥ W.heap.size := hWs
              have qn := Row.new ((wr.alloc (.cells #[.int .i64 a, .int .i64 l, .int .i64 m, .int .i64 n, .int .i64 ii, .int .i64 t, .int .i64 u, .int .i64 b, .bool c] 98))) 98 [.int .i64 a, .int .i64 l, .int .i64 m, .int .i64 n, .int .i64 ii, .int .i64 t, .int .i64 u, .int .i64 b, .bool c]
              have r0 := r0.alloc (.cells #[.int .i64 a, .int .i64 l, .int .i64 m, .int .i64 n, .int .i64 ii, .int .i64 t, .int .i64 u, .int .i64 b, .bool c] 98)
              have r1 := r1.alloc (.cells #[.int .i64 a, .int .i64 l, .int .i64 m, .int .i64 n, .int .i64 ii, .int .i64 t, .int .i64 u, .int .i64 b, .bool c] 98)
              have r2 := r2.alloc (.cells #[.int .i64 a, .int .i64 l, .int .i64 m, .int .i64 n, .int .i64 ii, .int .i64 t, .int .i64 u, .int .i64 b, .bool c] 98)
              have hB := hB.alloc hB.size (.cells #[.int .i64 a, .int .i64 l, .int .i64 m, .int .i64 n, .int .i64 ii, .int .i64 t, .int .i64 u, .int .i64 b, .bool c] 98)
              obtain ⟨v5, w5, happ, hown5, hb5⟩ := run_append_rts ((wr.alloc (.cells #[.int .i64 a, .int .i64 l, .int .i64 m, .int .i64 n, .int .i64 ii, .int .i64 t, .int .i64 u, .int .i64 b, .bool c] 98)).alloc (.cells #[.int .i64 a, .int .i64 l, .int .i64 m, .int .i64 n, .int .i64 ii, .int .i64 t, .int .i64 u, .int .i64 b, .bool c] 98)) W.heap.size (.slice q ((rs.take k).filterMap (tickD now)).length cv) ((rs.take k).filterMap (tickD now)) [(⟨a, l, m, n, ii, t, u, b, c⟩ : Rt)] (some ⟨((wr.alloc (.cells #[.int .i64 a, .int .i64 l, .int .i64 m, .int .i64 n, .int .i64 ii, .int .i64 t, .int .i64 u, .int .i64 b, .bool c] 98))).heap.size, 0, none⟩) 1 34 (World.ownsRow.alloc hown _) (fun e => by cases e) (fun ad e j x hj => by
                cases e
                rw [addR, Nat.zero_add, qn.cell]
                exact hj) (by have := List.length_filterMap_le (tickD now) (rs.take k); rw [List.length_take] at this; simp only [List.length_singleton]; omega) (by simp; omega)
              rw [List.length_singleton] at happ
              have hsz : ((wr.alloc (.cells #[.int .i64 a, .int .i64 l, .int .i64 m, .int .i64 n, .int .i64 ii, .int .i64 t, .int .i64 u, .int .i64 b, .bool c] 98))).heap.size = wr.heap.size + 1 := by simp
              rw [hsz] at happ
              generalize hq5 : (rs.take k).filterMap (tickD now) ++ [(⟨a, l, m, n, ii, t, u, b, c⟩ : Rt)] = Q5 at hown5
              have HQ5 : Hid _ := hq5
              clear hq5
              obtain ⟨q5, c5, rfl⟩ := ownsR_shapeT hown5
              have r0 := r0.below hb5 (by omega)
              have r1 := r1.below hb5 (by omega)
              have r2 := r2.below hb5 (by omega)
              have hB := hB.trans (hb5.mono (by omega))
              have hs5 : W.heap.size ≤ w5.heap.size := by have := hb5.size; simp at this; omega
              have f0 : w5.frozen? ⟨w.heap.size + 1 + 1, 0, none⟩ = false := r2.frozen 0
              have z0 : w5.cell? ⟨w.heap.size + 1 + 1, 0, none⟩ = some (.slice q ((rs.take k).filterMap (tickD now)).length cv) := r2.cell 0
              have HZ : Hid _ := And.intro (r0.other 0 (.slice q5 Q5.length c5) nz0) (And.intro (r1.other 0 (.slice q5 Q5.length c5) nz1) (And.intro (r2.set 0 (.slice q5 Q5.length c5)) (And.intro (ownR_set (base' := W.heap.size) hown5 ⟨w.heap.size + 1 + 1, 0, none⟩ (by show w.heap.size + 1 + 1 < W.heap.size; omega) (.slice q5 Q5.length c5) (Nat.le_refl _)) (hB.setCell (p := ⟨w.heap.size + 1 + 1, 0, none⟩) (by show w.heap.size ≤ w.heap.size + 1 + 1; omega) (.slice q5 Q5.length c5)))))
              clear r0 r1 r2 hB hown hown5 hb5 qn 
              go_wp2_with (at_builtin; refine wpList_append_runs rfl _ _ 34 rfl _ _ rfl rfl happ ?_)
              go_roundw
              case rel => exact ⟨k + 1, .slice q5 Q5.length c5, hlt, by go_num, HZ.out.1, HZ.out.2.1, HZ.out.2.2.1, by rw [HTK.out, HQ5.out]; exact HZ.out.2.2.2.1, HZ.out.2.2.2.2, by simpa using hs5⟩
              case measure => simp [intOf]; omega
        · have db1 : decide (0 < b) = false := by simpa using hb1
          clear hb0 hb1
          by_cases hu : dueB u now = true
          · have HTK : Hid ((rs.take (k + 1)).filterMap (tickD now) = (rs.take k).filterMap (tickD now) ++ [(⟨a, l, 16, n, ii, t, 0, now + 4, true⟩ : Rt)]) := by
              show _ = _
              rw [hnx, show tickD now (⟨a, l, m, n, ii, t, u, b, c⟩ : Rt) = some (⟨a, l, 16, n, ii, t, 0, now + 4, true⟩ : Rt) by simp [tickD, hb, hu, deadR]]
              rfl
            have hob : Hid (∀ b, (Value.slice q ((rs.take k).filterMap (tickD now)).length cv).ownBlock = some b → b ≠ wr.heap.size) := fun b e h => by have := (World.ownsRow.lt hown b e).2; omega
            simp only [dueB, Bool.and_eq_true, decide_eq_true_eq] at hu
            have du1 : decide (0 < u) = true := by simpa using hu.1
            have du2 : decide (u ≤ now) = true := by simpa using hu.2
            clear hb hu hnx
            have r0 := r0.alloc (.cells #[.int .i64 a, .int .i64 l, .int .i64 m, .int .i64 n, .int .i64 ii, .int .i64 t, .int .i64 u, .int .i64 b, .bool c] 98)
            have r1 := r1.alloc (.cells #[.int .i64 a, .int .i64 l, .int .i64 m, .int .i64 n, .int .i64 ii, .int .i64 t, .int .i64 u, .int .i64 b, .bool c] 98)
            have r2 := r2.alloc (.cells #[.int .i64 a, .int .i64 l, .int .i64 m, .int .i64 n, .int .i64 ii, .int .i64 t, .int .i64 u, .int .i64 b, .bool c] 98)
            have hown := World.ownsRow.alloc hown (.cells #[.int .i64 a, .int .i64 l, .int .i64 m, .int .i64 n, .int .i64 ii, .int .i64 t, .int .i64 u, .int .i64 b, .bool c] 98)
            have hB := hB.alloc hB.size (.cells #[.int .i64 a, .int .i64 l, .int .i64 m, .int .i64 n, .int .i64 ii, .int .i64 t, .int .i64 u, .int .i64 b, .bool c] 98)
            have hWs0 : W.heap.size ≤ wr.heap.size := hWs
            have hWs : W.heap.size ≤ (wr.alloc (.cells #[.int .i64 a, .int .i64 l, .int .i64 m, .int .i64 n, .int .i64 ii, .int .i64 t, .int .i64 u, .int .i64 b, .bool c] 98)).heap.size := by simp; omega
            have y2 : (wr.alloc (.cells #[.int .i64 a, .int .i64 l, .int .i64 m, .int .i64 n, .int .i64 ii, .int .i64 t, .int .i64 u, .int .i64 b, .bool c] 98)).cell? ⟨w.heap.size + 1 + 1, 0, none⟩ = some (.slice q ((rs.take k).filterMap (tickD now)).length cv) := r2.cell 0
            have qb := Row.new wr 98 [.int .i64 a, .int .i64 l, .int .i64 m, .int .i64 n, .int .i64 ii, .int .i64 t, .int .i64 u, .int .i64 b, .bool c]
            have HE : Hid _ := And.intro r0 (And.intro r1 (And.intro r2 (And.intro hown (And.intro hB qb))))
            have HDk : Hid (∀ w, Calls Tryz.prog 118 #[.agg #[.int .i64 a, .int .i64 l, .int .i64 m, .int .i64 n, .int .i64 ii, .int .i64 t, .int .i64 u, .int .i64 b, .bool c], .int .i64 now] w fun e w' => e = .returned (.agg #[.int .i64 a, .int .i64 l, .int .i64 16, .int .i64 n, .int .i64 ii, .int .i64 t, .int .i64 0, .int .i64 (now + 4), .bool true]) ∧ Below w.heap.size w w') := HD.out (⟨a, l, m, n, ii, t, u, b, c⟩ : Rt)
            clear r0 r1 r2 hown hB qb y2 hek
            go_wp2_with fail
            refine (HDk.out _).mono ?_
            rintro e w2 ⟨rfl, hb2⟩
            obtain ⟨r0, r1, r2, hown, hB, qb⟩ := HE.out
            have r0 := r0.below hb2 r0.lt
            have r1 := r1.below hb2 r1.lt
            have r2 := r2.below hb2 r2.lt
            have qb := qb.below hb2 qb.lt
            have hown := ownsR_belowT hown hb2
            have hB := hB.trans (hb2.mono hB.size)
            have hWs : W.heap.size ≤ w2.heap.size := Nat.le_trans hWs hb2.size
            clear HE HDk hb2 c0 c1 c2 c3 c4 c5 c6 c7 c8 x0
            have e0 : w2.cell? ⟨wr.heap.size, 0, none⟩ = some (.int .i64 a) := qb.cell 0
            have g0 : w2.frozen? ⟨wr.heap.size, 0, none⟩ = false := qb.frozen 0
            have e1 : w2.cell? ⟨wr.heap.size, 1, none⟩ = some (.int .i64 l) := qb.cell 1
            have g1 : w2.frozen? ⟨wr.heap.size, 1, none⟩ = false := qb.frozen 1
            have e2 : w2.cell? ⟨wr.heap.size, 2, none⟩ = some (.int .i64 m) := qb.cell 2
            have g2 : w2.frozen? ⟨wr.heap.size, 2, none⟩ = false := qb.frozen 2
            have e3 : w2.cell? ⟨wr.heap.size, 3, none⟩ = some (.int .i64 n) := qb.cell 3
            have g3 : w2.frozen? ⟨wr.heap.size, 3, none⟩ = false := qb.frozen 3
            have e4 : w2.cell? ⟨wr.heap.size, 4, none⟩ = some (.int .i64 ii) := qb.cell 4
            have g4 : w2.frozen? ⟨wr.heap.size, 4, none⟩ = false := qb.frozen 4
            have e5 : w2.cell? ⟨wr.heap.size, 5, none⟩ = some (.int .i64 t) := qb.cell 5
            have g5 : w2.frozen? ⟨wr.heap.size, 5, none⟩ = false := qb.frozen 5
            have e6 : w2.cell? ⟨wr.heap.size, 6, none⟩ = some (.int .i64 u) := qb.cell 6
            have g6 : w2.frozen? ⟨wr.heap.size, 6, none⟩ = false := qb.frozen 6
            have e7 : w2.cell? ⟨wr.heap.size, 7, none⟩ = some (.int .i64 b) := qb.cell 7
            have g7 : w2.frozen? ⟨wr.heap.size, 7, none⟩ = false := qb.frozen 7
            have e8 : w2.cell? ⟨wr.heap.size, 8, none⟩ = some (.bool c) := qb.cell 8
            have g8 : w2.frozen? ⟨wr.heap.size, 8, none⟩ = false := qb.frozen 8
            have nx0 : w.heap.size ≠ wr.heap.size := by omega
            have nx1 : w.heap.size + 1 ≠ wr.heap.size := by omega
            have nx2 : w.heap.size + 1 + 1 ≠ wr.heap.size := by omega
            have m2 : ¬ wr.heap.size = w.heap.size + 1 + 1 := by omega
            have m2' : ¬ w.heap.size + 1 + 1 = wr.heap.size := by omega
            have y2 : w2.cell? ⟨w.heap.size + 1 + 1, 0, none⟩ = some (.slice q ((rs.take k).filterMap (tickD now)).length cv) := r2.cell 0
            have r0 := nine0_other r0 wr.heap.size nx0 (.int .i64 a) (.int .i64 l) (.int .i64 16) (.int .i64 n) (.int .i64 ii) (.int .i64 t) (.int .i64 0) (.int .i64 (now + 4)) (.bool true)
            have r1 := nine0_other r1 wr.heap.size nx1 (.int .i64 a) (.int .i64 l) (.int .i64 16) (.int .i64 n) (.int .i64 ii) (.int .i64 t) (.int .i64 0) (.int .i64 (now + 4)) (.bool true)
            have r2 := nine0_other r2 wr.heap.size nx2 (.int .i64 a) (.int .i64 l) (.int .i64 16) (.int .i64 n) (.int .i64 ii) (.int .i64 t) (.int .i64 0) (.int .i64 (now + 4)) (.bool true)
            have hB := nine0_below hB wr.heap.size (by have := hWs0; omega) (.int .i64 a) (.int .i64 l) (.int .i64 16) (.int .i64 n) (.int .i64 ii) (.int .i64 t) (.int .i64 0) (.int .i64 (now + 4)) (.bool true)
            have hown : (nine0 w2 wr.heap.size (.int .i64 a) (.int .i64 l) (.int .i64 16) (.int .i64 n) (.int .i64 ii) (.int .i64 t) (.int .i64 0) (.int .i64 (now + 4)) (.bool true)).ownsRow W.heap.size 98 9 (.slice q ((rs.take k).filterMap (tickD now)).length cv) ((rs.take k).filterMap (tickD now)).length (rowR ((rs.take k).filterMap (tickD now))) := nine0_owns hown (hob.out)  (.int .i64 a) (.int .i64 l) (.int .i64 16) (.int .i64 n) (.int .i64 ii) (.int .i64 t) (.int .i64 0) (.int .i64 (now + 4)) (.bool true)
            have hWs : W.heap.size ≤ (nine0 w2 wr.heap.size (.int .i64 a) (.int .i64 l) (.int .i64 16) (.int .i64 n) (.int .i64 ii) (.int .i64 t) (.int .i64 0) (.int .i64 (now + 4)) (.bool true)).heap.size := by unfold nine0; simpa using hWs
            generalize hY : nine0 w2 wr.heap.size (.int .i64 a) (.int .i64 l) (.int .i64 16) (.int .i64 n) (.int .i64 ii) (.int .i64 t) (.int .i64 0) (.int .i64 (now + 4)) (.bool true) = Y at r0 r1 r2 hB hown hWs
            have hn0' : Y.heap.size ≥ W.heap.size := hWs
            have qn := Row.new (Y) 98 [.int .i64 a, .int .i64 l, .int .i64 16, .int .i64 n, .int .i64 ii, .int .i64 t, .int .i64 0, .int .i64 (now + 4), .bool true]
            have r0 := r0.alloc (.cells #[.int .i64 a, .int .i64 l, .int .i64 16, .int .i64 n, .int .i64 ii, .int .i64 t, .int .i64 0, .int .i64 (now + 4), .bool true] 98)
            have r1 := r1.alloc (.cells #[.int .i64 a, .int .i64 l, .int .i64 16, .int .i64 n, .int .i64 ii, .int .i64 t, .int .i64 0, .int .i64 (now + 4), .bool true] 98)
            have r2 := r2.alloc (.cells #[.int .i64 a, .int .i64 l, .int .i64 16, .int .i64 n, .int .i64 ii, .int .i64 t, .int .i64 0, .int .i64 (now + 4), .bool true] 98)
            have hB := hB.alloc hB.size (.cells #[.int .i64 a, .int .i64 l, .int .i64 16, .int .i64 n, .int .i64 ii, .int .i64 t, .int .i64 0, .int .i64 (now + 4), .bool true] 98)
            obtain ⟨v5, w5, happ, hown5, hb5⟩ := run_append_rts (Y.alloc (.cells #[.int .i64 a, .int .i64 l, .int .i64 16, .int .i64 n, .int .i64 ii, .int .i64 t, .int .i64 0, .int .i64 (now + 4), .bool true] 98)) W.heap.size (.slice q ((rs.take k).filterMap (tickD now)).length cv) ((rs.take k).filterMap (tickD now)) [(⟨a, l, 16, n, ii, t, 0, now + 4, true⟩ : Rt)] (some ⟨(Y).heap.size, 0, none⟩) 1 34 (World.ownsRow.alloc hown _) (fun e => by cases e) (fun ad e j x hj => by
              cases e
              rw [addR, Nat.zero_add, qn.cell]
              exact hj) (by have := List.length_filterMap_le (tickD now) (rs.take k); rw [List.length_take] at this; simp only [List.length_singleton]; omega) (by simp; omega)
            rw [List.length_singleton] at happ
            have hsz : (Y).heap.size = w2.heap.size := by rw [← hY]; unfold nine0; simp
            rw [hsz] at happ
            generalize hq5 : (rs.take k).filterMap (tickD now) ++ [(⟨a, l, 16, n, ii, t, 0, now + 4, true⟩ : Rt)] = Q5 at hown5
            have HQ5 : Hid _ := hq5
            clear hq5
            obtain ⟨q5, c5, rfl⟩ := ownsR_shapeT hown5
            have r0 := r0.below hb5 (by omega)
            have r1 := r1.below hb5 (by omega)
            have r2 := r2.below hb5 (by omega)
            have hB := hB.trans (hb5.mono (by omega))
            have hs5 : W.heap.size ≤ w5.heap.size := by have := hb5.size; simp at this; omega
            have f0 : w5.frozen? ⟨w.heap.size + 1 + 1, 0, none⟩ = false := r2.frozen 0
            have z0 : w5.cell? ⟨w.heap.size + 1 + 1, 0, none⟩ = some (.slice q ((rs.take k).filterMap (tickD now)).length cv) := r2.cell 0
            have HZ : Hid _ := And.intro (r0.other 0 (.slice q5 Q5.length c5) nz0) (And.intro (r1.other 0 (.slice q5 Q5.length c5) nz1) (And.intro (r2.set 0 (.slice q5 Q5.length c5)) (And.intro (ownR_set (base' := W.heap.size) hown5 ⟨w.heap.size + 1 + 1, 0, none⟩ (by show w.heap.size + 1 + 1 < W.heap.size; omega) (.slice q5 Q5.length c5) (Nat.le_refl _)) (hB.setCell (p := ⟨w.heap.size + 1 + 1, 0, none⟩) (by show w.heap.size ≤ w.heap.size + 1 + 1; omega) (.slice q5 Q5.length c5)))))
            clear r0 r1 r2 hB hown hown5 hb5 qn qb nx0 nx1 nx2
            unfold nine0 at hY
            rw [← hY] at happ
            clear hY hsz
            go_wp2_with (at_builtin; refine wpList_append_runs rfl _ _ 34 rfl _ _ rfl rfl happ ?_)
            go_roundw
            case rel => exact ⟨k + 1, .slice q5 Q5.length c5, hlt, by go_num, HZ.out.1, HZ.out.2.1, HZ.out.2.2.1, by rw [HTK.out, HQ5.out]; exact HZ.out.2.2.2.1, HZ.out.2.2.2.2, by simpa using hs5⟩
            case measure => simp [intOf]; omega
          · have HTK : Hid ((rs.take (k + 1)).filterMap (tickD now) = (rs.take k).filterMap (tickD now) ++ [(⟨a, l, m, n, ii, t, u, b, c⟩ : Rt)]) := by
              show _ = _
              rw [hnx, show tickD now (⟨a, l, m, n, ii, t, u, b, c⟩ : Rt) = some (⟨a, l, m, n, ii, t, u, b, c⟩ : Rt) by simp [tickD, hb, hu]]
              rfl
            simp only [dueB, Bool.and_eq_true, decide_eq_true_eq] at hu
            by_cases hu1 : 0 < u
            · have du1 : decide (0 < u) = true := by simpa using hu1
              have du2 : decide (u ≤ now) = false := by simp; omega
              clear hb hu hnx hu1
              have r0 := r0.alloc (.cells #[.int .i64 a, .int .i64 l, .int .i64 m, .int .i64 n, .int .i64 ii, .int .i64 t, .int .i64 u, .int .i64 b, .bool c] 98)
              have r1 := r1.alloc (.cells #[.int .i64 a, .int .i64 l, .int .i64 m, .int .i64 n, .int .i64 ii, .int .i64 t, .int .i64 u, .int .i64 b, .bool c] 98)
              have r2 := r2.alloc (.cells #[.int .i64 a, .int .i64 l, .int .i64 m, .int .i64 n, .int .i64 ii, .int .i64 t, .int .i64 u, .int .i64 b, .bool c] 98)
              have hown := World.ownsRow.alloc hown (.cells #[.int .i64 a, .int .i64 l, .int .i64 m, .int .i64 n, .int .i64 ii, .int .i64 t, .int .i64 u, .int .i64 b, .bool c] 98)
              have hB := hB.alloc hB.size (.cells #[.int .i64 a, .int .i64 l, .int .i64 m, .int .i64 n, .int .i64 ii, .int .i64 t, .int .i64 u, .int .i64 b, .bool c] 98)
              have hWs0 : W.heap.size ≤ wr.heap.size := hWs
              have hWs : W.heap.size ≤ (wr.alloc (.cells #[.int .i64 a, .int .i64 l, .int .i64 m, .int .i64 n, .int .i64 ii, .int .i64 t, .int .i64 u, .int .i64 b, .bool c] 98)).heap.size := by simp; omega
              have y2 : (wr.alloc (.cells #[.int .i64 a, .int .i64 l, .int .i64 m, .int .i64 n, .int .i64 ii, .int .i64 t, .int .i64 u, .int .i64 b, .bool c] 98)).cell? ⟨w.heap.size + 1 + 1, 0, none⟩ = some (.slice q ((rs.take k).filterMap (tickD now)).length cv) := r2.cell 0
              have hn0' : (wr.alloc (.cells #[.int .i64 a, .int .i64 l, .int .i64 m, .int .i64 n, .int .i64 ii, .int .i64 t, .int .i64 u, .int .i64 b, .bool c] 98)).heap.size ≥ W.heap.size := hWs
              have qn := Row.new ((wr.alloc (.cells #[.int .i64 a, .int .i64 l, .int .i64 m, .int .i64 n, .int .i64 ii, .int .i64 t, .int .i64 u, .int .i64 b, .bool c] 98))) 98 [.int .i64 a, .int .i64 l, .int .i64 m, .int .i64 n, .int .i64 ii, .int .i64 t, .int .i64 u, .int .i64 b, .bool c]
              have r0 := r0.alloc (.cells #[.int .i64 a, .int .i64 l, .int .i64 m, .int .i64 n, .int .i64 ii, .int .i64 t, .int .i64 u, .int .i64 b, .bool c] 98)
              have r1 := r1.alloc (.cells #[.int .i64 a, .int .i64 l, .int .i64 m, .int .i64 n, .int .i64 ii, .int .i64 t, .int .i64 u, .int .i64 b, .bool c] 98)
              have r2 := r2.alloc (.cells #[.int .i64 a, .int .i64 l, .int .i64 m, .int .i64 n, .int .i64 ii, .int .i64 t, .int .i64 u, .int .i64 b, .bool c] 98)
              have hB := hB.alloc hB.size (.cells #[.int .i64 a, .int .i64 l, .int .i64 m, .int .i64 n, .int .i64 ii, .int .i64 t, .int .i64 u, .int .i64 b, .bool c] 98)
              obtain ⟨v5, w5, happ, hown5, hb5⟩ := run_append_rts ((wr.alloc (.cells #[.int .i64 a, .int .i64 l, .int .i64 m, .int .i64 n, .int .i64 ii, .int .i64 t, .int .i64 u, .int .i64 b, .bool c] 98)).alloc (.cells #[.int .i64 a, .int .i64 l, .int .i64 m, .int .i64 n, .int .i64 ii, .int .i64 t, .int .i64 u, .int .i64 b, .bool c] 98)) W.heap.size (.slice q ((rs.take k).filterMap (tickD now)).length cv) ((rs.take k).filterMap (tickD now)) [(⟨a, l, m, n, ii, t, u, b, c⟩ : Rt)] (some ⟨((wr.alloc (.cells #[.int .i64 a, .int .i64 l, .int .i64 m, .int .i64 n, .int .i64 ii, .int .i64 t, .int .i64 u, .int .i64 b, .bool c] 98))).heap.size, 0, none⟩) 1 34 (World.ownsRow.alloc hown _) (fun e => by cases e) (fun ad e j x hj => by
                cases e
                rw [addR, Nat.zero_add, qn.cell]
                exact hj) (by have := List.length_filterMap_le (tickD now) (rs.take k); rw [List.length_take] at this; simp only [List.length_singleton]; omega) (by simp; omega)
              rw [List.length_singleton] at happ
              have hsz : ((wr.alloc (.cells #[.int .i64 a, .int .i64 l, .int .i64 m, .int .i64 n, .int .i64 ii, .int .i64 t, .int .i64 u, .int .i64 b, .bool c] 98))).heap.size = wr.heap.size + 1 := by simp
              rw [hsz] at happ
              generalize hq5 : (rs.take k).filterMap (tickD now) ++ [(⟨a, l, m, n, ii, t, u, b, c⟩ : Rt)] = Q5 at hown5
              have HQ5 : Hid _ := hq5
              clear hq5
              obtain ⟨q5, c5, rfl⟩ := ownsR_shapeT hown5
              have r0 := r0.below hb5 (by omega)
              have r1 := r1.below hb5 (by omega)
              have r2 := r2.below hb5 (by omega)
              have hB := hB.trans (hb5.mono (by omega))
              have hs5 : W.heap.size ≤ w5.heap.size := by have := hb5.size; simp at this; omega
              have f0 : w5.frozen? ⟨w.heap.size + 1 + 1, 0, none⟩ = false := r2.frozen 0
              have z0 : w5.cell? ⟨w.heap.size + 1 + 1, 0, none⟩ = some (.slice q ((rs.take k).filterMap (tickD now)).length cv) := r2.cell 0
              have HZ : Hid _ := And.intro (r0.other 0 (.slice q5 Q5.length c5) nz0) (And.intro (r1.other 0 (.slice q5 Q5.length c5) nz1) (And.intro (r2.set 0 (.slice q5 Q5.length c5)) (And.intro (ownR_set (base' := W.heap.size) hown5 ⟨w.heap.size + 1 + 1, 0, none⟩ (by show w.heap.size + 1 + 1 < W.heap.size; omega) (.slice q5 Q5.length c5) (Nat.le_refl _)) (hB.setCell (p := ⟨w.heap.size + 1 + 1, 0, none⟩) (by show w.heap.size ≤ w.heap.size + 1 + 1; omega) (.slice q5 Q5.length c5)))))
              clear r0 r1 r2 hB hown hown5 hb5 qn 
              go_wp2_with (at_builtin; refine wpList_append_runs rfl _ _ 34 rfl _ _ rfl rfl happ ?_)
              go_roundw
              case rel => exact ⟨k + 1, .slice q5 Q5.length c5, hlt, by go_num, HZ.out.1, HZ.out.2.1, HZ.out.2.2.1, by rw [HTK.out, HQ5.out]; exact HZ.out.2.2.2.1, HZ.out.2.2.2.2, by simpa using hs5⟩
              case measure => simp [intOf]; omega
            · have du1 : decide (0 < u) = false := by simpa using hu1
              clear hb hu hnx hu1
              have r0 := r0.alloc (.cells #[.int .i64 a, .int .i64 l, .int .i64 m, .int .i64 n, .int .i64 ii, .int .i64 t, .int .i64 u, .int .i64 b, .bool c] 98)
              have r1 := r1.alloc (.cells #[.int .i64 a, .int .i64 l, .int .i64 m, .int .i64 n, .int .i64 ii, .int .i64 t, .int .i64 u, .int .i64 b, .bool c] 98)
              have r2 := r2.alloc (.cells #[.int .i64 a, .int .i64 l, .int .i64 m, .int .i64 n, .int .i64 ii, .int .i64 t, .int .i64 u, .int .i64 b, .bool c] 98)
              have hown := World.ownsRow.alloc hown (.cells #[.int .i64 a, .int .i64 l, .int .i64 m, .int .i64 n, .int .i64 ii, .int .i64 t, .int .i64 u, .int .i64 b, .bool c] 98)
              have hB := hB.alloc hB.size (.cells #[.int .i64 a, .int .i64 l, .int .i64 m, .int .i64 n, .int .i64 ii, .int .i64 t, .int .i64 u, .int .i64 b, .bool c] 98)
              have hWs0 : W.heap.size ≤ wr.heap.size := hWs
              have hWs : W.heap.size ≤ (wr.alloc (.cells #[.int .i64 a, .int .i64 l, .int .i64 m, .int .i64 n, .int .i64 ii, .int .i64 t, .int .i64 u, .int .i64 b, .bool c] 98)).heap.size := by simp; omega
              have y2 : (wr.alloc (.cells #[.int .i64 a, .int .i64 l, .int .i64 m, .int .i64 n, .int .i64 ii, .int .i64 t, .int .i64 u, .int .i64 b, .bool c] 98)).cell? ⟨w.heap.size + 1 + 1, 0, none⟩ = some (.slice q ((rs.take k).filterMap (tickD now)).length cv) := r2.cell 0
              have hn0' : (wr.alloc (.cells #[.int .i64 a, .int .i64 l, .int .i64 m, .int .i64 n, .int .i64 ii, .int .i64 t, .int .i64 u, .int .i64 b, .bool c] 98)).heap.size ≥ W.heap.size := hWs
              have qn := Row.new ((wr.alloc (.cells #[.int .i64 a, .int .i64 l, .int .i64 m, .int .i64 n, .int .i64 ii, .int .i64 t, .int .i64 u, .int .i64 b, .bool c] 98))) 98 [.int .i64 a, .int .i64 l, .int .i64 m, .int .i64 n, .int .i64 ii, .int .i64 t, .int .i64 u, .int .i64 b, .bool c]
              have r0 := r0.alloc (.cells #[.int .i64 a, .int .i64 l, .int .i64 m, .int .i64 n, .int .i64 ii, .int .i64 t, .int .i64 u, .int .i64 b, .bool c] 98)
              have r1 := r1.alloc (.cells #[.int .i64 a, .int .i64 l, .int .i64 m, .int .i64 n, .int .i64 ii, .int .i64 t, .int .i64 u, .int .i64 b, .bool c] 98)
              have r2 := r2.alloc (.cells #[.int .i64 a, .int .i64 l, .int .i64 m, .int .i64 n, .int .i64 ii, .int .i64 t, .int .i64 u, .int .i64 b, .bool c] 98)
              have hB := hB.alloc hB.size (.cells #[.int .i64 a, .int .i64 l, .int .i64 m, .int .i64 n, .int .i64 ii, .int .i64 t, .int .i64 u, .int .i64 b, .bool c] 98)
              obtain ⟨v5, w5, happ, hown5, hb5⟩ := run_append_rts ((wr.alloc (.cells #[.int .i64 a, .int .i64 l, .int .i64 m, .int .i64 n, .int .i64 ii, .int .i64 t, .int .i64 u, .int .i64 b, .bool c] 98)).alloc (.cells #[.int .i64 a, .int .i64 l, .int .i64 m, .int .i64 n, .int .i64 ii, .int .i64 t, .int .i64 u, .int .i64 b, .bool c] 98)) W.heap.size (.slice q ((rs.take k).filterMap (tickD now)).length cv) ((rs.take k).filterMap (tickD now)) [(⟨a, l, m, n, ii, t, u, b, c⟩ : Rt)] (some ⟨((wr.alloc (.cells #[.int .i64 a, .int .i64 l, .int .i64 m, .int .i64 n, .int .i64 ii, .int .i64 t, .int .i64 u, .int .i64 b, .bool c] 98))).heap.size, 0, none⟩) 1 34 (World.ownsRow.alloc hown _) (fun e => by cases e) (fun ad e j x hj => by
                cases e
                rw [addR, Nat.zero_add, qn.cell]
                exact hj) (by have := List.length_filterMap_le (tickD now) (rs.take k); rw [List.length_take] at this; simp only [List.length_singleton]; omega) (by simp; omega)
              rw [List.length_singleton] at happ
              have hsz : ((wr.alloc (.cells #[.int .i64 a, .int .i64 l, .int .i64 m, .int .i64 n, .int .i64 ii, .int .i64 t, .int .i64 u, .int .i64 b, .bool c] 98))).heap.size = wr.heap.size + 1 := by simp
              rw [hsz] at happ
              generalize hq5 : (rs.take k).filterMap (tickD now) ++ [(⟨a, l, m, n, ii, t, u, b, c⟩ : Rt)] = Q5 at hown5
              have HQ5 : Hid _ := hq5
              clear hq5
              obtain ⟨q5, c5, rfl⟩ := ownsR_shapeT hown5
              have r0 := r0.below hb5 (by omega)
              have r1 := r1.below hb5 (by omega)
              have r2 := r2.below hb5 (by omega)
              have hB := hB.trans (hb5.mono (by omega))
              have hs5 : W.heap.size ≤ w5.heap.size := by have := hb5.size; simp at this; omega
              have f0 : w5.frozen? ⟨w.heap.size + 1 + 1, 0, none⟩ = false := r2.frozen 0
              have z0 : w5.cell? ⟨w.heap.size + 1 + 1, 0, none⟩ = some (.slice q ((rs.take k).filterMap (tickD now)).length cv) := r2.cell 0
              have HZ : Hid _ := And.intro (r0.other 0 (.slice q5 Q5.length c5) nz0) (And.intro (r1.other 0 (.slice q5 Q5.length c5) nz1) (And.intro (r2.set 0 (.slice q5 Q5.length c5)) (And.intro (ownR_set (base' := W.heap.size) hown5 ⟨w.heap.size + 1 + 1, 0, none⟩ (by show w.heap.size + 1 + 1 < W.heap.size; omega) (.slice q5 Q5.length c5) (Nat.le_refl _)) (hB.setCell (p := ⟨w.heap.size + 1 + 1, 0, none⟩) (by show w.heap.size ≤ w.heap.size + 1 + 1; omega) (.slice q5 Q5.length c5)))))
              clear r0 r1 r2 hB hown hown5 hb5 qn 
              go_wp2_with (at_builtin; refine wpList_append_runs rfl _ _ 34 rfl _ _ rfl rfl happ ?_)
              go_roundw
              case rel => exact ⟨k + 1, .slice q5 Q5.length c5, hlt, by go_num, HZ.out.1, HZ.out.2.1, HZ.out.2.2.1, by rw [HTK.out, HQ5.out]; exact HZ.out.2.2.2.1, HZ.out.2.2.2.2, by simpa using hs5⟩
              case measure => simp [intOf]; omega
    · obtain rfl : k = rs.length := by omega
      have d1 : decide ((rs.length : Int) < (rs.length : Int)) = false := by simp
      rw [List.take_length] at hown r2
      have y2 : wr.cell? ⟨w.heap.size + 1 + 1, 0, none⟩ = some (.slice q (rs.filterMap (tickD now)).length cv) := r2.cell 0
      have f0 : wr.frozen? ⟨w.heap.size + 1, 0, none⟩ = false := r1.frozen 0
      have z0 : wr.cell? ⟨w.heap.size + 1, 0, none⟩ = some (.slice none 0 0) := r1.cell 0
      have HE : Hid _ := And.intro (r1.set 0 (.slice q (rs.filterMap (tickD now)).length cv)) (And.intro (hB.setCell (p := ⟨w.heap.size + 1, 0, none⟩) (by show w.heap.size ≤ w.heap.size + 1; omega) (.slice q (rs.filterMap (tickD now)).length cv)) (ownR_set (base' := w.heap.size) hown ⟨w.heap.size + 1, 0, none⟩ (by show w.heap.size + 1 < W.heap.size; omega) (.slice q (rs.filterMap (tickD now)).length cv) (by omega)))
      clear hlt hk r0 r1 r2 hown hB
      go_wp2_with fail
      obtain ⟨h1, h2, h3⟩ := HE.out
      clear HE f0 z0 y2
      generalize wr.setCell ⟨w.heap.size + 1, 0, none⟩ (.slice q (rs.filterMap (tickD now)).length cv) = Z at *
      have e0 : Z.cell? ⟨w.heap.size + 1, 0, none⟩ = some (.slice q (rs.filterMap (tickD now)).length cv) := h1.cell 0
      exact bodyPost_ret (v := .agg #[.slice q (rs.filterMap (tickD now)).length cv]) (by simp [results, Tryz.results115, go_sem, e0]) rfl ⟨q, cv, rfl, h3, h2⟩
end Go.Proofs.YtifckpncpjijiaaGreat
/- RibLose of the model. (Written by gen_loses.py.) -/
namespace Go.Proofs.YtifckpncpjijiaaGreat
open Go.RowKit Go.Sort

def loseD (i now : Int) (r : Rt) : Option Rt := if r.i = i ∧ r.n = 0 then none else if r.i = i ∧ r.m < 16 then some (deadR r now) else some r
theorem lose_same {r : Rt} {i now : Int} (h : routeB r = true) : loseD i now r = loseF i now r := by
  unfold loseD loseF reachR
  have hm := route_met h
  by_cases hI : r.i = i
  · by_cases hN : r.n = 0
    · simp [hI, hN]
    · by_cases hM : r.m < 16
      · rw [if_neg (by simp [hN]), if_pos ⟨hI, hM⟩, if_pos hI, if_neg hN, if_neg (by omega)]
      · rw [if_neg (by simp [hN]), if_neg (by simp [hM]), if_pos hI, if_neg hN, if_pos (by omega)]
  · simp [hI]
theorem lose_lists {rs : List Rt} {i now : Int} (h : ribB rs = true) : rs.filterMap (loseD i now) = rs.filterMap (loseF i now) :=
  filterMap_same fun r hr => lose_same (rib_routes h r hr)
set_option maxRecDepth 100000 in
set_option maxHeartbeats 4000000 in
theorem l06Lose_any (p : Option Addr) (cap : Nat) (rs : List Rt) (i now : Int) (w : World) (h : RtsIn w p rs) (hn : rs.length ≤ 100000000) (hn0 : 0 ≤ now) (hn1 : now ≤ 999900) :
    Calls Tryz.prog 71 #[ribV p rs.length cap, .int .i64 i, .int .i64 now] w fun e w' => ∃ q c, e = .returned (ribV q (rs.filterMap (loseD i now)).length c) ∧ w'.ownsRow w.heap.size 98 9 (.slice q (rs.filterMap (loseD i now)).length c) (rs.filterMap (loseD i now)).length (rowR (rs.filterMap (loseD i now))) ∧ Below w.heap.size w w' := by
  have HD : Hid (∀ r w, Calls Tryz.prog 118 #[rtV r, .int .i64 now] w fun e w' => e = .returned (rtV (deadR r now)) ∧ Below w.heap.size w w') := fun r w => l06Dead_any r now w hn0 hn1
  have HX : Hid (RtsIn w p rs) := h
  clear h
  obtain ⟨W, hW, q0, q1, q2, hB, hS, -⟩ := rows3 w [.slice p rs.length cap] [.slice none 0 0] [.slice none 0 0] 36 36 36
  have HW : Hid _ := hW
  have HQ : Hid _ := And.intro q0 (And.intro q1 (And.intro q2 hB))
  have nz0 : w.heap.size ≠ w.heap.size + 1 + 1 := by omega
  have nz1 : w.heap.size + 1 ≠ w.heap.size + 1 + 1 := by omega
  clear hW q0 q1 q2 hB
  unfold ribV
  go_enter Tryz.func71, Tryz.ntmps71
  go_wp2_with fail
  rw [← HW.out]
  go_loopw [8] (fun i' wr => ∃ (k : Nat) (v : Value), k ≤ rs.length ∧ i' = .int .i64 k ∧ Row wr w.heap.size 36 [.slice p rs.length cap] ∧ Row wr (w.heap.size + 1) 36 [.slice none 0 0] ∧ Row wr (w.heap.size + 1 + 1) 36 [v] ∧ wr.ownsRow W.heap.size 98 9 v ((rs.take k).filterMap (loseD i now)).length (rowR ((rs.take k).filterMap (loseD i now))) ∧ Below w.heap.size w wr ∧ W.heap.size ≤ wr.heap.size) (fun i' _ => rs.length - (intOf i').toNat)
  case atStart => exact ⟨0, .slice none 0 0, Nat.zero_le _, rfl, HQ.out.1, HQ.out.2.1, HQ.out.2.2.1, World.ownsRow_nil _ _ _ 9, HQ.out.2.2.2, Nat.le_refl _⟩
  case round =>
    obtain ⟨k, v, hk, rfl, r0, r1, r2, hown, hB, hWs⟩ := hrel
    clear HW HQ
    have x0 : wr.cell? ⟨w.heap.size, 0, none⟩ = some (.slice p rs.length cap) := r0.cell 0
    obtain ⟨q, cv, rfl⟩ := ownsR_shapeT hown
    by_cases hlt : k < rs.length
    · have d1 : decide ((k : Int) < (rs.length : Int)) = true := by simpa using hlt
      obtain ⟨g, a, l, m, n, ii, t, u, b, c, rfl, hg, hek, c0, c1, c2, c3, c4, c5, c6, c7, c8⟩ := ((HX.out).below hB).at k hlt
      have hnx := take_turnL (loseD i now) hlt
      rw [hek] at hnx
      have hob : Hid (∀ b, (Value.slice q ((rs.take k).filterMap (loseD i now)).length cv).ownBlock = some b → b ≠ wr.heap.size) := fun b e h => by have := (World.ownsRow.lt hown b e).2; omega
      by_cases hI : ii = i
      · have zI : (ii == i) = true := by simpa using hI
        by_cases hN : n = 0
        · have zN : (n == 0) = true := by simpa using hN
          have HTK : Hid ((rs.take (k + 1)).filterMap (loseD i now) = (rs.take k).filterMap (loseD i now)) := by
            show _ = _
            rw [hnx, show loseD i now (⟨a, l, m, n, ii, t, u, b, c⟩ : Rt) = none by simp [loseD, hI, hN]]
            simp
          have HZ : Hid _ := And.intro (r0.alloc (.cells #[.int .i64 a, .int .i64 l, .int .i64 m, .int .i64 n, .int .i64 ii, .int .i64 t, .int .i64 u, .int .i64 b, .bool c] 98)) (And.intro (r1.alloc (.cells #[.int .i64 a, .int .i64 l, .int .i64 m, .int .i64 n, .int .i64 ii, .int .i64 t, .int .i64 u, .int .i64 b, .bool c] 98)) (And.intro (r2.alloc (.cells #[.int .i64 a, .int .i64 l, .int .i64 m, .int .i64 n, .int .i64 ii, .int .i64 t, .int .i64 u, .int .i64 b, .bool c] 98)) (And.intro (World.ownsRow.alloc hown (.cells #[.int .i64 a, .int .i64 l, .int .i64 m, .int .i64 n, .int .i64 ii, .int .i64 t, .int .i64 u, .int .i64 b, .bool c] 98)) (hB.alloc hB.size (.cells #[.int .i64 a, .int .i64 l, .int .i64 m, .int .i64 n, .int .i64 ii, .int .i64 t, .int .i64 u, .int .i64 b, .bool c] 98)))))
          clear r0 r1 r2 hown hB hI hN hnx hek hob
          go_wp2_with fail
          go_roundw
          case rel => exact ⟨k + 1, _, hlt, by go_num, HZ.out.1, HZ.out.2.1, HZ.out.2.2.1, by rw [HTK.out]; exact HZ.out.2.2.2.1, HZ.out.2.2.2.2, by simp; omega⟩
          case measure => simp [intOf]; omega
        · have zN : (n == 0) = false := by simpa using hN
          by_cases hM : m < 16
          · have zM : decide (m < 16) = true := by simpa using hM
            have HTK : Hid ((rs.take (k + 1)).filterMap (loseD i now) = (rs.take k).filterMap (loseD i now) ++ [(⟨a, l, 16, n, ii, t, 0, now + 4, true⟩ : Rt)]) := by
              show _ = _
              rw [hnx, show loseD i now (⟨a, l, m, n, ii, t, u, b, c⟩ : Rt) = some (⟨a, l, 16, n, ii, t, 0, now + 4, true⟩ : Rt) by simp [loseD, hI, hN, hM, deadR]]
              rfl
            clear hI hN hM hnx
            have r0 := r0.alloc (.cells #[.int .i64 a, .int .i64 l, .int .i64 m, .int .i64 n, .int .i64 ii, .int .i64 t, .int .i64 u, .int .i64 b, .bool c] 98)
            have r1 := r1.alloc (.cells #[.int .i64 a, .int .i64 l, .int .i64 m, .int .i64 n, .int .i64 ii, .int .i64 t, .int .i64 u, .int .i64 b, .bool c] 98)
            have r2 := r2.alloc (.cells #[.int .i64 a, .int .i64 l, .int .i64 m, .int .i64 n, .int .i64 ii, .int .i64 t, .int .i64 u, .int .i64 b, .bool c] 98)
            have hown := World.ownsRow.alloc hown (.cells #[.int .i64 a, .int .i64 l, .int .i64 m, .int .i64 n, .int .i64 ii, .int .i64 t, .int .i64 u, .int .i64 b, .bool c] 98)
            have hB := hB.alloc hB.size (.cells #[.int .i64 a, .int .i64 l, .int .i64 m, .int .i64 n, .int .i64 ii, .int .i64 t, .int .i64 u, .int .i64 b, .bool c] 98)
            have hWs0 : W.heap.size ≤ wr.heap.size := hWs
            have hWs : W.heap.size ≤ (wr.alloc (.cells #[.int .i64 a, .int .i64 l, .int .i64 m, .int .i64 n, .int .i64 ii, .int .i64 t, .int .i64 u, .int .i64 b, .bool c] 98)).heap.size := by simp; omega
            have y2 : (wr.alloc (.cells #[.int .i64 a, .int .i64 l, .int .i64 m, .int .i64 n, .int .i64 ii, .int .i64 t, .int .i64 u, .int .i64 b, .bool c] 98)).cell? ⟨w.heap.size + 1 + 1, 0, none⟩ = some (.slice q ((rs.take k).filterMap (loseD i now)).length cv) := r2.cell 0
            have qb := Row.new wr 98 [.int .i64 a, .int .i64 l, .int .i64 m, .int .i64 n, .int .i64 ii, .int .i64 t, .int .i64 u, .int .i64 b, .bool c]
            have HE : Hid _ := And.intro r0 (And.intro r1 (And.intro r2 (And.intro hown (And.intro hB qb))))
            have HDk : Hid (∀ w, Calls Tryz.prog 118 #[.agg #[.int .i64 a, .int .i64 l, .int .i64 m, .int .i64 n, .int .i64 ii, .int .i64 t, .int .i64 u, .int .i64 b, .bool c], .int .i64 now] w fun e w' => e = .returned (.agg #[.int .i64 a, .int .i64 l, .int .i64 16, .int .i64 n, .int .i64 ii, .int .i64 t, .int .i64 0, .int .i64 (now + 4), .bool true]) ∧ Below w.heap.size w w') := HD.out (⟨a, l, m, n, ii, t, u, b, c⟩ : Rt)
            clear r0 r1 r2 hown hB qb y2 hek
            go_wp2_with fail
            refine (HDk.out _).mono ?_
            rintro e w2 ⟨rfl, hb2⟩
            obtain ⟨r0, r1, r2, hown, hB, qb⟩ := HE.out
            have r0 := r0.below hb2 r0.lt
            have r1 := r1.below hb2 r1.lt
            have r2 := r2.below hb2 r2.lt
            have qb := qb.below hb2 qb.lt
            have hown := ownsR_belowT hown hb2
            have hB := hB.trans (hb2.mono hB.size)
            have hWs : W.heap.size ≤ w2.heap.size := Nat.le_trans hWs hb2.size
            clear HE HDk hb2 c0 c1 c2 c3 c4 c5 c6 c7 c8 x0
            have e0 : w2.cell? ⟨wr.heap.size, 0, none⟩ = some (.int .i64 a) := qb.cell 0
            have g0 : w2.frozen? ⟨wr.heap.size, 0, none⟩ = false := qb.frozen 0
            have e1 : w2.cell? ⟨wr.heap.size, 1, none⟩ = some (.int .i64 l) := qb.cell 1
            have g1 : w2.frozen? ⟨wr.heap.size, 1, none⟩ = false := qb.frozen 1
            have e2 : w2.cell? ⟨wr.heap.size, 2, none⟩ = some (.int .i64 m) := qb.cell 2
            have g2 : w2.frozen? ⟨wr.heap.size, 2, none⟩ = false := qb.frozen 2
            have e3 : w2.cell? ⟨wr.heap.size, 3, none⟩ = some (.int .i64 n) := qb.cell 3
            have g3 : w2.frozen? ⟨wr.heap.size, 3, none⟩ = false := qb.frozen 3
            have e4 : w2.cell? ⟨wr.heap.size, 4, none⟩ = some (.int .i64 ii) := qb.cell 4
            have g4 : w2.frozen? ⟨wr.heap.size, 4, none⟩ = false := qb.frozen 4
            have e5 : w2.cell? ⟨wr.heap.size, 5, none⟩ = some (.int .i64 t) := qb.cell 5
            have g5 : w2.frozen? ⟨wr.heap.size, 5, none⟩ = false := qb.frozen 5
            have e6 : w2.cell? ⟨wr.heap.size, 6, none⟩ = some (.int .i64 u) := qb.cell 6
            have g6 : w2.frozen? ⟨wr.heap.size, 6, none⟩ = false := qb.frozen 6
            have e7 : w2.cell? ⟨wr.heap.size, 7, none⟩ = some (.int .i64 b) := qb.cell 7
            have g7 : w2.frozen? ⟨wr.heap.size, 7, none⟩ = false := qb.frozen 7
            have e8 : w2.cell? ⟨wr.heap.size, 8, none⟩ = some (.bool c) := qb.cell 8
            have g8 : w2.frozen? ⟨wr.heap.size, 8, none⟩ = false := qb.frozen 8
            have nx0 : w.heap.size ≠ wr.heap.size := by omega
            have nx1 : w.heap.size + 1 ≠ wr.heap.size := by omega
            have nx2 : w.heap.size + 1 + 1 ≠ wr.heap.size := by omega
            have m2 : ¬ wr.heap.size = w.heap.size + 1 + 1 := by omega
            have m2' : ¬ w.heap.size + 1 + 1 = wr.heap.size := by omega
            have y2 : w2.cell? ⟨w.heap.size + 1 + 1, 0, none⟩ = some (.slice q ((rs.take k).filterMap (loseD i now)).length cv) := r2.cell 0
            have r0 := nine0_other r0 wr.heap.size nx0 (.int .i64 a) (.int .i64 l) (.int .i64 16) (.int .i64 n) (.int .i64 ii) (.int .i64 t) (.int .i64 0) (.int .i64 (now + 4)) (.bool true)
            have r1 := nine0_other r1 wr.heap.size nx1 (.int .i64 a) (.int .i64 l) (.int .i64 16) (.int .i64 n) (.int .i64 ii) (.int .i64 t) (.int .i64 0) (.int .i64 (now + 4)) (.bool true)
            have r2 := nine0_other r2 wr.heap.size nx2 (.int .i64 a) (.int .i64 l) (.int .i64 16) (.int .i64 n) (.int .i64 ii) (.int .i64 t) (.int .i64 0) (.int .i64 (now + 4)) (.bool true)
            have hB := nine0_below hB wr.heap.size (by have := hWs0; omega) (.int .i64 a) (.int .i64 l) (.int .i64 16) (.int .i64 n) (.int .i64 ii) (.int .i64 t) (.int .i64 0) (.int .i64 (now + 4)) (.bool true)
            have hown : (nine0 w2 wr.heap.size (.int .i64 a) (.int .i64 l) (.int .i64 16) (.int .i64 n) (.int .i64 ii) (.int .i64 t) (.int .i64 0) (.int .i64 (now + 4)) (.bool true)).ownsRow W.heap.size 98 9 (.slice q ((rs.take k).filterMap (loseD i now)).length cv) ((rs.take k).filterMap (loseD i now)).length (rowR ((rs.take k).filterMap (loseD i now))) := nine0_owns hown (hob.out)  (.int .i64 a) (.int .i64 l) (.int .i64 16) (.int .i64 n) (.int .i64 ii) (.int .i64 t) (.int .i64 0) (.int .i64 (now + 4)) (.bool true)
            have hWs : W.heap.size ≤ (nine0 w2 wr.heap.size (.int .i64 a) (.int .i64 l) (.int .i64 16) (.int .i64 n) (.int .i64 ii) (.int .i64 t) (.int .i64 0) (.int .i64 (now + 4)) (.bool true)).heap.size := by unfold nine0; simpa using hWs
            generalize hY : nine0 w2 wr.heap.size (.int .i64 a) (.int .i64 l) (.int .i64 16) (.int .i64 n) (.int .i64 ii) (.int .i64 t) (.int .i64 0) (.int .i64 (now + 4)) (.bool true) = Y at r0 r1 r2 hB hown hWs
            have hn0' : Y.heap.size ≥ W.heap.size := hWs
            have qn := Row.new (Y) 98 [.int .i64 a, .int .i64 l, .int .i64 16, .int .i64 n, .int .i64 ii, .int .i64 t, .int .i64 0, .int .i64 (now + 4), .bool true]
            have r0 := r0.alloc (.cells #[.int .i64 a, .int .i64 l, .int .i64 16, .int .i64 n, .int .i64 ii, .int .i64 t, .int .i64 0, .int .i64 (now + 4), .bool true] 98)
            have r1 := r1.alloc (.cells #[.int .i64 a, .int .i64 l, .int .i64 16, .int .i64 n, .int .i64 ii, .int .i64 t, .int .i64 0, .int .i64 (now + 4), .bool true] 98)
            have r2 := r2.alloc (.cells #[.int .i64 a, .int .i64 l, .int .i64 16, .int .i64 n, .int .i64 ii, .int .i64 t, .int .i64 0, .int .i64 (now + 4), .bool true] 98)
            have hB := hB.alloc hB.size (.cells #[.int .i64 a, .int .i64 l, .int .i64 16, .int .i64 n, .int .i64 ii, .int .i64 t, .int .i64 0, .int .i64 (now + 4), .bool true] 98)
            obtain ⟨v5, w5, happ, hown5, hb5⟩ := run_append_rts (Y.alloc (.cells #[.int .i64 a, .int .i64 l, .int .i64 16, .int .i64 n, .int .i64 ii, .int .i64 t, .int .i64 0, .int .i64 (now + 4), .bool true] 98)) W.heap.size (.slice q ((rs.take k).filterMap (loseD i now)).length cv) ((rs.take k).filterMap (loseD i now)) [(⟨a, l, 16, n, ii, t, 0, now + 4, true⟩ : Rt)] (some ⟨(Y).heap.size, 0, none⟩) 1 34 (World.ownsRow.alloc hown _) (fun e => by cases e) (fun ad e j x hj => by
              cases e
              rw [addR, Nat.zero_add, qn.cell]
              exact hj) (by have := List.length_filterMap_le (loseD i now) (rs.take k); rw [List.length_take] at this; simp only [List.length_singleton]; omega) (by simp; omega)
            rw [List.length_singleton] at happ
            have hsz : (Y).heap.size = w2.heap.size := by rw [← hY]; unfold nine0; simp
            rw [hsz] at happ
            generalize hq5 : (rs.take k).filterMap (loseD i now) ++ [(⟨a, l, 16, n, ii, t, 0, now + 4, true⟩ : Rt)] = Q5 at hown5
            have HQ5 : Hid _ := hq5
            clear hq5
            obtain ⟨q5, c5, rfl⟩ := ownsR_shapeT hown5
            have r0 := r0.below hb5 (by omega)
            have r1 := r1.below hb5 (by omega)
            have r2 := r2.below hb5 (by omega)
            have hB := hB.trans (hb5.mono (by omega))
            have hs5 : W.heap.size ≤ w5.heap.size := by have := hb5.size; simp at this; omega
            have f0 : w5.frozen? ⟨w.heap.size + 1 + 1, 0, none⟩ = false := r2.frozen 0
            have z0 : w5.cell? ⟨w.heap.size + 1 + 1, 0, none⟩ = some (.slice q ((rs.take k).filterMap (loseD i now)).length cv) := r2.cell 0
            have HZ : Hid _ := And.intro (r0.other 0 (.slice q5 Q5.length c5) nz0) (And.intro (r1.other 0 (.slice q5 Q5.length c5) nz1) (And.intro (r2.set 0 (.slice q5 Q5.length c5)) (And.intro (ownR_set (base' := W.heap.size) hown5 ⟨w.heap.size + 1 + 1, 0, none⟩ (by show w.heap.size + 1 + 1 < W.heap.size; omega) (.slice q5 Q5.length c5) (Nat.le_refl _)) (hB.setCell (p := ⟨w.heap.size + 1 + 1, 0, none⟩) (by show w.heap.size ≤ w.heap.size + 1 + 1; omega) (.slice q5 Q5.length c5)))))
            clear r0 r1 r2 hB hown hown5 hb5 qn qb nx0 nx1 nx2
            unfold nine0 at hY
            rw [← hY] at happ
            clear hY hsz
            go_wp2_with (at_builtin; refine wpList_append_runs rfl _ _ 34 rfl _ _ rfl rfl happ ?_)
            go_roundw
            case rel => exact ⟨k + 1, .slice q5 Q5.length c5, hlt, by go_num, HZ.out.1, HZ.out.2.1, HZ.out.2.2.1, by rw [HTK.out, HQ5.out]; exact HZ.out.2.2.2.1, HZ.out.2.2.2.2, by simpa using hs5⟩
            case measure => simp [intOf]; omega
          · have zM : decide (m < 16) = false := by simpa using hM
            have HTK : Hid ((rs.take (k + 1)).filterMap (loseD i now) = (rs.take k).filterMap (loseD i now) ++ [(⟨a, l, m, n, ii, t, u, b, c⟩ : Rt)]) := by
              show _ = _
              rw [hnx, show loseD i now (⟨a, l, m, n, ii, t, u, b, c⟩ : Rt) = some (⟨a, l, m, n, ii, t, u, b, c⟩ : Rt) by simp [loseD, hN, hM]]
              rfl
            clear hI hN hM hnx hob
            have r0 := r0.alloc (.cells #[.int .i64 a, .int .i64 l, .int .i64 m, .int .i64 n, .int .i64 ii, .int .i64 t, .int .i64 u, .int .i64 b, .bool c] 98)
            have r1 := r1.alloc (.cells #[.int .i64 a, .int .i64 l, .int .i64 m, .int .i64 n, .int .i64 ii, .int .i64 t, .int .i64 u, .int .i64 b, .bool c] 98)
            have r2 := r2.alloc (.cells #[.int .i64 a, .int .i64 l, .int .i64 m, .int .i64 n, .int .i64 ii, .int .i64 t, .int .i64 u, .int .i64 b, .bool c] 98)
            have hown := World.ownsRow.alloc hown (.cells #[.int .i64 a, .int .i64 l, .int .i64 m, .int .i64 n, .int .i64 ii, .int .i64 t, .int .i64 u, .int .i64 b, .bool c] 98)
            have hB := hB.alloc hB.size (.cells #[.int .i64 a, .int .i64 l, .int .i64 m, .int .i64 n, .int .i64 ii, .int .i64 t, .int .i64 u, .int .i64 b, .bool c] 98)
            have hWs0 : W.heap.size ≤ wr.heap.size := hWs
            have hWs : W.heap.size ≤ (wr.alloc (.cells #[.int .i64 a, .int .i64 l, .int .i64 m, .int .i64 n, .int .i64 ii, .int .i64 t, .int .i64 u, .int .i64 b, .bool c] 98)).heap.size := by simp; omega
            have y2 : (wr.alloc (.cells #[.int .i64 a, .int .i64 l, .int .i64 m, .int .i64 n, .int .i64 ii, .int .i64 t, .int .i64 u, .int .i64 b, .bool c] 98)).cell? ⟨w.heap.size + 1 + 1, 0, none⟩ = some (.slice q ((rs.take k).filterMap (loseD i now)).length cv) := r2.cell 0
            have hn0' : (wr.alloc (.cells #[.int .i64 a, .int .i64 l, .int .i64 m, .int .i64 n, .int .i64 ii, .int .i64 t, .int .i64 u, .int .i64 b, .bool c] 98)).heap.size ≥ W.heap.size := hWs
            have qn := Row.new ((wr.alloc (.cells #[.int .i64 a, .int .i64 l, .int .i64 m, .int .i64 n, .int .i64 ii, .int .i64 t, .int .i64 u, .int .i64 b, .bool c] 98))) 98 [.int .i64 a, .int .i64 l, .int .i64 m, .int .i64 n, .int .i64 ii, .int .i64 t, .int .i64 u, .int .i64 b, .bool c]
            have r0 := r0.alloc (.cells #[.int .i64 a, .int .i64 l, .int .i64 m, .int .i64 n, .int .i64 ii, .int .i64 t, .int .i64 u, .int .i64 b, .bool c] 98)
            have r1 := r1.alloc (.cells #[.int .i64 a, .int .i64 l, .int .i64 m, .int .i64 n, .int .i64 ii, .int .i64 t, .int .i64 u, .int .i64 b, .bool c] 98)
            have r2 := r2.alloc (.cells #[.int .i64 a, .int .i64 l, .int .i64 m, .int .i64 n, .int .i64 ii, .int .i64 t, .int .i64 u, .int .i64 b, .bool c] 98)
            have hB := hB.alloc hB.size (.cells #[.int .i64 a, .int .i64 l, .int .i64 m, .int .i64 n, .int .i64 ii, .int .i64 t, .int .i64 u, .int .i64 b, .bool c] 98)
            obtain ⟨v5, w5, happ, hown5, hb5⟩ := run_append_rts ((wr.alloc (.cells #[.int .i64 a, .int .i64 l, .int .i64 m, .int .i64 n, .int .i64 ii, .int .i64 t, .int .i64 u, .int .i64 b, .bool c] 98)).alloc (.cells #[.int .i64 a, .int .i64 l, .int .i64 m, .int .i64 n, .int .i64 ii, .int .i64 t, .int .i64 u, .int .i64 b, .bool c] 98)) W.heap.size (.slice q ((rs.take k).filterMap (loseD i now)).length cv) ((rs.take k).filterMap (loseD i now)) [(⟨a, l, m, n, ii, t, u, b, c⟩ : Rt)] (some ⟨((wr.alloc (.cells #[.int .i64 a, .int .i64 l, .int .i64 m, .int .i64 n, .int .i64 ii, .int .i64 t, .int .i64 u, .int .i64 b, .bool c] 98))).heap.size, 0, none⟩) 1 34 (World.ownsRow.alloc hown _) (fun e => by cases e) (fun ad e j x hj => by
              cases e
              rw [addR, Nat.zero_add, qn.cell]
              exact hj) (by have := List.length_filterMap_le (loseD i now) (rs.take k); rw [List.length_take] at this; simp only [List.length_singleton]; omega) (by simp; omega)
            rw [List.length_singleton] at happ
            have hsz : ((wr.alloc (.cells #[.int .i64 a, .int .i64 l, .int .i64 m, .int .i64 n, .int .i64 ii, .int .i64 t, .int .i64 u, .int .i64 b, .bool c] 98))).heap.size = wr.heap.size + 1 := by simp
            rw [hsz] at happ
            generalize hq5 : (rs.take k).filterMap (loseD i now) ++ [(⟨a, l, m, n, ii, t, u, b, c⟩ : Rt)] = Q5 at hown5
            have HQ5 : Hid _ := hq5
            clear hq5
            obtain ⟨q5, c5, rfl⟩ := ownsR_shapeT hown5
            have r0 := r0.below hb5 (by omega)
            have r1 := r1.below hb5 (by omega)
            have r2 := r2.below hb5 (by omega)
            have hB := hB.trans (hb5.mono (by omega))
            have hs5 : W.heap.size ≤ w5.heap.size := by have := hb5.size; simp at this; omega
            have f0 : w5.frozen? ⟨w.heap.size + 1 + 1, 0, none⟩ = false := r2.frozen 0
            have z0 : w5.cell? ⟨w.heap.size + 1 + 1, 0, none⟩ = some (.slice q ((rs.take k).filterMap (loseD i now)).length cv) := r2.cell 0
            have HZ : Hid _ := And.intro (r0.other 0 (.slice q5 Q5.length c5) nz0) (And.intro (r1.other 0 (.slice q5 Q5.length c5) nz1) (And.intro (r2.set 0 (.slice q5 Q5.length c5)) (And.intro (ownR_set (base' := W.heap.size) hown5 ⟨w.heap.size + 1 + 1, 0, none⟩ (by show w.heap.size + 1 + 1 < W.heap.size; omega) (.slice q5 Q5.length c5) (Nat.le_refl _)) (hB.setCell (p := ⟨w.heap.size + 1 + 1, 0, none⟩) (by show w.heap.size ≤ w.heap.size + 1 + 1; omega) (.slice q5 Q5.length c5)))))
            clear r0 r1 r2 hB hown hown5 hb5 qn 
            go_wp2_with (at_builtin; refine wpList_append_runs rfl _ _ 34 rfl _ _ rfl rfl happ ?_)
            go_roundw
            case rel => exact ⟨k + 1, .slice q5 Q5.length c5, hlt, by go_num, HZ.out.1, HZ.out.2.1, HZ.out.2.2.1, by rw [HTK.out, HQ5.out]; exact HZ.out.2.2.2.1, HZ.out.2.2.2.2, by simpa using hs5⟩
            case measure => simp [intOf]; omega
      · have zI : (ii == i) = false := by simpa using hI
        have HTK : Hid ((rs.take (k + 1)).filterMap (loseD i now) = (rs.take k).filterMap (loseD i now) ++ [(⟨a, l, m, n, ii, t, u, b, c⟩ : Rt)]) := by
          show _ = _
          rw [hnx, show loseD i now (⟨a, l, m, n, ii, t, u, b, c⟩ : Rt) = some (⟨a, l, m, n, ii, t, u, b, c⟩ : Rt) by simp [loseD, hI]]
          rfl
        clear hI hnx hob
        have r0 := r0.alloc (.cells #[.int .i64 a, .int .i64 l, .int .i64 m, .int .i64 n, .int .i64 ii, .int .i64 t, .int .i64 u, .int .i64 b, .bool c] 98)
        have r1 := r1.alloc (.cells #[.int .i64 a, .int .i64 l, .int .i64 m, .int .i64 n, .int .i64 ii, .int .i64 t, .int .i64 u, .int .i64 b, .bool c] 98)
        have r2 := r2.alloc (.cells #[.int .i64 a, .int .i64 l, .int .i64 m, .int .i64 n, .int .i64 ii, .int .i64 t, .int .i64 u, .int .i64 b, .bool c] 98)
        have hown := World.ownsRow.alloc hown (.cells #[.int .i64 a, .int .i64 l, .int .i64 m, .int .i64 n, .int .i64 ii, .int .i64 t, .int .i64 u, .int .i64 b, .bool c] 98)
        have hB := hB.alloc hB.size (.cells #[.int .i64 a, .int .i64 l, .int .i64 m, .int .i64 n, .int .i64 ii, .int .i64 t, .int .i64 u, .int .i64 b, .bool c] 98)
        have hWs0 : W.heap.size ≤ wr.heap.size := hWs
        have hWs : W.heap.size ≤ (wr.alloc (.cells #[.int .i64 a, .int .i64 l, .int .i64 m, .int .i64 n, .int .i64 ii, .int .i64 t, .int .i64 u, .int .i64 b, .bool c] 98)).heap.size := by simp; omega
        have y2 : (wr.alloc (.cells #[.int .i64 a, .int .i64 l, .int .i64 m, .int .i64 n, .int .i64 ii, .int .i64 t, .int .i64 u, .int .i64 b, .bool c] 98)).cell? ⟨w.heap.size + 1 + 1, 0, none⟩ = some (.slice q ((rs.take k).filterMap (loseD i now)).length cv) := r2.cell 0
        have hn0' : (wr.alloc (.cells #[.int .i64 a, .int .i64 l, .int .i64 m, .int .i64 n, .int .i64 ii, .int .i64 t, .int .i64 u, .int .i64 b, .bool c] 98)).heap.size ≥ W.heap.size := hWs
        have qn := Row.new ((wr.alloc (.cells #[.int .i64 a, .int .i64 l, .int .i64 m, .int .i64 n, .int .i64 ii, .int .i64 t, .int .i64 u, .int .i64 b, .bool c] 98))) 98 [.int .i64 a, .int .i64 l, .int .i64 m, .int .i64 n, .int .i64 ii, .int .i64 t, .int .i64 u, .int .i64 b, .bool c]
        have r0 := r0.alloc (.cells #[.int .i64 a, .int .i64 l, .int .i64 m, .int .i64 n, .int .i64 ii, .int .i64 t, .int .i64 u, .int .i64 b, .bool c] 98)
        have r1 := r1.alloc (.cells #[.int .i64 a, .int .i64 l, .int .i64 m, .int .i64 n, .int .i64 ii, .int .i64 t, .int .i64 u, .int .i64 b, .bool c] 98)
        have r2 := r2.alloc (.cells #[.int .i64 a, .int .i64 l, .int .i64 m, .int .i64 n, .int .i64 ii, .int .i64 t, .int .i64 u, .int .i64 b, .bool c] 98)
        have hB := hB.alloc hB.size (.cells #[.int .i64 a, .int .i64 l, .int .i64 m, .int .i64 n, .int .i64 ii, .int .i64 t, .int .i64 u, .int .i64 b, .bool c] 98)
        obtain ⟨v5, w5, happ, hown5, hb5⟩ := run_append_rts ((wr.alloc (.cells #[.int .i64 a, .int .i64 l, .int .i64 m, .int .i64 n, .int .i64 ii, .int .i64 t, .int .i64 u, .int .i64 b, .bool c] 98)).alloc (.cells #[.int .i64 a, .int .i64 l, .int .i64 m, .int .i64 n, .int .i64 ii, .int .i64 t, .int .i64 u, .int .i64 b, .bool c] 98)) W.heap.size (.slice q ((rs.take k).filterMap (loseD i now)).length cv) ((rs.take k).filterMap (loseD i now)) [(⟨a, l, m, n, ii, t, u, b, c⟩ : Rt)] (some ⟨((wr.alloc (.cells #[.int .i64 a, .int .i64 l, .int .i64 m, .int .i64 n, .int .i64 ii, .int .i64 t, .int .i64 u, .int .i64 b, .bool c] 98))).heap.size, 0, none⟩) 1 34 (World.ownsRow.alloc hown _) (fun e => by cases e) (fun ad e j x hj => by
          cases e
          rw [addR, Nat.zero_add, qn.cell]
          exact hj) (by have := List.length_filterMap_le (loseD i now) (rs.take k); rw [List.length_take] at this; simp only [List.length_singleton]; omega) (by simp; omega)
        rw [List.length_singleton] at happ
        have hsz : ((wr.alloc (.cells #[.int .i64 a, .int .i64 l, .int .i64 m, .int .i64 n, .int .i64 ii, .int .i64 t, .int .i64 u, .int .i64 b, .bool c] 98))).heap.size = wr.heap.size + 1 := by simp
        rw [hsz] at happ
        generalize hq5 : (rs.take k).filterMap (loseD i now) ++ [(⟨a, l, m, n, ii, t, u, b, c⟩ : Rt)] = Q5 at hown5
        have HQ5 : Hid _ := hq5
        clear hq5
        obtain ⟨q5, c5, rfl⟩ := ownsR_shapeT hown5
        have r0 := r0.below hb5 (by omega)
        have r1 := r1.below hb5 (by omega)
        have r2 := r2.below hb5 (by omega)
        have hB := hB.trans (hb5.mono (by omega))
        have hs5 : W.heap.size ≤ w5.heap.size := by have := hb5.size; simp at this; omega
        have f0 : w5.frozen? ⟨w.heap.size + 1 + 1, 0, none⟩ = false := r2.frozen 0
        have z0 : w5.cell? ⟨w.heap.size + 1 + 1, 0, none⟩ = some (.slice q ((rs.take k).filterMap (loseD i now)).length cv) := r2.cell 0
        have HZ : Hid _ := And.intro (r0.other 0 (.slice q5 Q5.length c5) nz0) (And.intro (r1.other 0 (.slice q5 Q5.length c5) nz1) (And.intro (r2.set 0 (.slice q5 Q5.length c5)) (And.intro (ownR_set (base' := W.heap.size) hown5 ⟨w.heap.size + 1 + 1, 0, none⟩ (by show w.heap.size + 1 + 1 < W.heap.size; omega) (.slice q5 Q5.length c5) (Nat.le_refl _)) (hB.setCell (p := ⟨w.heap.size + 1 + 1, 0, none⟩) (by show w.heap.size ≤ w.heap.size + 1 + 1; omega) (.slice q5 Q5.length c5)))))
        clear r0 r1 r2 hB hown hown5 hb5 qn 
        go_wp2_with (at_builtin; refine wpList_append_runs rfl _ _ 34 rfl _ _ rfl rfl happ ?_)
        go_roundw
        case rel => exact ⟨k + 1, .slice q5 Q5.length c5, hlt, by go_num, HZ.out.1, HZ.out.2.1, HZ.out.2.2.1, by rw [HTK.out, HQ5.out]; exact HZ.out.2.2.2.1, HZ.out.2.2.2.2, by simpa using hs5⟩
        case measure => simp [intOf]; omega
    · obtain rfl : k = rs.length := by omega
      have d1 : decide ((rs.length : Int) < (rs.length : Int)) = false := by simp
      rw [List.take_length] at hown r2
      have y2 : wr.cell? ⟨w.heap.size + 1 + 1, 0, none⟩ = some (.slice q (rs.filterMap (loseD i now)).length cv) := r2.cell 0
      have f0 : wr.frozen? ⟨w.heap.size + 1, 0, none⟩ = false := r1.frozen 0
      have z0 : wr.cell? ⟨w.heap.size + 1, 0, none⟩ = some (.slice none 0 0) := r1.cell 0
      have HE : Hid _ := And.intro (r1.set 0 (.slice q (rs.filterMap (loseD i now)).length cv)) (And.intro (hB.setCell (p := ⟨w.heap.size + 1, 0, none⟩) (by show w.heap.size ≤ w.heap.size + 1; omega) (.slice q (rs.filterMap (loseD i now)).length cv)) (ownR_set (base' := w.heap.size) hown ⟨w.heap.size + 1, 0, none⟩ (by show w.heap.size + 1 < W.heap.size; omega) (.slice q (rs.filterMap (loseD i now)).length cv) (by omega)))
      clear hlt hk r0 r1 r2 hown hB
      go_wp2_with fail
      obtain ⟨h1, h2, h3⟩ := HE.out
      clear HE f0 z0 y2
      generalize wr.setCell ⟨w.heap.size + 1, 0, none⟩ (.slice q (rs.filterMap (loseD i now)).length cv) = Z at *
      have e0 : Z.cell? ⟨w.heap.size + 1, 0, none⟩ = some (.slice q (rs.filterMap (loseD i now)).length cv) := h1.cell 0
      exact bodyPost_ret (v := .agg #[.slice q (rs.filterMap (loseD i now)).length cv]) (by simp [results, Tryz.results71, go_sem, e0]) rfl ⟨q, cv, rfl, h3, h2⟩
end Go.Proofs.YtifckpncpjijiaaGreat
