/- RibBest of the program. (Written by gen_best.py.) -/
import Derived.Test.YtkkhjeigndcmaabAppR
import Derived.Test.YtkkhjeigndcmaabCovers
import Derived.Test.YtkkhjeigndcmaabToRt
import Derived.Test.YtkkhjeigndcmaabFindG
namespace Go.Proofs.Ytkkhjeigndcmaab
open Go.RowKit Go.Sort Go.Shelf
attribute [local go_sem] Oper.semAt_some

def useB (x : Int) (r : Rt) : Bool := decide (r.m < 16) && coversB r.a r.l x
/-- The last one of use. -/
def lastU (x : Int) (rs : List Rt) : Rt := rs.foldl (fun b r => if useB x r = true then r else b) zeroR
theorem lastU_next (x : Int) (pre : List Rt) (r : Rt) : lastU x (pre ++ [r]) = if useB x r = true then r else lastU x pre := by
  unfold lastU
  rw [List.foldl_append]
  rfl
/-- What RibBest answers. -/
def bestR (rs : List Rt) (x : Int) : Rt := if ribB rs = true then lastU x rs else zeroR
theorem rows4 (w : World) (x y z v : List Value) (t1 t2 t3 t4 : TypeId) : ∃ W, W = (((w.alloc (.cells x.toArray t1)).alloc (.cells y.toArray t2)).alloc (.cells z.toArray t3)).alloc (.cells v.toArray t4) ∧ Row W w.heap.size t1 x ∧ Row W (w.heap.size + 1) t2 y ∧ Row W (w.heap.size + 1 + 1) t3 z ∧ Row W (w.heap.size + 1 + 1 + 1) t4 v ∧ Below w.heap.size w W ∧ W.heap.size = w.heap.size + 1 + 1 + 1 + 1 := by
  obtain ⟨W, rfl, q0, q1, q2, hB, hS, -⟩ := rows3 w x y z t1 t2 t3
  have q3 := Row.new (((w.alloc (.cells x.toArray t1)).alloc (.cells y.toArray t2)).alloc (.cells z.toArray t3)) t4 v
  rw [hS] at q3
  exact ⟨_, rfl, q0.alloc _, q1.alloc _, q2.alloc _, q3, hB.alloc hB.size _, by simp⟩
theorem row_own {β : Type} (B : Nat) (t : TypeId) (f : β → List Value) : Own (fun s W => Row W B t (f s)) := fun s X Y row hs hg hrow => by
  refine (hg.block B hs.lt (fun e => ?_)).trans hs
  obtain ⟨o, ho, hc⟩ := hrow B e.symm
  rw [show X.heap[B]? = _ from hs] at ho
  cases ho
  cases hc
theorem nineV_heap (w : World) (g : Nat) (V : Rt) (k : Nat) (h : k ≠ g) : (nineV w g V).heap[k]? = w.heap[k]? := by
  unfold nineV nine0
  rw [Below.heap_setCell _ _ _ k (fun e => h e), Below.heap_setCell _ _ _ k (fun e => h e), Below.heap_setCell _ _ _ k (fun e => h e), Below.heap_setCell _ _ _ k (fun e => h e), Below.heap_setCell _ _ _ k (fun e => h e), Below.heap_setCell _ _ _ k (fun e => h e), Below.heap_setCell _ _ _ k (fun e => h e), Below.heap_setCell _ _ _ k (fun e => h e), Below.heap_setCell _ _ _ k (fun e => h e)]
theorem nineV_keeps (w : World) (g : Nat) (V : Rt) : KeepsOthers w (nineV w g V) := by
  unfold nineV nine0
  exact ((((((((KeepsOthers.setCell _ _ _).trans (KeepsOthers.setCell _ _ _)).trans (KeepsOthers.setCell _ _ _)).trans (KeepsOthers.setCell _ _ _)).trans (KeepsOthers.setCell _ _ _)).trans (KeepsOthers.setCell _ _ _)).trans (KeepsOthers.setCell _ _ _)).trans (KeepsOthers.setCell _ _ _)).trans (KeepsOthers.setCell _ _ _)
theorem kpn_nine {w : World} {g : Nat} {l : List Value} (V : Rt) (h : Row w g 30 l) : KpN w (nineV w g V) := by
  refine KpN.mk (nineV_keeps w g V).size (fun i cur t hi ht => nineV_heap w g V i ?_) (nineV_keeps w g V).walks
  rintro rfl
  rw [show w.heap[i]? = _ from h] at hi
  simp only [Option.some.injEq, Obj.cells.injEq] at hi
  obtain ⟨_, ht', _⟩ := hi
  rcases ht with rfl | rfl <;> cases ht'
theorem keeps_below {W W' : World} (h : Below W.heap.size W W') : KeepsOthers W W' := ⟨h.size, fun k o hk _ => by rw [h.block k (Array.getElem?_eq_some_iff.1 hk).1]; exact hk⟩
theorem kpn_below {W W' : World} (h : Below W.heap.size W W') : KpN W W' := KpN.mk h.size (fun k _ _ hk _ => h.block k (Array.getElem?_eq_some_iff.1 hk).1) (keeps_below h).walks
set_option maxRecDepth 100000 in
set_option maxHeartbeats 4000000 in
theorem implBest_right (p : Option Addr) (cap : Nat) (rs : List Rt) (x : Int) (w : World) (h : RtsIn w p rs) (hr : ribB rs = true) :
    Calls Try.prog 16 #[ribV p rs.length cap, .int .i64 x] w fun e w' => e = .returned (rtV (lastU x rs)) ∧ Below w.heap.size w w' := by
  have h8 := (ribB_spec hr).1
  have HB : Hid (∀ w, RtsIn w p rs → Calls Try.prog 32 #[.agg #[.slice p rs.length cap]] w fun e w' => e = .returned (.bool true) ∧ Below w.heap.size w w') := fun w h => by have := implRib_any p cap rs w h (by omega); rw [hr] at this; exact this
  have HL : Hid (∀ w, RtsIn w p rs → Calls Try.prog 33 #[.agg #[.slice p rs.length cap]] w fun e w' => ∃ B, e = .returned (.agg #[.map (some B), .func (.func 67) #[] #[]]) ∧ MapIs w' B rs ∧ Below w.heap.size w w') := fun w h => (laidOut_any p cap rs w h (by omega)).mono fun e w' h => by
    obtain ⟨B, e1, _, hm, hb⟩ := h
    rw [laidN_right hr] at hm
    exact ⟨B, e1, hm, hb⟩
  have HA : Hid (∀ B w, Calls Try.prog 39 #[.agg #[.map (some B), .func (.func 67) #[] #[]]] w fun e w' => e = .returned (.func (.func 69) #[] #[.pointer (some ⟨w.heap.size, 0, none⟩)]) ∧ w.alloc (.cells #[.map (some B), .func (.func 67) #[] #[]] 63) = w') := fun B w => all_make B w
  have HC : Hid (∀ a l w, Calls Try.prog 40 #[.agg #[.int .i64 a, .int .i64 l], .int .i64 x] w fun e w' => e = .returned (.bool (coversB a l x)) ∧ Below w.heap.size w w') := fun a l w => implCovers_any a l x w
  have HX : Hid (RtsIn w p rs) := h
  clear h
  obtain ⟨W, hW, q0, q1, q2, q3, hB, hS⟩ := rows4 w [.slice p rs.length cap] [.int .i64 x] [.int .i64 0, .int .i64 0, .int .i64 0, .int .i64 0, .int .i64 0, .int .i64 0, .int .i64 0, .int .i64 0, .bool false] [.int .i64 0, .int .i64 0, .int .i64 0, .int .i64 0, .int .i64 0, .int .i64 0, .int .i64 0, .int .i64 0, .bool false] 34 2 30 30
  have HW : Hid _ := hW
  have c0 : W.cell? ⟨w.heap.size, 0, none⟩ = some (.slice p rs.length cap) := q0.cell 0
  have HQ : Hid _ := And.intro q0 (And.intro q1 (And.intro q2 (And.intro q3 (And.intro hB hS))))
  clear hW q0 q1 q2 q3 hB hS
  unfold ribV
  refine (callsIn_wide (n := 9)).1 ?_
  refine callsIn_of_wp_marks Try.func16 rfl trivial ?_ rfl
  simp only [Try.ntmps16, List.size_toArray, List.length_cons, List.length_nil, Nat.reduceAdd, Nat.reduceSub, Array.replicate_succ, Array.replicate_zero, List.push_toArray, List.append_toArray, List.nil_append, List.cons_append]
  gi_wp2_with fail
  refine ⟨trivial, ?_⟩
  rw [← HW.out]
  refine (callsIn_wide.2 (HB.out _ ((HX.out).below (HQ.out).2.2.2.2.1))).mono ?_
  rintro e w1 ⟨rfl, hb1⟩
  clear HB HW
  obtain ⟨q0, q1, q2, q3, hB, hS⟩ := HQ.out
  clear HQ c0
  have c1 : w1.cell? ⟨w.heap.size, 0, none⟩ = some (.slice p rs.length cap) := (q0.below hb1 q0.lt).cell 0
  have hX1 := ((HX.out).below hB).below hb1
  have HK1 : Hid _ := And.intro (q1.below hb1 q1.lt) (And.intro (q2.below hb1 q2.lt) (And.intro (q3.below hb1 q3.lt) (And.intro (hB.trans (hb1.mono (by omega))) (show w.heap.size + 1 + 1 + 1 + 1 ≤ w1.heap.size by have := hb1.size; omega))))
  clear q0 q1 q2 q3 hB hS hb1 HX
  gi_wp2_with fail
  refine ⟨trivial, ?_⟩
  refine (callsIn_wide.2 (HL.out _ hX1)).mono ?_
  rintro e w2 ⟨B, rfl, hM, hb2⟩
  clear HL hX1 c1
  gi_wp2_with fail
  refine ⟨trivial, ?_⟩
  refine (callsIn_wide.2 (HA.out B _)).mono ?_
  rintro e w3 ⟨rfl, hw3⟩
  have hM3 := hM.below (hw3 ▸ ent_new0 w2 _ : Below w2.heap.size w2 w3) hM.lt
  have hR3 : Row w3 w2.heap.size 63 [.map (some B), .func (.func 67) #[] #[]] := hw3 ▸ Row.new w2 63 [.map (some B), .func (.func 67) #[] #[]]
  obtain ⟨q1, q2, q3, hB, hS⟩ := HK1.out
  clear HA HK1
  gi_wp2_with fail
  have q1 := (q1.below hb2 q1.lt).below (hw3 ▸ ent_new0 w2 _ : Below w2.heap.size w2 w3) (q1.below hb2 q1.lt).lt
  have q2 := (q2.below hb2 q2.lt).below (hw3 ▸ ent_new0 w2 _ : Below w2.heap.size w2 w3) (q2.below hb2 q2.lt).lt
  have q3 := (q3.below hb2 q3.lt).below (hw3 ▸ ent_new0 w2 _ : Below w2.heap.size w2 w3) (q3.below hb2 q3.lt).lt
  have hs2 := hb2.size
  have hs3 : w3.heap.size = w2.heap.size + 1 := by rw [← hw3]; simp
  have hB3 : Below w.heap.size w w3 := (hB.trans (hb2.mono (by omega))).trans ((hw3 ▸ ent_new0 w2 _ : Below w2.heap.size w2 w3).mono (by omega))
  generalize hb2n : w2.heap.size = b2 at *
  clear hw3 hb2 hM hB
  refine wpIn_rangeFunc_ownH rfl (by omega) (gf := 69) (lb := #[.pointer (some ⟨b2, 0, none⟩)]) rfl trivial (enters_of Try.func69 (by kernel_rfl) rfl)
    (all_stops (9 - 1) (by omega) b2 B rs rs (List.Perm.refl _) hr w3 hR3 hM3) KpN.t KpN.b (Below.refl _ _) (fun _ => rfl)
    (fun pre W => Row W (w.heap.size + 1 + 1 + 1) 30 (rtL (lastU x pre)) ∧ Row W (w.heap.size + 1) 2 [.int .i64 x] ∧ Row W (w.heap.size + 1 + 1) 30 (rtL zeroR) ∧ Below w.heap.size w W)
    (fun _ _ _ => False)
    (OwnFrom.and (Own.from (row_own _ _ (fun pre : List Rt => rtL (lastU x pre))) _) (OwnFrom.and (Own.from (row_own _ _ (fun _ : List Rt => [Value.int .i64 x])) _) (OwnFrom.and (Own.from (row_own _ _ (fun _ : List Rt => rtL zeroR)) _) (ownFrom_below (Nat.le_refl _) (by omega)))))
    (fun _ _ _ _ _ hs _ _ => hs)
    ⟨q3, q1, q2, hB3⟩
    (fun y a' W => ∃ Bx, w.heap.size + 1 + 1 + 1 < Bx ∧ Row W Bx 30 (rtL y) ∧ a' = { tmps := #[.agg #[.slice p rs.length cap], .int .i64 x, .pointer (some ⟨w.heap.size, 0, none⟩), .pointer (some ⟨w.heap.size + 1, 0, none⟩), .pointer (some ⟨w.heap.size + 1 + 1, 0, none⟩), .pointer (some ⟨w.heap.size + 1 + 1 + 1, 0, none⟩), .pointer (some ⟨Bx, 0, none⟩), .agg #[.slice p rs.length cap], .bool true, .bool false, undef, .agg #[.slice p rs.length cap], .agg #[.map (some B), .func (.func 67) #[] #[]], .func (.func 69) #[] #[.pointer (some ⟨b2, 0, none⟩)], rtV y, undef, undef, undef, undef, undef, undef, undef, undef, undef, undef, undef], defers := [] })
    (fun y a' _ X Y row hs hg hr => by
      obtain ⟨Bx, h1, h2, h3⟩ := hs
      refine ⟨Bx, h1, (hg.block Bx h2.lt (fun e => ?_)).trans h2, h3⟩
      obtain ⟨_, o, ho, hc⟩ := hr Bx e.symm
      rw [show X.heap[Bx]? = _ from h2] at ho
      cases ho
      cases hc)
    ?assign ?body ?done ?stop
  case assign =>
    rintro l pre y W K ⟨r1, r2, r3, hB1⟩ hK
    obtain ⟨A, L, M, O, I, T, U, E, C⟩ := y
    unfold rtV rtA at hK ⊢
    simp only at hK ⊢
    gi_wp2
    exact hK _ _ ((KeepsOthers.alloc _ _).from _) (KpN.alloc _ _) ⟨r1.alloc _, r2.alloc _, r3.alloc _, hB1.alloc hB1.size _⟩ ⟨W.heap.size, r1.lt, Row.new W 30 [.int .i64 A, .int .i64 L, .int .i64 M, .int .i64 O, .int .i64 I, .int .i64 T, .int .i64 U, .int .i64 E, .bool C], rfl⟩
  case body =>
    rintro l pre y a' W hl ⟨r, hr⟩ ⟨r1, r2, r3, hB1⟩ ⟨Bx, hBx, hRx, rfl⟩ hlt
    have hnx := lastU_next x pre y
    obtain ⟨A, L, M, O, I, T, U, E, C⟩ := y
    unfold rtV rtA
    simp only [rtL] at hRx ⊢
    have c0 : W.cell? ⟨w.heap.size + 1, 0, none⟩ = some (.int .i64 x) := r2.cell 0
    have x0 : W.cell? ⟨Bx, 0, none⟩ = some (.int .i64 A) := hRx.cell 0
    have x1 : W.cell? ⟨Bx, 1, none⟩ = some (.int .i64 L) := hRx.cell 1
    have x2 : W.cell? ⟨Bx, 2, none⟩ = some (.int .i64 M) := hRx.cell 2
    have x3 : W.cell? ⟨Bx, 3, none⟩ = some (.int .i64 O) := hRx.cell 3
    have x4 : W.cell? ⟨Bx, 4, none⟩ = some (.int .i64 I) := hRx.cell 4
    have x5 : W.cell? ⟨Bx, 5, none⟩ = some (.int .i64 T) := hRx.cell 5
    have x6 : W.cell? ⟨Bx, 6, none⟩ = some (.int .i64 U) := hRx.cell 6
    have x7 : W.cell? ⟨Bx, 7, none⟩ = some (.int .i64 E) := hRx.cell 7
    have x8 : W.cell? ⟨Bx, 8, none⟩ = some (.bool C) := hRx.cell 8
    have hD : Hid _ := hnx
    clear hnx
    have HE : Hid _ := And.intro r1 (And.intro r2 (And.intro r3 (And.intro hB1 hRx)))
    clear r1 r2 r3 hB1 hRx
    gi_wp2_with fail
    · have Hm : Hid (M < 16) := by assumption
      refine ⟨trivial, (CallsIn.inRound l (callsIn_wide.2 (HC.out _ _ _))).mono ?_⟩
      rintro e W2 ⟨rfl, hb⟩
      clear x0 x1 x2 x3 x4 x5 x6 x7 x8 c0
      obtain ⟨r1, r2, r3, hB1, hRx⟩ := HE.out
      have r1 := r1.below hb r1.lt
      have hRx := hRx.below hb hRx.lt
      have HE2 : Hid _ := And.intro r1 (And.intro (r2.below hb r2.lt) (And.intro (r3.below hb r3.lt) (hB1.trans (hb.mono hB1.size))))
      have HK2 : Hid _ := And.intro (keeps_below hb) (kpn_below hb)
      clear HE r2 r3 hB1 hb
      generalize hZ : lastU x pre = Z at *
      have hZ' : Hid _ := hZ
      clear hZ
      have x0 : W2.cell? ⟨Bx, 0, none⟩ = some (.int .i64 A) := hRx.cell 0
      have x1 : W2.cell? ⟨Bx, 1, none⟩ = some (.int .i64 L) := hRx.cell 1
      have x2 : W2.cell? ⟨Bx, 2, none⟩ = some (.int .i64 M) := hRx.cell 2
      have x3 : W2.cell? ⟨Bx, 3, none⟩ = some (.int .i64 O) := hRx.cell 3
      have x4 : W2.cell? ⟨Bx, 4, none⟩ = some (.int .i64 I) := hRx.cell 4
      have x5 : W2.cell? ⟨Bx, 5, none⟩ = some (.int .i64 T) := hRx.cell 5
      have x6 : W2.cell? ⟨Bx, 6, none⟩ = some (.int .i64 U) := hRx.cell 6
      have x7 : W2.cell? ⟨Bx, 7, none⟩ = some (.int .i64 E) := hRx.cell 7
      have x8 : W2.cell? ⟨Bx, 8, none⟩ = some (.bool C) := hRx.cell 8
      have e0 : W2.cell? ⟨w.heap.size + 1 + 1 + 1, 0, none⟩ = some (.int .i64 Z.a) := r1.cell 0
      have e1 : W2.cell? ⟨w.heap.size + 1 + 1 + 1, 1, none⟩ = some (.int .i64 Z.l) := r1.cell 1
      have e2 : W2.cell? ⟨w.heap.size + 1 + 1 + 1, 2, none⟩ = some (.int .i64 Z.m) := r1.cell 2
      have e3 : W2.cell? ⟨w.heap.size + 1 + 1 + 1, 3, none⟩ = some (.int .i64 Z.n) := r1.cell 3
      have e4 : W2.cell? ⟨w.heap.size + 1 + 1 + 1, 4, none⟩ = some (.int .i64 Z.i) := r1.cell 4
      have e5 : W2.cell? ⟨w.heap.size + 1 + 1 + 1, 5, none⟩ = some (.int .i64 Z.t) := r1.cell 5
      have e6 : W2.cell? ⟨w.heap.size + 1 + 1 + 1, 6, none⟩ = some (.int .i64 Z.u) := r1.cell 6
      have e7 : W2.cell? ⟨w.heap.size + 1 + 1 + 1, 7, none⟩ = some (.int .i64 Z.b) := r1.cell 7
      have e8 : W2.cell? ⟨w.heap.size + 1 + 1 + 1, 8, none⟩ = some (.bool Z.c) := r1.cell 8
      have f0 : W2.frozen? ⟨w.heap.size + 1 + 1 + 1, 0, none⟩ = false := r1.frozen 0
      have f1 : W2.frozen? ⟨w.heap.size + 1 + 1 + 1, 1, none⟩ = false := r1.frozen 1
      have f2 : W2.frozen? ⟨w.heap.size + 1 + 1 + 1, 2, none⟩ = false := r1.frozen 2
      have f3 : W2.frozen? ⟨w.heap.size + 1 + 1 + 1, 3, none⟩ = false := r1.frozen 3
      have f4 : W2.frozen? ⟨w.heap.size + 1 + 1 + 1, 4, none⟩ = false := r1.frozen 4
      have f5 : W2.frozen? ⟨w.heap.size + 1 + 1 + 1, 5, none⟩ = false := r1.frozen 5
      have f6 : W2.frozen? ⟨w.heap.size + 1 + 1 + 1, 6, none⟩ = false := r1.frozen 6
      have f7 : W2.frozen? ⟨w.heap.size + 1 + 1 + 1, 7, none⟩ = false := r1.frozen 7
      have f8 : W2.frozen? ⟨w.heap.size + 1 + 1 + 1, 8, none⟩ = false := r1.frozen 8
      have HN : Hid (KeepsOthers W2 (nineV W2 (w.heap.size + 1 + 1 + 1) ⟨A, L, M, O, I, T, U, E, C⟩) ∧ KpN W2 (nineV W2 (w.heap.size + 1 + 1 + 1) ⟨A, L, M, O, I, T, U, E, C⟩) ∧ Row (nineV W2 (w.heap.size + 1 + 1 + 1) ⟨A, L, M, O, I, T, U, E, C⟩) (w.heap.size + 1 + 1 + 1) 30 (rtL ⟨A, L, M, O, I, T, U, E, C⟩) ∧ Row (nineV W2 (w.heap.size + 1 + 1 + 1) ⟨A, L, M, O, I, T, U, E, C⟩) (w.heap.size + 1) 2 [.int .i64 x] ∧ Row (nineV W2 (w.heap.size + 1 + 1 + 1) ⟨A, L, M, O, I, T, U, E, C⟩) (w.heap.size + 1 + 1) 30 (rtL zeroR) ∧ Below w.heap.size w (nineV W2 (w.heap.size + 1 + 1 + 1) ⟨A, L, M, O, I, T, U, E, C⟩)) :=
        ⟨nineV_keeps W2 _ _, kpn_nine _ r1, nineV_row _ _ r1, nineV_other _ (HE2.out).2.1 (by omega), nineV_other _ (HE2.out).2.2.1 (by omega), nineV_below (HE2.out).2.2.2 _ (by omega) _⟩
      clear r1 hRx
      cases hc : coversB A L x
      · gi_wp2_with fail
        obtain ⟨r1, r2, r3, hB1⟩ := HE2.out
        refine ⟨(HK2.out).1.from _, (HK2.out).2, ?_, r2, r3, hB1⟩
        rw [hD.out, if_neg (by simp [useB, hc])]
        exact r1
      · gi_wp2_with fail
        obtain ⟨r1, r2, r3, hB1⟩ := HE2.out
        obtain ⟨n1, n2, n3, n4, n5, n6⟩ := HN.out
        refine ⟨KeepsOthers.from (KeepsOthers.trans (HK2.out).1 n1) _, KpN.t (HK2.out).2 n2, ?_, n4, n5, n6⟩
        rw [hD.out, if_pos (by simp [useB, hc, Hm.out])]
        exact n3
    · have Hm : Hid (16 ≤ M) := by assumption
      refine ⟨trivial, ?_⟩
      gi_wp2_with fail
      obtain ⟨r1, r2, r3, hB1, hRx⟩ := HE.out
      refine ⟨(KeepsOthers.refl _).from _, kpn_below (Below.refl _ _), ?_, r2, r3, hB1⟩
      rw [hD.out, if_neg (by have := Hm.out; simp [useB]; omega)]
      exact r1
  case done =>
    rintro D xs W hD rfl ⟨r1, r2, r3, hB1⟩ hK
    obtain ⟨⟨A, L, M, O, I, T, U, E, C⟩, hy⟩ : ∃ y, lastU x xs = y := ⟨_, rfl⟩
    rw [hy] at r1
    simp only [rtL, zeroR] at r1 r3
    have HY : Hid _ := hy
    have HE : Hid _ := And.intro r1 (And.intro r3 hB1)
    have x0 : W.cell? ⟨w.heap.size + 1 + 1 + 1, 0, none⟩ = some (.int .i64 A) := r1.cell 0
    have x1 : W.cell? ⟨w.heap.size + 1 + 1 + 1, 1, none⟩ = some (.int .i64 L) := r1.cell 1
    have x2 : W.cell? ⟨w.heap.size + 1 + 1 + 1, 2, none⟩ = some (.int .i64 M) := r1.cell 2
    have x3 : W.cell? ⟨w.heap.size + 1 + 1 + 1, 3, none⟩ = some (.int .i64 O) := r1.cell 3
    have x4 : W.cell? ⟨w.heap.size + 1 + 1 + 1, 4, none⟩ = some (.int .i64 I) := r1.cell 4
    have x5 : W.cell? ⟨w.heap.size + 1 + 1 + 1, 5, none⟩ = some (.int .i64 T) := r1.cell 5
    have x6 : W.cell? ⟨w.heap.size + 1 + 1 + 1, 6, none⟩ = some (.int .i64 U) := r1.cell 6
    have x7 : W.cell? ⟨w.heap.size + 1 + 1 + 1, 7, none⟩ = some (.int .i64 E) := r1.cell 7
    have x8 : W.cell? ⟨w.heap.size + 1 + 1 + 1, 8, none⟩ = some (.bool C) := r1.cell 8
    have z0 : W.cell? ⟨w.heap.size + 1 + 1, 0, none⟩ = some (.int .i64 0) := r3.cell 0
    have z1 : W.cell? ⟨w.heap.size + 1 + 1, 1, none⟩ = some (.int .i64 0) := r3.cell 1
    have z2 : W.cell? ⟨w.heap.size + 1 + 1, 2, none⟩ = some (.int .i64 0) := r3.cell 2
    have z3 : W.cell? ⟨w.heap.size + 1 + 1, 3, none⟩ = some (.int .i64 0) := r3.cell 3
    have z4 : W.cell? ⟨w.heap.size + 1 + 1, 4, none⟩ = some (.int .i64 0) := r3.cell 4
    have z5 : W.cell? ⟨w.heap.size + 1 + 1, 5, none⟩ = some (.int .i64 0) := r3.cell 5
    have z6 : W.cell? ⟨w.heap.size + 1 + 1, 6, none⟩ = some (.int .i64 0) := r3.cell 6
    have z7 : W.cell? ⟨w.heap.size + 1 + 1, 7, none⟩ = some (.int .i64 0) := r3.cell 7
    have z8 : W.cell? ⟨w.heap.size + 1 + 1, 8, none⟩ = some (.bool false) := r3.cell 8
    have f0 : W.frozen? ⟨w.heap.size + 1 + 1, 0, none⟩ = false := r3.frozen 0
    have f1 : W.frozen? ⟨w.heap.size + 1 + 1, 1, none⟩ = false := r3.frozen 1
    have f2 : W.frozen? ⟨w.heap.size + 1 + 1, 2, none⟩ = false := r3.frozen 2
    have f3 : W.frozen? ⟨w.heap.size + 1 + 1, 3, none⟩ = false := r3.frozen 3
    have f4 : W.frozen? ⟨w.heap.size + 1 + 1, 4, none⟩ = false := r3.frozen 4
    have f5 : W.frozen? ⟨w.heap.size + 1 + 1, 5, none⟩ = false := r3.frozen 5
    have f6 : W.frozen? ⟨w.heap.size + 1 + 1, 6, none⟩ = false := r3.frozen 6
    have f7 : W.frozen? ⟨w.heap.size + 1 + 1, 7, none⟩ = false := r3.frozen 7
    have f8 : W.frozen? ⟨w.heap.size + 1 + 1, 8, none⟩ = false := r3.frozen 8
    have HF : Hid (Row (nineV W (w.heap.size + 1 + 1) ⟨A, L, M, O, I, T, U, E, C⟩) (w.heap.size + 1 + 1) 30 (rtL ⟨A, L, M, O, I, T, U, E, C⟩) ∧ Below w.heap.size w (nineV W (w.heap.size + 1 + 1) ⟨A, L, M, O, I, T, U, E, C⟩) ∧ (nineV W (w.heap.size + 1 + 1) ⟨A, L, M, O, I, T, U, E, C⟩).heap[D]? = some (.deferred (some []))) :=
      ⟨nineV_row _ zeroR r3, nineV_below hB1 _ (by omega) _, by rw [nineV_heap _ _ _ _ (by omega)]; exact hK⟩
    clear r1 r2 r3 hB1 hy q1 q2 q3 hB3 hM3 hR3
    gi_wp2_with fail
    have hF := HF.out
    clear HF HE x0 z0 f0 x1 z1 f1 x2 z2 f2 x3 z3 f3 x4 z4 f4 x5 z5 f5 x6 z6 f6 x7 z7 f7 x8 z8 f8 hK
    unfold nineV nine0 at hF
    simp only at hF
    generalize (((((((((W.setCell ⟨w.heap.size + 1 + 1, 0, none⟩ (.int .i64 A)).setCell ⟨w.heap.size + 1 + 1, 1, none⟩ (.int .i64 L)).setCell ⟨w.heap.size + 1 + 1, 2, none⟩ (.int .i64 M)).setCell ⟨w.heap.size + 1 + 1, 3, none⟩ (.int .i64 O)).setCell ⟨w.heap.size + 1 + 1, 4, none⟩ (.int .i64 I)).setCell ⟨w.heap.size + 1 + 1, 5, none⟩ (.int .i64 T)).setCell ⟨w.heap.size + 1 + 1, 6, none⟩ (.int .i64 U)).setCell ⟨w.heap.size + 1 + 1, 7, none⟩ (.int .i64 E)).setCell ⟨w.heap.size + 1 + 1, 8, none⟩ (.bool C)) = Z at *
    obtain ⟨h1, h2, h3⟩ := hF
    refine ⟨by simp, .inl ⟨_, _, rfl, run_takeDeferred h3, ?_⟩⟩
    have h4 : Below w.heap.size Z (Z.putObj D (.deferred none)) := belowK_b (w := w) (Nat.le_refl _) Z D _ _ (by omega) h3 rfl rfl
    have h5 : Row (Z.putObj D (.deferred none)) (w.heap.size + 1 + 1) 30 [.int .i64 A, .int .i64 L, .int .i64 M, .int .i64 O, .int .i64 I, .int .i64 T, .int .i64 U, .int .i64 E, .bool C] := (World.putObj_heap_other (by omega)).trans h1
    have h6 := h2.trans h4
    clear h1 h2 h3 h4
    generalize Z.putObj D (.deferred none) = Y at *
    have e0 : Y.cell? ⟨w.heap.size + 1 + 1, 0, none⟩ = some (.int .i64 A) := h5.cell 0
    have e1 : Y.cell? ⟨w.heap.size + 1 + 1, 1, none⟩ = some (.int .i64 L) := h5.cell 1
    have e2 : Y.cell? ⟨w.heap.size + 1 + 1, 2, none⟩ = some (.int .i64 M) := h5.cell 2
    have e3 : Y.cell? ⟨w.heap.size + 1 + 1, 3, none⟩ = some (.int .i64 O) := h5.cell 3
    have e4 : Y.cell? ⟨w.heap.size + 1 + 1, 4, none⟩ = some (.int .i64 I) := h5.cell 4
    have e5 : Y.cell? ⟨w.heap.size + 1 + 1, 5, none⟩ = some (.int .i64 T) := h5.cell 5
    have e6 : Y.cell? ⟨w.heap.size + 1 + 1, 6, none⟩ = some (.int .i64 U) := h5.cell 6
    have e7 : Y.cell? ⟨w.heap.size + 1 + 1, 7, none⟩ = some (.int .i64 E) := h5.cell 7
    have e8 : Y.cell? ⟨w.heap.size + 1 + 1, 8, none⟩ = some (.bool C) := h5.cell 8
    refine ⟨.agg #[.int .i64 A, .int .i64 L, .int .i64 M, .int .i64 O, .int .i64 I, .int .i64 T, .int .i64 U, .int .i64 E, .bool C], by simp [results, Try.results16, go_sem, e0, e1, e2, e3, e4, e5, e6, e7, e8], ?_⟩
    exact ⟨by rw [HY.out]; rfl, h6⟩
  case stop =>
    rintro D c pre W _ _ h _
    exact h.elim
set_option maxRecDepth 100000 in
set_option maxHeartbeats 1000000 in
theorem implBest_wrong (p : Option Addr) (cap : Nat) (rs : List Rt) (x : Int) (w : World) (h : RtsIn w p rs) (h8 : rs.length ≤ 100000000) (hr : ribB rs = false) :
    Calls Try.prog 16 #[ribV p rs.length cap, .int .i64 x] w fun e w' => e = .returned (rtV zeroR) ∧ Below w.heap.size w w' := by
  have HB : Hid (∀ w, RtsIn w p rs → Calls Try.prog 32 #[.agg #[.slice p rs.length cap]] w fun e w' => e = .returned (.bool false) ∧ Below w.heap.size w w') := fun w h => by have := implRib_any p cap rs w h (by omega); rw [hr] at this; exact this
  have HX : Hid (RtsIn w p rs) := h
  clear h
  obtain ⟨W, hW, q0, q1, q2, q3, hB, hS⟩ := rows4 w [.slice p rs.length cap] [.int .i64 x] [.int .i64 0, .int .i64 0, .int .i64 0, .int .i64 0, .int .i64 0, .int .i64 0, .int .i64 0, .int .i64 0, .bool false] [.int .i64 0, .int .i64 0, .int .i64 0, .int .i64 0, .int .i64 0, .int .i64 0, .int .i64 0, .int .i64 0, .bool false] 34 2 30 30
  have HW : Hid _ := hW
  have c0 : W.cell? ⟨w.heap.size, 0, none⟩ = some (.slice p rs.length cap) := q0.cell 0
  have HQ : Hid _ := And.intro q2 (And.intro q3 hB)
  clear hW q0 q1 q2 q3 hB hS
  unfold ribV
  go_enter Try.func16, Try.ntmps16
  go_wp2_with fail
  rw [← HW.out]
  refine (HB.out _ ((HX.out).below (HQ.out).2.2)).mono ?_
  rintro e w1 ⟨rfl, hb1⟩
  clear HB HW c0
  obtain ⟨q2, q3, hB⟩ := HQ.out
  have q2 := q2.below hb1 q2.lt
  have q3 := q3.below hb1 q3.lt
  have hB := hB.trans (hb1.mono hB.size)
  clear HQ HX hb1
  have x0 : w1.cell? ⟨w.heap.size + 1 + 1 + 1, 0, none⟩ = some (.int .i64 0) := q3.cell 0
  have x1 : w1.cell? ⟨w.heap.size + 1 + 1 + 1, 1, none⟩ = some (.int .i64 0) := q3.cell 1
  have x2 : w1.cell? ⟨w.heap.size + 1 + 1 + 1, 2, none⟩ = some (.int .i64 0) := q3.cell 2
  have x3 : w1.cell? ⟨w.heap.size + 1 + 1 + 1, 3, none⟩ = some (.int .i64 0) := q3.cell 3
  have x4 : w1.cell? ⟨w.heap.size + 1 + 1 + 1, 4, none⟩ = some (.int .i64 0) := q3.cell 4
  have x5 : w1.cell? ⟨w.heap.size + 1 + 1 + 1, 5, none⟩ = some (.int .i64 0) := q3.cell 5
  have x6 : w1.cell? ⟨w.heap.size + 1 + 1 + 1, 6, none⟩ = some (.int .i64 0) := q3.cell 6
  have x7 : w1.cell? ⟨w.heap.size + 1 + 1 + 1, 7, none⟩ = some (.int .i64 0) := q3.cell 7
  have x8 : w1.cell? ⟨w.heap.size + 1 + 1 + 1, 8, none⟩ = some (.bool false) := q3.cell 8
  have z0 : w1.cell? ⟨w.heap.size + 1 + 1, 0, none⟩ = some (.int .i64 0) := q2.cell 0
  have z1 : w1.cell? ⟨w.heap.size + 1 + 1, 1, none⟩ = some (.int .i64 0) := q2.cell 1
  have z2 : w1.cell? ⟨w.heap.size + 1 + 1, 2, none⟩ = some (.int .i64 0) := q2.cell 2
  have z3 : w1.cell? ⟨w.heap.size + 1 + 1, 3, none⟩ = some (.int .i64 0) := q2.cell 3
  have z4 : w1.cell? ⟨w.heap.size + 1 + 1, 4, none⟩ = some (.int .i64 0) := q2.cell 4
  have z5 : w1.cell? ⟨w.heap.size + 1 + 1, 5, none⟩ = some (.int .i64 0) := q2.cell 5
  have z6 : w1.cell? ⟨w.heap.size + 1 + 1, 6, none⟩ = some (.int .i64 0) := q2.cell 6
  have z7 : w1.cell? ⟨w.heap.size + 1 + 1, 7, none⟩ = some (.int .i64 0) := q2.cell 7
  have z8 : w1.cell? ⟨w.heap.size + 1 + 1, 8, none⟩ = some (.bool false) := q2.cell 8
  have f0 : w1.frozen? ⟨w.heap.size + 1 + 1, 0, none⟩ = false := q2.frozen 0
  have f1 : w1.frozen? ⟨w.heap.size + 1 + 1, 1, none⟩ = false := q2.frozen 1
  have f2 : w1.frozen? ⟨w.heap.size + 1 + 1, 2, none⟩ = false := q2.frozen 2
  have f3 : w1.frozen? ⟨w.heap.size + 1 + 1, 3, none⟩ = false := q2.frozen 3
  have f4 : w1.frozen? ⟨w.heap.size + 1 + 1, 4, none⟩ = false := q2.frozen 4
  have f5 : w1.frozen? ⟨w.heap.size + 1 + 1, 5, none⟩ = false := q2.frozen 5
  have f6 : w1.frozen? ⟨w.heap.size + 1 + 1, 6, none⟩ = false := q2.frozen 6
  have f7 : w1.frozen? ⟨w.heap.size + 1 + 1, 7, none⟩ = false := q2.frozen 7
  have f8 : w1.frozen? ⟨w.heap.size + 1 + 1, 8, none⟩ = false := q2.frozen 8
  have HF : Hid (Row (nineV w1 (w.heap.size + 1 + 1) zeroR) (w.heap.size + 1 + 1) 30 (rtL zeroR) ∧ Below w.heap.size w (nineV w1 (w.heap.size + 1 + 1) zeroR)) := ⟨nineV_row _ zeroR q2, nineV_below hB _ (by omega) _⟩
  clear q2 q3 hB
  go_wp2_with fail
  have hF := HF.out
  clear HF x0 z0 f0 x1 z1 f1 x2 z2 f2 x3 z3 f3 x4 z4 f4 x5 z5 f5 x6 z6 f6 x7 z7 f7 x8 z8 f8
  unfold nineV nine0 at hF
  simp only [zeroR] at hF
  generalize (((((((((w1.setCell ⟨w.heap.size + 1 + 1, 0, none⟩ (.int .i64 0)).setCell ⟨w.heap.size + 1 + 1, 1, none⟩ (.int .i64 0)).setCell ⟨w.heap.size + 1 + 1, 2, none⟩ (.int .i64 0)).setCell ⟨w.heap.size + 1 + 1, 3, none⟩ (.int .i64 0)).setCell ⟨w.heap.size + 1 + 1, 4, none⟩ (.int .i64 0)).setCell ⟨w.heap.size + 1 + 1, 5, none⟩ (.int .i64 0)).setCell ⟨w.heap.size + 1 + 1, 6, none⟩ (.int .i64 0)).setCell ⟨w.heap.size + 1 + 1, 7, none⟩ (.int .i64 0)).setCell ⟨w.heap.size + 1 + 1, 8, none⟩ (.bool false)) = Z at *
  obtain ⟨h1, h2⟩ := hF
  have e0 : Z.cell? ⟨w.heap.size + 1 + 1, 0, none⟩ = some (.int .i64 0) := h1.cell 0
  have e1 : Z.cell? ⟨w.heap.size + 1 + 1, 1, none⟩ = some (.int .i64 0) := h1.cell 1
  have e2 : Z.cell? ⟨w.heap.size + 1 + 1, 2, none⟩ = some (.int .i64 0) := h1.cell 2
  have e3 : Z.cell? ⟨w.heap.size + 1 + 1, 3, none⟩ = some (.int .i64 0) := h1.cell 3
  have e4 : Z.cell? ⟨w.heap.size + 1 + 1, 4, none⟩ = some (.int .i64 0) := h1.cell 4
  have e5 : Z.cell? ⟨w.heap.size + 1 + 1, 5, none⟩ = some (.int .i64 0) := h1.cell 5
  have e6 : Z.cell? ⟨w.heap.size + 1 + 1, 6, none⟩ = some (.int .i64 0) := h1.cell 6
  have e7 : Z.cell? ⟨w.heap.size + 1 + 1, 7, none⟩ = some (.int .i64 0) := h1.cell 7
  have e8 : Z.cell? ⟨w.heap.size + 1 + 1, 8, none⟩ = some (.bool false) := h1.cell 8
  refine bodyPost_ret (v := .agg #[.int .i64 0, .int .i64 0, .int .i64 0, .int .i64 0, .int .i64 0, .int .i64 0, .int .i64 0, .int .i64 0, .bool false]) (by simp [results, Try.results16, go_sem, e0, e1, e2, e3, e4, e5, e6, e7, e8]) rfl ⟨rfl, h2⟩
/-- RibBest: the last route of use that covers the address. -/
theorem implBest_any (p : Option Addr) (cap : Nat) (rs : List Rt) (x : Int) (w : World) (h : RtsIn w p rs) (h8 : rs.length ≤ 100000000) :
    Calls Try.prog 16 #[ribV p rs.length cap, .int .i64 x] w fun e w' => e = .returned (rtV (bestR rs x)) ∧ Below w.heap.size w w' := by
  unfold bestR
  cases hr : ribB rs
  · simpa using implBest_wrong p cap rs x w h h8 hr
  · simpa using implBest_right p cap rs x w h hr
end Go.Proofs.Ytkkhjeigndcmaab
