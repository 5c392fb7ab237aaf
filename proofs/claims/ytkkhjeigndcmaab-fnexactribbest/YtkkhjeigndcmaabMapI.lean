/- The table's own ways: put, find; a table laid out. (Written by gen_mapi.py.) -/
import Derived.Test.YtkkhjeigndcmaabMapN
import Derived.Test.YtkkhjeigndcmaabRts
import Derived.Carry
import Derived.Laws.EntriesVeiled
namespace Go.Proofs.Ytkkhjeigndcmaab
open Go.RowKit Go.Sort

/-- A table whose map lies in block B. -/
def tabV (B : Nat) : Value := .agg #[.map (some B), .func (.func 67) #[] #[]]
theorem grown_trans {a b c : World} {row : Option Nat} (h : a.grownBy b row) (k : b.grownBy c row) : a.grownBy c row :=
  ⟨k.os.trans h.os, k.tape.trans h.tape, k.output.trans h.output, Nat.le_trans h.size k.size, fun i hi hne => (k.block i (Nat.lt_of_lt_of_le hi h.size) hne).trans (h.block i hi hne)⟩
theorem rows3 (w : World) (x y z : List Value) (t1 t2 t3 : TypeId) : ∃ W, W = ((w.alloc (.cells x.toArray t1)).alloc (.cells y.toArray t2)).alloc (.cells z.toArray t3) ∧ Row W w.heap.size t1 x ∧ Row W (w.heap.size + 1) t2 y ∧ Row W (w.heap.size + 1 + 1) t3 z ∧ Below w.heap.size w W ∧ W.heap.size = w.heap.size + 1 + 1 + 1 ∧ ∀ row, w.grownBy W row := by
  have q0 := ((Row.new w t1 x).alloc (.cells y.toArray t2)).alloc (.cells z.toArray t3)
  have q1 := (Row.new (w.alloc (.cells x.toArray t1)) t2 y).alloc (.cells z.toArray t3)
  have q2 := Row.new ((w.alloc (.cells x.toArray t1)).alloc (.cells y.toArray t2)) t3 z
  have e1 : (w.alloc (.cells x.toArray t1)).heap.size = w.heap.size + 1 := by simp
  have e2 : ((w.alloc (.cells x.toArray t1)).alloc (.cells y.toArray t2)).heap.size = w.heap.size + 1 + 1 := by simp
  rw [e1] at q1
  rw [e2] at q2
  exact ⟨_, rfl, q0, q1, q2, ((ent_new0 w _).alloc (by simp) _).alloc (by simp; omega) _, by simp, fun row => grown_trans (grown_trans (World.grownBy_alloc w _ row) (World.grownBy_alloc _ _ row)) (World.grownBy_alloc _ _ row)⟩
set_option maxRecDepth 100000 in
theorem put_any (B : Nat) (rs : List Rt) (r : Rt) (w : World) (h : MapIs w B rs) :
    Calls Try.prog 61 #[tabV B, netV r.a r.l, rtV r] w fun e w' => e = .returned (.tuple #[]) ∧ MapIs w' B (putN rs r) ∧ w.grownBy w' (some B) := by
  have hlt := h.lt
  obtain ⟨a, l, m, n, i, t, u, b, c⟩ := r
  obtain ⟨W, hW, q0, q1, q2, hB, hS, hg0⟩ := rows3 w [.map (some B), .func (.func 67) #[] #[]] [.int .i64 a, .int .i64 l] [.int .i64 a, .int .i64 l, .int .i64 m, .int .i64 n, .int .i64 i, .int .i64 t, .int .i64 u, .int .i64 b, .bool c] 63 28 30
  obtain ⟨w2, hrun, hm2, hg2⟩ := map_put (h.below hB hlt) ⟨a, l, m, n, i, t, u, b, c⟩
  have HH : Hid (MapIs w2 B (putN rs ⟨a, l, m, n, i, t, u, b, c⟩) ∧ w.grownBy w2 (some B)) := ⟨hm2, grown_trans (hg0 _) hg2⟩
  clear hm2 hg2 h hB hg0
  unfold tabV netV rtV rtA
  unfold netV rtV rtA at hrun
  simp only at hrun
  rw [hW] at hrun
  have c0 : W.cell? ⟨w.heap.size, 0, none⟩ = some (.map (some B)) := q0.cell 0
  have c1 : W.cell? ⟨w.heap.size, 1, none⟩ = some (.func (.func 67) #[] #[]) := q0.cell 1
  have d0 : W.cell? ⟨w.heap.size + 1, 0, none⟩ = some (.int .i64 a) := q1.cell 0
  have d1 : W.cell? ⟨w.heap.size + 1, 1, none⟩ = some (.int .i64 l) := q1.cell 1
  have e0 : W.cell? ⟨w.heap.size + 1 + 1, 0, none⟩ = some (.int .i64 a) := q2.cell 0
  have e1 : W.cell? ⟨w.heap.size + 1 + 1, 1, none⟩ = some (.int .i64 l) := q2.cell 1
  have e2 : W.cell? ⟨w.heap.size + 1 + 1, 2, none⟩ = some (.int .i64 m) := q2.cell 2
  have e3 : W.cell? ⟨w.heap.size + 1 + 1, 3, none⟩ = some (.int .i64 n) := q2.cell 3
  have e4 : W.cell? ⟨w.heap.size + 1 + 1, 4, none⟩ = some (.int .i64 i) := q2.cell 4
  have e5 : W.cell? ⟨w.heap.size + 1 + 1, 5, none⟩ = some (.int .i64 t) := q2.cell 5
  have e6 : W.cell? ⟨w.heap.size + 1 + 1, 6, none⟩ = some (.int .i64 u) := q2.cell 6
  have e7 : W.cell? ⟨w.heap.size + 1 + 1, 7, none⟩ = some (.int .i64 b) := q2.cell 7
  have e8 : W.cell? ⟨w.heap.size + 1 + 1, 8, none⟩ = some (.bool c) := q2.cell 8
  have HW : Hid _ := hW
  clear hW q0 q1 q2
  go_enter Try.func61, Try.ntmps61
  go_wp2
  refine bodyPost_end (v := .tuple #[]) (by simp [results, Try.results61, go_sem]) rfl ⟨rfl, HH.out.1, HH.out.2⟩
/-- What is put one behind the other. -/
def laidN (rs : List Rt) : List Rt := rs.foldl putN []
theorem laidN_next (rs : List Rt) (k : Nat) (h : k < rs.length) : laidN (rs.take (k + 1)) = putN (laidN (rs.take k)) rs[k] := by
  unfold laidN
  rw [List.take_succ_eq_append_getElem h, List.foldl_append]
  rfl
/-- The state of laidOut's loop. -/
def LaySt (p : Option Addr) (cap : Nat) (rs : List Rt) (w : World) (k : Nat) (wr : World) : Prop :=
  Row wr w.heap.size 34 [.slice p rs.length cap] ∧ Row wr (w.heap.size + 1) 63 [.map none, .nilFunc] ∧ MapIs wr (w.heap.size + 1 + 1) (laidN (rs.take k)) ∧ Row wr (w.heap.size + 1 + 1 + 1) 63 [.map (some (w.heap.size + 1 + 1)), .func (.func 67) #[] #[]] ∧ Below w.heap.size w wr ∧ w.heap.size + 1 + 1 + 1 < wr.heap.size
theorem Row.grown {w w' : World} {g : Nat} {t : TypeId} {l : List Value} {b : Nat} (h : Row w g t l) (hg : w.grownBy w' (some b)) (hne : g ≠ b) : Row w' g t l := (hg.block g h.lt (by simpa using hne)).trans h
theorem laySt_next {p : Option Addr} {cap : Nat} {rs : List Rt} {w : World} {k : Nat} {wr w1 : World} (h : LaySt p cap rs w k wr) (hlt : k < rs.length) (o : Obj) (hg : (wr.alloc o).grownBy w1 (some (w.heap.size + 1 + 1))) (hm : MapIs w1 (w.heap.size + 1 + 1) (putN (laidN (rs.take k)) rs[k])) : LaySt p cap rs w (k + 1) w1 := by
  obtain ⟨r1, r2, r3, r4, hB, hsz⟩ := h
  refine ⟨(r1.alloc o).grown hg (by omega), (r2.alloc o).grown hg (by omega), by rw [laidN_next rs k hlt]; exact hm, (r4.alloc o).grown hg (by omega), ?_, ?_⟩
  · exact (hB.alloc hB.size o).grown hg (by have := hB.size; simp; omega) (fun j hj => by cases hj; omega)
  · have := hg.size; simp at this; omega
theorem MapIs.set {w : World} {b : Nat} {rs : List Rt} (h : MapIs w b rs) (p : Addr) (hne : p.block ≠ b) (v : Value) : MapIs (w.setCell p v) b rs := h.kept (by unfold World.setCell; rw [Array.getElem?_modify, if_neg hne])
theorem laySt_first (p : Option Addr) (cap : Nat) (rs : List Rt) (w : World) : LaySt p cap rs w 0 ((((w.alloc (.cells #[.slice p rs.length cap] 34)).alloc (.cells #[.map none, .nilFunc] 63)).alloc (.map #[] 0)).alloc (.cells #[.map (some (w.heap.size + 1 + 1)), .func (.func 67) #[] #[]] 63)) := by
  have e1 : (w.alloc (.cells #[.slice p rs.length cap] 34)).heap.size = w.heap.size + 1 := by simp
  have e2 : ((w.alloc (.cells #[.slice p rs.length cap] 34)).alloc (.cells #[.map none, .nilFunc] 63)).heap.size = w.heap.size + 1 + 1 := by simp
  have e3 : (((w.alloc (.cells #[.slice p rs.length cap] 34)).alloc (.cells #[.map none, .nilFunc] 63)).alloc (.map #[] 0)).heap.size = w.heap.size + 1 + 1 + 1 := by simp
  have q1 := (((Row.new w 34 [.slice p rs.length cap]).alloc (.cells #[.map none, .nilFunc] 63)).alloc (.map #[] 0)).alloc (.cells #[.map (some (w.heap.size + 1 + 1)), .func (.func 67) #[] #[]] 63)
  have q2 := ((Row.new (w.alloc (.cells #[.slice p rs.length cap] 34)) 63 [.map none, .nilFunc]).alloc (.map #[] 0)).alloc (.cells #[.map (some (w.heap.size + 1 + 1)), .func (.func 67) #[] #[]] 63)
  have q3 := MapIs.made ((w.alloc (.cells #[.slice p rs.length cap] 34)).alloc (.cells #[.map none, .nilFunc] 63))
  have q4 := Row.new (((w.alloc (.cells #[.slice p rs.length cap] 34)).alloc (.cells #[.map none, .nilFunc] 63)).alloc (.map #[] 0)) 63 [.map (some (w.heap.size + 1 + 1)), .func (.func 67) #[] #[]]
  rw [e1] at q2
  rw [e2] at q3
  rw [e3] at q4
  refine ⟨q1, q2, q3.below (ent_new0 _ _) (by rw [e3]; omega), q4, (((ent_new0 w _).alloc (by simp) _).alloc (by simp; omega) _).alloc (by simp; omega) _, by simp⟩
set_option maxRecDepth 100000 in
set_option maxHeartbeats 1000000 in
theorem laidOut_any (p : Option Addr) (cap : Nat) (rs : List Rt) (w : World) (h : RtsIn w p rs) (hn : rs.length ≤ 100000000) :
    Calls Try.prog 33 #[ribV p rs.length cap] w fun e w' => ∃ B, e = .returned (tabV B) ∧ w.heap.size ≤ B ∧ MapIs w' B (laidN rs) ∧ Below w.heap.size w w' := by
  have HP : Hid (∀ (B : Nat) (rs : List Rt) (r : Rt) (w : World), MapIs w B rs → Calls Try.prog 61 #[tabV B, netV r.a r.l, rtV r] w fun e w' => e = .returned (.tuple #[]) ∧ MapIs w' B (putN rs r) ∧ w.grownBy w' (some B)) := put_any
  have HX : Hid (RtsIn w p rs) := h
  clear h
  unfold ribV
  have hmm := @run_makeMap Try.prog
  go_enter Try.func33, Try.ntmps33
  go_wp2_with fail
  go_loopw [11] (fun i wr => ∃ k : Nat, k ≤ rs.length ∧ i = .int .i64 k ∧ LaySt p cap rs w k wr) (fun i _ => rs.length - (intOf i).toNat)
  case atStart =>
    refine ⟨0, Nat.zero_le _, rfl, ?_⟩
    exact laySt_first p cap rs w
  case round =>
    obtain ⟨k, hk, rfl, hst⟩ := hrel
    obtain ⟨r1, r2, r3, r4, hB, hsz⟩ := hst
    have x0 : wr.cell? ⟨w.heap.size + 1 + 1 + 1, 0, none⟩ = some (.map (some (w.heap.size + 1 + 1))) := r4.cell 0
    have x1 : wr.cell? ⟨w.heap.size + 1 + 1 + 1, 1, none⟩ = some (.func (.func 67) #[] #[]) := r4.cell 1
    by_cases hlt : k < rs.length
    · have d1 : decide ((k : Int) < (rs.length : Int)) = true := by simpa using hlt
      obtain ⟨g, a, l, m, n, ii, t, u, b, c, rfl, hg, hek, c0, c1, c2, c3, c4, c5, c6, c7, c8⟩ := (HX.out.below hB).at k hlt
      have HPk : Hid (∀ v, MapIs v (w.heap.size + 1 + 1) (laidN (rs.take k)) → Calls Try.prog 61 #[tabV (w.heap.size + 1 + 1), .agg #[.int .i64 a, .int .i64 l], .agg #[.int .i64 a, .int .i64 l, .int .i64 m, .int .i64 n, .int .i64 ii, .int .i64 t, .int .i64 u, .int .i64 b, .bool c]] v fun e w' => e = .returned (.tuple #[]) ∧ MapIs w' (w.heap.size + 1 + 1) (putN (laidN (rs.take k)) ⟨a, l, m, n, ii, t, u, b, c⟩) ∧ v.grownBy w' (some (w.heap.size + 1 + 1))) := fun v h => HP.out _ _ ⟨a, l, m, n, ii, t, u, b, c⟩ v h
      have hm1 : MapIs (wr.alloc (.cells #[.int .i64 a, .int .i64 l, .int .i64 m, .int .i64 n, .int .i64 ii, .int .i64 t, .int .i64 u, .int .i64 b, .bool c] 30)) (w.heap.size + 1 + 1) (laidN (rs.take k)) := r3.below (ent_new0 wr _) (by omega)
      have HS : Hid (LaySt (some ⟨g, 0, none⟩) cap rs w k wr) := ⟨r1, r2, r3, r4, hB, hsz⟩
      have hb3 : w.heap.size + 1 + 1 + 1 < wr.heap.size := hsz
      have HEK : Hid _ := hek
      clear HP hek r1 r2 r3 r4 hB hsz HX
      unfold tabV at HPk
      go_wp2_with fail
      refine (HPk.out _ hm1).mono ?_
      rintro e w1 ⟨rfl, hm2, hg2⟩
      have hN := laySt_next HS.out hlt _ hg2 (by rw [HEK.out]; exact hm2)
      have HN : Hid _ := hN
      clear hN hm2 hg2 hm1 HS HEK HPk c0 c1 c2 c3 c4 c5 c6 c7 c8 x0 x1
      go_wp2_with fail
      go_roundw
      case rel => exact ⟨k + 1, hlt, by go_num, HN.out⟩
      case measure => simp [intOf]; omega
    · obtain rfl : k = rs.length := by omega
      have d1 : decide ((rs.length : Int) < (rs.length : Int)) = false := by simp
      rw [List.take_length] at r3
      clear hlt hk HP HX
      have y0 : wr.cell? ⟨w.heap.size + 1, 0, none⟩ = some (.map none) := r2.cell 0
      have y1 : wr.cell? ⟨w.heap.size + 1, 1, none⟩ = some .nilFunc := r2.cell 1
      have f0 : wr.frozen? ⟨w.heap.size + 1, 0, none⟩ = false := r2.frozen 0
      have f1 : wr.frozen? ⟨w.heap.size + 1, 1, none⟩ = false := r2.frozen 1
      have hrow := (r2.set 0 (.map (some (w.heap.size + 1 + 1)))).set 1 (.func (.func 67) #[] #[])
      have hmap : MapIs ((wr.setCell ⟨w.heap.size + 1, 0, none⟩ (.map (some (w.heap.size + 1 + 1)))).setCell ⟨w.heap.size + 1, 1, none⟩ (.func (.func 67) #[] #[])) (w.heap.size + 1 + 1) (laidN rs) := (r3.set ⟨w.heap.size + 1, 0, none⟩ (by show w.heap.size + 1 ≠ w.heap.size + 1 + 1; omega) _).set ⟨w.heap.size + 1, 1, none⟩ (by show w.heap.size + 1 ≠ w.heap.size + 1 + 1; omega) _
      have hbel := (hB.setCell (p := ⟨w.heap.size + 1, 0, none⟩) (by show w.heap.size ≤ w.heap.size + 1; omega) (.map (some (w.heap.size + 1 + 1)))).setCell (p := ⟨w.heap.size + 1, 1, none⟩) (by show w.heap.size ≤ w.heap.size + 1; omega) (.func (.func 67) #[] #[])
      have HH : Hid _ := And.intro hrow (And.intro hmap hbel)
      clear hrow hmap hbel r1 r2 r3 r4 hB hsz
      go_wp2_with fail
      have HH2 := HH.out
      clear HH x0 x1 y0 y1 f0 f1
      generalize ((wr.setCell ⟨w.heap.size + 1, 0, none⟩ (.map (some (w.heap.size + 1 + 1)))).setCell ⟨w.heap.size + 1, 1, none⟩ (.func (.func 67) #[] #[])) = Z at *
      obtain ⟨h1, h2, h3⟩ := HH2
      have z0 : Z.cell? ⟨w.heap.size + 1, 0, none⟩ = some (.map (some (w.heap.size + 1 + 1))) := h1.cell 0
      have z1 : Z.cell? ⟨w.heap.size + 1, 1, none⟩ = some (.func (.func 67) #[] #[]) := h1.cell 1
      refine bodyPost_ret (v := .agg #[.map (some (w.heap.size + 1 + 1)), .func (.func 67) #[] #[]]) (by simp [results, Try.results33, go_sem, z0, z1]) rfl ⟨w.heap.size + 1 + 1, rfl, by omega, h2, h3⟩
theorem find_row (w : World) (x y z v : List Value) (t1 t2 t3 t4 : TypeId) : ∃ W, W = (((w.alloc (.cells x.toArray t1)).alloc (.cells y.toArray t2)).alloc (.cells z.toArray t3)).alloc (.cells v.toArray t4) ∧ Row W (w.heap.size + 1 + 1) t3 z ∧ Below w.heap.size w W := by
  obtain ⟨W, rfl, -, -, q2, hB, hS, -⟩ := rows3 w x y z t1 t2 t3
  exact ⟨_, rfl, q2.alloc _, hB.alloc hB.size _⟩
set_option maxRecDepth 100000 in
set_option maxHeartbeats 1000000 in
theorem find_any (B : Nat) (rs : List Rt) (a l : Int) (w : World) (h : MapIs w B rs) :
    Calls Try.prog 34 #[tabV B, netV a l] w fun e w' => e = .returned (.tuple #[rtV ((lookN rs a l).getD zeroR), .bool (lookN rs a l).isSome]) ∧ Below w.heap.size w w' := by
  have hlt := h.lt
  obtain ⟨W, hW, q0, q1, q2, hB, hS, -⟩ := rows3 w [.map (some B), .func (.func 67) #[] #[]] [.int .i64 a, .int .i64 l] [.int .i64 0, .int .i64 0, .int .i64 0, .int .i64 0, .int .i64 0, .int .i64 0, .int .i64 0, .int .i64 0, .bool false] 63 28 30
  have hrun := map_look (h.below hB hlt) a l
  rw [hW] at hrun
  clear h hW q0 q1 q2 hB hS
  generalize (lookN rs a l).isSome = S at *
  generalize (lookN rs a l).getD zeroR = V at *
  obtain ⟨A, L, M, N, I, T, U, E, C⟩ := V
  unfold tabV netV rtV rtA
  unfold netV rtV rtA at hrun
  simp only at hrun ⊢
  obtain ⟨Z, hZ, q3, hbZ⟩ := find_row w [.map (some B), .func (.func 67) #[] #[]] [.int .i64 a, .int .i64 l] [.int .i64 A, .int .i64 L, .int .i64 M, .int .i64 N, .int .i64 I, .int .i64 T, .int .i64 U, .int .i64 E, .bool C] [.int .i64 A, .int .i64 L, .int .i64 M, .int .i64 N, .int .i64 I, .int .i64 T, .int .i64 U, .int .i64 E, .bool C] 63 28 30 30
  have HZ : Hid _ := And.intro hZ (And.intro q3 hbZ)
  clear hZ q3 hbZ
  go_enter Try.func34, Try.ntmps34
  go_wp2_with fail
  obtain ⟨hZ, q3, hbZ⟩ := HZ.out
  rw [show (((w.alloc (.cells #[.map (some B), .func (.func 67) #[] #[]] 63)).alloc (.cells #[.int .i64 a, .int .i64 l] 28)).alloc (.cells #[.int .i64 A, .int .i64 L, .int .i64 M, .int .i64 N, .int .i64 I, .int .i64 T, .int .i64 U, .int .i64 E, .bool C] 30)).alloc (.cells #[.int .i64 A, .int .i64 L, .int .i64 M, .int .i64 N, .int .i64 I, .int .i64 T, .int .i64 U, .int .i64 E, .bool C] 30) = Z from hZ.symm]
  have e0 : Z.cell? ⟨w.heap.size + 1 + 1, 0, none⟩ = some (.int .i64 A) := q3.cell 0
  have e1 : Z.cell? ⟨w.heap.size + 1 + 1, 1, none⟩ = some (.int .i64 L) := q3.cell 1
  have e2 : Z.cell? ⟨w.heap.size + 1 + 1, 2, none⟩ = some (.int .i64 M) := q3.cell 2
  have e3 : Z.cell? ⟨w.heap.size + 1 + 1, 3, none⟩ = some (.int .i64 N) := q3.cell 3
  have e4 : Z.cell? ⟨w.heap.size + 1 + 1, 4, none⟩ = some (.int .i64 I) := q3.cell 4
  have e5 : Z.cell? ⟨w.heap.size + 1 + 1, 5, none⟩ = some (.int .i64 T) := q3.cell 5
  have e6 : Z.cell? ⟨w.heap.size + 1 + 1, 6, none⟩ = some (.int .i64 U) := q3.cell 6
  have e7 : Z.cell? ⟨w.heap.size + 1 + 1, 7, none⟩ = some (.int .i64 E) := q3.cell 7
  have e8 : Z.cell? ⟨w.heap.size + 1 + 1, 8, none⟩ = some (.bool C) := q3.cell 8
  refine bodyPost_ret (v := .tuple #[.agg #[.int .i64 A, .int .i64 L, .int .i64 M, .int .i64 N, .int .i64 I, .int .i64 T, .int .i64 U, .int .i64 E, .bool C], .bool S]) (by simp [results, Try.results34, go_sem, e0, e1, e2, e3, e4, e5, e6, e7, e8]) rfl ⟨rfl, hbZ⟩
end Go.Proofs.Ytkkhjeigndcmaab
