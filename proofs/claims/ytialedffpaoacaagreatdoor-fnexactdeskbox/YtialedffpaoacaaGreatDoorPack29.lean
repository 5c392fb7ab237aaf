/- Texts that stand on each other, in one file: MapI, RibM, InsR, AtS, IllS. -/
import Derived.Test.YtialedffpaoacaaGreatDoorPack16
import Derived.Test.YtialedffpaoacaaGreatDoorPack21
import Derived.Carry
import Derived.Laws.EntriesVeiled
/- The table's own ways: put, find; a table laid out. (Written by gen_mapi.py.) -/
namespace Go.Proofs.YtialedffpaoacaaGreatDoor
open Go.RowKit Go.Sort

/-- A table whose map lies in block B. -/
def tabV (B : Nat) : Value := .agg #[.map (some B), .func (.func 217) #[] #[]]
theorem grown_trans {a b c : World} {row : Option Nat} (h : a.grownBy b row) (k : b.grownBy c row) : a.grownBy c row :=
  ⟨k.os.trans h.os, k.tape.trans h.tape, k.output.trans h.output, Nat.le_trans h.size k.size, fun i hi hne => (k.block i (Nat.lt_of_lt_of_le hi h.size) hne).trans (h.block i hi hne)⟩
theorem rows3 (w : World) (x y z : List Value) (t1 t2 t3 : TypeId) : ∃ W, W = ((w.alloc (.cells x.toArray t1)).alloc (.cells y.toArray t2)).alloc (.cells z.toArray t3) ∧ Row W w.heap.size t1 x ∧ Row W (w.heap.size + 1) t2 y ∧ Row W (w.heap.size + 1 + 1) t3 z ∧ Below w.heap.size w W ∧ W.heap.size = w.heap.size + 1 + 1 + 1 ∧ ∀ row, w.grownBy W row := by
  have q0 := ((Row.new w t1 x).alloc (.cells y.toArray t2)).alloc (.cells z.toArray t3)
  have q1 := (Row.new (w.alloc (.cells x.toArray t1)) t2 y).alloc (.cells z.toArray t3)
  have q2 := Row.new ((w.alloc (.cells x.toArray t1)).alloc (.cells y.toArray t2)) t3 z
  have e1 : (w.alloc (.cells x.toArray t1)).heap.size = w.heap.size + 1 := by simp
  have e2 : ((w.alloc (.cells x.toArray t1)).alloc (.cells y.toArray t2)).heap.size = w.heap.size + 1 + 1 := by simp
  rw [e1] at q1
  rw [e2] at q2
  exact ⟨_, rfl, q0, q1, q2, ((ent_new0 w _).alloc (by simp) _).alloc (by simp; omega) _, by simp, fun row => grown_trans (grown_trans (World.grownBy_alloc w _ row) (World.grownBy_alloc _ _ row)) (World.grownBy_alloc _ _ row)⟩
set_option maxRecDepth 100000 in
theorem put_any (B : Nat) (rs : List Rt) (r : Rt) (w : World) (h : MapIs w B rs) :
    Calls Tryz.prog 215 #[tabV B, netV r.a r.l, rtV r] w fun e w' => e = .returned (.tuple #[]) ∧ MapIs w' B (putN rs r) ∧ w.grownBy w' (some B) := by
  have hlt := h.lt
  obtain ⟨a, l, m, n, i, t, u, b, c⟩ := r
  obtain ⟨W, hW, q0, q1, q2, hB, hS, hg0⟩ := rows3 w [.map (some B), .func (.func 217) #[] #[]] [.int .i64 a, .int .i64 l] [.int .i64 a, .int .i64 l, .int .i64 m, .int .i64 n, .int .i64 i, .int .i64 t, .int .i64 u, .int .i64 b, .bool c] 253 70 144
  obtain ⟨w2, hrun, hm2, hg2⟩ := map_put (h.below hB hlt) ⟨a, l, m, n, i, t, u, b, c⟩
  have HH : Hid (MapIs w2 B (putN rs ⟨a, l, m, n, i, t, u, b, c⟩) ∧ w.grownBy w2 (some B)) := ⟨hm2, grown_trans (hg0 _) hg2⟩
  clear hm2 hg2 h hB hg0
  unfold tabV netV rtV rtA
  unfold netV rtV rtA at hrun
  simp only at hrun
  rw [hW] at hrun
  have c0 : W.cell? ⟨w.heap.size, 0, none⟩ = some (.map (some B)) := q0.cell 0
  have c1 : W.cell? ⟨w.heap.size, 1, none⟩ = some (.func (.func 217) #[] #[]) := q0.cell 1
  have d0 : W.cell? ⟨w.heap.size + 1, 0, none⟩ = some (.int .i64 a) := q1.cell 0
  have d1 : W.cell? ⟨w.heap.size + 1, 1, none⟩ = some (.int .i64 l) := q1.cell 1
  have e0 : W.cell? ⟨w.heap.size + 1 + 1, 0, none⟩ = some (.int .i64 a) := q2.cell 0
  have e1 : W.cell? ⟨w.heap.size + 1 + 1, 1, none⟩ = some (.int .i64 l) := q2.cell 1
  have e2 : W.cell? ⟨w.heap.size + 1 + 1, 2, none⟩ = some (.int .i64 m) := q2.cell 2
  have e3 : W.cell? ⟨w.heap.size + 1 + 1, 3, none⟩ = some (.int .i64 n) := q2.cell 3
  have e4 : W.cell? ⟨w.heap.size + 1 + 1, 4, none⟩ = some (.int .i64 i) := q2.cell 4
  have e5 : W.cell? ⟨w.heap.size + 1 + 1, 5, none⟩ = some (.int .i64 t) := q2.cell 5
  have e6 : W.cell? ⟨w.heap.size + 1 + 1, 6, none⟩ = some (.int .i64 u) := q2.cell 6
  have e7 : W.cell? ⟨w.heap.size + 1 + 1, 7, none⟩ = some (.int .i64 b) := q2.cell 7
  have e8 : W.cell? ⟨w.heap.size + 1 + 1, 8, none⟩ = some (.bool c) := q2.cell 8
  have HW : Hid _ := hW
  clear hW q0 q1 q2
  go_enter Tryz.func215, Tryz.ntmps215
  go_wp2
  refine bodyPost_end (v := .tuple #[]) (by simp [results, Tryz.results215, go_sem]) rfl ⟨rfl, HH.out.1, HH.out.2⟩
/-- What is put one behind the other. -/
def laidN (rs : List Rt) : List Rt := rs.foldl putN []
theorem laidN_next (rs : List Rt) (k : Nat) (h : k < rs.length) : laidN (rs.take (k + 1)) = putN (laidN (rs.take k)) rs[k] := by
  unfold laidN
  rw [List.take_succ_eq_append_getElem h, List.foldl_append]
  rfl
/-- The state of laidOut's loop. -/
def LaySt (p : Option Addr) (cap : Nat) (rs : List Rt) (w : World) (k : Nat) (wr : World) : Prop :=
  Row wr w.heap.size 49 [.slice p rs.length cap] ∧ Row wr (w.heap.size + 1) 253 [.map none, .nilFunc] ∧ MapIs wr (w.heap.size + 1 + 1) (laidN (rs.take k)) ∧ Row wr (w.heap.size + 1 + 1 + 1) 253 [.map (some (w.heap.size + 1 + 1)), .func (.func 217) #[] #[]] ∧ Below w.heap.size w wr ∧ w.heap.size + 1 + 1 + 1 < wr.heap.size
theorem Row.grown {w w' : World} {g : Nat} {t : TypeId} {l : List Value} {b : Nat} (h : Row w g t l) (hg : w.grownBy w' (some b)) (hne : g ≠ b) : Row w' g t l := (hg.block g h.lt (by simpa using hne)).trans h
theorem laySt_next {p : Option Addr} {cap : Nat} {rs : List Rt} {w : World} {k : Nat} {wr w1 : World} (h : LaySt p cap rs w k wr) (hlt : k < rs.length) (o : Obj) (hg : (wr.alloc o).grownBy w1 (some (w.heap.size + 1 + 1))) (hm : MapIs w1 (w.heap.size + 1 + 1) (putN (laidN (rs.take k)) rs[k])) : LaySt p cap rs w (k + 1) w1 := by
  obtain ⟨r1, r2, r3, r4, hB, hsz⟩ := h
  refine ⟨(r1.alloc o).grown hg (by omega), (r2.alloc o).grown hg (by omega), by rw [laidN_next rs k hlt]; exact hm, (r4.alloc o).grown hg (by omega), ?_, ?_⟩
  · exact (hB.alloc hB.size o).grown hg (by have := hB.size; simp; omega) (fun j hj => by cases hj; omega)
  · have := hg.size; simp at this; omega
theorem MapIs.set {w : World} {b : Nat} {rs : List Rt} (h : MapIs w b rs) (p : Addr) (hne : p.block ≠ b) (v : Value) : MapIs (w.setCell p v) b rs := h.kept (by unfold World.setCell; rw [Array.getElem?_modify, if_neg hne])
theorem laySt_first (p : Option Addr) (cap : Nat) (rs : List Rt) (w : World) : LaySt p cap rs w 0 ((((w.alloc (.cells #[.slice p rs.length cap] 49)).alloc (.cells #[.map none, .nilFunc] 253)).alloc (.map #[] 0)).alloc (.cells #[.map (some (w.heap.size + 1 + 1)), .func (.func 217) #[] #[]] 253)) := by
  have e1 : (w.alloc (.cells #[.slice p rs.length cap] 49)).heap.size = w.heap.size + 1 := by simp
  have e2 : ((w.alloc (.cells #[.slice p rs.length cap] 49)).alloc (.cells #[.map none, .nilFunc] 253)).heap.size = w.heap.size + 1 + 1 := by simp
  have e3 : (((w.alloc (.cells #[.slice p rs.length cap] 49)).alloc (.cells #[.map none, .nilFunc] 253)).alloc (.map #[] 0)).heap.size = w.heap.size + 1 + 1 + 1 := by simp
  have q1 := (((Row.new w 49 [.slice p rs.length cap]).alloc (.cells #[.map none, .nilFunc] 253)).alloc (.map #[] 0)).alloc (.cells #[.map (some (w.heap.size + 1 + 1)), .func (.func 217) #[] #[]] 253)
  have q2 := ((Row.new (w.alloc (.cells #[.slice p rs.length cap] 49)) 253 [.map none, .nilFunc]).alloc (.map #[] 0)).alloc (.cells #[.map (some (w.heap.size + 1 + 1)), .func (.func 217) #[] #[]] 253)
  have q3 := MapIs.made ((w.alloc (.cells #[.slice p rs.length cap] 49)).alloc (.cells #[.map none, .nilFunc] 253))
  have q4 := Row.new (((w.alloc (.cells #[.slice p rs.length cap] 49)).alloc (.cells #[.map none, .nilFunc] 253)).alloc (.map #[] 0)) 253 [.map (some (w.heap.size + 1 + 1)), .func (.func 217) #[] #[]]
  rw [e1] at q2
  rw [e2] at q3
  rw [e3] at q4
  refine ⟨q1, q2, q3.below (ent_new0 _ _) (by rw [e3]; omega), q4, (((ent_new0 w _).alloc (by simp) _).alloc (by simp; omega) _).alloc (by simp; omega) _, by simp⟩
set_option maxRecDepth 100000 in
set_option maxHeartbeats 1000000 in
theorem laidOut_any (p : Option Addr) (cap : Nat) (rs : List Rt) (w : World) (h : RtsIn w p rs) (hn : rs.length ≤ 100000000) :
    Calls Tryz.prog 207 #[ribV p rs.length cap] w fun e w' => ∃ B, e = .returned (tabV B) ∧ w.heap.size ≤ B ∧ MapIs w' B (laidN rs) ∧ Below w.heap.size w w' := by
  have HP : Hid (∀ (B : Nat) (rs : List Rt) (r : Rt) (w : World), MapIs w B rs → Calls Tryz.prog 215 #[tabV B, netV r.a r.l, rtV r] w fun e w' => e = .returned (.tuple #[]) ∧ MapIs w' B (putN rs r) ∧ w.grownBy w' (some B)) := put_any
  have HX : Hid (RtsIn w p rs) := h
  clear h
  unfold ribV
  have hmm := @run_makeMap Tryz.prog
  go_enter Tryz.func207, Tryz.ntmps207
  go_wp2_with fail
  go_loopw [11] (fun i wr => ∃ k : Nat, k ≤ rs.length ∧ i = .int .i64 k ∧ LaySt p cap rs w k wr) (fun i _ => rs.length - (intOf i).toNat)
  case atStart =>
    refine ⟨0, Nat.zero_le _, rfl, ?_⟩
    exact laySt_first p cap rs w
  case round =>
    obtain ⟨k, hk, rfl, hst⟩ := hrel
    obtain ⟨r1, r2, r3, r4, hB, hsz⟩ := hst
    have x0 : wr.cell? ⟨w.heap.size + 1 + 1 + 1, 0, none⟩ = some (.map (some (w.heap.size + 1 + 1))) := r4.cell 0
    have x1 : wr.cell? ⟨w.heap.size + 1 + 1 + 1, 1, none⟩ = some (.func (.func 217) #[] #[]) := r4.cell 1
    by_cases hlt : k < rs.length
    · have d1 : decide ((k : Int) < (rs.length : Int)) = true := by simpa using hlt
      obtain ⟨g, a, l, m, n, ii, t, u, b, c, rfl, hg, hek, c0, c1, c2, c3, c4, c5, c6, c7, c8⟩ := (HX.out.below hB).at k hlt
      have HPk : Hid (∀ v, MapIs v (w.heap.size + 1 + 1) (laidN (rs.take k)) → Calls Tryz.prog 215 #[tabV (w.heap.size + 1 + 1), .agg #[.int .i64 a, .int .i64 l], .agg #[.int .i64 a, .int .i64 l, .int .i64 m, .int .i64 n, .int .i64 ii, .int .i64 t, .int .i64 u, .int .i64 b, .bool c]] v fun e w' => e = .returned (.tuple #[]) ∧ MapIs w' (w.heap.size + 1 + 1) (putN (laidN (rs.take k)) ⟨a, l, m, n, ii, t, u, b, c⟩) ∧ v.grownBy w' (some (w.heap.size + 1 + 1))) := fun v h => HP.out _ _ ⟨a, l, m, n, ii, t, u, b, c⟩ v h
      have hm1 : MapIs (wr.alloc (.cells #[.int .i64 a, .int .i64 l, .int .i64 m, .int .i64 n, .int .i64 ii, .int .i64 t, .int .i64 u, .int .i64 b, .bool c] 144)) (w.heap.size + 1 + 1) (laidN (rs.take k)) := r3.below (ent_new0 wr _) (by omega)
      have HS : Hid (LaySt (some ⟨g, 0, none⟩) cap rs w k wr) := ⟨r1, r2, r3, r4, hB, hsz⟩
      have hb3 : w.heap.size + 1 + 1 + 1 < wr.heap.size := hsz
      have HEK : Hid _ := hek
      clear HP hek r1 r2 r3 r4 hB hsz HX
      unfold tabV at HPk
      go_wp2_with fail
      refine (HPk.out _ hm1).mono ?_
      rintro e w1 ⟨rfl, hm2, hg2⟩
      have hN := laySt_next HS.out hlt _ hg2 (by rw [HEK.out]; exact hm2)
      have HN : Hid _ := hN
      clear hN hm2 hg2 hm1 HS HEK HPk c0 c1 c2 c3 c4 c5 c6 c7 c8 x0 x1
      go_wp2_with fail
      go_roundw
      case rel => exact ⟨k + 1, hlt, by go_num, HN.out⟩
      case measure => simp [intOf]; omega
    · obtain rfl : k = rs.length := by omega
      have d1 : decide ((rs.length : Int) < (rs.length : Int)) = false := by simp
      rw [List.take_length] at r3
      clear hlt hk HP HX
      have y0 : wr.cell? ⟨w.heap.size + 1, 0, none⟩ = some (.map none) := r2.cell 0
      have y1 : wr.cell? ⟨w.heap.size + 1, 1, none⟩ = some .nilFunc := r2.cell 1
      have f0 : wr.frozen? ⟨w.heap.size + 1, 0, none⟩ = false := r2.frozen 0
      have f1 : wr.frozen? ⟨w.heap.size + 1, 1, none⟩ = false := r2.frozen 1
      have hrow := (r2.set 0 (.map (some (w.heap.size + 1 + 1)))).set 1 (.func (.func 217) #[] #[])
      have hmap : MapIs ((wr.setCell ⟨w.heap.size + 1, 0, none⟩ (.map (some (w.heap.size + 1 + 1)))).setCell ⟨w.heap.size + 1, 1, none⟩ (.func (.func 217) #[] #[])) (w.heap.size + 1 + 1) (laidN rs) := (r3.set ⟨w.heap.size + 1, 0, none⟩ (by show w.heap.size + 1 ≠ w.heap.size + 1 + 1; omega) _).set ⟨w.heap.size + 1, 1, none⟩ (by show w.heap.size + 1 ≠ w.heap.size + 1 + 1; omega) _
      have hbel := (hB.setCell (p := ⟨w.heap.size + 1, 0, none⟩) (by show w.heap.size ≤ w.heap.size + 1; omega) (.map (some (w.heap.size + 1 + 1)))).setCell (p := ⟨w.heap.size + 1, 1, none⟩) (by show w.heap.size ≤ w.heap.size + 1; omega) (.func (.func 217) #[] #[])
      have HH : Hid _ := And.intro hrow (And.intro hmap hbel)
      clear hrow hmap hbel r1 r2 r3 r4 hB hsz
      go_wp2_with fail
      have HH2 := HH.out
      clear HH x0 x1 y0 y1 f0 f1
      generalize ((wr.setCell ⟨w.heap.size + 1, 0, none⟩ (.map (some (w.heap.size + 1 + 1)))).setCell ⟨w.heap.size + 1, 1, none⟩ (.func (.func 217) #[] #[])) = Z at *
      obtain ⟨h1, h2, h3⟩ := HH2
      have z0 : Z.cell? ⟨w.heap.size + 1, 0, none⟩ = some (.map (some (w.heap.size + 1 + 1))) := h1.cell 0
      have z1 : Z.cell? ⟨w.heap.size + 1, 1, none⟩ = some (.func (.func 217) #[] #[]) := h1.cell 1
      refine bodyPost_ret (v := .agg #[.map (some (w.heap.size + 1 + 1)), .func (.func 217) #[] #[]]) (by simp [results, Tryz.results207, go_sem, z0, z1]) rfl ⟨w.heap.size + 1 + 1, rfl, by omega, h2, h3⟩
end Go.Proofs.YtialedffpaoacaaGreatDoor
/- Right tables, in plain lists. -/
namespace Go.Proofs.YtialedffpaoacaaGreatDoor
open Go.RowKit Go.Sort

def ltP (r s : Rt) : Prop := r.a < s.a ∨ (r.a = s.a ∧ r.l < s.l)
theorem ltR_iff (r s : Rt) : ltR r s = true ↔ ltP r s := by simp [ltR, ltP]
theorem ltP_trans {r s t : Rt} (h : ltP r s) (k : ltP s t) : ltP r t := by unfold ltP at *; omega
theorem ltP_ne {r s : Rt} (h : ltP r s) : isN s.a s.l r = false := by
  cases hn : isN s.a s.l r with
  | false => rfl
  | true =>
    obtain ⟨h1, h2⟩ := isN_eq hn
    unfold ltP at h
    omega
theorem rib_rising {rs : List Rt} (h : ribB rs = true) : rs.Pairwise ltP := by
  obtain ⟨_, hk⟩ := ribB_spec h
  rw [List.pairwise_iff_getElem]
  have step : ∀ j (hj : j + 1 < rs.length), ltP (rs[j]'(by omega)) rs[j + 1] := fun j hj => by
    have := hk (j + 1) hj
    unfold okAt at this
    simp only [Bool.and_eq_true, Bool.or_eq_true, decide_eq_true_eq, Nat.add_sub_cancel] at this
    rw [get_bang hj, get_bang (by omega)] at this
    rcases this.2 with h | h
    · omega
    · exact (ltR_iff _ _).1 h
  intro i j hi hj hij
  induction j with
  | zero => omega
  | succ j ih =>
    rcases Nat.lt_or_ge i j with h' | h'
    · exact ltP_trans (ih (by omega) h') (step j hj)
    · obtain rfl : i = j := by omega
      exact step i hj
theorem laidN_rising {rs : List Rt} (h : rs.Pairwise ltP) : laidN rs = rs := by
  have : ∀ k, k ≤ rs.length → laidN (rs.take k) = rs.take k := by
    intro k
    induction k with
    | zero => intro _; rfl
    | succ k ih =>
      intro hk
      rw [laidN_next rs k (by omega), ih (by omega)]
      have hn : idxN (rs.take k) rs[k].a rs[k].l = none := by
        unfold idxN
        rw [List.findIdx?_eq_none_iff]
        intro x hx
        obtain ⟨j, hj, rfl⟩ := List.mem_iff_getElem.1 hx
        simp only [List.length_take] at hj
        rw [List.getElem_take]
        exact ltP_ne ((List.pairwise_iff_getElem.1 h) j k (by omega) (by omega) (by omega))
      unfold putN
      rw [hn, List.take_succ_eq_append_getElem (by omega)]
  have := this rs.length (Nat.le_refl _)
  rwa [List.take_length] at this
theorem laidN_right {rs : List Rt} (h : ribB rs = true) : laidN rs = rs := laidN_rising (rib_rising h)
/-- What RibFind answers. -/
def findR (rs : List Rt) (a l : Int) : Rt := if ribB rs = true then (lookN rs a l).getD zeroR else zeroR
theorem findR_bad {rs : List Rt} {a l : Int} (h : ribB rs = false) : findR rs a l = zeroR := if_neg (by rw [h]; simp)
theorem findR_right {rs : List Rt} {a l : Int} (h : ribB rs = true) : findR rs a l = (lookN rs a l).getD zeroR := if_pos h
/-- A box of one cell, one of two and nine cells, one behind the other. -/
theorem boxes3 (w : World) (x : List Value) (y : List Value) (z : List Value) (t1 t2 t3 : TypeId) {w1 : World} (h : Below (((w.alloc (.cells x.toArray t1)).alloc (.cells y.toArray t2)).alloc (.cells z.toArray t3)).heap.size (((w.alloc (.cells x.toArray t1)).alloc (.cells y.toArray t2)).alloc (.cells z.toArray t3)) w1) : Row w1 w.heap.size t1 x ∧ Row w1 (w.heap.size + 1) t2 y ∧ Row w1 (w.heap.size + 1 + 1) t3 z ∧ Below w.heap.size w w1 ∧ w.heap.size + 1 + 1 < w1.heap.size := by
  obtain ⟨W, rfl, q0, q1, q2, hB, hS, -⟩ := rows3 w x y z t1 t2 t3
  refine ⟨q0.below h q0.lt, q1.below h q1.lt, q2.below h q2.lt, hB.trans (h.mono hB.size), ?_⟩
  have := h.size; omega
theorem stab_tab (rs : List Rt) : ∀ (x : Value) (w1 w2 : World), (∃ B, x = tabV B ∧ MapIs w1 B rs) → Below w1.heap.size w1 w2 → ∃ B, x = tabV B ∧ MapIs w2 B rs := by
  rintro x w1 w2 ⟨B, e, h⟩ hb
  exact ⟨B, e, h.below hb h.lt⟩
theorem k3_below {w1 w2 : World} {p q : Nat} {x y z : Value} (h : w1.cell? ⟨p, 0, none⟩ = some x ∧ w1.cell? ⟨q, 0, none⟩ = some y ∧ w1.cell? ⟨q, 1, none⟩ = some z) (hb : Below w1.heap.size w1 w2) : w2.cell? ⟨p, 0, none⟩ = some x ∧ w2.cell? ⟨q, 0, none⟩ = some y ∧ w2.cell? ⟨q, 1, none⟩ = some z := by
  have hk : ∀ g k v, w1.cell? ⟨g, k, none⟩ = some v → w2.cell? ⟨g, k, none⟩ = some v := fun g k v hv => by rw [hb.cell (World.block_lt_of_cell? w1 _ hv)]; exact hv
  exact ⟨hk _ _ _ h.1, hk _ _ _ h.2.1, hk _ _ _ h.2.2⟩
theorem k3_b {w1 w2 : World} {p q : Nat} {x y z : Value} (hb : Below w1.heap.size w1 w2) (h : w1.cell? ⟨p, 0, none⟩ = some x ∧ w1.cell? ⟨q, 0, none⟩ = some y ∧ w1.cell? ⟨q, 1, none⟩ = some z) : w2.cell? ⟨p, 0, none⟩ = some x ∧ w2.cell? ⟨q, 0, none⟩ = some y ∧ w2.cell? ⟨q, 1, none⟩ = some z := k3_below h hb
theorem newRow9 {w w1 : World} (hb : Below (w.alloc (.cells #[.int .i64 0, .int .i64 0, .int .i64 0, .int .i64 0, .int .i64 0, .int .i64 0, .int .i64 0, .int .i64 0, .bool false] 144)).heap.size (w.alloc (.cells #[.int .i64 0, .int .i64 0, .int .i64 0, .int .i64 0, .int .i64 0, .int .i64 0, .int .i64 0, .int .i64 0, .bool false] 144)) w1) : Row w1 w.heap.size 144 [.int .i64 0, .int .i64 0, .int .i64 0, .int .i64 0, .int .i64 0, .int .i64 0, .int .i64 0, .int .i64 0, .bool false] := (Row.new w 144 [.int .i64 0, .int .i64 0, .int .i64 0, .int .i64 0, .int .i64 0, .int .i64 0, .int .i64 0, .int .i64 0, .bool false]).below hb (Row.new w 144 [.int .i64 0, .int .i64 0, .int .i64 0, .int .i64 0, .int .i64 0, .int .i64 0, .int .i64 0, .int .i64 0, .bool false]).lt
theorem newRow9d {w w1 : World} {n : Nat} (hb : Below ((w.alloc (.cells #[.int .i64 0, .int .i64 0, .int .i64 0, .int .i64 0, .int .i64 0, .int .i64 0, .int .i64 0, .int .i64 0, .bool false] 144)).drewN n).heap.size ((w.alloc (.cells #[.int .i64 0, .int .i64 0, .int .i64 0, .int .i64 0, .int .i64 0, .int .i64 0, .int .i64 0, .int .i64 0, .bool false] 144)).drewN n) w1) : Row w1 w.heap.size 144 [.int .i64 0, .int .i64 0, .int .i64 0, .int .i64 0, .int .i64 0, .int .i64 0, .int .i64 0, .int .i64 0, .bool false] := Row.below (w := (w.alloc (.cells #[.int .i64 0, .int .i64 0, .int .i64 0, .int .i64 0, .int .i64 0, .int .i64 0, .int .i64 0, .int .i64 0, .bool false] 144)).drewN n) (Row.new w 144 [.int .i64 0, .int .i64 0, .int .i64 0, .int .i64 0, .int .i64 0, .int .i64 0, .int .i64 0, .int .i64 0, .bool false]) hb (Row.new w 144 [.int .i64 0, .int .i64 0, .int .i64 0, .int .i64 0, .int .i64 0, .int .i64 0, .int .i64 0, .int .i64 0, .bool false]).lt
theorem cells9 {w : World} {g : Nat} {t : TypeId} (h : Row w g t [.int .i64 0, .int .i64 0, .int .i64 0, .int .i64 0, .int .i64 0, .int .i64 0, .int .i64 0, .int .i64 0, .bool false]) : w.cell? ⟨g, 0, none⟩ = some (.int .i64 0) ∧ w.cell? ⟨g, 1, none⟩ = some (.int .i64 0) ∧ w.cell? ⟨g, 2, none⟩ = some (.int .i64 0) ∧ w.cell? ⟨g, 3, none⟩ = some (.int .i64 0) ∧ w.cell? ⟨g, 4, none⟩ = some (.int .i64 0) ∧ w.cell? ⟨g, 5, none⟩ = some (.int .i64 0) ∧ w.cell? ⟨g, 6, none⟩ = some (.int .i64 0) ∧ w.cell? ⟨g, 7, none⟩ = some (.int .i64 0) ∧ w.cell? ⟨g, 8, none⟩ = some (.bool false) ∧ w.frozen? ⟨g, 0, none⟩ = false ∧ w.frozen? ⟨g, 1, none⟩ = false ∧ w.frozen? ⟨g, 2, none⟩ = false ∧ w.frozen? ⟨g, 3, none⟩ = false ∧ w.frozen? ⟨g, 4, none⟩ = false ∧ w.frozen? ⟨g, 5, none⟩ = false ∧ w.frozen? ⟨g, 6, none⟩ = false ∧ w.frozen? ⟨g, 7, none⟩ = false ∧ w.frozen? ⟨g, 8, none⟩ = false := ⟨h.cell 0, h.cell 1, h.cell 2, h.cell 3, h.cell 4, h.cell 5, h.cell 6, h.cell 7, h.cell 8, h.frozen 0, h.frozen 1, h.frozen 2, h.frozen 3, h.frozen 4, h.frozen 5, h.frozen 6, h.frozen 7, h.frozen 8⟩
theorem stab_new (B : Nat) (t : TypeId) (l : List Value) : ∀ (x : Value) (w1 w2 : World), (∃ g, x = .pointer (some ⟨g, 0, none⟩) ∧ B ≤ g ∧ Row w1 g t l) → Below w1.heap.size w1 w2 → ∃ g, x = .pointer (some ⟨g, 0, none⟩) ∧ B ≤ g ∧ Row w2 g t l := by
  rintro x w1 w2 ⟨g, e, hg, h⟩ hb
  exact ⟨g, e, hg, h.below hb h.lt⟩
end Go.Proofs.YtialedffpaoacaaGreatDoor
/- A route put in its place. -/
namespace Go.Proofs.YtialedffpaoacaaGreatDoor
open Go.RowKit Go.Sort

def insR : List Rt → Rt → List Rt
  | [], r => [r]
  | s :: l, r => if ltR s r = true then s :: insR l r else if isN r.a r.l s = true then r :: l else r :: s :: l
theorem putN_cons (s : Rt) (l : List Rt) (r : Rt) : putN (s :: l) r = if isN r.a r.l s = true then r :: l else s :: putN l r := by
  unfold putN idxN
  rw [List.findIdx?_cons]
  by_cases h : isN r.a r.l s = true
  · simp [h]
  · rw [if_neg h]
    simp only [h]
    cases List.findIdx? (isN r.a r.l) l <;> simp
theorem putN_new : ∀ (l : List Rt) (r : Rt), (∀ s ∈ l, isN r.a r.l s = false) → putN l r = l ++ [r]
  | [], r, _ => rfl
  | s :: l, r, h => by
    rw [putN_cons, if_neg (by rw [h s (by simp)]; simp), putN_new l r (fun t ht => h t (by simp [ht]))]
    rfl
theorem gt_of {s r : Rt} (h : ¬ ltR s r = true) (h2 : ¬ isN r.a r.l s = true) : ltP r s := by
  rw [ltR_iff] at h
  simp [isN] at h2
  unfold ltP at *
  omega
theorem gt_ne {s r : Rt} (h : ltP r s) : isN r.a r.l s = false := by
  simp [isN]
  unfold ltP at h
  omega
theorem insR_perm : ∀ (l : List Rt) (r : Rt), l.Pairwise ltP → (putN l r).Perm (insR l r)
  | [], r, _ => List.Perm.refl _
  | s :: l, r, h => by
    rw [List.pairwise_cons] at h
    rw [putN_cons]
    unfold insR
    by_cases h1 : ltR s r = true
    · rw [if_pos h1, if_neg (by rw [ltP_ne ((ltR_iff s r).1 h1)]; simp)]
      exact (insR_perm l r h.2).cons s
    · rw [if_neg h1]
      by_cases h2 : isN r.a r.l s = true
      · rw [if_pos h2, if_pos h2]
      · rw [if_neg h2, if_neg h2]
        have hrs := gt_of h1 h2
        rw [putN_new l r (fun t ht => gt_ne (ltP_trans hrs (h.1 t ht)))]
        exact List.perm_append_comm (l₁ := s :: l) (l₂ := [r])
theorem insR_mem : ∀ (l : List Rt) (r x : Rt), x ∈ insR l r → x = r ∨ x ∈ l
  | [], r, x, h => by simpa [insR] using h
  | s :: l, r, x, h => by
    unfold insR at h
    split at h
    · rcases List.mem_cons.1 h with h | h
      · exact .inr (by simp [h])
      · rcases insR_mem l r x h with h | h
        · exact .inl h
        · exact .inr (by simp [h])
    · split at h
      · rcases List.mem_cons.1 h with h | h
        · exact .inl h
        · exact .inr (by simp [h])
      · rcases List.mem_cons.1 h with h | h
        · exact .inl h
        · exact .inr h
theorem insR_rising : ∀ (l : List Rt) (r : Rt), l.Pairwise ltP → (insR l r).Pairwise ltP
  | [], r, _ => by simp [insR]
  | s :: l, r, h => by
    rw [List.pairwise_cons] at h
    unfold insR
    split
    · rename_i h1
      refine List.pairwise_cons.2 ⟨fun x hx => ?_, insR_rising l r h.2⟩
      rcases insR_mem l r x hx with rfl | hx
      · exact (ltR_iff s x).1 h1
      · exact h.1 x hx
    · rename_i h1
      split
      · rename_i h2
        refine List.pairwise_cons.2 ⟨fun x hx => ?_, h.2⟩
        have := h.1 x hx
        simp [isN] at h2
        unfold ltP at *
        omega
      · rename_i h2
        have hrs := gt_of h1 h2
        refine List.pairwise_cons.2 ⟨fun x hx => ?_, List.pairwise_cons.2 h⟩
        rcases List.mem_cons.1 hx with rfl | hx
        · exact hrs
        · exact ltP_trans hrs (h.1 x hx)
theorem ribB_of {rs : List Rt} (h8 : rs.length ≤ 8) (hr : ∀ r ∈ rs, routeB r = true) (hp : rs.Pairwise ltP) : ribB rs = true := by
  unfold ribB
  simp only [Bool.and_eq_true, decide_eq_true_eq, List.all_eq_true, List.mem_range]
  refine ⟨h8, fun k hk => ?_⟩
  unfold okAt
  rw [get_bang hk, hr _ (List.getElem_mem hk)]
  simp only [Bool.true_and, Bool.or_eq_true, decide_eq_true_eq]
  by_cases h0 : k = 0
  · exact .inl h0
  · refine .inr ?_
    rw [get_bang (by omega), ltR_iff]
    exact List.pairwise_iff_getElem.1 hp (k - 1) k (by omega) hk (by omega)
theorem rib_routes {rs : List Rt} (h : ribB rs = true) : ∀ r ∈ rs, routeB r = true := by
  intro r hr
  obtain ⟨k, hk, rfl⟩ := List.mem_iff_getElem.1 hr
  have := okAt_route ((ribB_spec h).2 k hk)
  rwa [get_bang hk] at this
theorem insR_right {rs : List Rt} {r : Rt} (h : ribB rs = true) (hr : routeB r = true) (h8 : (insR rs r).length ≤ 8) : ribB (insR rs r) = true :=
  ribB_of h8 (fun x hx => by rcases insR_mem rs r x hx with rfl | hx; exact hr; exact rib_routes h x hx) (insR_rising rs r (rib_rising h))
end Go.Proofs.YtialedffpaoacaaGreatDoor
/- The place of a net in a table, as the model looks for it. (Cut out of FindS.lean.) -/
namespace Go.Proofs.YtialedffpaoacaaGreatDoor
open Go.RowKit Go.Sort

/-- The place of a net, or -1. -/
def atV (rs : List Rt) (a l : Int) : Int := match idxN rs a l with | some k => (k : Int) | none => -1
theorem atV_hit {rs : List Rt} {a l : Int} {k : Nat} (hk : k < rs.length) (h : ∀ j, j < k → isN a l rs[j]! = false) (hit : isN a l rs[k] = true) : idxN rs a l = some k := by
  unfold idxN
  rw [List.findIdx?_eq_some_iff_getElem]
  refine ⟨hk, hit, fun j hj => ?_⟩
  have := h j hj
  rw [get_bang (by omega)] at this
  simp [this]
theorem atV_none {rs : List Rt} {a l : Int} (h : ∀ j, j < rs.length → isN a l rs[j]! = false) : idxN rs a l = none := by
  unfold idxN
  rw [List.findIdx?_eq_none_iff]
  intro x hx
  obtain ⟨j, hj, rfl⟩ := List.mem_iff_getElem.1 hx
  have := h j hj
  rwa [get_bang hj] at this
set_option maxRecDepth 100000 in
set_option maxHeartbeats 1000000 in
theorem l06At_any (p : Option Addr) (cap : Nat) (rs : List Rt) (a l : Int) (w : World) (h : RtsIn w p rs) (hn : rs.length ≤ 100000000) :
    Calls Tryz.prog 112 #[ribV p rs.length cap, netV a l] w fun e w' => e = .returned (.int .i64 (atV rs a l)) ∧ Below w.heap.size w w' := by
  have HX : Hid (RtsIn w p rs) := h
  have HH1 : Hid (∀ k (hk : k < rs.length), (∀ j, j < k → isN a l rs[j]! = false) → isN a l rs[k] = true → atV rs a l = (k : Int)) := fun k hk h1 h2 => by unfold atV; rw [atV_hit hk h1 h2]
  have HH2 : Hid ((∀ j, j < rs.length → isN a l rs[j]! = false) → atV rs a l = -1) := fun h1 => by unfold atV; rw [atV_none h1]
  clear h
  generalize atV rs a l = R at *
  unfold ribV netV
  go_enter Tryz.func112, Tryz.ntmps112
  go_wp2_with fail
  go_loopw [5] (fun i wr => ∃ k : Nat, k ≤ rs.length ∧ i = .int .i64 k ∧ (∀ j, j < k → isN a l rs[j]! = false) ∧ Below ((w.alloc (.cells #[.slice p rs.length cap] 49)).alloc (.cells #[.int .i64 a, .int .i64 l] 70)).heap.size ((w.alloc (.cells #[.slice p rs.length cap] 49)).alloc (.cells #[.int .i64 a, .int .i64 l] 70)) wr) (fun i _ => rs.length - (intOf i).toNat)
  case atStart => exact ⟨0, Nat.zero_le _, rfl, fun j hj => absurd hj (by omega), Below.refl _ _⟩
  case round =>
    obtain ⟨k, hk, rfl, ha, hb0⟩ := hrel
    have q0 := (Row.new w 49 [.slice p rs.length cap]).alloc (.cells #[.int .i64 a, .int .i64 l] 70)
    have q1 := Row.new (w.alloc (.cells #[.slice p rs.length cap] 49)) 70 [.int .i64 a, .int .i64 l]
    rw [show (w.alloc (.cells #[.slice p rs.length cap] 49)).heap.size = w.heap.size + 1 by simp] at q1
    have x0 : wr.cell? ⟨w.heap.size, 0, none⟩ = some (.slice p rs.length cap) := (q0.below hb0 q0.lt).cell 0
    have y0 : wr.cell? ⟨w.heap.size + 1, 0, none⟩ = some (.int .i64 a) := (q1.below hb0 q1.lt).cell 0
    have y1 : wr.cell? ⟨w.heap.size + 1, 1, none⟩ = some (.int .i64 l) := (q1.below hb0 q1.lt).cell 1
    have hb : Below w.heap.size w wr := ((ent_new0 w _).alloc (by simp) _).trans (hb0.mono (by simp; omega))
    clear q0 q1
    by_cases hlt : k < rs.length
    · have d1 : decide ((k : Int) < (rs.length : Int)) = true := by simpa using hlt
      obtain ⟨g, A, L, M, N, I, T, U, E, C, rfl, hg, hek, c0, c1, c2, c3, c4, c5, c6, c7, c8⟩ := (HX.out.below hb).at k hlt
      clear c2 c3 c4 c5 c6 c7 c8
      by_cases hit : isN a l rs[k] = true
      · have HR : Hid (R = (k : Int)) := HH1.out k hlt ha hit
        rw [hek] at hit
        obtain ⟨rfl, rfl⟩ := isN_eq hit
        clear HH1 HH2 hit hek ha
        have z1 : (A == A) = true := by simp
        have z2 : (L == L) = true := by simp
        go_wp2_with fail
        go_quiet (fail)
        go_wp2
        go_ret
        refine ⟨?_, below_drewN hb _⟩
        rw [HR.out]; rfl
      · have HN : Hid (∀ j, j < k + 1 → isN a l rs[j]! = false) := fun j hj => by
          rcases Nat.lt_or_ge j k with h' | h'
          · exact ha j h'
          · obtain rfl : j = k := by omega
            rw [get_bang hlt]; simpa using hit
        rw [hek] at hit
        clear HH1 HH2 hek ha
        by_cases hA : A = a
        · have z1 : (A == a) = true := by simpa using hA
          have z2 : (L == l) = false := by
            rw [beq_eq_false_iff_ne]
            intro hL
            exact hit (by simp [isN, hA, hL])
          clear hit hA
          go_wp2_with fail
          go_quiet (fail)
          go_wp2
          go_roundw
          case rel => exact ⟨k + 1, hlt, by go_num, HN.out, below_drewN hb0 _⟩
          case measure => simp [intOf]; omega
        · have z1 : (A == a) = false := by simpa using hA
          clear hit hA
          go_wp2_with fail
          go_quiet (fail)
          go_wp2
          go_roundw
          case rel => exact ⟨k + 1, hlt, by go_num, HN.out, below_drewN hb0 _⟩
          case measure => simp [intOf]; omega
    · obtain rfl : k = rs.length := by omega
      have d1 : decide ((rs.length : Int) < (rs.length : Int)) = false := by simp
      have hR := HH2.out ha
      clear hlt hk HH1 HH2 ha
      go_wp2
      go_ret
      exact ⟨by rw [hR]; rfl, hb⟩
end Go.Proofs.YtialedffpaoacaaGreatDoor
/- What the model's tables have in common. (Written by gen_owns.py.) -/
namespace Go.Proofs.YtialedffpaoacaaGreatDoor
open Go.RowKit Go.Sort

theorem insR_length : ∀ (rs : List Rt) (r : Rt), rs.Pairwise ltP → (insR rs r).length = if (idxN rs r.a r.l).isSome = true then rs.length else rs.length + 1 := by
  intro rs r h
  rw [← (insR_perm rs r h).length_eq]
  unfold putN
  cases idxN rs r.a r.l <;> simp
theorem atV_neg (rs : List Rt) (a l : Int) : decide (atV rs a l < 0) = !(idxN rs a l).isSome := by
  unfold atV
  cases idxN rs a l with
  | none => simp
  | some k => simp
set_option maxRecDepth 100000 in
theorem l06Ill_any (c : Int) (w : World) : Calls Tryz.prog 113 #[.int .i64 c] w fun e w' => e = .returned (.agg #[.slice none 0 0, .int .i64 c]) ∧ Below w.heap.size w w' := by
  go_enter Tryz.func113, Tryz.ntmps113
  go_wp2_with fail
  exact bodyPost_ret (v := .agg #[.slice none 0 0, .int .i64 c]) (by simp [results, Tryz.results113, go_sem]) rfl ⟨rfl, ent_new0 _ _⟩
end Go.Proofs.YtialedffpaoacaaGreatDoor
