/- Texts that stand on each other, in one file: MapI, RibM, FindG, MapF, FindI, MetM, AtS, FindS. -/
import Derived.Test.YtfmaeicodljgkaaPack10
import Derived.Test.YtfmaeicodljgkaaPack12
import Derived.Carry
import Derived.Laws.EntriesVeiled
import Derived.Test.YtfmaeicodljgkaaPack13
import Derived.Test.YtfmaeicodljgkaaPack11
import Derived.Test.YtfmaeicodljgkaaPack2
/- The table's own ways: put, find; a table laid out. (Written by gen_mapi.py.) -/
namespace Go.Proofs.Ytfmaeicodljgkaa
open Go.RowKit Go.Sort

/-- A table whose map lies in block B. -/
def tabV (B : Nat) : Value := .agg #[.map (some B), .func (.func 93) #[] #[]]
theorem grown_trans {a b c : World} {row : Option Nat} (h : a.grownBy b row) (k : b.grownBy c row) : a.grownBy c row :=
  ⟨k.os.trans h.os, k.tape.trans h.tape, k.output.trans h.output, Nat.le_trans h.size k.size, fun i hi hne => (k.block i (Nat.lt_of_lt_of_le hi h.size) hne).trans (h.block i hi hne)⟩
theorem rows3 (w : World) (x y z : List Value) (t1 t2 t3 : TypeId) : ∃ W, W = ((w.alloc (.cells x.toArray t1)).alloc (.cells y.toArray t2)).alloc (.cells z.toArray t3) ∧ Row W w.heap.size t1 x ∧ Row W (w.heap.size + 1) t2 y ∧ Row W (w.heap.size + 1 + 1) t3 z ∧ Below w.heap.size w W ∧ W.heap.size = w.heap.size + 1 + 1 + 1 ∧ ∀ row, w.grownBy W row := by
  have q0 := ((Row.new w t1 x).alloc (.cells y.toArray t2)).alloc (.cells z.toArray t3)
  have q1 := (Row.new (w.alloc (.cells x.toArray t1)) t2 y).alloc (.cells z.toArray t3)
  have q2 := Row.new ((w.alloc (.cells x.toArray t1)).alloc (.cells y.toArray t2)) t3 z
  have e1 : (w.alloc (.cells x.toArray t1)).heap.size = w.heap.size + 1 := by simp
  have e2 : ((w.alloc (.cells x.toArray t1)).alloc (.cells y.toArray t2)).heap.size = w.heap.size + 1 + 1 := by simp
  rw [e1] at q1
  rw [e2] at q2
  exact ⟨_, rfl, q0, q1, q2, ((ent_new0 w _).alloc (by simp) _).alloc (by simp; omega) _, by simp, fun row => grown_trans (grown_trans (World.grownBy_alloc w _ row) (World.grownBy_alloc _ _ row)) (World.grownBy_alloc _ _ row)⟩
set_option maxRecDepth 100000 in
theorem put_any (B : Nat) (rs : List Rt) (r : Rt) (w : World) (h : MapIs w B rs) :
    Calls Try.prog 94 #[tabV B, netV r.a r.l, rtV r] w fun e w' => e = .returned (.tuple #[]) ∧ MapIs w' B (putN rs r) ∧ w.grownBy w' (some B) := by
  have hlt := h.lt
  obtain ⟨a, l, m, n, i, t, u, b, c⟩ := r
  obtain ⟨W, hW, q0, q1, q2, hB, hS, hg0⟩ := rows3 w [.map (some B), .func (.func 93) #[] #[]] [.int .i64 a, .int .i64 l] [.int .i64 a, .int .i64 l, .int .i64 m, .int .i64 n, .int .i64 i, .int .i64 t, .int .i64 u, .int .i64 b, .bool c] 121 55 81
  obtain ⟨w2, hrun, hm2, hg2⟩ := map_put (h.below hB hlt) ⟨a, l, m, n, i, t, u, b, c⟩
  have HH : Hid (MapIs w2 B (putN rs ⟨a, l, m, n, i, t, u, b, c⟩) ∧ w.grownBy w2 (some B)) := ⟨hm2, grown_trans (hg0 _) hg2⟩
  clear hm2 hg2 h hB hg0
  unfold tabV netV rtV rtA
  unfold netV rtV rtA at hrun
  simp only at hrun
  rw [hW] at hrun
  have c0 : W.cell? ⟨w.heap.size, 0, none⟩ = some (.map (some B)) := q0.cell 0
  have c1 : W.cell? ⟨w.heap.size, 1, none⟩ = some (.func (.func 93) #[] #[]) := q0.cell 1
  have d0 : W.cell? ⟨w.heap.size + 1, 0, none⟩ = some (.int .i64 a) := q1.cell 0
  have d1 : W.cell? ⟨w.heap.size + 1, 1, none⟩ = some (.int .i64 l) := q1.cell 1
  have e0 : W.cell? ⟨w.heap.size + 1 + 1, 0, none⟩ = some (.int .i64 a) := q2.cell 0
  have e1 : W.cell? ⟨w.heap.size + 1 + 1, 1, none⟩ = some (.int .i64 l) := q2.cell 1
  have e2 : W.cell? ⟨w.heap.size + 1 + 1, 2, none⟩ = some (.int .i64 m) := q2.cell 2
  have e3 : W.cell? ⟨w.heap.size + 1 + 1, 3, none⟩ = some (.int .i64 n) := q2.cell 3
  have e4 : W.cell? ⟨w.heap.size + 1 + 1, 4, none⟩ = some (.int .i64 i) := q2.cell 4
  have e5 : W.cell? ⟨w.heap.size + 1 + 1, 5, none⟩ = some (.int .i64 t) := q2.cell 5
  have e6 : W.cell? ⟨w.heap.size + 1 + 1, 6, none⟩ = some (.int .i64 u) := q2.cell 6
  have e7 : W.cell? ⟨w.heap.size + 1 + 1, 7, none⟩ = some (.int .i64 b) := q2.cell 7
  have e8 : W.cell? ⟨w.heap.size + 1 + 1, 8, none⟩ = some (.bool c) := q2.cell 8
  have HW : Hid _ := hW
  clear hW q0 q1 q2
  go_enter Try.func94, Try.ntmps94
  go_wp2
  refine bodyPost_end (v := .tuple #[]) (by simp [results, Try.results94, go_sem]) rfl ⟨rfl, HH.out.1, HH.out.2⟩
/-- What is put one behind the other. -/
def laidN (rs : List Rt) : List Rt := rs.foldl putN []
theorem laidN_next (rs : List Rt) (k : Nat) (h : k < rs.length) : laidN (rs.take (k + 1)) = putN (laidN (rs.take k)) rs[k] := by
  unfold laidN
  rw [List.take_succ_eq_append_getElem h, List.foldl_append]
  rfl
/-- The state of laidOut's loop. -/
def LaySt (p : Option Addr) (cap : Nat) (rs : List Rt) (w : World) (k : Nat) (wr : World) : Prop :=
  Row wr w.heap.size 33 [.slice p rs.length cap] ∧ Row wr (w.heap.size + 1) 121 [.map none, .nilFunc] ∧ MapIs wr (w.heap.size + 1 + 1) (laidN (rs.take k)) ∧ Row wr (w.heap.size + 1 + 1 + 1) 121 [.map (some (w.heap.size + 1 + 1)), .func (.func 93) #[] #[]] ∧ Below w.heap.size w wr ∧ w.heap.size + 1 + 1 + 1 < wr.heap.size
theorem Row.grown {w w' : World} {g : Nat} {t : TypeId} {l : List Value} {b : Nat} (h : Row w g t l) (hg : w.grownBy w' (some b)) (hne : g ≠ b) : Row w' g t l := (hg.block g h.lt (by simpa using hne)).trans h
theorem laySt_next {p : Option Addr} {cap : Nat} {rs : List Rt} {w : World} {k : Nat} {wr w1 : World} (h : LaySt p cap rs w k wr) (hlt : k < rs.length) (o : Obj) (hg : (wr.alloc o).grownBy w1 (some (w.heap.size + 1 + 1))) (hm : MapIs w1 (w.heap.size + 1 + 1) (putN (laidN (rs.take k)) rs[k])) : LaySt p cap rs w (k + 1) w1 := by
  obtain ⟨r1, r2, r3, r4, hB, hsz⟩ := h
  refine ⟨(r1.alloc o).grown hg (by omega), (r2.alloc o).grown hg (by omega), by rw [laidN_next rs k hlt]; exact hm, (r4.alloc o).grown hg (by omega), ?_, ?_⟩
  · exact (hB.alloc hB.size o).grown hg (by have := hB.size; simp; omega) (fun j hj => by cases hj; omega)
  · have := hg.size; simp at this; omega
theorem MapIs.set {w : World} {b : Nat} {rs : List Rt} (h : MapIs w b rs) (p : Addr) (hne : p.block ≠ b) (v : Value) : MapIs (w.setCell p v) b rs := h.kept (by unfold World.setCell; rw [Array.getElem?_modify, if_neg hne])
theorem laySt_first (p : Option Addr) (cap : Nat) (rs : List Rt) (w : World) : LaySt p cap rs w 0 ((((w.alloc (.cells #[.slice p rs.length cap] 33)).alloc (.cells #[.map none, .nilFunc] 121)).alloc (.map #[] 0)).alloc (.cells #[.map (some (w.heap.size + 1 + 1)), .func (.func 93) #[] #[]] 121)) := by
  have e1 : (w.alloc (.cells #[.slice p rs.length cap] 33)).heap.size = w.heap.size + 1 := by simp
  have e2 : ((w.alloc (.cells #[.slice p rs.length cap] 33)).alloc (.cells #[.map none, .nilFunc] 121)).heap.size = w.heap.size + 1 + 1 := by simp
  have e3 : (((w.alloc (.cells #[.slice p rs.length cap] 33)).alloc (.cells #[.map none, .nilFunc] 121)).alloc (.map #[] 0)).heap.size = w.heap.size + 1 + 1 + 1 := by simp
  have q1 := (((Row.new w 33 [.slice p rs.length cap]).alloc (.cells #[.map none, .nilFunc] 121)).alloc (.map #[] 0)).alloc (.cells #[.map (some (w.heap.size + 1 + 1)), .func (.func 93) #[] #[]] 121)
  have q2 := ((Row.new (w.alloc (.cells #[.slice p rs.length cap] 33)) 121 [.map none, .nilFunc]).alloc (.map #[] 0)).alloc (.cells #[.map (some (w.heap.size + 1 + 1)), .func (.func 93) #[] #[]] 121)
  have q3 := MapIs.made ((w.alloc (.cells #[.slice p rs.length cap] 33)).alloc (.cells #[.map none, .nilFunc] 121))
  have q4 := Row.new (((w.alloc (.cells #[.slice p rs.length cap] 33)).alloc (.cells #[.map none, .nilFunc] 121)).alloc (.map #[] 0)) 121 [.map (some (w.heap.size + 1 + 1)), .func (.func 93) #[] #[]]
  rw [e1] at q2
  rw [e2] at q3
  rw [e3] at q4
  refine ⟨q1, q2, q3.below (ent_new0 _ _) (by rw [e3]; omega), q4, (((ent_new0 w _).alloc (by simp) _).alloc (by simp; omega) _).alloc (by simp; omega) _, by simp⟩
set_option maxRecDepth 100000 in
set_option maxHeartbeats 1000000 in
theorem laidOut_any (p : Option Addr) (cap : Nat) (rs : List Rt) (w : World) (h : RtsIn w p rs) (hn : rs.length ≤ 100000000) :
    Calls Try.prog 73 #[ribV p rs.length cap] w fun e w' => ∃ B, e = .returned (tabV B) ∧ w.heap.size ≤ B ∧ MapIs w' B (laidN rs) ∧ Below w.heap.size w w' := by
  have HP : Hid (∀ (B : Nat) (rs : List Rt) (r : Rt) (w : World), MapIs w B rs → Calls Try.prog 94 #[tabV B, netV r.a r.l, rtV r] w fun e w' => e = .returned (.tuple #[]) ∧ MapIs w' B (putN rs r) ∧ w.grownBy w' (some B)) := put_any
  have HX : Hid (RtsIn w p rs) := h
  clear h
  unfold ribV
  have hmm := @run_makeMap Try.prog
  go_enter Try.func73, Try.ntmps73
  go_wp2_with fail
  go_loopw [11] (fun i wr => ∃ k : Nat, k ≤ rs.length ∧ i = .int .i64 k ∧ LaySt p cap rs w k wr) (fun i _ => rs.length - (intOf i).toNat)
  case atStart =>
    refine ⟨0, Nat.zero_le _, rfl, ?_⟩
    exact laySt_first p cap rs w
  case round =>
    obtain ⟨k, hk, rfl, hst⟩ := hrel
    obtain ⟨r1, r2, r3, r4, hB, hsz⟩ := hst
    have x0 : wr.cell? ⟨w.heap.size + 1 + 1 + 1, 0, none⟩ = some (.map (some (w.heap.size + 1 + 1))) := r4.cell 0
    have x1 : wr.cell? ⟨w.heap.size + 1 + 1 + 1, 1, none⟩ = some (.func (.func 93) #[] #[]) := r4.cell 1
    by_cases hlt : k < rs.length
    · have d1 : decide ((k : Int) < (rs.length : Int)) = true := by simpa using hlt
      obtain ⟨g, a, l, m, n, ii, t, u, b, c, rfl, hg, hek, c0, c1, c2, c3, c4, c5, c6, c7, c8⟩ := (HX.out.below hB).at k hlt
      have HPk : Hid (∀ v, MapIs v (w.heap.size + 1 + 1) (laidN (rs.take k)) → Calls Try.prog 94 #[tabV (w.heap.size + 1 + 1), .agg #[.int .i64 a, .int .i64 l], .agg #[.int .i64 a, .int .i64 l, .int .i64 m, .int .i64 n, .int .i64 ii, .int .i64 t, .int .i64 u, .int .i64 b, .bool c]] v fun e w' => e = .returned (.tuple #[]) ∧ MapIs w' (w.heap.size + 1 + 1) (putN (laidN (rs.take k)) ⟨a, l, m, n, ii, t, u, b, c⟩) ∧ v.grownBy w' (some (w.heap.size + 1 + 1))) := fun v h => HP.out _ _ ⟨a, l, m, n, ii, t, u, b, c⟩ v h
      have hm1 : MapIs (wr.alloc (.cells #[.int .i64 a, .int .i64 l, .int .i64 m, .int .i64 n, .int .i64 ii, .int .i64 t, .int .i64 u, .int .i64 b, .bool c] 81)) (w.heap.size + 1 + 1) (laidN (rs.take k)) := r3.below (ent_new0 wr _) (by omega)
      have HS : Hid (LaySt (some ⟨g, 0, none⟩) cap rs w k wr) := ⟨r1, r2, r3, r4, hB, hsz⟩
      have hb3 : w.heap.size + 1 + 1 + 1 < wr.heap.size := hsz
      have HEK : Hid _ := hek
      clear HP hek r1 r2 r3 r4 hB hsz HX
      unfold tabV at HPk
      go_wp2_with fail
      refine (HPk.out _ hm1).mono ?_
      rintro e w1 ⟨rfl, hm2, hg2⟩
      have hN := laySt_next HS.out hlt _ hg2 (by rw [HEK.out]; exact hm2)
      have HN : Hid _ := hN
      clear hN hm2 hg2 hm1 HS HEK HPk c0 c1 c2 c3 c4 c5 c6 c7 c8 x0 x1
      go_wp2_with fail
      go_roundw
      case rel => exact ⟨k + 1, hlt, by go_num, HN.out⟩
      case measure => simp [intOf]; omega
    · obtain rfl : k = rs.length := by omega
      have d1 : decide ((rs.length : Int) < (rs.length : Int)) = false := by simp
      rw [List.take_length] at r3
      clear hlt hk HP HX
      have y0 : wr.cell? ⟨w.heap.size + 1, 0, none⟩ = some (.map none) := r2.cell 0
      have y1 : wr.cell? ⟨w.heap.size + 1, 1, none⟩ = some .nilFunc := r2.cell 1
      have f0 : wr.frozen? ⟨w.heap.size + 1, 0, none⟩ = false := r2.frozen 0
      have f1 : wr.frozen? ⟨w.heap.size + 1, 1, none⟩ = false := r2.frozen 1
      have hrow := (r2.set 0 (.map (some (w.heap.size + 1 + 1)))).set 1 (.func (.func 93) #[] #[])
      have hmap : MapIs ((wr.setCell ⟨w.heap.size + 1, 0, none⟩ (.map (some (w.heap.size + 1 + 1)))).setCell ⟨w.heap.size + 1, 1, none⟩ (.func (.func 93) #[] #[])) (w.heap.size + 1 + 1) (laidN rs) := (r3.set ⟨w.heap.size + 1, 0, none⟩ (by show w.heap.size + 1 ≠ w.heap.size + 1 + 1; omega) _).set ⟨w.heap.size + 1, 1, none⟩ (by show w.heap.size + 1 ≠ w.heap.size + 1 + 1; omega) _
      have hbel := (hB.setCell (p := ⟨w.heap.size + 1, 0, none⟩) (by show w.heap.size ≤ w.heap.size + 1; omega) (.map (some (w.heap.size + 1 + 1)))).setCell (p := ⟨w.heap.size + 1, 1, none⟩) (by show w.heap.size ≤ w.heap.size + 1; omega) (.func (.func 93) #[] #[])
      have HH : Hid _ := And.intro hrow (And.intro hmap hbel)
      clear hrow hmap hbel r1 r2 r3 r4 hB hsz
      go_wp2_with fail
      have HH2 := HH.out
      clear HH x0 x1 y0 y1 f0 f1
      generalize ((wr.setCell ⟨w.heap.size + 1, 0, none⟩ (.map (some (w.heap.size + 1 + 1)))).setCell ⟨w.heap.size + 1, 1, none⟩ (.func (.func 93) #[] #[])) = Z at *
      obtain ⟨h1, h2, h3⟩ := HH2
      have z0 : Z.cell? ⟨w.heap.size + 1, 0, none⟩ = some (.map (some (w.heap.size + 1 + 1))) := h1.cell 0
      have z1 : Z.cell? ⟨w.heap.size + 1, 1, none⟩ = some (.func (.func 93) #[] #[]) := h1.cell 1
      refine bodyPost_ret (v := .agg #[.map (some (w.heap.size + 1 + 1)), .func (.func 93) #[] #[]]) (by simp [results, Try.results73, go_sem, z0, z1]) rfl ⟨w.heap.size + 1 + 1, rfl, by omega, h2, h3⟩
end Go.Proofs.Ytfmaeicodljgkaa
/- Right tables, in plain lists. -/
namespace Go.Proofs.Ytfmaeicodljgkaa
open Go.RowKit Go.Sort

def ltP (r s : Rt) : Prop := r.a < s.a ∨ (r.a = s.a ∧ r.l < s.l)
theorem ltR_iff (r s : Rt) : ltR r s = true ↔ ltP r s := by simp [ltR, ltP]
theorem ltP_trans {r s t : Rt} (h : ltP r s) (k : ltP s t) : ltP r t := by unfold ltP at *; omega
theorem ltP_ne {r s : Rt} (h : ltP r s) : isN s.a s.l r = false := by
  cases hn : isN s.a s.l r with
  | false => rfl
  | true =>
    obtain ⟨h1, h2⟩ := isN_eq hn
    unfold ltP at h
    omega
theorem rib_rising {rs : List Rt} (h : ribB rs = true) : rs.Pairwise ltP := by
  obtain ⟨_, hk⟩ := ribB_spec h
  rw [List.pairwise_iff_getElem]
  have step : ∀ j (hj : j + 1 < rs.length), ltP (rs[j]'(by omega)) rs[j + 1] := fun j hj => by
    have := hk (j + 1) hj
    unfold okAt at this
    simp only [Bool.and_eq_true, Bool.or_eq_true, decide_eq_true_eq, Nat.add_sub_cancel] at this
    rw [get_bang hj, get_bang (by omega)] at this
    rcases this.2 with h | h
    · omega
    · exact (ltR_iff _ _).1 h
  intro i j hi hj hij
  induction j with
  | zero => omega
  | succ j ih =>
    rcases Nat.lt_or_ge i j with h' | h'
    · exact ltP_trans (ih (by omega) h') (step j hj)
    · obtain rfl : i = j := by omega
      exact step i hj
theorem laidN_rising {rs : List Rt} (h : rs.Pairwise ltP) : laidN rs = rs := by
  have : ∀ k, k ≤ rs.length → laidN (rs.take k) = rs.take k := by
    intro k
    induction k with
    | zero => intro _; rfl
    | succ k ih =>
      intro hk
      rw [laidN_next rs k (by omega), ih (by omega)]
      have hn : idxN (rs.take k) rs[k].a rs[k].l = none := by
        unfold idxN
        rw [List.findIdx?_eq_none_iff]
        intro x hx
        obtain ⟨j, hj, rfl⟩ := List.mem_iff_getElem.1 hx
        simp only [List.length_take] at hj
        rw [List.getElem_take]
        exact ltP_ne ((List.pairwise_iff_getElem.1 h) j k (by omega) (by omega) (by omega))
      unfold putN
      rw [hn, List.take_succ_eq_append_getElem (by omega)]
  have := this rs.length (Nat.le_refl _)
  rwa [List.take_length] at this
theorem laidN_right {rs : List Rt} (h : ribB rs = true) : laidN rs = rs := laidN_rising (rib_rising h)
/-- What RibFind answers. -/
def findR (rs : List Rt) (a l : Int) : Rt := if ribB rs = true then (lookN rs a l).getD zeroR else zeroR
theorem findR_bad {rs : List Rt} {a l : Int} (h : ribB rs = false) : findR rs a l = zeroR := if_neg (by rw [h]; simp)
theorem findR_right {rs : List Rt} {a l : Int} (h : ribB rs = true) : findR rs a l = (lookN rs a l).getD zeroR := if_pos h
/-- A box of one cell, one of two and nine cells, one behind the other. -/
theorem boxes3 (w : World) (x : List Value) (y : List Value) (z : List Value) (t1 t2 t3 : TypeId) {w1 : World} (h : Below (((w.alloc (.cells x.toArray t1)).alloc (.cells y.toArray t2)).alloc (.cells z.toArray t3)).heap.size (((w.alloc (.cells x.toArray t1)).alloc (.cells y.toArray t2)).alloc (.cells z.toArray t3)) w1) : Row w1 w.heap.size t1 x ∧ Row w1 (w.heap.size + 1) t2 y ∧ Row w1 (w.heap.size + 1 + 1) t3 z ∧ Below w.heap.size w w1 ∧ w.heap.size + 1 + 1 < w1.heap.size := by
  obtain ⟨W, rfl, q0, q1, q2, hB, hS, -⟩ := rows3 w x y z t1 t2 t3
  refine ⟨q0.below h q0.lt, q1.below h q1.lt, q2.below h q2.lt, hB.trans (h.mono hB.size), ?_⟩
  have := h.size; omega
theorem stab_tab (rs : List Rt) : ∀ (x : Value) (w1 w2 : World), (∃ B, x = tabV B ∧ MapIs w1 B rs) → Below w1.heap.size w1 w2 → ∃ B, x = tabV B ∧ MapIs w2 B rs := by
  rintro x w1 w2 ⟨B, e, h⟩ hb
  exact ⟨B, e, h.below hb h.lt⟩
theorem k3_below {w1 w2 : World} {p q : Nat} {x y z : Value} (h : w1.cell? ⟨p, 0, none⟩ = some x ∧ w1.cell? ⟨q, 0, none⟩ = some y ∧ w1.cell? ⟨q, 1, none⟩ = some z) (hb : Below w1.heap.size w1 w2) : w2.cell? ⟨p, 0, none⟩ = some x ∧ w2.cell? ⟨q, 0, none⟩ = some y ∧ w2.cell? ⟨q, 1, none⟩ = some z := by
  have hk : ∀ g k v, w1.cell? ⟨g, k, none⟩ = some v → w2.cell? ⟨g, k, none⟩ = some v := fun g k v hv => by rw [hb.cell (World.block_lt_of_cell? w1 _ hv)]; exact hv
  exact ⟨hk _ _ _ h.1, hk _ _ _ h.2.1, hk _ _ _ h.2.2⟩
theorem k3_b {w1 w2 : World} {p q : Nat} {x y z : Value} (hb : Below w1.heap.size w1 w2) (h : w1.cell? ⟨p, 0, none⟩ = some x ∧ w1.cell? ⟨q, 0, none⟩ = some y ∧ w1.cell? ⟨q, 1, none⟩ = some z) : w2.cell? ⟨p, 0, none⟩ = some x ∧ w2.cell? ⟨q, 0, none⟩ = some y ∧ w2.cell? ⟨q, 1, none⟩ = some z := k3_below h hb
theorem newRow9 {w w1 : World} (hb : Below (w.alloc (.cells #[.int .i64 0, .int .i64 0, .int .i64 0, .int .i64 0, .int .i64 0, .int .i64 0, .int .i64 0, .int .i64 0, .bool false] 81)).heap.size (w.alloc (.cells #[.int .i64 0, .int .i64 0, .int .i64 0, .int .i64 0, .int .i64 0, .int .i64 0, .int .i64 0, .int .i64 0, .bool false] 81)) w1) : Row w1 w.heap.size 81 [.int .i64 0, .int .i64 0, .int .i64 0, .int .i64 0, .int .i64 0, .int .i64 0, .int .i64 0, .int .i64 0, .bool false] := (Row.new w 81 [.int .i64 0, .int .i64 0, .int .i64 0, .int .i64 0, .int .i64 0, .int .i64 0, .int .i64 0, .int .i64 0, .bool false]).below hb (Row.new w 81 [.int .i64 0, .int .i64 0, .int .i64 0, .int .i64 0, .int .i64 0, .int .i64 0, .int .i64 0, .int .i64 0, .bool false]).lt
theorem newRow9d {w w1 : World} {n : Nat} (hb : Below ((w.alloc (.cells #[.int .i64 0, .int .i64 0, .int .i64 0, .int .i64 0, .int .i64 0, .int .i64 0, .int .i64 0, .int .i64 0, .bool false] 81)).drewN n).heap.size ((w.alloc (.cells #[.int .i64 0, .int .i64 0, .int .i64 0, .int .i64 0, .int .i64 0, .int .i64 0, .int .i64 0, .int .i64 0, .bool false] 81)).drewN n) w1) : Row w1 w.heap.size 81 [.int .i64 0, .int .i64 0, .int .i64 0, .int .i64 0, .int .i64 0, .int .i64 0, .int .i64 0, .int .i64 0, .bool false] := Row.below (w := (w.alloc (.cells #[.int .i64 0, .int .i64 0, .int .i64 0, .int .i64 0, .int .i64 0, .int .i64 0, .int .i64 0, .int .i64 0, .bool false] 81)).drewN n) (Row.new w 81 [.int .i64 0, .int .i64 0, .int .i64 0, .int .i64 0, .int .i64 0, .int .i64 0, .int .i64 0, .int .i64 0, .bool false]) hb (Row.new w 81 [.int .i64 0, .int .i64 0, .int .i64 0, .int .i64 0, .int .i64 0, .int .i64 0, .int .i64 0, .int .i64 0, .bool false]).lt
theorem cells9 {w : World} {g : Nat} {t : TypeId} (h : Row w g t [.int .i64 0, .int .i64 0, .int .i64 0, .int .i64 0, .int .i64 0, .int .i64 0, .int .i64 0, .int .i64 0, .bool false]) : w.cell? ⟨g, 0, none⟩ = some (.int .i64 0) ∧ w.cell? ⟨g, 1, none⟩ = some (.int .i64 0) ∧ w.cell? ⟨g, 2, none⟩ = some (.int .i64 0) ∧ w.cell? ⟨g, 3, none⟩ = some (.int .i64 0) ∧ w.cell? ⟨g, 4, none⟩ = some (.int .i64 0) ∧ w.cell? ⟨g, 5, none⟩ = some (.int .i64 0) ∧ w.cell? ⟨g, 6, none⟩ = some (.int .i64 0) ∧ w.cell? ⟨g, 7, none⟩ = some (.int .i64 0) ∧ w.cell? ⟨g, 8, none⟩ = some (.bool false) ∧ w.frozen? ⟨g, 0, none⟩ = false ∧ w.frozen? ⟨g, 1, none⟩ = false ∧ w.frozen? ⟨g, 2, none⟩ = false ∧ w.frozen? ⟨g, 3, none⟩ = false ∧ w.frozen? ⟨g, 4, none⟩ = false ∧ w.frozen? ⟨g, 5, none⟩ = false ∧ w.frozen? ⟨g, 6, none⟩ = false ∧ w.frozen? ⟨g, 7, none⟩ = false ∧ w.frozen? ⟨g, 8, none⟩ = false := ⟨h.cell 0, h.cell 1, h.cell 2, h.cell 3, h.cell 4, h.cell 5, h.cell 6, h.cell 7, h.cell 8, h.frozen 0, h.frozen 1, h.frozen 2, h.frozen 3, h.frozen 4, h.frozen 5, h.frozen 6, h.frozen 7, h.frozen 8⟩
theorem stab_new (B : Nat) (t : TypeId) (l : List Value) : ∀ (x : Value) (w1 w2 : World), (∃ g, x = .pointer (some ⟨g, 0, none⟩) ∧ B ≤ g ∧ Row w1 g t l) → Below w1.heap.size w1 w2 → ∃ g, x = .pointer (some ⟨g, 0, none⟩) ∧ B ≤ g ∧ Row w2 g t l := by
  rintro x w1 w2 ⟨g, e, hg, h⟩ hb
  exact ⟨g, e, hg, h.below hb h.lt⟩
end Go.Proofs.Ytfmaeicodljgkaa
/- What RibFind's one drawn statement leaves, operation by operation. -/
namespace Go.Proofs.Ytfmaeicodljgkaa
open Go.RowKit Go.Sort

/-- The route V stored into block g. -/
def nineV (w : World) (g : Nat) (V : Rt) : World := nine0 w g (.int .i64 V.a) (.int .i64 V.l) (.int .i64 V.m) (.int .i64 V.n) (.int .i64 V.i) (.int .i64 V.t) (.int .i64 V.u) (.int .i64 V.b) (.bool V.c)
def FG (n1 : Nat) (x y : Value) (rs : List Rt) (V : Rt) (S : Bool) : Nat → (Nat → Value) → World → Prop
  | 0, f, _ => f 0 = x
  | 1, f, W => ∃ B, f 1 = tabV B ∧ MapIs W B rs
  | 2, f, _ => f 2 = y
  | 3, f, _ => f 3 = .tuple #[rtV V, .bool S]
  | 4, f, _ => f 4 = .tuple #[rtV V, .bool S]
  | 5, f, _ => f 5 = rtV V
  | 6, f, _ => f 6 = .bool S
  | 7, f, W => ∃ g, f 7 = .pointer (some ⟨g, 0, none⟩) ∧ n1 ≤ g ∧ (Row W g 81 (rtL zeroR) ∨ Row W g 81 (rtL V))
  | 8, f, W => ∃ g, f 7 = .pointer (some ⟨g, 0, none⟩) ∧ n1 ≤ g ∧ Row W g 81 (rtL V)
  | 9, f, _ => f 9 = .bool S
  | _, _, _ => True
/-- What one operation may do: lay memory behind, or store V into a block that the statement has made. -/
def FR (n1 : Nat) (V : Rt) (w w' : World) : Prop := Below w.heap.size w w' ∨ ∃ g, n1 ≤ g ∧ (Row w g 81 (rtL zeroR) ∨ Row w g 81 (rtL V)) ∧ w' = nineV w g V
theorem nineV_row {w : World} {g : Nat} {t : TypeId} (V Z : Rt) (h : Row w g t (rtL Z)) : Row (nineV w g V) g t (rtL V) := nine0_row h _ _ _ _ _ _ _ _ _
theorem nineV_other {w : World} {g k : Nat} {t : TypeId} {l : List Value} (V : Rt) (h : Row w g t l) (hk : g ≠ k) : Row (nineV w k V) g t l := nine0_other h k hk _ _ _ _ _ _ _ _ _
theorem nineV_below {B : Nat} {w0 w : World} (h : Below B w0 w) (g : Nat) (hg : B ≤ g) (V : Rt) : Below B w0 (nineV w g V) := nine0_below h g hg _ _ _ _ _ _ _ _ _
theorem nineV_map {w : World} {g B : Nat} {t : TypeId} {l : List Value} {rs : List Rt} (V : Rt) (h : MapIs w B rs) (hr : Row w g t l) : MapIs (nineV w g V) B rs := by
  have hne : g ≠ B := by
    intro e
    subst e
    obtain ⟨es, c, hb, _⟩ := h
    have hr' : w.heap[g]? = some (.cells l.toArray t (0, 0)) := hr
    rw [hr'] at hb
    cases hb
  unfold nineV nine0
  exact ((((((((h.set _ hne _).set _ hne _).set _ hne _).set _ hne _).set _ hne _).set _ hne _).set _ hne _).set _ hne _).set _ hne _
theorem FR.row {n1 : Nat} {V Z : Rt} {w w' : World} {g : Nat} (hr : FR n1 V w w') (h : Row w g 81 (rtL Z)) : Row w' g 81 (rtL Z) ∨ Row w' g 81 (rtL V) := by
  rcases hr with hb | ⟨g', _, _, rfl⟩
  · exact .inl (h.below hb h.lt)
  · by_cases e : g = g'
    · subst e; exact .inr (nineV_row V Z h)
    · exact .inl (nineV_other V h e)
theorem FG_stab {n1 : Nat} {x y : Value} {rs : List Rt} {V : Rt} {S : Bool} : ∀ (i : Nat) (f : Nat → Value) (w1 w2 : World), FG n1 x y rs V S i f w1 → FR n1 V w1 w2 → FG n1 x y rs V S i f w2
  | 0, _, _, _, h, _ => h
  | 1, _, _, _, ⟨B, e, h⟩, hr => ⟨B, e, by
    rcases hr with hb | ⟨g', _, hg | hg, rfl⟩
    · exact h.below hb h.lt
    · exact nineV_map V h hg
    · exact nineV_map V h hg⟩
  | 2, _, _, _, h, _ => h
  | 3, _, _, _, h, _ => h
  | 4, _, _, _, h, _ => h
  | 5, _, _, _, h, _ => h
  | 6, _, _, _, h, _ => h
  | 7, _, _, _, ⟨g, e, hg, h⟩, hr => ⟨g, e, hg, by
    rcases h with h | h
    · exact hr.row h
    · rcases hr.row h with h' | h' <;> exact .inr h'⟩
  | 8, _, _, _, ⟨g, e, hg, h⟩, hr => ⟨g, e, hg, by rcases hr.row h with h' | h' <;> exact h'⟩
  | 9, _, _, _, h, _ => h
  | _ + 10, _, _, _, _, _ => trivial
end Go.Proofs.Ytfmaeicodljgkaa
/- The table's own way to find. (Written by gen_mapi.py.) -/
namespace Go.Proofs.Ytfmaeicodljgkaa
open Go.RowKit Go.Sort

theorem find_row (w : World) (x y z v : List Value) (t1 t2 t3 t4 : TypeId) : ∃ W, W = (((w.alloc (.cells x.toArray t1)).alloc (.cells y.toArray t2)).alloc (.cells z.toArray t3)).alloc (.cells v.toArray t4) ∧ Row W (w.heap.size + 1 + 1) t3 z ∧ Below w.heap.size w W := by
  obtain ⟨W, rfl, -, -, q2, hB, hS, -⟩ := rows3 w x y z t1 t2 t3
  exact ⟨_, rfl, q2.alloc _, hB.alloc hB.size _⟩
set_option maxRecDepth 100000 in
set_option maxHeartbeats 1000000 in
theorem find_any (B : Nat) (rs : List Rt) (a l : Int) (w : World) (h : MapIs w B rs) :
    Calls Try.prog 74 #[tabV B, netV a l] w fun e w' => e = .returned (.tuple #[rtV ((lookN rs a l).getD zeroR), .bool (lookN rs a l).isSome]) ∧ Below w.heap.size w w' := by
  have hlt := h.lt
  obtain ⟨W, hW, q0, q1, q2, hB, hS, -⟩ := rows3 w [.map (some B), .func (.func 93) #[] #[]] [.int .i64 a, .int .i64 l] [.int .i64 0, .int .i64 0, .int .i64 0, .int .i64 0, .int .i64 0, .int .i64 0, .int .i64 0, .int .i64 0, .bool false] 121 55 81
  have hrun := map_look (h.below hB hlt) a l
  rw [hW] at hrun
  clear h hW q0 q1 q2 hB hS
  generalize (lookN rs a l).isSome = S at *
  generalize (lookN rs a l).getD zeroR = V at *
  obtain ⟨A, L, M, N, I, T, U, E, C⟩ := V
  unfold tabV netV rtV rtA
  unfold netV rtV rtA at hrun
  simp only at hrun ⊢
  obtain ⟨Z, hZ, q3, hbZ⟩ := find_row w [.map (some B), .func (.func 93) #[] #[]] [.int .i64 a, .int .i64 l] [.int .i64 A, .int .i64 L, .int .i64 M, .int .i64 N, .int .i64 I, .int .i64 T, .int .i64 U, .int .i64 E, .bool C] [.int .i64 A, .int .i64 L, .int .i64 M, .int .i64 N, .int .i64 I, .int .i64 T, .int .i64 U, .int .i64 E, .bool C] 121 55 81 81
  have HZ : Hid _ := And.intro hZ (And.intro q3 hbZ)
  clear hZ q3 hbZ
  go_enter Try.func74, Try.ntmps74
  go_wp2_with fail
  obtain ⟨hZ, q3, hbZ⟩ := HZ.out
  rw [show (((w.alloc (.cells #[.map (some B), .func (.func 93) #[] #[]] 121)).alloc (.cells #[.int .i64 a, .int .i64 l] 55)).alloc (.cells #[.int .i64 A, .int .i64 L, .int .i64 M, .int .i64 N, .int .i64 I, .int .i64 T, .int .i64 U, .int .i64 E, .bool C] 81)).alloc (.cells #[.int .i64 A, .int .i64 L, .int .i64 M, .int .i64 N, .int .i64 I, .int .i64 T, .int .i64 U, .int .i64 E, .bool C] 81) = Z from hZ.symm]
  have e0 : Z.cell? ⟨w.heap.size + 1 + 1, 0, none⟩ = some (.int .i64 A) := q3.cell 0
  have e1 : Z.cell? ⟨w.heap.size + 1 + 1, 1, none⟩ = some (.int .i64 L) := q3.cell 1
  have e2 : Z.cell? ⟨w.heap.size + 1 + 1, 2, none⟩ = some (.int .i64 M) := q3.cell 2
  have e3 : Z.cell? ⟨w.heap.size + 1 + 1, 3, none⟩ = some (.int .i64 N) := q3.cell 3
  have e4 : Z.cell? ⟨w.heap.size + 1 + 1, 4, none⟩ = some (.int .i64 I) := q3.cell 4
  have e5 : Z.cell? ⟨w.heap.size + 1 + 1, 5, none⟩ = some (.int .i64 T) := q3.cell 5
  have e6 : Z.cell? ⟨w.heap.size + 1 + 1, 6, none⟩ = some (.int .i64 U) := q3.cell 6
  have e7 : Z.cell? ⟨w.heap.size + 1 + 1, 7, none⟩ = some (.int .i64 E) := q3.cell 7
  have e8 : Z.cell? ⟨w.heap.size + 1 + 1, 8, none⟩ = some (.bool C) := q3.cell 8
  refine bodyPost_ret (v := .tuple #[.agg #[.int .i64 A, .int .i64 L, .int .i64 M, .int .i64 N, .int .i64 I, .int .i64 T, .int .i64 U, .int .i64 E, .bool C], .bool S]) (by simp [results, Try.results74, go_sem, e0, e1, e2, e3, e4, e5, e6, e7, e8]) rfl ⟨rfl, hbZ⟩

end Go.Proofs.Ytfmaeicodljgkaa
/- RibFind of the program. (Written by gen_find.py.) -/
namespace Go.Proofs.Ytfmaeicodljgkaa
open Go.RowKit Go.Sort

set_option maxRecDepth 100000 in
set_option maxHeartbeats 2000000 in
theorem implFind_any (p : Option Addr) (cap : Nat) (rs : List Rt) (a l : Int) (w : World) (h : RtsIn w p rs) (hn : rs.length ≤ 100000000) :
    Calls Try.prog 46 #[ribV p rs.length cap, netV a l] w fun e w' => e = .returned (rtV (findR rs a l)) ∧ Below w.heap.size w w' := by
  have HB : Hid (∀ w, RtsIn w p rs → Calls Try.prog 30 #[ribV p rs.length cap] w fun e w' => e = .returned (.bool (ribB rs)) ∧ Below w.heap.size w w') := fun w h => implRib_any p cap rs w h hn
  have HX : Hid (RtsIn w p rs) := h
  clear h
  cases hR : ribB rs with
  | false =>
    have HR : Hid (findR rs a l = zeroR) := findR_bad hR
    rw [hR] at HB
    clear hR
    unfold ribV netV at *
    go_enter Try.func46, Try.ntmps46
    go_wp2_with fail
    refine (HB.out _ (((HX.out.alloc _).alloc _).alloc _)).mono ?_
    rintro e w1 ⟨rfl, hb1⟩
    obtain ⟨q0, q1, q2, hB, hs⟩ := boxes3 w [.slice p rs.length cap] [.int .i64 a, .int .i64 l] [.int .i64 0, .int .i64 0, .int .i64 0, .int .i64 0, .int .i64 0, .int .i64 0, .int .i64 0, .int .i64 0, .bool false] 33 55 81 hb1
    clear hb1
    have e0 : w1.cell? ⟨w.heap.size + 1 + 1, 0, none⟩ = some (.int .i64 0) := q2.cell 0
    have f0 : w1.frozen? ⟨w.heap.size + 1 + 1, 0, none⟩ = false := q2.frozen 0
    have e1 : w1.cell? ⟨w.heap.size + 1 + 1, 1, none⟩ = some (.int .i64 0) := q2.cell 1
    have f1 : w1.frozen? ⟨w.heap.size + 1 + 1, 1, none⟩ = false := q2.frozen 1
    have e2 : w1.cell? ⟨w.heap.size + 1 + 1, 2, none⟩ = some (.int .i64 0) := q2.cell 2
    have f2 : w1.frozen? ⟨w.heap.size + 1 + 1, 2, none⟩ = false := q2.frozen 2
    have e3 : w1.cell? ⟨w.heap.size + 1 + 1, 3, none⟩ = some (.int .i64 0) := q2.cell 3
    have f3 : w1.frozen? ⟨w.heap.size + 1 + 1, 3, none⟩ = false := q2.frozen 3
    have e4 : w1.cell? ⟨w.heap.size + 1 + 1, 4, none⟩ = some (.int .i64 0) := q2.cell 4
    have f4 : w1.frozen? ⟨w.heap.size + 1 + 1, 4, none⟩ = false := q2.frozen 4
    have e5 : w1.cell? ⟨w.heap.size + 1 + 1, 5, none⟩ = some (.int .i64 0) := q2.cell 5
    have f5 : w1.frozen? ⟨w.heap.size + 1 + 1, 5, none⟩ = false := q2.frozen 5
    have e6 : w1.cell? ⟨w.heap.size + 1 + 1, 6, none⟩ = some (.int .i64 0) := q2.cell 6
    have f6 : w1.frozen? ⟨w.heap.size + 1 + 1, 6, none⟩ = false := q2.frozen 6
    have e7 : w1.cell? ⟨w.heap.size + 1 + 1, 7, none⟩ = some (.int .i64 0) := q2.cell 7
    have f7 : w1.frozen? ⟨w.heap.size + 1 + 1, 7, none⟩ = false := q2.frozen 7
    have e8 : w1.cell? ⟨w.heap.size + 1 + 1, 8, none⟩ = some (.bool false) := q2.cell 8
    have f8 : w1.frozen? ⟨w.heap.size + 1 + 1, 8, none⟩ = false := q2.frozen 8
    have HH : Hid _ := And.intro ((((((((((q2.set 0 (.int .i64 0)).set 1 (.int .i64 0)).set 2 (.int .i64 0)).set 3 (.int .i64 0)).set 4 (.int .i64 0)).set 5 (.int .i64 0)).set 6 (.int .i64 0)).set 7 (.int .i64 0)).set 8 (.bool false))) ((((((((((hB.setCell (p := ⟨w.heap.size + 1 + 1, 0, none⟩) (by show w.heap.size ≤ w.heap.size + 1 + 1; omega) (.int .i64 0)).setCell (p := ⟨w.heap.size + 1 + 1, 1, none⟩) (by show w.heap.size ≤ w.heap.size + 1 + 1; omega) (.int .i64 0)).setCell (p := ⟨w.heap.size + 1 + 1, 2, none⟩) (by show w.heap.size ≤ w.heap.size + 1 + 1; omega) (.int .i64 0)).setCell (p := ⟨w.heap.size + 1 + 1, 3, none⟩) (by show w.heap.size ≤ w.heap.size + 1 + 1; omega) (.int .i64 0)).setCell (p := ⟨w.heap.size + 1 + 1, 4, none⟩) (by show w.heap.size ≤ w.heap.size + 1 + 1; omega) (.int .i64 0)).setCell (p := ⟨w.heap.size + 1 + 1, 5, none⟩) (by show w.heap.size ≤ w.heap.size + 1 + 1; omega) (.int .i64 0)).setCell (p := ⟨w.heap.size + 1 + 1, 6, none⟩) (by show w.heap.size ≤ w.heap.size + 1 + 1; omega) (.int .i64 0)).setCell (p := ⟨w.heap.size + 1 + 1, 7, none⟩) (by show w.heap.size ≤ w.heap.size + 1 + 1; omega) (.int .i64 0)).setCell (p := ⟨w.heap.size + 1 + 1, 8, none⟩) (by show w.heap.size ≤ w.heap.size + 1 + 1; omega) (.bool false)))
    clear q0 q1 q2 hB HB HX
    go_wp2_with fail
    have HH2 := HH.out
    clear HH e0 f0 e1 f1 e2 f2 e3 f3 e4 f4 e5 f5 e6 f6 e7 f7 e8 f8
    generalize (((((((((w1.setCell ⟨w.heap.size + 1 + 1, 0, none⟩ (.int .i64 0)).setCell ⟨w.heap.size + 1 + 1, 1, none⟩ (.int .i64 0)).setCell ⟨w.heap.size + 1 + 1, 2, none⟩ (.int .i64 0)).setCell ⟨w.heap.size + 1 + 1, 3, none⟩ (.int .i64 0)).setCell ⟨w.heap.size + 1 + 1, 4, none⟩ (.int .i64 0)).setCell ⟨w.heap.size + 1 + 1, 5, none⟩ (.int .i64 0)).setCell ⟨w.heap.size + 1 + 1, 6, none⟩ (.int .i64 0)).setCell ⟨w.heap.size + 1 + 1, 7, none⟩ (.int .i64 0)).setCell ⟨w.heap.size + 1 + 1, 8, none⟩ (.bool false)) = Z at *
    obtain ⟨h1, h2⟩ := HH2
    have e0 : Z.cell? ⟨w.heap.size + 1 + 1, 0, none⟩ = some (.int .i64 0) := h1.cell 0
    have e1 : Z.cell? ⟨w.heap.size + 1 + 1, 1, none⟩ = some (.int .i64 0) := h1.cell 1
    have e2 : Z.cell? ⟨w.heap.size + 1 + 1, 2, none⟩ = some (.int .i64 0) := h1.cell 2
    have e3 : Z.cell? ⟨w.heap.size + 1 + 1, 3, none⟩ = some (.int .i64 0) := h1.cell 3
    have e4 : Z.cell? ⟨w.heap.size + 1 + 1, 4, none⟩ = some (.int .i64 0) := h1.cell 4
    have e5 : Z.cell? ⟨w.heap.size + 1 + 1, 5, none⟩ = some (.int .i64 0) := h1.cell 5
    have e6 : Z.cell? ⟨w.heap.size + 1 + 1, 6, none⟩ = some (.int .i64 0) := h1.cell 6
    have e7 : Z.cell? ⟨w.heap.size + 1 + 1, 7, none⟩ = some (.int .i64 0) := h1.cell 7
    have e8 : Z.cell? ⟨w.heap.size + 1 + 1, 8, none⟩ = some (.bool false) := h1.cell 8
    refine bodyPost_ret (v := .agg #[.int .i64 0, .int .i64 0, .int .i64 0, .int .i64 0, .int .i64 0, .int .i64 0, .int .i64 0, .int .i64 0, .bool false]) (by simp [results, Try.results46, go_sem, e0, e1, e2, e3, e4, e5, e6, e7, e8]) rfl ⟨by rw [HR.out]; rfl, h2⟩
  | true =>
    have HR : Hid (findR rs a l = (lookN rs a l).getD zeroR) := findR_right hR
    rw [hR] at HB
    have HL : Hid (∀ w, RtsIn w p rs → Calls Try.prog 73 #[ribV p rs.length cap] w fun e w' => ∃ B, e = .returned (tabV B) ∧ w.heap.size ≤ B ∧ MapIs w' B rs ∧ Below w.heap.size w w') := fun w h => by have := laidOut_any p cap rs w h hn; rw [laidN_right hR] at this; exact this
    have HF : Hid (∀ B w, MapIs w B rs → Calls Try.prog 74 #[.agg #[.map (some B), .func (.func 93) #[] #[]], .agg #[.int .i64 a, .int .i64 l]] w fun e w' => e = .returned (.tuple #[rtV ((lookN rs a l).getD zeroR), .bool (lookN rs a l).isSome]) ∧ Below w.heap.size w w') := fun B w h => find_any B rs a l w h
    clear hR
    generalize (lookN rs a l).isSome = S at *
    generalize (lookN rs a l).getD zeroR = V at *
    obtain ⟨A, L, M, N, I, T, U, E, C⟩ := V
    unfold ribV netV at *
    unfold rtV rtA at HF
    simp only at HF
    generalize rs.length = K at *
    go_enter Try.func46, Try.ntmps46
    go_wp2_with fail
    refine (HB.out _ (((HX.out.alloc _).alloc _).alloc _)).mono ?_
    rintro e w1 ⟨rfl, hb1⟩
    obtain ⟨q0, q1, q2, hB, hs⟩ := boxes3 w [.slice p K cap] [.int .i64 a, .int .i64 l] [.int .i64 0, .int .i64 0, .int .i64 0, .int .i64 0, .int .i64 0, .int .i64 0, .int .i64 0, .int .i64 0, .bool false] 33 55 81 hb1
    clear hb1 HB
    go_wp2_with fail
    refine wp_region_drawn (R := FR w1.heap.size ⟨A, L, M, N, I, T, U, E, C⟩) (J := Below w1.heap.size w1) (G := FG w1.heap.size (.agg #[.slice p K cap]) (.agg #[.int .i64 a, .int .i64 l]) rs ⟨A, L, M, N, I, T, U, E, C⟩ S) (by kernel_rfl) (by kernel_rfl) ?_ ((Below.refl _ w1).drew) ?_ (fun i f u1 u2 _ h hr => FG_stab i f u1 u2 h hr) ?_ ?_
    · intro i o f f' W hi h1 h2 h3
      match i, hi with
      | 0, _ => exact h1.symm.trans h3
      | 1, _ => obtain ⟨B, e, h⟩ := h3; exact ⟨B, h1.symm.trans e, h⟩
      | 2, _ => exact h1.symm.trans h3
      | 3, _ => exact h1.symm.trans h3
      | 4, _ => exact h1.symm.trans h3
      | 5, _ => exact h1.symm.trans h3
      | 6, _ => exact h1.symm.trans h3
      | 7, _ => obtain ⟨g, e, h⟩ := h3; exact ⟨g, h1.symm.trans e, h⟩
      | 8, hi =>
        cases hi
        obtain ⟨g, e, h⟩ := h3
        exact ⟨g, (h2 7 (by decide +kernel)).symm.trans e, h⟩
      | 9, _ => exact h1.symm.trans h3
      | _ + 10, _ => trivial
    · rintro u1 u2 hu (hb | ⟨g, hg, _, rfl⟩)
      · exact hu.trans (hb.mono hu.size)
      · exact nineV_below hu g hg _
    · intro i o hi a' w' hb ha hdep
      match i, hi with
      | 0, hi =>
        cases hi
        have d2 : a'.tmps.getD 2 undef = .pointer (some ⟨w.heap.size, 0, none⟩) := ha.at 2 (by kernel_rfl)
        have x0 : w'.cell? ⟨w.heap.size, 0, none⟩ = some (.slice p K cap) := (q0.below hb q0.lt).cell 0
        clear ha hdep
        go_simp
        exact ⟨_, rfl, .inl (Below.refl _ _), rfl⟩
      | 1, hi =>
        cases hi
        have d12 : a'.tmps.getD 12 undef = .agg #[.slice p K cap] := hdep 0 (by decide +kernel)
        clear ha hdep
        go_simp
        refine (HL.out _ (HX.out.below (hB.trans (hb.mono hB.size)))).mono ?_
        rintro e w2 ⟨B, rfl, _, hm, hb2⟩
        exact ⟨_, rfl, .inl hb2, B, rfl, hm⟩
      | 2, hi =>
        cases hi
        have d3 : a'.tmps.getD 3 undef = .pointer (some ⟨w.heap.size + 1, 0, none⟩) := ha.at 3 (by kernel_rfl)
        have x0 : w'.cell? ⟨w.heap.size + 1, 0, none⟩ = some (.int .i64 a) := (q1.below hb q1.lt).cell 0
        have x1 : w'.cell? ⟨w.heap.size + 1, 1, none⟩ = some (.int .i64 l) := (q1.below hb q1.lt).cell 1
        clear ha hdep
        go_simp
        exact ⟨_, rfl, .inl (Below.refl _ _), rfl⟩
      | 3, hi =>
        cases hi
        obtain ⟨B, d13, hm⟩ : ∃ B, a'.tmps.getD 13 undef = tabV B ∧ MapIs w' B rs := hdep 1 (by decide +kernel)
        have d14 : a'.tmps.getD 14 undef = .agg #[.int .i64 a, .int .i64 l] := hdep 2 (by decide +kernel)
        unfold tabV at d13
        clear ha hdep
        go_simp
        refine (HF.out _ _ hm).mono ?_
        rintro e w2 ⟨rfl, hb2⟩
        exact ⟨_, rfl, .inl hb2, rfl⟩
      | 4, hi =>
        cases hi
        have d15 : a'.tmps.getD 15 undef = .tuple #[.agg #[.int .i64 A, .int .i64 L, .int .i64 M, .int .i64 N, .int .i64 I, .int .i64 T, .int .i64 U, .int .i64 E, .bool C], .bool S] := hdep 3 (by decide +kernel)
        clear ha hdep
        go_simp
        exact ⟨_, rfl, .inl (Below.refl _ _), rfl⟩
      | 5, hi =>
        cases hi
        have d11 : a'.tmps.getD 11 undef = .tuple #[.agg #[.int .i64 A, .int .i64 L, .int .i64 M, .int .i64 N, .int .i64 I, .int .i64 T, .int .i64 U, .int .i64 E, .bool C], .bool S] := hdep 4 (by decide +kernel)
        clear ha hdep
        go_simp
        exact ⟨_, rfl, .inl (Below.refl _ _), rfl⟩
      | 6, hi =>
        cases hi
        have d11 : a'.tmps.getD 11 undef = .tuple #[.agg #[.int .i64 A, .int .i64 L, .int .i64 M, .int .i64 N, .int .i64 I, .int .i64 T, .int .i64 U, .int .i64 E, .bool C], .bool S] := hdep 4 (by decide +kernel)
        clear ha hdep
        go_simp
        exact ⟨_, rfl, .inl (Below.refl _ _), rfl⟩
      | 7, hi =>
        cases hi
        clear ha hdep
        go_simp
        exact ⟨_, rfl, .inl (ent_new0 _ _), w'.heap.size, rfl, hb.size, .inl (Row.new w' 81 [.int .i64 0, .int .i64 0, .int .i64 0, .int .i64 0, .int .i64 0, .int .i64 0, .int .i64 0, .int .i64 0, .bool false])⟩
      | 8, hi =>
        cases hi
        obtain ⟨g, d5, hg, hrow⟩ : ∃ g, a'.tmps.getD 5 undef = .pointer (some ⟨g, 0, none⟩) ∧ w1.heap.size ≤ g ∧ (Row w' g 81 (rtL zeroR) ∨ Row w' g 81 (rtL ⟨A, L, M, N, I, T, U, E, C⟩)) := hdep 7 (by decide +kernel)
        have d16 : a'.tmps.getD 16 undef = .agg #[.int .i64 A, .int .i64 L, .int .i64 M, .int .i64 N, .int .i64 I, .int .i64 T, .int .i64 U, .int .i64 E, .bool C] := hdep 5 (by decide +kernel)
        have hr0 : ∃ Z : Rt, Row w' g 81 (rtL Z) := by rcases hrow with h | h <;> exact ⟨_, h⟩
        obtain ⟨Z, hz⟩ := hr0
        have e0 : w'.cell? ⟨g, 0, none⟩ = some (.int .i64 Z.a) := hz.cell 0
        have f0 : w'.frozen? ⟨g, 0, none⟩ = false := hz.frozen 0
        have e1 : w'.cell? ⟨g, 1, none⟩ = some (.int .i64 Z.l) := hz.cell 1
        have f1 : w'.frozen? ⟨g, 1, none⟩ = false := hz.frozen 1
        have e2 : w'.cell? ⟨g, 2, none⟩ = some (.int .i64 Z.m) := hz.cell 2
        have f2 : w'.frozen? ⟨g, 2, none⟩ = false := hz.frozen 2
        have e3 : w'.cell? ⟨g, 3, none⟩ = some (.int .i64 Z.n) := hz.cell 3
        have f3 : w'.frozen? ⟨g, 3, none⟩ = false := hz.frozen 3
        have e4 : w'.cell? ⟨g, 4, none⟩ = some (.int .i64 Z.i) := hz.cell 4
        have f4 : w'.frozen? ⟨g, 4, none⟩ = false := hz.frozen 4
        have e5 : w'.cell? ⟨g, 5, none⟩ = some (.int .i64 Z.t) := hz.cell 5
        have f5 : w'.frozen? ⟨g, 5, none⟩ = false := hz.frozen 5
        have e6 : w'.cell? ⟨g, 6, none⟩ = some (.int .i64 Z.u) := hz.cell 6
        have f6 : w'.frozen? ⟨g, 6, none⟩ = false := hz.frozen 6
        have e7 : w'.cell? ⟨g, 7, none⟩ = some (.int .i64 Z.b) := hz.cell 7
        have f7 : w'.frozen? ⟨g, 7, none⟩ = false := hz.frozen 7
        have e8 : w'.cell? ⟨g, 8, none⟩ = some (.bool Z.c) := hz.cell 8
        have f8 : w'.frozen? ⟨g, 8, none⟩ = false := hz.frozen 8
        have hv := nineV_row ⟨A, L, M, N, I, T, U, E, C⟩ Z hz
        have HV : Hid _ := And.intro hv (And.intro hrow d5)
        clear ha hdep hv hrow hz
        go_simp
        exact ⟨.inr ⟨g, hg, HV.out.2.1, rfl⟩, g, HV.out.2.2, hg, HV.out.1⟩
      | 9, hi =>
        cases hi
        have d17 : a'.tmps.getD 17 undef = .bool S := hdep 6 (by decide +kernel)
        clear ha hdep
        go_simp
        exact ⟨_, rfl, .inl (Below.refl _ _), rfl⟩
      | _ + 10, hi => exact absurd hi (by simp)
    · intro a' w' hb ha hG
      obtain ⟨g, d5, hgl, hrg⟩ : ∃ g, a'.tmps.getD 5 undef = .pointer (some ⟨g, 0, none⟩) ∧ w1.heap.size ≤ g ∧ Row w' g 81 (rtL ⟨A, L, M, N, I, T, U, E, C⟩) := hG 8 _ rfl
      have d4 : a'.tmps.getD 4 undef = .pointer (some ⟨w.heap.size + 1 + 1, 0, none⟩) := ha.at 4 (by kernel_rfl)
      have e2 : a' = ⟨#[a'.tmps.getD 0 undef, a'.tmps.getD 1 undef, a'.tmps.getD 2 undef, a'.tmps.getD 3 undef, a'.tmps.getD 4 undef, a'.tmps.getD 5 undef, a'.tmps.getD 6 undef, a'.tmps.getD 7 undef, a'.tmps.getD 8 undef, a'.tmps.getD 9 undef, a'.tmps.getD 10 undef, a'.tmps.getD 11 undef, a'.tmps.getD 12 undef, a'.tmps.getD 13 undef, a'.tmps.getD 14 undef, a'.tmps.getD 15 undef, a'.tmps.getD 16 undef, a'.tmps.getD 17 undef, a'.tmps.getD 18 undef], []⟩ := by rw [← (show a'.defers = [] from ha.2.1)]; exact act_eq a' 19 ha.1
      rw [d5, d4] at e2
      clear hG ha d5 d4
      generalize a'.tmps.getD 0 undef = x0 at *
      generalize a'.tmps.getD 1 undef = x1 at *
      generalize a'.tmps.getD 2 undef = x2 at *
      generalize a'.tmps.getD 3 undef = x3 at *
      generalize a'.tmps.getD 6 undef = x6 at *
      generalize a'.tmps.getD 7 undef = x7 at *
      generalize a'.tmps.getD 8 undef = x8 at *
      generalize a'.tmps.getD 9 undef = x9 at *
      generalize a'.tmps.getD 10 undef = x10 at *
      generalize a'.tmps.getD 11 undef = x11 at *
      generalize a'.tmps.getD 12 undef = x12 at *
      generalize a'.tmps.getD 13 undef = x13 at *
      generalize a'.tmps.getD 14 undef = x14 at *
      generalize a'.tmps.getD 15 undef = x15 at *
      generalize a'.tmps.getD 16 undef = x16 at *
      generalize a'.tmps.getD 17 undef = x17 at *
      generalize a'.tmps.getD 18 undef = x18 at *
      subst e2
      have q2' := (q2.below hb q2.lt)
      have hB' := hB.trans (hb.mono hB.size)
      have hgn : ¬ g = w.heap.size + 1 + 1 := by omega
      have hgn' : ¬ w.heap.size + 1 + 1 = g := fun h => hgn h.symm
      have e0 : w'.cell? ⟨w.heap.size + 1 + 1, 0, none⟩ = some (.int .i64 0) := q2'.cell 0
      have f0 : w'.frozen? ⟨w.heap.size + 1 + 1, 0, none⟩ = false := q2'.frozen 0
      have i0 : w'.cell? ⟨g, 0, none⟩ = some (.int .i64 A) := hrg.cell 0
      have e1 : w'.cell? ⟨w.heap.size + 1 + 1, 1, none⟩ = some (.int .i64 0) := q2'.cell 1
      have f1 : w'.frozen? ⟨w.heap.size + 1 + 1, 1, none⟩ = false := q2'.frozen 1
      have i1 : w'.cell? ⟨g, 1, none⟩ = some (.int .i64 L) := hrg.cell 1
      have e2 : w'.cell? ⟨w.heap.size + 1 + 1, 2, none⟩ = some (.int .i64 0) := q2'.cell 2
      have f2 : w'.frozen? ⟨w.heap.size + 1 + 1, 2, none⟩ = false := q2'.frozen 2
      have i2 : w'.cell? ⟨g, 2, none⟩ = some (.int .i64 M) := hrg.cell 2
      have e3 : w'.cell? ⟨w.heap.size + 1 + 1, 3, none⟩ = some (.int .i64 0) := q2'.cell 3
      have f3 : w'.frozen? ⟨w.heap.size + 1 + 1, 3, none⟩ = false := q2'.frozen 3
      have i3 : w'.cell? ⟨g, 3, none⟩ = some (.int .i64 N) := hrg.cell 3
      have e4 : w'.cell? ⟨w.heap.size + 1 + 1, 4, none⟩ = some (.int .i64 0) := q2'.cell 4
      have f4 : w'.frozen? ⟨w.heap.size + 1 + 1, 4, none⟩ = false := q2'.frozen 4
      have i4 : w'.cell? ⟨g, 4, none⟩ = some (.int .i64 I) := hrg.cell 4
      have e5 : w'.cell? ⟨w.heap.size + 1 + 1, 5, none⟩ = some (.int .i64 0) := q2'.cell 5
      have f5 : w'.frozen? ⟨w.heap.size + 1 + 1, 5, none⟩ = false := q2'.frozen 5
      have i5 : w'.cell? ⟨g, 5, none⟩ = some (.int .i64 T) := hrg.cell 5
      have e6 : w'.cell? ⟨w.heap.size + 1 + 1, 6, none⟩ = some (.int .i64 0) := q2'.cell 6
      have f6 : w'.frozen? ⟨w.heap.size + 1 + 1, 6, none⟩ = false := q2'.frozen 6
      have i6 : w'.cell? ⟨g, 6, none⟩ = some (.int .i64 U) := hrg.cell 6
      have e7 : w'.cell? ⟨w.heap.size + 1 + 1, 7, none⟩ = some (.int .i64 0) := q2'.cell 7
      have f7 : w'.frozen? ⟨w.heap.size + 1 + 1, 7, none⟩ = false := q2'.frozen 7
      have i7 : w'.cell? ⟨g, 7, none⟩ = some (.int .i64 E) := hrg.cell 7
      have e8 : w'.cell? ⟨w.heap.size + 1 + 1, 8, none⟩ = some (.bool false) := q2'.cell 8
      have f8 : w'.frozen? ⟨w.heap.size + 1 + 1, 8, none⟩ = false := q2'.frozen 8
      have i8 : w'.cell? ⟨g, 8, none⟩ = some (.bool C) := hrg.cell 8
      have HH : Hid _ := And.intro ((((((((((q2'.set 0 (.int .i64 A)).set 1 (.int .i64 L)).set 2 (.int .i64 M)).set 3 (.int .i64 N)).set 4 (.int .i64 I)).set 5 (.int .i64 T)).set 6 (.int .i64 U)).set 7 (.int .i64 E)).set 8 (.bool C))) ((((((((((hB'.setCell (p := ⟨w.heap.size + 1 + 1, 0, none⟩) (by show w.heap.size ≤ w.heap.size + 1 + 1; omega) (.int .i64 A)).setCell (p := ⟨w.heap.size + 1 + 1, 1, none⟩) (by show w.heap.size ≤ w.heap.size + 1 + 1; omega) (.int .i64 L)).setCell (p := ⟨w.heap.size + 1 + 1, 2, none⟩) (by show w.heap.size ≤ w.heap.size + 1 + 1; omega) (.int .i64 M)).setCell (p := ⟨w.heap.size + 1 + 1, 3, none⟩) (by show w.heap.size ≤ w.heap.size + 1 + 1; omega) (.int .i64 N)).setCell (p := ⟨w.heap.size + 1 + 1, 4, none⟩) (by show w.heap.size ≤ w.heap.size + 1 + 1; omega) (.int .i64 I)).setCell (p := ⟨w.heap.size + 1 + 1, 5, none⟩) (by show w.heap.size ≤ w.heap.size + 1 + 1; omega) (.int .i64 T)).setCell (p := ⟨w.heap.size + 1 + 1, 6, none⟩) (by show w.heap.size ≤ w.heap.size + 1 + 1; omega) (.int .i64 U)).setCell (p := ⟨w.heap.size + 1 + 1, 7, none⟩) (by show w.heap.size ≤ w.heap.size + 1 + 1; omega) (.int .i64 E)).setCell (p := ⟨w.heap.size + 1 + 1, 8, none⟩) (by show w.heap.size ≤ w.heap.size + 1 + 1; omega) (.bool C)))
      clear hb q0 q1 q2 hB HL HF HX q2' hB' hrg
      go_wp2_with fail
      have HH2 := HH.out
      clear HH e0 f0 i0 e1 f1 i1 e2 f2 i2 e3 f3 i3 e4 f4 i4 e5 f5 i5 e6 f6 i6 e7 f7 i7 e8 f8 i8
      generalize (((((((((w'.setCell ⟨w.heap.size + 1 + 1, 0, none⟩ (.int .i64 A)).setCell ⟨w.heap.size + 1 + 1, 1, none⟩ (.int .i64 L)).setCell ⟨w.heap.size + 1 + 1, 2, none⟩ (.int .i64 M)).setCell ⟨w.heap.size + 1 + 1, 3, none⟩ (.int .i64 N)).setCell ⟨w.heap.size + 1 + 1, 4, none⟩ (.int .i64 I)).setCell ⟨w.heap.size + 1 + 1, 5, none⟩ (.int .i64 T)).setCell ⟨w.heap.size + 1 + 1, 6, none⟩ (.int .i64 U)).setCell ⟨w.heap.size + 1 + 1, 7, none⟩ (.int .i64 E)).setCell ⟨w.heap.size + 1 + 1, 8, none⟩ (.bool C)) = Z at *
      obtain ⟨h1, h2⟩ := HH2
      have e0 : Z.cell? ⟨w.heap.size + 1 + 1, 0, none⟩ = some (.int .i64 A) := h1.cell 0
      have e1 : Z.cell? ⟨w.heap.size + 1 + 1, 1, none⟩ = some (.int .i64 L) := h1.cell 1
      have e2 : Z.cell? ⟨w.heap.size + 1 + 1, 2, none⟩ = some (.int .i64 M) := h1.cell 2
      have e3 : Z.cell? ⟨w.heap.size + 1 + 1, 3, none⟩ = some (.int .i64 N) := h1.cell 3
      have e4 : Z.cell? ⟨w.heap.size + 1 + 1, 4, none⟩ = some (.int .i64 I) := h1.cell 4
      have e5 : Z.cell? ⟨w.heap.size + 1 + 1, 5, none⟩ = some (.int .i64 T) := h1.cell 5
      have e6 : Z.cell? ⟨w.heap.size + 1 + 1, 6, none⟩ = some (.int .i64 U) := h1.cell 6
      have e7 : Z.cell? ⟨w.heap.size + 1 + 1, 7, none⟩ = some (.int .i64 E) := h1.cell 7
      have e8 : Z.cell? ⟨w.heap.size + 1 + 1, 8, none⟩ = some (.bool C) := h1.cell 8
      refine bodyPost_ret (v := .agg #[.int .i64 A, .int .i64 L, .int .i64 M, .int .i64 N, .int .i64 I, .int .i64 T, .int .i64 U, .int .i64 E, .bool C]) (by simp [results, Try.results46, go_sem, e0, e1, e2, e3, e4, e5, e6, e7, e8]) rfl ⟨by rw [HR.out]; rfl, h2⟩
end Go.Proofs.Ytfmaeicodljgkaa
/- How far a router thinks it is, in plain terms; cmp.Or at int64. (Written by gen_metric.py.) -/
namespace Go.Proofs.Ytfmaeicodljgkaa
open Go.RowKit Go.Sort

theorem stab_twoK (c d : Int) : ∀ (v : Value) (w1 w2 : World), (∃ g, v = .slice (some ⟨g, 0, none⟩) 2 2 ∧ Row w1 g 2 [.int .i64 c, .int .i64 d]) → Below w1.heap.size w1 w2 → ∃ g, v = .slice (some ⟨g, 0, none⟩) 2 2 ∧ Row w2 g 2 [.int .i64 c, .int .i64 d] := by
  rintro v w1 w2 ⟨g, e, h⟩ hb
  exact ⟨g, e, h.below hb h.lt⟩
def orK (c d : Int) : Int := if c = 0 then d else c
set_option maxRecDepth 100000 in
set_option maxHeartbeats 4000000 in
theorem cmpOrK_any (c d : Int) (g : Nat) (w : World) (h : Row w g 2 [.int .i64 c, .int .i64 d]) : Calls Try.prog 45 #[.slice (some ⟨g, 0, none⟩) 2 2] w fun e w' => e = .returned (.int .i64 (orK c d)) ∧ w = w' := by
  have c0 : w.cell? ⟨g, 0, none⟩ = some (.int .i64 c) := h.cell 0
  have c1 : w.cell? ⟨g, 1, none⟩ = some (.int .i64 d) := h.cell 1
  have HR : Hid (orK c d = if c = 0 then d else c) := rfl
  generalize orK c d = R at *
  clear h
  go_enter Try.func45, Try.ntmps45
  go_wp2_with fail
  go_loop [8] (fun i => i = .int .i64 0 ∨ i = .int .i64 1 ∧ c = 0 ∨ i = .int .i64 2 ∧ c = 0 ∧ d = 0) (fun i => 2 - (intOf i).toNat)
  case atStart => exact .inl rfl
  case round =>
    rcases hrel with rfl | ⟨rfl, hc⟩ | ⟨rfl, hc, hd⟩
    · by_cases hc : c = 0
      · have dc : (c != 0) = false := by simp [hc]
        have HC : Hid (c = 0) := hc
        clear hc
        go_wp2
        go_round
        case rel => exact .inr (.inl ⟨by go_num, HC.out⟩)
        case measure => simp [intOf]
      · have dc : (c != 0) = true := bne_iff_ne.2 hc
        have hR : R = c := by rw [HR.out, if_neg hc]
        clear hc
        go_wp2
        go_ret
        exact ⟨by first | rfl | (rw [hR]; rfl), rfl⟩
    · have HC : Hid (c = 0) := hc
      clear hc
      by_cases hd : d = 0
      · have dc : (d != 0) = false := by simp [hd]
        have HD : Hid (d = 0) := hd
        clear hd
        go_wp2
        go_round
        case rel => exact .inr (.inr ⟨by go_num, HC.out, HD.out⟩)
        case measure => simp [intOf]
      · have dc : (d != 0) = true := bne_iff_ne.2 hd
        have hR : R = d := by rw [HR.out, if_pos HC.out]
        clear hd
        go_wp2
        go_ret
        exact ⟨by first | rfl | (rw [hR]; rfl), rfl⟩
    · have hR : R = 0 := by rw [HR.out, if_pos hc, hd]
      clear hc hd
      go_wp2
      go_ret
      exact ⟨by first | rfl | (rw [hR]; rfl), rfl⟩
def metO (ts : List Iv) (ls : List Li) (r a l : Int) : Int := if (meshB ts ls && hasR ts.length r) = true then orK (findR ts[r.toNat]!.rs a l).m 16 else 0
theorem fieldMet_run (A L M O I U V E : Int) (C : Bool) (w : World) : (Instr.field 81 (.agg #[.int .i64 A, .int .i64 L, .int .i64 M, .int .i64 O, .int .i64 I, .int .i64 U, .int .i64 V, .int .i64 E, .bool C]) 1).run Try.prog w = .ok (.int .i64 M) w := by kernel_rfl
end Go.Proofs.Ytfmaeicodljgkaa
/- The place of a net in a table, as the model looks for it. (Cut out of FindS.lean.) -/
namespace Go.Proofs.Ytfmaeicodljgkaa
open Go.RowKit Go.Sort

/-- The place of a net, or -1. -/
def atV (rs : List Rt) (a l : Int) : Int := match idxN rs a l with | some k => (k : Int) | none => -1
theorem atV_hit {rs : List Rt} {a l : Int} {k : Nat} (hk : k < rs.length) (h : ∀ j, j < k → isN a l rs[j]! = false) (hit : isN a l rs[k] = true) : idxN rs a l = some k := by
  unfold idxN
  rw [List.findIdx?_eq_some_iff_getElem]
  refine ⟨hk, hit, fun j hj => ?_⟩
  have := h j hj
  rw [get_bang (by omega)] at this
  simp [this]
theorem atV_none {rs : List Rt} {a l : Int} (h : ∀ j, j < rs.length → isN a l rs[j]! = false) : idxN rs a l = none := by
  unfold idxN
  rw [List.findIdx?_eq_none_iff]
  intro x hx
  obtain ⟨j, hj, rfl⟩ := List.mem_iff_getElem.1 hx
  have := h j hj
  rwa [get_bang hj] at this
set_option maxRecDepth 100000 in
set_option maxHeartbeats 1000000 in
theorem l06At_any (p : Option Addr) (cap : Nat) (rs : List Rt) (a l : Int) (w : World) (h : RtsIn w p rs) (hn : rs.length ≤ 100000000) :
    Calls Try.prog 72 #[ribV p rs.length cap, netV a l] w fun e w' => e = .returned (.int .i64 (atV rs a l)) ∧ Below w.heap.size w w' := by
  have HX : Hid (RtsIn w p rs) := h
  have HH1 : Hid (∀ k (hk : k < rs.length), (∀ j, j < k → isN a l rs[j]! = false) → isN a l rs[k] = true → atV rs a l = (k : Int)) := fun k hk h1 h2 => by unfold atV; rw [atV_hit hk h1 h2]
  have HH2 : Hid ((∀ j, j < rs.length → isN a l rs[j]! = false) → atV rs a l = -1) := fun h1 => by unfold atV; rw [atV_none h1]
  clear h
  generalize atV rs a l = R at *
  unfold ribV netV
  go_enter Try.func72, Try.ntmps72
  go_wp2_with fail
  go_loopw [5] (fun i wr => ∃ k : Nat, k ≤ rs.length ∧ i = .int .i64 k ∧ (∀ j, j < k → isN a l rs[j]! = false) ∧ Below ((w.alloc (.cells #[.slice p rs.length cap] 33)).alloc (.cells #[.int .i64 a, .int .i64 l] 55)).heap.size ((w.alloc (.cells #[.slice p rs.length cap] 33)).alloc (.cells #[.int .i64 a, .int .i64 l] 55)) wr) (fun i _ => rs.length - (intOf i).toNat)
  case atStart => exact ⟨0, Nat.zero_le _, rfl, fun j hj => absurd hj (by omega), Below.refl _ _⟩
  case round =>
    obtain ⟨k, hk, rfl, ha, hb0⟩ := hrel
    have q0 := (Row.new w 33 [.slice p rs.length cap]).alloc (.cells #[.int .i64 a, .int .i64 l] 55)
    have q1 := Row.new (w.alloc (.cells #[.slice p rs.length cap] 33)) 55 [.int .i64 a, .int .i64 l]
    rw [show (w.alloc (.cells #[.slice p rs.length cap] 33)).heap.size = w.heap.size + 1 by simp] at q1
    have x0 : wr.cell? ⟨w.heap.size, 0, none⟩ = some (.slice p rs.length cap) := (q0.below hb0 q0.lt).cell 0
    have y0 : wr.cell? ⟨w.heap.size + 1, 0, none⟩ = some (.int .i64 a) := (q1.below hb0 q1.lt).cell 0
    have y1 : wr.cell? ⟨w.heap.size + 1, 1, none⟩ = some (.int .i64 l) := (q1.below hb0 q1.lt).cell 1
    have hb : Below w.heap.size w wr := ((ent_new0 w _).alloc (by simp) _).trans (hb0.mono (by simp; omega))
    clear q0 q1
    by_cases hlt : k < rs.length
    · have d1 : decide ((k : Int) < (rs.length : Int)) = true := by simpa using hlt
      obtain ⟨g, A, L, M, N, I, T, U, E, C, rfl, hg, hek, c0, c1, c2, c3, c4, c5, c6, c7, c8⟩ := (HX.out.below hb).at k hlt
      clear c2 c3 c4 c5 c6 c7 c8
      by_cases hit : isN a l rs[k] = true
      · have HR : Hid (R = (k : Int)) := HH1.out k hlt ha hit
        rw [hek] at hit
        obtain ⟨rfl, rfl⟩ := isN_eq hit
        clear HH1 HH2 hit hek ha
        have z1 : (A == A) = true := by simp
        have z2 : (L == L) = true := by simp
        go_wp2_with fail
        go_quiet (fail)
        go_wp2
        go_ret
        refine ⟨?_, below_drewN hb _⟩
        rw [HR.out]; rfl
      · have HN : Hid (∀ j, j < k + 1 → isN a l rs[j]! = false) := fun j hj => by
          rcases Nat.lt_or_ge j k with h' | h'
          · exact ha j h'
          · obtain rfl : j = k := by omega
            rw [get_bang hlt]; simpa using hit
        rw [hek] at hit
        clear HH1 HH2 hek ha
        by_cases hA : A = a
        · have z1 : (A == a) = true := by simpa using hA
          have z2 : (L == l) = false := by
            rw [beq_eq_false_iff_ne]
            intro hL
            exact hit (by simp [isN, hA, hL])
          clear hit hA
          go_wp2_with fail
          go_quiet (fail)
          go_wp2
          go_roundw
          case rel => exact ⟨k + 1, hlt, by go_num, HN.out, below_drewN hb0 _⟩
          case measure => simp [intOf]; omega
        · have z1 : (A == a) = false := by simpa using hA
          clear hit hA
          go_wp2_with fail
          go_quiet (fail)
          go_wp2
          go_roundw
          case rel => exact ⟨k + 1, hlt, by go_num, HN.out, below_drewN hb0 _⟩
          case measure => simp [intOf]; omega
    · obtain rfl : k = rs.length := by omega
      have d1 : decide ((rs.length : Int) < (rs.length : Int)) = false := by simp
      have hR := HH2.out ha
      clear hlt hk HH1 HH2 ha
      go_wp2
      go_ret
      exact ⟨by rw [hR]; rfl, hb⟩
end Go.Proofs.Ytfmaeicodljgkaa
/- RibFind of the model. (Written by gen_finds.py; its first part cut out to AtS.lean.) -/
namespace Go.Proofs.Ytfmaeicodljgkaa
open Go.RowKit Go.Sort

set_option maxRecDepth 100000 in
set_option maxHeartbeats 2000000 in
theorem specFind_any (p : Option Addr) (cap : Nat) (rs : List Rt) (a l : Int) (w : World) (h : RtsIn w p rs) (hn : rs.length ≤ 100000000) :
    Calls Try.prog 43 #[ribV p rs.length cap, netV a l] w fun e w' => e = .returned (rtV (findR rs a l)) ∧ Below w.heap.size w w' := by
  have HA : Hid (∀ w, RtsIn w p rs → Calls Try.prog 72 #[.agg #[.slice p rs.length cap], .agg #[.int .i64 a, .int .i64 l]] w fun e w' => e = .returned (.int .i64 (atV rs a l)) ∧ Below w.heap.size w w') := fun w h => l06At_any p cap rs a l w h hn
  have HB : Hid (∀ w, RtsIn w p rs → Calls Try.prog 25 #[.agg #[.slice p rs.length cap]] w fun e w' => e = .returned (.bool (ribB rs)) ∧ Below w.heap.size w w') := fun w h => specRib_any p cap rs w h hn
  have HX : Hid (RtsIn w p rs) := h
  clear h
  unfold ribV netV at *
  by_cases hl : rs.length ≤ 8
  · have d8 : decide (8 < (rs.length : Int)) = false := by simp; omega
    cases hi : idxN rs a l with
    | none =>
      have HR : Hid (findR rs a l = zeroR) := by
        show _ = _
        unfold findR
        rw [idx_none hi]
        split <;> rfl
      have hat : atV rs a l = -1 := by unfold atV; rw [hi]
      rw [hat] at HA
      have dk : decide ((-1 : Int) < 0) = true := by decide
      clear hat hi
      go_enter Try.func43, Try.ntmps43
      go_wp2_with fail
      refine (HA.out _ (((HX.out.alloc _).alloc _).alloc _)).mono ?_
      rintro e w1 ⟨rfl, hb1⟩
      obtain ⟨q0, q1, q2, hB, hs⟩ := boxes3 w [.slice p rs.length cap] [.int .i64 a, .int .i64 l] [.int .i64 0, .int .i64 0, .int .i64 0, .int .i64 0, .int .i64 0, .int .i64 0, .int .i64 0, .int .i64 0, .bool false] 33 55 81 hb1
      have x0 : w1.cell? ⟨w.heap.size, 0, none⟩ = some (.slice p rs.length cap) := q0.cell 0
      clear hb1
      have e0 : w1.cell? ⟨w.heap.size + 1 + 1, 0, none⟩ = some (.int .i64 0) := q2.cell 0
      have f0 : w1.frozen? ⟨w.heap.size + 1 + 1, 0, none⟩ = false := q2.frozen 0
      have e1 : w1.cell? ⟨w.heap.size + 1 + 1, 1, none⟩ = some (.int .i64 0) := q2.cell 1
      have f1 : w1.frozen? ⟨w.heap.size + 1 + 1, 1, none⟩ = false := q2.frozen 1
      have e2 : w1.cell? ⟨w.heap.size + 1 + 1, 2, none⟩ = some (.int .i64 0) := q2.cell 2
      have f2 : w1.frozen? ⟨w.heap.size + 1 + 1, 2, none⟩ = false := q2.frozen 2
      have e3 : w1.cell? ⟨w.heap.size + 1 + 1, 3, none⟩ = some (.int .i64 0) := q2.cell 3
      have f3 : w1.frozen? ⟨w.heap.size + 1 + 1, 3, none⟩ = false := q2.frozen 3
      have e4 : w1.cell? ⟨w.heap.size + 1 + 1, 4, none⟩ = some (.int .i64 0) := q2.cell 4
      have f4 : w1.frozen? ⟨w.heap.size + 1 + 1, 4, none⟩ = false := q2.frozen 4
      have e5 : w1.cell? ⟨w.heap.size + 1 + 1, 5, none⟩ = some (.int .i64 0) := q2.cell 5
      have f5 : w1.frozen? ⟨w.heap.size + 1 + 1, 5, none⟩ = false := q2.frozen 5
      have e6 : w1.cell? ⟨w.heap.size + 1 + 1, 6, none⟩ = some (.int .i64 0) := q2.cell 6
      have f6 : w1.frozen? ⟨w.heap.size + 1 + 1, 6, none⟩ = false := q2.frozen 6
      have e7 : w1.cell? ⟨w.heap.size + 1 + 1, 7, none⟩ = some (.int .i64 0) := q2.cell 7
      have f7 : w1.frozen? ⟨w.heap.size + 1 + 1, 7, none⟩ = false := q2.frozen 7
      have e8 : w1.cell? ⟨w.heap.size + 1 + 1, 8, none⟩ = some (.bool false) := q2.cell 8
      have f8 : w1.frozen? ⟨w.heap.size + 1 + 1, 8, none⟩ = false := q2.frozen 8
      have HH : Hid _ := And.intro ((((((((((q2.set 0 (.int .i64 0)).set 1 (.int .i64 0)).set 2 (.int .i64 0)).set 3 (.int .i64 0)).set 4 (.int .i64 0)).set 5 (.int .i64 0)).set 6 (.int .i64 0)).set 7 (.int .i64 0)).set 8 (.bool false))) ((((((((((hB.setCell (p := ⟨w.heap.size + 1 + 1, 0, none⟩) (by show w.heap.size ≤ w.heap.size + 1 + 1; omega) (.int .i64 0)).setCell (p := ⟨w.heap.size + 1 + 1, 1, none⟩) (by show w.heap.size ≤ w.heap.size + 1 + 1; omega) (.int .i64 0)).setCell (p := ⟨w.heap.size + 1 + 1, 2, none⟩) (by show w.heap.size ≤ w.heap.size + 1 + 1; omega) (.int .i64 0)).setCell (p := ⟨w.heap.size + 1 + 1, 3, none⟩) (by show w.heap.size ≤ w.heap.size + 1 + 1; omega) (.int .i64 0)).setCell (p := ⟨w.heap.size + 1 + 1, 4, none⟩) (by show w.heap.size ≤ w.heap.size + 1 + 1; omega) (.int .i64 0)).setCell (p := ⟨w.heap.size + 1 + 1, 5, none⟩) (by show w.heap.size ≤ w.heap.size + 1 + 1; omega) (.int .i64 0)).setCell (p := ⟨w.heap.size + 1 + 1, 6, none⟩) (by show w.heap.size ≤ w.heap.size + 1 + 1; omega) (.int .i64 0)).setCell (p := ⟨w.heap.size + 1 + 1, 7, none⟩) (by show w.heap.size ≤ w.heap.size + 1 + 1; omega) (.int .i64 0)).setCell (p := ⟨w.heap.size + 1 + 1, 8, none⟩) (by show w.heap.size ≤ w.heap.size + 1 + 1; omega) (.bool false)))
      clear q0 q1 q2 hB HA HB HX
      go_wp2_with fail
      have HH2 := HH.out
      clear HH e0 f0 e1 f1 e2 f2 e3 f3 e4 f4 e5 f5 e6 f6 e7 f7 e8 f8
      generalize (((((((((w1.setCell ⟨w.heap.size + 1 + 1, 0, none⟩ (.int .i64 0)).setCell ⟨w.heap.size + 1 + 1, 1, none⟩ (.int .i64 0)).setCell ⟨w.heap.size + 1 + 1, 2, none⟩ (.int .i64 0)).setCell ⟨w.heap.size + 1 + 1, 3, none⟩ (.int .i64 0)).setCell ⟨w.heap.size + 1 + 1, 4, none⟩ (.int .i64 0)).setCell ⟨w.heap.size + 1 + 1, 5, none⟩ (.int .i64 0)).setCell ⟨w.heap.size + 1 + 1, 6, none⟩ (.int .i64 0)).setCell ⟨w.heap.size + 1 + 1, 7, none⟩ (.int .i64 0)).setCell ⟨w.heap.size + 1 + 1, 8, none⟩ (.bool false)) = Z at *
      obtain ⟨h1, h2⟩ := HH2
      have e0 : Z.cell? ⟨w.heap.size + 1 + 1, 0, none⟩ = some (.int .i64 0) := h1.cell 0
      have e1 : Z.cell? ⟨w.heap.size + 1 + 1, 1, none⟩ = some (.int .i64 0) := h1.cell 1
      have e2 : Z.cell? ⟨w.heap.size + 1 + 1, 2, none⟩ = some (.int .i64 0) := h1.cell 2
      have e3 : Z.cell? ⟨w.heap.size + 1 + 1, 3, none⟩ = some (.int .i64 0) := h1.cell 3
      have e4 : Z.cell? ⟨w.heap.size + 1 + 1, 4, none⟩ = some (.int .i64 0) := h1.cell 4
      have e5 : Z.cell? ⟨w.heap.size + 1 + 1, 5, none⟩ = some (.int .i64 0) := h1.cell 5
      have e6 : Z.cell? ⟨w.heap.size + 1 + 1, 6, none⟩ = some (.int .i64 0) := h1.cell 6
      have e7 : Z.cell? ⟨w.heap.size + 1 + 1, 7, none⟩ = some (.int .i64 0) := h1.cell 7
      have e8 : Z.cell? ⟨w.heap.size + 1 + 1, 8, none⟩ = some (.bool false) := h1.cell 8
      refine bodyPost_ret (v := .agg #[.int .i64 0, .int .i64 0, .int .i64 0, .int .i64 0, .int .i64 0, .int .i64 0, .int .i64 0, .int .i64 0, .bool false]) (by simp [results, Try.results43, go_sem, e0, e1, e2, e3, e4, e5, e6, e7, e8]) rfl ⟨by rw [HR.out]; rfl, h2⟩
    | some k =>
      obtain ⟨hk, hlook, -, -⟩ := idx_get hi
      have hat : atV rs a l = (k : Int) := by unfold atV; rw [hi]
      rw [hat] at HA
      have dk : decide ((k : Int) < 0) = false := by simp
      clear hat hi
      have HF : Hid (∀ B, ribB rs = B → findR rs a l = if B = true then rs[k] else zeroR) := fun B hB => by
        unfold findR
        rw [hB, hlook]
        rfl
      have HK : Hid (k < rs.length) := hk
      go_enter Try.func43, Try.ntmps43
      go_wp2_with fail
      refine (HA.out _ (((HX.out.alloc _).alloc _).alloc _)).mono ?_
      rintro e w1 ⟨rfl, hb1⟩
      obtain ⟨q0, q1, q2, hB, hs⟩ := boxes3 w [.slice p rs.length cap] [.int .i64 a, .int .i64 l] [.int .i64 0, .int .i64 0, .int .i64 0, .int .i64 0, .int .i64 0, .int .i64 0, .int .i64 0, .int .i64 0, .bool false] 33 55 81 hb1
      have x0 : w1.cell? ⟨w.heap.size, 0, none⟩ = some (.slice p rs.length cap) := q0.cell 0
      clear hb1 HA
      go_wp2_with fail
      refine (HB.out _ (HX.out.below hB)).mono ?_
      rintro e w2 ⟨rfl, hb2⟩
      have q0' := q0.below hb2 q0.lt
      have q2' := q2.below hb2 q2.lt
      have hB' := hB.trans (hb2.mono hB.size)
      clear q0 q1 q2 hB hs x0 hb2 HB
      have x0 : w2.cell? ⟨w.heap.size, 0, none⟩ = some (.slice p rs.length cap) := q0'.cell 0
      cases hR : ribB rs with
      | false =>
        have HR : Hid (findR rs a l = zeroR) := HF.out false hR
        clear HF hR
        have e0 : w2.cell? ⟨w.heap.size + 1 + 1, 0, none⟩ = some (.int .i64 0) := q2'.cell 0
        have f0 : w2.frozen? ⟨w.heap.size + 1 + 1, 0, none⟩ = false := q2'.frozen 0
        have e1 : w2.cell? ⟨w.heap.size + 1 + 1, 1, none⟩ = some (.int .i64 0) := q2'.cell 1
        have f1 : w2.frozen? ⟨w.heap.size + 1 + 1, 1, none⟩ = false := q2'.frozen 1
        have e2 : w2.cell? ⟨w.heap.size + 1 + 1, 2, none⟩ = some (.int .i64 0) := q2'.cell 2
        have f2 : w2.frozen? ⟨w.heap.size + 1 + 1, 2, none⟩ = false := q2'.frozen 2
        have e3 : w2.cell? ⟨w.heap.size + 1 + 1, 3, none⟩ = some (.int .i64 0) := q2'.cell 3
        have f3 : w2.frozen? ⟨w.heap.size + 1 + 1, 3, none⟩ = false := q2'.frozen 3
        have e4 : w2.cell? ⟨w.heap.size + 1 + 1, 4, none⟩ = some (.int .i64 0) := q2'.cell 4
        have f4 : w2.frozen? ⟨w.heap.size + 1 + 1, 4, none⟩ = false := q2'.frozen 4
        have e5 : w2.cell? ⟨w.heap.size + 1 + 1, 5, none⟩ = some (.int .i64 0) := q2'.cell 5
        have f5 : w2.frozen? ⟨w.heap.size + 1 + 1, 5, none⟩ = false := q2'.frozen 5
        have e6 : w2.cell? ⟨w.heap.size + 1 + 1, 6, none⟩ = some (.int .i64 0) := q2'.cell 6
        have f6 : w2.frozen? ⟨w.heap.size + 1 + 1, 6, none⟩ = false := q2'.frozen 6
        have e7 : w2.cell? ⟨w.heap.size + 1 + 1, 7, none⟩ = some (.int .i64 0) := q2'.cell 7
        have f7 : w2.frozen? ⟨w.heap.size + 1 + 1, 7, none⟩ = false := q2'.frozen 7
        have e8 : w2.cell? ⟨w.heap.size + 1 + 1, 8, none⟩ = some (.bool false) := q2'.cell 8
        have f8 : w2.frozen? ⟨w.heap.size + 1 + 1, 8, none⟩ = false := q2'.frozen 8
        have HH : Hid _ := And.intro ((((((((((q2'.set 0 (.int .i64 0)).set 1 (.int .i64 0)).set 2 (.int .i64 0)).set 3 (.int .i64 0)).set 4 (.int .i64 0)).set 5 (.int .i64 0)).set 6 (.int .i64 0)).set 7 (.int .i64 0)).set 8 (.bool false))) ((((((((((hB'.setCell (p := ⟨w.heap.size + 1 + 1, 0, none⟩) (by show w.heap.size ≤ w.heap.size + 1 + 1; omega) (.int .i64 0)).setCell (p := ⟨w.heap.size + 1 + 1, 1, none⟩) (by show w.heap.size ≤ w.heap.size + 1 + 1; omega) (.int .i64 0)).setCell (p := ⟨w.heap.size + 1 + 1, 2, none⟩) (by show w.heap.size ≤ w.heap.size + 1 + 1; omega) (.int .i64 0)).setCell (p := ⟨w.heap.size + 1 + 1, 3, none⟩) (by show w.heap.size ≤ w.heap.size + 1 + 1; omega) (.int .i64 0)).setCell (p := ⟨w.heap.size + 1 + 1, 4, none⟩) (by show w.heap.size ≤ w.heap.size + 1 + 1; omega) (.int .i64 0)).setCell (p := ⟨w.heap.size + 1 + 1, 5, none⟩) (by show w.heap.size ≤ w.heap.size + 1 + 1; omega) (.int .i64 0)).setCell (p := ⟨w.heap.size + 1 + 1, 6, none⟩) (by show w.heap.size ≤ w.heap.size + 1 + 1; omega) (.int .i64 0)).setCell (p := ⟨w.heap.size + 1 + 1, 7, none⟩) (by show w.heap.size ≤ w.heap.size + 1 + 1; omega) (.int .i64 0)).setCell (p := ⟨w.heap.size + 1 + 1, 8, none⟩) (by show w.heap.size ≤ w.heap.size + 1 + 1; omega) (.bool false)))
        clear q0' q2' hB' HX
        go_wp2_with fail
        have HH2 := HH.out
        clear HH e0 f0 e1 f1 e2 f2 e3 f3 e4 f4 e5 f5 e6 f6 e7 f7 e8 f8
        generalize (((((((((w2.setCell ⟨w.heap.size + 1 + 1, 0, none⟩ (.int .i64 0)).setCell ⟨w.heap.size + 1 + 1, 1, none⟩ (.int .i64 0)).setCell ⟨w.heap.size + 1 + 1, 2, none⟩ (.int .i64 0)).setCell ⟨w.heap.size + 1 + 1, 3, none⟩ (.int .i64 0)).setCell ⟨w.heap.size + 1 + 1, 4, none⟩ (.int .i64 0)).setCell ⟨w.heap.size + 1 + 1, 5, none⟩ (.int .i64 0)).setCell ⟨w.heap.size + 1 + 1, 6, none⟩ (.int .i64 0)).setCell ⟨w.heap.size + 1 + 1, 7, none⟩ (.int .i64 0)).setCell ⟨w.heap.size + 1 + 1, 8, none⟩ (.bool false)) = Z at *
        obtain ⟨h1, h2⟩ := HH2
        have e0 : Z.cell? ⟨w.heap.size + 1 + 1, 0, none⟩ = some (.int .i64 0) := h1.cell 0
        have e1 : Z.cell? ⟨w.heap.size + 1 + 1, 1, none⟩ = some (.int .i64 0) := h1.cell 1
        have e2 : Z.cell? ⟨w.heap.size + 1 + 1, 2, none⟩ = some (.int .i64 0) := h1.cell 2
        have e3 : Z.cell? ⟨w.heap.size + 1 + 1, 3, none⟩ = some (.int .i64 0) := h1.cell 3
        have e4 : Z.cell? ⟨w.heap.size + 1 + 1, 4, none⟩ = some (.int .i64 0) := h1.cell 4
        have e5 : Z.cell? ⟨w.heap.size + 1 + 1, 5, none⟩ = some (.int .i64 0) := h1.cell 5
        have e6 : Z.cell? ⟨w.heap.size + 1 + 1, 6, none⟩ = some (.int .i64 0) := h1.cell 6
        have e7 : Z.cell? ⟨w.heap.size + 1 + 1, 7, none⟩ = some (.int .i64 0) := h1.cell 7
        have e8 : Z.cell? ⟨w.heap.size + 1 + 1, 8, none⟩ = some (.bool false) := h1.cell 8
        refine bodyPost_ret (v := .agg #[.int .i64 0, .int .i64 0, .int .i64 0, .int .i64 0, .int .i64 0, .int .i64 0, .int .i64 0, .int .i64 0, .bool false]) (by simp [results, Try.results43, go_sem, e0, e1, e2, e3, e4, e5, e6, e7, e8]) rfl ⟨by rw [HR.out]; rfl, h2⟩
      | true =>
        obtain ⟨g, A, L, M, N, I, T, U, E, C, rfl, hg, hek, c0, c1, c2, c3, c4, c5, c6, c7, c8⟩ := (HX.out.below hB').at k hk
        have HR : Hid (findR rs a l = ⟨A, L, M, N, I, T, U, E, C⟩) := by
          show _ = _
          rw [HF.out true hR, if_pos rfl, hek]
        clear HF hR hek
        have e0 : w2.cell? ⟨w.heap.size + 1 + 1, 0, none⟩ = some (.int .i64 0) := q2'.cell 0
        have f0 : w2.frozen? ⟨w.heap.size + 1 + 1, 0, none⟩ = false := q2'.frozen 0
        have e1 : w2.cell? ⟨w.heap.size + 1 + 1, 1, none⟩ = some (.int .i64 0) := q2'.cell 1
        have f1 : w2.frozen? ⟨w.heap.size + 1 + 1, 1, none⟩ = false := q2'.frozen 1
        have e2 : w2.cell? ⟨w.heap.size + 1 + 1, 2, none⟩ = some (.int .i64 0) := q2'.cell 2
        have f2 : w2.frozen? ⟨w.heap.size + 1 + 1, 2, none⟩ = false := q2'.frozen 2
        have e3 : w2.cell? ⟨w.heap.size + 1 + 1, 3, none⟩ = some (.int .i64 0) := q2'.cell 3
        have f3 : w2.frozen? ⟨w.heap.size + 1 + 1, 3, none⟩ = false := q2'.frozen 3
        have e4 : w2.cell? ⟨w.heap.size + 1 + 1, 4, none⟩ = some (.int .i64 0) := q2'.cell 4
        have f4 : w2.frozen? ⟨w.heap.size + 1 + 1, 4, none⟩ = false := q2'.frozen 4
        have e5 : w2.cell? ⟨w.heap.size + 1 + 1, 5, none⟩ = some (.int .i64 0) := q2'.cell 5
        have f5 : w2.frozen? ⟨w.heap.size + 1 + 1, 5, none⟩ = false := q2'.frozen 5
        have e6 : w2.cell? ⟨w.heap.size + 1 + 1, 6, none⟩ = some (.int .i64 0) := q2'.cell 6
        have f6 : w2.frozen? ⟨w.heap.size + 1 + 1, 6, none⟩ = false := q2'.frozen 6
        have e7 : w2.cell? ⟨w.heap.size + 1 + 1, 7, none⟩ = some (.int .i64 0) := q2'.cell 7
        have f7 : w2.frozen? ⟨w.heap.size + 1 + 1, 7, none⟩ = false := q2'.frozen 7
        have e8 : w2.cell? ⟨w.heap.size + 1 + 1, 8, none⟩ = some (.bool false) := q2'.cell 8
        have f8 : w2.frozen? ⟨w.heap.size + 1 + 1, 8, none⟩ = false := q2'.frozen 8
        have HH : Hid _ := And.intro ((((((((((q2'.set 0 (.int .i64 A)).set 1 (.int .i64 L)).set 2 (.int .i64 M)).set 3 (.int .i64 N)).set 4 (.int .i64 I)).set 5 (.int .i64 T)).set 6 (.int .i64 U)).set 7 (.int .i64 E)).set 8 (.bool C))) ((((((((((hB'.setCell (p := ⟨w.heap.size + 1 + 1, 0, none⟩) (by show w.heap.size ≤ w.heap.size + 1 + 1; omega) (.int .i64 A)).setCell (p := ⟨w.heap.size + 1 + 1, 1, none⟩) (by show w.heap.size ≤ w.heap.size + 1 + 1; omega) (.int .i64 L)).setCell (p := ⟨w.heap.size + 1 + 1, 2, none⟩) (by show w.heap.size ≤ w.heap.size + 1 + 1; omega) (.int .i64 M)).setCell (p := ⟨w.heap.size + 1 + 1, 3, none⟩) (by show w.heap.size ≤ w.heap.size + 1 + 1; omega) (.int .i64 N)).setCell (p := ⟨w.heap.size + 1 + 1, 4, none⟩) (by show w.heap.size ≤ w.heap.size + 1 + 1; omega) (.int .i64 I)).setCell (p := ⟨w.heap.size + 1 + 1, 5, none⟩) (by show w.heap.size ≤ w.heap.size + 1 + 1; omega) (.int .i64 T)).setCell (p := ⟨w.heap.size + 1 + 1, 6, none⟩) (by show w.heap.size ≤ w.heap.size + 1 + 1; omega) (.int .i64 U)).setCell (p := ⟨w.heap.size + 1 + 1, 7, none⟩) (by show w.heap.size ≤ w.heap.size + 1 + 1; omega) (.int .i64 E)).setCell (p := ⟨w.heap.size + 1 + 1, 8, none⟩) (by show w.heap.size ≤ w.heap.size + 1 + 1; omega) (.bool C)))
        clear q0' q2' hB' HX
        go_wp2_with fail
        have HH2 := HH.out
        clear HH e0 f0 e1 f1 e2 f2 e3 f3 e4 f4 e5 f5 e6 f6 e7 f7 e8 f8
        generalize (((((((((w2.setCell ⟨w.heap.size + 1 + 1, 0, none⟩ (.int .i64 A)).setCell ⟨w.heap.size + 1 + 1, 1, none⟩ (.int .i64 L)).setCell ⟨w.heap.size + 1 + 1, 2, none⟩ (.int .i64 M)).setCell ⟨w.heap.size + 1 + 1, 3, none⟩ (.int .i64 N)).setCell ⟨w.heap.size + 1 + 1, 4, none⟩ (.int .i64 I)).setCell ⟨w.heap.size + 1 + 1, 5, none⟩ (.int .i64 T)).setCell ⟨w.heap.size + 1 + 1, 6, none⟩ (.int .i64 U)).setCell ⟨w.heap.size + 1 + 1, 7, none⟩ (.int .i64 E)).setCell ⟨w.heap.size + 1 + 1, 8, none⟩ (.bool C)) = Z at *
        obtain ⟨h1, h2⟩ := HH2
        have e0 : Z.cell? ⟨w.heap.size + 1 + 1, 0, none⟩ = some (.int .i64 A) := h1.cell 0
        have e1 : Z.cell? ⟨w.heap.size + 1 + 1, 1, none⟩ = some (.int .i64 L) := h1.cell 1
        have e2 : Z.cell? ⟨w.heap.size + 1 + 1, 2, none⟩ = some (.int .i64 M) := h1.cell 2
        have e3 : Z.cell? ⟨w.heap.size + 1 + 1, 3, none⟩ = some (.int .i64 N) := h1.cell 3
        have e4 : Z.cell? ⟨w.heap.size + 1 + 1, 4, none⟩ = some (.int .i64 I) := h1.cell 4
        have e5 : Z.cell? ⟨w.heap.size + 1 + 1, 5, none⟩ = some (.int .i64 T) := h1.cell 5
        have e6 : Z.cell? ⟨w.heap.size + 1 + 1, 6, none⟩ = some (.int .i64 U) := h1.cell 6
        have e7 : Z.cell? ⟨w.heap.size + 1 + 1, 7, none⟩ = some (.int .i64 E) := h1.cell 7
        have e8 : Z.cell? ⟨w.heap.size + 1 + 1, 8, none⟩ = some (.bool C) := h1.cell 8
        refine bodyPost_ret (v := .agg #[.int .i64 A, .int .i64 L, .int .i64 M, .int .i64 N, .int .i64 I, .int .i64 T, .int .i64 U, .int .i64 E, .bool C]) (by simp [results, Try.results43, go_sem, e0, e1, e2, e3, e4, e5, e6, e7, e8]) rfl ⟨by rw [HR.out]; rfl, h2⟩
  · have d8 : decide (8 < (rs.length : Int)) = true := by simp; omega
    have HR : Hid (findR rs a l = zeroR) := findR_bad (ribB_long hl)
    generalize atV rs a l = X at *
    go_enter Try.func43, Try.ntmps43
    go_wp2_with fail
    refine (HA.out _ (((HX.out.alloc _).alloc _).alloc _)).mono ?_
    rintro e w1 ⟨rfl, hb1⟩
    obtain ⟨q0, q1, q2, hB, hs⟩ := boxes3 w [.slice p rs.length cap] [.int .i64 a, .int .i64 l] [.int .i64 0, .int .i64 0, .int .i64 0, .int .i64 0, .int .i64 0, .int .i64 0, .int .i64 0, .int .i64 0, .bool false] 33 55 81 hb1
    have x0 : w1.cell? ⟨w.heap.size, 0, none⟩ = some (.slice p rs.length cap) := q0.cell 0
    clear hb1
    have e0 : w1.cell? ⟨w.heap.size + 1 + 1, 0, none⟩ = some (.int .i64 0) := q2.cell 0
    have f0 : w1.frozen? ⟨w.heap.size + 1 + 1, 0, none⟩ = false := q2.frozen 0
    have e1 : w1.cell? ⟨w.heap.size + 1 + 1, 1, none⟩ = some (.int .i64 0) := q2.cell 1
    have f1 : w1.frozen? ⟨w.heap.size + 1 + 1, 1, none⟩ = false := q2.frozen 1
    have e2 : w1.cell? ⟨w.heap.size + 1 + 1, 2, none⟩ = some (.int .i64 0) := q2.cell 2
    have f2 : w1.frozen? ⟨w.heap.size + 1 + 1, 2, none⟩ = false := q2.frozen 2
    have e3 : w1.cell? ⟨w.heap.size + 1 + 1, 3, none⟩ = some (.int .i64 0) := q2.cell 3
    have f3 : w1.frozen? ⟨w.heap.size + 1 + 1, 3, none⟩ = false := q2.frozen 3
    have e4 : w1.cell? ⟨w.heap.size + 1 + 1, 4, none⟩ = some (.int .i64 0) := q2.cell 4
    have f4 : w1.frozen? ⟨w.heap.size + 1 + 1, 4, none⟩ = false := q2.frozen 4
    have e5 : w1.cell? ⟨w.heap.size + 1 + 1, 5, none⟩ = some (.int .i64 0) := q2.cell 5
    have f5 : w1.frozen? ⟨w.heap.size + 1 + 1, 5, none⟩ = false := q2.frozen 5
    have e6 : w1.cell? ⟨w.heap.size + 1 + 1, 6, none⟩ = some (.int .i64 0) := q2.cell 6
    have f6 : w1.frozen? ⟨w.heap.size + 1 + 1, 6, none⟩ = false := q2.frozen 6
    have e7 : w1.cell? ⟨w.heap.size + 1 + 1, 7, none⟩ = some (.int .i64 0) := q2.cell 7
    have f7 : w1.frozen? ⟨w.heap.size + 1 + 1, 7, none⟩ = false := q2.frozen 7
    have e8 : w1.cell? ⟨w.heap.size + 1 + 1, 8, none⟩ = some (.bool false) := q2.cell 8
    have f8 : w1.frozen? ⟨w.heap.size + 1 + 1, 8, none⟩ = false := q2.frozen 8
    have HH : Hid _ := And.intro ((((((((((q2.set 0 (.int .i64 0)).set 1 (.int .i64 0)).set 2 (.int .i64 0)).set 3 (.int .i64 0)).set 4 (.int .i64 0)).set 5 (.int .i64 0)).set 6 (.int .i64 0)).set 7 (.int .i64 0)).set 8 (.bool false))) ((((((((((hB.setCell (p := ⟨w.heap.size + 1 + 1, 0, none⟩) (by show w.heap.size ≤ w.heap.size + 1 + 1; omega) (.int .i64 0)).setCell (p := ⟨w.heap.size + 1 + 1, 1, none⟩) (by show w.heap.size ≤ w.heap.size + 1 + 1; omega) (.int .i64 0)).setCell (p := ⟨w.heap.size + 1 + 1, 2, none⟩) (by show w.heap.size ≤ w.heap.size + 1 + 1; omega) (.int .i64 0)).setCell (p := ⟨w.heap.size + 1 + 1, 3, none⟩) (by show w.heap.size ≤ w.heap.size + 1 + 1; omega) (.int .i64 0)).setCell (p := ⟨w.heap.size + 1 + 1, 4, none⟩) (by show w.heap.size ≤ w.heap.size + 1 + 1; omega) (.int .i64 0)).setCell (p := ⟨w.heap.size + 1 + 1, 5, none⟩) (by show w.heap.size ≤ w.heap.size + 1 + 1; omega) (.int .i64 0)).setCell (p := ⟨w.heap.size + 1 + 1, 6, none⟩) (by show w.heap.size ≤ w.heap.size + 1 + 1; omega) (.int .i64 0)).setCell (p := ⟨w.heap.size + 1 + 1, 7, none⟩) (by show w.heap.size ≤ w.heap.size + 1 + 1; omega) (.int .i64 0)).setCell (p := ⟨w.heap.size + 1 + 1, 8, none⟩) (by show w.heap.size ≤ w.heap.size + 1 + 1; omega) (.bool false)))
    clear q0 q1 q2 hB HA HB HX
    go_wp2_with fail
    have HH2 := HH.out
    clear HH e0 f0 e1 f1 e2 f2 e3 f3 e4 f4 e5 f5 e6 f6 e7 f7 e8 f8
    generalize (((((((((w1.setCell ⟨w.heap.size + 1 + 1, 0, none⟩ (.int .i64 0)).setCell ⟨w.heap.size + 1 + 1, 1, none⟩ (.int .i64 0)).setCell ⟨w.heap.size + 1 + 1, 2, none⟩ (.int .i64 0)).setCell ⟨w.heap.size + 1 + 1, 3, none⟩ (.int .i64 0)).setCell ⟨w.heap.size + 1 + 1, 4, none⟩ (.int .i64 0)).setCell ⟨w.heap.size + 1 + 1, 5, none⟩ (.int .i64 0)).setCell ⟨w.heap.size + 1 + 1, 6, none⟩ (.int .i64 0)).setCell ⟨w.heap.size + 1 + 1, 7, none⟩ (.int .i64 0)).setCell ⟨w.heap.size + 1 + 1, 8, none⟩ (.bool false)) = Z at *
    obtain ⟨h1, h2⟩ := HH2
    have e0 : Z.cell? ⟨w.heap.size + 1 + 1, 0, none⟩ = some (.int .i64 0) := h1.cell 0
    have e1 : Z.cell? ⟨w.heap.size + 1 + 1, 1, none⟩ = some (.int .i64 0) := h1.cell 1
    have e2 : Z.cell? ⟨w.heap.size + 1 + 1, 2, none⟩ = some (.int .i64 0) := h1.cell 2
    have e3 : Z.cell? ⟨w.heap.size + 1 + 1, 3, none⟩ = some (.int .i64 0) := h1.cell 3
    have e4 : Z.cell? ⟨w.heap.size + 1 + 1, 4, none⟩ = some (.int .i64 0) := h1.cell 4
    have e5 : Z.cell? ⟨w.heap.size + 1 + 1, 5, none⟩ = some (.int .i64 0) := h1.cell 5
    have e6 : Z.cell? ⟨w.heap.size + 1 + 1, 6, none⟩ = some (.int .i64 0) := h1.cell 6
    have e7 : Z.cell? ⟨w.heap.size + 1 + 1, 7, none⟩ = some (.int .i64 0) := h1.cell 7
    have e8 : Z.cell? ⟨w.heap.size + 1 + 1, 8, none⟩ = some (.bool false) := h1.cell 8
    refine bodyPost_ret (v := .agg #[.int .i64 0, .int .i64 0, .int .i64 0, .int .i64 0, .int .i64 0, .int .i64 0, .int .i64 0, .int .i64 0, .bool false]) (by simp [results, Try.results43, go_sem, e0, e1, e2, e3, e4, e5, e6, e7, e8]) rfl ⟨by rw [HR.out]; rfl, h2⟩
end Go.Proofs.Ytfmaeicodljgkaa
