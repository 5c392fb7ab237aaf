/- Texts that stand on each other, in one file: WithI, ROwnI, OwnL, OwnAt. -/
import Derived.Test.YtialedffpaoacaaGreatDoorPack33
import Derived.WideLaws
import Derived.Test.YtialedffpaoacaaGreatDoorPack29
import Derived.Test.YtialedffpaoacaaGreatDoorPack21
import Derived.Test.YtialedffpaoacaaGreatDoorPack2
/- withRoute. (Written by gen_with.py.) -/
namespace Go.Proofs.YtialedffpaoacaaGreatDoor
open Go.RowKit Go.Sort

theorem MapIs.size {w : World} {b : Nat} {rs : List Rt} (h : MapIs w b rs) : ∃ es clock, w.heap[b]? = some (.map es clock) ∧ es.size = rs.length := by
  obtain ⟨es, clock, hb, hh, _⟩ := h
  exact ⟨es, clock, hb, by have := hh.nil_iff; simpa using this⟩
set_option maxRecDepth 100000 in
set_option maxHeartbeats 1000000 in
theorem withRoute_any (B : Nat) (ms rs : List Rt) (r : Rt) (w : World) (hM : MapIs w B ms) (hp : (putN ms r).Perm rs) (hr : rs.length ≤ 8 → ribB rs = true) :
    Calls Tryz.prog 206 #[tabV B, rtV r] w fun e w' => (8 < rs.length ∧ e = .returned (.agg #[.slice none 0 0, .int .i64 9]) ∨ rs.length ≤ 8 ∧ ∃ p cap, e = .returned (.agg #[.slice p rs.length cap, .int .i64 0]) ∧ w'.ownsRow w.heap.size 144 9 (.slice p rs.length cap) rs.length (rowR rs)) ∧ Below B w w' := by
  have HP : Hid (∀ w, MapIs w B ms → Calls Tryz.prog 215 #[tabV B, netV r.a r.l, rtV r] w fun e w' => e = .returned (.tuple #[]) ∧ MapIs w' B (putN ms r) ∧ w.grownBy w' (some B)) := fun w h => put_any B ms r w h
  have HO : Hid (∀ w, rs.length ≤ 8 → MapIs w B (putN ms r) → Calls Tryz.prog 216 #[tabV B] w fun e w' => ∃ p cap, e = .returned (ribV p rs.length cap) ∧ w'.ownsRow w.heap.size 144 9 (.slice p rs.length cap) rs.length (rowR rs) ∧ Below w.heap.size w w') := fun w h8 h => ribOf_any B (putN ms r) rs hp (hr h8) w h
  have HL : Hid ((putN ms r).length = rs.length) := hp.length_eq
  have HM : Hid (MapIs w B ms) := hM
  clear hp hr hM
  generalize putN ms r = qs at *
  obtain ⟨A, L, M, O, I, T, U, E, C⟩ := r
  unfold tabV netV rtV rtA at *
  simp only at HP
  have HK : Hid (B < w.heap.size) := (HM.out).lt
  obtain ⟨W, hW, q0, q1, q2, hB, hS, -⟩ := rows3 w [.map (some B), .func (.func 217) #[] #[]] [.int .i64 A, .int .i64 L, .int .i64 M, .int .i64 O, .int .i64 I, .int .i64 T, .int .i64 U, .int .i64 E, .bool C] [.slice none 0 0, .int .i64 0] 253 144 126
  have HW : Hid _ := hW
  have HQ : Hid _ := And.intro q0 (And.intro q2 (And.intro hB hS))
  clear hW q0 q1 q2 hB hS
  go_enter Tryz.func206, Tryz.ntmps206
  go_wp2_with fail
  rw [← HW.out]
  obtain ⟨q0, q2, hB, hS⟩ := HQ.out
  have hlt := HK.out
  refine (HP.out _ ((HM.out).below hB hlt)).mono ?_
  rintro e w1 ⟨rfl, hM1, hg1⟩
  have q0 : Row w1 w.heap.size 253 [.map (some B), .func (.func 217) #[] #[]] := (hg1.block _ q0.lt (by intro e; cases e; omega)).trans q0
  have q2 : Row w1 (w.heap.size + 1 + 1) 126 [.slice none 0 0, .int .i64 0] := (hg1.block _ q2.lt (by intro e; cases e; omega)).trans q2
  have hB1 : Below B w w1 := (hB.mono (by omega)).trans ((Below.refl B W).grown hg1 (by omega) (fun k e => by cases e; omega))
  have hsz : w.heap.size + 1 + 1 + 1 ≤ w1.heap.size := by have := q2.lt; omega
  clear HP HM HW HQ hg1 hB hS
  obtain ⟨es, clock, hb, hes⟩ := hM1.size
  have x0 : w1.cell? ⟨w.heap.size, 0, none⟩ = some (.map (some B)) := q0.cell 0
  have x1 : w1.cell? ⟨w.heap.size, 1, none⟩ = some (.func (.func 217) #[] #[]) := q0.cell 1
  have hlen := run_len_map (P := Tryz.prog) (w := w1) 250 3 B es clock (by kernel_rfl) hb
  rw [hes, HL.out] at hlen
  have HE : Hid _ := And.intro q2 (And.intro hB1 (And.intro hM1 (And.intro hlt hsz)))
  have f0 : w1.frozen? ⟨w.heap.size + 1 + 1, 0, none⟩ = false := q2.frozen 0
  have f1 : w1.frozen? ⟨w.heap.size + 1 + 1, 1, none⟩ = false := q2.frozen 1
  have z0 : w1.cell? ⟨w.heap.size + 1 + 1, 0, none⟩ = some (.slice none 0 0) := q2.cell 0
  have z1 : w1.cell? ⟨w.heap.size + 1 + 1, 1, none⟩ = some (.int .i64 0) := q2.cell 1
  clear q0 q2 hB1 hM1 hlt hsz hb hes HL
  by_cases h8 : rs.length ≤ 8
  · have d8 : decide (8 < (rs.length : Int)) = false := by simp; omega
    go_wp2_with fail
    refine (HO.out _ h8 (HE.out).2.2.1).mono ?_
    rintro e w2 ⟨p, cap, rfl, hown, hb2⟩
    obtain ⟨q2, hB1, -, hlt, hsz⟩ := HE.out
    have q2 := q2.below hb2 q2.lt
    have hB2 := hB1.trans (hb2.mono (by omega))
    have HE2 : Hid _ := And.intro ((q2.set 0 (.slice p rs.length cap)).set 1 (.int .i64 0)) (And.intro ((hB2.setCell (p := ⟨w.heap.size + 1 + 1, 0, none⟩) (by show B ≤ w.heap.size + 1 + 1; omega) (.slice p rs.length cap)).setCell (p := ⟨w.heap.size + 1 + 1, 1, none⟩) (by show B ≤ w.heap.size + 1 + 1; omega) (.int .i64 0)) (ownR_set (base' := w.heap.size) (ownR_set (base' := w.heap.size + 1 + 1 + 1) hown ⟨w.heap.size + 1 + 1, 0, none⟩ (by show w.heap.size + 1 + 1 < _; omega) (.slice p rs.length cap) hsz) ⟨w.heap.size + 1 + 1, 1, none⟩ (by show w.heap.size + 1 + 1 < _; omega) (.int .i64 0) (by omega)))
    have f0 : w2.frozen? ⟨w.heap.size + 1 + 1, 0, none⟩ = false := q2.frozen 0
    have f1 : w2.frozen? ⟨w.heap.size + 1 + 1, 1, none⟩ = false := q2.frozen 1
    have z0 : w2.cell? ⟨w.heap.size + 1 + 1, 0, none⟩ = some (.slice none 0 0) := q2.cell 0
    have z1 : w2.cell? ⟨w.heap.size + 1 + 1, 1, none⟩ = some (.int .i64 0) := q2.cell 1
    clear HE HO q2 hB1 hB2 hown hb2 hlen d8
    unfold ribV
    go_wp2_with fail
    have h2 := HE2.out
    clear HE2 f0 f1 z0 z1
    generalize (w2.setCell ⟨w.heap.size + 1 + 1, 0, none⟩ (.slice p rs.length cap)).setCell ⟨w.heap.size + 1 + 1, 1, none⟩ (.int .i64 0) = Z at *
    obtain ⟨h1, h2, h3⟩ := h2
    have e0 : Z.cell? ⟨w.heap.size + 1 + 1, 0, none⟩ = some (.slice p rs.length cap) := h1.cell 0
    have e1 : Z.cell? ⟨w.heap.size + 1 + 1, 1, none⟩ = some (.int .i64 0) := h1.cell 1
    refine bodyPost_ret (v := .agg #[.slice p rs.length cap, .int .i64 0]) (by simp [results, Tryz.results206, go_sem, e0, e1]) rfl ⟨.inr ⟨h8, p, cap, rfl, h3⟩, h2⟩
  · have d8 : decide (8 < (rs.length : Int)) = true := by simp; omega
    obtain ⟨q2, hB1, -, hlt, hsz⟩ := HE.out
    have HE2 : Hid _ := And.intro ((q2.set 0 (.slice none 0 0)).set 1 (.int .i64 9)) ((hB1.setCell (p := ⟨w.heap.size + 1 + 1, 0, none⟩) (by show B ≤ w.heap.size + 1 + 1; omega) (.slice none 0 0)).setCell (p := ⟨w.heap.size + 1 + 1, 1, none⟩) (by show B ≤ w.heap.size + 1 + 1; omega) (.int .i64 9))
    clear HE HO q2 hB1
    go_wp2_with fail
    have h2 := HE2.out
    clear HE2 f0 f1 z0 z1 x0 x1 hlen
    generalize (w1.setCell ⟨w.heap.size + 1 + 1, 0, none⟩ (.slice none 0 0)).setCell ⟨w.heap.size + 1 + 1, 1, none⟩ (.int .i64 9) = Z at *
    obtain ⟨h1, h2⟩ := h2
    have e0 : Z.cell? ⟨w.heap.size + 1 + 1, 0, none⟩ = some (.slice none 0 0) := h1.cell 0
    have e1 : Z.cell? ⟨w.heap.size + 1 + 1, 1, none⟩ = some (.int .i64 9) := h1.cell 1
    refine bodyPost_ret (v := .agg #[.slice none 0 0, .int .i64 9]) (by simp [results, Tryz.results206, go_sem, e0, e1]) rfl ⟨.inl ⟨by omega, rfl⟩, h2⟩
end Go.Proofs.YtialedffpaoacaaGreatDoor
/- RibOwn of the program. (Written by gen_own.py.) -/
namespace Go.Proofs.YtialedffpaoacaaGreatDoor
open Go.RowKit Go.Sort

def ownRt (a l i : Int) : Rt := ⟨a, l, 1, 0, i, 0, 0, 0, true⟩
theorem ownRt_right {a l i : Int} (h : rightB a l = true) (hi : inIf i = true) : routeB (ownRt a l i) = true := by
  simp [routeB, saidB, entB, rtE, ownRt, h, hi, inTime, timesB]
  decide
set_option maxRecDepth 100000 in
set_option maxHeartbeats 1000000 in
theorem implOwn_wrong (p : Option Addr) (cap : Nat) (rs : List Rt) (a l i : Int) (w : World) (h : RtsIn w p rs) (hn : rs.length ≤ 100000000) (hc : (ribB rs && (rightB a l && inIf i)) = false) :
    Calls Tryz.prog 191 #[ribV p rs.length cap, netV a l, .int .i64 i] w fun e w' => OutR w.heap.size 1 [] e w' ∧ Below w.heap.size w w' := by
  have HB : Hid (∀ w, RtsIn w p rs → Calls Tryz.prog 142 #[.agg #[.slice p rs.length cap]] w fun e w' => e = .returned (.bool (ribB rs)) ∧ Below w.heap.size w w') := fun w h => implRib_any p cap rs w h hn
  have HR : Hid (∀ w, Calls Tryz.prog 139 #[.agg #[.int .i64 a, .int .i64 l]] w fun e w' => e = .returned (.bool (rightB a l)) ∧ Below w.heap.size w w') := implRight_any a l
  have HI : Hid (∀ w, Calls Tryz.prog 205 #[.int .i64 i] w fun e w' => e = .returned (.bool (inIf i)) ∧ w = w') := isIface_any i
  have HX : Hid (RtsIn w p rs) := h
  clear h
  obtain ⟨W, hW, q0, q1, q2, hB, hS, -⟩ := rows3 w [.slice p rs.length cap] [.int .i64 a, .int .i64 l] [.slice none 0 0, .int .i64 0] 49 70 126
  have HW : Hid _ := hW
  have HQ : Hid _ := And.intro q1 (And.intro q2 hB)
  clear hW q0 q1 q2 hB hS
  unfold ribV netV
  go_enter Tryz.func191, Tryz.ntmps191
  go_wp2_with fail
  rw [← HW.out]
  obtain ⟨q1, q2, hB⟩ := HQ.out
  refine (HB.out _ ((HX.out).below hB)).mono ?_
  rintro e w1 ⟨rfl, hbx⟩
  clear HB HX HW HQ
  have y0 : w1.cell? ⟨w.heap.size + 1, 0, none⟩ = some (.int .i64 a) := (q1.below hbx q1.lt).cell 0
  have y1 : w1.cell? ⟨w.heap.size + 1, 1, none⟩ = some (.int .i64 l) := (q1.below hbx q1.lt).cell 1
  clear q1
  cases h1 : ribB rs
  · clear HR HI hc h1
    have q2 := (q2.below hbx q2.lt)
    have hB := hB.trans (hbx.mono hB.size)
    have f0 : w1.frozen? ⟨w.heap.size + 1 + 1, 0, none⟩ = false := q2.frozen 0
    have f1 : w1.frozen? ⟨w.heap.size + 1 + 1, 1, none⟩ = false := q2.frozen 1
    have z0 : w1.cell? ⟨w.heap.size + 1 + 1, 0, none⟩ = some (.slice none 0 0) := q2.cell 0
    have z1 : w1.cell? ⟨w.heap.size + 1 + 1, 1, none⟩ = some (.int .i64 0) := q2.cell 1
    have HE2 : Hid _ := And.intro ((q2.set 0 (.slice none 0 0)).set 1 (.int .i64 1)) ((hB.setCell (p := ⟨w.heap.size + 1 + 1, 0, none⟩) (by show w.heap.size ≤ w.heap.size + 1 + 1; omega) (.slice none 0 0)).setCell (p := ⟨w.heap.size + 1 + 1, 1, none⟩) (by show w.heap.size ≤ w.heap.size + 1 + 1; omega) (.int .i64 1))
    clear q2 hB hbx
    go_wp2_with fail
    have h2 := HE2.out
    clear HE2 f0 f1 z0 z1
    generalize (w1.setCell ⟨w.heap.size + 1 + 1, 0, none⟩ (.slice none 0 0)).setCell ⟨w.heap.size + 1 + 1, 1, none⟩ (.int .i64 1) = Z at *
    obtain ⟨h1, h2⟩ := h2
    have e0 : Z.cell? ⟨w.heap.size + 1 + 1, 0, none⟩ = some (.slice none 0 0) := h1.cell 0
    have e1 : Z.cell? ⟨w.heap.size + 1 + 1, 1, none⟩ = some (.int .i64 1) := h1.cell 1
    refine bodyPost_ret (v := .agg #[.slice none 0 0, .int .i64 1]) (by simp [results, Tryz.results191, go_sem, e0, e1]) rfl ⟨⟨none, 0, rfl, World.ownsRow_nil _ _ _ 9⟩, h2⟩
  · rw [h1] at hc
    go_wp2_with fail
    refine (HR.out _).mono ?_
    rintro e w2 ⟨rfl, hby⟩
    have hbx : Below W.heap.size W w2 := hbx.trans (hby.mono hbx.size)
    clear HR hby y0 y1
    cases h2 : rightB a l
    · clear HI hc h1 h2
      have q2 := (q2.below hbx q2.lt)
      have hB := hB.trans (hbx.mono hB.size)
      have f0 : w2.frozen? ⟨w.heap.size + 1 + 1, 0, none⟩ = false := q2.frozen 0
      have f1 : w2.frozen? ⟨w.heap.size + 1 + 1, 1, none⟩ = false := q2.frozen 1
      have z0 : w2.cell? ⟨w.heap.size + 1 + 1, 0, none⟩ = some (.slice none 0 0) := q2.cell 0
      have z1 : w2.cell? ⟨w.heap.size + 1 + 1, 1, none⟩ = some (.int .i64 0) := q2.cell 1
      have HE2 : Hid _ := And.intro ((q2.set 0 (.slice none 0 0)).set 1 (.int .i64 1)) ((hB.setCell (p := ⟨w.heap.size + 1 + 1, 0, none⟩) (by show w.heap.size ≤ w.heap.size + 1 + 1; omega) (.slice none 0 0)).setCell (p := ⟨w.heap.size + 1 + 1, 1, none⟩) (by show w.heap.size ≤ w.heap.size + 1 + 1; omega) (.int .i64 1))
      clear q2 hB hbx
      go_wp2_with fail
      have h2 := HE2.out
      clear HE2 f0 f1 z0 z1
      generalize (w2.setCell ⟨w.heap.size + 1 + 1, 0, none⟩ (.slice none 0 0)).setCell ⟨w.heap.size + 1 + 1, 1, none⟩ (.int .i64 1) = Z at *
      obtain ⟨h1, h2⟩ := h2
      have e0 : Z.cell? ⟨w.heap.size + 1 + 1, 0, none⟩ = some (.slice none 0 0) := h1.cell 0
      have e1 : Z.cell? ⟨w.heap.size + 1 + 1, 1, none⟩ = some (.int .i64 1) := h1.cell 1
      refine bodyPost_ret (v := .agg #[.slice none 0 0, .int .i64 1]) (by simp [results, Tryz.results191, go_sem, e0, e1]) rfl ⟨⟨none, 0, rfl, World.ownsRow_nil _ _ _ 9⟩, h2⟩
    · rw [h2] at hc
      have hi : inIf i = false := by simpa using hc
      rw [hi] at HI
      clear hc h1 h2 hi
      go_wp2_with fail
      refine (HI.out _).mono ?_
      rintro e w3 ⟨rfl, rfl⟩
      clear HI
      have q2 := (q2.below hbx q2.lt)
      have hB := hB.trans (hbx.mono hB.size)
      have f0 : w2.frozen? ⟨w.heap.size + 1 + 1, 0, none⟩ = false := q2.frozen 0
      have f1 : w2.frozen? ⟨w.heap.size + 1 + 1, 1, none⟩ = false := q2.frozen 1
      have z0 : w2.cell? ⟨w.heap.size + 1 + 1, 0, none⟩ = some (.slice none 0 0) := q2.cell 0
      have z1 : w2.cell? ⟨w.heap.size + 1 + 1, 1, none⟩ = some (.int .i64 0) := q2.cell 1
      have HE2 : Hid _ := And.intro ((q2.set 0 (.slice none 0 0)).set 1 (.int .i64 1)) ((hB.setCell (p := ⟨w.heap.size + 1 + 1, 0, none⟩) (by show w.heap.size ≤ w.heap.size + 1 + 1; omega) (.slice none 0 0)).setCell (p := ⟨w.heap.size + 1 + 1, 1, none⟩) (by show w.heap.size ≤ w.heap.size + 1 + 1; omega) (.int .i64 1))
      clear q2 hB hbx
      go_wp2_with fail
      have h2 := HE2.out
      clear HE2 f0 f1 z0 z1
      generalize (w2.setCell ⟨w.heap.size + 1 + 1, 0, none⟩ (.slice none 0 0)).setCell ⟨w.heap.size + 1 + 1, 1, none⟩ (.int .i64 1) = Z at *
      obtain ⟨h1, h2⟩ := h2
      have e0 : Z.cell? ⟨w.heap.size + 1 + 1, 0, none⟩ = some (.slice none 0 0) := h1.cell 0
      have e1 : Z.cell? ⟨w.heap.size + 1 + 1, 1, none⟩ = some (.int .i64 1) := h1.cell 1
      refine bodyPost_ret (v := .agg #[.slice none 0 0, .int .i64 1]) (by simp [results, Tryz.results191, go_sem, e0, e1]) rfl ⟨⟨none, 0, rfl, World.ownsRow_nil _ _ _ 9⟩, h2⟩
theorem stab_tabB (n : Nat) (rs : List Rt) : ∀ (x : Value) (w1 w2 : World), (∃ B, x = .agg #[.map (some B), .func (.func 217) #[] #[]] ∧ n ≤ B ∧ MapIs w1 B rs) → Below w1.heap.size w1 w2 → ∃ B, x = .agg #[.map (some B), .func (.func 217) #[] #[]] ∧ n ≤ B ∧ MapIs w2 B rs := by
  rintro x w1 w2 ⟨B, e, hn, h⟩ hb
  exact ⟨B, e, hn, h.below hb h.lt⟩
set_option maxRecDepth 100000 in
set_option maxHeartbeats 1000000 in
theorem implOwn_right (p : Option Addr) (cap : Nat) (rs : List Rt) (a l i : Int) (w : World) (h : RtsIn w p rs) (hr : ribB rs = true) (hl : rightB a l = true) (hi : inIf i = true) :
    Calls Tryz.prog 191 #[ribV p rs.length cap, netV a l, .int .i64 i] w fun e w' => (8 < (insR rs (ownRt a l i)).length ∧ OutR w.heap.size 9 [] e w' ∨ (insR rs (ownRt a l i)).length ≤ 8 ∧ OutR w.heap.size 0 (insR rs (ownRt a l i)) e w') ∧ Below w.heap.size w w' := by
  have h8 := (ribB_spec hr).1
  have HB : Hid (∀ w, RtsIn w p rs → Calls Tryz.prog 142 #[.agg #[.slice p rs.length cap]] w fun e w' => e = .returned (.bool true) ∧ Below w.heap.size w w') := fun w h => by have := implRib_any p cap rs w h (by omega); rw [hr] at this; exact this
  have HR : Hid (∀ w, Calls Tryz.prog 139 #[.agg #[.int .i64 a, .int .i64 l]] w fun e w' => e = .returned (.bool true) ∧ Below w.heap.size w w') := fun w => by have := implRight_any a l w; rw [hl] at this; exact this
  have HI : Hid (∀ w, Calls Tryz.prog 205 #[.int .i64 i] w fun e w' => e = .returned (.bool true) ∧ w = w') := fun w => by have := isIface_any i w; rw [hi] at this; exact this
  have HL : Hid (∀ w, RtsIn w p rs → Calls Tryz.prog 207 #[.agg #[.slice p rs.length cap]] w fun e w' => ∃ B, e = .returned (.agg #[.map (some B), .func (.func 217) #[] #[]]) ∧ w.heap.size ≤ B ∧ MapIs w' B rs ∧ Below w.heap.size w w') := fun w h => (laidOut_any p cap rs w h (by omega)).mono fun e w' h => by
    obtain ⟨B, e1, hB, hm, hb⟩ := h
    rw [laidN_right hr] at hm
    exact ⟨B, e1, hB, hm, hb⟩
  have HT : Hid (∀ B w, MapIs w B rs → Calls Tryz.prog 206 #[.agg #[.map (some B), .func (.func 217) #[] #[]], .agg #[.int .i64 a, .int .i64 l, .int .i64 1, .int .i64 0, .int .i64 i, .int .i64 0, .int .i64 0, .int .i64 0, .bool true]] w fun e w' => (8 < (insR rs (ownRt a l i)).length ∧ e = .returned (.agg #[.slice none 0 0, .int .i64 9]) ∨ (insR rs (ownRt a l i)).length ≤ 8 ∧ ∃ p cap, e = .returned (.agg #[.slice p (insR rs (ownRt a l i)).length cap, .int .i64 0]) ∧ w'.ownsRow w.heap.size 144 9 (.slice p (insR rs (ownRt a l i)).length cap) (insR rs (ownRt a l i)).length (rowR (insR rs (ownRt a l i)))) ∧ Below B w w') :=
    fun B w hM => withRoute_any B rs (insR rs (ownRt a l i)) (ownRt a l i) w hM (insR_perm rs _ (rib_rising hr)) (fun h => insR_right hr (ownRt_right hl hi) h)
  have HX : Hid (RtsIn w p rs) := h
  clear h h8 hr hl hi
  generalize insR rs (ownRt a l i) = qs at *
  generalize rs.length = N at *
  obtain ⟨W, hW, q0, q1, q2, hB, hS, -⟩ := rows3 w [.slice p N cap] [.int .i64 a, .int .i64 l] [.slice none 0 0, .int .i64 0] 49 70 126
  have HW : Hid _ := hW
  have HQ : Hid _ := And.intro q0 (And.intro q1 (And.intro q2 hB))
  clear hW q0 q1 q2 hB hS
  unfold ribV netV
  go_enter Tryz.func191, Tryz.ntmps191
  go_wp2_with fail
  rw [← HW.out]
  obtain ⟨q0, q1, q2, hB⟩ := HQ.out
  refine (HB.out _ ((HX.out).below hB)).mono ?_
  rintro e w1 ⟨rfl, hbx⟩
  clear HB HW HQ
  have y0 : w1.cell? ⟨w.heap.size + 1, 0, none⟩ = some (.int .i64 a) := (q1.below hbx q1.lt).cell 0
  have y1 : w1.cell? ⟨w.heap.size + 1, 1, none⟩ = some (.int .i64 l) := (q1.below hbx q1.lt).cell 1
  go_wp2_with fail
  refine (HR.out _).mono ?_
  rintro e w2 ⟨rfl, hby⟩
  have hbx : Below W.heap.size W w2 := hbx.trans (hby.mono hbx.size)
  clear HR hby y0 y1
  go_wp2_with fail
  refine (HI.out _).mono ?_
  rintro e w3 ⟨rfl, rfl⟩
  clear HI
  have q0 := (q0.below hbx q0.lt).alloc (.cells #[.int .i64 a, .int .i64 l, .int .i64 1, .int .i64 0, .int .i64 i, .int .i64 0, .int .i64 0, .int .i64 0, .bool true] 144)
  have q1 := q1.below hbx q1.lt
  have q2 := (q2.below hbx q2.lt).alloc (.cells #[.int .i64 a, .int .i64 l, .int .i64 1, .int .i64 0, .int .i64 i, .int .i64 0, .int .i64 0, .int .i64 0, .bool true] 144)
  have q7 := Row.new w2 144 [.int .i64 a, .int .i64 l, .int .i64 1, .int .i64 0, .int .i64 i, .int .i64 0, .int .i64 0, .int .i64 0, .bool true]
  have hB := (hB.trans (hbx.mono hB.size)).alloc (by have := hbx.size; have := hB.size; omega) (.cells #[.int .i64 a, .int .i64 l, .int .i64 1, .int .i64 0, .int .i64 i, .int .i64 0, .int .i64 0, .int .i64 0, .bool true] 144)
  have y0 : w2.cell? ⟨w.heap.size + 1, 0, none⟩ = some (.int .i64 a) := q1.cell 0
  have y1 : w2.cell? ⟨w.heap.size + 1, 1, none⟩ = some (.int .i64 l) := q1.cell 1
  have HE : Hid _ := And.intro q0 (And.intro q2 (And.intro q7 hB))
  clear q0 q1 q2 q7 hB hbx
  go_wp2_with fail
  clear y0 y1
  generalize hb7 : w2.heap.size = b7 at *
  generalize w2.alloc (.cells #[.int .i64 a, .int .i64 l, .int .i64 1, .int .i64 0, .int .i64 i, .int .i64 0, .int .i64 0, .int .i64 0, .bool true] 144) = W4 at *
  clear hb7
  obtain ⟨q0, q2, q7, hB⟩ := HE.out
  clear HE
  have hGN : (([(25, Is (.agg #[.slice p N cap])), (26, fun v W => ∃ B, v = .agg #[.map (some B), .func (.func 217) #[] #[]] ∧ W4.heap.size ≤ B ∧ MapIs W B rs), (27, Is (.agg #[.int .i64 a, .int .i64 l, .int .i64 1, .int .i64 0, .int .i64 i, .int .i64 0, .int .i64 0, .int .i64 0, .bool true]))] : List (Nat × (Value → World → Prop))).map (·.1)).Nodup := by simp
  refine wp_region_steady 3 (SlotG [(25, Is (.agg #[.slice p N cap])), (26, fun v W => ∃ B, v = .agg #[.map (some B), .func (.func 217) #[] #[]] ∧ W4.heap.size ≤ B ∧ MapIs W B rs), (27, Is (.agg #[.int .i64 a, .int .i64 l, .int .i64 1, .int .i64 0, .int .i64 i, .int .i64 0, .int .i64 0, .int .i64 0, .bool true]))]) (by kernel_rfl) (by kernel_rfl) (Stabs.all ⟨stab_is _, stab_tabB _ _, stab_is _, trivial⟩) ?_ ?_
  · intro o ho
    simp only [List.take_succ_cons, List.take_zero, List.mem_cons, List.not_mem_nil, or_false] at ho
    rcases ho with rfl | rfl | rfl
    · intro a' w' hb ha hdep
      have d3 : a'.tmps.getD 3 undef = .pointer (some ⟨w.heap.size, 0, none⟩) := ha.at 3 (by kernel_rfl)
      have hmk := fun (x : Value) (W : World) => SlotG.mk (x := x) (w := W) 0 rfl hGN
      clear hGN ha hdep
      have y0 : w'.cell? ⟨w.heap.size, 0, none⟩ = some (.slice p N cap) := (q0.below hb q0.lt).cell 0
      go_simp
      exact ⟨_, rfl, Below.refl _ _, hmk _ _ rfl⟩
    · intro a' w' hb ha hdep
      have d25 : a'.tmps.getD 25 undef = .agg #[.slice p N cap] := (hdep 25 (of_decide_eq_true (by kernel_rfl))).is 0 rfl
      have hmk := fun (x : Value) (W : World) => SlotG.mk (x := x) (w := W) 1 rfl hGN
      clear hGN ha hdep
      go_simp
      refine (HL.out _ (HX.out.below (hB.trans (hb.mono hB.size)))).mono ?_
      rintro e w2 ⟨B, rfl, hBB, hm, hb2⟩
      exact ⟨_, rfl, hb2, hmk _ _ ⟨B, rfl, by have := hb.size; omega, hm⟩⟩
    · intro a' w' hb ha hdep
      have d7 : a'.tmps.getD 7 undef = .pointer (some ⟨b7, 0, none⟩) := ha.at 7 (by kernel_rfl)
      have hmk := fun (x : Value) (W : World) => SlotG.mk (x := x) (w := W) 2 rfl hGN
      clear hGN ha hdep
      have y0 : w'.cell? ⟨b7, 0, none⟩ = some (.int .i64 a) := (q7.below hb q7.lt).cell 0
      have y1 : w'.cell? ⟨b7, 1, none⟩ = some (.int .i64 l) := (q7.below hb q7.lt).cell 1
      have y2 : w'.cell? ⟨b7, 2, none⟩ = some (.int .i64 1) := (q7.below hb q7.lt).cell 2
      have y3 : w'.cell? ⟨b7, 3, none⟩ = some (.int .i64 0) := (q7.below hb q7.lt).cell 3
      have y4 : w'.cell? ⟨b7, 4, none⟩ = some (.int .i64 i) := (q7.below hb q7.lt).cell 4
      have y5 : w'.cell? ⟨b7, 5, none⟩ = some (.int .i64 0) := (q7.below hb q7.lt).cell 5
      have y6 : w'.cell? ⟨b7, 6, none⟩ = some (.int .i64 0) := (q7.below hb q7.lt).cell 6
      have y7 : w'.cell? ⟨b7, 7, none⟩ = some (.int .i64 0) := (q7.below hb q7.lt).cell 7
      have y8 : w'.cell? ⟨b7, 8, none⟩ = some (.bool true) := (q7.below hb q7.lt).cell 8
      go_simp
      exact ⟨_, rfl, Below.refl _ _, hmk _ _ rfl⟩
  · intro a' w' hb ha hG
    clear hGN
    have D26 := (hG _ (List.mem_of_getElem? (i := 1) rfl) 26 rfl).get 1 rfl
    have d27 : a'.tmps.getD 27 undef = .agg #[.int .i64 a, .int .i64 l, .int .i64 1, .int .i64 0, .int .i64 i, .int .i64 0, .int .i64 0, .int .i64 0, .bool true] := (hG _ (List.mem_of_getElem? (i := 2) rfl) 27 rfl).is 2 rfl
    have d6 : a'.tmps.getD 6 undef = .pointer (some ⟨w.heap.size + 1 + 1, 0, none⟩) := ha.at 6 (by kernel_rfl)
    have e2 : a' = ⟨#[a'.tmps.getD 0 undef, a'.tmps.getD 1 undef, a'.tmps.getD 2 undef, a'.tmps.getD 3 undef, a'.tmps.getD 4 undef, a'.tmps.getD 5 undef, a'.tmps.getD 6 undef, a'.tmps.getD 7 undef, a'.tmps.getD 8 undef, a'.tmps.getD 9 undef, a'.tmps.getD 10 undef, a'.tmps.getD 11 undef, a'.tmps.getD 12 undef, a'.tmps.getD 13 undef, a'.tmps.getD 14 undef, a'.tmps.getD 15 undef, a'.tmps.getD 16 undef, a'.tmps.getD 17 undef, a'.tmps.getD 18 undef, a'.tmps.getD 19 undef, a'.tmps.getD 20 undef, a'.tmps.getD 21 undef, a'.tmps.getD 22 undef, a'.tmps.getD 23 undef, a'.tmps.getD 24 undef, a'.tmps.getD 25 undef, a'.tmps.getD 26 undef, a'.tmps.getD 27 undef, a'.tmps.getD 28 undef], []⟩ := by rw [← (show a'.defers = [] from ha.2.1)]; exact act_eq a' 29 ha.1
    rw [d27, d6] at e2
    clear hG ha d27 d6
    generalize a'.tmps.getD 0 undef = x0 at *
    generalize a'.tmps.getD 1 undef = x1 at *
    generalize a'.tmps.getD 2 undef = x2 at *
    generalize a'.tmps.getD 3 undef = x3 at *
    generalize a'.tmps.getD 4 undef = x4 at *
    generalize a'.tmps.getD 5 undef = x5 at *
    generalize a'.tmps.getD 7 undef = x7 at *
    generalize a'.tmps.getD 8 undef = x8 at *
    generalize a'.tmps.getD 9 undef = x9 at *
    generalize a'.tmps.getD 10 undef = x10 at *
    generalize a'.tmps.getD 11 undef = x11 at *
    generalize a'.tmps.getD 12 undef = x12 at *
    generalize a'.tmps.getD 13 undef = x13 at *
    generalize a'.tmps.getD 14 undef = x14 at *
    generalize a'.tmps.getD 15 undef = x15 at *
    generalize a'.tmps.getD 16 undef = x16 at *
    generalize a'.tmps.getD 17 undef = x17 at *
    generalize a'.tmps.getD 18 undef = x18 at *
    generalize a'.tmps.getD 19 undef = x19 at *
    generalize a'.tmps.getD 20 undef = x20 at *
    generalize a'.tmps.getD 21 undef = x21 at *
    generalize a'.tmps.getD 22 undef = x22 at *
    generalize a'.tmps.getD 23 undef = x23 at *
    generalize a'.tmps.getD 24 undef = x24 at *
    generalize a'.tmps.getD 25 undef = x25 at *
    generalize a'.tmps.getD 26 undef = x26 at *
    generalize a'.tmps.getD 28 undef = x28 at *
    subst e2
    simp only [List.drop_succ_cons, List.drop_zero]
    obtain ⟨B, rfl, hBB, hm⟩ := D26
    have hlt2 := q2.lt
    have q2 := q2.below hb q2.lt
    have hsz := hB.size
    have hB := hB.trans (hb.mono hB.size)
    have hsz2 := hb.size
    go_wp2_with fail
    refine (HT.out B _ hm).mono ?_
    rintro e w4 ⟨h4, hb4⟩
    have q2 := q2.below hb4 (by omega)
    have hB := hB.trans (hb4.mono (by omega))
    rcases h4 with ⟨h8, rfl⟩ | ⟨h8, p2, cap2, rfl, hown⟩
    · have f0 : w4.frozen? ⟨w.heap.size + 1 + 1, 0, none⟩ = false := q2.frozen 0
      have f1 : w4.frozen? ⟨w.heap.size + 1 + 1, 1, none⟩ = false := q2.frozen 1
      have z0 : w4.cell? ⟨w.heap.size + 1 + 1, 0, none⟩ = some (.slice none 0 0) := q2.cell 0
      have z1 : w4.cell? ⟨w.heap.size + 1 + 1, 1, none⟩ = some (.int .i64 0) := q2.cell 1
      have HE2 : Hid _ := And.intro ((q2.set 0 (.slice none 0 0)).set 1 (.int .i64 9)) (And.intro ((hB.setCell (p := ⟨w.heap.size + 1 + 1, 0, none⟩) (by show w.heap.size ≤ w.heap.size + 1 + 1; omega) (.slice none 0 0)).setCell (p := ⟨w.heap.size + 1 + 1, 1, none⟩) (by show w.heap.size ≤ w.heap.size + 1 + 1; omega) (.int .i64 9)) (trivial))
      clear q2 hB hb hm HL HT HX q0 q7
      go_wp2_with fail
      have h2 := HE2.out
      clear HE2 f0 f1 z0 z1
      generalize (w4.setCell ⟨w.heap.size + 1 + 1, 0, none⟩ (.slice none 0 0)).setCell ⟨w.heap.size + 1 + 1, 1, none⟩ (.int .i64 9) = Z at *
      obtain ⟨h1, h2, h3⟩ := h2
      have e0 : Z.cell? ⟨w.heap.size + 1 + 1, 0, none⟩ = some (.slice none 0 0) := h1.cell 0
      have e1 : Z.cell? ⟨w.heap.size + 1 + 1, 1, none⟩ = some (.int .i64 9) := h1.cell 1
      refine bodyPost_ret (v := .agg #[.slice none 0 0, .int .i64 9]) (by simp [results, Tryz.results191, go_sem, e0, e1]) rfl ⟨.inl ⟨h8, none, 0, rfl, World.ownsRow_nil _ _ _ 9⟩, h2⟩
    · have f0 : w4.frozen? ⟨w.heap.size + 1 + 1, 0, none⟩ = false := q2.frozen 0
      have f1 : w4.frozen? ⟨w.heap.size + 1 + 1, 1, none⟩ = false := q2.frozen 1
      have z0 : w4.cell? ⟨w.heap.size + 1 + 1, 0, none⟩ = some (.slice none 0 0) := q2.cell 0
      have z1 : w4.cell? ⟨w.heap.size + 1 + 1, 1, none⟩ = some (.int .i64 0) := q2.cell 1
      have HE2 : Hid _ := And.intro ((q2.set 0 (.slice p2 qs.length cap2)).set 1 (.int .i64 0)) (And.intro ((hB.setCell (p := ⟨w.heap.size + 1 + 1, 0, none⟩) (by show w.heap.size ≤ w.heap.size + 1 + 1; omega) (.slice p2 qs.length cap2)).setCell (p := ⟨w.heap.size + 1 + 1, 1, none⟩) (by show w.heap.size ≤ w.heap.size + 1 + 1; omega) (.int .i64 0)) (ownR_set (base' := w.heap.size) (ownR_set (base' := W4.heap.size) hown ⟨w.heap.size + 1 + 1, 0, none⟩ (by show w.heap.size + 1 + 1 < _; omega) (.slice p2 qs.length cap2) hsz2) ⟨w.heap.size + 1 + 1, 1, none⟩ (by show w.heap.size + 1 + 1 < _; omega) (.int .i64 0) hsz))
      clear q2 hB hb hm HL HT HX q0 q7
      go_wp2_with fail
      have h2 := HE2.out
      clear HE2 f0 f1 z0 z1
      generalize (w4.setCell ⟨w.heap.size + 1 + 1, 0, none⟩ (.slice p2 qs.length cap2)).setCell ⟨w.heap.size + 1 + 1, 1, none⟩ (.int .i64 0) = Z at *
      obtain ⟨h1, h2, h3⟩ := h2
      have e0 : Z.cell? ⟨w.heap.size + 1 + 1, 0, none⟩ = some (.slice p2 qs.length cap2) := h1.cell 0
      have e1 : Z.cell? ⟨w.heap.size + 1 + 1, 1, none⟩ = some (.int .i64 0) := h1.cell 1
      refine bodyPost_ret (v := .agg #[.slice p2 qs.length cap2, .int .i64 0]) (by simp [results, Tryz.results191, go_sem, e0, e1]) rfl ⟨.inr ⟨h8, p2, cap2, rfl, h3⟩, h2⟩
end Go.Proofs.YtialedffpaoacaaGreatDoor
/- What RibOwn answers: by the program, and l06Own of the model. (Written by gen_owns.py.) -/
namespace Go.Proofs.YtialedffpaoacaaGreatDoor
open Go.RowKit Go.Sort

/-- What RibOwn answers: its code and its routes. -/
def ownO (rs : List Rt) (a l i : Int) : Int × List Rt := if (ribB rs && (rightB a l && inIf i)) = true then (if (insR rs (ownRt a l i)).length ≤ 8 then (0, insR rs (ownRt a l i)) else (9, [])) else (1, [])
theorem ownO_len (rs : List Rt) (a l i : Int) : (ownO rs a l i).2.length ≤ 8 := by
  unfold ownO
  split
  · split
    · assumption
    · simp
  · simp
set_option maxRecDepth 100000 in
set_option maxHeartbeats 2000000 in
theorem l06Own_any (p : Option Addr) (cap : Nat) (rs : List Rt) (a l i : Int) (w : World) (h : RtsIn w p rs) (hc : p = none → cap = 0) (hcl : rs.length ≤ cap) (hr : ribB rs = true) :
    Calls Tryz.prog 64 #[ribV p rs.length cap, netV a l, .int .i64 i] w fun e w' => OutR w.heap.size (if (insR rs (ownRt a l i)).length ≤ 8 then 0 else 9) (if (insR rs (ownRt a l i)).length ≤ 8 then insR rs (ownRt a l i) else []) e w' ∧ Below w.heap.size w w' := by
  have h8 := (ribB_spec hr).1
  have hlen := insR_length rs (ownRt a l i) (rib_rising hr)
  have HA : Hid (∀ w, RtsIn w p rs → Calls Tryz.prog 112 #[.agg #[.slice p rs.length cap], .agg #[.int .i64 a, .int .i64 l]] w fun e w' => e = .returned (.int .i64 (atV rs a l)) ∧ Below w.heap.size w w') := fun w h => l06At_any p cap rs a l w h (by omega)
  have HP : Hid (∀ w, RtsIn w p rs → Calls Tryz.prog 114 #[.agg #[.slice p rs.length cap], .agg #[.int .i64 a, .int .i64 l, .int .i64 1, .int .i64 0, .int .i64 i, .int .i64 0, .int .i64 0, .int .i64 0, .bool true]] w fun e w' => ∃ q c, e = .returned (.agg #[.slice q (insR rs (ownRt a l i)).length c]) ∧ w'.ownsRow w.heap.size 144 9 (.slice q (insR rs (ownRt a l i)).length c) (insR rs (ownRt a l i)).length (rowR (insR rs (ownRt a l i))) ∧ Below w.heap.size w w') := fun w h => l06Put_any p cap rs (ownRt a l i) w h hc hcl (by omega)
  have HIl : Hid (∀ c w, Calls Tryz.prog 113 #[.int .i64 c] w fun e w' => e = .returned (.agg #[.slice none 0 0, .int .i64 c]) ∧ Below w.heap.size w w') := l06Ill_any
  have hat := atV_neg rs a l
  rw [show (ownRt a l i).a = a from rfl, show (ownRt a l i).l = l from rfl] at hlen
  generalize insR rs (ownRt a l i) = qs at *
  generalize atV rs a l = AV at *
  generalize (idxN rs a l).isSome = SM at *
  have HX : Hid (RtsIn w p rs) := h
  clear h hc hcl hr
  generalize rs.length = N at *
  by_cases hfull : SM = false ∧ 8 ≤ N
  · obtain ⟨rfl, hN8⟩ := hfull
    rw [if_neg (by rw [hlen]; simp; omega), if_neg (by rw [hlen]; simp; omega)]
    have d1 : decide (AV < 0) = true := by rw [hat]; rfl
    have d2 : decide ((8 : Int) ≤ (N : Int)) = true := by simp; omega
    clear hat hlen HP
    obtain ⟨W, hW, q0, q1, q2, hB, hS, -⟩ := rows3 w [.slice p N cap] [.int .i64 a, .int .i64 l] [.slice none 0 0, .int .i64 0] 49 70 126
    have HW : Hid _ := hW
    have HQ : Hid _ := And.intro q0 (And.intro q1 (And.intro q2 hB))
    have x0 : W.cell? ⟨w.heap.size, 0, none⟩ = some (.slice p N cap) := q0.cell 0
    have y0 : W.cell? ⟨w.heap.size + 1, 0, none⟩ = some (.int .i64 a) := q1.cell 0
    have y1 : W.cell? ⟨w.heap.size + 1, 1, none⟩ = some (.int .i64 l) := q1.cell 1
    clear q0 q1 q2 hB
    unfold ribV netV
    go_enter Tryz.func64, Tryz.ntmps64
    rw [hW] at x0 y0 y1
    clear hW
    go_wp2_with fail
    rw [← HW.out]
    obtain ⟨q0, q1, q2, hB⟩ := HQ.out
    clear x0 y0 y1
    refine (HA.out _ ((HX.out).below hB)).mono ?_
    rintro e w1 ⟨rfl, hb1⟩
    have q0 := q0.below hb1 (by omega)
    have q1 := q1.below hb1 (by omega)
    have q2 := q2.below hb1 (by omega)
    have hB := hB.trans (hb1.mono (by omega))
    have hs1 := hb1.size
    clear HA HW HQ hb1
    have x0 : w1.cell? ⟨w.heap.size, 0, none⟩ = some (.slice p N cap) := q0.cell 0
    have y0 : w1.cell? ⟨w.heap.size + 1, 0, none⟩ = some (.int .i64 a) := q1.cell 0
    have y1 : w1.cell? ⟨w.heap.size + 1, 1, none⟩ = some (.int .i64 l) := q1.cell 1
    go_wp2_with fail
    refine (HIl.out 9 _).mono ?_
    rintro e w2 ⟨rfl, hb2⟩
    have q2 := q2.below hb2 (by omega)
    have hB := hB.trans (hb2.mono (by omega))
    clear HIl x0 y0 y1 q0 q1
    have f0 : w2.frozen? ⟨w.heap.size + 1 + 1, 0, none⟩ = false := q2.frozen 0
    have f1 : w2.frozen? ⟨w.heap.size + 1 + 1, 1, none⟩ = false := q2.frozen 1
    have z0 : w2.cell? ⟨w.heap.size + 1 + 1, 0, none⟩ = some (.slice none 0 0) := q2.cell 0
    have z1 : w2.cell? ⟨w.heap.size + 1 + 1, 1, none⟩ = some (.int .i64 0) := q2.cell 1
    have HE2 : Hid _ := And.intro ((q2.set 0 (.slice none 0 0)).set 1 (.int .i64 9)) (And.intro ((hB.setCell (p := ⟨w.heap.size + 1 + 1, 0, none⟩) (by show w.heap.size ≤ w.heap.size + 1 + 1; omega) (.slice none 0 0)).setCell (p := ⟨w.heap.size + 1 + 1, 1, none⟩) (by show w.heap.size ≤ w.heap.size + 1 + 1; omega) (.int .i64 9)) trivial)
    clear q2 hB hb2
    go_wp2_with fail
    obtain ⟨h1, h2, h3⟩ := HE2.out
    clear HE2 f0 f1 z0 z1
    generalize (w2.setCell ⟨w.heap.size + 1 + 1, 0, none⟩ (.slice none 0 0)).setCell ⟨w.heap.size + 1 + 1, 1, none⟩ (.int .i64 9) = Z at *
    have e0 : Z.cell? ⟨w.heap.size + 1 + 1, 0, none⟩ = some (.slice none 0 0) := h1.cell 0
    have e1 : Z.cell? ⟨w.heap.size + 1 + 1, 1, none⟩ = some (.int .i64 9) := h1.cell 1
    exact bodyPost_ret (v := .agg #[.slice none 0 0, .int .i64 9]) (by simp [results, Tryz.results64, go_sem, e0, e1]) rfl ⟨⟨_, _, rfl, World.ownsRow_nil _ _ _ 9⟩, h2⟩
  · have hq8 : qs.length ≤ 8 := by
      rw [hlen]
      cases SM
      · simp at hfull ⊢; omega
      · simp; omega
    rw [if_pos hq8, if_pos hq8]
    have d : (if decide (AV < 0) = true then decide ((8 : Int) ≤ (N : Int)) else false) = false := by
      rw [hat]
      cases SM
      · simp at hfull ⊢; omega
      · simp
    clear hfull
    by_cases hAV : AV < 0
    · have d1 : decide (AV < 0) = true := by simpa using hAV
      rw [if_pos d1] at d
      clear hat hlen hAV
      obtain ⟨W, hW, q0, q1, q2, hB, hS, -⟩ := rows3 w [.slice p N cap] [.int .i64 a, .int .i64 l] [.slice none 0 0, .int .i64 0] 49 70 126
      have HW : Hid _ := hW
      have HQ : Hid _ := And.intro q0 (And.intro q1 (And.intro q2 hB))
      have x0 : W.cell? ⟨w.heap.size, 0, none⟩ = some (.slice p N cap) := q0.cell 0
      have y0 : W.cell? ⟨w.heap.size + 1, 0, none⟩ = some (.int .i64 a) := q1.cell 0
      have y1 : W.cell? ⟨w.heap.size + 1, 1, none⟩ = some (.int .i64 l) := q1.cell 1
      clear q0 q1 q2 hB
      unfold ribV netV
      go_enter Tryz.func64, Tryz.ntmps64
      rw [hW] at x0 y0 y1
      clear hW
      go_wp2_with fail
      rw [← HW.out]
      obtain ⟨q0, q1, q2, hB⟩ := HQ.out
      clear x0 y0 y1
      refine (HA.out _ ((HX.out).below hB)).mono ?_
      rintro e w1 ⟨rfl, hb1⟩
      have q0 := q0.below hb1 (by omega)
      have q1 := q1.below hb1 (by omega)
      have q2 := q2.below hb1 (by omega)
      have hB := hB.trans (hb1.mono (by omega))
      have hs1 := hb1.size
      clear HA HW HQ hb1
      have x0 : w1.cell? ⟨w.heap.size, 0, none⟩ = some (.slice p N cap) := q0.cell 0
      have y0 : w1.cell? ⟨w.heap.size + 1, 0, none⟩ = some (.int .i64 a) := q1.cell 0
      have y1 : w1.cell? ⟨w.heap.size + 1, 1, none⟩ = some (.int .i64 l) := q1.cell 1
      go_wp2_with fail
      refine (HP.out _ ((HX.out).below hB)).mono ?_
      rintro e w2 ⟨q, c, rfl, ho, hb2⟩
      have q2 := q2.below hb2 (by omega)
      have hB := hB.trans (hb2.mono (by omega))
      clear HP HIl x0 y0 y1 q0 q1
      have f0 : w2.frozen? ⟨w.heap.size + 1 + 1, 0, none⟩ = false := q2.frozen 0
      have f1 : w2.frozen? ⟨w.heap.size + 1 + 1, 1, none⟩ = false := q2.frozen 1
      have z0 : w2.cell? ⟨w.heap.size + 1 + 1, 0, none⟩ = some (.slice none 0 0) := q2.cell 0
      have z1 : w2.cell? ⟨w.heap.size + 1 + 1, 1, none⟩ = some (.int .i64 0) := q2.cell 1
      have HE2 : Hid _ := And.intro ((q2.set 0 (.slice q qs.length c)).set 1 (.int .i64 0)) (And.intro ((hB.setCell (p := ⟨w.heap.size + 1 + 1, 0, none⟩) (by show w.heap.size ≤ w.heap.size + 1 + 1; omega) (.slice q qs.length c)).setCell (p := ⟨w.heap.size + 1 + 1, 1, none⟩) (by show w.heap.size ≤ w.heap.size + 1 + 1; omega) (.int .i64 0)) (ownR_set (base' := w.heap.size) (ownR_set (base' := w.heap.size + 1 + 1 + 1) ho ⟨w.heap.size + 1 + 1, 0, none⟩ (by show w.heap.size + 1 + 1 < _; omega) (.slice q qs.length c) (by omega)) ⟨w.heap.size + 1 + 1, 1, none⟩ (by show w.heap.size + 1 + 1 < _; omega) (.int .i64 0) (by omega)))
      clear q2 hB ho hb2
      go_wp2_with fail
      obtain ⟨h1, h2, h3⟩ := HE2.out
      clear HE2 f0 f1 z0 z1
      generalize (w2.setCell ⟨w.heap.size + 1 + 1, 0, none⟩ (.slice q qs.length c)).setCell ⟨w.heap.size + 1 + 1, 1, none⟩ (.int .i64 0) = Z at *
      have e0 : Z.cell? ⟨w.heap.size + 1 + 1, 0, none⟩ = some (.slice q qs.length c) := h1.cell 0
      have e1 : Z.cell? ⟨w.heap.size + 1 + 1, 1, none⟩ = some (.int .i64 0) := h1.cell 1
      exact bodyPost_ret (v := .agg #[.slice q qs.length c, .int .i64 0]) (by simp [results, Tryz.results64, go_sem, e0, e1]) rfl ⟨⟨_, _, rfl, h3⟩, h2⟩
    · have d1 : decide (AV < 0) = false := by simpa using hAV
      clear hat hlen hAV d
      obtain ⟨W, hW, q0, q1, q2, hB, hS, -⟩ := rows3 w [.slice p N cap] [.int .i64 a, .int .i64 l] [.slice none 0 0, .int .i64 0] 49 70 126
      have HW : Hid _ := hW
      have HQ : Hid _ := And.intro q0 (And.intro q1 (And.intro q2 hB))
      have x0 : W.cell? ⟨w.heap.size, 0, none⟩ = some (.slice p N cap) := q0.cell 0
      have y0 : W.cell? ⟨w.heap.size + 1, 0, none⟩ = some (.int .i64 a) := q1.cell 0
      have y1 : W.cell? ⟨w.heap.size + 1, 1, none⟩ = some (.int .i64 l) := q1.cell 1
      clear q0 q1 q2 hB
      unfold ribV netV
      go_enter Tryz.func64, Tryz.ntmps64
      rw [hW] at x0 y0 y1
      clear hW
      go_wp2_with fail
      rw [← HW.out]
      obtain ⟨q0, q1, q2, hB⟩ := HQ.out
      clear x0 y0 y1
      refine (HA.out _ ((HX.out).below hB)).mono ?_
      rintro e w1 ⟨rfl, hb1⟩
      have q0 := q0.below hb1 (by omega)
      have q1 := q1.below hb1 (by omega)
      have q2 := q2.below hb1 (by omega)
      have hB := hB.trans (hb1.mono (by omega))
      have hs1 := hb1.size
      clear HA HW HQ hb1
      have x0 : w1.cell? ⟨w.heap.size, 0, none⟩ = some (.slice p N cap) := q0.cell 0
      have y0 : w1.cell? ⟨w.heap.size + 1, 0, none⟩ = some (.int .i64 a) := q1.cell 0
      have y1 : w1.cell? ⟨w.heap.size + 1, 1, none⟩ = some (.int .i64 l) := q1.cell 1
      go_wp2_with fail
      refine (HP.out _ ((HX.out).below hB)).mono ?_
      rintro e w2 ⟨q, c, rfl, ho, hb2⟩
      have q2 := q2.below hb2 (by omega)
      have hB := hB.trans (hb2.mono (by omega))
      clear HP HIl x0 y0 y1 q0 q1
      have f0 : w2.frozen? ⟨w.heap.size + 1 + 1, 0, none⟩ = false := q2.frozen 0
      have f1 : w2.frozen? ⟨w.heap.size + 1 + 1, 1, none⟩ = false := q2.frozen 1
      have z0 : w2.cell? ⟨w.heap.size + 1 + 1, 0, none⟩ = some (.slice none 0 0) := q2.cell 0
      have z1 : w2.cell? ⟨w.heap.size + 1 + 1, 1, none⟩ = some (.int .i64 0) := q2.cell 1
      have HE2 : Hid _ := And.intro ((q2.set 0 (.slice q qs.length c)).set 1 (.int .i64 0)) (And.intro ((hB.setCell (p := ⟨w.heap.size + 1 + 1, 0, none⟩) (by show w.heap.size ≤ w.heap.size + 1 + 1; omega) (.slice q qs.length c)).setCell (p := ⟨w.heap.size + 1 + 1, 1, none⟩) (by show w.heap.size ≤ w.heap.size + 1 + 1; omega) (.int .i64 0)) (ownR_set (base' := w.heap.size) (ownR_set (base' := w.heap.size + 1 + 1 + 1) ho ⟨w.heap.size + 1 + 1, 0, none⟩ (by show w.heap.size + 1 + 1 < _; omega) (.slice q qs.length c) (by omega)) ⟨w.heap.size + 1 + 1, 1, none⟩ (by show w.heap.size + 1 + 1 < _; omega) (.int .i64 0) (by omega)))
      clear q2 hB ho hb2
      go_wp2_with fail
      obtain ⟨h1, h2, h3⟩ := HE2.out
      clear HE2 f0 f1 z0 z1
      generalize (w2.setCell ⟨w.heap.size + 1 + 1, 0, none⟩ (.slice q qs.length c)).setCell ⟨w.heap.size + 1 + 1, 1, none⟩ (.int .i64 0) = Z at *
      have e0 : Z.cell? ⟨w.heap.size + 1 + 1, 0, none⟩ = some (.slice q qs.length c) := h1.cell 0
      have e1 : Z.cell? ⟨w.heap.size + 1 + 1, 1, none⟩ = some (.int .i64 0) := h1.cell 1
      exact bodyPost_ret (v := .agg #[.slice q qs.length c, .int .i64 0]) (by simp [results, Tryz.results64, go_sem, e0, e1]) rfl ⟨⟨_, _, rfl, h3⟩, h2⟩
theorem implOwn_any (p : Option Addr) (cap : Nat) (rs : List Rt) (a l i : Int) (w : World) (h : RtsIn w p rs) (hn : rs.length ≤ 100000000) :
    Calls Tryz.prog 191 #[ribV p rs.length cap, netV a l, .int .i64 i] w fun e w' => OutR w.heap.size (ownO rs a l i).1 (ownO rs a l i).2 e w' ∧ Below w.heap.size w w' := by
  unfold ownO
  by_cases hc : (ribB rs && (rightB a l && inIf i)) = true
  · rw [if_pos hc]
    simp only [Bool.and_eq_true] at hc
    refine (implOwn_right p cap rs a l i w h hc.1 hc.2.1 hc.2.2).mono ?_
    rintro e w' ⟨hO, hb⟩
    refine ⟨?_, hb⟩
    rcases hO with ⟨h8, hO⟩ | ⟨h8, hO⟩
    · rw [if_neg (by omega)]; exact hO
    · rw [if_pos h8]; exact hO
  · rw [if_neg hc]
    exact implOwn_wrong p cap rs a l i w h hn (by simpa using hc)

end Go.Proofs.YtialedffpaoacaaGreatDoor
/- A table at work: own. (Written by gen_work.py.) -/
namespace Go.Proofs.YtialedffpaoacaaGreatDoor
open Go.RowKit Go.Sort

theorem stab_outW (B M : Nat) (cc : Int) (qs : List Rt) : ∀ (x : Value) (w1 w2 : World), (∃ q c, x = .agg #[.slice q M c, .int .i64 cc] ∧ w1.ownsRow B 144 9 (.slice q M c) M (rowR qs)) → Below w1.heap.size w1 w2 → ∃ q c, x = .agg #[.slice q M c, .int .i64 cc] ∧ w2.ownsRow B 144 9 (.slice q M c) M (rowR qs) := by
  rintro x w1 w2 ⟨q, c, e, h⟩ hb
  exact ⟨q, c, e, ownsR_below h hb⟩
set_option maxRecDepth 100000 in
set_option maxHeartbeats 2000000 in
theorem ownAt_any (g k : Nat) (T : TypeId) (l : List Value) (p : Option Addr) (c0 : Nat) (rs : List Rt) (a b i : Int) (w : World) (hr : Row w g T l) (hk : l[k]? = some (.slice p rs.length c0)) (h : RtsIn w p rs) (hn : rs.length ≤ 100000000) :
    Calls Tryz.prog 167 #[.pointer (some ⟨g, k, none⟩), .agg #[.int .i64 a, .int .i64 b], .int .i64 i] w fun e w' => e = .returned (.int .i64 (ownO rs a b i).1) ∧ Took g k T l w.heap.size (ownO rs a b i).1 (ownO rs a b i).2 w w' := by
  have HC : Hid (∀ w, RtsIn w p rs → Calls Tryz.prog 191 #[.agg #[.slice p rs.length c0], .agg #[.int .i64 a, .int .i64 b], .int .i64 i] w fun e w' => OutR w.heap.size (ownO rs a b i).1 (ownO rs a b i).2 e w' ∧ Below w.heap.size w w') := fun w h => implOwn_any p c0 rs a b i w h hn
  have HX : Hid (RtsIn w p rs) := h
  have HF : Hid (∀ q c (w1 w2 : World), Below w.heap.size w w1 → w1.ownsRow w.heap.size 144 9 (.slice q (ownO rs a b i).2.length c) (ownO rs a b i).2.length (rowR (ownO rs a b i).2) → Row w2 g T (if (ownO rs a b i).1 = 0 then l.set k (.slice q (ownO rs a b i).2.length c) else l) → Below g w1 w2 → (∀ b t l, b ≠ g → Row w1 b t l → Row w2 b t l) → Took g k T l w.heap.size (ownO rs a b i).1 (ownO rs a b i).2 w w2) := fun q c w1 w2 a b d e f => took_of hr.lt a b d e f
  clear h hn
  generalize (ownO rs a b i) = RR at *
  obtain ⟨cc, qs⟩ := RR
  simp only at HC HF ⊢
  unfold OutR at HC
  have HT : Hid (∀ q c (w : World), Row w g T l → Calls Tryz.prog 190 #[.pointer (some ⟨g, k, none⟩), .agg #[.slice q qs.length c, .int .i64 cc]] w fun e w' => e = .returned (.int .i64 cc) ∧ Row w' g T (if cc = 0 then l.set k (.slice q qs.length c) else l) ∧ Below g w w' ∧ ∀ b t l, b ≠ g → Row w b t l → Row w' b t l) := fun q c w hr => take_any g k T l q _ c cc _ w hr hk
  generalize rs.length = n at *
  generalize qs.length = N at *
  have r0 := hr.alloc (.cells #[.int .i64 a, .int .i64 b] 70)
  have rb := Row.new w 70 [.int .i64 a, .int .i64 b]
  go_enter Tryz.func167, Tryz.ntmps167
  go_wp2_with fail
  have hGN : (([(7, Is (.pointer (some ⟨g, k, none⟩))), (8, Is (.pointer (some ⟨g, k, none⟩))), (9, Is (.pointer (some ⟨g, k, none⟩))), (10, Is (.pointer (some ⟨g, k, none⟩))), (11, Is (.agg #[.slice p n c0])), (12, Is (.agg #[.int .i64 a, .int .i64 b])), (13, Is (.int .i64 i)), (14, fun v X => ∃ q c, v = .agg #[.slice q N c, .int .i64 cc] ∧ X.ownsRow (w.heap.size + 1) 144 9 (.slice q N c) N (rowR qs))] : List (Nat × (Value → World → Prop))).map (·.1)).Nodup := by simp
  refine wp_region_steady 8 (SlotG [(7, Is (.pointer (some ⟨g, k, none⟩))), (8, Is (.pointer (some ⟨g, k, none⟩))), (9, Is (.pointer (some ⟨g, k, none⟩))), (10, Is (.pointer (some ⟨g, k, none⟩))), (11, Is (.agg #[.slice p n c0])), (12, Is (.agg #[.int .i64 a, .int .i64 b])), (13, Is (.int .i64 i)), (14, fun v X => ∃ q c, v = .agg #[.slice q N c, .int .i64 cc] ∧ X.ownsRow (w.heap.size + 1) 144 9 (.slice q N c) N (rowR qs))]) (by kernel_rfl) (by kernel_rfl) (Stabs.all ⟨stab_is _, stab_is _, stab_is _, stab_is _, stab_is _, stab_is _, stab_is _, stab_outW (w.heap.size + 1) N cc qs, trivial⟩) ?_ ?_
  · intro o ho
    simp only [List.take_succ_cons, List.take_zero, List.mem_cons, List.not_mem_nil, or_false] at ho
    rcases ho with rfl | rfl | rfl | rfl | rfl | rfl | rfl | rfl
    · intro a' w' hb ha hdep
      have d0 : a'.tmps.getD 0 undef = .pointer (some ⟨g, k, none⟩) := ha.at 0 (by kernel_rfl)
      have hmk := fun (x : Value) (W : World) => SlotG.mk (x := x) (w := W) 0 rfl hGN
      clear hGN ha hdep
      go_simp
      exact ⟨_, rfl, Below.refl _ _, hmk _ _ rfl⟩
    · intro a' w' hb ha hdep
      have d0 : a'.tmps.getD 0 undef = .pointer (some ⟨g, k, none⟩) := ha.at 0 (by kernel_rfl)
      have hmk := fun (x : Value) (W : World) => SlotG.mk (x := x) (w := W) 1 rfl hGN
      clear hGN ha hdep
      go_simp
      exact ⟨_, rfl, Below.refl _ _, hmk _ _ rfl⟩
    · intro a' w' hb ha hdep
      have d8 : a'.tmps.getD 8 undef = .pointer (some ⟨g, k, none⟩) := (hdep 8 (of_decide_eq_true (by kernel_rfl))).is 1 rfl
      have hmk := fun (x : Value) (W : World) => SlotG.mk (x := x) (w := W) 2 rfl hGN
      clear hGN ha hdep
      go_simp
      exact ⟨_, rfl, Below.refl _ _, hmk _ _ rfl⟩
    · intro a' w' hb ha hdep
      have d9 : a'.tmps.getD 9 undef = .pointer (some ⟨g, k, none⟩) := (hdep 9 (of_decide_eq_true (by kernel_rfl))).is 2 rfl
      have hmk := fun (x : Value) (W : World) => SlotG.mk (x := x) (w := W) 3 rfl hGN
      clear hGN ha hdep
      go_simp
      exact ⟨_, rfl, Below.refl _ _, hmk _ _ rfl⟩
    · intro a' w' hb ha hdep
      have d10 : a'.tmps.getD 10 undef = .pointer (some ⟨g, k, none⟩) := (hdep 10 (of_decide_eq_true (by kernel_rfl))).is 3 rfl
      have hmk := fun (x : Value) (W : World) => SlotG.mk (x := x) (w := W) 4 rfl hGN
      clear hGN ha hdep
      have y0 : w'.cell? ⟨g, k, none⟩ = some (.slice p n c0) := ((r0.below hb r0.lt).cell k).trans hk
      go_simp
      exact ⟨_, rfl, Below.refl _ _, hmk _ _ rfl⟩
    · intro a' w' hb ha hdep
      have d4 : a'.tmps.getD 4 undef = .pointer (some ⟨w.heap.size, 0, none⟩) := ha.at 4 (by kernel_rfl)
      have hmk := fun (x : Value) (W : World) => SlotG.mk (x := x) (w := W) 5 rfl hGN
      clear hGN ha hdep
      have y0 : w'.cell? ⟨w.heap.size, 0, none⟩ = some (.int .i64 a) := (rb.below hb rb.lt).cell 0
      have y1 : w'.cell? ⟨w.heap.size, 1, none⟩ = some (.int .i64 b) := (rb.below hb rb.lt).cell 1
      go_simp
      exact ⟨_, rfl, Below.refl _ _, hmk _ _ rfl⟩
    · intro a' w' hb ha hdep
      have d2 : a'.tmps.getD 2 undef = .int .i64 i := ha.at 2 (by kernel_rfl)
      have hmk := fun (x : Value) (W : World) => SlotG.mk (x := x) (w := W) 6 rfl hGN
      clear hGN ha hdep
      go_simp
      exact ⟨_, rfl, Below.refl _ _, hmk _ _ rfl⟩
    · intro a' w' hb ha hdep
      have d11 : a'.tmps.getD 11 undef = .agg #[.slice p n c0] := (hdep 11 (of_decide_eq_true (by kernel_rfl))).is 4 rfl
      have d12 : a'.tmps.getD 12 undef = .agg #[.int .i64 a, .int .i64 b] := (hdep 12 (of_decide_eq_true (by kernel_rfl))).is 5 rfl
      have d13 : a'.tmps.getD 13 undef = .int .i64 i := (hdep 13 (of_decide_eq_true (by kernel_rfl))).is 6 rfl
      have hmk := fun (x : Value) (W : World) => SlotG.mk (x := x) (w := W) 7 rfl hGN
      clear hGN ha hdep
      go_simp
      refine (HC.out _ ((HX.out.below (ent_new0 _ _)).below hb)).mono ?_
      rintro e w2 ⟨⟨q, c, rfl, ho⟩, hb2⟩
      exact ⟨_, rfl, hb2, hmk _ _ ⟨q, c, rfl, ownsR_mono ho (by have := hb.size; simp at this; omega)⟩⟩
  · intro a' w' hb ha hG
    clear hGN
    have d7 : a'.tmps.getD 7 undef = .pointer (some ⟨g, k, none⟩) := (hG _ (List.mem_of_getElem? (i := 0) rfl) 7 rfl).is 0 rfl
    have D14 := (hG _ (List.mem_of_getElem? (i := 7) rfl) 14 rfl).get 7 rfl
    have e2 : a' = ⟨#[a'.tmps.getD 0 undef, a'.tmps.getD 1 undef, a'.tmps.getD 2 undef, a'.tmps.getD 3 undef, a'.tmps.getD 4 undef, a'.tmps.getD 5 undef, a'.tmps.getD 6 undef, a'.tmps.getD 7 undef, a'.tmps.getD 8 undef, a'.tmps.getD 9 undef, a'.tmps.getD 10 undef, a'.tmps.getD 11 undef, a'.tmps.getD 12 undef, a'.tmps.getD 13 undef, a'.tmps.getD 14 undef, a'.tmps.getD 15 undef], []⟩ := by rw [← (show a'.defers = [] from ha.2.1)]; exact act_eq a' 16 ha.1
    rw [d7] at e2
    clear hG ha d7
    generalize a'.tmps.getD 0 undef = x0 at *
    generalize a'.tmps.getD 1 undef = x1 at *
    generalize a'.tmps.getD 2 undef = x2 at *
    generalize a'.tmps.getD 3 undef = x3 at *
    generalize a'.tmps.getD 4 undef = x4 at *
    generalize a'.tmps.getD 5 undef = x5 at *
    generalize a'.tmps.getD 6 undef = x6 at *
    generalize a'.tmps.getD 8 undef = x8 at *
    generalize a'.tmps.getD 9 undef = x9 at *
    generalize a'.tmps.getD 10 undef = x10 at *
    generalize a'.tmps.getD 11 undef = x11 at *
    generalize a'.tmps.getD 12 undef = x12 at *
    generalize a'.tmps.getD 13 undef = x13 at *
    generalize a'.tmps.getD 14 undef = x14 at *
    generalize a'.tmps.getD 15 undef = x15 at *
    subst e2
    simp only [List.drop_succ_cons, List.drop_zero]
    obtain ⟨q, c, rfl, ho⟩ := D14
    have hB := (ent_new0 w (.cells #[.int .i64 a, .int .i64 b] 70)).trans (hb.mono (by simp))
    have r1 := r0.below hb r0.lt
    have ho := ownsR_mono (base' := w.heap.size) ho (by omega)
    clear hb r0 rb HC HX
    go_wp2_with fail
    refine (HT.out q c _ r1).mono ?_
    rintro e w2 ⟨rfl, r2, hb2, hk2⟩
    have hf := HF.out q c _ w2 hB ho r2 hb2 hk2
    clear hB ho r2 hb2 hk2 r1 hr HF HT
    go_wp2
    go_ret
    exact ⟨rfl, hf⟩
end Go.Proofs.YtialedffpaoacaaGreatDoor
