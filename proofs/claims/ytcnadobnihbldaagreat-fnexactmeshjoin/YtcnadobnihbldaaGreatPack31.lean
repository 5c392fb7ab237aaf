/- Texts that stand on each other, in one file: TickS, LoseS. -/
import Derived.Test.YtcnadobnihbldaaGreatPack24
import Derived.Test.YtcnadobnihbldaaGreatPack17
import Derived.Test.YtcnadobnihbldaaGreatPack30
import Derived.Test.YtcnadobnihbldaaGreatPack18
/- RibTick of the model. (Written by gen_ticks.py.) -/
namespace Go.Proofs.YtcnadobnihbldaaGreat
open Go.RowKit Go.Sort

theorem ownsR_shapeT {w : World} {base n : Nat} {v : Value} {xs : List Value} (h : w.ownsRow base 155 9 v n xs) : ∃ q c, v = .slice q n c := by
  rcases h.2 with ⟨h1, h2⟩ | ⟨g, cap, cur, h1, _⟩
  · exact ⟨none, 0, by rw [h1, h2]⟩
  · exact ⟨_, _, h1⟩
theorem ownsR_belowT {w w' : World} {base n : Nat} {v : Value} {xs : List Value} (h : w.ownsRow base 155 9 v n xs) (hb : Below w.heap.size w w') : w'.ownsRow base 155 9 v n xs :=
  World.ownsRow.kept h (row := none) ⟨hb.os, hb.tape, hb.output, hb.size, fun k hk _ => hb.block k hk⟩ (by cases v.ownBlock <;> simp)
theorem set_owns {w : World} {base n : Nat} {v : Value} {xs : List Value} (h : w.ownsRow base 155 9 v n xs) {g : Nat} (hg : ∀ b, v.ownBlock = some b → b ≠ g) (j : Nat) (x : Value) : (w.setCell ⟨g, j, none⟩ x).ownsRow base 155 9 v n xs := by
  rcases h.2 with ⟨h1, h2⟩ | ⟨k, cap, cur, h1, h2, h3, h4⟩
  · exact ⟨h.1, .inl ⟨h1, h2⟩⟩
  · refine ⟨h.1, .inr ⟨k, cap, cur, h1, h2, (Below.heap_setCell w ⟨g, j, none⟩ x k (fun e => hg k (by rw [h1]; rfl) e)).trans h3, h4⟩⟩
theorem nine0_owns {w : World} {base n : Nat} {v : Value} {xs : List Value} (h : w.ownsRow base 155 9 v n xs) {g : Nat} (hg : ∀ b, v.ownBlock = some b → b ≠ g) (x0 x1 x2 x3 x4 x5 x6 x7 x8 : Value) : (nine0 w g x0 x1 x2 x3 x4 x5 x6 x7 x8).ownsRow base 155 9 v n xs :=
  set_owns (set_owns (set_owns (set_owns (set_owns (set_owns (set_owns (set_owns (set_owns h hg 0 x0) hg 1 x1) hg 2 x2) hg 3 x3) hg 4 x4) hg 5 x5) hg 6 x6) hg 7 x7) hg 8 x8
theorem take_turnL (f : Rt → Option Rt) {rs : List Rt} {k : Nat} (hk : k < rs.length) : (rs.take (k + 1)).filterMap f = (rs.take k).filterMap f ++ (f rs[k]).toList := take_turn f hk
set_option maxRecDepth 100000 in
set_option maxHeartbeats 4000000 in
theorem l06Tick_any (p : Option Addr) (cap : Nat) (rs : List Rt) (now : Int) (w : World) (h : RtsIn w p rs) (hn : rs.length ≤ 100000000) (hn0 : 0 ≤ now) (hn1 : now ≤ 999900) :
    Calls Tryz.prog 111 #[ribV p rs.length cap, .int .i64 now] w fun e w' => ∃ q c, e = .returned (ribV q (rs.filterMap (tickD now)).length c) ∧ w'.ownsRow w.heap.size 155 9 (.slice q (rs.filterMap (tickD now)).length c) (rs.filterMap (tickD now)).length (rowR (rs.filterMap (tickD now))) ∧ Below w.heap.size w w' := by
  have HD : Hid (∀ r w, Calls Tryz.prog 141 #[rtV r, .int .i64 now] w fun e w' => e = .returned (rtV (deadR r now)) ∧ Below w.heap.size w w') := fun r w => l06Dead_any r now w hn0 hn1
  have HX : Hid (RtsIn w p rs) := h
  clear h
  obtain ⟨W, hW, q0, q1, q2, hB, hS, -⟩ := rows3 w [.slice p rs.length cap] [.slice none 0 0] [.slice none 0 0] 59 59 59
  have HW : Hid _ := hW
  have HQ : Hid _ := And.intro q0 (And.intro q1 (And.intro q2 hB))
  have nz0 : w.heap.size ≠ w.heap.size + 1 + 1 := by omega
  have nz1 : w.heap.size + 1 ≠ w.heap.size + 1 + 1 := by omega
  clear hW q0 q1 q2 hB
  unfold ribV
  go_enter Tryz.func111, Tryz.ntmps111
  go_wp2_with fail
  rw [← HW.out]
  go_loopw [6] (fun i wr => ∃ (k : Nat) (v : Value), k ≤ rs.length ∧ i = .int .i64 k ∧ Row wr w.heap.size 59 [.slice p rs.length cap] ∧ Row wr (w.heap.size + 1) 59 [.slice none 0 0] ∧ Row wr (w.heap.size + 1 + 1) 59 [v] ∧ wr.ownsRow W.heap.size 155 9 v ((rs.take k).filterMap (tickD now)).length (rowR ((rs.take k).filterMap (tickD now))) ∧ Below w.heap.size w wr ∧ W.heap.size ≤ wr.heap.size) (fun i _ => rs.length - (intOf i).toNat)
  case atStart => exact ⟨0, .slice none 0 0, Nat.zero_le _, rfl, HQ.out.1, HQ.out.2.1, HQ.out.2.2.1, World.ownsRow_nil _ _ _ 9, HQ.out.2.2.2, Nat.le_refl _⟩
  case round =>
    obtain ⟨k, v, hk, rfl, r0, r1, r2, hown, hB, hWs⟩ := hrel
    clear HW HQ
    have x0 : wr.cell? ⟨w.heap.size, 0, none⟩ = some (.slice p rs.length cap) := r0.cell 0
    obtain ⟨q, cv, rfl⟩ := ownsR_shapeT hown
    by_cases hlt : k < rs.length
    · have d1 : decide ((k : Int) < (rs.length : Int)) = true := by simpa using hlt
      obtain ⟨g, a, l, m, n, ii, t, u, b, c, rfl, hg, hek, c0, c1, c2, c3, c4, c5, c6, c7, c8⟩ := ((HX.out).below hB).at k hlt
      have hnx := take_turnL (tickD now) hlt
      rw [hek] at hnx
      by_cases hb : dueB b now = true
      · have HTK : Hid ((rs.take (k + 1)).filterMap (tickD now) = (rs.take k).filterMap (tickD now)) := by
          show _ = _
          rw [hnx, show tickD now (⟨a, l, m, n, ii, t, u, b, c⟩ : Rt) = none by simp [tickD, hb]]
          simp
        simp only [dueB, Bool.and_eq_true, decide_eq_true_eq] at hb
        have db1 : decide (0 < b) = true := by simpa using hb.1
        have db2 : decide (b ≤ now) = true := by simpa using hb.2
        have HZ : Hid _ := And.intro (r0.alloc (.cells #[.int .i64 a, .int .i64 l, .int .i64 m, .int .i64 n, .int .i64 ii, .int .i64 t, .int .i64 u, .int .i64 b, .bool c] 155)) (And.intro (r1.alloc (.cells #[.int .i64 a, .int .i64 l, .int .i64 m, .int .i64 n, .int .i64 ii, .int .i64 t, .int .i64 u, .int .i64 b, .bool c] 155)) (And.intro (r2.alloc (.cells #[.int .i64 a, .int .i64 l, .int .i64 m, .int .i64 n, .int .i64 ii, .int .i64 t, .int .i64 u, .int .i64 b, .bool c] 155)) (And.intro (World.ownsRow.alloc hown (.cells #[.int .i64 a, .int .i64 l, .int .i64 m, .int .i64 n, .int .i64 ii, .int .i64 t, .int .i64 u, .int .i64 b, .bool c] 155)) (hB.alloc hB.size (.cells #[.int .i64 a, .int .i64 l, .int .i64 m, .int .i64 n, .int .i64 ii, .int .i64 t, .int .i64 u, .int .i64 b, .bool c] 155)))))
        clear r0 r1 r2 hown hB hb hnx hek
        go_wp2_with fail
        go_roundw
        case rel => exact ⟨k + 1, _, hlt, by go_num, HZ.out.1, HZ.out.2.1, HZ.out.2.2.1, by rw [HTK.out]; exact HZ.out.2.2.2.1, HZ.out.2.2.2.2, by simp; omega⟩
        case measure => simp [intOf]; omega
      · have hb0 := hb
        simp only [dueB, Bool.and_eq_true, decide_eq_true_eq] at hb0
        by_cases hb1 : 0 < b
        · have db1 : decide (0 < b) = true := by simpa using hb1
          have db2 : decide (b ≤ now) = false := by simp; omega
          clear hb0 hb1
          by_cases hu : dueB u now = true
          · have HTK : Hid ((rs.take (k + 1)).filterMap (tickD now) = (rs.take k).filterMap (tickD now) ++ [(⟨a, l, 16, n, ii, t, 0, now + 4, true⟩ : Rt)]) := by
              show _ = _
              rw [hnx, show tickD now (⟨a, l, m, n, ii, t, u, b, c⟩ : Rt) = some (⟨a, l, 16, n, ii, t, 0, now + 4, true⟩ : Rt) by simp [tickD, hb, hu, deadR]]
              rfl
            have hob : Hid (∀ b, (Value.slice q ((rs.take k).filterMap (tickD now)).length cv).ownBlock = some b → b ≠ wr.heap.size) := fun b e h => by have := (World.ownsRow.lt hown b e).2; omega
            simp only [dueB, Bool.and_eq_true, decide_eq_true_eq] at hu
            have du1 : decide (0 < u) = true := by simpa using hu.1
            have du2 : decide (u ≤ now) = true := by simpa using hu.2
            clear hb hu hnx
            have r0 := r0.alloc (.cells #[.int .i64 a, .int .i64 l, .int .i64 m, .int .i64 n, .int .i64 ii, .int .i64 t, .int .i64 u, .int .i64 b, .bool c] 155)
            have r1 := r1.alloc (.cells #[.int .i64 a, .int .i64 l, .int .i64 m, .int .i64 n, .int .i64 ii, .int .i64 t, .int .i64 u, .int .i64 b, .bool c] 155)
            have r2 := r2.alloc (.cells #[.int .i64 a, .int .i64 l, .int .i64 m, .int .i64 n, .int .i64 ii, .int .i64 t, .int .i64 u, .int .i64 b, .bool c] 155)
            have hown := World.ownsRow.alloc hown (.cells #[.int .i64 a, .int .i64 l, .int .i64 m, .int .i64 n, .int .i64 ii, .int .i64 t, .int .i64 u, .int .i64 b, .bool c] 155)
            have hB := hB.alloc hB.size (.cells #[.int .i64 a, .int .i64 l, .int .i64 m, .int .i64 n, .int .i64 ii, .int .i64 t, .int .i64 u, .int .i64 b, .bool c] 155)
            have hWs0 : W.heap.size ≤ wr.heap.size := hWs
            have hWs : W.heap.size ≤ (wr.alloc (.cells #[.int .i64 a, .int .i64 l, .int .i64 m, .int .i64 n, .int .i64 ii, .int .i64 t, .int .i64 u, .int .i64 b, .bool c] 155)).heap.size := by simp; omega
            have y2 : (wr.alloc (.cells #[.int .i64 a, .int .i64 l, .int .i64 m, .int .i64 n, .int .i64 ii, .int .i64 t, .int .i64 u, .int .i64 b, .bool c] 155)).cell? ⟨w.heap.size + 1 + 1, 0, none⟩ = some (.slice q ((rs.take k).filterMap (tickD now)).length cv) := r2.cell 0
            have qb := Row.new wr 155 [.int .i64 a, .int .i64 l, .int .i64 m, .int .i64 n, .int .i64 ii, .int .i64 t, .int .i64 u, .int .i64 b, .bool c]
            have HE : Hid _ := And.intro r0 (And.intro r1 (And.intro r2 (And.intro hown (And.intro hB qb))))
            have HDk : Hid (∀ w, Calls Tryz.prog 141 #[.agg #[.int .i64 a, .int .i64 l, .int .i64 m, .int .i64 n, .int .i64 ii, .int .i64 t, .int .i64 u, .int .i64 b, .bool c], .int .i64 now] w fun e w' => e = .returned (.agg #[.int .i64 a, .int .i64 l, .int .i64 16, .int .i64 n, .int .i64 ii, .int .i64 t, .int .i64 0, .int .i64 (now + 4), .bool true]) ∧ Below w.heap.size w w') := HD.out (⟨a, l, m, n, ii, t, u, b, c⟩ : Rt)
            clear r0 r1 r2 hown hB qb y2 hek
            go_wp2_with fail
            refine (HDk.out _).mono ?_
            rintro e w2 ⟨rfl, hb2⟩
            obtain ⟨r0, r1, r2, hown, hB, qb⟩ := HE.out
            have r0 := r0.below hb2 r0.lt
            have r1 := r1.below hb2 r1.lt
            have r2 := r2.below hb2 r2.lt
            have qb := qb.below hb2 qb.lt
            have hown := ownsR_belowT hown hb2
            have hB := hB.trans (hb2.mono hB.size)
            have hWs : W.heap.size ≤ w2.heap.size := Nat.le_trans hWs hb2.size
            clear HE HDk hb2 c0 c1 c2 c3 c4 c5 c6 c7 c8 x0
            have e0 : w2.cell? ⟨wr.heap.size, 0, none⟩ = some (.int .i64 a) := qb.cell 0
            have g0 : w2.frozen? ⟨wr.heap.size, 0, none⟩ = false := qb.frozen 0
            have e1 : w2.cell? ⟨wr.heap.size, 1, none⟩ = some (.int .i64 l) := qb.cell 1
            have g1 : w2.frozen? ⟨wr.heap.size, 1, none⟩ = false := qb.frozen 1
            have e2 : w2.cell? ⟨wr.heap.size, 2, none⟩ = some (.int .i64 m) := qb.cell 2
            have g2 : w2.frozen? ⟨wr.heap.size, 2, none⟩ = false := qb.frozen 2
            have e3 : w2.cell? ⟨wr.heap.size, 3, none⟩ = some (.int .i64 n) := qb.cell 3
            have g3 : w2.frozen? ⟨wr.heap.size, 3, none⟩ = false := qb.frozen 3
            have e4 : w2.cell? ⟨wr.heap.size, 4, none⟩ = some (.int .i64 ii) := qb.cell 4
            have g4 : w2.frozen? ⟨wr.heap.size, 4, none⟩ = false := qb.frozen 4
            have e5 : w2.cell? ⟨wr.heap.size, 5, none⟩ = some (.int .i64 t) := qb.cell 5
            have g5 : w2.frozen? ⟨wr.heap.size, 5, none⟩ = false := qb.frozen 5
            have e6 : w2.cell? ⟨wr.heap.size, 6, none⟩ = some (.int .i64 u) := qb.cell 6
            have g6 : w2.frozen? ⟨wr.heap.size, 6, none⟩ = false := qb.frozen 6
            have e7 : w2.cell? ⟨wr.heap.size, 7, none⟩ = some (.int .i64 b) := qb.cell 7
            have g7 : w2.frozen? ⟨wr.heap.size, 7, none⟩ = false := qb.frozen 7
            have e8 : w2.cell? ⟨wr.heap.size, 8, none⟩ = some (.bool c) := qb.cell 8
            have g8 : w2.frozen? ⟨wr.heap.size, 8, none⟩ = false := qb.frozen 8
            have nx0 : w.heap.size ≠ wr.heap.size := by omega
            have nx1 : w.heap.size + 1 ≠ wr.heap.size := by omega
            have nx2 : w.heap.size + 1 + 1 ≠ wr.heap.size := by omega
            have m2 : ¬ wr.heap.size = w.heap.size + 1 + 1 := by omega
            have m2' : ¬ w.heap.size + 1 + 1 = wr.heap.size := by omega
            have y2 : w2.cell? ⟨w.heap.size + 1 + 1, 0, none⟩ = some (.slice q ((rs.take k).filterMap (tickD now)).length cv) := r2.cell 0
            have r0 := nine0_other r0 wr.heap.size nx0 (.int .i64 a) (.int .i64 l) (.int .i64 16) (.int .i64 n) (.int .i64 ii) (.int .i64 t) (.int .i64 0) (.int .i64 (now + 4)) (.bool true)
            have r1 := nine0_other r1 wr.heap.size nx1 (.int .i64 a) (.int .i64 l) (.int .i64 16) (.int .i64 n) (.int .i64 ii) (.int .i64 t) (.int .i64 0) (.int .i64 (now + 4)) (.bool true)
            have r2 := nine0_other r2 wr.heap.size nx2 (.int .i64 a) (.int .i64 l) (.int .i64 16) (.int .i64 n) (.int .i64 ii) (.int .i64 t) (.int .i64 0) (.int .i64 (now + 4)) (.bool true)
            have hB := nine0_below hB wr.heap.size (by have := hWs0; omega) (.int .i64 a) (.int .i64 l) (.int .i64 16) (.int .i64 n) (.int .i64 ii) (.int .i64 t) (.int .i64 0) (.int .i64 (now + 4)) (.bool true)
            have hown : (nine0 w2 wr.heap.size (.int .i64 a) (.int .i64 l) (.int .i64 16) (.int .i64 n) (.int .i64 ii) (.int .i64 t) (.int .i64 0) (.int .i64 (now + 4)) (.bool true)).ownsRow W.heap.size 155 9 (.slice q ((rs.take k).filterMap (tickD now)).length cv) ((rs.take k).filterMap (tickD now)).length (rowR ((rs.take k).filterMap (tickD now))) := nine0_owns hown (hob.out)  (.int .i64 a) (.int .i64 l) (.int .i64 16) (.int .i64 n) (.int .i64 ii) (.int .i64 t) (.int .i64 0) (.int .i64 (now + 4)) (.bool true)
            have hWs : W.heap.size ≤ (nine0 w2 wr.heap.size (.int .i64 a) (.int .i64 l) (.int .i64 16) (.int .i64 n) (.int .i64 ii) (.int .i64 t) (.int .i64 0) (.int .i64 (now + 4)) (.bool true)).heap.size := by unfold nine0; simpa using hWs
            generalize hY : nine0 w2 wr.heap.size (.int .i64 a) (.int .i64 l) (.int .i64 16) (.int .i64 n) (.int .i64 ii) (.int .i64 t) (.int .i64 0) (.int .i64 (now + 4)) (.bool true) = Y at r0 r1 r2 hB hown hWs
            have hn0' : Y.heap.size ≥ W.heap.size := hWs
            have qn := Row.new (Y) 155 [.int .i64 a, .int .i64 l, .int .i64 16, .int .i64 n, .int .i64 ii, .int .i64 t, .int .i64 0, .int .i64 (now + 4), .bool true]
            have r0 := r0.alloc (.cells #[.int .i64 a, .int .i64 l, .int .i64 16, .int .i64 n, .int .i64 ii, .int .i64 t, .int .i64 0, .int .i64 (now + 4), .bool true] 155)
            have r1 := r1.alloc (.cells #[.int .i64 a, .int .i64 l, .int .i64 16, .int .i64 n, .int .i64 ii, .int .i64 t, .int .i64 0, .int .i64 (now + 4), .bool true] 155)
            have r2 := r2.alloc (.cells #[.int .i64 a, .int .i64 l, .int .i64 16, .int .i64 n, .int .i64 ii, .int .i64 t, .int .i64 0, .int .i64 (now + 4), .bool true] 155)
            have hB := hB.alloc hB.size (.cells #[.int .i64 a, .int .i64 l, .int .i64 16, .int .i64 n, .int .i64 ii, .int .i64 t, .int .i64 0, .int .i64 (now + 4), .bool true] 155)
            obtain ⟨v5, w5, happ, hown5, hb5⟩ := run_append_rts (Y.alloc (.cells #[.int .i64 a, .int .i64 l, .int .i64 16, .int .i64 n, .int .i64 ii, .int .i64 t, .int .i64 0, .int .i64 (now + 4), .bool true] 155)) W.heap.size (.slice q ((rs.take k).filterMap (tickD now)).length cv) ((rs.take k).filterMap (tickD now)) [(⟨a, l, 16, n, ii, t, 0, now + 4, true⟩ : Rt)] (some ⟨(Y).heap.size, 0, none⟩) 1 57 (World.ownsRow.alloc hown _) (fun e => by cases e) (fun ad e j x hj => by
              cases e
              rw [addR, Nat.zero_add, qn.cell]
              exact hj) (by have := List.length_filterMap_le (tickD now) (rs.take k); rw [List.length_take] at this; simp only [List.length_singleton]; omega) (by simp; omega)
            rw [List.length_singleton] at happ
            have hsz : (Y).heap.size = w2.heap.size := by rw [← hY]; unfold nine0; simp
            rw [hsz] at happ
            generalize hq5 : (rs.take k).filterMap (tickD now) ++ [(⟨a, l, 16, n, ii, t, 0, now + 4, true⟩ : Rt)] = Q5 at hown5
            have HQ5 : Hid _ := hq5
            clear hq5
            obtain ⟨q5, c5, rfl⟩ := ownsR_shapeT hown5
            have r0 := r0.below hb5 (by omega)
            have r1 := r1.below hb5 (by omega)
            have r2 := r2.below hb5 (by omega)
            have hB := hB.trans (hb5.mono (by omega))
            have hs5 : W.heap.size ≤ w5.heap.size := by have := hb5.size; simp at this; omega
            have f0 : w5.frozen? ⟨w.heap.size + 1 + 1, 0, none⟩ = false := r2.frozen 0
            have z0 : w5.cell? ⟨w.heap.size + 1 + 1, 0, none⟩ = some (.slice q ((rs.take k).filterMap (tickD now)).length cv) := r2.cell 0
            have HZ : Hid _ := And.intro (r0.other 0 (.slice q5 Q5.length c5) nz0) (And.intro (r1.other 0 (.slice q5 Q5.length c5) nz1) (And.intro (r2.set 0 (.slice q5 Q5.length c5)) (And.intro (ownR_set (base' := W.heap.size) hown5 ⟨w.heap.size + 1 + 1, 0, none⟩ (by show w.heap.size + 1 + 1 < W.heap.size; omega) (.slice q5 Q5.length c5) (Nat.le_refl _)) (hB.setCell (p := ⟨w.heap.size + 1 + 1, 0, none⟩) (by show w.heap.size ≤ w.heap.size + 1 + 1; omega) (.slice q5 Q5.length c5)))))
            clear r0 r1 r2 hB hown hown5 hb5 qn qb nx0 nx1 nx2
            unfold nine0 at hY
            rw [← hY] at happ
            clear hY hsz
            go_wp2_with (at_builtin; refine wpList_append_runs rfl _ _ 57 rfl _ _ rfl rfl happ ?_)
            go_roundw
            case rel => exact ⟨k + 1, .slice q5 Q5.length c5, hlt, by go_num, HZ.out.1, HZ.out.2.1, HZ.out.2.2.1, by rw [HTK.out, HQ5.out]; exact HZ.out.2.2.2.1, HZ.out.2.2.2.2, by simpa using hs5⟩
            case measure => simp [intOf]; omega
          · have HTK : Hid ((rs.take (k + 1)).filterMap (tickD now) = (rs.take k).filterMap (tickD now) ++ [(⟨a, l, m, n, ii, t, u, b, c⟩ : Rt)]) := by
              show _ = _
              rw [hnx, show tickD now (⟨a, l, m, n, ii, t, u, b, c⟩ : Rt) = some (⟨a, l, m, n, ii, t, u, b, c⟩ : Rt) by simp [tickD, hb, hu]]
              rfl
            simp only [dueB, Bool.and_eq_true, decide_eq_true_eq] at hu
            by_cases hu1 : 0 < u
            · have du1 : decide (0 < u) = true := by simpa using hu1
              have du2 : decide (u ≤ now) = false := by simp; omega
              clear hb hu hnx hu1
              have r0 := r0.alloc (.cells #[.int .i64 a, .int .i64 l, .int .i64 m, .int .i64 n, .int .i64 ii, .int .i64 t, .int .i64 u, .int .i64 b, .bool c] 155)
              have r1 := r1.alloc (.cells #[.int .i64 a, .int .i64 l, .int .i64 m, .int .i64 n, .int .i64 ii, .int .i64 t, .int .i64 u, .int .i64 b, .bool c] 155)
              have r2 := r2.alloc (.cells #[.int .i64 a, .int .i64 l, .int .i64 m, .int .i64 n, .int .i64 ii, .int .i64 t, .int .i64 u, .int .i64 b, .bool c] 155)
              have hown := World.ownsRow.alloc hown (.cells #[.int .i64 a, .int .i64 l, .int .i64 m, .int .i64 n, .int .i64 ii, .int .i64 t, .int .i64 u, .int .i64 b, .bool c] 155)
              have hB := hB.alloc hB.size (.cells #[.int .i64 a, .int .i64 l, .int .i64 m, .int .i64 n, .int .i64 ii, .int .i64 t, .int .i64 u, .int .i64 b, .bool c] 155)
              have hWs0 : W.heap.size ≤ wr.heap.size := hWs
              have hWs : W.heap.size ≤ (wr.alloc (.cells #[.int .i64 a, .int .i64 l, .int .i64 m, .int .i64 n, .int .i64 ii, .int .i64 t, .int .i64 u, .int .i64 b, .bool c] 155)).heap.size := by simp; omega
              have y2 : (wr.alloc (.cells #[.int .i64 a, .int .i64 l, .int .i64 m, .int .i64 n, .int .i64 ii, .int .i64 t, .int .i64 u, .int .i64 b, .bool c] 155)).cell? ⟨w.heap.size + 1 + 1, 0, none⟩ = some (.slice q ((rs.take k).filterMap (tickD now)).length cv) := r2.cell 0
              have hn0' : (wr.alloc (.cells #[.int .i64 a, .int .i64 l, .int .i64 m, .int .i64 n, .int .i64 ii, .int .i64 t, .int .i64 u, .int .i64 b, .bool c] 155)).heap.size ≥ W.heap.size := hWs
              have qn := Row.new ((wr.alloc (.cells #[.int .i64 a, .int .i64 l, .int .i64 m, .int .i64 n, .int .i64 ii, .int .i64 t, .int .i64 u, .int .i64 b, .bool c] 155))) 155 [.int .i64 a, .int .i64 l, .int .i64 m, .int .i64 n, .int .i64 ii, .int .i64 t, .int .i64 u, .int .i64 b, .bool c]
              have r0 := r0.alloc (.cells #[.int .i64 a, .int .i64 l, .int .i64 m, .int .i64 n, .int .i64 ii, .int .i64 t, .int .i64 u, .int .i64 b, .bool c] 155)
              have r1 := r1.alloc (.cells #[.int .i64 a, .int .i64 l, .int .i64 m, .int .i64 n, .int .i64 ii, .int .i64 t, .int .i64 u, .int .i64 b, .bool c] 155)
              have r2 := r2.alloc (.cells #[.int .i64 a, .int .i64 l, .int .i64 m, .int .i64 n, .int .i64 ii, .int .i64 t, .int .i64 u, .int .i64 b, .bool c] 155)
              have hB := hB.alloc hB.size (.cells #[.int .i64 a, .int .i64 l, .int .i64 m, .int .i64 n, .int .i64 ii, .int .i64 t, .int .i64 u, .int .i64 b, .bool c] 155)
              obtain ⟨v5, w5, happ, hown5, hb5⟩ := run_append_rts ((wr.alloc (.cells #[.int .i64 a, .int .i64 l, .int .i64 m, .int .i64 n, .int .i64 ii, .int .i64 t, .int .i64 u, .int .i64 b, .bool c] 155)).alloc (.cells #[.int .i64 a, .int .i64 l, .int .i64 m, .int .i64 n, .int .i64 ii, .int .i64 t, .int .i64 u, .int .i64 b, .bool c] 155)) W.heap.size (.slice q ((rs.take k).filterMap (tickD now)).length cv) ((rs.take k).filterMap (tickD now)) [(⟨a, l, m, n, ii, t, u, b, c⟩ : Rt)] (some ⟨((wr.alloc (.cells #[.int .i64 a, .int .i64 l, .int .i64 m, .int .i64 n, .int .i64 ii, .int .i64 t, .int .i64 u, .int .i64 b, .bool c] 155))).heap.size, 0, none⟩) 1 57 (World.ownsRow.alloc hown _) (fun e => by cases e) (fun ad e j x hj => by
                cases e
                rw [addR, Nat.zero_add, qn.cell]
                exact hj) (by have := List.length_filterMap_le (tickD now) (rs.take k); rw [List.length_take] at this; simp only [List.length_singleton]; omega) (by simp; omega)
              rw [List.length_singleton] at happ
              have hsz : ((wr.alloc (.cells #[.int .i64 a, .int .i64 l, .int .i64 m, .int .i64 n, .int .i64 ii, .int .i64 t, .int .i64 u, .int .i64 b, .bool c] 155))).heap.size = wr.heap.size + 1 := by simp
              rw [hsz] at happ
              generalize hq5 : (rs.take k).filterMap (tickD now) ++ [(⟨a, l, m, n, ii, t, u, b, c⟩ : Rt)] = Q5 at hown5
              have HQ5 : Hid _ := hq5
              clear hq5
              obtain ⟨q5, c5, rfl⟩ := ownsR_shapeT hown5
              have r0 := r0.below hb5 (by omega)
              have r1 := r1.below hb5 (by omega)
              have r2 := r2.below hb5 (by omega)
              have hB := hB.trans (hb5.mono (by omega))
              have hs5 : W.heap.size ≤ w5.heap.size := by have := hb5.size; simp at this; omega
              have f0 : w5.frozen? ⟨w.heap.size + 1 + 1, 0, none⟩ = false := r2.frozen 0
              have z0 : w5.cell? ⟨w.heap.size + 1 + 1, 0, none⟩ = some (.slice q ((rs.take k).filterMap (tickD now)).length cv) := r2.cell 0
              have HZ : Hid _ := And.intro (r0.other 0 (.slice q5 Q5.length c5) nz0) (And.intro (r1.other 0 (.slice q5 Q5.length c5) nz1) (And.intro (r2.set 0 (.slice q5 Q5.length c5)) (And.intro (ownR_set (base' := W.heap.size) hown5 ⟨w.heap.size + 1 + 1, 0, none⟩ (by show w.heap.size + 1 + 1 < W.heap.size; omega) (.slice q5 Q5.length c5) (Nat.le_refl _)) (hB.setCell (p := ⟨w.heap.size + 1 + 1, 0, none⟩) (by show w.heap.size ≤ w.heap.size + 1 + 1; omega) (.slice q5 Q5.length c5)))))
              clear r0 r1 r2 hB hown hown5 hb5 qn 
              go_wp2_with (at_builtin; refine wpList_append_runs rfl _ _ 57 rfl _ _ rfl rfl happ ?_)
              go_roundw
              case rel => exact ⟨k + 1, .slice q5 Q5.length c5, hlt, by go_num, HZ.out.1, HZ.out.2.1, HZ.out.2.2.1, by rw [HTK.out, HQ5.out]; exact HZ.out.2.2.2.1, HZ.out.2.2.2.2, by simpa using hs5⟩
              case measure => simp [intOf]; omega
            · have du1 : decide (0 < u) = false := by simpa using hu1
              clear hb hu hnx hu1
              have r0 := r0.alloc (.cells #[.int .i64 a, .int .i64 l, .int .i64 m, .int .i64 n, .int .i64 ii, .int .i64 t, .int .i64 u, .int .i64 b, .bool c] 155)
              have r1 := r1.alloc (.cells #[.int .i64 a, .int .i64 l, .int .i64 m, .int .i64 n, .int .i64 ii, .int .i64 t, .int .i64 u, .int .i64 b, .bool c] 155)
              have r2 := r2.alloc (.cells #[.int .i64 a, .int .i64 l, .int .i64 m, .int .i64 n, .int .i64 ii, .int .i64 t, .int .i64 u, .int .i64 b, .bool c] 155)
              have hown := World.ownsRow.alloc hown (.cells #[.int .i64 a, .int .i64 l, .int .i64 m, .int .i64 n, .int .i64 ii, .int .i64 t, .int .i64 u, .int .i64 b, .bool c] 155)
              have hB := hB.alloc hB.size (.cells #[.int .i64 a, .int .i64 l, .int .i64 m, .int .i64 n, .int .i64 ii, .int .i64 t, .int .i64 u, .int .i64 b, .bool c] 155)
              have hWs0 : W.heap.size ≤ wr.heap.size := hWs
              have hWs : W.heap.size ≤ (wr.alloc (.cells #[.int .i64 a, .int .i64 l, .int .i64 m, .int .i64 n, .int .i64 ii, .int .i64 t, .int .i64 u, .int .i64 b, .bool c] 155)).heap.size := by simp; omega
              have y2 : (wr.alloc (.cells #[.int .i64 a, .int .i64 l, .int .i64 m, .int .i64 n, .int .i64 ii, .int .i64 t, .int .i64 u, .int .i64 b, .bool c] 155)).cell? ⟨w.heap.size + 1 + 1, 0, none⟩ = some (.slice q ((rs.take k).filterMap (tickD now)).length cv) := r2.cell 0
              have hn0' : (wr.alloc (.cells #[.int .i64 a, .int .i64 l, .int .i64 m, .int .i64 n, .int .i64 ii, .int .i64 t, .int .i64 u, .int .i64 b, .bool c] 155)).heap.size ≥ W.heap.size := hWs
              have qn := Row.new ((wr.alloc (.cells #[.int .i64 a, .int .i64 l, .int .i64 m, .int .i64 n, .int .i64 ii, .int .i64 t, .int .i64 u, .int .i64 b, .bool c] 155))) 155 [.int .i64 a, .int .i64 l, .int .i64 m, .int .i64 n, .int .i64 ii, .int .i64 t, .int .i64 u, .int .i64 b, .bool c]
              have r0 := r0.alloc (.cells #[.int .i64 a, .int .i64 l, .int .i64 m, .int .i64 n, .int .i64 ii, .int .i64 t, .int .i64 u, .int .i64 b, .bool c] 155)
              have r1 := r1.alloc (.cells #[.int .i64 a, .int .i64 l, .int .i64 m, .int .i64 n, .int .i64 ii, .int .i64 t, .int .i64 u, .int .i64 b, .bool c] 155)
              have r2 := r2.alloc (.cells #[.int .i64 a, .int .i64 l, .int .i64 m, .int .i64 n, .int .i64 ii, .int .i64 t, .int .i64 u, .int .i64 b, .bool c] 155)
              have hB := hB.alloc hB.size (.cells #[.int .i64 a, .int .i64 l, .int .i64 m, .int .i64 n, .int .i64 ii, .int .i64 t, .int .i64 u, .int .i64 b, .bool c] 155)
              obtain ⟨v5, w5, happ, hown5, hb5⟩ := run_append_rts ((wr.alloc (.cells #[.int .i64 a, .int .i64 l, .int .i64 m, .int .i64 n, .int .i64 ii, .int .i64 t, .int .i64 u, .int .i64 b, .bool c] 155)).alloc (.cells #[.int .i64 a, .int .i64 l, .int .i64 m, .int .i64 n, .int .i64 ii, .int .i64 t, .int .i64 u, .int .i64 b, .bool c] 155)) W.heap.size (.slice q ((rs.take k).filterMap (tickD now)).length cv) ((rs.take k).filterMap (tickD now)) [(⟨a, l, m, n, ii, t, u, b, c⟩ : Rt)] (some ⟨((wr.alloc (.cells #[.int .i64 a, .int .i64 l, .int .i64 m, .int .i64 n, .int .i64 ii, .int .i64 t, .int .i64 u, .int .i64 b, .bool c] 155))).heap.size, 0, none⟩) 1 57 (World.ownsRow.alloc hown _) (fun e => by cases e) (fun ad e j x hj => by
                cases e
                rw [addR, Nat.zero_add, qn.cell]
                exact hj) (by have := List.length_filterMap_le (tickD now) (rs.take k); rw [List.length_take] at this; simp only [List.length_singleton]; omega) (by simp; omega)
              rw [List.length_singleton] at happ
              have hsz : ((wr.alloc (.cells #[.int .i64 a, .int .i64 l, .int .i64 m, .int .i64 n, .int .i64 ii, .int .i64 t, .int .i64 u, .int .i64 b, .bool c] 155))).heap.size = wr.heap.size + 1 := by simp
              rw [hsz] at happ
              generalize hq5 : (rs.take k).filterMap (tickD now) ++ [(⟨a, l, m, n, ii, t, u, b, c⟩ : Rt)] = Q5 at hown5
              have HQ5 : Hid _ := hq5
              clear hq5
              obtain ⟨q5, c5, rfl⟩ := ownsR_shapeT hown5
              have r0 := r0.below hb5 (by omega)
              have r1 := r1.below hb5 (by omega)
              have r2 := r2.below hb5 (by omega)
              have hB := hB.trans (hb5.mono (by omega))
              have hs5 : W.heap.size ≤ w5.heap.size := by have := hb5.size; simp at this; omega
              have f0 : w5.frozen? ⟨w.heap.size + 1 + 1, 0, none⟩ = false := r2.frozen 0
              have z0 : w5.cell? ⟨w.heap.size + 1 + 1, 0, none⟩ = some (.slice q ((rs.take k).filterMap (tickD now)).length cv) := r2.cell 0
              have HZ : Hid _ := And.intro (r0.other 0 (.slice q5 Q5.length c5) nz0) (And.intro (r1.other 0 (.slice q5 Q5.length c5) nz1) (And.intro (r2.set 0 (.slice q5 Q5.length c5)) (And.intro (ownR_set (base' := W.heap.size) hown5 ⟨w.heap.size + 1 + 1, 0, none⟩ (by show w.heap.size + 1 + 1 < W.heap.size; omega) (.slice q5 Q5.length c5) (Nat.le_refl _)) (hB.setCell (p := ⟨w.heap.size + 1 + 1, 0, none⟩) (by show w.heap.size ≤ w.heap.size + 1 + 1; omega) (.slice q5 Q5.length c5)))))
              clear r0 r1 r2 hB hown hown5 hb5 qn 
              go_wp2_with (at_builtin; refine wpList_append_runs rfl _ _ 57 rfl _ _ rfl rfl happ ?_)
              go_roundw
              case rel => exact ⟨k + 1, .slice q5 Q5.length c5, hlt, by go_num, HZ.out.1, HZ.out.2.1, HZ.out.2.2.1, by rw [HTK.out, HQ5.out]; exact HZ.out.2.2.2.1, HZ.out.2.2.2.2, by simpa using hs5⟩
              case measure => simp [intOf]; omega
        · have db1 : decide (0 < b) = false := by simpa using hb1
          clear hb0 hb1
          by_cases hu : dueB u now = true
          · have HTK : Hid ((rs.take (k + 1)).filterMap (tickD now) = (rs.take k).filterMap (tickD now) ++ [(⟨a, l, 16, n, ii, t, 0, now + 4, true⟩ : Rt)]) := by
              show _ = _
              rw [hnx, show tickD now (⟨a, l, m, n, ii, t, u, b, c⟩ : Rt) = some (⟨a, l, 16, n, ii, t, 0, now + 4, true⟩ : Rt) by simp [tickD, hb, hu, deadR]]
              rfl
            have hob : Hid (∀ b, (Value.slice q ((rs.take k).filterMap (tickD now)).length cv).ownBlock = some b → b ≠ wr.heap.size) := fun b e h => by have := (World.ownsRow.lt hown b e).2; omega
            simp only [dueB, Bool.and_eq_true, decide_eq_true_eq] at hu
            have du1 : decide (0 < u) = true := by simpa using hu.1
            have du2 : decide (u ≤ now) = true := by simpa using hu.2
            clear hb hu hnx
            have r0 := r0.alloc (.cells #[.int .i64 a, .int .i64 l, .int .i64 m, .int .i64 n, .int .i64 ii, .int .i64 t, .int .i64 u, .int .i64 b, .bool c] 155)
            have r1 := r1.alloc (.cells #[.int .i64 a, .int .i64 l, .int .i64 m, .int .i64 n, .int .i64 ii, .int .i64 t, .int .i64 u, .int .i64 b, .bool c] 155)
            have r2 := r2.alloc (.cells #[.int .i64 a, .int .i64 l, .int .i64 m, .int .i64 n, .int .i64 ii, .int .i64 t, .int .i64 u, .int .i64 b, .bool c] 155)
            have hown := World.ownsRow.alloc hown (.cells #[.int .i64 a, .int .i64 l, .int .i64 m, .int .i64 n, .int .i64 ii, .int .i64 t, .int .i64 u, .int .i64 b, .bool c] 155)
            have hB := hB.alloc hB.size (.cells #[.int .i64 a, .int .i64 l, .int .i64 m, .int .i64 n, .int .i64 ii, .int .i64 t, .int .i64 u, .int .i64 b, .bool c] 155)
            have hWs0 : W.heap.size ≤ wr.heap.size := hWs
            have hWs : W.heap.size ≤ (wr.alloc (.cells #[.int .i64 a, .int .i64 l, .int .i64 m, .int .i64 n, .int .i64 ii, .int .i64 t, .int .i64 u, .int .i64 b, .bool c] 155)).heap.size := by simp; omega
            have y2 : (wr.alloc (.cells #[.int .i64 a, .int .i64 l, .int .i64 m, .int .i64 n, .int .i64 ii, .int .i64 t, .int .i64 u, .int .i64 b, .bool c] 155)).cell? ⟨w.heap.size + 1 + 1, 0, none⟩ = some (.slice q ((rs.take k).filterMap (tickD now)).length cv) := r2.cell 0
            have qb := Row.new wr 155 [.int .i64 a, .int .i64 l, .int .i64 m, .int .i64 n, .int .i64 ii, .int .i64 t, .int .i64 u, .int .i64 b, .bool c]
            have HE : Hid _ := And.intro r0 (And.intro r1 (And.intro r2 (And.intro hown (And.intro hB qb))))
            have HDk : Hid (∀ w, Calls Tryz.prog 141 #[.agg #[.int .i64 a, .int .i64 l, .int .i64 m, .int .i64 n, .int .i64 ii, .int .i64 t, .int .i64 u, .int .i64 b, .bool c], .int .i64 now] w fun e w' => e = .returned (.agg #[.int .i64 a, .int .i64 l, .int .i64 16, .int .i64 n, .int .i64 ii, .int .i64 t, .int .i64 0, .int .i64 (now + 4), .bool true]) ∧ Below w.heap.size w w') := HD.out (⟨a, l, m, n, ii, t, u, b, c⟩ : Rt)
            clear r0 r1 r2 hown hB qb y2 hek
            go_wp2_with fail
            refine (HDk.out _).mono ?_
            rintro e w2 ⟨rfl, hb2⟩
            obtain ⟨r0, r1, r2, hown, hB, qb⟩ := HE.out
            have r0 := r0.below hb2 r0.lt
            have r1 := r1.below hb2 r1.lt
            have r2 := r2.below hb2 r2.lt
            have qb := qb.below hb2 qb.lt
            have hown := ownsR_belowT hown hb2
            have hB := hB.trans (hb2.mono hB.size)
            have hWs : W.heap.size ≤ w2.heap.size := Nat.le_trans hWs hb2.size
            clear HE HDk hb2 c0 c1 c2 c3 c4 c5 c6 c7 c8 x0
            have e0 : w2.cell? ⟨wr.heap.size, 0, none⟩ = some (.int .i64 a) := qb.cell 0
            have g0 : w2.frozen? ⟨wr.heap.size, 0, none⟩ = false := qb.frozen 0
            have e1 : w2.cell? ⟨wr.heap.size, 1, none⟩ = some (.int .i64 l) := qb.cell 1
            have g1 : w2.frozen? ⟨wr.heap.size, 1, none⟩ = false := qb.frozen 1
            have e2 : w2.cell? ⟨wr.heap.size, 2, none⟩ = some (.int .i64 m) := qb.cell 2
            have g2 : w2.frozen? ⟨wr.heap.size, 2, none⟩ = false := qb.frozen 2
            have e3 : w2.cell? ⟨wr.heap.size, 3, none⟩ = some (.int .i64 n) := qb.cell 3
            have g3 : w2.frozen? ⟨wr.heap.size, 3, none⟩ = false := qb.frozen 3
            have e4 : w2.cell? ⟨wr.heap.size, 4, none⟩ = some (.int .i64 ii) := qb.cell 4
            have g4 : w2.frozen? ⟨wr.heap.size, 4, none⟩ = false := qb.frozen 4
            have e5 : w2.cell? ⟨wr.heap.size, 5, none⟩ = some (.int .i64 t) := qb.cell 5
            have g5 : w2.frozen? ⟨wr.heap.size, 5, none⟩ = false := qb.frozen 5
            have e6 : w2.cell? ⟨wr.heap.size, 6, none⟩ = some (.int .i64 u) := qb.cell 6
            have g6 : w2.frozen? ⟨wr.heap.size, 6, none⟩ = false := qb.frozen 6
            have e7 : w2.cell? ⟨wr.heap.size, 7, none⟩ = some (.int .i64 b) := qb.cell 7
            have g7 : w2.frozen? ⟨wr.heap.size, 7, none⟩ = false := qb.frozen 7
            have e8 : w2.cell? ⟨wr.heap.size, 8, none⟩ = some (.bool c) := qb.cell 8
            have g8 : w2.frozen? ⟨wr.heap.size, 8, none⟩ = false := qb.frozen 8
            have nx0 : w.heap.size ≠ wr.heap.size := by omega
            have nx1 : w.heap.size + 1 ≠ wr.heap.size := by omega
            have nx2 : w.heap.size + 1 + 1 ≠ wr.heap.size := by omega
            have m2 : ¬ wr.heap.size = w.heap.size + 1 + 1 := by omega
            have m2' : ¬ w.heap.size + 1 + 1 = wr.heap.size := by omega
            have y2 : w2.cell? ⟨w.heap.size + 1 + 1, 0, none⟩ = some (.slice q ((rs.take k).filterMap (tickD now)).length cv) := r2.cell 0
            have r0 := nine0_other r0 wr.heap.size nx0 (.int .i64 a) (.int .i64 l) (.int .i64 16) (.int .i64 n) (.int .i64 ii) (.int .i64 t) (.int .i64 0) (.int .i64 (now + 4)) (.bool true)
            have r1 := nine0_other r1 wr.heap.size nx1 (.int .i64 a) (.int .i64 l) (.int .i64 16) (.int .i64 n) (.int .i64 ii) (.int .i64 t) (.int .i64 0) (.int .i64 (now + 4)) (.bool true)
            have r2 := nine0_other r2 wr.heap.size nx2 (.int .i64 a) (.int .i64 l) (.int .i64 16) (.int .i64 n) (.int .i64 ii) (.int .i64 t) (.int .i64 0) (.int .i64 (now + 4)) (.bool true)
            have hB := nine0_below hB wr.heap.size (by have := hWs0; omega) (.int .i64 a) (.int .i64 l) (.int .i64 16) (.int .i64 n) (.int .i64 ii) (.int .i64 t) (.int .i64 0) (.int .i64 (now + 4)) (.bool true)
            have hown : (nine0 w2 wr.heap.size (.int .i64 a) (.int .i64 l) (.int .i64 16) (.int .i64 n) (.int .i64 ii) (.int .i64 t) (.int .i64 0) (.int .i64 (now + 4)) (.bool true)).ownsRow W.heap.size 155 9 (.slice q ((rs.take k).filterMap (tickD now)).length cv) ((rs.take k).filterMap (tickD now)).length (rowR ((rs.take k).filterMap (tickD now))) := nine0_owns hown (hob.out)  (.int .i64 a) (.int .i64 l) (.int .i64 16) (.int .i64 n) (.int .i64 ii) (.int .i64 t) (.int .i64 0) (.int .i64 (now + 4)) (.bool true)
            have hWs : W.heap.size ≤ (nine0 w2 wr.heap.size (.int .i64 a) (.int .i64 l) (.int .i64 16) (.int .i64 n) (.int .i64 ii) (.int .i64 t) (.int .i64 0) (.int .i64 (now + 4)) (.bool true)).heap.size := by unfold nine0; simpa using hWs
            generalize hY : nine0 w2 wr.heap.size (.int .i64 a) (.int .i64 l) (.int .i64 16) (.int .i64 n) (.int .i64 ii) (.int .i64 t) (.int .i64 0) (.int .i64 (now + 4)) (.bool true) = Y at r0 r1 r2 hB hown hWs
            have hn0' : Y.heap.size ≥ W.heap.size := hWs
            have qn := Row.new (Y) 155 [.int .i64 a, .int .i64 l, .int .i64 16, .int .i64 n, .int .i64 ii, .int .i64 t, .int .i64 0, .int .i64 (now + 4), .bool true]
            have r0 := r0.alloc (.cells #[.int .i64 a, .int .i64 l, .int .i64 16, .int .i64 n, .int .i64 ii, .int .i64 t, .int .i64 0, .int .i64 (now + 4), .bool true] 155)
            have r1 := r1.alloc (.cells #[.int .i64 a, .int .i64 l, .int .i64 16, .int .i64 n, .int .i64 ii, .int .i64 t, .int .i64 0, .int .i64 (now + 4), .bool true] 155)
            have r2 := r2.alloc (.cells #[.int .i64 a, .int .i64 l, .int .i64 16, .int .i64 n, .int .i64 ii, .int .i64 t, .int .i64 0, .int .i64 (now + 4), .bool true] 155)
            have hB := hB.alloc hB.size (.cells #[.int .i64 a, .int .i64 l, .int .i64 16, .int .i64 n, .int .i64 ii, .int .i64 t, .int .i64 0, .int .i64 (now + 4), .bool true] 155)
            obtain ⟨v5, w5, happ, hown5, hb5⟩ := run_append_rts (Y.alloc (.cells #[.int .i64 a, .int .i64 l, .int .i64 16, .int .i64 n, .int .i64 ii, .int .i64 t, .int .i64 0, .int .i64 (now + 4), .bool true] 155)) W.heap.size (.slice q ((rs.take k).filterMap (tickD now)).length cv) ((rs.take k).filterMap (tickD now)) [(⟨a, l, 16, n, ii, t, 0, now + 4, true⟩ : Rt)] (some ⟨(Y).heap.size, 0, none⟩) 1 57 (World.ownsRow.alloc hown _) (fun e => by cases e) (fun ad e j x hj => by
              cases e
              rw [addR, Nat.zero_add, qn.cell]
              exact hj) (by have := List.length_filterMap_le (tickD now) (rs.take k); rw [List.length_take] at this; simp only [List.length_singleton]; omega) (by simp; omega)
            rw [List.length_singleton] at happ
            have hsz : (Y).heap.size = w2.heap.size := by rw [← hY]; unfold nine0; simp
            rw [hsz] at happ
            generalize hq5 : (rs.take k).filterMap (tickD now) ++ [(⟨a, l, 16, n, ii, t, 0, now + 4, true⟩ : Rt)] = Q5 at hown5
            have HQ5 : Hid _ := hq5
            clear hq5
            obtain ⟨q5, c5, rfl⟩ := ownsR_shapeT hown5
            have r0 := r0.below hb5 (by omega)
            have r1 := r1.below hb5 (by omega)
            have r2 := r2.below hb5 (by omega)
            have hB := hB.trans (hb5.mono (by omega))
            have hs5 : W.heap.size ≤ w5.heap.size := by have := hb5.size; simp at this; omega
            have f0 : w5.frozen? ⟨w.heap.size + 1 + 1, 0, none⟩ = false := r2.frozen 0
            have z0 : w5.cell? ⟨w.heap.size + 1 + 1, 0, none⟩ = some (.slice q ((rs.take k).filterMap (tickD now)).length cv) := r2.cell 0
            have HZ : Hid _ := And.intro (r0.other 0 (.slice q5 Q5.length c5) nz0) (And.intro (r1.other 0 (.slice q5 Q5.length c5) nz1) (And.intro (r2.set 0 (.slice q5 Q5.length c5)) (And.intro (ownR_set (base' := W.heap.size) hown5 ⟨w.heap.size + 1 + 1, 0, none⟩ (by show w.heap.size + 1 + 1 < W.heap.size; omega) (.slice q5 Q5.length c5) (Nat.le_refl _)) (hB.setCell (p := ⟨w.heap.size + 1 + 1, 0, none⟩) (by show w.heap.size ≤ w.heap.size + 1 + 1; omega) (.slice q5 Q5.length c5)))))
            clear r0 r1 r2 hB hown hown5 hb5 qn qb nx0 nx1 nx2
            unfold nine0 at hY
            rw [← hY] at happ
            clear hY hsz
            go_wp2_with (at_builtin; refine wpList_append_runs rfl _ _ 57 rfl _ _ rfl rfl happ ?_)
            go_roundw
            case rel => exact ⟨k + 1, .slice q5 Q5.length c5, hlt, by go_num, HZ.out.1, HZ.out.2.1, HZ.out.2.2.1, by rw [HTK.out, HQ5.out]; exact HZ.out.2.2.2.1, HZ.out.2.2.2.2, by simpa using hs5⟩
            case measure => simp [intOf]; omega
          · have HTK : Hid ((rs.take (k + 1)).filterMap (tickD now) = (rs.take k).filterMap (tickD now) ++ [(⟨a, l, m, n, ii, t, u, b, c⟩ : Rt)]) := by
              show _ = _
              rw [hnx, show tickD now (⟨a, l, m, n, ii, t, u, b, c⟩ : Rt) = some (⟨a, l, m, n, ii, t, u, b, c⟩ : Rt) by simp [tickD, hb, hu]]
              rfl
            simp only [dueB, Bool.and_eq_true, decide_eq_true_eq] at hu
            by_cases hu1 : 0 < u
            · have du1 : decide (0 < u) = true := by simpa using hu1
              have du2 : decide (u ≤ now) = false := by simp; omega
              clear hb hu hnx hu1
              have r0 := r0.alloc (.cells #[.int .i64 a, .int .i64 l, .int .i64 m, .int .i64 n, .int .i64 ii, .int .i64 t, .int .i64 u, .int .i64 b, .bool c] 155)
              have r1 := r1.alloc (.cells #[.int .i64 a, .int .i64 l, .int .i64 m, .int .i64 n, .int .i64 ii, .int .i64 t, .int .i64 u, .int .i64 b, .bool c] 155)
              have r2 := r2.alloc (.cells #[.int .i64 a, .int .i64 l, .int .i64 m, .int .i64 n, .int .i64 ii, .int .i64 t, .int .i64 u, .int .i64 b, .bool c] 155)
              have hown := World.ownsRow.alloc hown (.cells #[.int .i64 a, .int .i64 l, .int .i64 m, .int .i64 n, .int .i64 ii, .int .i64 t, .int .i64 u, .int .i64 b, .bool c] 155)
              have hB := hB.alloc hB.size (.cells #[.int .i64 a, .int .i64 l, .int .i64 m, .int .i64 n, .int .i64 ii, .int .i64 t, .int .i64 u, .int .i64 b, .bool c] 155)
              have hWs0 : W.heap.size ≤ wr.heap.size := hWs
              have hWs : W.heap.size ≤ (wr.alloc (.cells #[.int .i64 a, .int .i64 l, .int .i64 m, .int .i64 n, .int .i64 ii, .int .i64 t, .int .i64 u, .int .i64 b, .bool c] 155)).heap.size := by simp; omega
              have y2 : (wr.alloc (.cells #[.int .i64 a, .int .i64 l, .int .i64 m, .int .i64 n, .int .i64 ii, .int .i64 t, .int .i64 u, .int .i64 b, .bool c] 155)).cell? ⟨w.heap.size + 1 + 1, 0, none⟩ = some (.slice q ((rs.take k).filterMap (tickD now)).length cv) := r2.cell 0
              have hn0' : (wr.alloc (.cells #[.int .i64 a, .int .i64 l, .int .i64 m, .int .i64 n, .int .i64 ii, .int .i64 t, .int .i64 u, .int .i64 b, .bool c] 155)).heap.size ≥ W.heap.size := hWs
              have qn := Row.new ((wr.alloc (.cells #[.int .i64 a, .int .i64 l, .int .i64 m, .int .i64 n, .int .i64 ii, .int .i64 t, .int .i64 u, .int .i64 b, .bool c] 155))) 155 [.int .i64 a, .int .i64 l, .int .i64 m, .int .i64 n, .int .i64 ii, .int .i64 t, .int .i64 u, .int .i64 b, .bool c]
              have r0 := r0.alloc (.cells #[.int .i64 a, .int .i64 l, .int .i64 m, .int .i64 n, .int .i64 ii, .int .i64 t, .int .i64 u, .int .i64 b, .bool c] 155)
              have r1 := r1.alloc (.cells #[.int .i64 a, .int .i64 l, .int .i64 m, .int .i64 n, .int .i64 ii, .int .i64 t, .int .i64 u, .int .i64 b, .bool c] 155)
              have r2 := r2.alloc (.cells #[.int .i64 a, .int .i64 l, .int .i64 m, .int .i64 n, .int .i64 ii, .int .i64 t, .int .i64 u, .int .i64 b, .bool c] 155)
              have hB := hB.alloc hB.size (.cells #[.int .i64 a, .int .i64 l, .int .i64 m, .int .i64 n, .int .i64 ii, .int .i64 t, .int .i64 u, .int .i64 b, .bool c] 155)
              obtain ⟨v5, w5, happ, hown5, hb5⟩ := run_append_rts ((wr.alloc (.cells #[.int .i64 a, .int .i64 l, .int .i64 m, .int .i64 n, .int .i64 ii, .int .i64 t, .int .i64 u, .int .i64 b, .bool c] 155)).alloc (.cells #[.int .i64 a, .int .i64 l, .int .i64 m, .int .i64 n, .int .i64 ii, .int .i64 t, .int .i64 u, .int .i64 b, .bool c] 155)) W.heap.size (.slice q ((rs.take k).filterMap (tickD now)).length cv) ((rs.take k).filterMap (tickD now)) [(⟨a, l, m, n, ii, t, u, b, c⟩ : Rt)] (some ⟨((wr.alloc (.cells #[.int .i64 a, .int .i64 l, .int .i64 m, .int .i64 n, .int .i64 ii, .int .i64 t, .int .i64 u, .int .i64 b, .bool c] 155))).heap.size, 0, none⟩) 1 57 (World.ownsRow.alloc hown _) (fun e => by cases e) (fun ad e j x hj => by
                cases e
                rw [addR, Nat.zero_add, qn.cell]
                exact hj) (by have := List.length_filterMap_le (tickD now) (rs.take k); rw [List.length_take] at this; simp only [List.length_singleton]; omega) (by simp; omega)
              rw [List.length_singleton] at happ
              have hsz : ((wr.alloc (.cells #[.int .i64 a, .int .i64 l, .int .i64 m, .int .i64 n, .int .i64 ii, .int .i64 t, .int .i64 u, .int .i64 b, .bool c] 155))).heap.size = wr.heap.size + 1 := by simp
              rw [hsz] at happ
              generalize hq5 : (rs.take k).filterMap (tickD now) ++ [(⟨a, l, m, n, ii, t, u, b, c⟩ : Rt)] = Q5 at hown5
              have HQ5 : Hid _ := hq5
              clear hq5
              obtain ⟨q5, c5, rfl⟩ := ownsR_shapeT hown5
              have r0 := r0.below hb5 (by omega)
              have r1 := r1.below hb5 (by omega)
              have r2 := r2.below hb5 (by omega)
              have hB := hB.trans (hb5.mono (by omega))
              have hs5 : W.heap.size ≤ w5.heap.size := by have := hb5.size; simp at this; omega
              have f0 : w5.frozen? ⟨w.heap.size + 1 + 1, 0, none⟩ = false := r2.frozen 0
              have z0 : w5.cell? ⟨w.heap.size + 1 + 1, 0, none⟩ = some (.slice q ((rs.take k).filterMap (tickD now)).length cv) := r2.cell 0
              have HZ : Hid _ := And.intro (r0.other 0 (.slice q5 Q5.length c5) nz0) (And.intro (r1.other 0 (.slice q5 Q5.length c5) nz1) (And.intro (r2.set 0 (.slice q5 Q5.length c5)) (And.intro (ownR_set (base' := W.heap.size) hown5 ⟨w.heap.size + 1 + 1, 0, none⟩ (by show w.heap.size + 1 + 1 < W.heap.size; omega) (.slice q5 Q5.length c5) (Nat.le_refl _)) (hB.setCell (p := ⟨w.heap.size + 1 + 1, 0, none⟩) (by show w.heap.size ≤ w.heap.size + 1 + 1; omega) (.slice q5 Q5.length c5)))))
              clear r0 r1 r2 hB hown hown5 hb5 qn 
              go_wp2_with (at_builtin; refine wpList_append_runs rfl _ _ 57 rfl _ _ rfl rfl happ ?_)
              go_roundw
              case rel => exact ⟨k + 1, .slice q5 Q5.length c5, hlt, by go_num, HZ.out.1, HZ.out.2.1, HZ.out.2.2.1, by rw [HTK.out, HQ5.out]; exact HZ.out.2.2.2.1, HZ.out.2.2.2.2, by simpa using hs5⟩
              case measure => simp [intOf]; omega
            · have du1 : decide (0 < u) = false := by simpa using hu1
              clear hb hu hnx hu1
              have r0 := r0.alloc (.cells #[.int .i64 a, .int .i64 l, .int .i64 m, .int .i64 n, .int .i64 ii, .int .i64 t, .int .i64 u, .int .i64 b, .bool c] 155)
              have r1 := r1.alloc (.cells #[.int .i64 a, .int .i64 l, .int .i64 m, .int .i64 n, .int .i64 ii, .int .i64 t, .int .i64 u, .int .i64 b, .bool c] 155)
              have r2 := r2.alloc (.cells #[.int .i64 a, .int .i64 l, .int .i64 m, .int .i64 n, .int .i64 ii, .int .i64 t, .int .i64 u, .int .i64 b, .bool c] 155)
              have hown := World.ownsRow.alloc hown (.cells #[.int .i64 a, .int .i64 l, .int .i64 m, .int .i64 n, .int .i64 ii, .int .i64 t, .int .i64 u, .int .i64 b, .bool c] 155)
              have hB := hB.alloc hB.size (.cells #[.int .i64 a, .int .i64 l, .int .i64 m, .int .i64 n, .int .i64 ii, .int .i64 t, .int .i64 u, .int .i64 b, .bool c] 155)
              have hWs0 : W.heap.size ≤ wr.heap.size := hWs
              have hWs : W.heap.size ≤ (wr.alloc (.cells #[.int .i64 a, .int .i64 l, .int .i64 m, .int .i64 n, .int .i64 ii, .int .i64 t, .int .i64 u, .int .i64 b, .bool c] 155)).heap.size := by simp; omega
              have y2 : (wr.alloc (.cells #[.int .i64 a, .int .i64 l, .int .i64 m, .int .i64 n, .int .i64 ii, .int .i64 t, .int .i64 u, .int .i64 b, .bool c] 155)).cell? ⟨w.heap.size + 1 + 1, 0, none⟩ = some (.slice q ((rs.take k).filterMap (tickD now)).length cv) := r2.cell 0
              have hn0' : (wr.alloc (.cells #[.int .i64 a, .int .i64 l, .int .i64 m, .int .i64 n, .int .i64 ii, .int .i64 t, .int .i64 u, .int .i64 b, .bool c] 155)).heap.size ≥ W.heap.size := hWs
              have qn := Row.new ((wr.alloc (.cells #[.int .i64 a, .int .i64 l, .int .i64 m, .int .i64 n, .int .i64 ii, .int .i64 t, .int .i64 u, .int .i64 b, .bool c] 155))) 155 [.int .i64 a, .int .i64 l, .int .i64 m, .int .i64 n, .int .i64 ii, .int .i64 t, .int .i64 u, .int .i64 b, .bool c]
              have r0 := r0.alloc (.cells #[.int .i64 a, .int .i64 l, .int .i64 m, .int .i64 n, .int .i64 ii, .int .i64 t, .int .i64 u, .int .i64 b, .bool c] 155)
              have r1 := r1.alloc (.cells #[.int .i64 a, .int .i64 l, .int .i64 m, .int .i64 n, .int .i64 ii, .int .i64 t, .int .i64 u, .int .i64 b, .bool c] 155)
              have r2 := r2.alloc (.cells #[.int .i64 a, .int .i64 l, .int .i64 m, .int .i64 n, .int .i64 ii, .int .i64 t, .int .i64 u, .int .i64 b, .bool c] 155)
              have hB := hB.alloc hB.size (.cells #[.int .i64 a, .int .i64 l, .int .i64 m, .int .i64 n, .int .i64 ii, .int .i64 t, .int .i64 u, .int .i64 b, .bool c] 155)
              obtain ⟨v5, w5, happ, hown5, hb5⟩ := run_append_rts ((wr.alloc (.cells #[.int .i64 a, .int .i64 l, .int .i64 m, .int .i64 n, .int .i64 ii, .int .i64 t, .int .i64 u, .int .i64 b, .bool c] 155)).alloc (.cells #[.int .i64 a, .int .i64 l, .int .i64 m, .int .i64 n, .int .i64 ii, .int .i64 t, .int .i64 u, .int .i64 b, .bool c] 155)) W.heap.size (.slice q ((rs.take k).filterMap (tickD now)).length cv) ((rs.take k).filterMap (tickD now)) [(⟨a, l, m, n, ii, t, u, b, c⟩ : Rt)] (some ⟨((wr.alloc (.cells #[.int .i64 a, .int .i64 l, .int .i64 m, .int .i64 n, .int .i64 ii, .int .i64 t, .int .i64 u, .int .i64 b, .bool c] 155))).heap.size, 0, none⟩) 1 57 (World.ownsRow.alloc hown _) (fun e => by cases e) (fun ad e j x hj => by
                cases e
                rw [addR, Nat.zero_add, qn.cell]
                exact hj) (by have := List.length_filterMap_le (tickD now) (rs.take k); rw [List.length_take] at this; simp only [List.length_singleton]; omega) (by simp; omega)
              rw [List.length_singleton] at happ
              have hsz : ((wr.alloc (.cells #[.int .i64 a, .int .i64 l, .int .i64 m, .int .i64 n, .int .i64 ii, .int .i64 t, .int .i64 u, .int .i64 b, .bool c] 155))).heap.size = wr.heap.size + 1 := by simp
              rw [hsz] at happ
              generalize hq5 : (rs.take k).filterMap (tickD now) ++ [(⟨a, l, m, n, ii, t, u, b, c⟩ : Rt)] = Q5 at hown5
              have HQ5 : Hid _ := hq5
              clear hq5
              obtain ⟨q5, c5, rfl⟩ := ownsR_shapeT hown5
              have r0 := r0.below hb5 (by omega)
              have r1 := r1.below hb5 (by omega)
              have r2 := r2.below hb5 (by omega)
              have hB := hB.trans (hb5.mono (by omega))
              have hs5 : W.heap.size ≤ w5.heap.size := by have := hb5.size; simp at this; omega
              have f0 : w5.frozen? ⟨w.heap.size + 1 + 1, 0, none⟩ = false := r2.frozen 0
              have z0 : w5.cell? ⟨w.heap.size + 1 + 1, 0, none⟩ = some (.slice q ((rs.take k).filterMap (tickD now)).length cv) := r2.cell 0
              have HZ : Hid _ := And.intro (r0.other 0 (.slice q5 Q5.length c5) nz0) (And.intro (r1.other 0 (.slice q5 Q5.length c5) nz1) (And.intro (r2.set 0 (.slice q5 Q5.length c5)) (And.intro (ownR_set (base' := W.heap.size) hown5 ⟨w.heap.size + 1 + 1, 0, none⟩ (by show w.heap.size + 1 + 1 < W.heap.size; omega) (.slice q5 Q5.length c5) (Nat.le_refl _)) (hB.setCell (p := ⟨w.heap.size + 1 + 1, 0, none⟩) (by show w.heap.size ≤ w.heap.size + 1 + 1; omega) (.slice q5 Q5.length c5)))))
              clear r0 r1 r2 hB hown hown5 hb5 qn 
              go_wp2_with (at_builtin; refine wpList_append_runs rfl _ _ 57 rfl _ _ rfl rfl happ ?_)
              go_roundw
              case rel => exact ⟨k + 1, .slice q5 Q5.length c5, hlt, by go_num, HZ.out.1, HZ.out.2.1, HZ.out.2.2.1, by rw [HTK.out, HQ5.out]; exact HZ.out.2.2.2.1, HZ.out.2.2.2.2, by simpa using hs5⟩
              case measure => simp [intOf]; omega
    · obtain rfl : k = rs.length := by omega
      have d1 : decide ((rs.length : Int) < (rs.length : Int)) = false := by simp
      rw [List.take_length] at hown r2
      have y2 : wr.cell? ⟨w.heap.size + 1 + 1, 0, none⟩ = some (.slice q (rs.filterMap (tickD now)).length cv) := r2.cell 0
      have f0 : wr.frozen? ⟨w.heap.size + 1, 0, none⟩ = false := r1.frozen 0
      have z0 : wr.cell? ⟨w.heap.size + 1, 0, none⟩ = some (.slice none 0 0) := r1.cell 0
      have HE : Hid _ := And.intro (r1.set 0 (.slice q (rs.filterMap (tickD now)).length cv)) (And.intro (hB.setCell (p := ⟨w.heap.size + 1, 0, none⟩) (by show w.heap.size ≤ w.heap.size + 1; omega) (.slice q (rs.filterMap (tickD now)).length cv)) (ownR_set (base' := w.heap.size) hown ⟨w.heap.size + 1, 0, none⟩ (by show w.heap.size + 1 < W.heap.size; omega) (.slice q (rs.filterMap (tickD now)).length cv) (by omega)))
      clear hlt hk r0 r1 r2 hown hB
      go_wp2_with fail
      obtain ⟨h1, h2, h3⟩ := HE.out
      clear HE f0 z0 y2
      generalize wr.setCell ⟨w.heap.size + 1, 0, none⟩ (.slice q (rs.filterMap (tickD now)).length cv) = Z at *
      have e0 : Z.cell? ⟨w.heap.size + 1, 0, none⟩ = some (.slice q (rs.filterMap (tickD now)).length cv) := h1.cell 0
      exact bodyPost_ret (v := .agg #[.slice q (rs.filterMap (tickD now)).length cv]) (by simp [results, Tryz.results111, go_sem, e0]) rfl ⟨q, cv, rfl, h3, h2⟩
end Go.Proofs.YtcnadobnihbldaaGreat
/- RibLose of the model. (Written by gen_loses.py.) -/
namespace Go.Proofs.YtcnadobnihbldaaGreat
open Go.RowKit Go.Sort

def loseD (i now : Int) (r : Rt) : Option Rt := if r.i = i ∧ r.n = 0 then none else if r.i = i ∧ r.m < 16 then some (deadR r now) else some r
theorem lose_same {r : Rt} {i now : Int} (h : routeB r = true) : loseD i now r = loseF i now r := by
  unfold loseD loseF reachR
  have hm := route_met h
  by_cases hI : r.i = i
  · by_cases hN : r.n = 0
    · simp [hI, hN]
    · by_cases hM : r.m < 16
      · rw [if_neg (by simp [hN]), if_pos ⟨hI, hM⟩, if_pos hI, if_neg hN, if_neg (by omega)]
      · rw [if_neg (by simp [hN]), if_neg (by simp [hM]), if_pos hI, if_neg hN, if_pos (by omega)]
  · simp [hI]
theorem lose_lists {rs : List Rt} {i now : Int} (h : ribB rs = true) : rs.filterMap (loseD i now) = rs.filterMap (loseF i now) :=
  filterMap_same fun r hr => lose_same (rib_routes h r hr)
set_option maxRecDepth 100000 in
set_option maxHeartbeats 4000000 in
theorem l06Lose_any (p : Option Addr) (cap : Nat) (rs : List Rt) (i now : Int) (w : World) (h : RtsIn w p rs) (hn : rs.length ≤ 100000000) (hn0 : 0 ≤ now) (hn1 : now ≤ 999900) :
    Calls Tryz.prog 130 #[ribV p rs.length cap, .int .i64 i, .int .i64 now] w fun e w' => ∃ q c, e = .returned (ribV q (rs.filterMap (loseD i now)).length c) ∧ w'.ownsRow w.heap.size 155 9 (.slice q (rs.filterMap (loseD i now)).length c) (rs.filterMap (loseD i now)).length (rowR (rs.filterMap (loseD i now))) ∧ Below w.heap.size w w' := by
  have HD : Hid (∀ r w, Calls Tryz.prog 141 #[rtV r, .int .i64 now] w fun e w' => e = .returned (rtV (deadR r now)) ∧ Below w.heap.size w w') := fun r w => l06Dead_any r now w hn0 hn1
  have HX : Hid (RtsIn w p rs) := h
  clear h
  obtain ⟨W, hW, q0, q1, q2, hB, hS, -⟩ := rows3 w [.slice p rs.length cap] [.slice none 0 0] [.slice none 0 0] 59 59 59
  have HW : Hid _ := hW
  have HQ : Hid _ := And.intro q0 (And.intro q1 (And.intro q2 hB))
  have nz0 : w.heap.size ≠ w.heap.size + 1 + 1 := by omega
  have nz1 : w.heap.size + 1 ≠ w.heap.size + 1 + 1 := by omega
  clear hW q0 q1 q2 hB
  unfold ribV
  go_enter Tryz.func130, Tryz.ntmps130
  go_wp2_with fail
  rw [← HW.out]
  go_loopw [8] (fun i' wr => ∃ (k : Nat) (v : Value), k ≤ rs.length ∧ i' = .int .i64 k ∧ Row wr w.heap.size 59 [.slice p rs.length cap] ∧ Row wr (w.heap.size + 1) 59 [.slice none 0 0] ∧ Row wr (w.heap.size + 1 + 1) 59 [v] ∧ wr.ownsRow W.heap.size 155 9 v ((rs.take k).filterMap (loseD i now)).length (rowR ((rs.take k).filterMap (loseD i now))) ∧ Below w.heap.size w wr ∧ W.heap.size ≤ wr.heap.size) (fun i' _ => rs.length - (intOf i').toNat)
  case atStart => exact ⟨0, .slice none 0 0, Nat.zero_le _, rfl, HQ.out.1, HQ.out.2.1, HQ.out.2.2.1, World.ownsRow_nil _ _ _ 9, HQ.out.2.2.2, Nat.le_refl _⟩
  case round =>
    obtain ⟨k, v, hk, rfl, r0, r1, r2, hown, hB, hWs⟩ := hrel
    clear HW HQ
    have x0 : wr.cell? ⟨w.heap.size, 0, none⟩ = some (.slice p rs.length cap) := r0.cell 0
    obtain ⟨q, cv, rfl⟩ := ownsR_shapeT hown
    by_cases hlt : k < rs.length
    · have d1 : decide ((k : Int) < (rs.length : Int)) = true := by simpa using hlt
      obtain ⟨g, a, l, m, n, ii, t, u, b, c, rfl, hg, hek, c0, c1, c2, c3, c4, c5, c6, c7, c8⟩ := ((HX.out).below hB).at k hlt
      have hnx := take_turnL (loseD i now) hlt
      rw [hek] at hnx
      have hob : Hid (∀ b, (Value.slice q ((rs.take k).filterMap (loseD i now)).length cv).ownBlock = some b → b ≠ wr.heap.size) := fun b e h => by have := (World.ownsRow.lt hown b e).2; omega
      by_cases hI : ii = i
      · have zI : (ii == i) = true := by simpa using hI
        by_cases hN : n = 0
        · have zN : (n == 0) = true := by simpa using hN
          have HTK : Hid ((rs.take (k + 1)).filterMap (loseD i now) = (rs.take k).filterMap (loseD i now)) := by
            show _ = _
            rw [hnx, show loseD i now (⟨a, l, m, n, ii, t, u, b, c⟩ : Rt) = none by simp [loseD, hI, hN]]
            simp
          have HZ : Hid _ := And.intro (r0.alloc (.cells #[.int .i64 a, .int .i64 l, .int .i64 m, .int .i64 n, .int .i64 ii, .int .i64 t, .int .i64 u, .int .i64 b, .bool c] 155)) (And.intro (r1.alloc (.cells #[.int .i64 a, .int .i64 l, .int .i64 m, .int .i64 n, .int .i64 ii, .int .i64 t, .int .i64 u, .int .i64 b, .bool c] 155)) (And.intro (r2.alloc (.cells #[.int .i64 a, .int .i64 l, .int .i64 m, .int .i64 n, .int .i64 ii, .int .i64 t, .int .i64 u, .int .i64 b, .bool c] 155)) (And.intro (World.ownsRow.alloc hown (.cells #[.int .i64 a, .int .i64 l, .int .i64 m, .int .i64 n, .int .i64 ii, .int .i64 t, .int .i64 u, .int .i64 b, .bool c] 155)) (hB.alloc hB.size (.cells #[.int .i64 a, .int .i64 l, .int .i64 m, .int .i64 n, .int .i64 ii, .int .i64 t, .int .i64 u, .int .i64 b, .bool c] 155)))))
          clear r0 r1 r2 hown hB hI hN hnx hek hob
          go_wp2_with fail
          go_roundw
          case rel => exact ⟨k + 1, _, hlt, by go_num, HZ.out.1, HZ.out.2.1, HZ.out.2.2.1, by rw [HTK.out]; exact HZ.out.2.2.2.1, HZ.out.2.2.2.2, by simp; omega⟩
          case measure => simp [intOf]; omega
        · have zN : (n == 0) = false := by simpa using hN
          by_cases hM : m < 16
          · have zM : decide (m < 16) = true := by simpa using hM
            have HTK : Hid ((rs.take (k + 1)).filterMap (loseD i now) = (rs.take k).filterMap (loseD i now) ++ [(⟨a, l, 16, n, ii, t, 0, now + 4, true⟩ : Rt)]) := by
              show _ = _
              rw [hnx, show loseD i now (⟨a, l, m, n, ii, t, u, b, c⟩ : Rt) = some (⟨a, l, 16, n, ii, t, 0, now + 4, true⟩ : Rt) by simp [loseD, hI, hN, hM, deadR]]
              rfl
            clear hI hN hM hnx
            have r0 := r0.alloc (.cells #[.int .i64 a, .int .i64 l, .int .i64 m, .int .i64 n, .int .i64 ii, .int .i64 t, .int .i64 u, .int .i64 b, .bool c] 155)
            have r1 := r1.alloc (.cells #[.int .i64 a, .int .i64 l, .int .i64 m, .int .i64 n, .int .i64 ii, .int .i64 t, .int .i64 u, .int .i64 b, .bool c] 155)
            have r2 := r2.alloc (.cells #[.int .i64 a, .int .i64 l, .int .i64 m, .int .i64 n, .int .i64 ii, .int .i64 t, .int .i64 u, .int .i64 b, .bool c] 155)
            have hown := World.ownsRow.alloc hown (.cells #[.int .i64 a, .int .i64 l, .int .i64 m, .int .i64 n, .int .i64 ii, .int .i64 t, .int .i64 u, .int .i64 b, .bool c] 155)
            have hB := hB.alloc hB.size (.cells #[.int .i64 a, .int .i64 l, .int .i64 m, .int .i64 n, .int .i64 ii, .int .i64 t, .int .i64 u, .int .i64 b, .bool c] 155)
            have hWs0 : W.heap.size ≤ wr.heap.size := hWs
            have hWs : W.heap.size ≤ (wr.alloc (.cells #[.int .i64 a, .int .i64 l, .int .i64 m, .int .i64 n, .int .i64 ii, .int .i64 t, .int .i64 u, .int .i64 b, .bool c] 155)).heap.size := by simp; omega
            have y2 : (wr.alloc (.cells #[.int .i64 a, .int .i64 l, .int .i64 m, .int .i64 n, .int .i64 ii, .int .i64 t, .int .i64 u, .int .i64 b, .bool c] 155)).cell? ⟨w.heap.size + 1 + 1, 0, none⟩ = some (.slice q ((rs.take k).filterMap (loseD i now)).length cv) := r2.cell 0
            have qb := Row.new wr 155 [.int .i64 a, .int .i64 l, .int .i64 m, .int .i64 n, .int .i64 ii, .int .i64 t, .int .i64 u, .int .i64 b, .bool c]
            have HE : Hid _ := And.intro r0 (And.intro r1 (And.intro r2 (And.intro hown (And.intro hB qb))))
            have HDk : Hid (∀ w, Calls Tryz.prog 141 #[.agg #[.int .i64 a, .int .i64 l, .int .i64 m, .int .i64 n, .int .i64 ii, .int .i64 t, .int .i64 u, .int .i64 b, .bool c], .int .i64 now] w fun e w' => e = .returned (.agg #[.int .i64 a, .int .i64 l, .int .i64 16, .int .i64 n, .int .i64 ii, .int .i64 t, .int .i64 0, .int .i64 (now + 4), .bool true]) ∧ Below w.heap.size w w') := HD.out (⟨a, l, m, n, ii, t, u, b, c⟩ : Rt)
            clear r0 r1 r2 hown hB qb y2 hek
            go_wp2_with fail
            refine (HDk.out _).mono ?_
            rintro e w2 ⟨rfl, hb2⟩
            obtain ⟨r0, r1, r2, hown, hB, qb⟩ := HE.out
            have r0 := r0.below hb2 r0.lt
            have r1 := r1.below hb2 r1.lt
            have r2 := r2.below hb2 r2.lt
            have qb := qb.below hb2 qb.lt
            have hown := ownsR_belowT hown hb2
            have hB := hB.trans (hb2.mono hB.size)
            have hWs : W.heap.size ≤ w2.heap.size := Nat.le_trans hWs hb2.size
            clear HE HDk hb2 c0 c1 c2 c3 c4 c5 c6 c7 c8 x0
            have e0 : w2.cell? ⟨wr.heap.size, 0, none⟩ = some (.int .i64 a) := qb.cell 0
            have g0 : w2.frozen? ⟨wr.heap.size, 0, none⟩ = false := qb.frozen 0
            have e1 : w2.cell? ⟨wr.heap.size, 1, none⟩ = some (.int .i64 l) := qb.cell 1
            have g1 : w2.frozen? ⟨wr.heap.size, 1, none⟩ = false := qb.frozen 1
            have e2 : w2.cell? ⟨wr.heap.size, 2, none⟩ = some (.int .i64 m) := qb.cell 2
            have g2 : w2.frozen? ⟨wr.heap.size, 2, none⟩ = false := qb.frozen 2
            have e3 : w2.cell? ⟨wr.heap.size, 3, none⟩ = some (.int .i64 n) := qb.cell 3
            have g3 : w2.frozen? ⟨wr.heap.size, 3, none⟩ = false := qb.frozen 3
            have e4 : w2.cell? ⟨wr.heap.size, 4, none⟩ = some (.int .i64 ii) := qb.cell 4
            have g4 : w2.frozen? ⟨wr.heap.size, 4, none⟩ = false := qb.frozen 4
            have e5 : w2.cell? ⟨wr.heap.size, 5, none⟩ = some (.int .i64 t) := qb.cell 5
            have g5 : w2.frozen? ⟨wr.heap.size, 5, none⟩ = false := qb.frozen 5
            have e6 : w2.cell? ⟨wr.heap.size, 6, none⟩ = some (.int .i64 u) := qb.cell 6
            have g6 : w2.frozen? ⟨wr.heap.size, 6, none⟩ = false := qb.frozen 6
            have e7 : w2.cell? ⟨wr.heap.size, 7, none⟩ = some (.int .i64 b) := qb.cell 7
            have g7 : w2.frozen? ⟨wr.heap.size, 7, none⟩ = false := qb.frozen 7
            have e8 : w2.cell? ⟨wr.heap.size, 8, none⟩ = some (.bool c) := qb.cell 8
            have g8 : w2.frozen? ⟨wr.heap.size, 8, none⟩ = false := qb.frozen 8
            have nx0 : w.heap.size ≠ wr.heap.size := by omega
            have nx1 : w.heap.size + 1 ≠ wr.heap.size := by omega
            have nx2 : w.heap.size + 1 + 1 ≠ wr.heap.size := by omega
            have m2 : ¬ wr.heap.size = w.heap.size + 1 + 1 := by omega
            have m2' : ¬ w.heap.size + 1 + 1 = wr.heap.size := by omega
            have y2 : w2.cell? ⟨w.heap.size + 1 + 1, 0, none⟩ = some (.slice q ((rs.take k).filterMap (loseD i now)).length cv) := r2.cell 0
            have r0 := nine0_other r0 wr.heap.size nx0 (.int .i64 a) (.int .i64 l) (.int .i64 16) (.int .i64 n) (.int .i64 ii) (.int .i64 t) (.int .i64 0) (.int .i64 (now + 4)) (.bool true)
            have r1 := nine0_other r1 wr.heap.size nx1 (.int .i64 a) (.int .i64 l) (.int .i64 16) (.int .i64 n) (.int .i64 ii) (.int .i64 t) (.int .i64 0) (.int .i64 (now + 4)) (.bool true)
            have r2 := nine0_other r2 wr.heap.size nx2 (.int .i64 a) (.int .i64 l) (.int .i64 16) (.int .i64 n) (.int .i64 ii) (.int .i64 t) (.int .i64 0) (.int .i64 (now + 4)) (.bool true)
            have hB := nine0_below hB wr.heap.size (by have := hWs0; omega) (.int .i64 a) (.int .i64 l) (.int .i64 16) (.int .i64 n) (.int .i64 ii) (.int .i64 t) (.int .i64 0) (.int .i64 (now + 4)) (.bool true)
            have hown : (nine0 w2 wr.heap.size (.int .i64 a) (.int .i64 l) (.int .i64 16) (.int .i64 n) (.int .i64 ii) (.int .i64 t) (.int .i64 0) (.int .i64 (now + 4)) (.bool true)).ownsRow W.heap.size 155 9 (.slice q ((rs.take k).filterMap (loseD i now)).length cv) ((rs.take k).filterMap (loseD i now)).length (rowR ((rs.take k).filterMap (loseD i now))) := nine0_owns hown (hob.out)  (.int .i64 a) (.int .i64 l) (.int .i64 16) (.int .i64 n) (.int .i64 ii) (.int .i64 t) (.int .i64 0) (.int .i64 (now + 4)) (.bool true)
            have hWs : W.heap.size ≤ (nine0 w2 wr.heap.size (.int .i64 a) (.int .i64 l) (.int .i64 16) (.int .i64 n) (.int .i64 ii) (.int .i64 t) (.int .i64 0) (.int .i64 (now + 4)) (.bool true)).heap.size := by unfold nine0; simpa using hWs
            generalize hY : nine0 w2 wr.heap.size (.int .i64 a) (.int .i64 l) (.int .i64 16) (.int .i64 n) (.int .i64 ii) (.int .i64 t) (.int .i64 0) (.int .i64 (now + 4)) (.bool true) = Y at r0 r1 r2 hB hown hWs
            have hn0' : Y.heap.size ≥ W.heap.size := hWs
            have qn := Row.new (Y) 155 [.int .i64 a, .int .i64 l, .int .i64 16, .int .i64 n, .int .i64 ii, .int .i64 t, .int .i64 0, .int .i64 (now + 4), .bool true]
            have r0 := r0.alloc (.cells #[.int .i64 a, .int .i64 l, .int .i64 16, .int .i64 n, .int .i64 ii, .int .i64 t, .int .i64 0, .int .i64 (now + 4), .bool true] 155)
            have r1 := r1.alloc (.cells #[.int .i64 a, .int .i64 l, .int .i64 16, .int .i64 n, .int .i64 ii, .int .i64 t, .int .i64 0, .int .i64 (now + 4), .bool true] 155)
            have r2 := r2.alloc (.cells #[.int .i64 a, .int .i64 l, .int .i64 16, .int .i64 n, .int .i64 ii, .int .i64 t, .int .i64 0, .int .i64 (now + 4), .bool true] 155)
            have hB := hB.alloc hB.size (.cells #[.int .i64 a, .int .i64 l, .int .i64 16, .int .i64 n, .int .i64 ii, .int .i64 t, .int .i64 0, .int .i64 (now + 4), .bool true] 155)
            obtain ⟨v5, w5, happ, hown5, hb5⟩ := run_append_rts (Y.alloc (.cells #[.int .i64 a, .int .i64 l, .int .i64 16, .int .i64 n, .int .i64 ii, .int .i64 t, .int .i64 0, .int .i64 (now + 4), .bool true] 155)) W.heap.size (.slice q ((rs.take k).filterMap (loseD i now)).length cv) ((rs.take k).filterMap (loseD i now)) [(⟨a, l, 16, n, ii, t, 0, now + 4, true⟩ : Rt)] (some ⟨(Y).heap.size, 0, none⟩) 1 57 (World.ownsRow.alloc hown _) (fun e => by cases e) (fun ad e j x hj => by
              cases e
              rw [addR, Nat.zero_add, qn.cell]
              exact hj) (by have := List.length_filterMap_le (loseD i now) (rs.take k); rw [List.length_take] at this; simp only [List.length_singleton]; omega) (by simp; omega)
            rw [List.length_singleton] at happ
            have hsz : (Y).heap.size = w2.heap.size := by rw [← hY]; unfold nine0; simp
            rw [hsz] at happ
            generalize hq5 : (rs.take k).filterMap (loseD i now) ++ [(⟨a, l, 16, n, ii, t, 0, now + 4, true⟩ : Rt)] = Q5 at hown5
            have HQ5 : Hid _ := hq5
            clear hq5
            obtain ⟨q5, c5, rfl⟩ := ownsR_shapeT hown5
            have r0 := r0.below hb5 (by omega)
            have r1 := r1.below hb5 (by omega)
            have r2 := r2.below hb5 (by omega)
            have hB := hB.trans (hb5.mono (by omega))
            have hs5 : W.heap.size ≤ w5.heap.size := by have := hb5.size; simp at this; omega
            have f0 : w5.frozen? ⟨w.heap.size + 1 + 1, 0, none⟩ = false := r2.frozen 0
            have z0 : w5.cell? ⟨w.heap.size + 1 + 1, 0, none⟩ = some (.slice q ((rs.take k).filterMap (loseD i now)).length cv) := r2.cell 0
            have HZ : Hid _ := And.intro (r0.other 0 (.slice q5 Q5.length c5) nz0) (And.intro (r1.other 0 (.slice q5 Q5.length c5) nz1) (And.intro (r2.set 0 (.slice q5 Q5.length c5)) (And.intro (ownR_set (base' := W.heap.size) hown5 ⟨w.heap.size + 1 + 1, 0, none⟩ (by show w.heap.size + 1 + 1 < W.heap.size; omega) (.slice q5 Q5.length c5) (Nat.le_refl _)) (hB.setCell (p := ⟨w.heap.size + 1 + 1, 0, none⟩) (by show w.heap.size ≤ w.heap.size + 1 + 1; omega) (.slice q5 Q5.length c5)))))
            clear r0 r1 r2 hB hown hown5 hb5 qn qb nx0 nx1 nx2
            unfold nine0 at hY
            rw [← hY] at happ
            clear hY hsz
            go_wp2_with (at_builtin; refine wpList_append_runs rfl _ _ 57 rfl _ _ rfl rfl happ ?_)
            go_roundw
            case rel => exact ⟨k + 1, .slice q5 Q5.length c5, hlt, by go_num, HZ.out.1, HZ.out.2.1, HZ.out.2.2.1, by rw [HTK.out, HQ5.out]; exact HZ.out.2.2.2.1, HZ.out.2.2.2.2, by simpa using hs5⟩
            case measure => simp [intOf]; omega
          · have zM : decide (m < 16) = false := by simpa using hM
            have HTK : Hid ((rs.take (k + 1)).filterMap (loseD i now) = (rs.take k).filterMap (loseD i now) ++ [(⟨a, l, m, n, ii, t, u, b, c⟩ : Rt)]) := by
              show _ = _
              rw [hnx, show loseD i now (⟨a, l, m, n, ii, t, u, b, c⟩ : Rt) = some (⟨a, l, m, n, ii, t, u, b, c⟩ : Rt) by simp [loseD, hN, hM]]
              rfl
            clear hI hN hM hnx hob
            have r0 := r0.alloc (.cells #[.int .i64 a, .int .i64 l, .int .i64 m, .int .i64 n, .int .i64 ii, .int .i64 t, .int .i64 u, .int .i64 b, .bool c] 155)
            have r1 := r1.alloc (.cells #[.int .i64 a, .int .i64 l, .int .i64 m, .int .i64 n, .int .i64 ii, .int .i64 t, .int .i64 u, .int .i64 b, .bool c] 155)
            have r2 := r2.alloc (.cells #[.int .i64 a, .int .i64 l, .int .i64 m, .int .i64 n, .int .i64 ii, .int .i64 t, .int .i64 u, .int .i64 b, .bool c] 155)
            have hown := World.ownsRow.alloc hown (.cells #[.int .i64 a, .int .i64 l, .int .i64 m, .int .i64 n, .int .i64 ii, .int .i64 t, .int .i64 u, .int .i64 b, .bool c] 155)
            have hB := hB.alloc hB.size (.cells #[.int .i64 a, .int .i64 l, .int .i64 m, .int .i64 n, .int .i64 ii, .int .i64 t, .int .i64 u, .int .i64 b, .bool c] 155)
            have hWs0 : W.heap.size ≤ wr.heap.size := hWs
            have hWs : W.heap.size ≤ (wr.alloc (.cells #[.int .i64 a, .int .i64 l, .int .i64 m, .int .i64 n, .int .i64 ii, .int .i64 t, .int .i64 u, .int .i64 b, .bool c] 155)).heap.size := by simp; omega
            have y2 : (wr.alloc (.cells #[.int .i64 a, .int .i64 l, .int .i64 m, .int .i64 n, .int .i64 ii, .int .i64 t, .int .i64 u, .int .i64 b, .bool c] 155)).cell? ⟨w.heap.size + 1 + 1, 0, none⟩ = some (.slice q ((rs.take k).filterMap (loseD i now)).length cv) := r2.cell 0
            have hn0' : (wr.alloc (.cells #[.int .i64 a, .int .i64 l, .int .i64 m, .int .i64 n, .int .i64 ii, .int .i64 t, .int .i64 u, .int .i64 b, .bool c] 155)).heap.size ≥ W.heap.size := hWs
            have qn := Row.new ((wr.alloc (.cells #[.int .i64 a, .int .i64 l, .int .i64 m, .int .i64 n, .int .i64 ii, .int .i64 t, .int .i64 u, .int .i64 b, .bool c] 155))) 155 [.int .i64 a, .int .i64 l, .int .i64 m, .int .i64 n, .int .i64 ii, .int .i64 t, .int .i64 u, .int .i64 b, .bool c]
            have r0 := r0.alloc (.cells #[.int .i64 a, .int .i64 l, .int .i64 m, .int .i64 n, .int .i64 ii, .int .i64 t, .int .i64 u, .int .i64 b, .bool c] 155)
            have r1 := r1.alloc (.cells #[.int .i64 a, .int .i64 l, .int .i64 m, .int .i64 n, .int .i64 ii, .int .i64 t, .int .i64 u, .int .i64 b, .bool c] 155)
            have r2 := r2.alloc (.cells #[.int .i64 a, .int .i64 l, .int .i64 m, .int .i64 n, .int .i64 ii, .int .i64 t, .int .i64 u, .int .i64 b, .bool c] 155)
            have hB := hB.alloc hB.size (.cells #[.int .i64 a, .int .i64 l, .int .i64 m, .int .i64 n, .int .i64 ii, .int .i64 t, .int .i64 u, .int .i64 b, .bool c] 155)
            obtain ⟨v5, w5, happ, hown5, hb5⟩ := run_append_rts ((wr.alloc (.cells #[.int .i64 a, .int .i64 l, .int .i64 m, .int .i64 n, .int .i64 ii, .int .i64 t, .int .i64 u, .int .i64 b, .bool c] 155)).alloc (.cells #[.int .i64 a, .int .i64 l, .int .i64 m, .int .i64 n, .int .i64 ii, .int .i64 t, .int .i64 u, .int .i64 b, .bool c] 155)) W.heap.size (.slice q ((rs.take k).filterMap (loseD i now)).length cv) ((rs.take k).filterMap (loseD i now)) [(⟨a, l, m, n, ii, t, u, b, c⟩ : Rt)] (some ⟨((wr.alloc (.cells #[.int .i64 a, .int .i64 l, .int .i64 m, .int .i64 n, .int .i64 ii, .int .i64 t, .int .i64 u, .int .i64 b, .bool c] 155))).heap.size, 0, none⟩) 1 57 (World.ownsRow.alloc hown _) (fun e => by cases e) (fun ad e j x hj => by
              cases e
              rw [addR, Nat.zero_add, qn.cell]
              exact hj) (by have := List.length_filterMap_le (loseD i now) (rs.take k); rw [List.length_take] at this; simp only [List.length_singleton]; omega) (by simp; omega)
            rw [List.length_singleton] at happ
            have hsz : ((wr.alloc (.cells #[.int .i64 a, .int .i64 l, .int .i64 m, .int .i64 n, .int .i64 ii, .int .i64 t, .int .i64 u, .int .i64 b, .bool c] 155))).heap.size = wr.heap.size + 1 := by simp
            rw [hsz] at happ
            generalize hq5 : (rs.take k).filterMap (loseD i now) ++ [(⟨a, l, m, n, ii, t, u, b, c⟩ : Rt)] = Q5 at hown5
            have HQ5 : Hid _ := hq5
            clear hq5
            obtain ⟨q5, c5, rfl⟩ := ownsR_shapeT hown5
            have r0 := r0.below hb5 (by omega)
            have r1 := r1.below hb5 (by omega)
            have r2 := r2.below hb5 (by omega)
            have hB := hB.trans (hb5.mono (by omega))
            have hs5 : W.heap.size ≤ w5.heap.size := by have := hb5.size; simp at this; omega
            have f0 : w5.frozen? ⟨w.heap.size + 1 + 1, 0, none⟩ = false := r2.frozen 0
            have z0 : w5.cell? ⟨w.heap.size + 1 + 1, 0, none⟩ = some (.slice q ((rs.take k).filterMap (loseD i now)).length cv) := r2.cell 0
            have HZ : Hid _ := And.intro (r0.other 0 (.slice q5 Q5.length c5) nz0) (And.intro (r1.other 0 (.slice q5 Q5.length c5) nz1) (And.intro (r2.set 0 (.slice q5 Q5.length c5)) (And.intro (ownR_set (base' := W.heap.size) hown5 ⟨w.heap.size + 1 + 1, 0, none⟩ (by show w.heap.size + 1 + 1 < W.heap.size; omega) (.slice q5 Q5.length c5) (Nat.le_refl _)) (hB.setCell (p := ⟨w.heap.size + 1 + 1, 0, none⟩) (by show w.heap.size ≤ w.heap.size + 1 + 1; omega) (.slice q5 Q5.length c5)))))
            clear r0 r1 r2 hB hown hown5 hb5 qn 
            go_wp2_with (at_builtin; refine wpList_append_runs rfl _ _ 57 rfl _ _ rfl rfl happ ?_)
            go_roundw
            case rel => exact ⟨k + 1, .slice q5 Q5.length c5, hlt, by go_num, HZ.out.1, HZ.out.2.1, HZ.out.2.2.1, by rw [HTK.out, HQ5.out]; exact HZ.out.2.2.2.1, HZ.out.2.2.2.2, by simpa using hs5⟩
            case measure => simp [intOf]; omega
      · have zI : (ii == i) = false := by simpa using hI
        have HTK : Hid ((rs.take (k + 1)).filterMap (loseD i now) = (rs.take k).filterMap (loseD i now) ++ [(⟨a, l, m, n, ii, t, u, b, c⟩ : Rt)]) := by
          show _ = _
          rw [hnx, show loseD i now (⟨a, l, m, n, ii, t, u, b, c⟩ : Rt) = some (⟨a, l, m, n, ii, t, u, b, c⟩ : Rt) by simp [loseD, hI]]
          rfl
        clear hI hnx hob
        have r0 := r0.alloc (.cells #[.int .i64 a, .int .i64 l, .int .i64 m, .int .i64 n, .int .i64 ii, .int .i64 t, .int .i64 u, .int .i64 b, .bool c] 155)
        have r1 := r1.alloc (.cells #[.int .i64 a, .int .i64 l, .int .i64 m, .int .i64 n, .int .i64 ii, .int .i64 t, .int .i64 u, .int .i64 b, .bool c] 155)
        have r2 := r2.alloc (.cells #[.int .i64 a, .int .i64 l, .int .i64 m, .int .i64 n, .int .i64 ii, .int .i64 t, .int .i64 u, .int .i64 b, .bool c] 155)
        have hown := World.ownsRow.alloc hown (.cells #[.int .i64 a, .int .i64 l, .int .i64 m, .int .i64 n, .int .i64 ii, .int .i64 t, .int .i64 u, .int .i64 b, .bool c] 155)
        have hB := hB.alloc hB.size (.cells #[.int .i64 a, .int .i64 l, .int .i64 m, .int .i64 n, .int .i64 ii, .int .i64 t, .int .i64 u, .int .i64 b, .bool c] 155)
        have hWs0 : W.heap.size ≤ wr.heap.size := hWs
        have hWs : W.heap.size ≤ (wr.alloc (.cells #[.int .i64 a, .int .i64 l, .int .i64 m, .int .i64 n, .int .i64 ii, .int .i64 t, .int .i64 u, .int .i64 b, .bool c] 155)).heap.size := by simp; omega
        have y2 : (wr.alloc (.cells #[.int .i64 a, .int .i64 l, .int .i64 m, .int .i64 n, .int .i64 ii, .int .i64 t, .int .i64 u, .int .i64 b, .bool c] 155)).cell? ⟨w.heap.size + 1 + 1, 0, none⟩ = some (.slice q ((rs.take k).filterMap (loseD i now)).length cv) := r2.cell 0
        have hn0' : (wr.alloc (.cells #[.int .i64 a, .int .i64 l, .int .i64 m, .int .i64 n, .int .i64 ii, .int .i64 t, .int .i64 u, .int .i64 b, .bool c] 155)).heap.size ≥ W.heap.size := hWs
        have qn := Row.new ((wr.alloc (.cells #[.int .i64 a, .int .i64 l, .int .i64 m, .int .i64 n, .int .i64 ii, .int .i64 t, .int .i64 u, .int .i64 b, .bool c] 155))) 155 [.int .i64 a, .int .i64 l, .int .i64 m, .int .i64 n, .int .i64 ii, .int .i64 t, .int .i64 u, .int .i64 b, .bool c]
        have r0 := r0.alloc (.cells #[.int .i64 a, .int .i64 l, .int .i64 m, .int .i64 n, .int .i64 ii, .int .i64 t, .int .i64 u, .int .i64 b, .bool c] 155)
        have r1 := r1.alloc (.cells #[.int .i64 a, .int .i64 l, .int .i64 m, .int .i64 n, .int .i64 ii, .int .i64 t, .int .i64 u, .int .i64 b, .bool c] 155)
        have r2 := r2.alloc (.cells #[.int .i64 a, .int .i64 l, .int .i64 m, .int .i64 n, .int .i64 ii, .int .i64 t, .int .i64 u, .int .i64 b, .bool c] 155)
        have hB := hB.alloc hB.size (.cells #[.int .i64 a, .int .i64 l, .int .i64 m, .int .i64 n, .int .i64 ii, .int .i64 t, .int .i64 u, .int .i64 b, .bool c] 155)
        obtain ⟨v5, w5, happ, hown5, hb5⟩ := run_append_rts ((wr.alloc (.cells #[.int .i64 a, .int .i64 l, .int .i64 m, .int .i64 n, .int .i64 ii, .int .i64 t, .int .i64 u, .int .i64 b, .bool c] 155)).alloc (.cells #[.int .i64 a, .int .i64 l, .int .i64 m, .int .i64 n, .int .i64 ii, .int .i64 t, .int .i64 u, .int .i64 b, .bool c] 155)) W.heap.size (.slice q ((rs.take k).filterMap (loseD i now)).length cv) ((rs.take k).filterMap (loseD i now)) [(⟨a, l, m, n, ii, t, u, b, c⟩ : Rt)] (some ⟨((wr.alloc (.cells #[.int .i64 a, .int .i64 l, .int .i64 m, .int .i64 n, .int .i64 ii, .int .i64 t, .int .i64 u, .int .i64 b, .bool c] 155))).heap.size, 0, none⟩) 1 57 (World.ownsRow.alloc hown _) (fun e => by cases e) (fun ad e j x hj => by
          cases e
          rw [addR, Nat.zero_add, qn.cell]
          exact hj) (by have := List.length_filterMap_le (loseD i now) (rs.take k); rw [List.length_take] at this; simp only [List.length_singleton]; omega) (by simp; omega)
        rw [List.length_singleton] at happ
        have hsz : ((wr.alloc (.cells #[.int .i64 a, .int .i64 l, .int .i64 m, .int .i64 n, .int .i64 ii, .int .i64 t, .int .i64 u, .int .i64 b, .bool c] 155))).heap.size = wr.heap.size + 1 := by simp
        rw [hsz] at happ
        generalize hq5 : (rs.take k).filterMap (loseD i now) ++ [(⟨a, l, m, n, ii, t, u, b, c⟩ : Rt)] = Q5 at hown5
        have HQ5 : Hid _ := hq5
        clear hq5
        obtain ⟨q5, c5, rfl⟩ := ownsR_shapeT hown5
        have r0 := r0.below hb5 (by omega)
        have r1 := r1.below hb5 (by omega)
        have r2 := r2.below hb5 (by omega)
        have hB := hB.trans (hb5.mono (by omega))
        have hs5 : W.heap.size ≤ w5.heap.size := by have := hb5.size; simp at this; omega
        have f0 : w5.frozen? ⟨w.heap.size + 1 + 1, 0, none⟩ = false := r2.frozen 0
        have z0 : w5.cell? ⟨w.heap.size + 1 + 1, 0, none⟩ = some (.slice q ((rs.take k).filterMap (loseD i now)).length cv) := r2.cell 0
        have HZ : Hid _ := And.intro (r0.other 0 (.slice q5 Q5.length c5) nz0) (And.intro (r1.other 0 (.slice q5 Q5.length c5) nz1) (And.intro (r2.set 0 (.slice q5 Q5.length c5)) (And.intro (ownR_set (base' := W.heap.size) hown5 ⟨w.heap.size + 1 + 1, 0, none⟩ (by show w.heap.size + 1 + 1 < W.heap.size; omega) (.slice q5 Q5.length c5) (Nat.le_refl _)) (hB.setCell (p := ⟨w.heap.size + 1 + 1, 0, none⟩) (by show w.heap.size ≤ w.heap.size + 1 + 1; omega) (.slice q5 Q5.length c5)))))
        clear r0 r1 r2 hB hown hown5 hb5 qn 
        go_wp2_with (at_builtin; refine wpList_append_runs rfl _ _ 57 rfl _ _ rfl rfl happ ?_)
        go_roundw
        case rel => exact ⟨k + 1, .slice q5 Q5.length c5, hlt, by go_num, HZ.out.1, HZ.out.2.1, HZ.out.2.2.1, by rw [HTK.out, HQ5.out]; exact HZ.out.2.2.2.1, HZ.out.2.2.2.2, by simpa using hs5⟩
        case measure => simp [intOf]; omega
    · obtain rfl : k = rs.length := by omega
      have d1 : decide ((rs.length : Int) < (rs.length : Int)) = false := by simp
      rw [List.take_length] at hown r2
      have y2 : wr.cell? ⟨w.heap.size + 1 + 1, 0, none⟩ = some (.slice q (rs.filterMap (loseD i now)).length cv) := r2.cell 0
      have f0 : wr.frozen? ⟨w.heap.size + 1, 0, none⟩ = false := r1.frozen 0
      have z0 : wr.cell? ⟨w.heap.size + 1, 0, none⟩ = some (.slice none 0 0) := r1.cell 0
      have HE : Hid _ := And.intro (r1.set 0 (.slice q (rs.filterMap (loseD i now)).length cv)) (And.intro (hB.setCell (p := ⟨w.heap.size + 1, 0, none⟩) (by show w.heap.size ≤ w.heap.size + 1; omega) (.slice q (rs.filterMap (loseD i now)).length cv)) (ownR_set (base' := w.heap.size) hown ⟨w.heap.size + 1, 0, none⟩ (by show w.heap.size + 1 < W.heap.size; omega) (.slice q (rs.filterMap (loseD i now)).length cv) (by omega)))
      clear hlt hk r0 r1 r2 hown hB
      go_wp2_with fail
      obtain ⟨h1, h2, h3⟩ := HE.out
      clear HE f0 z0 y2
      generalize wr.setCell ⟨w.heap.size + 1, 0, none⟩ (.slice q (rs.filterMap (loseD i now)).length cv) = Z at *
      have e0 : Z.cell? ⟨w.heap.size + 1, 0, none⟩ = some (.slice q (rs.filterMap (loseD i now)).length cv) := h1.cell 0
      exact bodyPost_ret (v := .agg #[.slice q (rs.filterMap (loseD i now)).length cv]) (by simp [results, Tryz.results130, go_sem, e0]) rfl ⟨q, cv, rfl, h3, h2⟩
end Go.Proofs.YtcnadobnihbldaaGreat
