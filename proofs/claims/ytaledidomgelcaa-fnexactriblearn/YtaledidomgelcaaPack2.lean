/- Texts that stand on each other, in one file: RibR, MapN, MapI, RibM, InsR, TickM, TickR, LearnM, FreshS, ToNet, ToRt. -/
import Derived.Test.YtaledidomgelcaaPack1
import Derived.Lib.QuietBelow
import Derived.BigQuiet
import Derived.Laws.StructEq
import Derived.MapKept
import Derived.Carry
import Derived.Laws.EntriesVeiled
/- Is a table right? Asked by the program and by the model. (Written by gen_ribr.py.) -/
namespace Go.Proofs.Ytaledidomgelcaa
open Go.RowKit Go.Sort

/-- One route's net is ahead of another one's. -/
def ltR (r s : Rt) : Bool := decide (r.a < s.a) || (r.a == s.a && decide (r.l < s.l))
/-- The route at k is right, and behind the one ahead of it. -/
def okAt (rs : List Rt) (k : Nat) : Bool := routeB rs[k]! && (decide (k = 0) || ltR rs[k - 1]! rs[k]!)
def ribB (rs : List Rt) : Bool := decide (rs.length ≤ 8) && (List.range rs.length).all (okAt rs)
theorem get_bang {rs : List Rt} {k : Nat} (h : k < rs.length) : rs[k]! = rs[k] := by simp [h]
theorem ribB_long {rs : List Rt} (h : ¬ rs.length ≤ 8) : ribB rs = false := by simp [ribB, h]
theorem ribB_bad {rs : List Rt} {k : Nat} (hk : k < rs.length) (h : okAt rs k = false) : ribB rs = false := by
  unfold ribB
  have : (List.range rs.length).all (okAt rs) = false := by
    rw [List.all_eq_false]
    exact ⟨k, List.mem_range.2 hk, by rw [h]; simp⟩
  rw [this, Bool.and_false]
theorem ribB_good {rs : List Rt} (h8 : rs.length ≤ 8) (h : ∀ j, j < rs.length → okAt rs j = true) : ribB rs = true := by
  unfold ribB
  have : (List.range rs.length).all (okAt rs) = true := by
    rw [List.all_eq_true]
    exact fun j hj => h j (List.mem_range.1 hj)
  rw [this, decide_eq_true h8]; rfl
theorem ribB_spec {rs : List Rt} (h : ribB rs = true) : rs.length ≤ 8 ∧ ∀ j, j < rs.length → okAt rs j = true := by
  simp only [ribB, Bool.and_eq_true, decide_eq_true_eq, List.all_eq_true] at h
  exact ⟨h.1, fun j hj => h.2 j (List.mem_range.2 hj)⟩
theorem okAt_route {rs : List Rt} {k : Nat} (h : okAt rs k = true) : routeB rs[k]! = true := by
  unfold okAt at h; simp only [Bool.and_eq_true] at h; exact h.1
theorem routeB_right {r : Rt} (h : routeB r = true) : rightB r.a r.l = true := by
  unfold routeB saidB entB rtE at h
  simp only [Bool.and_eq_true] at h
  exact h.1.1.1.1.1.1
theorem box1 {w w1 : World} {x : Value} {t : TypeId} (h : Below (w.alloc (.cells #[x] t)).heap.size (w.alloc (.cells #[x] t)) w1) : w1.cell? ⟨w.heap.size, 0, none⟩ = some x ∧ Below w.heap.size w w1 := by
  have q := Row.new w t [x]
  exact ⟨(q.below h q.lt).cell 0, (ent_new0 w _).trans (h.mono (by simp))⟩
set_option maxRecDepth 100000 in
set_option maxHeartbeats 1000000 in
theorem implRib_any (p : Option Addr) (cap : Nat) (rs : List Rt) (w : World) (h : RtsIn w p rs) (hn : rs.length ≤ 100000000) :
    Calls Try.prog 42 #[ribV p rs.length cap] w fun e w' => e = .returned (.bool (ribB rs)) ∧ Below w.heap.size w w' := by
  have HE : Hid (∀ e w, Calls Try.prog 79 #[rtV e] w fun r w' => r = .returned (.bool (routeB e)) ∧ Below w.heap.size w w') := implRoute_any
  have HL : Hid (∀ a l b m w, Calls Try.prog 80 #[.agg #[.int .i64 a, .int .i64 l], .agg #[.int .i64 b, .int .i64 m]] w fun e w' => e = .returned (.bool (lessB a l b m)) ∧ Below w.heap.size w w') := fun a l b m w => implLess_any a l b m w
  have HBd : Hid (∀ k, k < rs.length → okAt rs k = false → ribB rs = false) := fun k hk hf => ribB_bad hk hf
  have HX : Hid (RtsIn w p rs) := h
  clear h
  unfold ribV
  by_cases hl : rs.length ≤ 8
  · have d8 : decide (8 < (rs.length : Int)) = false := by simp; omega
    have HYs : Hid ((∀ j, j < rs.length → okAt rs j = true) → ribB rs = true) := fun h => ribB_good hl h
    generalize ribB rs = R at *
    go_enter Try.func42, Try.ntmps42
    go_wp2_with fail
    go_loopw [12] (fun i wr => ∃ k : Nat, k ≤ rs.length ∧ i = .int .i64 k ∧ (∀ j, j < k → okAt rs j = true) ∧ Below (w.alloc (.cells #[.slice p rs.length cap] 30)).heap.size (w.alloc (.cells #[.slice p rs.length cap] 30)) wr) (fun i _ => rs.length - (intOf i).toNat)
    case atStart => exact ⟨0, Nat.zero_le _, rfl, fun j hj => absurd hj (by omega), Below.refl _ _⟩
    case round =>
      obtain ⟨k, hk, rfl, ha, hb0⟩ := hrel
      obtain ⟨x0, hb⟩ := box1 hb0
      by_cases hlt : k < rs.length
      · have d1 : decide ((k : Int) < (rs.length : Int)) = true := by simpa using hlt
        obtain ⟨g, a, l, m, n, ii, t, u, b, c, rfl, hg, hek, c0, c1, c2, c3, c4, c5, c6, c7, c8⟩ := (HX.out.below hb).at k hlt
        have hbk : rs[k]! = ⟨a, l, m, n, ii, t, u, b, c⟩ := (get_bang hlt).trans hek
        have HEk : Hid (∀ w, Calls Try.prog 79 #[.agg #[.int .i64 a, .int .i64 l, .int .i64 m, .int .i64 n, .int .i64 ii, .int .i64 t, .int .i64 u, .int .i64 b, .bool c]] w fun r w' => r = .returned (.bool (routeB ⟨a, l, m, n, ii, t, u, b, c⟩)) ∧ Below w.heap.size w w') := HE.out ⟨a, l, m, n, ii, t, u, b, c⟩
        have HBk : Hid (okAt rs k = false → R = false) := HBd.out k hlt
        have HNx : Hid (okAt rs k = true → ∀ j, j < k + 1 → okAt rs j = true) := fun h j hj => by
          rcases Nat.lt_or_ge j k with h' | h'
          · exact ha j h'
          · obtain rfl : j = k := by omega
            exact h
        by_cases hz : k = 0
        · have hok : okAt rs k = routeB ⟨a, l, m, n, ii, t, u, b, c⟩ := by unfold okAt; rw [hbk, decide_eq_true hz]; simp
          rw [hok] at HBk HNx
          clear hok HE HL hek HBd ha hbk
          generalize routeB ⟨a, l, m, n, ii, t, u, b, c⟩ = B at *
          have z0 : decide (0 < k) = false := by simp; omega
          have z1 : decide (0 < (k : Int)) = false := by simp; omega
          clear hz
          have HBN : Hid (Below wr.heap.size wr (wr.alloc (.cells #[.int .i64 a, .int .i64 l, .int .i64 m, .int .i64 n, .int .i64 ii, .int .i64 t, .int .i64 u, .int .i64 b, .bool c] 46))) := ent_new0 wr _
          have HQN : Hid (Row (wr.alloc (.cells #[.int .i64 a, .int .i64 l, .int .i64 m, .int .i64 n, .int .i64 ii, .int .i64 t, .int .i64 u, .int .i64 b, .bool c] 46)) wr.heap.size 46 [.int .i64 a, .int .i64 l, .int .i64 m, .int .i64 n, .int .i64 ii, .int .i64 t, .int .i64 u, .int .i64 b, .bool c]) := Row.new wr _ _
          have HX0 : Hid ((wr.alloc (.cells #[.int .i64 a, .int .i64 l, .int .i64 m, .int .i64 n, .int .i64 ii, .int .i64 t, .int .i64 u, .int .i64 b, .bool c] 46)).cell? ⟨w.heap.size, 0, none⟩ = some (.slice (some ⟨g, 0, none⟩) rs.length cap)) := by show _ = _; rw [HBN.out.cell (p := ⟨w.heap.size, 0, none⟩) (by have := hb0.size; simp at this; show w.heap.size < wr.heap.size; omega)]; exact x0
          cases B
          · go_wp2_with fail
            clear c0 c1 c2 c3 c4 c5 c6 c7 c8 x0
            generalize (wr.alloc (.cells #[.int .i64 a, .int .i64 l, .int .i64 m, .int .i64 n, .int .i64 ii, .int .i64 t, .int .i64 u, .int .i64 b, .bool c] 46)) = WR at *
            have x0 := cell_regrown HX0.out
            have c0 : WR.cell? ⟨wr.heap.size, 0, none⟩ = some (.int .i64 a) := HQN.out.cell 0
            replace c0 := cell_regrown c0
            have c1 : WR.cell? ⟨wr.heap.size, 1, none⟩ = some (.int .i64 l) := HQN.out.cell 1
            replace c1 := cell_regrown c1
            have c2 : WR.cell? ⟨wr.heap.size, 2, none⟩ = some (.int .i64 m) := HQN.out.cell 2
            replace c2 := cell_regrown c2
            have c3 : WR.cell? ⟨wr.heap.size, 3, none⟩ = some (.int .i64 n) := HQN.out.cell 3
            replace c3 := cell_regrown c3
            have c4 : WR.cell? ⟨wr.heap.size, 4, none⟩ = some (.int .i64 ii) := HQN.out.cell 4
            replace c4 := cell_regrown c4
            have c5 : WR.cell? ⟨wr.heap.size, 5, none⟩ = some (.int .i64 t) := HQN.out.cell 5
            replace c5 := cell_regrown c5
            have c6 : WR.cell? ⟨wr.heap.size, 6, none⟩ = some (.int .i64 u) := HQN.out.cell 6
            replace c6 := cell_regrown c6
            have c7 : WR.cell? ⟨wr.heap.size, 7, none⟩ = some (.int .i64 b) := HQN.out.cell 7
            replace c7 := cell_regrown c7
            have c8 : WR.cell? ⟨wr.heap.size, 8, none⟩ = some (.bool c) := HQN.out.cell 8
            replace c8 := cell_regrown c8
            refine wp_region_quiet_below (by kernel_rfl) (by kernel_rfl) ?_
            repeat (go_big_quiet_step (first | (go_at_call 79; exact Calls.regrown_of (HEk.out _))))
            refine wpQuiet_nil ?_
            intro w1 hw'
            obtain ⟨⟨dq, osq⟩, hw''⟩ := hw'
            have hbq := below_regrown WR dq osq
            rw [← hw''] at hbq
            clear hw'' osq dq
            clear c0 c1 c2 c3 c4 c5 c6 c7 c8 x0 HQN HX0
            have hB1 := hb.trans ((HBN.out.trans (hbq.mono HBN.out.size)).mono hb.size)
            clear hbq HBN
            go_wp2
            go_ret
            exact ⟨ret_bool (HBk.out (by trivial)).symm, hB1⟩
          · go_wp2_with fail
            clear c0 c1 c2 c3 c4 c5 c6 c7 c8 x0
            generalize (wr.alloc (.cells #[.int .i64 a, .int .i64 l, .int .i64 m, .int .i64 n, .int .i64 ii, .int .i64 t, .int .i64 u, .int .i64 b, .bool c] 46)) = WR at *
            have x0 := cell_regrown HX0.out
            have c0 : WR.cell? ⟨wr.heap.size, 0, none⟩ = some (.int .i64 a) := HQN.out.cell 0
            replace c0 := cell_regrown c0
            have c1 : WR.cell? ⟨wr.heap.size, 1, none⟩ = some (.int .i64 l) := HQN.out.cell 1
            replace c1 := cell_regrown c1
            have c2 : WR.cell? ⟨wr.heap.size, 2, none⟩ = some (.int .i64 m) := HQN.out.cell 2
            replace c2 := cell_regrown c2
            have c3 : WR.cell? ⟨wr.heap.size, 3, none⟩ = some (.int .i64 n) := HQN.out.cell 3
            replace c3 := cell_regrown c3
            have c4 : WR.cell? ⟨wr.heap.size, 4, none⟩ = some (.int .i64 ii) := HQN.out.cell 4
            replace c4 := cell_regrown c4
            have c5 : WR.cell? ⟨wr.heap.size, 5, none⟩ = some (.int .i64 t) := HQN.out.cell 5
            replace c5 := cell_regrown c5
            have c6 : WR.cell? ⟨wr.heap.size, 6, none⟩ = some (.int .i64 u) := HQN.out.cell 6
            replace c6 := cell_regrown c6
            have c7 : WR.cell? ⟨wr.heap.size, 7, none⟩ = some (.int .i64 b) := HQN.out.cell 7
            replace c7 := cell_regrown c7
            have c8 : WR.cell? ⟨wr.heap.size, 8, none⟩ = some (.bool c) := HQN.out.cell 8
            replace c8 := cell_regrown c8
            refine wp_region_quiet_below (by kernel_rfl) (by kernel_rfl) ?_
            repeat (go_big_quiet_step (first | (go_at_call 79; exact Calls.regrown_of (HEk.out _))))
            refine wpQuiet_nil ?_
            intro w1 hw'
            obtain ⟨⟨dq, osq⟩, hw''⟩ := hw'
            have hbq := below_regrown WR dq osq
            rw [← hw''] at hbq
            clear hw'' osq dq
            clear c0 c1 c2 c3 c4 c5 c6 c7 c8 x0 HQN HX0
            have hB0 := hb0.trans ((HBN.out.trans (hbq.mono HBN.out.size)).mono hb0.size)
            clear hbq HBN
            go_wp2
            go_roundw
            case rel => exact ⟨k + 1, hlt, by go_num, HNx.out (by trivial), hB0⟩
            case measure => simp [intOf]; omega
        · obtain ⟨g', a', l', m', n', ii', t', u', b', c', hgg, hg', hej, d0, d1', d2, d3, d4, d5, d6, d7, d8⟩ := (HX.out.below hb).at (k - 1) (by omega)
          simp only [Option.some.injEq, Addr.mk.injEq, and_true] at hgg
          subst hgg
          have hbj : rs[k - 1]! = ⟨a', l', m', n', ii', t', u', b', c'⟩ := (get_bang (by omega)).trans hej
          have hrj := okAt_route (ha (k - 1) (by omega))
          rw [hbj] at hrj
          have hok : okAt rs k = (routeB ⟨a, l, m, n, ii, t, u, b, c⟩ && (decide (a' < a) || (a' == a && decide (l' < l)))) := by unfold okAt; rw [hbk, hbj, decide_eq_false hz]; rfl
          have HLk : Hid (∀ w, Calls Try.prog 80 #[.agg #[.int .i64 a', .int .i64 l'], .agg #[.int .i64 a, .int .i64 l]] w fun e w' => e = .returned (.bool (lessB a' l' a l)) ∧ Below w.heap.size w w') := HL.out a' l' a l
          have HLe : Hid (routeB ⟨a, l, m, n, ii, t, u, b, c⟩ = true → lessB a' l' a l = (decide (a' < a) || (a' == a && decide (l' < l)))) := fun h => by unfold lessB; rw [routeB_right hrj, routeB_right h]; rfl
          rw [hok] at HBk HNx
          clear hok HE HL hek hej HBd ha hbk hbj hrj
          generalize routeB ⟨a, l, m, n, ii, t, u, b, c⟩ = B at *
          have z0 : decide (0 < k) = true := by simp; omega
          have z1 : decide (0 < (k : Int)) = true := by simp; omega
          have z2 : IntKind.i64.wrap ((k : Int) - 1) = ((k - 1 : Nat) : Int) := by rw [wrap_i64_in _ (by omega) (by omega)]; omega
          have z3 : (k : Int) - 1 = ((k - 1 : Nat) : Int) := by omega
          have z4 : decide (((k - 1 : Nat) : Int) < (rs.length : Int)) = true := by simp; omega
          have z5 : k - 1 < rs.length := by omega
          have HBN : Hid (Below wr.heap.size wr (wr.alloc (.cells #[.int .i64 a, .int .i64 l, .int .i64 m, .int .i64 n, .int .i64 ii, .int .i64 t, .int .i64 u, .int .i64 b, .bool c] 46))) := ent_new0 wr _
          have HQN : Hid (Row (wr.alloc (.cells #[.int .i64 a, .int .i64 l, .int .i64 m, .int .i64 n, .int .i64 ii, .int .i64 t, .int .i64 u, .int .i64 b, .bool c] 46)) wr.heap.size 46 [.int .i64 a, .int .i64 l, .int .i64 m, .int .i64 n, .int .i64 ii, .int .i64 t, .int .i64 u, .int .i64 b, .bool c]) := Row.new wr _ _
          have HX0 : Hid ((wr.alloc (.cells #[.int .i64 a, .int .i64 l, .int .i64 m, .int .i64 n, .int .i64 ii, .int .i64 t, .int .i64 u, .int .i64 b, .bool c] 46)).cell? ⟨w.heap.size, 0, none⟩ = some (.slice (some ⟨g, 0, none⟩) rs.length cap)) := by show _ = _; rw [HBN.out.cell (p := ⟨w.heap.size, 0, none⟩) (by have := hb0.size; simp at this; show w.heap.size < wr.heap.size; omega)]; exact x0
          have HD0 : Hid ((wr.alloc (.cells #[.int .i64 a, .int .i64 l, .int .i64 m, .int .i64 n, .int .i64 ii, .int .i64 t, .int .i64 u, .int .i64 b, .bool c] 46)).cell? ⟨g, (k - 1) * 9, none⟩ = some (.int .i64 a')) := by show _ = _; rw [HBN.out.cell (p := ⟨g, (k - 1) * 9, none⟩) hg]; exact d0
          have HD1 : Hid ((wr.alloc (.cells #[.int .i64 a, .int .i64 l, .int .i64 m, .int .i64 n, .int .i64 ii, .int .i64 t, .int .i64 u, .int .i64 b, .bool c] 46)).cell? ⟨g, (k - 1) * 9 + 1, none⟩ = some (.int .i64 l')) := by show _ = _; rw [HBN.out.cell (p := ⟨g, (k - 1) * 9 + 1, none⟩) hg]; exact d1'
          clear d0 d1' d2 d3 d4 d5 d6 d7 d8
          cases B
          · clear HLk
            go_wp2_with fail
            clear c0 c1 c2 c3 c4 c5 c6 c7 c8 x0
            generalize (wr.alloc (.cells #[.int .i64 a, .int .i64 l, .int .i64 m, .int .i64 n, .int .i64 ii, .int .i64 t, .int .i64 u, .int .i64 b, .bool c] 46)) = WR at *
            have x0 := cell_regrown HX0.out
            have c0 : WR.cell? ⟨wr.heap.size, 0, none⟩ = some (.int .i64 a) := HQN.out.cell 0
            replace c0 := cell_regrown c0
            have c1 : WR.cell? ⟨wr.heap.size, 1, none⟩ = some (.int .i64 l) := HQN.out.cell 1
            replace c1 := cell_regrown c1
            have c2 : WR.cell? ⟨wr.heap.size, 2, none⟩ = some (.int .i64 m) := HQN.out.cell 2
            replace c2 := cell_regrown c2
            have c3 : WR.cell? ⟨wr.heap.size, 3, none⟩ = some (.int .i64 n) := HQN.out.cell 3
            replace c3 := cell_regrown c3
            have c4 : WR.cell? ⟨wr.heap.size, 4, none⟩ = some (.int .i64 ii) := HQN.out.cell 4
            replace c4 := cell_regrown c4
            have c5 : WR.cell? ⟨wr.heap.size, 5, none⟩ = some (.int .i64 t) := HQN.out.cell 5
            replace c5 := cell_regrown c5
            have c6 : WR.cell? ⟨wr.heap.size, 6, none⟩ = some (.int .i64 u) := HQN.out.cell 6
            replace c6 := cell_regrown c6
            have c7 : WR.cell? ⟨wr.heap.size, 7, none⟩ = some (.int .i64 b) := HQN.out.cell 7
            replace c7 := cell_regrown c7
            have c8 : WR.cell? ⟨wr.heap.size, 8, none⟩ = some (.bool c) := HQN.out.cell 8
            replace c8 := cell_regrown c8
            have d0 := cell_regrown HD0.out
            have d1' := cell_regrown HD1.out
            refine wp_region_quiet_below (by kernel_rfl) (by kernel_rfl) ?_
            repeat (go_big_quiet_step (first | (go_at_call 79; exact Calls.regrown_of (HEk.out _))))
            refine wpQuiet_nil ?_
            intro w1 hw'
            obtain ⟨⟨dq, osq⟩, hw''⟩ := hw'
            have hbq := below_regrown WR dq osq
            rw [← hw''] at hbq
            clear hw'' osq dq
            clear c0 c1 c2 c3 c4 c5 c6 c7 c8 x0 d0 d1' HQN HX0 HD0 HD1
            have hB1 := hb.trans ((HBN.out.trans (hbq.mono HBN.out.size)).mono hb.size)
            clear hbq HBN
            go_wp2
            go_ret
            exact ⟨ret_bool (HBk.out (by trivial)).symm, hB1⟩
          · have HLe' := HLe.out (by trivial)
            rw [HLe'] at HLk
            clear HLe HLe'
            generalize (decide (a' < a) || (a' == a && decide (l' < l))) = L at *
            cases L
            · go_wp2_with fail
              clear c0 c1 c2 c3 c4 c5 c6 c7 c8 x0
              generalize (wr.alloc (.cells #[.int .i64 a, .int .i64 l, .int .i64 m, .int .i64 n, .int .i64 ii, .int .i64 t, .int .i64 u, .int .i64 b, .bool c] 46)) = WR at *
              have x0 := cell_regrown HX0.out
              have c0 : WR.cell? ⟨wr.heap.size, 0, none⟩ = some (.int .i64 a) := HQN.out.cell 0
              replace c0 := cell_regrown c0
              have c1 : WR.cell? ⟨wr.heap.size, 1, none⟩ = some (.int .i64 l) := HQN.out.cell 1
              replace c1 := cell_regrown c1
              have c2 : WR.cell? ⟨wr.heap.size, 2, none⟩ = some (.int .i64 m) := HQN.out.cell 2
              replace c2 := cell_regrown c2
              have c3 : WR.cell? ⟨wr.heap.size, 3, none⟩ = some (.int .i64 n) := HQN.out.cell 3
              replace c3 := cell_regrown c3
              have c4 : WR.cell? ⟨wr.heap.size, 4, none⟩ = some (.int .i64 ii) := HQN.out.cell 4
              replace c4 := cell_regrown c4
              have c5 : WR.cell? ⟨wr.heap.size, 5, none⟩ = some (.int .i64 t) := HQN.out.cell 5
              replace c5 := cell_regrown c5
              have c6 : WR.cell? ⟨wr.heap.size, 6, none⟩ = some (.int .i64 u) := HQN.out.cell 6
              replace c6 := cell_regrown c6
              have c7 : WR.cell? ⟨wr.heap.size, 7, none⟩ = some (.int .i64 b) := HQN.out.cell 7
              replace c7 := cell_regrown c7
              have c8 : WR.cell? ⟨wr.heap.size, 8, none⟩ = some (.bool c) := HQN.out.cell 8
              replace c8 := cell_regrown c8
              have d0 := cell_regrown HD0.out
              have d1' := cell_regrown HD1.out
              refine wp_region_quiet_below (by kernel_rfl) (by kernel_rfl) ?_
              repeat (go_big_quiet_step (first | (go_at_call 79; exact Calls.regrown_of (HEk.out _)) | (go_at_call 80; exact Calls.regrown_of (HLk.out _))))
              refine wpQuiet_nil ?_
              intro w1 hw'
              obtain ⟨⟨dq, osq⟩, hw''⟩ := hw'
              have hbq := below_regrown WR dq osq
              rw [← hw''] at hbq
              clear hw'' osq dq
              clear c0 c1 c2 c3 c4 c5 c6 c7 c8 x0 d0 d1' HQN HX0 HD0 HD1
              have hB1 := hb.trans ((HBN.out.trans (hbq.mono HBN.out.size)).mono hb.size)
              clear hbq HBN
              go_wp2
              go_ret
              exact ⟨ret_bool (HBk.out (by trivial)).symm, hB1⟩
            · go_wp2_with fail
              clear c0 c1 c2 c3 c4 c5 c6 c7 c8 x0
              generalize (wr.alloc (.cells #[.int .i64 a, .int .i64 l, .int .i64 m, .int .i64 n, .int .i64 ii, .int .i64 t, .int .i64 u, .int .i64 b, .bool c] 46)) = WR at *
              have x0 := cell_regrown HX0.out
              have c0 : WR.cell? ⟨wr.heap.size, 0, none⟩ = some (.int .i64 a) := HQN.out.cell 0
              replace c0 := cell_regrown c0
              have c1 : WR.cell? ⟨wr.heap.size, 1, none⟩ = some (.int .i64 l) := HQN.out.cell 1
              replace c1 := cell_regrown c1
              have c2 : WR.cell? ⟨wr.heap.size, 2, none⟩ = some (.int .i64 m) := HQN.out.cell 2
              replace c2 := cell_regrown c2
              have c3 : WR.cell? ⟨wr.heap.size, 3, none⟩ = some (.int .i64 n) := HQN.out.cell 3
              replace c3 := cell_regrown c3
              have c4 : WR.cell? ⟨wr.heap.size, 4, none⟩ = some (.int .i64 ii) := HQN.out.cell 4
              replace c4 := cell_regrown c4
              have c5 : WR.cell? ⟨wr.heap.size, 5, none⟩ = some (.int .i64 t) := HQN.out.cell 5
              replace c5 := cell_regrown c5
              have c6 : WR.cell? ⟨wr.heap.size, 6, none⟩ = some (.int .i64 u) := HQN.out.cell 6
              replace c6 := cell_regrown c6
              have c7 : WR.cell? ⟨wr.heap.size, 7, none⟩ = some (.int .i64 b) := HQN.out.cell 7
              replace c7 := cell_regrown c7
              have c8 : WR.cell? ⟨wr.heap.size, 8, none⟩ = some (.bool c) := HQN.out.cell 8
              replace c8 := cell_regrown c8
              have d0 := cell_regrown HD0.out
              have d1' := cell_regrown HD1.out
              refine wp_region_quiet_below (by kernel_rfl) (by kernel_rfl) ?_
              repeat (go_big_quiet_step (first | (go_at_call 79; exact Calls.regrown_of (HEk.out _)) | (go_at_call 80; exact Calls.regrown_of (HLk.out _))))
              refine wpQuiet_nil ?_
              intro w1 hw'
              obtain ⟨⟨dq, osq⟩, hw''⟩ := hw'
              have hbq := below_regrown WR dq osq
              rw [← hw''] at hbq
              clear hw'' osq dq
              clear c0 c1 c2 c3 c4 c5 c6 c7 c8 x0 d0 d1' HQN HX0 HD0 HD1
              have hB0 := hb0.trans ((HBN.out.trans (hbq.mono HBN.out.size)).mono hb0.size)
              clear hbq HBN
              go_wp2
              go_roundw
              case rel => exact ⟨k + 1, hlt, by go_num, HNx.out (by trivial), hB0⟩
              case measure => simp [intOf]; omega
      · obtain rfl : k = rs.length := by omega
        have d1 : decide ((rs.length : Int) < (rs.length : Int)) = false := by simp
        have hR := HYs.out ha
        clear hlt hk
        go_wp2
        go_ret
        exact ⟨ret_bool hR.symm, hb⟩
  · rw [ribB_long hl]
    have d8 : decide (8 < (rs.length : Int)) = true := by simp; omega
    go_enter Try.func42, Try.ntmps42
    go_wp2
    go_ret
    exact ⟨rfl, ent_new0 w _⟩
set_option maxRecDepth 100000 in
set_option maxHeartbeats 1000000 in
theorem specRib_any (p : Option Addr) (cap : Nat) (rs : List Rt) (w : World) (h : RtsIn w p rs) (hn : rs.length ≤ 100000000) :
    Calls Try.prog 36 #[ribV p rs.length cap] w fun e w' => e = .returned (.bool (ribB rs)) ∧ Below w.heap.size w w' := by
  have HE : Hid (∀ e w, Calls Try.prog 73 #[rtV e] w fun r w' => r = .returned (.bool (routeB e)) ∧ Below w.heap.size w w') := specRoute_any
  have HL : Hid (∀ a l b m w, Calls Try.prog 74 #[.agg #[.int .i64 a, .int .i64 l], .agg #[.int .i64 b, .int .i64 m]] w fun e w' => e = .returned (.bool (decide (a < b) || (a == b && decide (l < m)))) ∧ Below w.heap.size w w') := fun a l b m w => l03Less_any a l b m w
  have HBd : Hid (∀ k, k < rs.length → okAt rs k = false → ribB rs = false) := fun k hk hf => ribB_bad hk hf
  have HX : Hid (RtsIn w p rs) := h
  clear h
  unfold ribV
  by_cases hl : rs.length ≤ 8
  · have d8 : decide (8 < (rs.length : Int)) = false := by simp; omega
    have HYs : Hid ((∀ j, j < rs.length → okAt rs j = true) → ribB rs = true) := fun h => ribB_good hl h
    generalize ribB rs = R at *
    go_enter Try.func36, Try.ntmps36
    go_wp2_with fail
    go_loopw [3] (fun i wr => ∃ k : Nat, k ≤ rs.length ∧ i = .int .i64 k ∧ (∀ j, j < k → okAt rs j = true) ∧ Below (w.alloc (.cells #[.slice p rs.length cap] 30)).heap.size (w.alloc (.cells #[.slice p rs.length cap] 30)) wr) (fun i _ => rs.length - (intOf i).toNat)
    case atStart => exact ⟨0, Nat.zero_le _, rfl, fun j hj => absurd hj (by omega), Below.refl _ _⟩
    case round =>
      obtain ⟨k, hk, rfl, ha, hb0⟩ := hrel
      obtain ⟨x0, hb⟩ := box1 hb0
      by_cases hlt : k < rs.length
      · have d1 : decide ((k : Int) < (rs.length : Int)) = true := by simpa using hlt
        obtain ⟨g, a, l, m, n, ii, t, u, b, c, rfl, hg, hek, c0, c1, c2, c3, c4, c5, c6, c7, c8⟩ := (HX.out.below hb).at k hlt
        have hbk : rs[k]! = ⟨a, l, m, n, ii, t, u, b, c⟩ := (get_bang hlt).trans hek
        have HEk : Hid (∀ w, Calls Try.prog 73 #[.agg #[.int .i64 a, .int .i64 l, .int .i64 m, .int .i64 n, .int .i64 ii, .int .i64 t, .int .i64 u, .int .i64 b, .bool c]] w fun r w' => r = .returned (.bool (routeB ⟨a, l, m, n, ii, t, u, b, c⟩)) ∧ Below w.heap.size w w') := HE.out ⟨a, l, m, n, ii, t, u, b, c⟩
        have HBk : Hid (okAt rs k = false → R = false) := HBd.out k hlt
        have HNx : Hid (okAt rs k = true → ∀ j, j < k + 1 → okAt rs j = true) := fun h j hj => by
          rcases Nat.lt_or_ge j k with h' | h'
          · exact ha j h'
          · obtain rfl : j = k := by omega
            exact h
        by_cases hz : k = 0
        · have hok : okAt rs k = routeB ⟨a, l, m, n, ii, t, u, b, c⟩ := by unfold okAt; rw [hbk, decide_eq_true hz]; simp
          rw [hok] at HBk HNx
          clear hok HE HL hek HBd ha hbk
          generalize routeB ⟨a, l, m, n, ii, t, u, b, c⟩ = B at *
          have z0 : decide (0 < k) = false := by simp; omega
          have z1 : decide (0 < (k : Int)) = false := by simp; omega
          clear hz
          have HBN : Hid (Below wr.heap.size wr wr) := Below.refl _ _
          cases B
          · go_wp2_with fail
            replace x0 := cell_regrown x0
            replace c0 := cell_regrown c0
            replace c1 := cell_regrown c1
            replace c2 := cell_regrown c2
            replace c3 := cell_regrown c3
            replace c4 := cell_regrown c4
            replace c5 := cell_regrown c5
            replace c6 := cell_regrown c6
            replace c7 := cell_regrown c7
            replace c8 := cell_regrown c8
            refine wp_region_quiet_below (by kernel_rfl) (by kernel_rfl) ?_
            repeat (go_big_quiet_step (first | (go_at_call 73; exact Calls.regrown_of (HEk.out _))))
            refine wpQuiet_nil ?_
            intro w1 hw'
            obtain ⟨⟨dq, osq⟩, hw''⟩ := hw'
            have hbq := below_regrown wr dq osq
            rw [← hw''] at hbq
            clear hw'' osq dq
            clear c0 c1 c2 c3 c4 c5 c6 c7 c8 x0
            have hB1 := hb.trans ((HBN.out.trans (hbq.mono HBN.out.size)).mono hb.size)
            clear hbq HBN
            go_wp2
            go_ret
            exact ⟨ret_bool (HBk.out (by trivial)).symm, hB1⟩
          · go_wp2_with fail
            replace x0 := cell_regrown x0
            replace c0 := cell_regrown c0
            replace c1 := cell_regrown c1
            replace c2 := cell_regrown c2
            replace c3 := cell_regrown c3
            replace c4 := cell_regrown c4
            replace c5 := cell_regrown c5
            replace c6 := cell_regrown c6
            replace c7 := cell_regrown c7
            replace c8 := cell_regrown c8
            refine wp_region_quiet_below (by kernel_rfl) (by kernel_rfl) ?_
            repeat (go_big_quiet_step (first | (go_at_call 73; exact Calls.regrown_of (HEk.out _))))
            refine wpQuiet_nil ?_
            intro w1 hw'
            obtain ⟨⟨dq, osq⟩, hw''⟩ := hw'
            have hbq := below_regrown wr dq osq
            rw [← hw''] at hbq
            clear hw'' osq dq
            clear c0 c1 c2 c3 c4 c5 c6 c7 c8 x0
            have hB0 := hb0.trans ((HBN.out.trans (hbq.mono HBN.out.size)).mono hb0.size)
            clear hbq HBN
            go_wp2
            go_roundw
            case rel => exact ⟨k + 1, hlt, by go_num, HNx.out (by trivial), hB0⟩
            case measure => simp [intOf]; omega
        · obtain ⟨g', a', l', m', n', ii', t', u', b', c', hgg, hg', hej, d0, d1', d2, d3, d4, d5, d6, d7, d8⟩ := (HX.out.below hb).at (k - 1) (by omega)
          simp only [Option.some.injEq, Addr.mk.injEq, and_true] at hgg
          subst hgg
          have hbj : rs[k - 1]! = ⟨a', l', m', n', ii', t', u', b', c'⟩ := (get_bang (by omega)).trans hej
          have hrj := okAt_route (ha (k - 1) (by omega))
          rw [hbj] at hrj
          have hok : okAt rs k = (routeB ⟨a, l, m, n, ii, t, u, b, c⟩ && (decide (a' < a) || (a' == a && decide (l' < l)))) := by unfold okAt; rw [hbk, hbj, decide_eq_false hz]; rfl
          have HLk : Hid (∀ w, Calls Try.prog 74 #[.agg #[.int .i64 a', .int .i64 l'], .agg #[.int .i64 a, .int .i64 l]] w fun e w' => e = .returned (.bool (decide (a' < a) || (a' == a && decide (l' < l)))) ∧ Below w.heap.size w w') := HL.out a' l' a l
          rw [hok] at HBk HNx
          clear hok HE HL hek hej HBd ha hbk hbj hrj
          generalize routeB ⟨a, l, m, n, ii, t, u, b, c⟩ = B at *
          have z0 : decide (0 < k) = true := by simp; omega
          have z1 : decide (0 < (k : Int)) = true := by simp; omega
          have z2 : IntKind.i64.wrap ((k : Int) - 1) = ((k - 1 : Nat) : Int) := by rw [wrap_i64_in _ (by omega) (by omega)]; omega
          have z3 : (k : Int) - 1 = ((k - 1 : Nat) : Int) := by omega
          have z4 : decide (((k - 1 : Nat) : Int) < (rs.length : Int)) = true := by simp; omega
          have z5 : k - 1 < rs.length := by omega
          have HBN : Hid (Below wr.heap.size wr wr) := Below.refl _ _
          clear d2 d3 d4 d5 d6 d7 d8
          cases B
          · clear HLk
            go_wp2_with fail
            replace x0 := cell_regrown x0
            replace c0 := cell_regrown c0
            replace c1 := cell_regrown c1
            replace c2 := cell_regrown c2
            replace c3 := cell_regrown c3
            replace c4 := cell_regrown c4
            replace c5 := cell_regrown c5
            replace c6 := cell_regrown c6
            replace c7 := cell_regrown c7
            replace c8 := cell_regrown c8
            replace d0 := cell_regrown d0
            replace d1' := cell_regrown d1'
            refine wp_region_quiet_below (by kernel_rfl) (by kernel_rfl) ?_
            repeat (go_big_quiet_step (first | (go_at_call 73; exact Calls.regrown_of (HEk.out _))))
            refine wpQuiet_nil ?_
            intro w1 hw'
            obtain ⟨⟨dq, osq⟩, hw''⟩ := hw'
            have hbq := below_regrown wr dq osq
            rw [← hw''] at hbq
            clear hw'' osq dq
            clear c0 c1 c2 c3 c4 c5 c6 c7 c8 x0 d0 d1'
            have hB1 := hb.trans ((HBN.out.trans (hbq.mono HBN.out.size)).mono hb.size)
            clear hbq HBN
            go_wp2
            go_ret
            exact ⟨ret_bool (HBk.out (by trivial)).symm, hB1⟩
          · generalize (decide (a' < a) || (a' == a && decide (l' < l))) = L at *
            cases L
            · go_wp2_with fail
              replace x0 := cell_regrown x0
              replace c0 := cell_regrown c0
              replace c1 := cell_regrown c1
              replace c2 := cell_regrown c2
              replace c3 := cell_regrown c3
              replace c4 := cell_regrown c4
              replace c5 := cell_regrown c5
              replace c6 := cell_regrown c6
              replace c7 := cell_regrown c7
              replace c8 := cell_regrown c8
              replace d0 := cell_regrown d0
              replace d1' := cell_regrown d1'
              refine wp_region_quiet_below (by kernel_rfl) (by kernel_rfl) ?_
              repeat (go_big_quiet_step (first | (go_at_call 73; exact Calls.regrown_of (HEk.out _)) | (go_at_call 74; exact Calls.regrown_of (HLk.out _))))
              refine wpQuiet_nil ?_
              intro w1 hw'
              obtain ⟨⟨dq, osq⟩, hw''⟩ := hw'
              have hbq := below_regrown wr dq osq
              rw [← hw''] at hbq
              clear hw'' osq dq
              clear c0 c1 c2 c3 c4 c5 c6 c7 c8 x0 d0 d1'
              have hB1 := hb.trans ((HBN.out.trans (hbq.mono HBN.out.size)).mono hb.size)
              clear hbq HBN
              go_wp2
              go_ret
              exact ⟨ret_bool (HBk.out (by trivial)).symm, hB1⟩
            · go_wp2_with fail
              replace x0 := cell_regrown x0
              replace c0 := cell_regrown c0
              replace c1 := cell_regrown c1
              replace c2 := cell_regrown c2
              replace c3 := cell_regrown c3
              replace c4 := cell_regrown c4
              replace c5 := cell_regrown c5
              replace c6 := cell_regrown c6
              replace c7 := cell_regrown c7
              replace c8 := cell_regrown c8
              replace d0 := cell_regrown d0
              replace d1' := cell_regrown d1'
              refine wp_region_quiet_below (by kernel_rfl) (by kernel_rfl) ?_
              repeat (go_big_quiet_step (first | (go_at_call 73; exact Calls.regrown_of (HEk.out _)) | (go_at_call 74; exact Calls.regrown_of (HLk.out _))))
              refine wpQuiet_nil ?_
              intro w1 hw'
              obtain ⟨⟨dq, osq⟩, hw''⟩ := hw'
              have hbq := below_regrown wr dq osq
              rw [← hw''] at hbq
              clear hw'' osq dq
              clear c0 c1 c2 c3 c4 c5 c6 c7 c8 x0 d0 d1'
              have hB0 := hb0.trans ((HBN.out.trans (hbq.mono HBN.out.size)).mono hb0.size)
              clear hbq HBN
              go_wp2
              go_roundw
              case rel => exact ⟨k + 1, hlt, by go_num, HNx.out (by trivial), hB0⟩
              case measure => simp [intOf]; omega
      · obtain rfl : k = rs.length := by omega
        have d1 : decide ((rs.length : Int) < (rs.length : Int)) = false := by simp
        have hR := HYs.out ha
        clear hlt hk
        go_wp2
        go_ret
        exact ⟨ret_bool hR.symm, hb⟩
  · rw [ribB_long hl]
    have d8 : decide (8 < (rs.length : Int)) = true := by simp; omega
    go_enter Try.func36, Try.ntmps36
    go_wp2
    go_ret
    exact ⟨rfl, ent_new0 w _⟩
end Go.Proofs.Ytaledidomgelcaa
/- A map of routes by their nets, made by the call: what it holds, looked up, put and dropped. -/
namespace Go.Proofs.Ytaledidomgelcaa
open Go.RowKit Go.Sort

def zeroR : Rt := ⟨0, 0, 0, 0, 0, 0, 0, 0, false⟩
def isN (a l : Int) (r : Rt) : Bool := a == r.a && l == r.l
theorem netFields : Try.prog.underlying 35 = some (.struct (Try.prog.fieldsOf 35)) := by kernel_rfl
theorem netHeld : Try.prog.stoodInHeld 35 = false := by kernel_rfl
theorem int64Und : Try.prog.underlying 2 = some (.int .i64) := by kernel_rfl
theorem netParts : (Try.prog.fieldsOf 35).toList.map (fun f => (f.name, f.type, f.offset)) = [("Addr", 2, 0), ("Len", 2, 1)] := by kernel_rfl
theorem list2 {α : Type} {l : List α} (h : l.length = 2) : ∃ x y, l = [x, y] := by
  match l, h with
  | [x, y], _ => exact ⟨x, y, rfl⟩
theorem eqNetRun (a l b m : Int) (w : World) : (Op.equal 35 (netV a l) (netV b m)).run Try.prog w = .ok (a == b && l == m) w := by
  unfold netV
  show (Op.equalIn (9999 + 1) _ _ _).run _ _ = _
  rw [run_equalIn_struct w 9999 _ _ _ netFields netHeld]
  have hp := netParts
  generalize (Try.prog.fieldsOf 35).toList = fs at hp
  obtain ⟨f, g, rfl⟩ := list2 (l := fs) (by have := congrArg List.length hp; simpa using this)
  · skip
    simp only [List.map_cons, List.map_nil, List.cons.injEq, Prod.mk.injEq, and_true] at hp
    obtain ⟨⟨n1, t1, o1⟩, n2, t2, o2⟩ := hp
    have h1 : f.name ≠ "_" := by rw [n1]; decide
    have h2 : g.name ≠ "_" := by rw [n2]; decide
    have p1 : ∀ (x y : Int) w, (part f.type #[.int .i64 x, .int .i64 y] f.offset).run Try.prog w = .ok (.int .i64 x) w := fun x y w => by rw [t1, o1]; kernel_rfl
    have p2 : ∀ (x y : Int) w, (part g.type #[.int .i64 x, .int .i64 y] g.offset).run Try.prog w = .ok (.int .i64 y) w := fun x y w => by rw [t2, o2]; kernel_rfl
    have e1 : ∀ (x y : Int) w, (Op.equalIn 9999 f.type (.int .i64 x) (.int .i64 y)).run Try.prog w = .ok (x == y) w := fun x y w => by rw [t1]; exact run_equalIn_int w 9998 _ _ _ x y int64Und
    have e2 : ∀ (x y : Int) w, (Op.equalIn 9999 g.type (.int .i64 x) (.int .i64 y)).run Try.prog w = .ok (x == y) w := fun x y w => by rw [t2]; exact run_equalIn_int w 9998 _ _ _ x y int64Und
    simp only [Op.eqFields, Sem.run_bind, h1, h2, ne_eq, not_false_eq_true, if_true, p1, p2, e1, e2, Result.andThen_ok, Sem.run_ite, Sem.run_pure]
    cases (a == b) <;> cases (l == m) <;> rfl
theorem checkNet (em : Bool) (a l : Int) (w : World) : (Instr.checkKey em 10000 35 (netV a l)).run Try.prog w = .ok () w := by
  unfold netV
  kernel_rfl
/-- Entries that hold the routes rs, each under its net. -/
def Holds (es : List MapEntry) (rs : List Rt) : Prop := es.map (fun e => (e.key, e.val)) = rs.map (fun r => (netV r.a r.l, rtV r))
theorem Holds.nil_iff {es : List MapEntry} {rs : List Rt} (h : Holds es rs) : es.length = rs.length := by
  have := congrArg List.length h; simpa using this
def idxN (rs : List Rt) (a l : Int) : Option Nat := rs.findIdx? (isN a l)
def lookN (rs : List Rt) (a l : Int) : Option Rt := rs.find? (isN a l)
theorem findAsking_run (a l : Int) (w : World) : ∀ (es : List MapEntry) (rs : List Rt) (i : Nat), Holds es rs →
    (Instr.findAsking 35 (netV a l) es i).run Try.prog w = .ok ((idxN rs a l).bind fun k => (lookN rs a l).map fun r => (i + k, rtV r)) w
  | [], rs, i, h => by
    have h0 : rs = [] := List.length_eq_zero_iff.1 (by have := h.nil_iff; simpa using this.symm)
    subst h0
    simp [Instr.findAsking, idxN, lookN, Sem.run_pure]
  | e :: es, rs, i, h => by
    match rs, h with
    | [], h => exact absurd h.nil_iff (by simp)
    | r :: rs, h =>
      simp only [Holds, List.map_cons, List.cons.injEq, Prod.mk.injEq] at h
      obtain ⟨⟨hk, hv⟩, ht⟩ := h
      have ih := findAsking_run a l w es rs (i + 1) ht
      simp only [Instr.findAsking, Sem.run_bind, hk, eqNetRun, Result.andThen_ok, Sem.run_ite, Sem.run_pure, hv]
      by_cases hm : (a == r.a && l == r.l) = true
      · rw [if_pos hm]
        have hn : isN a l r = true := hm
        simp [idxN, lookN, List.findIdx?_cons, hn]
      · rw [if_neg hm, ih]
        have hn : isN a l r = false := by simpa [isN] using hm
        congr 1
        simp only [idxN, lookN, List.findIdx?_cons, List.find?_cons, hn, Bool.false_eq_true, if_false, Option.bind_map, Function.comp_def]
        congr 1
        funext k
        congr 1
        funext r'
        rw [show i + 1 + k = i + (k + 1) by omega]
theorem findNow_struct {fs : Array Field} (a l : Int) (e : MapEntry) (es : List MapEntry) (i : Nat) (r : Rt) (h : e.key = netV r.a r.l) : Instr.findNow (.struct fs) (netV a l) (e :: es) i = none := by
  unfold Instr.findNow
  rw [h]
  rfl
theorem findKey_run (a l : Int) (w : World) (es : List MapEntry) (rs : List Rt) (h : Holds es rs) :
    (Instr.findKey 35 (netV a l) es).run Try.prog w = .ok ((idxN rs a l).bind fun k => (lookN rs a l).map fun r => (k, rtV r)) w := by
  unfold Instr.findKey
  simp only [Sem.run_bind, run_underlying netFields, Result.andThen_ok]
  match es, rs, h with
  | [], [], _ => simp [Instr.findNow, idxN, lookN]
  | [], _ :: _, h => exact absurd h.nil_iff (by simp)
  | _ :: _, [], h => exact absurd h.nil_iff (by simp)
  | e :: es, r :: rs, h =>
    have hk : e.key = netV r.a r.l := by
      simp only [Holds, List.map_cons, List.cons.injEq, Prod.mk.injEq] at h
      exact h.1.1
    rw [findNow_struct a l e es 0 r hk]
    have := findAsking_run a l w (e :: es) (r :: rs) 0 h
    simpa using this
theorem idx_look (rs : List Rt) (a l : Int) : ((idxN rs a l).isSome = (lookN rs a l).isSome) := by
  unfold idxN lookN
  rw [List.findIdx?_isSome, Bool.eq_iff_iff, List.find?_isSome]
  simp
theorem idx_get {rs : List Rt} {a l : Int} {k : Nat} (h : idxN rs a l = some k) : ∃ hk : k < rs.length, lookN rs a l = some rs[k] ∧ isN a l rs[k] = true ∧ ∀ j (hj : j < k), isN a l (rs[j]'(by omega)) = false := by
  unfold idxN at h
  obtain ⟨hk, h1, h2⟩ := List.findIdx?_eq_some_iff_getElem.1 h
  refine ⟨hk, ?_, h1, fun j hj => by simpa using h2 j hj⟩
  unfold lookN
  rw [List.find?_eq_some_iff_getElem]
  exact ⟨h1, k, hk, rfl, fun j hj => by simpa using h2 j hj⟩
theorem idx_none {rs : List Rt} {a l : Int} (h : idxN rs a l = none) : lookN rs a l = none := by
  have := idx_look rs a l
  rw [h] at this
  cases hl : lookN rs a l with
  | none => rfl
  | some r => rw [hl] at this; cases this
/-- The map in block b holds the routes rs, each under its net, in the order in which they came. -/
def MapIs (w : World) (b : Nat) (rs : List Rt) : Prop := ∃ es clock, w.heap[b]? = some (.map es clock) ∧ Holds es.toList rs ∧ (es.toList.map (·.born)).Pairwise (· < ·) ∧ ∀ e ∈ es.toList, e.born < clock
theorem MapIs.lt {w : World} {b : Nat} {rs : List Rt} (h : MapIs w b rs) : b < w.heap.size := by
  obtain ⟨es, clock, hb, _⟩ := h
  exact (Array.getElem?_eq_some_iff.1 hb).1
theorem MapIs.kept {w w' : World} {b : Nat} {rs : List Rt} (h : MapIs w b rs) (hb : w'.heap[b]? = w.heap[b]?) : MapIs w' b rs := by
  obtain ⟨es, clock, h1, h2⟩ := h
  exact ⟨es, clock, hb.trans h1, h2⟩
theorem MapIs.below {B : Nat} {w w' : World} {b : Nat} {rs : List Rt} (h : MapIs w b rs) (hb : Below B w w') (hlt : b < B) : MapIs w' b rs := h.kept (hb.block b hlt)
theorem MapIs.made (w : World) : MapIs (w.alloc (.map #[] 0)) w.heap.size [] := ⟨#[], 0, heap_alloc_new w _, rfl, by simp, by simp⟩
theorem mapUnd : Try.prog.underlying 79 = some (.map 35 46) := by kernel_rfl
theorem zeroRun (w : World) : (zeroValue 46).run Try.prog w = .ok (rtV zeroR) w := by kernel_rfl
theorem map_look {w : World} {b : Nat} {rs : List Rt} (h : MapIs w b rs) (a l : Int) :
    (Instr.lookup 79 (.map (some b)) (netV a l) true).run Try.prog w = .ok (.tuple #[rtV ((lookN rs a l).getD zeroR), .bool (lookN rs a l).isSome]) w := by
  obtain ⟨es, clock, hb, hh, _, _⟩ := h
  unfold Instr.lookup
  simp only [Sem.run_bind, run_underlying mapUnd, Result.andThen_ok, MapKept.run_getObj_map hb, pure_bind, checkNet, findKey_run a l w es.toList rs hh]
  cases hi : idxN rs a l with
  | none =>
    rw [idx_none hi]
    simp
    rfl
  | some k =>
    obtain ⟨hk, hl, _⟩ := idx_get hi
    rw [hl]
    simp
/-- A route in the place of the one of its net, or behind all. -/
def putN (rs : List Rt) (r : Rt) : List Rt := match idxN rs r.a r.l with | some k => rs.set k r | none => rs ++ [r]
def dropN (rs : List Rt) (a l : Int) : List Rt := match idxN rs a l with | some k => rs.eraseIdx k | none => rs
theorem same_net (a l : Int) : Instr.sameBits 10000 (netV a l) (netV a l) = true := by
  unfold netV
  show (_ && _) = true
  simp [Instr.sameBits]
theorem isN_eq {a l : Int} {r : Rt} (h : isN a l r = true) : r.a = a ∧ r.l = l := by
  simp only [isN, Bool.and_eq_true, beq_iff_eq] at h
  exact ⟨h.1.symm, h.2.symm⟩
theorem Holds.get {es : List MapEntry} {rs : List Rt} (h : Holds es rs) (k : Nat) (hk : k < rs.length) : ∃ e, es[k]? = some e ∧ e.key = netV rs[k].a rs[k].l ∧ e.val = rtV rs[k] := by
  have hl := h.nil_iff
  have hk' : k < es.length := by omega
  refine ⟨es[k], List.getElem?_eq_getElem hk', ?_⟩
  have := congrArg (fun l => l[k]?) h
  simp only [List.getElem?_map, List.getElem?_eq_getElem hk', List.getElem?_eq_getElem hk, Option.map_some, Option.some.injEq, Prod.mk.injEq] at this
  exact this
def setB (w : World) (b : Nat) (o : Obj) : World := { w with heap := w.heap.setIfInBounds b o }
theorem setB_grown {w : World} {b : Nat} (o : Obj) : w.grownBy (setB w b o) (some b) := by
  refine ⟨rfl, rfl, rfl, by simp [setB], fun i _ hi => ?_⟩
  simp only [setB]
  rw [Array.getElem?_setIfInBounds_ne (by intro e; exact hi (by rw [e]))]
theorem setB_at {w : World} {b : Nat} {o : Obj} (h : b < w.heap.size) : (setB w b o).heap[b]? = some o := by
  simp [setB, h]
theorem map_put {w : World} {b : Nat} {rs : List Rt} (h : MapIs w b rs) (r : Rt) :
    ∃ w', (Instr.mapUpdate 79 (.map (some b)) (netV r.a r.l) (rtV r)).run Try.prog w = .ok () w' ∧ MapIs w' b (putN rs r) ∧ w.grownBy w' (some b) := by
  have hlt := h.lt
  obtain ⟨es, clock, hb, hh, hp, hc⟩ := h
  unfold Instr.mapUpdate
  simp only [Sem.run_bind, run_underlying mapUnd, Result.andThen_ok, MapKept.run_getObj_map hb, checkNet, findKey_run r.a r.l w es.toList rs hh]
  unfold putN
  cases hi : idxN rs r.a r.l with
  | none =>
    rw [idx_none hi]
    refine ⟨_, MapKept.run_setObj_map _ hb, ⟨_, _, setB_at hlt, ?_, ?_, ?_⟩, setB_grown _⟩
    · simp only [Holds] at hh ⊢
      simp [hh]
    · simp only [Array.toList_push, List.map_append, List.pairwise_append, List.map_cons, List.map_nil]
      refine ⟨hp, by simp, ?_⟩
      intro x hx y hy
      simp only [List.mem_map] at hx
      obtain ⟨e, he, rfl⟩ := hx
      simp only [List.mem_singleton] at hy
      rw [hy]
      exact hc e he
    · intro e he
      simp only [Array.toList_push, List.mem_append, List.mem_singleton] at he
      rcases he with he | rfl
      · have := hc e he; omega
      · show clock < clock + 1; omega
  | some k =>
    obtain ⟨hk, hl, hn, _⟩ := idx_get hi
    obtain ⟨e, he, hek, hev⟩ := hh.get k hk
    obtain ⟨ha, hl'⟩ := isN_eq hn
    rw [hl]
    have hke : ((es[k]?).map (·.key)).getD (netV r.a r.l) = netV r.a r.l := by
      rw [← Array.getElem?_toList, he]
      simp [hek, ha, hl']
    simp only [Option.bind_some, Option.map_some, Sem.run_bind, hke, Instr.keyThatStays, same_net, if_true, Sem.run_pure, Result.andThen_ok]
    refine ⟨_, MapKept.run_setObj_map _ hb, ⟨_, _, setB_at hlt, ?_, ?_, ?_⟩, setB_grown _⟩
    · simp only [Holds] at hh ⊢
      apply List.ext_getElem?
      intro j
      have hj := congrArg (fun l => l[j]?) hh
      simp only [List.getElem?_map] at hj ⊢
      rw [Array.getElem?_toList, Array.getElem?_modify]
      rw [Array.getElem?_toList] at hj
      by_cases hjk : k = j
      · subst hjk
        rw [Array.getElem?_toList] at he
        simp [he, hk]
      · simp [hjk, hj]
    · have e1 : (es.modify k fun e => { e with key := netV r.a r.l, val := rtV r }).toList.map (·.born) = es.toList.map (·.born) := by
        apply List.ext_getElem?
        intro j
        simp only [List.getElem?_map]
        rw [Array.getElem?_toList, Array.getElem?_modify, Array.getElem?_toList]
        by_cases hjk : k = j
        · subst hjk; cases es[k]? <;> simp
        · simp [hjk]
      rw [e1]
      exact hp
    · intro x hx
      obtain ⟨j, hj⟩ := List.mem_iff_getElem?.1 hx
      rw [Array.getElem?_toList, Array.getElem?_modify] at hj
      by_cases hjk : k = j
      · subst hjk
        rw [Array.getElem?_toList] at he
        rw [if_pos rfl, he] at hj
        simp only [Option.map_some, Option.some.injEq] at hj
        rw [← hj]
        exact hc e (List.mem_iff_getElem?.2 ⟨k, by rw [Array.getElem?_toList]; exact he⟩)
      · rw [if_neg hjk] at hj
        exact hc x (List.mem_iff_getElem?.2 ⟨j, by rw [Array.getElem?_toList]; exact hj⟩)
end Go.Proofs.Ytaledidomgelcaa
/- The table's own ways: put, find; a table laid out. (Written by gen_mapi.py.) -/
namespace Go.Proofs.Ytaledidomgelcaa
open Go.RowKit Go.Sort

/-- A table whose map lies in block B. -/
def tabV (B : Nat) : Value := .agg #[.map (some B), .func (.func 82) #[] #[]]
theorem grown_trans {a b c : World} {row : Option Nat} (h : a.grownBy b row) (k : b.grownBy c row) : a.grownBy c row :=
  ⟨k.os.trans h.os, k.tape.trans h.tape, k.output.trans h.output, Nat.le_trans h.size k.size, fun i hi hne => (k.block i (Nat.lt_of_lt_of_le hi h.size) hne).trans (h.block i hi hne)⟩
theorem rows3 (w : World) (x y z : List Value) (t1 t2 t3 : TypeId) : ∃ W, W = ((w.alloc (.cells x.toArray t1)).alloc (.cells y.toArray t2)).alloc (.cells z.toArray t3) ∧ Row W w.heap.size t1 x ∧ Row W (w.heap.size + 1) t2 y ∧ Row W (w.heap.size + 1 + 1) t3 z ∧ Below w.heap.size w W ∧ W.heap.size = w.heap.size + 1 + 1 + 1 ∧ ∀ row, w.grownBy W row := by
  have q0 := ((Row.new w t1 x).alloc (.cells y.toArray t2)).alloc (.cells z.toArray t3)
  have q1 := (Row.new (w.alloc (.cells x.toArray t1)) t2 y).alloc (.cells z.toArray t3)
  have q2 := Row.new ((w.alloc (.cells x.toArray t1)).alloc (.cells y.toArray t2)) t3 z
  have e1 : (w.alloc (.cells x.toArray t1)).heap.size = w.heap.size + 1 := by simp
  have e2 : ((w.alloc (.cells x.toArray t1)).alloc (.cells y.toArray t2)).heap.size = w.heap.size + 1 + 1 := by simp
  rw [e1] at q1
  rw [e2] at q2
  exact ⟨_, rfl, q0, q1, q2, ((ent_new0 w _).alloc (by simp) _).alloc (by simp; omega) _, by simp, fun row => grown_trans (grown_trans (World.grownBy_alloc w _ row) (World.grownBy_alloc _ _ row)) (World.grownBy_alloc _ _ row)⟩
set_option maxRecDepth 100000 in
theorem put_any (B : Nat) (rs : List Rt) (r : Rt) (w : World) (h : MapIs w B rs) :
    Calls Try.prog 62 #[tabV B, netV r.a r.l, rtV r] w fun e w' => e = .returned (.tuple #[]) ∧ MapIs w' B (putN rs r) ∧ w.grownBy w' (some B) := by
  have hlt := h.lt
  obtain ⟨a, l, m, n, i, t, u, b, c⟩ := r
  obtain ⟨W, hW, q0, q1, q2, hB, hS, hg0⟩ := rows3 w [.map (some B), .func (.func 82) #[] #[]] [.int .i64 a, .int .i64 l] [.int .i64 a, .int .i64 l, .int .i64 m, .int .i64 n, .int .i64 i, .int .i64 t, .int .i64 u, .int .i64 b, .bool c] 82 35 46
  obtain ⟨w2, hrun, hm2, hg2⟩ := map_put (h.below hB hlt) ⟨a, l, m, n, i, t, u, b, c⟩
  have HH : Hid (MapIs w2 B (putN rs ⟨a, l, m, n, i, t, u, b, c⟩) ∧ w.grownBy w2 (some B)) := ⟨hm2, grown_trans (hg0 _) hg2⟩
  clear hm2 hg2 h hB hg0
  unfold tabV netV rtV rtA
  unfold netV rtV rtA at hrun
  simp only at hrun
  rw [hW] at hrun
  have c0 : W.cell? ⟨w.heap.size, 0, none⟩ = some (.map (some B)) := q0.cell 0
  have c1 : W.cell? ⟨w.heap.size, 1, none⟩ = some (.func (.func 82) #[] #[]) := q0.cell 1
  have d0 : W.cell? ⟨w.heap.size + 1, 0, none⟩ = some (.int .i64 a) := q1.cell 0
  have d1 : W.cell? ⟨w.heap.size + 1, 1, none⟩ = some (.int .i64 l) := q1.cell 1
  have e0 : W.cell? ⟨w.heap.size + 1 + 1, 0, none⟩ = some (.int .i64 a) := q2.cell 0
  have e1 : W.cell? ⟨w.heap.size + 1 + 1, 1, none⟩ = some (.int .i64 l) := q2.cell 1
  have e2 : W.cell? ⟨w.heap.size + 1 + 1, 2, none⟩ = some (.int .i64 m) := q2.cell 2
  have e3 : W.cell? ⟨w.heap.size + 1 + 1, 3, none⟩ = some (.int .i64 n) := q2.cell 3
  have e4 : W.cell? ⟨w.heap.size + 1 + 1, 4, none⟩ = some (.int .i64 i) := q2.cell 4
  have e5 : W.cell? ⟨w.heap.size + 1 + 1, 5, none⟩ = some (.int .i64 t) := q2.cell 5
  have e6 : W.cell? ⟨w.heap.size + 1 + 1, 6, none⟩ = some (.int .i64 u) := q2.cell 6
  have e7 : W.cell? ⟨w.heap.size + 1 + 1, 7, none⟩ = some (.int .i64 b) := q2.cell 7
  have e8 : W.cell? ⟨w.heap.size + 1 + 1, 8, none⟩ = some (.bool c) := q2.cell 8
  have HW : Hid _ := hW
  clear hW q0 q1 q2
  go_enter Try.func62, Try.ntmps62
  go_wp2
  refine bodyPost_end (v := .tuple #[]) (by simp [results, Try.results62, go_sem]) rfl ⟨rfl, HH.out.1, HH.out.2⟩
/-- What is put one behind the other. -/
def laidN (rs : List Rt) : List Rt := rs.foldl putN []
theorem laidN_next (rs : List Rt) (k : Nat) (h : k < rs.length) : laidN (rs.take (k + 1)) = putN (laidN (rs.take k)) rs[k] := by
  unfold laidN
  rw [List.take_succ_eq_append_getElem h, List.foldl_append]
  rfl
/-- The state of laidOut's loop. -/
def LaySt (p : Option Addr) (cap : Nat) (rs : List Rt) (w : World) (k : Nat) (wr : World) : Prop :=
  Row wr w.heap.size 30 [.slice p rs.length cap] ∧ Row wr (w.heap.size + 1) 82 [.map none, .nilFunc] ∧ MapIs wr (w.heap.size + 1 + 1) (laidN (rs.take k)) ∧ Row wr (w.heap.size + 1 + 1 + 1) 82 [.map (some (w.heap.size + 1 + 1)), .func (.func 82) #[] #[]] ∧ Below w.heap.size w wr ∧ w.heap.size + 1 + 1 + 1 < wr.heap.size
theorem Row.grown {w w' : World} {g : Nat} {t : TypeId} {l : List Value} {b : Nat} (h : Row w g t l) (hg : w.grownBy w' (some b)) (hne : g ≠ b) : Row w' g t l := (hg.block g h.lt (by simpa using hne)).trans h
theorem laySt_next {p : Option Addr} {cap : Nat} {rs : List Rt} {w : World} {k : Nat} {wr w1 : World} (h : LaySt p cap rs w k wr) (hlt : k < rs.length) (o : Obj) (hg : (wr.alloc o).grownBy w1 (some (w.heap.size + 1 + 1))) (hm : MapIs w1 (w.heap.size + 1 + 1) (putN (laidN (rs.take k)) rs[k])) : LaySt p cap rs w (k + 1) w1 := by
  obtain ⟨r1, r2, r3, r4, hB, hsz⟩ := h
  refine ⟨(r1.alloc o).grown hg (by omega), (r2.alloc o).grown hg (by omega), by rw [laidN_next rs k hlt]; exact hm, (r4.alloc o).grown hg (by omega), ?_, ?_⟩
  · exact (hB.alloc hB.size o).grown hg (by have := hB.size; simp; omega) (fun j hj => by cases hj; omega)
  · have := hg.size; simp at this; omega
theorem MapIs.set {w : World} {b : Nat} {rs : List Rt} (h : MapIs w b rs) (p : Addr) (hne : p.block ≠ b) (v : Value) : MapIs (w.setCell p v) b rs := h.kept (by unfold World.setCell; rw [Array.getElem?_modify, if_neg hne])
theorem laySt_first (p : Option Addr) (cap : Nat) (rs : List Rt) (w : World) : LaySt p cap rs w 0 ((((w.alloc (.cells #[.slice p rs.length cap] 30)).alloc (.cells #[.map none, .nilFunc] 82)).alloc (.map #[] 0)).alloc (.cells #[.map (some (w.heap.size + 1 + 1)), .func (.func 82) #[] #[]] 82)) := by
  have e1 : (w.alloc (.cells #[.slice p rs.length cap] 30)).heap.size = w.heap.size + 1 := by simp
  have e2 : ((w.alloc (.cells #[.slice p rs.length cap] 30)).alloc (.cells #[.map none, .nilFunc] 82)).heap.size = w.heap.size + 1 + 1 := by simp
  have e3 : (((w.alloc (.cells #[.slice p rs.length cap] 30)).alloc (.cells #[.map none, .nilFunc] 82)).alloc (.map #[] 0)).heap.size = w.heap.size + 1 + 1 + 1 := by simp
  have q1 := (((Row.new w 30 [.slice p rs.length cap]).alloc (.cells #[.map none, .nilFunc] 82)).alloc (.map #[] 0)).alloc (.cells #[.map (some (w.heap.size + 1 + 1)), .func (.func 82) #[] #[]] 82)
  have q2 := ((Row.new (w.alloc (.cells #[.slice p rs.length cap] 30)) 82 [.map none, .nilFunc]).alloc (.map #[] 0)).alloc (.cells #[.map (some (w.heap.size + 1 + 1)), .func (.func 82) #[] #[]] 82)
  have q3 := MapIs.made ((w.alloc (.cells #[.slice p rs.length cap] 30)).alloc (.cells #[.map none, .nilFunc] 82))
  have q4 := Row.new (((w.alloc (.cells #[.slice p rs.length cap] 30)).alloc (.cells #[.map none, .nilFunc] 82)).alloc (.map #[] 0)) 82 [.map (some (w.heap.size + 1 + 1)), .func (.func 82) #[] #[]]
  rw [e1] at q2
  rw [e2] at q3
  rw [e3] at q4
  refine ⟨q1, q2, q3.below (ent_new0 _ _) (by rw [e3]; omega), q4, (((ent_new0 w _).alloc (by simp) _).alloc (by simp; omega) _).alloc (by simp; omega) _, by simp⟩
set_option maxRecDepth 100000 in
set_option maxHeartbeats 1000000 in
theorem laidOut_any (p : Option Addr) (cap : Nat) (rs : List Rt) (w : World) (h : RtsIn w p rs) (hn : rs.length ≤ 100000000) :
    Calls Try.prog 46 #[ribV p rs.length cap] w fun e w' => ∃ B, e = .returned (tabV B) ∧ w.heap.size ≤ B ∧ MapIs w' B (laidN rs) ∧ Below w.heap.size w w' := by
  have HP : Hid (∀ (B : Nat) (rs : List Rt) (r : Rt) (w : World), MapIs w B rs → Calls Try.prog 62 #[tabV B, netV r.a r.l, rtV r] w fun e w' => e = .returned (.tuple #[]) ∧ MapIs w' B (putN rs r) ∧ w.grownBy w' (some B)) := put_any
  have HX : Hid (RtsIn w p rs) := h
  clear h
  unfold ribV
  have hmm := @run_makeMap Try.prog
  go_enter Try.func46, Try.ntmps46
  go_wp2_with fail
  go_loopw [11] (fun i wr => ∃ k : Nat, k ≤ rs.length ∧ i = .int .i64 k ∧ LaySt p cap rs w k wr) (fun i _ => rs.length - (intOf i).toNat)
  case atStart =>
    refine ⟨0, Nat.zero_le _, rfl, ?_⟩
    exact laySt_first p cap rs w
  case round =>
    obtain ⟨k, hk, rfl, hst⟩ := hrel
    obtain ⟨r1, r2, r3, r4, hB, hsz⟩ := hst
    have x0 : wr.cell? ⟨w.heap.size + 1 + 1 + 1, 0, none⟩ = some (.map (some (w.heap.size + 1 + 1))) := r4.cell 0
    have x1 : wr.cell? ⟨w.heap.size + 1 + 1 + 1, 1, none⟩ = some (.func (.func 82) #[] #[]) := r4.cell 1
    by_cases hlt : k < rs.length
    · have d1 : decide ((k : Int) < (rs.length : Int)) = true := by simpa using hlt
      obtain ⟨g, a, l, m, n, ii, t, u, b, c, rfl, hg, hek, c0, c1, c2, c3, c4, c5, c6, c7, c8⟩ := (HX.out.below hB).at k hlt
      have HPk : Hid (∀ v, MapIs v (w.heap.size + 1 + 1) (laidN (rs.take k)) → Calls Try.prog 62 #[tabV (w.heap.size + 1 + 1), .agg #[.int .i64 a, .int .i64 l], .agg #[.int .i64 a, .int .i64 l, .int .i64 m, .int .i64 n, .int .i64 ii, .int .i64 t, .int .i64 u, .int .i64 b, .bool c]] v fun e w' => e = .returned (.tuple #[]) ∧ MapIs w' (w.heap.size + 1 + 1) (putN (laidN (rs.take k)) ⟨a, l, m, n, ii, t, u, b, c⟩) ∧ v.grownBy w' (some (w.heap.size + 1 + 1))) := fun v h => HP.out _ _ ⟨a, l, m, n, ii, t, u, b, c⟩ v h
      have hm1 : MapIs (wr.alloc (.cells #[.int .i64 a, .int .i64 l, .int .i64 m, .int .i64 n, .int .i64 ii, .int .i64 t, .int .i64 u, .int .i64 b, .bool c] 46)) (w.heap.size + 1 + 1) (laidN (rs.take k)) := r3.below (ent_new0 wr _) (by omega)
      have HS : Hid (LaySt (some ⟨g, 0, none⟩) cap rs w k wr) := ⟨r1, r2, r3, r4, hB, hsz⟩
      have hb3 : w.heap.size + 1 + 1 + 1 < wr.heap.size := hsz
      have HEK : Hid _ := hek
      clear HP hek r1 r2 r3 r4 hB hsz HX
      unfold tabV at HPk
      go_wp2_with fail
      refine (HPk.out _ hm1).mono ?_
      rintro e w1 ⟨rfl, hm2, hg2⟩
      have hN := laySt_next HS.out hlt _ hg2 (by rw [HEK.out]; exact hm2)
      have HN : Hid _ := hN
      clear hN hm2 hg2 hm1 HS HEK HPk c0 c1 c2 c3 c4 c5 c6 c7 c8 x0 x1
      go_wp2_with fail
      go_roundw
      case rel => exact ⟨k + 1, hlt, by go_num, HN.out⟩
      case measure => simp [intOf]; omega
    · obtain rfl : k = rs.length := by omega
      have d1 : decide ((rs.length : Int) < (rs.length : Int)) = false := by simp
      rw [List.take_length] at r3
      clear hlt hk HP HX
      have y0 : wr.cell? ⟨w.heap.size + 1, 0, none⟩ = some (.map none) := r2.cell 0
      have y1 : wr.cell? ⟨w.heap.size + 1, 1, none⟩ = some .nilFunc := r2.cell 1
      have f0 : wr.frozen? ⟨w.heap.size + 1, 0, none⟩ = false := r2.frozen 0
      have f1 : wr.frozen? ⟨w.heap.size + 1, 1, none⟩ = false := r2.frozen 1
      have hrow := (r2.set 0 (.map (some (w.heap.size + 1 + 1)))).set 1 (.func (.func 82) #[] #[])
      have hmap : MapIs ((wr.setCell ⟨w.heap.size + 1, 0, none⟩ (.map (some (w.heap.size + 1 + 1)))).setCell ⟨w.heap.size + 1, 1, none⟩ (.func (.func 82) #[] #[])) (w.heap.size + 1 + 1) (laidN rs) := (r3.set ⟨w.heap.size + 1, 0, none⟩ (by show w.heap.size + 1 ≠ w.heap.size + 1 + 1; omega) _).set ⟨w.heap.size + 1, 1, none⟩ (by show w.heap.size + 1 ≠ w.heap.size + 1 + 1; omega) _
      have hbel := (hB.setCell (p := ⟨w.heap.size + 1, 0, none⟩) (by show w.heap.size ≤ w.heap.size + 1; omega) (.map (some (w.heap.size + 1 + 1)))).setCell (p := ⟨w.heap.size + 1, 1, none⟩) (by show w.heap.size ≤ w.heap.size + 1; omega) (.func (.func 82) #[] #[])
      have HH : Hid _ := And.intro hrow (And.intro hmap hbel)
      clear hrow hmap hbel r1 r2 r3 r4 hB hsz
      go_wp2_with fail
      have HH2 := HH.out
      clear HH x0 x1 y0 y1 f0 f1
      generalize ((wr.setCell ⟨w.heap.size + 1, 0, none⟩ (.map (some (w.heap.size + 1 + 1)))).setCell ⟨w.heap.size + 1, 1, none⟩ (.func (.func 82) #[] #[])) = Z at *
      obtain ⟨h1, h2, h3⟩ := HH2
      have z0 : Z.cell? ⟨w.heap.size + 1, 0, none⟩ = some (.map (some (w.heap.size + 1 + 1))) := h1.cell 0
      have z1 : Z.cell? ⟨w.heap.size + 1, 1, none⟩ = some (.func (.func 82) #[] #[]) := h1.cell 1
      refine bodyPost_ret (v := .agg #[.map (some (w.heap.size + 1 + 1)), .func (.func 82) #[] #[]]) (by simp [results, Try.results46, go_sem, z0, z1]) rfl ⟨w.heap.size + 1 + 1, rfl, by omega, h2, h3⟩
theorem find_row (w : World) (x y z v : List Value) (t1 t2 t3 t4 : TypeId) : ∃ W, W = (((w.alloc (.cells x.toArray t1)).alloc (.cells y.toArray t2)).alloc (.cells z.toArray t3)).alloc (.cells v.toArray t4) ∧ Row W (w.heap.size + 1 + 1) t3 z ∧ Below w.heap.size w W := by
  obtain ⟨W, rfl, -, -, q2, hB, hS, -⟩ := rows3 w x y z t1 t2 t3
  exact ⟨_, rfl, q2.alloc _, hB.alloc hB.size _⟩
set_option maxRecDepth 100000 in
set_option maxHeartbeats 1000000 in
theorem find_any (B : Nat) (rs : List Rt) (a l : Int) (w : World) (h : MapIs w B rs) :
    Calls Try.prog 54 #[tabV B, netV a l] w fun e w' => e = .returned (.tuple #[rtV ((lookN rs a l).getD zeroR), .bool (lookN rs a l).isSome]) ∧ Below w.heap.size w w' := by
  have hlt := h.lt
  obtain ⟨W, hW, q0, q1, q2, hB, hS, -⟩ := rows3 w [.map (some B), .func (.func 82) #[] #[]] [.int .i64 a, .int .i64 l] [.int .i64 0, .int .i64 0, .int .i64 0, .int .i64 0, .int .i64 0, .int .i64 0, .int .i64 0, .int .i64 0, .bool false] 82 35 46
  have hrun := map_look (h.below hB hlt) a l
  rw [hW] at hrun
  clear h hW q0 q1 q2 hB hS
  generalize (lookN rs a l).isSome = S at *
  generalize (lookN rs a l).getD zeroR = V at *
  obtain ⟨A, L, M, N, I, T, U, E, C⟩ := V
  unfold tabV netV rtV rtA
  unfold netV rtV rtA at hrun
  simp only at hrun ⊢
  obtain ⟨Z, hZ, q3, hbZ⟩ := find_row w [.map (some B), .func (.func 82) #[] #[]] [.int .i64 a, .int .i64 l] [.int .i64 A, .int .i64 L, .int .i64 M, .int .i64 N, .int .i64 I, .int .i64 T, .int .i64 U, .int .i64 E, .bool C] [.int .i64 A, .int .i64 L, .int .i64 M, .int .i64 N, .int .i64 I, .int .i64 T, .int .i64 U, .int .i64 E, .bool C] 82 35 46 46
  have HZ : Hid _ := And.intro hZ (And.intro q3 hbZ)
  clear hZ q3 hbZ
  go_enter Try.func54, Try.ntmps54
  go_wp2_with fail
  obtain ⟨hZ, q3, hbZ⟩ := HZ.out
  rw [show (((w.alloc (.cells #[.map (some B), .func (.func 82) #[] #[]] 82)).alloc (.cells #[.int .i64 a, .int .i64 l] 35)).alloc (.cells #[.int .i64 A, .int .i64 L, .int .i64 M, .int .i64 N, .int .i64 I, .int .i64 T, .int .i64 U, .int .i64 E, .bool C] 46)).alloc (.cells #[.int .i64 A, .int .i64 L, .int .i64 M, .int .i64 N, .int .i64 I, .int .i64 T, .int .i64 U, .int .i64 E, .bool C] 46) = Z from hZ.symm]
  have e0 : Z.cell? ⟨w.heap.size + 1 + 1, 0, none⟩ = some (.int .i64 A) := q3.cell 0
  have e1 : Z.cell? ⟨w.heap.size + 1 + 1, 1, none⟩ = some (.int .i64 L) := q3.cell 1
  have e2 : Z.cell? ⟨w.heap.size + 1 + 1, 2, none⟩ = some (.int .i64 M) := q3.cell 2
  have e3 : Z.cell? ⟨w.heap.size + 1 + 1, 3, none⟩ = some (.int .i64 N) := q3.cell 3
  have e4 : Z.cell? ⟨w.heap.size + 1 + 1, 4, none⟩ = some (.int .i64 I) := q3.cell 4
  have e5 : Z.cell? ⟨w.heap.size + 1 + 1, 5, none⟩ = some (.int .i64 T) := q3.cell 5
  have e6 : Z.cell? ⟨w.heap.size + 1 + 1, 6, none⟩ = some (.int .i64 U) := q3.cell 6
  have e7 : Z.cell? ⟨w.heap.size + 1 + 1, 7, none⟩ = some (.int .i64 E) := q3.cell 7
  have e8 : Z.cell? ⟨w.heap.size + 1 + 1, 8, none⟩ = some (.bool C) := q3.cell 8
  refine bodyPost_ret (v := .tuple #[.agg #[.int .i64 A, .int .i64 L, .int .i64 M, .int .i64 N, .int .i64 I, .int .i64 T, .int .i64 U, .int .i64 E, .bool C], .bool S]) (by simp [results, Try.results54, go_sem, e0, e1, e2, e3, e4, e5, e6, e7, e8]) rfl ⟨rfl, hbZ⟩
end Go.Proofs.Ytaledidomgelcaa
/- Right tables, in plain lists. -/
namespace Go.Proofs.Ytaledidomgelcaa
open Go.RowKit Go.Sort

def ltP (r s : Rt) : Prop := r.a < s.a ∨ (r.a = s.a ∧ r.l < s.l)
theorem ltR_iff (r s : Rt) : ltR r s = true ↔ ltP r s := by simp [ltR, ltP]
theorem ltP_trans {r s t : Rt} (h : ltP r s) (k : ltP s t) : ltP r t := by unfold ltP at *; omega
theorem ltP_ne {r s : Rt} (h : ltP r s) : isN s.a s.l r = false := by
  cases hn : isN s.a s.l r with
  | false => rfl
  | true =>
    obtain ⟨h1, h2⟩ := isN_eq hn
    unfold ltP at h
    omega
theorem rib_rising {rs : List Rt} (h : ribB rs = true) : rs.Pairwise ltP := by
  obtain ⟨_, hk⟩ := ribB_spec h
  rw [List.pairwise_iff_getElem]
  have step : ∀ j (hj : j + 1 < rs.length), ltP (rs[j]'(by omega)) rs[j + 1] := fun j hj => by
    have := hk (j + 1) hj
    unfold okAt at this
    simp only [Bool.and_eq_true, Bool.or_eq_true, decide_eq_true_eq, Nat.add_sub_cancel] at this
    rw [get_bang hj, get_bang (by omega)] at this
    rcases this.2 with h | h
    · omega
    · exact (ltR_iff _ _).1 h
  intro i j hi hj hij
  induction j with
  | zero => omega
  | succ j ih =>
    rcases Nat.lt_or_ge i j with h' | h'
    · exact ltP_trans (ih (by omega) h') (step j hj)
    · obtain rfl : i = j := by omega
      exact step i hj
theorem laidN_rising {rs : List Rt} (h : rs.Pairwise ltP) : laidN rs = rs := by
  have : ∀ k, k ≤ rs.length → laidN (rs.take k) = rs.take k := by
    intro k
    induction k with
    | zero => intro _; rfl
    | succ k ih =>
      intro hk
      rw [laidN_next rs k (by omega), ih (by omega)]
      have hn : idxN (rs.take k) rs[k].a rs[k].l = none := by
        unfold idxN
        rw [List.findIdx?_eq_none_iff]
        intro x hx
        obtain ⟨j, hj, rfl⟩ := List.mem_iff_getElem.1 hx
        simp only [List.length_take] at hj
        rw [List.getElem_take]
        exact ltP_ne ((List.pairwise_iff_getElem.1 h) j k (by omega) (by omega) (by omega))
      unfold putN
      rw [hn, List.take_succ_eq_append_getElem (by omega)]
  have := this rs.length (Nat.le_refl _)
  rwa [List.take_length] at this
theorem laidN_right {rs : List Rt} (h : ribB rs = true) : laidN rs = rs := laidN_rising (rib_rising h)
/-- What RibFind answers. -/
def findR (rs : List Rt) (a l : Int) : Rt := if ribB rs = true then (lookN rs a l).getD zeroR else zeroR
theorem findR_bad {rs : List Rt} {a l : Int} (h : ribB rs = false) : findR rs a l = zeroR := if_neg (by rw [h]; simp)
theorem findR_right {rs : List Rt} {a l : Int} (h : ribB rs = true) : findR rs a l = (lookN rs a l).getD zeroR := if_pos h
/-- A box of one cell, one of two and nine cells, one behind the other. -/
theorem boxes3 (w : World) (x : List Value) (y : List Value) (z : List Value) (t1 t2 t3 : TypeId) {w1 : World} (h : Below (((w.alloc (.cells x.toArray t1)).alloc (.cells y.toArray t2)).alloc (.cells z.toArray t3)).heap.size (((w.alloc (.cells x.toArray t1)).alloc (.cells y.toArray t2)).alloc (.cells z.toArray t3)) w1) : Row w1 w.heap.size t1 x ∧ Row w1 (w.heap.size + 1) t2 y ∧ Row w1 (w.heap.size + 1 + 1) t3 z ∧ Below w.heap.size w w1 ∧ w.heap.size + 1 + 1 < w1.heap.size := by
  obtain ⟨W, rfl, q0, q1, q2, hB, hS, -⟩ := rows3 w x y z t1 t2 t3
  refine ⟨q0.below h q0.lt, q1.below h q1.lt, q2.below h q2.lt, hB.trans (h.mono hB.size), ?_⟩
  have := h.size; omega
theorem stab_tab (rs : List Rt) : ∀ (x : Value) (w1 w2 : World), (∃ B, x = tabV B ∧ MapIs w1 B rs) → Below w1.heap.size w1 w2 → ∃ B, x = tabV B ∧ MapIs w2 B rs := by
  rintro x w1 w2 ⟨B, e, h⟩ hb
  exact ⟨B, e, h.below hb h.lt⟩
theorem k3_below {w1 w2 : World} {p q : Nat} {x y z : Value} (h : w1.cell? ⟨p, 0, none⟩ = some x ∧ w1.cell? ⟨q, 0, none⟩ = some y ∧ w1.cell? ⟨q, 1, none⟩ = some z) (hb : Below w1.heap.size w1 w2) : w2.cell? ⟨p, 0, none⟩ = some x ∧ w2.cell? ⟨q, 0, none⟩ = some y ∧ w2.cell? ⟨q, 1, none⟩ = some z := by
  have hk : ∀ g k v, w1.cell? ⟨g, k, none⟩ = some v → w2.cell? ⟨g, k, none⟩ = some v := fun g k v hv => by rw [hb.cell (World.block_lt_of_cell? w1 _ hv)]; exact hv
  exact ⟨hk _ _ _ h.1, hk _ _ _ h.2.1, hk _ _ _ h.2.2⟩
theorem k3_b {w1 w2 : World} {p q : Nat} {x y z : Value} (hb : Below w1.heap.size w1 w2) (h : w1.cell? ⟨p, 0, none⟩ = some x ∧ w1.cell? ⟨q, 0, none⟩ = some y ∧ w1.cell? ⟨q, 1, none⟩ = some z) : w2.cell? ⟨p, 0, none⟩ = some x ∧ w2.cell? ⟨q, 0, none⟩ = some y ∧ w2.cell? ⟨q, 1, none⟩ = some z := k3_below h hb
theorem newRow9 {w w1 : World} (hb : Below (w.alloc (.cells #[.int .i64 0, .int .i64 0, .int .i64 0, .int .i64 0, .int .i64 0, .int .i64 0, .int .i64 0, .int .i64 0, .bool false] 46)).heap.size (w.alloc (.cells #[.int .i64 0, .int .i64 0, .int .i64 0, .int .i64 0, .int .i64 0, .int .i64 0, .int .i64 0, .int .i64 0, .bool false] 46)) w1) : Row w1 w.heap.size 46 [.int .i64 0, .int .i64 0, .int .i64 0, .int .i64 0, .int .i64 0, .int .i64 0, .int .i64 0, .int .i64 0, .bool false] := (Row.new w 46 [.int .i64 0, .int .i64 0, .int .i64 0, .int .i64 0, .int .i64 0, .int .i64 0, .int .i64 0, .int .i64 0, .bool false]).below hb (Row.new w 46 [.int .i64 0, .int .i64 0, .int .i64 0, .int .i64 0, .int .i64 0, .int .i64 0, .int .i64 0, .int .i64 0, .bool false]).lt
theorem newRow9d {w w1 : World} {n : Nat} (hb : Below ((w.alloc (.cells #[.int .i64 0, .int .i64 0, .int .i64 0, .int .i64 0, .int .i64 0, .int .i64 0, .int .i64 0, .int .i64 0, .bool false] 46)).drewN n).heap.size ((w.alloc (.cells #[.int .i64 0, .int .i64 0, .int .i64 0, .int .i64 0, .int .i64 0, .int .i64 0, .int .i64 0, .int .i64 0, .bool false] 46)).drewN n) w1) : Row w1 w.heap.size 46 [.int .i64 0, .int .i64 0, .int .i64 0, .int .i64 0, .int .i64 0, .int .i64 0, .int .i64 0, .int .i64 0, .bool false] := Row.below (w := (w.alloc (.cells #[.int .i64 0, .int .i64 0, .int .i64 0, .int .i64 0, .int .i64 0, .int .i64 0, .int .i64 0, .int .i64 0, .bool false] 46)).drewN n) (Row.new w 46 [.int .i64 0, .int .i64 0, .int .i64 0, .int .i64 0, .int .i64 0, .int .i64 0, .int .i64 0, .int .i64 0, .bool false]) hb (Row.new w 46 [.int .i64 0, .int .i64 0, .int .i64 0, .int .i64 0, .int .i64 0, .int .i64 0, .int .i64 0, .int .i64 0, .bool false]).lt
theorem cells9 {w : World} {g : Nat} {t : TypeId} (h : Row w g t [.int .i64 0, .int .i64 0, .int .i64 0, .int .i64 0, .int .i64 0, .int .i64 0, .int .i64 0, .int .i64 0, .bool false]) : w.cell? ⟨g, 0, none⟩ = some (.int .i64 0) ∧ w.cell? ⟨g, 1, none⟩ = some (.int .i64 0) ∧ w.cell? ⟨g, 2, none⟩ = some (.int .i64 0) ∧ w.cell? ⟨g, 3, none⟩ = some (.int .i64 0) ∧ w.cell? ⟨g, 4, none⟩ = some (.int .i64 0) ∧ w.cell? ⟨g, 5, none⟩ = some (.int .i64 0) ∧ w.cell? ⟨g, 6, none⟩ = some (.int .i64 0) ∧ w.cell? ⟨g, 7, none⟩ = some (.int .i64 0) ∧ w.cell? ⟨g, 8, none⟩ = some (.bool false) ∧ w.frozen? ⟨g, 0, none⟩ = false ∧ w.frozen? ⟨g, 1, none⟩ = false ∧ w.frozen? ⟨g, 2, none⟩ = false ∧ w.frozen? ⟨g, 3, none⟩ = false ∧ w.frozen? ⟨g, 4, none⟩ = false ∧ w.frozen? ⟨g, 5, none⟩ = false ∧ w.frozen? ⟨g, 6, none⟩ = false ∧ w.frozen? ⟨g, 7, none⟩ = false ∧ w.frozen? ⟨g, 8, none⟩ = false := ⟨h.cell 0, h.cell 1, h.cell 2, h.cell 3, h.cell 4, h.cell 5, h.cell 6, h.cell 7, h.cell 8, h.frozen 0, h.frozen 1, h.frozen 2, h.frozen 3, h.frozen 4, h.frozen 5, h.frozen 6, h.frozen 7, h.frozen 8⟩
theorem stab_new (B : Nat) (t : TypeId) (l : List Value) : ∀ (x : Value) (w1 w2 : World), (∃ g, x = .pointer (some ⟨g, 0, none⟩) ∧ B ≤ g ∧ Row w1 g t l) → Below w1.heap.size w1 w2 → ∃ g, x = .pointer (some ⟨g, 0, none⟩) ∧ B ≤ g ∧ Row w2 g t l := by
  rintro x w1 w2 ⟨g, e, hg, h⟩ hb
  exact ⟨g, e, hg, h.below hb h.lt⟩
end Go.Proofs.Ytaledidomgelcaa
/- A route put in its place. -/
namespace Go.Proofs.Ytaledidomgelcaa
open Go.RowKit Go.Sort

def insR : List Rt → Rt → List Rt
  | [], r => [r]
  | s :: l, r => if ltR s r = true then s :: insR l r else if isN r.a r.l s = true then r :: l else r :: s :: l
theorem putN_cons (s : Rt) (l : List Rt) (r : Rt) : putN (s :: l) r = if isN r.a r.l s = true then r :: l else s :: putN l r := by
  unfold putN idxN
  rw [List.findIdx?_cons]
  by_cases h : isN r.a r.l s = true
  · simp [h]
  · rw [if_neg h]
    simp only [h]
    cases List.findIdx? (isN r.a r.l) l <;> simp
theorem putN_new : ∀ (l : List Rt) (r : Rt), (∀ s ∈ l, isN r.a r.l s = false) → putN l r = l ++ [r]
  | [], r, _ => rfl
  | s :: l, r, h => by
    rw [putN_cons, if_neg (by rw [h s (by simp)]; simp), putN_new l r (fun t ht => h t (by simp [ht]))]
    rfl
theorem gt_of {s r : Rt} (h : ¬ ltR s r = true) (h2 : ¬ isN r.a r.l s = true) : ltP r s := by
  rw [ltR_iff] at h
  simp [isN] at h2
  unfold ltP at *
  omega
theorem gt_ne {s r : Rt} (h : ltP r s) : isN r.a r.l s = false := by
  simp [isN]
  unfold ltP at h
  omega
theorem insR_perm : ∀ (l : List Rt) (r : Rt), l.Pairwise ltP → (putN l r).Perm (insR l r)
  | [], r, _ => List.Perm.refl _
  | s :: l, r, h => by
    rw [List.pairwise_cons] at h
    rw [putN_cons]
    unfold insR
    by_cases h1 : ltR s r = true
    · rw [if_pos h1, if_neg (by rw [ltP_ne ((ltR_iff s r).1 h1)]; simp)]
      exact (insR_perm l r h.2).cons s
    · rw [if_neg h1]
      by_cases h2 : isN r.a r.l s = true
      · rw [if_pos h2, if_pos h2]
      · rw [if_neg h2, if_neg h2]
        have hrs := gt_of h1 h2
        rw [putN_new l r (fun t ht => gt_ne (ltP_trans hrs (h.1 t ht)))]
        exact List.perm_append_comm (l₁ := s :: l) (l₂ := [r])
theorem insR_mem : ∀ (l : List Rt) (r x : Rt), x ∈ insR l r → x = r ∨ x ∈ l
  | [], r, x, h => by simpa [insR] using h
  | s :: l, r, x, h => by
    unfold insR at h
    split at h
    · rcases List.mem_cons.1 h with h | h
      · exact .inr (by simp [h])
      · rcases insR_mem l r x h with h | h
        · exact .inl h
        · exact .inr (by simp [h])
    · split at h
      · rcases List.mem_cons.1 h with h | h
        · exact .inl h
        · exact .inr (by simp [h])
      · rcases List.mem_cons.1 h with h | h
        · exact .inl h
        · exact .inr h
theorem insR_rising : ∀ (l : List Rt) (r : Rt), l.Pairwise ltP → (insR l r).Pairwise ltP
  | [], r, _ => by simp [insR]
  | s :: l, r, h => by
    rw [List.pairwise_cons] at h
    unfold insR
    split
    · rename_i h1
      refine List.pairwise_cons.2 ⟨fun x hx => ?_, insR_rising l r h.2⟩
      rcases insR_mem l r x hx with rfl | hx
      · exact (ltR_iff s x).1 h1
      · exact h.1 x hx
    · rename_i h1
      split
      · rename_i h2
        refine List.pairwise_cons.2 ⟨fun x hx => ?_, h.2⟩
        have := h.1 x hx
        simp [isN] at h2
        unfold ltP at *
        omega
      · rename_i h2
        have hrs := gt_of h1 h2
        refine List.pairwise_cons.2 ⟨fun x hx => ?_, List.pairwise_cons.2 h⟩
        rcases List.mem_cons.1 hx with rfl | hx
        · exact hrs
        · exact ltP_trans hrs (h.1 x hx)
theorem ribB_of {rs : List Rt} (h8 : rs.length ≤ 8) (hr : ∀ r ∈ rs, routeB r = true) (hp : rs.Pairwise ltP) : ribB rs = true := by
  unfold ribB
  simp only [Bool.and_eq_true, decide_eq_true_eq, List.all_eq_true, List.mem_range]
  refine ⟨h8, fun k hk => ?_⟩
  unfold okAt
  rw [get_bang hk, hr _ (List.getElem_mem hk)]
  simp only [Bool.true_and, Bool.or_eq_true, decide_eq_true_eq]
  by_cases h0 : k = 0
  · exact .inl h0
  · refine .inr ?_
    rw [get_bang (by omega), ltR_iff]
    exact List.pairwise_iff_getElem.1 hp (k - 1) k (by omega) hk (by omega)
theorem rib_routes {rs : List Rt} (h : ribB rs = true) : ∀ r ∈ rs, routeB r = true := by
  intro r hr
  obtain ⟨k, hk, rfl⟩ := List.mem_iff_getElem.1 hr
  have := okAt_route ((ribB_spec h).2 k hk)
  rwa [get_bang hk] at this
theorem insR_right {rs : List Rt} {r : Rt} (h : ribB rs = true) (hr : routeB r = true) (h8 : (insR rs r).length ≤ 8) : ribB (insR rs r) = true :=
  ribB_of h8 (fun x hx => by rcases insR_mem rs r x hx with rfl | hx; exact hr; exact rib_routes h x hx) (insR_rising rs r (rib_rising h))
end Go.Proofs.Ytaledidomgelcaa
/- A table whose routes are turned one by one: as a list. -/
namespace Go.Proofs.Ytaledidomgelcaa
open Go.RowKit Go.Sort

/-- A turn leaves a route's net as it is. -/
def SameNet (f : Rt → Option Rt) : Prop := ∀ r s, f r = some s → s.a = r.a ∧ s.l = r.l
theorem isN_self (r : Rt) : isN r.a r.l r = true := by simp [isN]
theorem idxN_at (A C : List Rt) (r : Rt) (hA : ∀ s ∈ A, isN r.a r.l s = false) : idxN (A ++ r :: C) r.a r.l = some A.length := by
  unfold idxN
  rw [List.findIdx?_eq_some_iff_getElem]
  refine ⟨by simp, by simp [isN], fun j hj => ?_⟩
  have := hA A[j] (List.getElem_mem hj)
  rw [List.getElem_append_left hj, this]
  simp
theorem dropN_at (A C : List Rt) (r : Rt) (hA : ∀ s ∈ A, isN r.a r.l s = false) : dropN (A ++ r :: C) r.a r.l = A ++ C := by
  unfold dropN
  rw [idxN_at A C r hA]
  simp [List.eraseIdx_append_of_length_le]
theorem putN_at (A C : List Rt) (r s : Rt) (hA : ∀ s ∈ A, isN r.a r.l s = false) (ha : s.a = r.a) (hl : s.l = r.l) : putN (A ++ r :: C) s = A ++ s :: C := by
  unfold putN
  rw [ha, hl, idxN_at A C r hA]
  simp
theorem lookN_mid (A C : List Rt) (r : Rt) (hA : ∀ s ∈ A, isN r.a r.l s = false) : lookN (A ++ r :: C) r.a r.l = some r := by
  unfold lookN
  rw [List.find?_append, List.find?_eq_none.2 (fun s hs => by rw [hA s hs]; simp)]
  simp [isN]
theorem turned_other {f : Rt → Option Rt} (hf : SameNet f) {rs : List Rt} (h : rs.Pairwise ltP) (k : Nat) (hk : k < rs.length) : ∀ s ∈ (rs.take k).filterMap f, isN rs[k].a rs[k].l s = false := by
  intro s hs
  obtain ⟨r, hr, hfr⟩ := List.mem_filterMap.1 hs
  obtain ⟨j, hj, rfl⟩ := List.mem_iff_getElem.1 hr
  rw [List.length_take] at hj
  have hlt := (List.pairwise_iff_getElem.1 h) j k (by omega) hk (by omega)
  rw [List.getElem_take] at hfr
  obtain ⟨e1, e2⟩ := hf _ _ hfr
  have := ltP_ne hlt
  simpa [isN, e1, e2] using this
/-- How far the turns have come behind k rounds. -/
def halfR (f : Rt → Option Rt) (rs : List Rt) (k : Nat) : List Rt := (rs.take k).filterMap f ++ rs.drop k
theorem halfR_0 (f : Rt → Option Rt) (rs : List Rt) : halfR f rs 0 = rs := by simp [halfR]
theorem halfR_end (f : Rt → Option Rt) (rs : List Rt) : halfR f rs rs.length = rs.filterMap f := by simp [halfR]
theorem halfR_at (f : Rt → Option Rt) {rs : List Rt} {k : Nat} (hk : k < rs.length) : halfR f rs k = (rs.take k).filterMap f ++ rs[k] :: rs.drop (k + 1) := by
  unfold halfR
  rw [List.drop_eq_getElem_cons hk]
theorem take_turn (f : Rt → Option Rt) {rs : List Rt} {k : Nat} (hk : k < rs.length) : (rs.take (k + 1)).filterMap f = (rs.take k).filterMap f ++ (f rs[k]).toList := by
  rw [List.take_succ_eq_append_getElem hk, List.filterMap_append]
  cases hf : f rs[k] <;> simp [hf]
theorem halfR_look {f : Rt → Option Rt} (hf : SameNet f) {rs : List Rt} (h : rs.Pairwise ltP) {k : Nat} (hk : k < rs.length) : lookN (halfR f rs k) rs[k].a rs[k].l = some rs[k] := by
  rw [halfR_at f hk]
  exact lookN_mid _ _ _ (turned_other hf h k hk)
theorem halfR_drop {f : Rt → Option Rt} (hf : SameNet f) {rs : List Rt} (h : rs.Pairwise ltP) {k : Nat} (hk : k < rs.length) (hn : f rs[k] = none) : dropN (halfR f rs k) rs[k].a rs[k].l = halfR f rs (k + 1) := by
  rw [halfR_at f hk, dropN_at _ _ _ (turned_other hf h k hk)]
  unfold halfR
  rw [take_turn f hk, hn]
  simp
theorem halfR_put {f : Rt → Option Rt} (hf : SameNet f) {rs : List Rt} (h : rs.Pairwise ltP) {k : Nat} (hk : k < rs.length) {s : Rt} (hs : f rs[k] = some s) : putN (halfR f rs k) s = halfR f rs (k + 1) := by
  obtain ⟨e1, e2⟩ := hf _ _ hs
  rw [halfR_at f hk, putN_at _ _ _ _ (turned_other hf h k hk) e1 e2]
  unfold halfR
  rw [take_turn f hk, hs]
  simp
theorem halfR_same {f : Rt → Option Rt} {rs : List Rt} {k : Nat} (hk : k < rs.length) (hs : f rs[k] = some rs[k]) : halfR f rs k = halfR f rs (k + 1) := by
  rw [halfR_at f hk]
  unfold halfR
  rw [take_turn f hk, hs]
  simp
theorem turned_rising {f : Rt → Option Rt} (hf : SameNet f) : ∀ {rs : List Rt}, rs.Pairwise ltP → (rs.filterMap f).Pairwise ltP := by
  intro rs h
  rw [List.pairwise_filterMap]
  refine h.imp ?_
  intro r s hrs r' hr' s' hs'
  obtain ⟨a1, a2⟩ := hf _ _ hr'
  obtain ⟨b1, b2⟩ := hf _ _ hs'
  unfold ltP at *
  omega
theorem turned_right {f : Rt → Option Rt} (hf : SameNet f) {rs : List Rt} (h : ribB rs = true) (hr : ∀ r ∈ rs, ∀ s, f r = some s → routeB s = true) : ribB (rs.filterMap f) = true :=
  ribB_of (Nat.le_trans (List.length_filterMap_le f rs) (ribB_spec h).1) (fun s hs => by
    obtain ⟨r, hr', hfr⟩ := List.mem_filterMap.1 hs
    exact hr r hr' s hfr) (turned_rising hf (rib_rising h))
/-- A route that goes. -/
def deadR (r : Rt) (now : Int) : Rt := ⟨r.a, r.l, 16, r.n, r.i, r.t, 0, now + 4, true⟩
def reachR (r : Rt) (now : Int) : Rt := if r.m = 16 then r else deadR r now
def dueB (x now : Int) : Bool := decide (0 < x) && decide (x ≤ now)
def inNow (now : Int) : Bool := decide (0 ≤ now) && decide (now ≤ 999900)
/-- What a step makes of a route. -/
def tickF (now : Int) (r : Rt) : Option Rt := if dueB r.b now = true then none else if dueB r.u now = true then some (reachR r now) else some r
def loseF (i now : Int) (r : Rt) : Option Rt := if r.i = i then (if r.n = 0 then none else some (reachR r now)) else some r
def hushF (r : Rt) : Option Rt := some ⟨r.a, r.l, r.m, r.n, r.i, r.t, r.u, r.b, false⟩
theorem reachR_net (r : Rt) (now : Int) : (reachR r now).a = r.a ∧ (reachR r now).l = r.l := by
  unfold reachR
  split
  · exact ⟨rfl, rfl⟩
  · exact ⟨rfl, rfl⟩
theorem tickF_net (now : Int) : SameNet (tickF now) := by
  intro r s h
  unfold tickF at h
  split at h
  · cases h
  · split at h <;> cases h
    · exact reachR_net r now
    · exact ⟨rfl, rfl⟩
theorem loseF_net (i now : Int) : SameNet (loseF i now) := by
  intro r s h
  unfold loseF at h
  split at h
  · split at h <;> cases h
    exact reachR_net r now
  · cases h
    exact ⟨rfl, rfl⟩
theorem hushF_net : SameNet hushF := by
  intro r s h
  unfold hushF at h
  cases h
  exact ⟨rfl, rfl⟩
end Go.Proofs.Ytaledidomgelcaa
/- RibTick in plain lists. (Written by gen_ticks.py.) -/
namespace Go.Proofs.Ytaledidomgelcaa
open Go.RowKit Go.Sort

def tickD (now : Int) (r : Rt) : Option Rt := if dueB r.b now = true then none else if dueB r.u now = true then some (deadR r now) else some r
theorem due_dead {r : Rt} {now : Int} (h : routeB r = true) (hu : dueB r.u now = true) : r.m < 16 ∧ ¬ r.n = 0 := by
  rw [routeB_spec] at h
  simp only [dueB, Bool.and_eq_true, decide_eq_true_eq, inMet] at h hu
  by_cases hn : r.n = 0
  · rw [if_pos hn] at h
    simp only [Bool.and_eq_true, decide_eq_true_eq] at h
    omega
  · rw [if_neg hn] at h
    by_cases hm : r.m < 16
    · exact ⟨hm, hn⟩
    · rw [if_neg hm] at h
      simp only [Bool.and_eq_true, decide_eq_true_eq] at h
      omega
theorem dead_right {r : Rt} {now : Int} (h : routeB r = true) (hn : ¬ r.n = 0) (hnow : inNow now = true) : routeB (deadR r now) = true := by
  rw [routeB_spec] at h ⊢
  simp only [deadR, Bool.and_eq_true, decide_eq_true_eq, inMet, inTime, inNow] at h hnow ⊢
  rw [if_neg hn, if_neg (by omega)]
  obtain ⟨⟨h1, h2, h3, h4, h5, h6, h7⟩, -⟩ := h
  rw [h1, h3, h4, h5]
  simp
  exact ⟨decide_eq_true (by omega), decide_eq_true (by omega)⟩
theorem tick_same {r : Rt} {now : Int} (h : routeB r = true) : tickD now r = tickF now r := by
  unfold tickD tickF
  by_cases h1 : dueB r.b now = true
  · rw [if_pos h1, if_pos h1]
  · rw [if_neg h1, if_neg h1]
    by_cases h2 : dueB r.u now = true
    · rw [if_pos h2, if_pos h2]
      unfold reachR
      rw [if_neg (by have := (due_dead h h2).1; omega)]
    · rw [if_neg h2, if_neg h2]
theorem filterMap_same {f g : Rt → Option Rt} : ∀ {l : List Rt}, (∀ r ∈ l, f r = g r) → l.filterMap f = l.filterMap g
  | [], _ => rfl
  | x :: l, h => by
    rw [List.filterMap_cons, List.filterMap_cons, h x (by simp), filterMap_same (fun r hr => h r (by simp [hr]))]
theorem tick_lists {rs : List Rt} {now : Int} (h : ribB rs = true) : rs.filterMap (tickD now) = rs.filterMap (tickF now) :=
  filterMap_same fun r hr => tick_same (rib_routes h r hr)
theorem tick_ribs {rs : List Rt} {now : Int} (h : ribB rs = true) (hnow : inNow now = true) : ribB (rs.filterMap (tickF now)) = true := by
  refine turned_right (tickF_net now) h fun r hr s hs => ?_
  have hrr := rib_routes h r hr
  rw [← tick_same hrr] at hs
  unfold tickD at hs
  split at hs
  · cases hs
  · split at hs
    · rename_i hu
      cases hs
      exact dead_right hrr (due_dead hrr hu).2 hnow
    · cases hs
      exact hrr
/-- What RibTick answers: its code and its routes. -/
def tickO (rs : List Rt) (now : Int) : Int × List Rt := if (ribB rs && inNow now) = true then (0, rs.filterMap (tickF now)) else (1, [])
theorem tickO_len (rs : List Rt) (now : Int) : (tickO rs now).2.length ≤ 8 := by
  unfold tickO
  split
  · rename_i h
    simp only [Bool.and_eq_true] at h
    exact Nat.le_trans (List.length_filterMap_le _ _) (ribB_spec h.1).1
  · simp
end Go.Proofs.Ytaledidomgelcaa
/- RibLearn in plain lists. -/
namespace Go.Proofs.Ytaledidomgelcaa
open Go.RowKit Go.Sort

def freshR (r : Rt) (now : Int) : Rt := ⟨r.a, r.l, r.m, r.n, r.i, r.t, now + 6, 0, true⟩
def markB (old r : Rt) : Bool := old.c || (old.m != r.m || old.t != r.t)
def againR (old r : Rt) (now : Int) : Rt := if r.m = 16 then reachR old now else ⟨r.a, r.l, r.m, r.n, r.i, r.t, now + 6, 0, markB old r⟩
/-- What stands in the place of old once r is told. -/
def heardR (old r : Rt) (now : Int) : Rt := if old.n = 0 then old else if old.n = r.n ∧ old.i = r.i then againR old r now else if r.m < old.m then freshR r now else old
def toldB (r : Rt) (now : Int) : Bool := saidB r && (!decide (r.n = 0) && inNow now)
/-- What RibLearn answers: its code and its routes. -/
def learnO (rs : List Rt) (r : Rt) (now : Int) : Int × List Rt :=
  if (ribB rs && toldB r now) = true then
    (match lookN rs r.a r.l with
     | some old => (0, insR rs (heardR old r now))
     | none => if r.m = 16 then (0, rs) else if (insR rs (freshR r now)).length ≤ 8 then (0, insR rs (freshR r now)) else (9, []))
  else (1, [])
theorem look_mem {rs : List Rt} {a l : Int} {old : Rt} (h : lookN rs a l = some old) : old ∈ rs ∧ old.a = a ∧ old.l = l := by
  unfold lookN at h
  have h1 := List.find?_some h
  obtain ⟨e1, e2⟩ := isN_eq h1
  exact ⟨List.mem_of_find?_eq_some h, e1, e2⟩
theorem ribB_len {rs : List Rt} (h : ribB rs = true) : rs.length ≤ 8 := (ribB_spec h).1
theorem insR_self : ∀ {rs : List Rt} {old : Rt}, rs.Pairwise ltP → old ∈ rs → insR rs old = rs
  | [], _, _, h => by simp at h
  | s :: l, old, hp, h => by
    rw [List.pairwise_cons] at hp
    unfold insR
    rcases List.mem_cons.1 h with rfl | h
    · rw [if_neg (fun h => by rw [ltR_iff] at h; unfold ltP at h; omega), if_pos (by simp [isN])]
    · rw [if_pos ((ltR_iff s old).2 (hp.1 old h)), insR_self hp.2 h]
theorem heard_net {old r : Rt} {now : Int} (ha : old.a = r.a) (hl : old.l = r.l) : (heardR old r now).a = r.a ∧ (heardR old r now).l = r.l := by
  unfold heardR
  split
  · exact ⟨ha, hl⟩
  · split
    · unfold againR
      split
      · obtain ⟨e1, e2⟩ := reachR_net old now
        exact ⟨e1.trans ha, e2.trans hl⟩
      · exact ⟨rfl, rfl⟩
    · split
      · exact ⟨rfl, rfl⟩
      · exact ⟨ha, hl⟩
theorem look_idx {rs : List Rt} {a l : Int} : (lookN rs a l).isSome = (idxN rs a l).isSome := (idx_look rs a l).symm
theorem insR_len_old {rs : List Rt} {r : Rt} (h : ribB rs = true) (hs : (lookN rs r.a r.l).isSome = true) : (insR rs r).length = rs.length := by
  rw [← (insR_perm rs r (rib_rising h)).length_eq]
  rw [look_idx] at hs
  unfold putN
  cases hi : idxN rs r.a r.l with
  | none => rw [hi] at hs; cases hs
  | some k => simp
theorem insR_len_new {rs : List Rt} {r : Rt} (h : ribB rs = true) (hs : lookN rs r.a r.l = none) : (insR rs r).length = rs.length + 1 := by
  rw [← (insR_perm rs r (rib_rising h)).length_eq]
  have hs' : (idxN rs r.a r.l).isSome = false := by rw [← look_idx, hs]; rfl
  unfold putN
  cases hi : idxN rs r.a r.l with
  | none => simp
  | some k => rw [hi] at hs'; cases hs'
theorem learnO_len (rs : List Rt) (r : Rt) (now : Int) : (learnO rs r now).2.length ≤ 8 := by
  unfold learnO
  split
  · rename_i h
    simp only [Bool.and_eq_true] at h
    split
    · rename_i old ho
      obtain ⟨_, e1, e2⟩ := look_mem ho
      obtain ⟨n1, n2⟩ := heard_net (now := now) e1 e2
      have : (lookN rs (heardR old r now).a (heardR old r now).l).isSome = true := by rw [n1, n2, ho]; rfl
      rw [insR_len_old h.1 this]
      exact ribB_len h.1
    · split
      · exact ribB_len h.1
      · split
        · assumption
        · simp
  · simp
theorem fresh_right {r : Rt} {now : Int} (hs : saidB r = true) (hn : ¬ r.n = 0) (hm : r.m < 16) (hnow : inNow now = true) (c : Bool) : routeB ⟨r.a, r.l, r.m, r.n, r.i, r.t, now + 6, 0, c⟩ = true := by
  unfold routeB
  have : saidB ⟨r.a, r.l, r.m, r.n, r.i, r.t, now + 6, 0, c⟩ = true := hs
  rw [this]
  simp only [inNow, Bool.and_eq_true, decide_eq_true_eq] at hnow
  simp only [timesB, inTime, if_neg hn, if_pos hm]
  simp [hn]
  omega
theorem said_met {r : Rt} (h : saidB r = true) : 1 ≤ r.m ∧ r.m ≤ 16 := by
  have e : saidB r = (entB (rtE r) && inIf r.i) := rfl
  rw [e] at h
  simp only [Bool.and_eq_true] at h
  have h1 := h.1
  unfold entB rtE at h1
  simp only [Bool.and_eq_true, inMet] at h1
  have := of_decide_eq_true h1.1.2
  omega
theorem route_met {r : Rt} (h : routeB r = true) : 1 ≤ r.m ∧ r.m ≤ 16 := by
  unfold routeB at h
  simp only [Bool.and_eq_true] at h
  exact said_met h.1.1
theorem heard_right {old r : Rt} {now : Int} (ho : routeB old = true) (hs : saidB r = true) (hn : ¬ r.n = 0) (hnow : inNow now = true) : routeB (heardR old r now) = true := by
  have m1 := said_met hs
  have m2 := route_met ho
  unfold heardR
  split
  · exact ho
  · rename_i h0
    split
    · unfold againR
      split
      · unfold reachR
        split
        · exact ho
        · exact dead_right ho h0 hnow
      · exact fresh_right hs hn (by omega) hnow _
    · split
      · exact fresh_right hs hn (by omega) hnow _
      · exact ho
end Go.Proofs.Ytaledidomgelcaa
/- Routes that are told just now, and routes that go: by the model. -/
namespace Go.Proofs.Ytaledidomgelcaa
open Go.RowKit Go.Sort

theorem two_newS (w : World) (a b : Obj) : Below w.heap.size w ((w.alloc a).alloc b) := ((ent_new0 w a).alloc (by simp) b)
set_option maxRecDepth 100000 in
theorem l06Dead_any (r : Rt) (now : Int) (w : World) (h0 : 0 ≤ now) (h1 : now ≤ 999900) : Calls Try.prog 90 #[rtV r, .int .i64 now] w fun e w' => e = .returned (rtV (deadR r now)) ∧ Below w.heap.size w w' := by
  obtain ⟨A, L, M, O, I, T, U, E, C⟩ := r
  unfold rtV rtA deadR
  simp only
  go_enter Try.func90, Try.ntmps90
  go_wp2_with fail
  exact bodyPost_ret (v := .agg #[.int .i64 A, .int .i64 L, .int .i64 16, .int .i64 O, .int .i64 I, .int .i64 T, .int .i64 0, .int .i64 (now + 4), .bool true]) (by simp [results, Try.results90, go_sem]) rfl ⟨rfl, two_newS _ _ _⟩
set_option maxRecDepth 100000 in
theorem l06Now_any (now : Int) (w : World) : Calls Try.prog 49 #[.int .i64 now] w fun e w' => e = .returned (.bool (inNow now)) ∧ w = w' := by
  have HI : Hid (∀ w, Calls Try.prog 38 #[.int .i64 now, .int .i64 0, .int .i64 999900] w fun e w' => e = .returned (.bool (inNow now)) ∧ w = w') := fun w => (l03Is_any now 0 999900 w).mono fun e w' h => by unfold inNow; rw [← Bool.decide_and]; exact h
  go_enter Try.func49, Try.ntmps49
  go_wp2_with fail
  refine (HI.out _).mono ?_
  rintro e w1 ⟨rfl, rfl⟩
  go_wp2
  go_ret
  exact ⟨rfl, rfl⟩
end Go.Proofs.Ytaledidomgelcaa
/- The laws' own nets, handed over. -/
namespace Go.Proofs.Ytaledidomgelcaa
open Go.RowKit Go.Sort

set_option maxRecDepth 100000 in
theorem toNet_any (a l : Int) (w : World) : Calls Try.prog 12 #[netV a l] w fun e w' => e = .returned (netV a l) ∧ Below w.heap.size w w' := by
  unfold netV
  go_enter Try.func12, Try.ntmps12
  go_wp2
  refine bodyPost_ret (v := .agg #[.int .i64 a, .int .i64 l]) (by simp [results, Try.results12, go_sem]) rfl ⟨rfl, ?_⟩
  exact (((Below.refl _ _).alloc (Nat.le_refl _) _).alloc (by simp) _).alloc (by simp; omega) _
theorem below_next {B : Nat} {w w1 w2 : World} (h : Below B w w1) (h2 : Below w1.heap.size w1 w2) (hB : B ≤ w1.heap.size) : Below B w w2 := h.trans (h2.mono hB)
theorem two_later {w1 w2 : World} {b : Nat} {x y : Value} (h0 : w1.cell? ⟨b, 0, none⟩ = some x) (h1 : w1.cell? ⟨b, 1, none⟩ = some y) (hb : Below w1.heap.size w1 w2) : w2.cell? ⟨b, 0, none⟩ = some x ∧ w2.cell? ⟨b, 1, none⟩ = some y :=
  ⟨by rw [hb.cell (p := ⟨b, 0, none⟩) (World.block_lt_of_cell? w1 _ h0)]; exact h0, by rw [hb.cell (p := ⟨b, 1, none⟩) (World.block_lt_of_cell? w1 _ h1)]; exact h1⟩
end Go.Proofs.Ytaledidomgelcaa
/- The laws' own routes, handed over. (Written by gen_rts.py.) -/
namespace Go.Proofs.Ytaledidomgelcaa
open Go.RowKit Go.Sort

/-- Nine stores one behind the other into one block. -/
def nine (w : World) (g o : Nat) (x0 x1 x2 x3 x4 x5 x6 x7 x8 : Value) : World := (((((((((w.setCell ⟨g, o, none⟩ x0).setCell ⟨g, o + 1, none⟩ x1).setCell ⟨g, o + 2, none⟩ x2).setCell ⟨g, o + 3, none⟩ x3).setCell ⟨g, o + 4, none⟩ x4).setCell ⟨g, o + 5, none⟩ x5).setCell ⟨g, o + 6, none⟩ x6).setCell ⟨g, o + 7, none⟩ x7).setCell ⟨g, o + 8, none⟩ x8)
theorem nine_below {B : Nat} {w0 w : World} (h : Below B w0 w) (g o : Nat) (hg : B ≤ g) (x0 x1 x2 x3 x4 x5 x6 x7 x8 : Value) : Below B w0 (nine w g o x0 x1 x2 x3 x4 x5 x6 x7 x8) :=
  ((((((((h.setCell (p := ⟨g, o, none⟩) hg x0).setCell (p := ⟨g, o + 1, none⟩) hg x1).setCell (p := ⟨g, o + 2, none⟩) hg x2).setCell (p := ⟨g, o + 3, none⟩) hg x3).setCell (p := ⟨g, o + 4, none⟩) hg x4).setCell (p := ⟨g, o + 5, none⟩) hg x5).setCell (p := ⟨g, o + 6, none⟩) hg x6).setCell (p := ⟨g, o + 7, none⟩) hg x7).setCell (p := ⟨g, o + 8, none⟩) hg x8
theorem nine_row {w : World} {g : Nat} {t : TypeId} {l : List Value} (h : Row w g t l) (o : Nat) (x0 x1 x2 x3 x4 x5 x6 x7 x8 : Value) : Row (nine w g o x0 x1 x2 x3 x4 x5 x6 x7 x8) g t ((((((((((l.set o x0).set (o + 1) x1).set (o + 2) x2).set (o + 3) x3).set (o + 4) x4).set (o + 5) x5).set (o + 6) x6).set (o + 7) x7).set (o + 8) x8)) :=
  (((((((((h.set o x0).set (o + 1) x1).set (o + 2) x2).set (o + 3) x3).set (o + 4) x4).set (o + 5) x5).set (o + 6) x6).set (o + 7) x7).set (o + 8) x8)
theorem nine_other {w : World} {b g : Nat} {t : TypeId} {l : List Value} (h : Row w b t l) (hne : b ≠ g) (o : Nat) (x0 x1 x2 x3 x4 x5 x6 x7 x8 : Value) : Row (nine w g o x0 x1 x2 x3 x4 x5 x6 x7 x8) b t l :=
  (((((((((h.other o x0 hne).other (o + 1) x1 hne).other (o + 2) x2 hne).other (o + 3) x3 hne).other (o + 4) x4 hne).other (o + 5) x5 hne).other (o + 6) x6 hne).other (o + 7) x7 hne).other (o + 8) x8 hne)
def nine0 (w : World) (g : Nat) (x0 x1 x2 x3 x4 x5 x6 x7 x8 : Value) : World := (((((((((w.setCell ⟨g, 0, none⟩ x0).setCell ⟨g, 1, none⟩ x1).setCell ⟨g, 2, none⟩ x2).setCell ⟨g, 3, none⟩ x3).setCell ⟨g, 4, none⟩ x4).setCell ⟨g, 5, none⟩ x5).setCell ⟨g, 6, none⟩ x6).setCell ⟨g, 7, none⟩ x7).setCell ⟨g, 8, none⟩ x8)
theorem nine0_below {B : Nat} {w0 w : World} (h : Below B w0 w) (g : Nat) (hg : B ≤ g) (x0 x1 x2 x3 x4 x5 x6 x7 x8 : Value) : Below B w0 (nine0 w g x0 x1 x2 x3 x4 x5 x6 x7 x8) :=
  ((((((((h.setCell (p := ⟨g, 0, none⟩) hg x0).setCell (p := ⟨g, 1, none⟩) hg x1).setCell (p := ⟨g, 2, none⟩) hg x2).setCell (p := ⟨g, 3, none⟩) hg x3).setCell (p := ⟨g, 4, none⟩) hg x4).setCell (p := ⟨g, 5, none⟩) hg x5).setCell (p := ⟨g, 6, none⟩) hg x6).setCell (p := ⟨g, 7, none⟩) hg x7).setCell (p := ⟨g, 8, none⟩) hg x8
theorem nine0_row {w : World} {g : Nat} {t : TypeId} {y0 y1 y2 y3 y4 y5 y6 y7 y8 : Value} (h : Row w g t [y0, y1, y2, y3, y4, y5, y6, y7, y8]) (x0 x1 x2 x3 x4 x5 x6 x7 x8 : Value) : Row (nine0 w g x0 x1 x2 x3 x4 x5 x6 x7 x8) g t [x0, x1, x2, x3, x4, x5, x6, x7, x8] := (((((((((h.set 0 x0).set 1 x1).set 2 x2).set 3 x3).set 4 x4).set 5 x5).set 6 x6).set 7 x7).set 8 x8)
theorem nine0_other {w : World} {g : Nat} {t : TypeId} {l : List Value} (h : Row w g t l) (k : Nat) (hk : g ≠ k) (x0 x1 x2 x3 x4 x5 x6 x7 x8 : Value) : Row (nine0 w k x0 x1 x2 x3 x4 x5 x6 x7 x8) g t l := (((((((((h.other 0 x0 hk).other 1 x1 hk).other 2 x2 hk).other 3 x3 hk).other 4 x4 hk).other 5 x5 hk).other 6 x6 hk).other 7 x7 hk).other 8 x8 hk)
set_option maxRecDepth 100000 in
set_option maxHeartbeats 1000000 in
theorem toRoute_any (r : Rt) (w : World) : Calls Try.prog 20 #[rtV r] w fun e w' => e = .returned (rtV r) ∧ Below w.heap.size w w' := by
  obtain ⟨a, l, m, n, i, t, u, b, c⟩ := r
  unfold rtV rtA
  have HT : Hid (∀ w, Calls Try.prog 12 #[.agg #[.int .i64 a, .int .i64 l]] w fun e w' => e = .returned (.agg #[.int .i64 a, .int .i64 l]) ∧ Below w.heap.size w w') := toNet_any a l
  go_enter Try.func20, Try.ntmps20
  go_wp2_with fail
  refine (HT.out _).mono ?_
  rintro e w1 ⟨rfl, hb1⟩
  have q0 := ((Row.new w 43 [.int .i64 a, .int .i64 l, .int .i64 m, .int .i64 n, .int .i64 i, .int .i64 t, .int .i64 u, .int .i64 b, .bool c]).alloc (.cells #[.int .i64 0, .int .i64 0, .int .i64 0, .int .i64 0, .int .i64 0, .int .i64 0, .int .i64 0, .int .i64 0, .bool false] 46)).alloc (.cells #[.int .i64 0, .int .i64 0, .int .i64 0, .int .i64 0, .int .i64 0, .int .i64 0, .int .i64 0, .int .i64 0, .bool false] 46)
  have q1 := (Row.new (w.alloc (.cells #[.int .i64 a, .int .i64 l, .int .i64 m, .int .i64 n, .int .i64 i, .int .i64 t, .int .i64 u, .int .i64 b, .bool c] 43)) 46 [.int .i64 0, .int .i64 0, .int .i64 0, .int .i64 0, .int .i64 0, .int .i64 0, .int .i64 0, .int .i64 0, .bool false]).alloc (.cells #[.int .i64 0, .int .i64 0, .int .i64 0, .int .i64 0, .int .i64 0, .int .i64 0, .int .i64 0, .int .i64 0, .bool false] 46)
  have q2 := Row.new ((w.alloc (.cells #[.int .i64 a, .int .i64 l, .int .i64 m, .int .i64 n, .int .i64 i, .int .i64 t, .int .i64 u, .int .i64 b, .bool c] 43)).alloc (.cells #[.int .i64 0, .int .i64 0, .int .i64 0, .int .i64 0, .int .i64 0, .int .i64 0, .int .i64 0, .int .i64 0, .bool false] 46)) 46 [.int .i64 0, .int .i64 0, .int .i64 0, .int .i64 0, .int .i64 0, .int .i64 0, .int .i64 0, .int .i64 0, .bool false]
  have hB : Below w.heap.size w w1 := (((ent_new0 w _).alloc (by simp) _).alloc (by simp; omega) _).trans (hb1.mono (by simp; omega))
  have p0 := q0.below hb1 q0.lt
  have p1 := q1.below hb1 q1.lt
  have p2 := q2.below hb1 q2.lt
  clear q0 q1 q2 hb1
  have h0 : (w.alloc (.cells #[.int .i64 a, .int .i64 l, .int .i64 m, .int .i64 n, .int .i64 i, .int .i64 t, .int .i64 u, .int .i64 b, .bool c] 43)).heap.size = w.heap.size + 1 := by simp
  have h1 : ((w.alloc (.cells #[.int .i64 a, .int .i64 l, .int .i64 m, .int .i64 n, .int .i64 i, .int .i64 t, .int .i64 u, .int .i64 b, .bool c] 43)).alloc (.cells #[.int .i64 0, .int .i64 0, .int .i64 0, .int .i64 0, .int .i64 0, .int .i64 0, .int .i64 0, .int .i64 0, .bool false] 46)).heap.size = w.heap.size + 1 + 1 := by simp
  rw [h0] at p1
  rw [h1] at p2
  clear h0 h1
  have a2 : w1.cell? ⟨w.heap.size, 2, none⟩ = some (.int .i64 m) := p0.cell 2
  have a3 : w1.cell? ⟨w.heap.size, 3, none⟩ = some (.int .i64 n) := p0.cell 3
  have a4 : w1.cell? ⟨w.heap.size, 4, none⟩ = some (.int .i64 i) := p0.cell 4
  have a5 : w1.cell? ⟨w.heap.size, 5, none⟩ = some (.int .i64 t) := p0.cell 5
  have a6 : w1.cell? ⟨w.heap.size, 6, none⟩ = some (.int .i64 u) := p0.cell 6
  have a7 : w1.cell? ⟨w.heap.size, 7, none⟩ = some (.int .i64 b) := p0.cell 7
  have a8 : w1.cell? ⟨w.heap.size, 8, none⟩ = some (.bool c) := p0.cell 8
  have b0 : w1.cell? ⟨w.heap.size + 1, 0, none⟩ = some (.int .i64 0) := p1.cell 0
  have b1 : w1.cell? ⟨w.heap.size + 1, 1, none⟩ = some (.int .i64 0) := p1.cell 1
  have b2 : w1.cell? ⟨w.heap.size + 1, 2, none⟩ = some (.int .i64 0) := p1.cell 2
  have b3 : w1.cell? ⟨w.heap.size + 1, 3, none⟩ = some (.int .i64 0) := p1.cell 3
  have b4 : w1.cell? ⟨w.heap.size + 1, 4, none⟩ = some (.int .i64 0) := p1.cell 4
  have b5 : w1.cell? ⟨w.heap.size + 1, 5, none⟩ = some (.int .i64 0) := p1.cell 5
  have b6 : w1.cell? ⟨w.heap.size + 1, 6, none⟩ = some (.int .i64 0) := p1.cell 6
  have b7 : w1.cell? ⟨w.heap.size + 1, 7, none⟩ = some (.int .i64 0) := p1.cell 7
  have b8 : w1.cell? ⟨w.heap.size + 1, 8, none⟩ = some (.bool false) := p1.cell 8
  have d0 : w1.cell? ⟨w.heap.size + 1 + 1, 0, none⟩ = some (.int .i64 0) := p2.cell 0
  have d1 : w1.cell? ⟨w.heap.size + 1 + 1, 1, none⟩ = some (.int .i64 0) := p2.cell 1
  have d2 : w1.cell? ⟨w.heap.size + 1 + 1, 2, none⟩ = some (.int .i64 0) := p2.cell 2
  have d3 : w1.cell? ⟨w.heap.size + 1 + 1, 3, none⟩ = some (.int .i64 0) := p2.cell 3
  have d4 : w1.cell? ⟨w.heap.size + 1 + 1, 4, none⟩ = some (.int .i64 0) := p2.cell 4
  have d5 : w1.cell? ⟨w.heap.size + 1 + 1, 5, none⟩ = some (.int .i64 0) := p2.cell 5
  have d6 : w1.cell? ⟨w.heap.size + 1 + 1, 6, none⟩ = some (.int .i64 0) := p2.cell 6
  have d7 : w1.cell? ⟨w.heap.size + 1 + 1, 7, none⟩ = some (.int .i64 0) := p2.cell 7
  have d8 : w1.cell? ⟨w.heap.size + 1 + 1, 8, none⟩ = some (.bool false) := p2.cell 8
  have f0 := p1.frozen 0
  have f1 := p1.frozen 1
  have f2 := p1.frozen 2
  have f3 := p1.frozen 3
  have f4 := p1.frozen 4
  have f5 := p1.frozen 5
  have f6 := p1.frozen 6
  have f7 := p1.frozen 7
  have f8 := p1.frozen 8
  have g0 := p2.frozen 0
  have g1 := p2.frozen 1
  have g2 := p2.frozen 2
  have g3 := p2.frozen 3
  have g4 := p2.frozen 4
  have g5 := p2.frozen 5
  have g6 := p2.frozen 6
  have g7 := p2.frozen 7
  have g8 := p2.frozen 8
  have P1 : Hid (Row w1 (w.heap.size + 1) 46 [.int .i64 0, .int .i64 0, .int .i64 0, .int .i64 0, .int .i64 0, .int .i64 0, .int .i64 0, .int .i64 0, .bool false]) := p1
  clear p0 p1 p2
  have hBB := nine0_below (nine0_below hB (w.heap.size + 1 + 1) (by omega) (.int .i64 a) (.int .i64 l) (.int .i64 m) (.int .i64 n) (.int .i64 i) (.int .i64 t) (.int .i64 u) (.int .i64 b) (.bool c)) (w.heap.size + 1) (by omega) (.int .i64 a) (.int .i64 l) (.int .i64 m) (.int .i64 n) (.int .i64 i) (.int .i64 t) (.int .i64 u) (.int .i64 b) (.bool c)
  have hRR := nine0_row (nine0_other P1.out (w.heap.size + 1 + 1) (by omega) (.int .i64 a) (.int .i64 l) (.int .i64 m) (.int .i64 n) (.int .i64 i) (.int .i64 t) (.int .i64 u) (.int .i64 b) (.bool c)) (.int .i64 a) (.int .i64 l) (.int .i64 m) (.int .i64 n) (.int .i64 i) (.int .i64 t) (.int .i64 u) (.int .i64 b) (.bool c)
  unfold nine0 at hBB hRR
  have HH : Hid _ := And.intro hBB hRR
  clear hBB hRR P1
  go_wp2_with fail
  have HH2 := HH.out
  clear HH b0 b1 b2 b3 b4 b5 b6 b7 b8 d0 d1 d2 d3 d4 d5 d6 d7 d8 f0 f1 f2 f3 f4 f5 f6 f7 f8 g0 g1 g2 g3 g4 g5 g6 g7 g8 a2 a3 a4 a5 a6 a7 a8 hB HT
  generalize ((((((((((((((((((w1.setCell ⟨w.heap.size + 1 + 1, 0, none⟩ (.int .i64 a)).setCell ⟨w.heap.size + 1 + 1, 1, none⟩ (.int .i64 l)).setCell ⟨w.heap.size + 1 + 1, 2, none⟩ (.int .i64 m)).setCell ⟨w.heap.size + 1 + 1, 3, none⟩ (.int .i64 n)).setCell ⟨w.heap.size + 1 + 1, 4, none⟩ (.int .i64 i)).setCell ⟨w.heap.size + 1 + 1, 5, none⟩ (.int .i64 t)).setCell ⟨w.heap.size + 1 + 1, 6, none⟩ (.int .i64 u)).setCell ⟨w.heap.size + 1 + 1, 7, none⟩ (.int .i64 b)).setCell ⟨w.heap.size + 1 + 1, 8, none⟩ (.bool c)).setCell ⟨w.heap.size + 1, 0, none⟩ (.int .i64 a)).setCell ⟨w.heap.size + 1, 1, none⟩ (.int .i64 l)).setCell ⟨w.heap.size + 1, 2, none⟩ (.int .i64 m)).setCell ⟨w.heap.size + 1, 3, none⟩ (.int .i64 n)).setCell ⟨w.heap.size + 1, 4, none⟩ (.int .i64 i)).setCell ⟨w.heap.size + 1, 5, none⟩ (.int .i64 t)).setCell ⟨w.heap.size + 1, 6, none⟩ (.int .i64 u)).setCell ⟨w.heap.size + 1, 7, none⟩ (.int .i64 b)).setCell ⟨w.heap.size + 1, 8, none⟩ (.bool c)) = W at *
  obtain ⟨hBB, hRR⟩ := HH2
  have b0 : W.cell? ⟨w.heap.size + 1, 0, none⟩ = some (.int .i64 a) := hRR.cell 0
  have b1 : W.cell? ⟨w.heap.size + 1, 1, none⟩ = some (.int .i64 l) := hRR.cell 1
  have b2 : W.cell? ⟨w.heap.size + 1, 2, none⟩ = some (.int .i64 m) := hRR.cell 2
  have b3 : W.cell? ⟨w.heap.size + 1, 3, none⟩ = some (.int .i64 n) := hRR.cell 3
  have b4 : W.cell? ⟨w.heap.size + 1, 4, none⟩ = some (.int .i64 i) := hRR.cell 4
  have b5 : W.cell? ⟨w.heap.size + 1, 5, none⟩ = some (.int .i64 t) := hRR.cell 5
  have b6 : W.cell? ⟨w.heap.size + 1, 6, none⟩ = some (.int .i64 u) := hRR.cell 6
  have b7 : W.cell? ⟨w.heap.size + 1, 7, none⟩ = some (.int .i64 b) := hRR.cell 7
  have b8 : W.cell? ⟨w.heap.size + 1, 8, none⟩ = some (.bool c) := hRR.cell 8
  clear hRR
  refine bodyPost_ret (v := .agg #[.int .i64 a, .int .i64 l, .int .i64 m, .int .i64 n, .int .i64 i, .int .i64 t, .int .i64 u, .int .i64 b, .bool c]) (by simp [results, Try.results20, go_sem, b0, b1, b2, b3, b4, b5, b6, b7, b8]) rfl ⟨rfl, hBB⟩
end Go.Proofs.Ytaledidomgelcaa
