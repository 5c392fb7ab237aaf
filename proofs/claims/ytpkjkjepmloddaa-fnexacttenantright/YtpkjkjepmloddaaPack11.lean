/- Texts that stand on each other, in one file: RibR, InstR, TenR, Ten, OpTen. -/
import Derived.Test.YtpkjkjepmloddaaPack9
import Derived.Test.YtpkjkjepmloddaaPack7
import Derived.Lib.QuietBelow
import Derived.BigQuiet
import Derived.Test.YtpkjkjepmloddaaPack10
import Derived.Test.YtpkjkjepmloddaaPack8
import Derived.Test.YtpkjkjepmloddaaPack4
/- Is a table right? Asked by the program and by the model. (Written by gen_ribr.py.) -/
namespace Go.Proofs.Ytpkjkjepmloddaa
open Go.RowKit Go.Sort

/-- One route's net is ahead of another one's. -/
def ltR (r s : Rt) : Bool := decide (r.a < s.a) || (r.a == s.a && decide (r.l < s.l))
/-- The route at k is right, and behind the one ahead of it. -/
def okAt (rs : List Rt) (k : Nat) : Bool := routeB rs[k]! && (decide (k = 0) || ltR rs[k - 1]! rs[k]!)
def ribB (rs : List Rt) : Bool := decide (rs.length ≤ 8) && (List.range rs.length).all (okAt rs)
theorem get_bang {rs : List Rt} {k : Nat} (h : k < rs.length) : rs[k]! = rs[k] := by simp [h]
theorem ribB_long {rs : List Rt} (h : ¬ rs.length ≤ 8) : ribB rs = false := by simp [ribB, h]
theorem ribB_bad {rs : List Rt} {k : Nat} (hk : k < rs.length) (h : okAt rs k = false) : ribB rs = false := by
  unfold ribB
  have : (List.range rs.length).all (okAt rs) = false := by
    rw [List.all_eq_false]
    exact ⟨k, List.mem_range.2 hk, by rw [h]; simp⟩
  rw [this, Bool.and_false]
theorem ribB_good {rs : List Rt} (h8 : rs.length ≤ 8) (h : ∀ j, j < rs.length → okAt rs j = true) : ribB rs = true := by
  unfold ribB
  have : (List.range rs.length).all (okAt rs) = true := by
    rw [List.all_eq_true]
    exact fun j hj => h j (List.mem_range.1 hj)
  rw [this, decide_eq_true h8]; rfl
theorem ribB_spec {rs : List Rt} (h : ribB rs = true) : rs.length ≤ 8 ∧ ∀ j, j < rs.length → okAt rs j = true := by
  simp only [ribB, Bool.and_eq_true, decide_eq_true_eq, List.all_eq_true] at h
  exact ⟨h.1, fun j hj => h.2 j (List.mem_range.2 hj)⟩
theorem okAt_route {rs : List Rt} {k : Nat} (h : okAt rs k = true) : routeB rs[k]! = true := by
  unfold okAt at h; simp only [Bool.and_eq_true] at h; exact h.1
theorem routeB_right {r : Rt} (h : routeB r = true) : rightB r.a r.l = true := by
  unfold routeB saidB entB rtE at h
  simp only [Bool.and_eq_true] at h
  exact h.1.1.1.1.1.1
theorem box1 {w w1 : World} {x : Value} {t : TypeId} (h : Below (w.alloc (.cells #[x] t)).heap.size (w.alloc (.cells #[x] t)) w1) : w1.cell? ⟨w.heap.size, 0, none⟩ = some x ∧ Below w.heap.size w w1 := by
  have q := Row.new w t [x]
  exact ⟨(q.below h q.lt).cell 0, (ent_new0 w _).trans (h.mono (by simp))⟩
set_option maxRecDepth 100000 in
set_option maxHeartbeats 1000000 in
theorem implRib_any (p : Option Addr) (cap : Nat) (rs : List Rt) (w : World) (h : RtsIn w p rs) (hn : rs.length ≤ 100000000) :
    Calls Try.prog 33 #[ribV p rs.length cap] w fun e w' => e = .returned (.bool (ribB rs)) ∧ Below w.heap.size w w' := by
  have HE : Hid (∀ e w, Calls Try.prog 64 #[rtV e] w fun r w' => r = .returned (.bool (routeB e)) ∧ Below w.heap.size w w') := implRoute_any
  have HL : Hid (∀ a l b m w, Calls Try.prog 65 #[.agg #[.int .i64 a, .int .i64 l], .agg #[.int .i64 b, .int .i64 m]] w fun e w' => e = .returned (.bool (lessB a l b m)) ∧ Below w.heap.size w w') := fun a l b m w => implLess_any a l b m w
  have HBd : Hid (∀ k, k < rs.length → okAt rs k = false → ribB rs = false) := fun k hk hf => ribB_bad hk hf
  have HX : Hid (RtsIn w p rs) := h
  clear h
  unfold ribV
  by_cases hl : rs.length ≤ 8
  · have d8 : decide (8 < (rs.length : Int)) = false := by simp; omega
    have HYs : Hid ((∀ j, j < rs.length → okAt rs j = true) → ribB rs = true) := fun h => ribB_good hl h
    generalize ribB rs = R at *
    go_enter Try.func33, Try.ntmps33
    go_wp2_with fail
    go_loopw [12] (fun i wr => ∃ k : Nat, k ≤ rs.length ∧ i = .int .i64 k ∧ (∀ j, j < k → okAt rs j = true) ∧ Below (w.alloc (.cells #[.slice p rs.length cap] 33)).heap.size (w.alloc (.cells #[.slice p rs.length cap] 33)) wr) (fun i _ => rs.length - (intOf i).toNat)
    case atStart => exact ⟨0, Nat.zero_le _, rfl, fun j hj => absurd hj (by omega), Below.refl _ _⟩
    case round =>
      obtain ⟨k, hk, rfl, ha, hb0⟩ := hrel
      obtain ⟨x0, hb⟩ := box1 hb0
      by_cases hlt : k < rs.length
      · have d1 : decide ((k : Int) < (rs.length : Int)) = true := by simpa using hlt
        obtain ⟨g, a, l, m, n, ii, t, u, b, c, rfl, hg, hek, c0, c1, c2, c3, c4, c5, c6, c7, c8⟩ := (HX.out.below hb).at k hlt
        have hbk : rs[k]! = ⟨a, l, m, n, ii, t, u, b, c⟩ := (get_bang hlt).trans hek
        have HEk : Hid (∀ w, Calls Try.prog 64 #[.agg #[.int .i64 a, .int .i64 l, .int .i64 m, .int .i64 n, .int .i64 ii, .int .i64 t, .int .i64 u, .int .i64 b, .bool c]] w fun r w' => r = .returned (.bool (routeB ⟨a, l, m, n, ii, t, u, b, c⟩)) ∧ Below w.heap.size w w') := HE.out ⟨a, l, m, n, ii, t, u, b, c⟩
        have HBk : Hid (okAt rs k = false → R = false) := HBd.out k hlt
        have HNx : Hid (okAt rs k = true → ∀ j, j < k + 1 → okAt rs j = true) := fun h j hj => by
          rcases Nat.lt_or_ge j k with h' | h'
          · exact ha j h'
          · obtain rfl : j = k := by omega
            exact h
        by_cases hz : k = 0
        · have hok : okAt rs k = routeB ⟨a, l, m, n, ii, t, u, b, c⟩ := by unfold okAt; rw [hbk, decide_eq_true hz]; simp
          rw [hok] at HBk HNx
          clear hok HE HL hek HBd ha hbk
          generalize routeB ⟨a, l, m, n, ii, t, u, b, c⟩ = B at *
          have z0 : decide (0 < k) = false := by simp; omega
          have z1 : decide (0 < (k : Int)) = false := by simp; omega
          clear hz
          have HBN : Hid (Below wr.heap.size wr (wr.alloc (.cells #[.int .i64 a, .int .i64 l, .int .i64 m, .int .i64 n, .int .i64 ii, .int .i64 t, .int .i64 u, .int .i64 b, .bool c] 102))) := ent_new0 wr _
          have HQN : Hid (Row (wr.alloc (.cells #[.int .i64 a, .int .i64 l, .int .i64 m, .int .i64 n, .int .i64 ii, .int .i64 t, .int .i64 u, .int .i64 b, .bool c] 102)) wr.heap.size 102 [.int .i64 a, .int .i64 l, .int .i64 m, .int .i64 n, .int .i64 ii, .int .i64 t, .int .i64 u, .int .i64 b, .bool c]) := Row.new wr _ _
          have HX0 : Hid ((wr.alloc (.cells #[.int .i64 a, .int .i64 l, .int .i64 m, .int .i64 n, .int .i64 ii, .int .i64 t, .int .i64 u, .int .i64 b, .bool c] 102)).cell? ⟨w.heap.size, 0, none⟩ = some (.slice (some ⟨g, 0, none⟩) rs.length cap)) := by show _ = _; rw [HBN.out.cell (p := ⟨w.heap.size, 0, none⟩) (by have := hb0.size; simp at this; show w.heap.size < wr.heap.size; omega)]; exact x0
          cases B
          · go_wp2_with fail
            clear c0 c1 c2 c3 c4 c5 c6 c7 c8 x0
            generalize (wr.alloc (.cells #[.int .i64 a, .int .i64 l, .int .i64 m, .int .i64 n, .int .i64 ii, .int .i64 t, .int .i64 u, .int .i64 b, .bool c] 102)) = WR at *
            have x0 := cell_regrown HX0.out
            have c0 : WR.cell? ⟨wr.heap.size, 0, none⟩ = some (.int .i64 a) := HQN.out.cell 0
            replace c0 := cell_regrown c0
            have c1 : WR.cell? ⟨wr.heap.size, 1, none⟩ = some (.int .i64 l) := HQN.out.cell 1
            replace c1 := cell_regrown c1
            have c2 : WR.cell? ⟨wr.heap.size, 2, none⟩ = some (.int .i64 m) := HQN.out.cell 2
            replace c2 := cell_regrown c2
            have c3 : WR.cell? ⟨wr.heap.size, 3, none⟩ = some (.int .i64 n) := HQN.out.cell 3
            replace c3 := cell_regrown c3
            have c4 : WR.cell? ⟨wr.heap.size, 4, none⟩ = some (.int .i64 ii) := HQN.out.cell 4
            replace c4 := cell_regrown c4
            have c5 : WR.cell? ⟨wr.heap.size, 5, none⟩ = some (.int .i64 t) := HQN.out.cell 5
            replace c5 := cell_regrown c5
            have c6 : WR.cell? ⟨wr.heap.size, 6, none⟩ = some (.int .i64 u) := HQN.out.cell 6
            replace c6 := cell_regrown c6
            have c7 : WR.cell? ⟨wr.heap.size, 7, none⟩ = some (.int .i64 b) := HQN.out.cell 7
            replace c7 := cell_regrown c7
            have c8 : WR.cell? ⟨wr.heap.size, 8, none⟩ = some (.bool c) := HQN.out.cell 8
            replace c8 := cell_regrown c8
            refine wp_region_quiet_below (by kernel_rfl) (by kernel_rfl) ?_
            repeat (go_big_quiet_step (first | (go_at_call 64; exact Calls.regrown_of (HEk.out _))))
            refine wpQuiet_nil ?_
            intro w1 hw'
            obtain ⟨⟨dq, osq⟩, hw''⟩ := hw'
            have hbq := below_regrown WR dq osq
            rw [← hw''] at hbq
            clear hw'' osq dq
            clear c0 c1 c2 c3 c4 c5 c6 c7 c8 x0 HQN HX0
            have hB1 := hb.trans ((HBN.out.trans (hbq.mono HBN.out.size)).mono hb.size)
            clear hbq HBN
            go_wp2
            go_ret
            exact ⟨ret_bool (HBk.out (by trivial)).symm, hB1⟩
          · go_wp2_with fail
            clear c0 c1 c2 c3 c4 c5 c6 c7 c8 x0
            generalize (wr.alloc (.cells #[.int .i64 a, .int .i64 l, .int .i64 m, .int .i64 n, .int .i64 ii, .int .i64 t, .int .i64 u, .int .i64 b, .bool c] 102)) = WR at *
            have x0 := cell_regrown HX0.out
            have c0 : WR.cell? ⟨wr.heap.size, 0, none⟩ = some (.int .i64 a) := HQN.out.cell 0
            replace c0 := cell_regrown c0
            have c1 : WR.cell? ⟨wr.heap.size, 1, none⟩ = some (.int .i64 l) := HQN.out.cell 1
            replace c1 := cell_regrown c1
            have c2 : WR.cell? ⟨wr.heap.size, 2, none⟩ = some (.int .i64 m) := HQN.out.cell 2
            replace c2 := cell_regrown c2
            have c3 : WR.cell? ⟨wr.heap.size, 3, none⟩ = some (.int .i64 n) := HQN.out.cell 3
            replace c3 := cell_regrown c3
            have c4 : WR.cell? ⟨wr.heap.size, 4, none⟩ = some (.int .i64 ii) := HQN.out.cell 4
            replace c4 := cell_regrown c4
            have c5 : WR.cell? ⟨wr.heap.size, 5, none⟩ = some (.int .i64 t) := HQN.out.cell 5
            replace c5 := cell_regrown c5
            have c6 : WR.cell? ⟨wr.heap.size, 6, none⟩ = some (.int .i64 u) := HQN.out.cell 6
            replace c6 := cell_regrown c6
            have c7 : WR.cell? ⟨wr.heap.size, 7, none⟩ = some (.int .i64 b) := HQN.out.cell 7
            replace c7 := cell_regrown c7
            have c8 : WR.cell? ⟨wr.heap.size, 8, none⟩ = some (.bool c) := HQN.out.cell 8
            replace c8 := cell_regrown c8
            refine wp_region_quiet_below (by kernel_rfl) (by kernel_rfl) ?_
            repeat (go_big_quiet_step (first | (go_at_call 64; exact Calls.regrown_of (HEk.out _))))
            refine wpQuiet_nil ?_
            intro w1 hw'
            obtain ⟨⟨dq, osq⟩, hw''⟩ := hw'
            have hbq := below_regrown WR dq osq
            rw [← hw''] at hbq
            clear hw'' osq dq
            clear c0 c1 c2 c3 c4 c5 c6 c7 c8 x0 HQN HX0
            have hB0 := hb0.trans ((HBN.out.trans (hbq.mono HBN.out.size)).mono hb0.size)
            clear hbq HBN
            go_wp2
            go_roundw
            case rel => exact ⟨k + 1, hlt, by go_num, HNx.out (by trivial), hB0⟩
            case measure => simp [intOf]; omega
        · obtain ⟨g', a', l', m', n', ii', t', u', b', c', hgg, hg', hej, d0, d1', d2, d3, d4, d5, d6, d7, d8⟩ := (HX.out.below hb).at (k - 1) (by omega)
          simp only [Option.some.injEq, Addr.mk.injEq, and_true] at hgg
          subst hgg
          have hbj : rs[k - 1]! = ⟨a', l', m', n', ii', t', u', b', c'⟩ := (get_bang (by omega)).trans hej
          have hrj := okAt_route (ha (k - 1) (by omega))
          rw [hbj] at hrj
          have hok : okAt rs k = (routeB ⟨a, l, m, n, ii, t, u, b, c⟩ && (decide (a' < a) || (a' == a && decide (l' < l)))) := by unfold okAt; rw [hbk, hbj, decide_eq_false hz]; rfl
          have HLk : Hid (∀ w, Calls Try.prog 65 #[.agg #[.int .i64 a', .int .i64 l'], .agg #[.int .i64 a, .int .i64 l]] w fun e w' => e = .returned (.bool (lessB a' l' a l)) ∧ Below w.heap.size w w') := HL.out a' l' a l
          have HLe : Hid (routeB ⟨a, l, m, n, ii, t, u, b, c⟩ = true → lessB a' l' a l = (decide (a' < a) || (a' == a && decide (l' < l)))) := fun h => by unfold lessB; rw [routeB_right hrj, routeB_right h]; rfl
          rw [hok] at HBk HNx
          clear hok HE HL hek hej HBd ha hbk hbj hrj
          generalize routeB ⟨a, l, m, n, ii, t, u, b, c⟩ = B at *
          have z0 : decide (0 < k) = true := by simp; omega
          have z1 : decide (0 < (k : Int)) = true := by simp; omega
          have z2 : IntKind.i64.wrap ((k : Int) - 1) = ((k - 1 : Nat) : Int) := by rw [wrap_i64_in _ (by omega) (by omega)]; omega
          have z3 : (k : Int) - 1 = ((k - 1 : Nat) : Int) := by omega
          have z4 : decide (((k - 1 : Nat) : Int) < (rs.length : Int)) = true := by simp; omega
          have z5 : k - 1 < rs.length := by omega
          have HBN : Hid (Below wr.heap.size wr (wr.alloc (.cells #[.int .i64 a, .int .i64 l, .int .i64 m, .int .i64 n, .int .i64 ii, .int .i64 t, .int .i64 u, .int .i64 b, .bool c] 102))) := ent_new0 wr _
          have HQN : Hid (Row (wr.alloc (.cells #[.int .i64 a, .int .i64 l, .int .i64 m, .int .i64 n, .int .i64 ii, .int .i64 t, .int .i64 u, .int .i64 b, .bool c] 102)) wr.heap.size 102 [.int .i64 a, .int .i64 l, .int .i64 m, .int .i64 n, .int .i64 ii, .int .i64 t, .int .i64 u, .int .i64 b, .bool c]) := Row.new wr _ _
          have HX0 : Hid ((wr.alloc (.cells #[.int .i64 a, .int .i64 l, .int .i64 m, .int .i64 n, .int .i64 ii, .int .i64 t, .int .i64 u, .int .i64 b, .bool c] 102)).cell? ⟨w.heap.size, 0, none⟩ = some (.slice (some ⟨g, 0, none⟩) rs.length cap)) := by show _ = _; rw [HBN.out.cell (p := ⟨w.heap.size, 0, none⟩) (by have := hb0.size; simp at this; show w.heap.size < wr.heap.size; omega)]; exact x0
          have HD0 : Hid ((wr.alloc (.cells #[.int .i64 a, .int .i64 l, .int .i64 m, .int .i64 n, .int .i64 ii, .int .i64 t, .int .i64 u, .int .i64 b, .bool c] 102)).cell? ⟨g, (k - 1) * 9, none⟩ = some (.int .i64 a')) := by show _ = _; rw [HBN.out.cell (p := ⟨g, (k - 1) * 9, none⟩) hg]; exact d0
          have HD1 : Hid ((wr.alloc (.cells #[.int .i64 a, .int .i64 l, .int .i64 m, .int .i64 n, .int .i64 ii, .int .i64 t, .int .i64 u, .int .i64 b, .bool c] 102)).cell? ⟨g, (k - 1) * 9 + 1, none⟩ = some (.int .i64 l')) := by show _ = _; rw [HBN.out.cell (p := ⟨g, (k - 1) * 9 + 1, none⟩) hg]; exact d1'
          clear d0 d1' d2 d3 d4 d5 d6 d7 d8
          cases B
          · clear HLk
            go_wp2_with fail
            clear c0 c1 c2 c3 c4 c5 c6 c7 c8 x0
            generalize (wr.alloc (.cells #[.int .i64 a, .int .i64 l, .int .i64 m, .int .i64 n, .int .i64 ii, .int .i64 t, .int .i64 u, .int .i64 b, .bool c] 102)) = WR at *
            have x0 := cell_regrown HX0.out
            have c0 : WR.cell? ⟨wr.heap.size, 0, none⟩ = some (.int .i64 a) := HQN.out.cell 0
            replace c0 := cell_regrown c0
            have c1 : WR.cell? ⟨wr.heap.size, 1, none⟩ = some (.int .i64 l) := HQN.out.cell 1
            replace c1 := cell_regrown c1
            have c2 : WR.cell? ⟨wr.heap.size, 2, none⟩ = some (.int .i64 m) := HQN.out.cell 2
            replace c2 := cell_regrown c2
            have c3 : WR.cell? ⟨wr.heap.size, 3, none⟩ = some (.int .i64 n) := HQN.out.cell 3
            replace c3 := cell_regrown c3
            have c4 : WR.cell? ⟨wr.heap.size, 4, none⟩ = some (.int .i64 ii) := HQN.out.cell 4
            replace c4 := cell_regrown c4
            have c5 : WR.cell? ⟨wr.heap.size, 5, none⟩ = some (.int .i64 t) := HQN.out.cell 5
            replace c5 := cell_regrown c5
            have c6 : WR.cell? ⟨wr.heap.size, 6, none⟩ = some (.int .i64 u) := HQN.out.cell 6
            replace c6 := cell_regrown c6
            have c7 : WR.cell? ⟨wr.heap.size, 7, none⟩ = some (.int .i64 b) := HQN.out.cell 7
            replace c7 := cell_regrown c7
            have c8 : WR.cell? ⟨wr.heap.size, 8, none⟩ = some (.bool c) := HQN.out.cell 8
            replace c8 := cell_regrown c8
            have d0 := cell_regrown HD0.out
            have d1' := cell_regrown HD1.out
            refine wp_region_quiet_below (by kernel_rfl) (by kernel_rfl) ?_
            repeat (go_big_quiet_step (first | (go_at_call 64; exact Calls.regrown_of (HEk.out _))))
            refine wpQuiet_nil ?_
            intro w1 hw'
            obtain ⟨⟨dq, osq⟩, hw''⟩ := hw'
            have hbq := below_regrown WR dq osq
            rw [← hw''] at hbq
            clear hw'' osq dq
            clear c0 c1 c2 c3 c4 c5 c6 c7 c8 x0 d0 d1' HQN HX0 HD0 HD1
            have hB1 := hb.trans ((HBN.out.trans (hbq.mono HBN.out.size)).mono hb.size)
            clear hbq HBN
            go_wp2
            go_ret
            exact ⟨ret_bool (HBk.out (by trivial)).symm, hB1⟩
          · have HLe' := HLe.out (by trivial)
            rw [HLe'] at HLk
            clear HLe HLe'
            generalize (decide (a' < a) || (a' == a && decide (l' < l))) = L at *
            cases L
            · go_wp2_with fail
              clear c0 c1 c2 c3 c4 c5 c6 c7 c8 x0
              generalize (wr.alloc (.cells #[.int .i64 a, .int .i64 l, .int .i64 m, .int .i64 n, .int .i64 ii, .int .i64 t, .int .i64 u, .int .i64 b, .bool c] 102)) = WR at *
              have x0 := cell_regrown HX0.out
              have c0 : WR.cell? ⟨wr.heap.size, 0, none⟩ = some (.int .i64 a) := HQN.out.cell 0
              replace c0 := cell_regrown c0
              have c1 : WR.cell? ⟨wr.heap.size, 1, none⟩ = some (.int .i64 l) := HQN.out.cell 1
              replace c1 := cell_regrown c1
              have c2 : WR.cell? ⟨wr.heap.size, 2, none⟩ = some (.int .i64 m) := HQN.out.cell 2
              replace c2 := cell_regrown c2
              have c3 : WR.cell? ⟨wr.heap.size, 3, none⟩ = some (.int .i64 n) := HQN.out.cell 3
              replace c3 := cell_regrown c3
              have c4 : WR.cell? ⟨wr.heap.size, 4, none⟩ = some (.int .i64 ii) := HQN.out.cell 4
              replace c4 := cell_regrown c4
              have c5 : WR.cell? ⟨wr.heap.size, 5, none⟩ = some (.int .i64 t) := HQN.out.cell 5
              replace c5 := cell_regrown c5
              have c6 : WR.cell? ⟨wr.heap.size, 6, none⟩ = some (.int .i64 u) := HQN.out.cell 6
              replace c6 := cell_regrown c6
              have c7 : WR.cell? ⟨wr.heap.size, 7, none⟩ = some (.int .i64 b) := HQN.out.cell 7
              replace c7 := cell_regrown c7
              have c8 : WR.cell? ⟨wr.heap.size, 8, none⟩ = some (.bool c) := HQN.out.cell 8
              replace c8 := cell_regrown c8
              have d0 := cell_regrown HD0.out
              have d1' := cell_regrown HD1.out
              refine wp_region_quiet_below (by kernel_rfl) (by kernel_rfl) ?_
              repeat (go_big_quiet_step (first | (go_at_call 64; exact Calls.regrown_of (HEk.out _)) | (go_at_call 65; exact Calls.regrown_of (HLk.out _))))
              refine wpQuiet_nil ?_
              intro w1 hw'
              obtain ⟨⟨dq, osq⟩, hw''⟩ := hw'
              have hbq := below_regrown WR dq osq
              rw [← hw''] at hbq
              clear hw'' osq dq
              clear c0 c1 c2 c3 c4 c5 c6 c7 c8 x0 d0 d1' HQN HX0 HD0 HD1
              have hB1 := hb.trans ((HBN.out.trans (hbq.mono HBN.out.size)).mono hb.size)
              clear hbq HBN
              go_wp2
              go_ret
              exact ⟨ret_bool (HBk.out (by trivial)).symm, hB1⟩
            · go_wp2_with fail
              clear c0 c1 c2 c3 c4 c5 c6 c7 c8 x0
              generalize (wr.alloc (.cells #[.int .i64 a, .int .i64 l, .int .i64 m, .int .i64 n, .int .i64 ii, .int .i64 t, .int .i64 u, .int .i64 b, .bool c] 102)) = WR at *
              have x0 := cell_regrown HX0.out
              have c0 : WR.cell? ⟨wr.heap.size, 0, none⟩ = some (.int .i64 a) := HQN.out.cell 0
              replace c0 := cell_regrown c0
              have c1 : WR.cell? ⟨wr.heap.size, 1, none⟩ = some (.int .i64 l) := HQN.out.cell 1
              replace c1 := cell_regrown c1
              have c2 : WR.cell? ⟨wr.heap.size, 2, none⟩ = some (.int .i64 m) := HQN.out.cell 2
              replace c2 := cell_regrown c2
              have c3 : WR.cell? ⟨wr.heap.size, 3, none⟩ = some (.int .i64 n) := HQN.out.cell 3
              replace c3 := cell_regrown c3
              have c4 : WR.cell? ⟨wr.heap.size, 4, none⟩ = some (.int .i64 ii) := HQN.out.cell 4
              replace c4 := cell_regrown c4
              have c5 : WR.cell? ⟨wr.heap.size, 5, none⟩ = some (.int .i64 t) := HQN.out.cell 5
              replace c5 := cell_regrown c5
              have c6 : WR.cell? ⟨wr.heap.size, 6, none⟩ = some (.int .i64 u) := HQN.out.cell 6
              replace c6 := cell_regrown c6
              have c7 : WR.cell? ⟨wr.heap.size, 7, none⟩ = some (.int .i64 b) := HQN.out.cell 7
              replace c7 := cell_regrown c7
              have c8 : WR.cell? ⟨wr.heap.size, 8, none⟩ = some (.bool c) := HQN.out.cell 8
              replace c8 := cell_regrown c8
              have d0 := cell_regrown HD0.out
              have d1' := cell_regrown HD1.out
              refine wp_region_quiet_below (by kernel_rfl) (by kernel_rfl) ?_
              repeat (go_big_quiet_step (first | (go_at_call 64; exact Calls.regrown_of (HEk.out _)) | (go_at_call 65; exact Calls.regrown_of (HLk.out _))))
              refine wpQuiet_nil ?_
              intro w1 hw'
              obtain ⟨⟨dq, osq⟩, hw''⟩ := hw'
              have hbq := below_regrown WR dq osq
              rw [← hw''] at hbq
              clear hw'' osq dq
              clear c0 c1 c2 c3 c4 c5 c6 c7 c8 x0 d0 d1' HQN HX0 HD0 HD1
              have hB0 := hb0.trans ((HBN.out.trans (hbq.mono HBN.out.size)).mono hb0.size)
              clear hbq HBN
              go_wp2
              go_roundw
              case rel => exact ⟨k + 1, hlt, by go_num, HNx.out (by trivial), hB0⟩
              case measure => simp [intOf]; omega
      · obtain rfl : k = rs.length := by omega
        have d1 : decide ((rs.length : Int) < (rs.length : Int)) = false := by simp
        have hR := HYs.out ha
        clear hlt hk
        go_wp2
        go_ret
        exact ⟨ret_bool hR.symm, hb⟩
  · rw [ribB_long hl]
    have d8 : decide (8 < (rs.length : Int)) = true := by simp; omega
    go_enter Try.func33, Try.ntmps33
    go_wp2
    go_ret
    exact ⟨rfl, ent_new0 w _⟩
set_option maxRecDepth 100000 in
set_option maxHeartbeats 1000000 in
theorem specRib_any (p : Option Addr) (cap : Nat) (rs : List Rt) (w : World) (h : RtsIn w p rs) (hn : rs.length ≤ 100000000) :
    Calls Try.prog 28 #[ribV p rs.length cap] w fun e w' => e = .returned (.bool (ribB rs)) ∧ Below w.heap.size w w' := by
  have HE : Hid (∀ e w, Calls Try.prog 58 #[rtV e] w fun r w' => r = .returned (.bool (routeB e)) ∧ Below w.heap.size w w') := specRoute_any
  have HL : Hid (∀ a l b m w, Calls Try.prog 59 #[.agg #[.int .i64 a, .int .i64 l], .agg #[.int .i64 b, .int .i64 m]] w fun e w' => e = .returned (.bool (decide (a < b) || (a == b && decide (l < m)))) ∧ Below w.heap.size w w') := fun a l b m w => l03Less_any a l b m w
  have HBd : Hid (∀ k, k < rs.length → okAt rs k = false → ribB rs = false) := fun k hk hf => ribB_bad hk hf
  have HX : Hid (RtsIn w p rs) := h
  clear h
  unfold ribV
  by_cases hl : rs.length ≤ 8
  · have d8 : decide (8 < (rs.length : Int)) = false := by simp; omega
    have HYs : Hid ((∀ j, j < rs.length → okAt rs j = true) → ribB rs = true) := fun h => ribB_good hl h
    generalize ribB rs = R at *
    go_enter Try.func28, Try.ntmps28
    go_wp2_with fail
    go_loopw [3] (fun i wr => ∃ k : Nat, k ≤ rs.length ∧ i = .int .i64 k ∧ (∀ j, j < k → okAt rs j = true) ∧ Below (w.alloc (.cells #[.slice p rs.length cap] 33)).heap.size (w.alloc (.cells #[.slice p rs.length cap] 33)) wr) (fun i _ => rs.length - (intOf i).toNat)
    case atStart => exact ⟨0, Nat.zero_le _, rfl, fun j hj => absurd hj (by omega), Below.refl _ _⟩
    case round =>
      obtain ⟨k, hk, rfl, ha, hb0⟩ := hrel
      obtain ⟨x0, hb⟩ := box1 hb0
      by_cases hlt : k < rs.length
      · have d1 : decide ((k : Int) < (rs.length : Int)) = true := by simpa using hlt
        obtain ⟨g, a, l, m, n, ii, t, u, b, c, rfl, hg, hek, c0, c1, c2, c3, c4, c5, c6, c7, c8⟩ := (HX.out.below hb).at k hlt
        have hbk : rs[k]! = ⟨a, l, m, n, ii, t, u, b, c⟩ := (get_bang hlt).trans hek
        have HEk : Hid (∀ w, Calls Try.prog 58 #[.agg #[.int .i64 a, .int .i64 l, .int .i64 m, .int .i64 n, .int .i64 ii, .int .i64 t, .int .i64 u, .int .i64 b, .bool c]] w fun r w' => r = .returned (.bool (routeB ⟨a, l, m, n, ii, t, u, b, c⟩)) ∧ Below w.heap.size w w') := HE.out ⟨a, l, m, n, ii, t, u, b, c⟩
        have HBk : Hid (okAt rs k = false → R = false) := HBd.out k hlt
        have HNx : Hid (okAt rs k = true → ∀ j, j < k + 1 → okAt rs j = true) := fun h j hj => by
          rcases Nat.lt_or_ge j k with h' | h'
          · exact ha j h'
          · obtain rfl : j = k := by omega
            exact h
        by_cases hz : k = 0
        · have hok : okAt rs k = routeB ⟨a, l, m, n, ii, t, u, b, c⟩ := by unfold okAt; rw [hbk, decide_eq_true hz]; simp
          rw [hok] at HBk HNx
          clear hok HE HL hek HBd ha hbk
          generalize routeB ⟨a, l, m, n, ii, t, u, b, c⟩ = B at *
          have z0 : decide (0 < k) = false := by simp; omega
          have z1 : decide (0 < (k : Int)) = false := by simp; omega
          clear hz
          have HBN : Hid (Below wr.heap.size wr wr) := Below.refl _ _
          cases B
          · go_wp2_with fail
            replace x0 := cell_regrown x0
            replace c0 := cell_regrown c0
            replace c1 := cell_regrown c1
            replace c2 := cell_regrown c2
            replace c3 := cell_regrown c3
            replace c4 := cell_regrown c4
            replace c5 := cell_regrown c5
            replace c6 := cell_regrown c6
            replace c7 := cell_regrown c7
            replace c8 := cell_regrown c8
            refine wp_region_quiet_below (by kernel_rfl) (by kernel_rfl) ?_
            repeat (go_big_quiet_step (first | (go_at_call 58; exact Calls.regrown_of (HEk.out _))))
            refine wpQuiet_nil ?_
            intro w1 hw'
            obtain ⟨⟨dq, osq⟩, hw''⟩ := hw'
            have hbq := below_regrown wr dq osq
            rw [← hw''] at hbq
            clear hw'' osq dq
            clear c0 c1 c2 c3 c4 c5 c6 c7 c8 x0
            have hB1 := hb.trans ((HBN.out.trans (hbq.mono HBN.out.size)).mono hb.size)
            clear hbq HBN
            go_wp2
            go_ret
            exact ⟨ret_bool (HBk.out (by trivial)).symm, hB1⟩
          · go_wp2_with fail
            replace x0 := cell_regrown x0
            replace c0 := cell_regrown c0
            replace c1 := cell_regrown c1
            replace c2 := cell_regrown c2
            replace c3 := cell_regrown c3
            replace c4 := cell_regrown c4
            replace c5 := cell_regrown c5
            replace c6 := cell_regrown c6
            replace c7 := cell_regrown c7
            replace c8 := cell_regrown c8
            refine wp_region_quiet_below (by kernel_rfl) (by kernel_rfl) ?_
            repeat (go_big_quiet_step (first | (go_at_call 58; exact Calls.regrown_of (HEk.out _))))
            refine wpQuiet_nil ?_
            intro w1 hw'
            obtain ⟨⟨dq, osq⟩, hw''⟩ := hw'
            have hbq := below_regrown wr dq osq
            rw [← hw''] at hbq
            clear hw'' osq dq
            clear c0 c1 c2 c3 c4 c5 c6 c7 c8 x0
            have hB0 := hb0.trans ((HBN.out.trans (hbq.mono HBN.out.size)).mono hb0.size)
            clear hbq HBN
            go_wp2
            go_roundw
            case rel => exact ⟨k + 1, hlt, by go_num, HNx.out (by trivial), hB0⟩
            case measure => simp [intOf]; omega
        · obtain ⟨g', a', l', m', n', ii', t', u', b', c', hgg, hg', hej, d0, d1', d2, d3, d4, d5, d6, d7, d8⟩ := (HX.out.below hb).at (k - 1) (by omega)
          simp only [Option.some.injEq, Addr.mk.injEq, and_true] at hgg
          subst hgg
          have hbj : rs[k - 1]! = ⟨a', l', m', n', ii', t', u', b', c'⟩ := (get_bang (by omega)).trans hej
          have hrj := okAt_route (ha (k - 1) (by omega))
          rw [hbj] at hrj
          have hok : okAt rs k = (routeB ⟨a, l, m, n, ii, t, u, b, c⟩ && (decide (a' < a) || (a' == a && decide (l' < l)))) := by unfold okAt; rw [hbk, hbj, decide_eq_false hz]; rfl
          have HLk : Hid (∀ w, Calls Try.prog 59 #[.agg #[.int .i64 a', .int .i64 l'], .agg #[.int .i64 a, .int .i64 l]] w fun e w' => e = .returned (.bool (decide (a' < a) || (a' == a && decide (l' < l)))) ∧ Below w.heap.size w w') := HL.out a' l' a l
          rw [hok] at HBk HNx
          clear hok HE HL hek hej HBd ha hbk hbj hrj
          generalize routeB ⟨a, l, m, n, ii, t, u, b, c⟩ = B at *
          have z0 : decide (0 < k) = true := by simp; omega
          have z1 : decide (0 < (k : Int)) = true := by simp; omega
          have z2 : IntKind.i64.wrap ((k : Int) - 1) = ((k - 1 : Nat) : Int) := by rw [wrap_i64_in _ (by omega) (by omega)]; omega
          have z3 : (k : Int) - 1 = ((k - 1 : Nat) : Int) := by omega
          have z4 : decide (((k - 1 : Nat) : Int) < (rs.length : Int)) = true := by simp; omega
          have z5 : k - 1 < rs.length := by omega
          have HBN : Hid (Below wr.heap.size wr wr) := Below.refl _ _
          clear d2 d3 d4 d5 d6 d7 d8
          cases B
          · clear HLk
            go_wp2_with fail
            replace x0 := cell_regrown x0
            replace c0 := cell_regrown c0
            replace c1 := cell_regrown c1
            replace c2 := cell_regrown c2
            replace c3 := cell_regrown c3
            replace c4 := cell_regrown c4
            replace c5 := cell_regrown c5
            replace c6 := cell_regrown c6
            replace c7 := cell_regrown c7
            replace c8 := cell_regrown c8
            replace d0 := cell_regrown d0
            replace d1' := cell_regrown d1'
            refine wp_region_quiet_below (by kernel_rfl) (by kernel_rfl) ?_
            repeat (go_big_quiet_step (first | (go_at_call 58; exact Calls.regrown_of (HEk.out _))))
            refine wpQuiet_nil ?_
            intro w1 hw'
            obtain ⟨⟨dq, osq⟩, hw''⟩ := hw'
            have hbq := below_regrown wr dq osq
            rw [← hw''] at hbq
            clear hw'' osq dq
            clear c0 c1 c2 c3 c4 c5 c6 c7 c8 x0 d0 d1'
            have hB1 := hb.trans ((HBN.out.trans (hbq.mono HBN.out.size)).mono hb.size)
            clear hbq HBN
            go_wp2
            go_ret
            exact ⟨ret_bool (HBk.out (by trivial)).symm, hB1⟩
          · generalize (decide (a' < a) || (a' == a && decide (l' < l))) = L at *
            cases L
            · go_wp2_with fail
              replace x0 := cell_regrown x0
              replace c0 := cell_regrown c0
              replace c1 := cell_regrown c1
              replace c2 := cell_regrown c2
              replace c3 := cell_regrown c3
              replace c4 := cell_regrown c4
              replace c5 := cell_regrown c5
              replace c6 := cell_regrown c6
              replace c7 := cell_regrown c7
              replace c8 := cell_regrown c8
              replace d0 := cell_regrown d0
              replace d1' := cell_regrown d1'
              refine wp_region_quiet_below (by kernel_rfl) (by kernel_rfl) ?_
              repeat (go_big_quiet_step (first | (go_at_call 58; exact Calls.regrown_of (HEk.out _)) | (go_at_call 59; exact Calls.regrown_of (HLk.out _))))
              refine wpQuiet_nil ?_
              intro w1 hw'
              obtain ⟨⟨dq, osq⟩, hw''⟩ := hw'
              have hbq := below_regrown wr dq osq
              rw [← hw''] at hbq
              clear hw'' osq dq
              clear c0 c1 c2 c3 c4 c5 c6 c7 c8 x0 d0 d1'
              have hB1 := hb.trans ((HBN.out.trans (hbq.mono HBN.out.size)).mono hb.size)
              clear hbq HBN
              go_wp2
              go_ret
              exact ⟨ret_bool (HBk.out (by trivial)).symm, hB1⟩
            · go_wp2_with fail
              replace x0 := cell_regrown x0
              replace c0 := cell_regrown c0
              replace c1 := cell_regrown c1
              replace c2 := cell_regrown c2
              replace c3 := cell_regrown c3
              replace c4 := cell_regrown c4
              replace c5 := cell_regrown c5
              replace c6 := cell_regrown c6
              replace c7 := cell_regrown c7
              replace c8 := cell_regrown c8
              replace d0 := cell_regrown d0
              replace d1' := cell_regrown d1'
              refine wp_region_quiet_below (by kernel_rfl) (by kernel_rfl) ?_
              repeat (go_big_quiet_step (first | (go_at_call 58; exact Calls.regrown_of (HEk.out _)) | (go_at_call 59; exact Calls.regrown_of (HLk.out _))))
              refine wpQuiet_nil ?_
              intro w1 hw'
              obtain ⟨⟨dq, osq⟩, hw''⟩ := hw'
              have hbq := below_regrown wr dq osq
              rw [← hw''] at hbq
              clear hw'' osq dq
              clear c0 c1 c2 c3 c4 c5 c6 c7 c8 x0 d0 d1'
              have hB0 := hb0.trans ((HBN.out.trans (hbq.mono HBN.out.size)).mono hb0.size)
              clear hbq HBN
              go_wp2
              go_roundw
              case rel => exact ⟨k + 1, hlt, by go_num, HNx.out (by trivial), hB0⟩
              case measure => simp [intOf]; omega
      · obtain rfl : k = rs.length := by omega
        have d1 : decide ((rs.length : Int) < (rs.length : Int)) = false := by simp
        have hR := HYs.out ha
        clear hlt hk
        go_wp2
        go_ret
        exact ⟨ret_bool hR.symm, hb⟩
  · rw [ribB_long hl]
    have d8 : decide (8 < (rs.length : Int)) = true := by simp; omega
    go_enter Try.func28, Try.ntmps28
    go_wp2
    go_ret
    exact ⟨rfl, ent_new0 w _⟩
end Go.Proofs.Ytpkjkjepmloddaa
/- InstRight, of the program and of the model. (Written by gen_inst.py.) -/
namespace Go.Proofs.Ytpkjkjepmloddaa
open Go.RowKit Go.Sort

def instB (is : List If) (rs : List Rt) (now : Int) : Bool := ifsB is && (ribB rs && (decide (0 ≤ now) && decide (now ≤ 999800)))
set_option maxRecDepth 100000 in
set_option maxHeartbeats 2000000 in
theorem implInst_any (x : Option Addr) (c1 : Nat) (y : Option Addr) (c2 : Nat) (is : List If) (rs : List Rt) (now : Int) (w : World) (h1 : IfsIn w x is) (hc : is.length ≤ c1) (h2 : RtsIn w y rs) (hn1 : is.length ≤ 100000000) (hn2 : rs.length ≤ 100000000) :
    Calls Try.prog 9 #[instV x is.length c1 y rs.length c2 now] w fun e w' => e = .returned (.bool (instB is rs now)) ∧ Below w.heap.size w w' := by
  have HI : Hid (∀ w, IfsIn w x is → Calls Try.prog 32 #[.slice x is.length c1] w fun e w' => e = .returned (.bool (ifsB is)) ∧ Below w.heap.size w w') := fun w h => ifacesRight_any x c1 is w h hc hn1
  have HR : Hid (∀ w, RtsIn w y rs → Calls Try.prog 33 #[.agg #[.slice y rs.length c2]] w fun e w' => e = .returned (.bool (ribB rs)) ∧ Below w.heap.size w w') := fun w h => implRib_any y c2 rs w h hn2
  have HX : Hid (IfsIn w x is ∧ RtsIn w y rs) := ⟨h1, h2⟩
  clear h1 h2 hc hn1 hn2
  unfold instV instB
  generalize is.length = n1 at *
  generalize rs.length = n2 at *
  generalize ifsB is = IB at *
  generalize ribB rs = RBB at *
  have q0 := Row.new w 35 [.slice x n1 c1, .slice y n2 c2, .int .i64 now]
  have HQ : Hid _ := And.intro q0 (ent_new0 w (.cells #[.slice x n1 c1, .slice y n2 c2, .int .i64 now] 35))
  clear q0
  go_enter Try.func9, Try.ntmps9
  go_wp2_with fail
  obtain ⟨q0, hB⟩ := HQ.out
  refine (HI.out _ (HX.out.1.below hB)).mono ?_
  rintro e w1 ⟨rfl, hb1⟩
  have q0 := q0.below hb1 q0.lt
  have hB := hB.trans (hb1.mono hB.size)
  clear hb1 HI HQ
  have x1 : w1.cell? ⟨w.heap.size, 1, none⟩ = some (.slice y n2 c2) := q0.cell 1
  cases IB
  · go_wp2
    go_ret
    exact ⟨rfl, hB⟩
  · go_wp2_with fail
    refine (HR.out _ (HX.out.2.below hB)).mono ?_
    rintro e w2 ⟨rfl, hb2⟩
    have q0 := q0.below hb2 q0.lt
    have hB := hB.trans (hb2.mono hB.size)
    clear hb2 HR x1
    have x2 : w2.cell? ⟨w.heap.size, 2, none⟩ = some (.int .i64 now) := q0.cell 2
    cases RBB
    · go_wp2
      go_ret
      exact ⟨rfl, hB⟩
    · by_cases k1 : 0 ≤ now
      · by_cases k2 : now ≤ 999800
        · go_wp2
          go_ret
          exact ⟨ret_bool (by simp [k1, k2]), hB⟩
        · go_wp2
          go_ret
          exact ⟨ret_bool (by simp; omega), hB⟩
      · go_wp2
        go_ret
        exact ⟨ret_bool (by simp; omega), hB⟩
set_option maxRecDepth 100000 in
set_option maxHeartbeats 2000000 in
theorem specInst_any (x : Option Addr) (c1 : Nat) (y : Option Addr) (c2 : Nat) (is : List If) (rs : List Rt) (now : Int) (w : World) (h1 : IfsIn w x is) (_hc : is.length ≤ c1) (h2 : RtsIn w y rs) (hn1 : is.length ≤ 100000000) (hn2 : rs.length ≤ 100000000) :
    Calls Try.prog 7 #[instV x is.length c1 y rs.length c2 now] w fun e w' => e = .returned (.bool (instB is rs now)) ∧ Below w.heap.size w w' := by
  have HI : Hid (∀ w, IfsIn w x is → Calls Try.prog 27 #[.slice x is.length c1] w fun e w' => e = .returned (.bool (ifsB is)) ∧ Below w.heap.size w w') := fun w h => l07Ifaces_any x c1 is w h hn1
  have HR : Hid (∀ w, RtsIn w y rs → Calls Try.prog 28 #[.agg #[.slice y rs.length c2]] w fun e w' => e = .returned (.bool (ribB rs)) ∧ Below w.heap.size w w') := fun w h => specRib_any y c2 rs w h hn2
  have HN : Hid (∀ w, Calls Try.prog 29 #[.int .i64 now, .int .i64 0, .int .i64 999800] w fun e w' => e = .returned (.bool (decide (0 ≤ now) && decide (now ≤ 999800))) ∧ w = w') := fun w => (l03Is_any now 0 999800 w).mono fun e w' h => by rw [← Bool.decide_and]; exact h
  have HX : Hid (IfsIn w x is ∧ RtsIn w y rs) := ⟨h1, h2⟩
  clear h1 h2 _hc hn1 hn2
  unfold instV instB
  generalize is.length = n1 at *
  generalize rs.length = n2 at *
  generalize ifsB is = IB at *
  generalize ribB rs = RBB at *
  have q0 := Row.new w 35 [.slice x n1 c1, .slice y n2 c2, .int .i64 now]
  have HQ : Hid _ := And.intro q0 (ent_new0 w (.cells #[.slice x n1 c1, .slice y n2 c2, .int .i64 now] 35))
  clear q0
  go_enter Try.func7, Try.ntmps7
  go_wp2_with fail
  obtain ⟨q0, hB⟩ := HQ.out
  refine (HI.out _ (HX.out.1.below hB)).mono ?_
  rintro e w1 ⟨rfl, hb1⟩
  have q0 := q0.below hb1 q0.lt
  have hB := hB.trans (hb1.mono hB.size)
  clear hb1 HI HQ
  have x1 : w1.cell? ⟨w.heap.size, 1, none⟩ = some (.slice y n2 c2) := q0.cell 1
  cases IB
  · go_wp2
    go_ret
    exact ⟨rfl, hB⟩
  · go_wp2_with fail
    refine (HR.out _ (HX.out.2.below hB)).mono ?_
    rintro e w2 ⟨rfl, hb2⟩
    have q0 := q0.below hb2 q0.lt
    have hB := hB.trans (hb2.mono hB.size)
    clear hb2 HR x1
    have x2 : w2.cell? ⟨w.heap.size, 2, none⟩ = some (.int .i64 now) := q0.cell 2
    cases RBB
    · go_wp2
      go_ret
      exact ⟨rfl, hB⟩
    · go_wp2_with fail
      refine (HN.out _).mono ?_
      rintro e w3 ⟨rfl, rfl⟩
      go_wp2
      go_ret
      exact ⟨rfl, hB⟩
end Go.Proofs.Ytpkjkjepmloddaa
/- TenantRight, of the program and of the model. (Written by gen_ten.py.) -/
namespace Go.Proofs.Ytpkjkjepmloddaa
open Go.RowKit Go.Sort

def tenB (is : List If) (rs : List Rt) (now : Int) (key : ByteArray) (qu : Int) (ss : List Sn) (es : List Se) (dr : Int) : Bool := instB is rs now && (inKey key && (decide (1 ≤ qu) && (decide (qu ≤ 6) && (ringB ss qu && (heardB es && inTime dr)))))
theorem Below.same {B : Nat} {w w' : World} (h : w = w') : Below B w w' := by subst h; exact Below.refl _ _
set_option maxRecDepth 100000 in
set_option maxHeartbeats 4000000 in
theorem implTenant_any (x : Option Addr) (c1 : Nat) (y : Option Addr) (c2 : Nat) (p : Option Addr) (c3 : Nat) (q : Option Addr) (c4 : Nat) (is : List If) (rs : List Rt) (now : Int) (key : ByteArray) (qu : Int) (ss : List Sn) (es : List Se) (dr : Int) (w : World) (h : IfsIn w x is ∧ RtsIn w y rs ∧ SnsIn w p ss ∧ SesIn w q es) (hc1 : is.length ≤ c1) (hk : key.size ≤ maxLen) (hx : ∀ s ∈ ss, s.tx.size ≤ 100000000) (hn : is.length ≤ 100000000 ∧ rs.length ≤ 100000000 ∧ ss.length ≤ 100000000 ∧ es.length ≤ 100000000) :
    Calls Try.prog 23 #[tenV x is.length c1 y rs.length c2 now key qu p ss.length c3 q es.length c4 dr] w fun e w' => e = .returned (.bool (tenB is rs now key qu ss es dr)) ∧ Below w.heap.size w w' := by
  have HI : Hid (∀ w, IfsIn w x is → RtsIn w y rs → Calls Try.prog 9 #[.agg #[.slice x is.length c1, .slice y rs.length c2, .int .i64 now]] w fun e w' => e = .returned (.bool (instB is rs now)) ∧ Below w.heap.size w w') := fun w a b => implInst_any x c1 y c2 is rs now w a hc1 b hn.1 hn.2.1
  have HK : Hid (∀ w, Calls Try.prog 50 #[.string key] w fun e w' => e = .returned (.bool (inKey key)) ∧ w = w') := fun w => keyRight_any key w hk
  have HS : Hid (∀ w, SnsIn w p ss → Calls Try.prog 51 #[.slice p ss.length c3, .int .i64 qu] w fun e w' => e = .returned (.bool (ringB ss qu)) ∧ Below w.heap.size w w') := fun w a => ringRight_any p c3 ss qu w a hn.2.2.1 hx
  have HE : Hid (∀ w, SesIn w q es → Calls Try.prog 52 #[.slice q es.length c4] w fun e w' => e = .returned (.bool (heardB es)) ∧ Below w.heap.size w w') := fun w a => heardRight_any q c4 es w a hn.2.2.2
  have HT : Hid (∀ w, Calls Try.prog 53 #[.int .i64 dr] w fun e w' => e = .returned (.bool (inTime dr)) ∧ w = w') := fun w => isTime_any dr w
  have HX : Hid (IfsIn w x is ∧ RtsIn w y rs ∧ SnsIn w p ss ∧ SesIn w q es) := h
  have HR : Hid (tenB is rs now key qu ss es dr = (instB is rs now && (inKey key && (decide (1 ≤ qu) && (decide (qu ≤ 6) && (ringB ss qu && (heardB es && inTime dr))))))) := rfl
  clear h hn hk hx hc1
  generalize tenB is rs now key qu ss es dr = RES at *
  generalize instB is rs now = B1 at *
  generalize inKey key = B2 at *
  generalize ringB ss qu = B3 at *
  generalize heardB es = B4 at *
  generalize inTime dr = B5 at *
  unfold tenV
  generalize is.length = n1 at *
  generalize rs.length = n2 at *
  generalize ss.length = n3 at *
  generalize es.length = n4 at *
  have HQ : Hid _ := And.intro (Row.new w 59 [.slice x n1 c1, .slice y n2 c2, .int .i64 now, .string key, .int .i64 qu, .slice p n3 c3, .slice q n4 c4, .int .i64 dr]) (ent_new0 w (.cells #[.slice x n1 c1, .slice y n2 c2, .int .i64 now, .string key, .int .i64 qu, .slice p n3 c3, .slice q n4 c4, .int .i64 dr] 59))
  go_enter Try.func23, Try.ntmps23
  go_wp2_with fail
  obtain ⟨r0, hB⟩ := HQ.out
  clear HQ
  refine (HI.out _ (HX.out.1.below hB) (HX.out.2.1.below hB)).mono ?_
  rintro e w1 ⟨rfl, hb1⟩
  have r0 := r0.below hb1 r0.lt
  have hB := hB.trans (hb1.mono hB.size)
  clear hb1
  have hR := HR.out
  clear HR HI
  cases B1
  · simp only [Bool.false_and] at hR
    go_wp2
    go_ret
    exact ⟨by first | rfl | (rw [hR]; rfl) | (rw [← hR]; rfl), hB⟩
  rw [Bool.true_and] at hR
  have s0 : w1.cell? ⟨w.heap.size, 0, none⟩ = some (.slice x n1 c1) := r0.cell 0
  have s1 : w1.cell? ⟨w.heap.size, 1, none⟩ = some (.slice y n2 c2) := r0.cell 1
  have s2 : w1.cell? ⟨w.heap.size, 2, none⟩ = some (.int .i64 now) := r0.cell 2
  have s3 : w1.cell? ⟨w.heap.size, 3, none⟩ = some (.string key) := r0.cell 3
  have s4 : w1.cell? ⟨w.heap.size, 4, none⟩ = some (.int .i64 qu) := r0.cell 4
  have s5 : w1.cell? ⟨w.heap.size, 5, none⟩ = some (.slice p n3 c3) := r0.cell 5
  have s6 : w1.cell? ⟨w.heap.size, 6, none⟩ = some (.slice q n4 c4) := r0.cell 6
  have s7 : w1.cell? ⟨w.heap.size, 7, none⟩ = some (.int .i64 dr) := r0.cell 7
  go_wp2_with fail
  clear s0 s1 s2 s3 s4 s5 s6 s7
  refine (HK.out _).mono ?_
  rintro e w2 ⟨rfl, rfl⟩
  clear HK
  cases B2
  · simp only [Bool.false_and] at hR
    go_wp2
    go_ret
    exact ⟨by first | rfl | (rw [hR]; rfl) | (rw [← hR]; rfl), hB⟩
  rw [Bool.true_and] at hR
  have s0 : w1.cell? ⟨w.heap.size, 0, none⟩ = some (.slice x n1 c1) := r0.cell 0
  have s1 : w1.cell? ⟨w.heap.size, 1, none⟩ = some (.slice y n2 c2) := r0.cell 1
  have s2 : w1.cell? ⟨w.heap.size, 2, none⟩ = some (.int .i64 now) := r0.cell 2
  have s3 : w1.cell? ⟨w.heap.size, 3, none⟩ = some (.string key) := r0.cell 3
  have s4 : w1.cell? ⟨w.heap.size, 4, none⟩ = some (.int .i64 qu) := r0.cell 4
  have s5 : w1.cell? ⟨w.heap.size, 5, none⟩ = some (.slice p n3 c3) := r0.cell 5
  have s6 : w1.cell? ⟨w.heap.size, 6, none⟩ = some (.slice q n4 c4) := r0.cell 6
  have s7 : w1.cell? ⟨w.heap.size, 7, none⟩ = some (.int .i64 dr) := r0.cell 7
  by_cases k1 : 1 ≤ qu
  case neg =>
    have d1 : decide (1 ≤ qu) = false := by simpa using k1
    rw [d1, Bool.false_and] at hR
    go_wp2
    go_ret
    exact ⟨by first | rfl | (rw [hR]; rfl) | (rw [← hR]; rfl), hB⟩
  have d1 : decide (1 ≤ qu) = true := by simpa using k1
  rw [d1, Bool.true_and] at hR
  by_cases k2 : qu ≤ 6
  case neg =>
    have d2 : decide (qu ≤ 6) = false := by simpa using k2
    rw [d2, Bool.false_and] at hR
    go_wp2
    go_ret
    exact ⟨by first | rfl | (rw [hR]; rfl) | (rw [← hR]; rfl), hB⟩
  have d2 : decide (qu ≤ 6) = true := by simpa using k2
  rw [d2, Bool.true_and] at hR
  go_wp2_with fail
  clear s0 s1 s2 s3 s4 s5 s6 s7
  refine (HS.out _ (HX.out.2.2.1.below hB)).mono ?_
  rintro e w3 ⟨rfl, hb3⟩
  have r0 := r0.below hb3 r0.lt
  have hB := hB.trans (hb3.mono hB.size)
  clear hb3
  clear HS
  cases B3
  · simp only [Bool.false_and] at hR
    go_wp2
    go_ret
    exact ⟨by first | rfl | (rw [hR]; rfl) | (rw [← hR]; rfl), hB⟩
  rw [Bool.true_and] at hR
  have s0 : w3.cell? ⟨w.heap.size, 0, none⟩ = some (.slice x n1 c1) := r0.cell 0
  have s1 : w3.cell? ⟨w.heap.size, 1, none⟩ = some (.slice y n2 c2) := r0.cell 1
  have s2 : w3.cell? ⟨w.heap.size, 2, none⟩ = some (.int .i64 now) := r0.cell 2
  have s3 : w3.cell? ⟨w.heap.size, 3, none⟩ = some (.string key) := r0.cell 3
  have s4 : w3.cell? ⟨w.heap.size, 4, none⟩ = some (.int .i64 qu) := r0.cell 4
  have s5 : w3.cell? ⟨w.heap.size, 5, none⟩ = some (.slice p n3 c3) := r0.cell 5
  have s6 : w3.cell? ⟨w.heap.size, 6, none⟩ = some (.slice q n4 c4) := r0.cell 6
  have s7 : w3.cell? ⟨w.heap.size, 7, none⟩ = some (.int .i64 dr) := r0.cell 7
  go_wp2_with fail
  clear s0 s1 s2 s3 s4 s5 s6 s7
  refine (HE.out _ (HX.out.2.2.2.below hB)).mono ?_
  rintro e w4 ⟨rfl, hb4⟩
  have r0 := r0.below hb4 r0.lt
  have hB := hB.trans (hb4.mono hB.size)
  clear hb4
  clear HE
  cases B4
  · simp only [Bool.false_and] at hR
    go_wp2
    go_ret
    exact ⟨by first | rfl | (rw [hR]; rfl) | (rw [← hR]; rfl), hB⟩
  rw [Bool.true_and] at hR
  have s0 : w4.cell? ⟨w.heap.size, 0, none⟩ = some (.slice x n1 c1) := r0.cell 0
  have s1 : w4.cell? ⟨w.heap.size, 1, none⟩ = some (.slice y n2 c2) := r0.cell 1
  have s2 : w4.cell? ⟨w.heap.size, 2, none⟩ = some (.int .i64 now) := r0.cell 2
  have s3 : w4.cell? ⟨w.heap.size, 3, none⟩ = some (.string key) := r0.cell 3
  have s4 : w4.cell? ⟨w.heap.size, 4, none⟩ = some (.int .i64 qu) := r0.cell 4
  have s5 : w4.cell? ⟨w.heap.size, 5, none⟩ = some (.slice p n3 c3) := r0.cell 5
  have s6 : w4.cell? ⟨w.heap.size, 6, none⟩ = some (.slice q n4 c4) := r0.cell 6
  have s7 : w4.cell? ⟨w.heap.size, 7, none⟩ = some (.int .i64 dr) := r0.cell 7
  go_wp2_with fail
  clear s0 s1 s2 s3 s4 s5 s6 s7
  refine (HT.out _).mono ?_
  rintro e w5 ⟨rfl, rfl⟩
  clear HT
  go_wp2
  go_ret
  exact ⟨by first | rfl | (rw [hR]; rfl) | (rw [← hR]; rfl), hB⟩
set_option maxRecDepth 100000 in
set_option maxHeartbeats 4000000 in
theorem specTenant_any (x : Option Addr) (c1 : Nat) (y : Option Addr) (c2 : Nat) (p : Option Addr) (c3 : Nat) (q : Option Addr) (c4 : Nat) (is : List If) (rs : List Rt) (now : Int) (key : ByteArray) (qu : Int) (ss : List Sn) (es : List Se) (dr : Int) (w : World) (h : IfsIn w x is ∧ RtsIn w y rs ∧ SnsIn w p ss ∧ SesIn w q es) (hc1 : is.length ≤ c1) (hk : key.size ≤ maxLen) (hx : ∀ s ∈ ss, s.tx.size ≤ 100000000) (hn : is.length ≤ 100000000 ∧ rs.length ≤ 100000000 ∧ ss.length ≤ 100000000 ∧ es.length ≤ 100000000) :
    Calls Try.prog 21 #[tenV x is.length c1 y rs.length c2 now key qu p ss.length c3 q es.length c4 dr] w fun e w' => e = .returned (.bool (tenB is rs now key qu ss es dr)) ∧ Below w.heap.size w w' := by
  have HI : Hid (∀ w, IfsIn w x is → RtsIn w y rs → Calls Try.prog 7 #[.agg #[.slice x is.length c1, .slice y rs.length c2, .int .i64 now]] w fun e w' => e = .returned (.bool (instB is rs now)) ∧ Below w.heap.size w w') := fun w a b => specInst_any x c1 y c2 is rs now w a hc1 b hn.1 hn.2.1
  have HK : Hid (∀ w, Calls Try.prog 45 #[.string key] w fun e w' => e = .returned (.bool (inKey key)) ∧ w = w') := fun w => specKey_any key w hk
  have HQ6 : Hid (∀ w, Calls Try.prog 29 #[.int .i64 qu, .int .i64 1, .int .i64 6] w fun e w' => e = .returned (.bool (decide (1 ≤ qu ∧ qu ≤ 6))) ∧ w = w') := fun w => l03Is_any qu 1 6 w
  have HF : Hid (∀ a w, Calls Try.prog 29 #[.int .i64 a, .int .i64 0, .int .i64 2] w fun e w' => e = .returned (.bool (decide (0 ≤ a ∧ a ≤ 2))) ∧ w = w') := fun a w => l03Is_any a 0 2 w
  have HE : Hid (∀ w, SesIn w q es → Calls Try.prog 46 #[.slice q es.length c4] w fun e w' => e = .returned (.bool (heardB es)) ∧ Below w.heap.size w w') := fun w a => specHeard_any q c4 es w a hn.2.2.2
  have HT : Hid (∀ w, Calls Try.prog 47 #[.int .i64 dr] w fun e w' => e = .returned (.bool (inTime dr)) ∧ w = w') := fun w => l03Time_any dr w
  have HX : Hid (IfsIn w x is ∧ RtsIn w y rs ∧ SnsIn w p ss ∧ SesIn w q es) := h
  have HR : Hid (tenB is rs now key qu ss es dr = (instB is rs now && (inKey key && (decide (1 ≤ qu ∧ qu ≤ 6) && (ringB ss qu && (heardB es && inTime dr)))))) := by show _ = _; unfold tenB; rw [Bool.decide_and, Bool.and_assoc]
  have HL : Hid (qu < (ss.length : Int) → ringB ss qu = false) := fun h => ringB_long (by omega)
  have HB1 : Hid (∀ k (hk : k < ss.length), snB ss[k] = false → ringB ss qu = false) := fun k hk h => ringB_bad hk h
  have HG : Hid ((ss.length : Int) ≤ qu → (∀ j (hj : j < ss.length), snB ss[j] = true) → ringB ss qu = true) := fun a b => ringB_good a b
  have HZ : Hid (∀ s ∈ ss, s.tx.size ≤ 100000000) := hx
  have hn3 := hn.2.2.1
  clear h hn hk hx hc1
  generalize tenB is rs now key qu ss es dr = RES at *
  generalize instB is rs now = B1 at *
  generalize inKey key = B2 at *
  generalize ringB ss qu = B3 at *
  generalize heardB es = B4 at *
  generalize inTime dr = B5 at *
  unfold tenV
  generalize is.length = n1 at *
  generalize rs.length = n2 at *
  generalize es.length = n4 at *
  have HQ : Hid _ := And.intro (Row.new w 59 [.slice x n1 c1, .slice y n2 c2, .int .i64 now, .string key, .int .i64 qu, .slice p ss.length c3, .slice q n4 c4, .int .i64 dr]) (ent_new0 w (.cells #[.slice x n1 c1, .slice y n2 c2, .int .i64 now, .string key, .int .i64 qu, .slice p ss.length c3, .slice q n4 c4, .int .i64 dr] 59))
  go_enter Try.func21, Try.ntmps21
  go_wp2_with fail
  obtain ⟨r0, hB⟩ := HQ.out
  clear HQ
  refine (HI.out _ (HX.out.1.below hB) (HX.out.2.1.below hB)).mono ?_
  rintro e w1 ⟨rfl, hb1⟩
  have r0 := r0.below hb1 r0.lt
  have hB := hB.trans (hb1.mono hB.size)
  clear hb1
  have hR := HR.out
  clear HR HI
  cases B1
  · simp only [Bool.false_and] at hR
    go_wp2
    go_ret
    exact ⟨by first | rfl | (rw [hR]; rfl) | (rw [← hR]; rfl), hB⟩
  rw [Bool.true_and] at hR
  have s0 : w1.cell? ⟨w.heap.size, 0, none⟩ = some (.slice x n1 c1) := r0.cell 0
  have s1 : w1.cell? ⟨w.heap.size, 1, none⟩ = some (.slice y n2 c2) := r0.cell 1
  have s2 : w1.cell? ⟨w.heap.size, 2, none⟩ = some (.int .i64 now) := r0.cell 2
  have s3 : w1.cell? ⟨w.heap.size, 3, none⟩ = some (.string key) := r0.cell 3
  have s4 : w1.cell? ⟨w.heap.size, 4, none⟩ = some (.int .i64 qu) := r0.cell 4
  have s5 : w1.cell? ⟨w.heap.size, 5, none⟩ = some (.slice p ss.length c3) := r0.cell 5
  have s6 : w1.cell? ⟨w.heap.size, 6, none⟩ = some (.slice q n4 c4) := r0.cell 6
  have s7 : w1.cell? ⟨w.heap.size, 7, none⟩ = some (.int .i64 dr) := r0.cell 7
  go_wp2_with fail
  clear s0 s1 s2 s3 s4 s5 s6 s7
  refine (HK.out _).mono ?_
  rintro e w2 ⟨rfl, rfl⟩
  clear HK
  cases B2
  · simp only [Bool.false_and] at hR
    go_wp2
    go_ret
    exact ⟨by first | rfl | (rw [hR]; rfl) | (rw [← hR]; rfl), hB⟩
  rw [Bool.true_and] at hR
  have s0 : w1.cell? ⟨w.heap.size, 0, none⟩ = some (.slice x n1 c1) := r0.cell 0
  have s1 : w1.cell? ⟨w.heap.size, 1, none⟩ = some (.slice y n2 c2) := r0.cell 1
  have s2 : w1.cell? ⟨w.heap.size, 2, none⟩ = some (.int .i64 now) := r0.cell 2
  have s3 : w1.cell? ⟨w.heap.size, 3, none⟩ = some (.string key) := r0.cell 3
  have s4 : w1.cell? ⟨w.heap.size, 4, none⟩ = some (.int .i64 qu) := r0.cell 4
  have s5 : w1.cell? ⟨w.heap.size, 5, none⟩ = some (.slice p ss.length c3) := r0.cell 5
  have s6 : w1.cell? ⟨w.heap.size, 6, none⟩ = some (.slice q n4 c4) := r0.cell 6
  have s7 : w1.cell? ⟨w.heap.size, 7, none⟩ = some (.int .i64 dr) := r0.cell 7
  go_wp2_with fail
  clear s0 s1 s2 s3 s4 s5 s6 s7
  refine (HQ6.out _).mono ?_
  rintro e w3 ⟨rfl, rfl⟩
  clear HQ6
  by_cases k1 : 1 ≤ qu ∧ qu ≤ 6
  case neg =>
    have d1 : decide (1 ≤ qu ∧ qu ≤ 6) = false := decide_eq_false k1
    rw [d1, Bool.false_and] at hR
    rw [d1]
    go_wp2
    go_ret
    exact ⟨by first | rfl | (rw [hR]; rfl) | (rw [← hR]; rfl), hB⟩
  have d1 : decide (1 ≤ qu ∧ qu ≤ 6) = true := decide_eq_true k1
  rw [d1, Bool.true_and] at hR
  rw [d1]
  have K1 : Hid _ := k1
  clear d1 k1
  have s0 : w1.cell? ⟨w.heap.size, 0, none⟩ = some (.slice x n1 c1) := r0.cell 0
  have s1 : w1.cell? ⟨w.heap.size, 1, none⟩ = some (.slice y n2 c2) := r0.cell 1
  have s2 : w1.cell? ⟨w.heap.size, 2, none⟩ = some (.int .i64 now) := r0.cell 2
  have s3 : w1.cell? ⟨w.heap.size, 3, none⟩ = some (.string key) := r0.cell 3
  have s4 : w1.cell? ⟨w.heap.size, 4, none⟩ = some (.int .i64 qu) := r0.cell 4
  have s5 : w1.cell? ⟨w.heap.size, 5, none⟩ = some (.slice p ss.length c3) := r0.cell 5
  have s6 : w1.cell? ⟨w.heap.size, 6, none⟩ = some (.slice q n4 c4) := r0.cell 6
  have s7 : w1.cell? ⟨w.heap.size, 7, none⟩ = some (.int .i64 dr) := r0.cell 7
  by_cases k2 : (ss.length : Int) ≤ qu
  case neg =>
    have d2 : decide (qu < (ss.length : Int)) = true := by simp; omega
    have hL := HL.out (by omega)
    subst hL
    simp only [Bool.false_and] at hR
    go_wp2
    go_ret
    exact ⟨by first | rfl | (rw [hR]; rfl) | (rw [← hR]; rfl), hB⟩
  have d2 : decide (qu < (ss.length : Int)) = false := by simp; omega
  have K2 : Hid ((ss.length : Int) ≤ qu) := k2
  clear k2
  go_wp2_with fail
  clear s0 s1 s2 s3 s4 s5 s6 s7 d2
  refine (HE.out _ (HX.out.2.2.2.below hB)).mono ?_
  rintro e w4 ⟨rfl, hb4⟩
  have r0 := r0.below hb4 r0.lt
  have hB := hB.trans (hb4.mono hB.size)
  clear hb4
  clear HE
  cases B4
  · simp only [Bool.false_and, Bool.and_false] at hR
    go_wp2
    go_ret
    exact ⟨by first | rfl | (rw [hR]; rfl) | (rw [← hR]; rfl), hB⟩
  rw [Bool.true_and] at hR
  have s0 : w4.cell? ⟨w.heap.size, 0, none⟩ = some (.slice x n1 c1) := r0.cell 0
  have s1 : w4.cell? ⟨w.heap.size, 1, none⟩ = some (.slice y n2 c2) := r0.cell 1
  have s2 : w4.cell? ⟨w.heap.size, 2, none⟩ = some (.int .i64 now) := r0.cell 2
  have s3 : w4.cell? ⟨w.heap.size, 3, none⟩ = some (.string key) := r0.cell 3
  have s4 : w4.cell? ⟨w.heap.size, 4, none⟩ = some (.int .i64 qu) := r0.cell 4
  have s5 : w4.cell? ⟨w.heap.size, 5, none⟩ = some (.slice p ss.length c3) := r0.cell 5
  have s6 : w4.cell? ⟨w.heap.size, 6, none⟩ = some (.slice q n4 c4) := r0.cell 6
  have s7 : w4.cell? ⟨w.heap.size, 7, none⟩ = some (.int .i64 dr) := r0.cell 7
  go_wp2_with fail
  clear s0 s1 s2 s3 s4 s5 s6 s7
  refine (HT.out _).mono ?_
  rintro e w5 ⟨rfl, rfl⟩
  clear HT
  cases B5
  · simp only [Bool.and_false] at hR
    go_wp2
    go_ret
    exact ⟨by first | rfl | (rw [hR]; rfl) | (rw [← hR]; rfl), hB⟩
  rw [Bool.and_true] at hR
  have HRR : Hid (RES = B3) := hR
  have HB4 : Hid _ := And.intro r0 hB
  clear hR r0 hB
  go_wp2_with fail
  go_loopw [3] (fun i wr => ∃ k : Nat, k ≤ ss.length ∧ i = .int .i64 k ∧ (∀ j (hj : j < ss.length), j < k → snB ss[j] = true) ∧ Row wr w.heap.size 59 [.slice x n1 c1, .slice y n2 c2, .int .i64 now, .string key, .int .i64 qu, .slice p ss.length c3, .slice q n4 c4, .int .i64 dr] ∧ Below w.heap.size w wr) (fun i _ => ss.length - (intOf i).toNat)
  case atStart => exact ⟨0, Nat.zero_le _, rfl, fun j _ hj => absurd hj (by omega), HB4.out.1, HB4.out.2⟩
  case round =>
    clear HB4
    obtain ⟨k, hk, rfl, ha, rk, hBk⟩ := hrel
    have s5 : wr.cell? ⟨w.heap.size, 5, none⟩ = some (.slice p ss.length c3) := rk.cell 5
    by_cases hlt : k < ss.length
    · have d1 : decide ((k : Int) < (ss.length : Int)) = true := by simpa using hlt
      obtain ⟨g, fc, tx, rfl, hg, hek, c0, c1⟩ := (HX.out.2.2.1.below hBk).at k hlt
      have hsz := HZ.out ss[k] (List.getElem_mem hlt)
      have HBad : Hid (snB ss[k] = false → B3 = false) := HB1.out k hlt
      have HNx : Hid (snB ss[k] = true → ∀ j (hj : j < ss.length), j < k + 1 → snB ss[j] = true) := fun h j hj hjk => by
        rcases Nat.lt_or_ge j k with h' | h'
        · exact ha j hj h'
        · obtain rfl : j = k := by omega
          exact h
      rw [hek] at HBad HNx hsz
      simp only at hsz
      have e1 : snB ⟨fc, tx⟩ = (decide (0 ≤ fc ∧ fc ≤ 2) && decide (tx.size ≤ 1000)) := rfl
      rw [e1] at HBad HNx
      have HBB : Hid _ := And.intro rk hBk
      have HFk : Hid (∀ w, Calls Try.prog 29 #[.int .i64 fc, .int .i64 0, .int .i64 2] w fun e w' => e = .returned (.bool (decide (0 ≤ fc ∧ fc ≤ 2))) ∧ w = w') := HF.out fc
      clear HB1 HG ha hek e1 rk hBk HF
      go_wp2_with fail
      refine (HFk.out _).mono ?_
      rintro e w2 ⟨rfl, rfl⟩
      cases hL : decide (0 ≤ fc ∧ fc ≤ 2)
      · have hR := HBad.out (by rw [hL]; rfl)
        have hR := HRR.out.trans hR
        clear hL HRR HBad
        go_wp2
        go_ret
        exact ⟨by first | rfl | (rw [hR]; rfl) | (rw [← hR]; rfl), HBB.out.2⟩
      · have hL2 : Hid _ := hL
        clear hL
        by_cases z4 : 1000 < tx.size
        · have z5 : decide (1000 < (tx.size : Int)) = true := by simp; omega
          have hR := HBad.out (by rw [decide_eq_false (show ¬ tx.size ≤ 1000 by omega), Bool.and_false])
          have hR := HRR.out.trans hR
          clear HRR HBad
          go_wp2
          go_ret
          exact ⟨by first | rfl | (rw [hR]; rfl) | (rw [← hR]; rfl), HBB.out.2⟩
        · have z5 : decide (1000 < (tx.size : Int)) = false := by simp; omega
          have HN := HNx.out (by rw [hL2.out, decide_eq_true (show tx.size ≤ 1000 by omega)]; rfl)
          have HNN : Hid _ := HN
          clear HN HNx HBad hL2
          go_wp2_with fail
          clear c0 c1 s5
          go_roundw
          case rel => exact ⟨k + 1, hlt, by go_num, HNN.out, HBB.out.1, HBB.out.2⟩
          case measure => simp [intOf]; omega
    · obtain rfl : k = ss.length := by omega
      have d1 : decide ((ss.length : Int) < (ss.length : Int)) = false := by simp
      have hR := HRR.out.trans (HG.out K2.out (fun j hj => ha j hj hj))
      clear hlt hk HB1 HG HX ha HRR
      go_wp2
      go_ret
      exact ⟨by first | rfl | (rw [hR]; rfl) | (rw [← hR]; rfl), hBk⟩
end Go.Proofs.Ytpkjkjepmloddaa
/- A Tenant in one piece: what it is, and where it lies. (Written by gen_opten.py.) -/
namespace Go.Proofs.Ytpkjkjepmloddaa
open Go.RowKit Go.Sort

/-- What a Tenant is. -/
structure Tn where
  is : List If
  rs : List Rt
  now : Int
  key : ByteArray
  qu : Int
  ss : List Sn
  es : List Se
  dr : Int
deriving Inhabited
/-- Where a Tenant's lists lie, and how far they reach. -/
structure Tp where
  x : Option Addr
  c1 : Nat
  y : Option Addr
  c2 : Nat
  p : Option Addr
  c3 : Nat
  q : Option Addr
  c4 : Nat
deriving Inhabited
def tnL (a : Tp) (t : Tn) : List Value := [.slice a.x t.is.length a.c1, .slice a.y t.rs.length a.c2, .int .i64 t.now, .string t.key, .int .i64 t.qu, .slice a.p t.ss.length a.c3, .slice a.q t.es.length a.c4, .int .i64 t.dr]
def tnV (a : Tp) (t : Tn) : Value := .agg #[.slice a.x t.is.length a.c1, .slice a.y t.rs.length a.c2, .int .i64 t.now, .string t.key, .int .i64 t.qu, .slice a.p t.ss.length a.c3, .slice a.q t.es.length a.c4, .int .i64 t.dr]
theorem tnV_eq (a : Tp) (t : Tn) : tnV a t = tenV a.x t.is.length a.c1 a.y t.rs.length a.c2 t.now t.key t.qu a.p t.ss.length a.c3 a.q t.es.length a.c4 t.dr := rfl
/-- It was handed in so. -/
def ArgT (w : World) (a : Tp) (t : Tn) : Prop := ArgI w a.x t.is.length t.is ∧ ArgR w a.y t.rs.length t.rs ∧ ArgSn w a.p t.ss.length t.ss ∧ ArgSe w a.q t.es.length t.es
theorem ArgT.below {w w' : World} {a : Tp} {t : Tn} (h : ArgT w a t) (hb : Below w.heap.size w w') : ArgT w' a t := ⟨h.1.below hb, h.2.1.below hb, h.2.2.1.below hb, h.2.2.2.below hb⟩
/-- It lies so. -/
def InT (w : World) (a : Tp) (t : Tn) : Prop := IfsIn w a.x t.is ∧ RtsIn w a.y t.rs ∧ SnsIn w a.p t.ss ∧ SesIn w a.q t.es
theorem InT.below {w w' : World} {a : Tp} {t : Tn} (h : InT w a t) (hb : Below w.heap.size w w') : InT w' a t := ⟨h.1.below hb, h.2.1.below hb, h.2.2.1.below hb, h.2.2.2.below hb⟩
theorem InT.alloc {w : World} {a : Tp} {t : Tn} (h : InT w a t) (o : Obj) : InT (w.alloc o) a t := h.below (ent_new0 w o)
end Go.Proofs.Ytpkjkjepmloddaa
/- The laws' own Tenants handed in: opened. (Written by gen_opten.py.) -/
namespace Go.Proofs.Ytpkjkjepmloddaa
open Go.ChangeShapes Go.WideShapes Go.RowKit Go.Sort Go.Deep Go.Joins Go.WideElems Go.Maps

theorem Try.cellsTn : Try.prog.cellsOf 53 = 8 := by kernel_rfl
theorem Try.cellsTnI : Try.prog.cellsOf 27 = 3 := by kernel_rfl
theorem Try.cellsTnS : Try.prog.cellsOf 9 = 1 := by kernel_rfl
theorem Try.cellsTnN : Try.prog.cellsOf 2 = 1 := by kernel_rfl
theorem Try.cellsTnR : Try.prog.cellsOf 50 = 1 := by kernel_rfl
theorem Try.cellsTnH : Try.prog.cellsOf 51 = 1 := by kernel_rfl
def TnW (t : Tn) : Prop := t.key.size ≤ maxLen ∧ (Lit.int .i64 t.now).wf = true ∧ (Lit.int .i64 t.qu).wf = true ∧ (Lit.int .i64 t.dr).wf = true
section
variable {H : Type} {enc : TypeId × Value → H} {w : World} {base : Nat} {spare : Nat → Bool} {held : Bool}
set_option maxRecDepth 100000 in
set_option maxHeartbeats 4000000 in
theorem open_inst3 {fuel : Nat} {e0 e1 e2 : Value} {x : DataW H × List MemPlace} (h : DataW.trod enc Try.prog w base spare held fuel 27 [e0, e1, e2] = some x) :
    ∃ x n1 c1 is y n2 c2 rs now, e0 = .slice x n1 c1 ∧ e1 = .slice y n2 c2 ∧ e2 = .int .i64 now ∧ ArgI w x n1 is ∧ ArgR w y n2 rs ∧ (Lit.int .i64 now).wf = true := by
  obtain ⟨xs, n, _, _, hl, hx, hg⟩ := DataW.trod_struct Try.underlying27 h
  match xs, hx with
  | [y0, y1, y2], _ =>
    have h0 : DataW.trod enc Try.prog w base spare held n 22 ((([e0, e1, e2] : List Value).drop 0).take (Try.prog.cellsOf 22)) = [y0, y1, y2][0]? := hg 0 _ rfl
    rw [Try.cellsIfsI] at h0
    replace h0 : DataW.trod enc Try.prog w base spare held n 22 [e0] = some y0 := h0
    have h1 : DataW.trod enc Try.prog w base spare held n 25 ((([e0, e1, e2] : List Value).drop 1).take (Try.prog.cellsOf 25)) = [y0, y1, y2][1]? := hg 1 _ rfl
    rw [Try.cellsRibI] at h1
    replace h1 : DataW.trod enc Try.prog w base spare held n 25 [e1] = some y1 := h1
    have h2 : DataW.trod enc Try.prog w base spare held n 2 ((([e0, e1, e2] : List Value).drop 2).take (Try.prog.cellsOf 2)) = [y0, y1, y2][2]? := hg 2 _ rfl
    rw [Try.cellsIntN] at h2
    replace h2 : DataW.trod enc Try.prog w base spare held n 2 [e2] = some y2 := h2
    obtain ⟨xs', n', _, _, hl', hx', hg'⟩ := DataW.trod_struct Try.underlying25 h1
    match xs', hx' with
    | [z0], _ =>
      have k0 : DataW.trod enc Try.prog w base spare held n' 23 ((([e1] : List Value).drop 0).take (Try.prog.cellsOf 23)) = [z0][0]? := hg' 0 _ rfl
      rw [Try.cellsRibS] at k0
      replace k0 : DataW.trod enc Try.prog w base spare held n' 23 [e1] = some z0 := k0
      obtain ⟨x, n1, c1, is, rfl, hA⟩ := open_ifs h0
      obtain ⟨y, n2, c2, rs, rfl, hR⟩ := open_rts k0
      obtain ⟨now, en, _, wn⟩ := DataW.trod_int Try.underlying2 h2
      simp only [List.cons.injEq, and_true] at en
      subst en
      exact ⟨x, n1, c1, is, y, n2, c2, rs, now, rfl, rfl, rfl, hA, hR, wn⟩
set_option maxRecDepth 100000 in
set_option maxHeartbeats 4000000 in
theorem open_tn {fuel : Nat} {cs : List Value} {x : DataW H × List MemPlace} (h : DataW.trod enc Try.prog w base spare held fuel 53 cs = some x) : ∃ (a : Tp) (t : Tn), cs = tnL a t ∧ ArgT w a t ∧ TnW t := by
  obtain ⟨xs, n, _, _, hl, hx, hg⟩ := DataW.trod_struct Try.underlying53 h
  rw [Try.cellsTn] at hl
  match cs, hl, xs, hx with
  | [c0, c1, c2, c3, c4, c5, c6, c7], _, [y0, y1, y2, y3, y4, y5], _ =>
    have h0 : DataW.trod enc Try.prog w base spare held n 27 ((([c0, c1, c2, c3, c4, c5, c6, c7] : List Value).drop 0).take (Try.prog.cellsOf 27)) = [y0, y1, y2, y3, y4, y5][0]? := hg 0 _ rfl
    rw [Try.cellsTnI] at h0
    replace h0 : DataW.trod enc Try.prog w base spare held n 27 [c0, c1, c2] = some y0 := h0
    have h1 : DataW.trod enc Try.prog w base spare held n 9 ((([c0, c1, c2, c3, c4, c5, c6, c7] : List Value).drop 3).take (Try.prog.cellsOf 9)) = [y0, y1, y2, y3, y4, y5][1]? := hg 1 _ rfl
    rw [Try.cellsTnS] at h1
    replace h1 : DataW.trod enc Try.prog w base spare held n 9 [c3] = some y1 := h1
    have h2 : DataW.trod enc Try.prog w base spare held n 2 ((([c0, c1, c2, c3, c4, c5, c6, c7] : List Value).drop 4).take (Try.prog.cellsOf 2)) = [y0, y1, y2, y3, y4, y5][2]? := hg 2 _ rfl
    rw [Try.cellsTnN] at h2
    replace h2 : DataW.trod enc Try.prog w base spare held n 2 [c4] = some y2 := h2
    have h3 : DataW.trod enc Try.prog w base spare held n 50 ((([c0, c1, c2, c3, c4, c5, c6, c7] : List Value).drop 5).take (Try.prog.cellsOf 50)) = [y0, y1, y2, y3, y4, y5][3]? := hg 3 _ rfl
    rw [Try.cellsTnR] at h3
    replace h3 : DataW.trod enc Try.prog w base spare held n 50 [c5] = some y3 := h3
    have h4 : DataW.trod enc Try.prog w base spare held n 51 ((([c0, c1, c2, c3, c4, c5, c6, c7] : List Value).drop 6).take (Try.prog.cellsOf 51)) = [y0, y1, y2, y3, y4, y5][4]? := hg 4 _ rfl
    rw [Try.cellsTnH] at h4
    replace h4 : DataW.trod enc Try.prog w base spare held n 51 [c6] = some y4 := h4
    have h5 : DataW.trod enc Try.prog w base spare held n 2 ((([c0, c1, c2, c3, c4, c5, c6, c7] : List Value).drop 7).take (Try.prog.cellsOf 2)) = [y0, y1, y2, y3, y4, y5][5]? := hg 5 _ rfl
    rw [Try.cellsTnN] at h5
    replace h5 : DataW.trod enc Try.prog w base spare held n 2 [c7] = some y5 := h5
    obtain ⟨x, n1, k1, is, y, n2, k2, rs, now, rfl, rfl, rfl, hI, hR, wn⟩ := open_inst3 h0
    obtain ⟨key, ek, _, wk⟩ := DataW.trod_string Try.underlying9 h1
    obtain ⟨qu, eq, _, wq⟩ := DataW.trod_int Try.underlying2 h2
    obtain ⟨p, n3, k3, ss, rfl, hS⟩ := open_sns h3
    obtain ⟨q, n4, k4, es, rfl, hE⟩ := open_ses h4
    obtain ⟨dr, ed, _, wd⟩ := DataW.trod_int Try.underlying2 h5
    simp only [List.cons.injEq, and_true] at ek eq ed
    subst ek eq ed
    obtain rfl : is.length = n1 := hI.1
    obtain rfl : rs.length = n2 := hR.1
    obtain rfl : ss.length = n3 := hS.1
    obtain rfl : es.length = n4 := hE.1
    exact ⟨⟨x, k1, y, k2, p, k3, q, k4⟩, ⟨is, rs, now, key, qu, ss, es, dr⟩, rfl, ⟨hI, hR, hS, hE⟩, wk, wn, wq, wd⟩
set_option maxRecDepth 100000 in
set_option maxHeartbeats 4000000 in
theorem open_tnV {r : Reach} {b0 : Nat} {v : Value} {d : DataW H} {p : List MemPlace} (hv : Value.okWide Try.prog w r b0 53 v) (h : DataW.Trod enc Try.prog w base spare held 53 v d p) :
    ∃ (a : Tp) (t : Tn), v = tnV a t ∧ ArgT w a t ∧ TnW t := by
  obtain ⟨cs, rfl, hsz⟩ := okWide_struct Try.underlying53 hv
  obtain ⟨fuel, hf⟩ := h
  obtain ⟨a, t, he, hA, hW⟩ := open_tn hf
  refine ⟨a, t, ?_, hA, hW⟩
  obtain ⟨l⟩ := cs
  simp only [Value.cells] at he
  subst he
  rfl
end
end Go.Proofs.Ytpkjkjepmloddaa
