/- An Inst of the laws: measured, handed over, held against another one, opened. (Written by gen_inst.py.) -/
import Derived.Test.YtflmbkjnlgibnaaMakeIfs
import Derived.Test.YtflmbkjnlgibnaaEqIfs
import Derived.Test.YtflmbkjnlgibnaaToRib
import Derived.Test.YtflmbkjnlgibnaaEqRts
namespace Go.Proofs.Ytflmbkjnlgibnaa
open Go.ChangeShapes Go.WideShapes Go.RowKit Go.Sort Go.Deep Go.Joins

def instV (x : Option Addr) (n1 c1 : Nat) (y : Option Addr) (n2 c2 : Nat) (now : Int) : Value := .agg #[.slice x n1 c1, .slice y n2 c2, .int .i64 now]
set_option maxRecDepth 100000 in
theorem szIfaceSL_any (x : Option Addr) (len cap : Nat) (L : Int) (w : World) (hl : len ≤ maxLen) (h0 : 0 ≤ L) (h1 : L ≤ 1048576) : Calls Try.prog 14 #[.slice x len cap, .int .i64 L] w fun e w' => e = .returned (.int .i64 (if (len : Int) ≤ L then L - (len : Int) else -1)) ∧ w = w' := by
  unfold maxLen at hl
  by_cases h : (len : Int) ≤ L
  · rw [if_pos h]
    have d : decide (L - (len : Int) < 0) = false := by simp; omega
    go_enter Try.func14, Try.ntmps14
    go_wp2
    go_ret
    exact ⟨rfl, rfl⟩
  · rw [if_neg h]
    have d : decide (L - (len : Int) < 0) = true := by simp; omega
    go_enter Try.func14, Try.ntmps14
    go_wp2
    go_ret
    exact ⟨rfl, rfl⟩
set_option maxRecDepth 100000 in
theorem szRouteSL_any (x : Option Addr) (len cap : Nat) (L : Int) (w : World) (hl : len ≤ maxLen) (h0 : 0 ≤ L) (h1 : L ≤ 1048576) : Calls Try.prog 70 #[.slice x len cap, .int .i64 L] w fun e w' => e = .returned (.int .i64 (if (len : Int) ≤ L then L - (len : Int) else -1)) ∧ w = w' := by
  unfold maxLen at hl
  by_cases h : (len : Int) ≤ L
  · rw [if_pos h]
    have d : decide (L - (len : Int) < 0) = false := by simp; omega
    go_enter Try.func70, Try.ntmps70
    go_wp2
    go_ret
    exact ⟨rfl, rfl⟩
  · rw [if_neg h]
    have d : decide (L - (len : Int) < 0) = true := by simp; omega
    go_enter Try.func70, Try.ntmps70
    go_wp2
    go_ret
    exact ⟨rfl, rfl⟩
set_option maxRecDepth 100000 in
theorem szRibL_any (x : Option Addr) (len cap : Nat) (L : Int) (w : World) (hl : len ≤ maxLen) (h0 : 0 ≤ L) (h1 : L ≤ 1048576) : Calls Try.prog 39 #[.agg #[.slice x len cap], .int .i64 L] w fun e w' => e = .returned (.int .i64 (if (len : Int) ≤ L then L - (len : Int) else -1)) ∧ Below w.heap.size w w' := by
  have HS : Hid (∀ w, Calls Try.prog 70 #[.slice x len cap, .int .i64 L] w fun e w' => e = .returned (.int .i64 (if (len : Int) ≤ L then L - (len : Int) else -1)) ∧ w = w') := fun w => szRouteSL_any x len cap L w hl h0 h1
  unfold maxLen at hl
  by_cases h : (len : Int) ≤ L
  · rw [if_pos h] at *
    have d : decide (L - (len : Int) < 0) = false := by simp; omega
    go_enter Try.func39, Try.ntmps39
    go_wp2_with fail
    refine (HS.out _).mono ?_
    rintro e w1 ⟨rfl, rfl⟩
    go_wp2
    go_ret
    exact ⟨rfl, ent_new0 w _⟩
  · rw [if_neg h] at *
    go_enter Try.func39, Try.ntmps39
    go_wp2_with fail
    refine (HS.out _).mono ?_
    rintro e w1 ⟨rfl, rfl⟩
    go_wp2
    go_ret
    exact ⟨rfl, ent_new0 w _⟩
theorem box3i {w w1 : World} {x0 x1 x2 : Value} {t : TypeId} (h : Below (w.alloc (.cells #[x0, x1, x2] t)).heap.size (w.alloc (.cells #[x0, x1, x2] t)) w1) : Row w1 w.heap.size t [x0, x1, x2] ∧ Below w.heap.size w w1 := by
  have q := Row.new w t [x0, x1, x2]
  exact ⟨q.below h q.lt, (ent_new0 w _).trans (h.mono (by simp))⟩
set_option maxRecDepth 100000 in
theorem szInst_any (x : Option Addr) (n1 c1 : Nat) (y : Option Addr) (n2 c2 : Nat) (now : Int) (w : World) (h1 : n1 ≤ maxLen) (h2 : n2 ≤ maxLen) :
    Calls Try.prog 9 #[instV x n1 c1 y n2 c2 now, .int .i64 1048576] w fun e w' => (∃ v : Int, e = .returned (.int .i64 v) ∧ (v < 0 ∨ 0 ≤ v ∧ n1 ≤ 1048576 ∧ n2 ≤ 1048576)) ∧ Below w.heap.size w w' := by
  have HA : Hid (∀ w, Calls Try.prog 14 #[.slice x n1 c1, .int .i64 1048576] w fun e w' => e = .returned (.int .i64 (if (n1 : Int) ≤ 1048576 then 1048576 - (n1 : Int) else -1)) ∧ w = w') := fun w => szIfaceSL_any x n1 c1 1048576 w h1 (by omega) (by omega)
  have HB : Hid (∀ L : Int, 0 ≤ L → L ≤ 1048576 → ∀ w, Calls Try.prog 39 #[.agg #[.slice y n2 c2], .int .i64 L] w fun e w' => e = .returned (.int .i64 (if (n2 : Int) ≤ L then L - (n2 : Int) else -1)) ∧ Below w.heap.size w w') := fun L a b w => szRibL_any y n2 c2 L w h2 a b
  unfold instV
  by_cases k1 : (n1 : Int) ≤ 1048576
  · rw [if_pos k1] at HA
    have HB1 : Hid _ := HB.out (1048576 - (n1 : Int)) (by omega) (by omega)
    have d1 : decide (1048576 - (n1 : Int) < 0) = false := by simp; omega
    clear HB h1 h2
    by_cases k2 : (n2 : Int) ≤ 1048576 - (n1 : Int)
    · rw [if_pos k2] at HB1
      have d2 : decide (1048576 - (n1 : Int) - (n2 : Int) < 0) = false := by simp; omega
      go_enter Try.func9, Try.ntmps9
      go_wp2_with fail
      refine (HA.out _).mono ?_
      rintro e w1 ⟨rfl, rfl⟩
      go_wp2_with fail
      refine (HB1.out _).mono ?_
      rintro e w2 ⟨rfl, hb2⟩
      obtain ⟨-, hB⟩ := box3i hb2
      clear hb2
      go_wp2
      go_ret
      exact ⟨⟨_, rfl, .inr ⟨by omega, by omega, by omega⟩⟩, hB⟩
    · rw [if_neg k2] at HB1
      go_enter Try.func9, Try.ntmps9
      go_wp2_with fail
      refine (HA.out _).mono ?_
      rintro e w1 ⟨rfl, rfl⟩
      go_wp2_with fail
      refine (HB1.out _).mono ?_
      rintro e w2 ⟨rfl, hb2⟩
      obtain ⟨-, hB⟩ := box3i hb2
      clear hb2
      go_wp2
      go_ret
      exact ⟨⟨_, rfl, .inl (by omega)⟩, hB⟩
  · rw [if_neg k1] at HA
    clear HB h1 h2
    go_enter Try.func9, Try.ntmps9
    go_wp2_with fail
    refine (HA.out _).mono ?_
    rintro e w1 ⟨rfl, rfl⟩
    go_wp2
    go_ret
    exact ⟨⟨_, rfl, .inl (by omega)⟩, ent_new0 w _⟩
set_option maxRecDepth 100000 in
set_option maxHeartbeats 2000000 in
theorem eqInst_any (p q : Option Addr) (a1 b1 : Nat) (r s : Option Addr) (a2 b2 : Nat) (is : List If) (rs : List Rt) (now : Int) (w : World) (h1 : IfsIn w p is) (h2 : IfsIn w q is) (h3 : RtsIn w r rs) (h4 : RtsIn w s rs) (hn1 : is.length ≤ 100000000) (hn2 : rs.length ≤ 100000000) :
    Calls Try.prog 13 #[instV p is.length a1 r rs.length a2 now, instV q is.length b1 s rs.length b2 now] w fun e w' => e = .returned (.bool true) ∧ Below w.heap.size w w' := by
  have HI : Hid (∀ w, IfsIn w p is → IfsIn w q is → Calls Try.prog 19 #[.slice p is.length a1, .slice q is.length b1] w fun e w' => e = .returned (.bool true) ∧ Below w.heap.size w w') := fun w a b => eqIfaceS_any p q a1 b1 is w a b hn1
  have HR : Hid (∀ w, RtsIn w r rs → RtsIn w s rs → Calls Try.prog 46 #[.agg #[.slice r rs.length a2], .agg #[.slice s rs.length b2]] w fun e w' => e = .returned (.bool true) ∧ Below w.heap.size w w') := fun w a b => eqRib_any r s a2 b2 rs w a b hn2
  have HX : Hid (IfsIn w p is ∧ IfsIn w q is ∧ RtsIn w r rs ∧ RtsIn w s rs) := ⟨h1, h2, h3, h4⟩
  clear h1 h2 h3 h4 hn1 hn2
  have q0 := (Row.new w 35 [.slice p is.length a1, .slice r rs.length a2, .int .i64 now]).alloc (.cells #[.slice q is.length b1, .slice s rs.length b2, .int .i64 now] 35)
  have q1 := Row.new (w.alloc (.cells #[.slice p is.length a1, .slice r rs.length a2, .int .i64 now] 35)) 35 [.slice q is.length b1, .slice s rs.length b2, .int .i64 now]
  rw [show (w.alloc (.cells #[.slice p is.length a1, .slice r rs.length a2, .int .i64 now] 35)).heap.size = w.heap.size + 1 by simp] at q1
  have hBB : Below w.heap.size w ((w.alloc (.cells #[.slice p is.length a1, .slice r rs.length a2, .int .i64 now] 35)).alloc (.cells #[.slice q is.length b1, .slice s rs.length b2, .int .i64 now] 35)) := (ent_new0 w _).alloc (by simp) _
  have HQ : Hid _ := And.intro q0 (And.intro q1 hBB)
  have dn : (now != now) = false := by simp
  clear q0 q1 hBB
  unfold instV
  go_enter Try.func13, Try.ntmps13
  go_wp2_with fail
  obtain ⟨q0, q1, hB⟩ := HQ.out
  refine (HI.out _ (HX.out.1.below hB) (HX.out.2.1.below hB)).mono ?_
  rintro e w1 ⟨rfl, hb1⟩
  have q0 := q0.below hb1 q0.lt
  have q1 := q1.below hb1 q1.lt
  have hB := hB.trans (hb1.mono hB.size)
  clear hb1 HI HQ
  have x1 : w1.cell? ⟨w.heap.size, 1, none⟩ = some (.slice r rs.length a2) := q0.cell 1
  have y1 : w1.cell? ⟨w.heap.size + 1, 1, none⟩ = some (.slice s rs.length b2) := q1.cell 1
  go_wp2_with fail
  refine (HR.out _ (HX.out.2.2.1.below hB) (HX.out.2.2.2.below hB)).mono ?_
  rintro e w2 ⟨rfl, hb2⟩
  have q0 := q0.below hb2 q0.lt
  have q1 := q1.below hb2 q1.lt
  have hB := hB.trans (hb2.mono hB.size)
  clear hb2 HR x1 y1
  have x2 : w2.cell? ⟨w.heap.size, 2, none⟩ = some (.int .i64 now) := q0.cell 2
  have y2 : w2.cell? ⟨w.heap.size + 1, 2, none⟩ = some (.int .i64 now) := q1.cell 2
  go_wp2
  go_ret
  exact ⟨rfl, hB⟩
set_option maxRecDepth 100000 in
set_option maxHeartbeats 2000000 in
theorem toInst_any (x : Option Addr) (c1 : Nat) (y : Option Addr) (c2 : Nat) (is : List If) (rs : List Rt) (now : Int) (w : World) (h1 : ArgI w x is.length is) (h2 : ArgR w y rs.length rs) (hn1 : is.length ≤ 1048576) (hn2 : rs.length ≤ 1048576) :
    Calls Try.prog 11 #[instV x is.length c1 y rs.length c2 now] w fun e w' => ∃ g h, e = .returned (instV (some ⟨g, 0, none⟩) is.length is.length (some ⟨h, 0, none⟩) rs.length rs.length now) ∧ Row w' g 82 (rowI is) ∧ Row w' h 101 (rowR rs) ∧ Below w.heap.size w w' := by
  have HI : Hid (∀ w, ArgI w x is.length is → Calls Try.prog 16 #[.slice x is.length c1] w fun e w' => ∃ g, e = .returned (.slice (some ⟨g, 0, none⟩) is.length is.length) ∧ w.heap.size ≤ g ∧ Row w' g 82 (rowI is) ∧ Below w.heap.size w w') := fun w h => toIfaceS_any x c1 is w h hn1
  have HR : Hid (∀ w, ArgR w y rs.length rs → Calls Try.prog 43 #[.agg #[.slice y rs.length c2]] w fun e w' => ∃ g, e = .returned (.agg #[.slice (some ⟨g, 0, none⟩) rs.length rs.length]) ∧ w.heap.size ≤ g ∧ Row w' g 101 (rowR rs) ∧ Below w.heap.size w w') := fun w h => toRib_any y c2 rs w h hn2
  have HX : Hid (ArgI w x is.length is ∧ ArgR w y rs.length rs) := ⟨h1, h2⟩
  clear h1 h2 hn1 hn2
  unfold instV
  generalize is.length = n1 at *
  generalize rs.length = n2 at *
  obtain ⟨W, hW, q0, q1, q2, hB, hS⟩ := three_new w [.slice x n1 c1, .slice y n2 c2, .int .i64 now] [.slice none 0 0, .slice none 0 0, .int .i64 0] [.slice none 0 0, .slice none 0 0, .int .i64 0] 27 35 35
  have HW : Hid _ := hW
  have HQ : Hid _ := And.intro q0 (And.intro q1 (And.intro q2 hB))
  clear hW q0 q1 q2 hB
  go_enter Try.func11, Try.ntmps11
  go_wp2_with fail
  rw [← HW.out]
  obtain ⟨q0, q1, q2, hB⟩ := HQ.out
  refine (HI.out _ (HX.out.1.below hB)).mono ?_
  rintro e w1 ⟨g, rfl, hg, rg, hb1⟩
  have q0 := q0.below hb1 q0.lt
  have q1 := q1.below hb1 q1.lt
  have q2 := q2.below hb1 q2.lt
  have hB := hB.trans (hb1.mono (by omega))
  have hs1 := hb1.size
  clear hb1 HI HW HQ
  have x1 : w1.cell? ⟨w.heap.size, 1, none⟩ = some (.slice y n2 c2) := q0.cell 1
  have f0 : w1.frozen? ⟨w.heap.size + 1 + 1, 0, none⟩ = false := q2.frozen 0
  have z0 : w1.cell? ⟨w.heap.size + 1 + 1, 0, none⟩ = some (.slice none 0 0) := q2.cell 0
  have HE : Hid _ := And.intro (q0.other 0 (.slice (some ⟨g, 0, none⟩) n1 n1) (show w.heap.size ≠ w.heap.size + 1 + 1 by omega)) (And.intro (q1.other 0 (.slice (some ⟨g, 0, none⟩) n1 n1) (show w.heap.size + 1 ≠ w.heap.size + 1 + 1 by omega)) (And.intro (q2.set 0 (.slice (some ⟨g, 0, none⟩) n1 n1)) (And.intro (rg.other 0 (.slice (some ⟨g, 0, none⟩) n1 n1) (show g ≠ w.heap.size + 1 + 1 by omega)) (hB.setCell (p := ⟨w.heap.size + 1 + 1, 0, none⟩) (by show w.heap.size ≤ w.heap.size + 1 + 1; omega) (.slice (some ⟨g, 0, none⟩) n1 n1)))))
  clear q0 q1 q2 rg hB
  go_wp2_with fail
  clear x1 f0 z0
  have hsz : (w1.setCell ⟨w.heap.size + 1 + 1, 0, none⟩ (.slice (some ⟨g, 0, none⟩) n1 n1)).heap.size = w1.heap.size := by simp
  generalize w1.setCell ⟨w.heap.size + 1 + 1, 0, none⟩ (.slice (some ⟨g, 0, none⟩) n1 n1) = W1 at *
  obtain ⟨q0, q1, q2, rg, hB⟩ := HE.out
  clear HE
  refine (HR.out _ (HX.out.2.below hB)).mono ?_
  rintro e w2 ⟨h, rfl, hh, rh, hb2⟩
  have q0 := q0.below hb2 q0.lt
  have q1 := q1.below hb2 q1.lt
  have q2 := q2.below hb2 q2.lt
  have rg := rg.below hb2 rg.lt
  have hB := hB.trans (hb2.mono hB.size)
  clear hb2 HR
  have x2 : w2.cell? ⟨w.heap.size, 2, none⟩ = some (.int .i64 now) := q0.cell 2
  have a0 : w2.cell? ⟨w.heap.size + 1 + 1, 0, none⟩ = some (.slice (some ⟨g, 0, none⟩) n1 n1) := q2.cell 0
  have f0 : w2.frozen? ⟨w.heap.size + 1 + 1, 0, none⟩ = false := q2.frozen 0
  have a1 : w2.cell? ⟨w.heap.size + 1 + 1, 1, none⟩ = some (.slice none 0 0) := q2.cell 1
  have f1 : w2.frozen? ⟨w.heap.size + 1 + 1, 1, none⟩ = false := q2.frozen 1
  have a2 : w2.cell? ⟨w.heap.size + 1 + 1, 2, none⟩ = some (.int .i64 0) := q2.cell 2
  have f2 : w2.frozen? ⟨w.heap.size + 1 + 1, 2, none⟩ = false := q2.frozen 2
  have b0 : w2.cell? ⟨w.heap.size + 1, 0, none⟩ = some (.slice none 0 0) := q1.cell 0
  have e0 : w2.frozen? ⟨w.heap.size + 1, 0, none⟩ = false := q1.frozen 0
  have b1 : w2.cell? ⟨w.heap.size + 1, 1, none⟩ = some (.slice none 0 0) := q1.cell 1
  have e1 : w2.frozen? ⟨w.heap.size + 1, 1, none⟩ = false := q1.frozen 1
  have b2 : w2.cell? ⟨w.heap.size + 1, 2, none⟩ = some (.int .i64 0) := q1.cell 2
  have e2 : w2.frozen? ⟨w.heap.size + 1, 2, none⟩ = false := q1.frozen 2
  have ng2 : g ≠ w.heap.size + 1 + 1 := by omega
  have ng1 : g ≠ w.heap.size + 1 := by omega
  have nh2 : h ≠ w.heap.size + 1 + 1 := by omega
  have nh1 : h ≠ w.heap.size + 1 := by omega
  have n12 : w.heap.size + 1 ≠ w.heap.size + 1 + 1 := by omega
  have HF : Hid (Row (((((w2.setCell ⟨w.heap.size + 1 + 1, 1, none⟩ (.slice (some ⟨h, 0, none⟩) n2 n2)).setCell ⟨w.heap.size + 1 + 1, 2, none⟩ (.int .i64 now)).setCell ⟨w.heap.size + 1, 0, none⟩ (.slice (some ⟨g, 0, none⟩) n1 n1)).setCell ⟨w.heap.size + 1, 1, none⟩ (.slice (some ⟨h, 0, none⟩) n2 n2)).setCell ⟨w.heap.size + 1, 2, none⟩ (.int .i64 now)) (w.heap.size + 1) 35 [.slice (some ⟨g, 0, none⟩) n1 n1, .slice (some ⟨h, 0, none⟩) n2 n2, .int .i64 now] ∧ Row (((((w2.setCell ⟨w.heap.size + 1 + 1, 1, none⟩ (.slice (some ⟨h, 0, none⟩) n2 n2)).setCell ⟨w.heap.size + 1 + 1, 2, none⟩ (.int .i64 now)).setCell ⟨w.heap.size + 1, 0, none⟩ (.slice (some ⟨g, 0, none⟩) n1 n1)).setCell ⟨w.heap.size + 1, 1, none⟩ (.slice (some ⟨h, 0, none⟩) n2 n2)).setCell ⟨w.heap.size + 1, 2, none⟩ (.int .i64 now)) g 82 (rowI is) ∧ Row (((((w2.setCell ⟨w.heap.size + 1 + 1, 1, none⟩ (.slice (some ⟨h, 0, none⟩) n2 n2)).setCell ⟨w.heap.size + 1 + 1, 2, none⟩ (.int .i64 now)).setCell ⟨w.heap.size + 1, 0, none⟩ (.slice (some ⟨g, 0, none⟩) n1 n1)).setCell ⟨w.heap.size + 1, 1, none⟩ (.slice (some ⟨h, 0, none⟩) n2 n2)).setCell ⟨w.heap.size + 1, 2, none⟩ (.int .i64 now)) h 101 (rowR rs) ∧ Below w.heap.size w (((((w2.setCell ⟨w.heap.size + 1 + 1, 1, none⟩ (.slice (some ⟨h, 0, none⟩) n2 n2)).setCell ⟨w.heap.size + 1 + 1, 2, none⟩ (.int .i64 now)).setCell ⟨w.heap.size + 1, 0, none⟩ (.slice (some ⟨g, 0, none⟩) n1 n1)).setCell ⟨w.heap.size + 1, 1, none⟩ (.slice (some ⟨h, 0, none⟩) n2 n2)).setCell ⟨w.heap.size + 1, 2, none⟩ (.int .i64 now))) := ⟨((((((q1.other 1 (.slice (some ⟨h, 0, none⟩) n2 n2) n12).other 2 (.int .i64 now) n12).set 0 (.slice (some ⟨g, 0, none⟩) n1 n1)).set 1 (.slice (some ⟨h, 0, none⟩) n2 n2)).set 2 (.int .i64 now))), ((((((rg).other 1 (.slice (some ⟨h, 0, none⟩) n2 n2) ng2).other 2 (.int .i64 now) ng2).other 0 (.slice (some ⟨g, 0, none⟩) n1 n1) ng1).other 1 (.slice (some ⟨h, 0, none⟩) n2 n2) ng1).other 2 (.int .i64 now) ng1), ((((((rh).other 1 (.slice (some ⟨h, 0, none⟩) n2 n2) nh2).other 2 (.int .i64 now) nh2).other 0 (.slice (some ⟨g, 0, none⟩) n1 n1) nh1).other 1 (.slice (some ⟨h, 0, none⟩) n2 n2) nh1).other 2 (.int .i64 now) nh1), (((((hB.setCell (p := ⟨w.heap.size + 1 + 1, 1, none⟩) (by show w.heap.size ≤ w.heap.size + 1 + 1; omega) (.slice (some ⟨h, 0, none⟩) n2 n2)).setCell (p := ⟨w.heap.size + 1 + 1, 2, none⟩) (by show w.heap.size ≤ w.heap.size + 1 + 1; omega) (.int .i64 now)).setCell (p := ⟨w.heap.size + 1, 0, none⟩) (by show w.heap.size ≤ w.heap.size + 1; omega) (.slice (some ⟨g, 0, none⟩) n1 n1)).setCell (p := ⟨w.heap.size + 1, 1, none⟩) (by show w.heap.size ≤ w.heap.size + 1; omega) (.slice (some ⟨h, 0, none⟩) n2 n2)).setCell (p := ⟨w.heap.size + 1, 2, none⟩) (by show w.heap.size ≤ w.heap.size + 1; omega) (.int .i64 now))⟩
  clear q0 q1 q2 rg rh hB
  go_wp2_with fail
  have hF := HF.out
  clear HF x2 a0 f0 b0 e0 a1 f1 b1 e1 a2 f2 b2 e2
  generalize (((((w2.setCell ⟨w.heap.size + 1 + 1, 1, none⟩ (.slice (some ⟨h, 0, none⟩) n2 n2)).setCell ⟨w.heap.size + 1 + 1, 2, none⟩ (.int .i64 now)).setCell ⟨w.heap.size + 1, 0, none⟩ (.slice (some ⟨g, 0, none⟩) n1 n1)).setCell ⟨w.heap.size + 1, 1, none⟩ (.slice (some ⟨h, 0, none⟩) n2 n2)).setCell ⟨w.heap.size + 1, 2, none⟩ (.int .i64 now)) = Z at *
  obtain ⟨k1, k2, k3, k4⟩ := hF
  have e0 : Z.cell? ⟨w.heap.size + 1, 0, none⟩ = some (.slice (some ⟨g, 0, none⟩) n1 n1) := k1.cell 0
  have e1 : Z.cell? ⟨w.heap.size + 1, 1, none⟩ = some (.slice (some ⟨h, 0, none⟩) n2 n2) := k1.cell 1
  have e2 : Z.cell? ⟨w.heap.size + 1, 2, none⟩ = some (.int .i64 now) := k1.cell 2
  exact bodyPost_ret (v := .agg #[.slice (some ⟨g, 0, none⟩) n1 n1, .slice (some ⟨h, 0, none⟩) n2 n2, .int .i64 now]) (by simp [results, Try.results11, go_sem, e0, e1, e2]) rfl ⟨g, h, rfl, k2, k3, k4⟩
section
variable {H : Type} {enc : TypeId × Value → H} {w : World} {base : Nat} {spare : Nat → Bool} {held : Bool}
theorem Try.cellsInst : Try.prog.cellsOf 27 = 3 := by kernel_rfl
theorem Try.cellsIfsI : Try.prog.cellsOf 22 = 1 := by kernel_rfl
theorem Try.cellsRibI : Try.prog.cellsOf 25 = 1 := by kernel_rfl
theorem Try.cellsIntN : Try.prog.cellsOf 2 = 1 := by kernel_rfl
set_option maxRecDepth 100000 in
theorem open_instV {r : Reach} {b0 : Nat} {v : Value} {d : DataW H} {p : List MemPlace} (hv : Value.okWide Try.prog w r b0 27 v) (h : DataW.Trod enc Try.prog w base spare held 27 v d p) :
    ∃ x n1 c1 is y n2 c2 rs now, v = instV x n1 c1 y n2 c2 now ∧ ArgI w x n1 is ∧ ArgR w y n2 rs ∧ (Lit.int .i64 now).wf = true := by
  obtain ⟨cs, rfl, hsz⟩ := okWide_struct Try.underlying27 hv
  rw [Try.cellsInst] at hsz
  obtain ⟨l⟩ := cs
  match l, hsz with
  | [e0, e1, e2], _ =>
    obtain ⟨fuel, hf⟩ := h
    obtain ⟨xs, n, _, _, hl, hx, hg⟩ := DataW.trod_struct Try.underlying27 hf
    match xs, hx with
    | [y0, y1, y2], _ =>
      have h0 : DataW.trod enc Try.prog w base spare held n 22 ((([e0, e1, e2] : List Value).drop 0).take (Try.prog.cellsOf 22)) = [y0, y1, y2][0]? := hg 0 _ rfl
      rw [Try.cellsIfsI] at h0
      replace h0 : DataW.trod enc Try.prog w base spare held n 22 [e0] = some y0 := h0
      have h1 : DataW.trod enc Try.prog w base spare held n 25 ((([e0, e1, e2] : List Value).drop 1).take (Try.prog.cellsOf 25)) = [y0, y1, y2][1]? := hg 1 _ rfl
      rw [Try.cellsRibI] at h1
      replace h1 : DataW.trod enc Try.prog w base spare held n 25 [e1] = some y1 := h1
      have h2 : DataW.trod enc Try.prog w base spare held n 2 ((([e0, e1, e2] : List Value).drop 2).take (Try.prog.cellsOf 2)) = [y0, y1, y2][2]? := hg 2 _ rfl
      rw [Try.cellsIntN] at h2
      replace h2 : DataW.trod enc Try.prog w base spare held n 2 [e2] = some y2 := h2
      obtain ⟨xs', n', _, _, hl', hx', hg'⟩ := DataW.trod_struct Try.underlying25 h1
      match xs', hx' with
      | [z0], _ =>
        have k0 : DataW.trod enc Try.prog w base spare held n' 23 ((([e1] : List Value).drop 0).take (Try.prog.cellsOf 23)) = [z0][0]? := hg' 0 _ rfl
        rw [Try.cellsRibS] at k0
        replace k0 : DataW.trod enc Try.prog w base spare held n' 23 [e1] = some z0 := k0
        obtain ⟨x, n1, c1, is, rfl, hA⟩ := open_ifs h0
        obtain ⟨y, n2, c2, rs, rfl, hR⟩ := open_rts k0
        obtain ⟨now, en, _, wn⟩ := DataW.trod_int Try.underlying2 h2
        simp only [List.cons.injEq, and_true] at en
        subst en
        exact ⟨x, n1, c1, is, y, n2, c2, rs, now, rfl, hA, hR, wn⟩
end
end Go.Proofs.Ytflmbkjnlgibnaa
