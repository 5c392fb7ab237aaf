/- InstRight, of the program and of the model. (Written by gen_inst.py.) -/
import Derived.Test.YtflmbkjnlgibnaaInstA
import Derived.Test.YtflmbkjnlgibnaaIfacesS
import Derived.Test.YtflmbkjnlgibnaaRibR
namespace Go.Proofs.Ytflmbkjnlgibnaa
open Go.RowKit Go.Sort

def instB (is : List If) (rs : List Rt) (now : Int) : Bool := ifsB is && (ribB rs && (decide (0 ≤ now) && decide (now ≤ 999800)))
set_option maxRecDepth 100000 in
set_option maxHeartbeats 2000000 in
theorem implInst_any (x : Option Addr) (c1 : Nat) (y : Option Addr) (c2 : Nat) (is : List If) (rs : List Rt) (now : Int) (w : World) (h1 : IfsIn w x is) (hc : is.length ≤ c1) (h2 : RtsIn w y rs) (hn1 : is.length ≤ 100000000) (hn2 : rs.length ≤ 100000000) :
    Calls Try.prog 12 #[instV x is.length c1 y rs.length c2 now] w fun e w' => e = .returned (.bool (instB is rs now)) ∧ Below w.heap.size w w' := by
  have HI : Hid (∀ w, IfsIn w x is → Calls Try.prog 44 #[.slice x is.length c1] w fun e w' => e = .returned (.bool (ifsB is)) ∧ Below w.heap.size w w') := fun w h => ifacesRight_any x c1 is w h hc hn1
  have HR : Hid (∀ w, RtsIn w y rs → Calls Try.prog 45 #[.agg #[.slice y rs.length c2]] w fun e w' => e = .returned (.bool (ribB rs)) ∧ Below w.heap.size w w') := fun w h => implRib_any y c2 rs w h hn2
  have HX : Hid (IfsIn w x is ∧ RtsIn w y rs) := ⟨h1, h2⟩
  clear h1 h2 hc hn1 hn2
  unfold instV instB
  generalize is.length = n1 at *
  generalize rs.length = n2 at *
  generalize ifsB is = IB at *
  generalize ribB rs = RBB at *
  have q0 := Row.new w 35 [.slice x n1 c1, .slice y n2 c2, .int .i64 now]
  have HQ : Hid _ := And.intro q0 (ent_new0 w (.cells #[.slice x n1 c1, .slice y n2 c2, .int .i64 now] 35))
  clear q0
  go_enter Try.func12, Try.ntmps12
  go_wp2_with fail
  obtain ⟨q0, hB⟩ := HQ.out
  refine (HI.out _ (HX.out.1.below hB)).mono ?_
  rintro e w1 ⟨rfl, hb1⟩
  have q0 := q0.below hb1 q0.lt
  have hB := hB.trans (hb1.mono hB.size)
  clear hb1 HI HQ
  have x1 : w1.cell? ⟨w.heap.size, 1, none⟩ = some (.slice y n2 c2) := q0.cell 1
  cases IB
  · go_wp2
    go_ret
    exact ⟨rfl, hB⟩
  · go_wp2_with fail
    refine (HR.out _ (HX.out.2.below hB)).mono ?_
    rintro e w2 ⟨rfl, hb2⟩
    have q0 := q0.below hb2 q0.lt
    have hB := hB.trans (hb2.mono hB.size)
    clear hb2 HR x1
    have x2 : w2.cell? ⟨w.heap.size, 2, none⟩ = some (.int .i64 now) := q0.cell 2
    cases RBB
    · go_wp2
      go_ret
      exact ⟨rfl, hB⟩
    · by_cases k1 : 0 ≤ now
      · by_cases k2 : now ≤ 999800
        · go_wp2
          go_ret
          exact ⟨ret_bool (by simp [k1, k2]), hB⟩
        · go_wp2
          go_ret
          exact ⟨ret_bool (by simp; omega), hB⟩
      · go_wp2
        go_ret
        exact ⟨ret_bool (by simp; omega), hB⟩
set_option maxRecDepth 100000 in
set_option maxHeartbeats 2000000 in
theorem specInst_any (x : Option Addr) (c1 : Nat) (y : Option Addr) (c2 : Nat) (is : List If) (rs : List Rt) (now : Int) (w : World) (h1 : IfsIn w x is) (_hc : is.length ≤ c1) (h2 : RtsIn w y rs) (hn1 : is.length ≤ 100000000) (hn2 : rs.length ≤ 100000000) :
    Calls Try.prog 10 #[instV x is.length c1 y rs.length c2 now] w fun e w' => e = .returned (.bool (instB is rs now)) ∧ Below w.heap.size w w' := by
  have HI : Hid (∀ w, IfsIn w x is → Calls Try.prog 40 #[.slice x is.length c1] w fun e w' => e = .returned (.bool (ifsB is)) ∧ Below w.heap.size w w') := fun w h => l07Ifaces_any x c1 is w h hn1
  have HR : Hid (∀ w, RtsIn w y rs → Calls Try.prog 41 #[.agg #[.slice y rs.length c2]] w fun e w' => e = .returned (.bool (ribB rs)) ∧ Below w.heap.size w w') := fun w h => specRib_any y c2 rs w h hn2
  have HN : Hid (∀ w, Calls Try.prog 42 #[.int .i64 now, .int .i64 0, .int .i64 999800] w fun e w' => e = .returned (.bool (decide (0 ≤ now) && decide (now ≤ 999800))) ∧ w = w') := fun w => (l03Is_any now 0 999800 w).mono fun e w' h => by rw [← Bool.decide_and]; exact h
  have HX : Hid (IfsIn w x is ∧ RtsIn w y rs) := ⟨h1, h2⟩
  clear h1 h2 _hc hn1 hn2
  unfold instV instB
  generalize is.length = n1 at *
  generalize rs.length = n2 at *
  generalize ifsB is = IB at *
  generalize ribB rs = RBB at *
  have q0 := Row.new w 35 [.slice x n1 c1, .slice y n2 c2, .int .i64 now]
  have HQ : Hid _ := And.intro q0 (ent_new0 w (.cells #[.slice x n1 c1, .slice y n2 c2, .int .i64 now] 35))
  clear q0
  go_enter Try.func10, Try.ntmps10
  go_wp2_with fail
  obtain ⟨q0, hB⟩ := HQ.out
  refine (HI.out _ (HX.out.1.below hB)).mono ?_
  rintro e w1 ⟨rfl, hb1⟩
  have q0 := q0.below hb1 q0.lt
  have hB := hB.trans (hb1.mono hB.size)
  clear hb1 HI HQ
  have x1 : w1.cell? ⟨w.heap.size, 1, none⟩ = some (.slice y n2 c2) := q0.cell 1
  cases IB
  · go_wp2
    go_ret
    exact ⟨rfl, hB⟩
  · go_wp2_with fail
    refine (HR.out _ (HX.out.2.below hB)).mono ?_
    rintro e w2 ⟨rfl, hb2⟩
    have q0 := q0.below hb2 q0.lt
    have hB := hB.trans (hb2.mono hB.size)
    clear hb2 HR x1
    have x2 : w2.cell? ⟨w.heap.size, 2, none⟩ = some (.int .i64 now) := q0.cell 2
    cases RBB
    · go_wp2
      go_ret
      exact ⟨rfl, hB⟩
    · go_wp2_with fail
      refine (HN.out _).mono ?_
      rintro e w3 ⟨rfl, rfl⟩
      go_wp2
      go_ret
      exact ⟨rfl, hB⟩
end Go.Proofs.Ytflmbkjnlgibnaa
