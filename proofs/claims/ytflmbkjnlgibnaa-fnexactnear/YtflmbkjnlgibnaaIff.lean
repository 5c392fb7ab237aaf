/- An Iface: its value; right, by the program and by the model. (Written by gen_if.py.) -/
import Derived.Test.YtflmbkjnlgibnaaCovers
import Derived.Test.YtflmbkjnlgibnaaCoversS
import Derived.Test.YtflmbkjnlgibnaaRowV
import Derived.Test.YtflmbkjnlgibnaaEntD
namespace Go.Proofs.Ytflmbkjnlgibnaa
open Go.RowKit Go.Sort

/-- An Iface: its address, its net (address and length), its cost, whether it is up. -/
structure If where
  d : Int
  a : Int
  l : Int
  c : Int
  u : Bool
deriving Inhabited
def ifA (f : If) : Array Value := #[.int .i64 f.d, .int .i64 f.a, .int .i64 f.l, .int .i64 f.c, .bool f.u]
def ifV (f : If) : Value := .agg (ifA f)
def ifB (f : If) : Bool := coversB f.a f.l f.d && (decide (1 ≤ f.c) && decide (f.c ≤ 15))
theorem box5i {w w1 : World} {x0 x1 x2 x3 x4 : Value} {t : TypeId} (h : Below (w.alloc (.cells #[x0, x1, x2, x3, x4] t)).heap.size (w.alloc (.cells #[x0, x1, x2, x3, x4] t)) w1) :
    w1.cell? ⟨w.heap.size, 0, none⟩ = some x0 ∧ w1.cell? ⟨w.heap.size, 1, none⟩ = some x1 ∧ w1.cell? ⟨w.heap.size, 2, none⟩ = some x2 ∧ w1.cell? ⟨w.heap.size, 3, none⟩ = some x3 ∧ w1.cell? ⟨w.heap.size, 4, none⟩ = some x4 ∧ Below w.heap.size w w1 := by
  have q := Row.new w t [x0, x1, x2, x3, x4]
  have q := q.below h q.lt
  exact ⟨q.cell 0, q.cell 1, q.cell 2, q.cell 3, q.cell 4, (ent_new0 w _).trans (h.mono (by simp))⟩
set_option maxRecDepth 100000 in
theorem implIface_any (f : If) (w : World) : Calls Try.prog 75 #[ifV f] w fun e w' => e = .returned (.bool (ifB f)) ∧ Below w.heap.size w w' := by
  have HC : Hid (∀ w, Calls Try.prog 91 #[.agg #[.int .i64 f.a, .int .i64 f.l], .int .i64 f.d] w fun e w' => e = .returned (.bool (coversB f.a f.l f.d)) ∧ Below w.heap.size w w') := implCovers_any f.a f.l f.d
  obtain ⟨d, a, l, c, u⟩ := f
  unfold ifV ifA ifB
  simp only at HC ⊢
  generalize coversB a l d = B at *
  go_enter Try.func75, Try.ntmps75
  go_wp2_with fail
  refine (HC.out _).mono ?_
  rintro e w1 ⟨rfl, hb1⟩
  obtain ⟨c0, c1, c2, c3, c4, hB⟩ := box5i hb1
  clear hb1 HC
  cases B
  · go_wp2
    go_ret
    exact ⟨ret_bool (by simp), hB⟩
  · by_cases h1 : 1 ≤ c
    · by_cases h2 : c ≤ 15
      · go_wp2
        go_ret
        exact ⟨ret_bool (by simp [h1, h2]), hB⟩
      · go_wp2
        go_ret
        exact ⟨ret_bool (by simp; omega), hB⟩
    · go_wp2
      go_ret
      exact ⟨ret_bool (by simp; omega), hB⟩
theorem covers_right {a l d : Int} (h : rightB a l = false) : coversB a l d = false := by
  unfold coversB
  rw [h]
  rfl
set_option maxRecDepth 100000 in
theorem specIface_any (f : If) (w : World) : Calls Try.prog 71 #[ifV f] w fun e w' => e = .returned (.bool (ifB f)) ∧ Below w.heap.size w w' := by
  have HR : Hid (∀ w, Calls Try.prog 63 #[.agg #[.int .i64 f.a, .int .i64 f.l]] w fun e w' => e = .returned (.bool (rightB f.a f.l)) ∧ Below w.heap.size w w') := specRight_any f.a f.l
  have HC : Hid (∀ w, Calls Try.prog 95 #[.agg #[.int .i64 f.a, .int .i64 f.l], .int .i64 f.d] w fun e w' => e = .returned (.bool (coversB f.a f.l f.d)) ∧ Below w.heap.size w w') := specCovers_any f.a f.l f.d
  have HI : Hid (∀ w, Calls Try.prog 42 #[.int .i64 f.c, .int .i64 1, .int .i64 15] w fun e w' => e = .returned (.bool (decide (1 ≤ f.c) && decide (f.c ≤ 15))) ∧ w = w') := fun w => (l03Is_any f.c 1 15 w).mono fun e w' h => by rw [← Bool.decide_and]; exact h
  obtain ⟨d, a, l, c, u⟩ := f
  unfold ifV ifA ifB
  simp only at HC HR HI ⊢
  have hcr := @covers_right a l d
  generalize coversB a l d = B at *
  generalize (decide (1 ≤ c) && decide (c ≤ 15)) = D at *
  go_enter Try.func71, Try.ntmps71
  go_wp2_with fail
  refine (HR.out _).mono ?_
  rintro e w1 ⟨rfl, hb1⟩
  have hb1' := hb1
  obtain ⟨c0, c1, c2, c3, c4, hB⟩ := box5i hb1
  clear HR hb1
  cases hr : rightB a l
  · have hB0 := hcr hr
    clear hcr hr HC HI
    subst hB0
    go_wp2
    go_ret
    exact ⟨rfl, hB⟩
  · clear hcr hr
    go_wp2_with fail
    refine (HC.out _).mono ?_
    rintro e w2 ⟨rfl, hb2⟩
    have hB2 := hB.trans (hb2.mono hB.size)
    obtain ⟨c0, c1, c2, c3, c4, -⟩ := box5i (hb1'.trans (hb2.mono hb1'.size))
    clear HC hb2 hB hb1'
    cases B
    · go_wp2
      go_ret
      exact ⟨rfl, hB2⟩
    · go_wp2_with fail
      refine (HI.out _).mono ?_
      rintro e w3 ⟨rfl, rfl⟩
      go_wp2
      go_ret
      exact ⟨rfl, hB2⟩
end Go.Proofs.Ytflmbkjnlgibnaa
