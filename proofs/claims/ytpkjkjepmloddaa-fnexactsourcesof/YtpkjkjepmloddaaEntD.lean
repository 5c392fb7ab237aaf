/- Is an entry right? Asked by the program. -/
import Derived.Test.YtpkjkjepmloddaaNetOf
namespace Go.Proofs.Ytpkjkjepmloddaa
open Go.RowKit Go.Sort

/-- An entry: its net (a, l), the next one n, its metric m, its tag t. -/
structure Ent where
  a : Int
  l : Int
  n : Int
  m : Int
  t : Int
instance : Inhabited Ent := ⟨⟨0, 0, 0, 0, 0⟩⟩
def entL (e : Ent) : List Value := [.int .i64 e.a, .int .i64 e.l, .int .i64 e.n, .int .i64 e.m, .int .i64 e.t]
def entV (e : Ent) : Value := .agg #[.int .i64 e.a, .int .i64 e.l, .int .i64 e.n, .int .i64 e.m, .int .i64 e.t]
def inMet (m : Int) : Bool := decide (1 ≤ m ∧ m ≤ 16)
def inTag (m : Int) : Bool := decide (0 ≤ m ∧ m ≤ 65535)
def entB (e : Ent) : Bool := rightB e.a e.l && inAddr e.n && inMet e.m && inTag e.t
theorem ent_new0 (w : World) (o : Obj) : Below w.heap.size w (w.alloc o) := (Below.refl _ _).alloc (Nat.le_refl _) _
set_option maxRecDepth 100000 in
theorem isWordE_any (a : Int) (w : World) : Calls Try.prog 92 #[.int .i64 a] w fun e w' => e = .returned (.bool (inTag a)) ∧ w = w' := by
  by_cases h1 : 0 ≤ a
  · by_cases h2 : a ≤ 65535
    · go_enter Try.func92, Try.ntmps92
      go_wp2
      go_ret
      exact ⟨ret_bool (by simp [inTag]; omega), rfl⟩
    · go_enter Try.func92, Try.ntmps92
      go_wp2
      go_ret
      exact ⟨ret_bool (by simp [inTag]; omega), rfl⟩
  · go_enter Try.func92, Try.ntmps92
    go_wp2
    go_ret
    exact ⟨ret_bool (by simp [inTag]; omega), rfl⟩
/-- Five cells that a call has laid: what they hold behind a later one. -/
theorem box5 {w w1 : World} {x0 x1 x2 x3 x4 : Value} {t : TypeId} (h : Below (w.alloc (.cells #[x0, x1, x2, x3, x4] t)).heap.size (w.alloc (.cells #[x0, x1, x2, x3, x4] t)) w1) :
    w1.cell? ⟨w.heap.size, 0, none⟩ = some x0 ∧ w1.cell? ⟨w.heap.size, 1, none⟩ = some x1 ∧ w1.cell? ⟨w.heap.size, 2, none⟩ = some x2 ∧ w1.cell? ⟨w.heap.size, 3, none⟩ = some x3 ∧ w1.cell? ⟨w.heap.size, 4, none⟩ = some x4 ∧ Below w.heap.size w w1 := by
  have hlt : w.heap.size < (w.alloc (.cells #[x0, x1, x2, x3, x4] t)).heap.size := by simp
  have hz : ∀ k, (w.alloc (.cells #[x0, x1, x2, x3, x4] t)).cell? ⟨w.heap.size, k, none⟩ = #[x0, x1, x2, x3, x4][k]? := fun k => cell_of_row _ _ k _ t _ (heap_alloc_new w _)
  refine ⟨?_, ?_, ?_, ?_, ?_, (ent_new0 w _).trans (h.mono (by simp))⟩ <;> (rw [h.cell (p := ⟨w.heap.size, _, none⟩) hlt, hz]; rfl)
set_option maxRecDepth 100000 in
theorem implEntryRight_any (e : Ent) (w : World) : Calls Try.prog 109 #[entV e] w fun r w' => r = .returned (.bool (entB e)) ∧ Below w.heap.size w w' := by
  obtain ⟨a, l, n, m, t⟩ := e
  unfold entV entB
  have HR : Hid (∀ w, Calls Try.prog 90 #[.agg #[.int .i64 a, .int .i64 l]] w fun e w' => e = .returned (.bool (rightB a l)) ∧ Below w.heap.size w w') := implRight_any a l
  have HA : Hid (∀ w, Calls Try.prog 78 #[.int .i64 n] w fun e w' => e = .returned (.bool (inAddr n)) ∧ w = w') := isAddr_any n
  have HW : Hid (∀ w, Calls Try.prog 92 #[.int .i64 t] w fun e w' => e = .returned (.bool (inTag t)) ∧ w = w') := isWordE_any t
  have HM : Hid (inMet m = (decide (1 ≤ m) && decide (m ≤ 16))) := by show _ = _; simp [inMet, Bool.decide_and]
  generalize rightB a l = R at *
  generalize inAddr n = N at *
  generalize inTag t = T at *
  rw [HM.out]
  clear HM
  go_enter Try.func109, Try.ntmps109
  go_wp2_with fail
  refine (HR.out _).mono ?_
  rintro e w1 ⟨rfl, hb1⟩
  obtain ⟨c0, c1, c2, c3, c4, hB⟩ := box5 hb1
  clear hb1 HR
  cases R
  · go_wp2
    go_ret
    exact ⟨rfl, hB⟩
  · go_wp2_with fail
    refine (HA.out _).mono ?_
    rintro e w2 ⟨rfl, rfl⟩
    cases N
    · go_wp2
      go_ret
      exact ⟨rfl, hB⟩
    · by_cases h1 : 1 ≤ m
      · by_cases h2 : m ≤ 16
        · go_wp2_with fail
          refine (HW.out _).mono ?_
          rintro e w2 ⟨rfl, rfl⟩
          go_wp2
          go_ret
          exact ⟨ret_bool (by simp [h1, h2]), hB⟩
        · go_wp2
          go_ret
          exact ⟨ret_bool (by simp; omega), hB⟩
      · go_wp2
        go_ret
        exact ⟨ret_bool (by simp; omega), hB⟩
end Go.Proofs.Ytpkjkjepmloddaa
