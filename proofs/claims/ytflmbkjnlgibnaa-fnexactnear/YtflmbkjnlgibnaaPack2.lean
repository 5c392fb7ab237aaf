/- Texts that stand on each other, in one file: Rt, ToRt, OpenRt, Rts, ToRts, ToRib, AppS, EqNet, EqIfs, EqRts, InstA. -/
import Derived.Test.YtflmbkjnlgibnaaPack1
import Derived.Lib.SmallJoins
import Derived.Deep.Slices
import Derived.OwnWalk
import Derived.Lib.QuietBelow
import Derived.BigQuiet
/- Is a route right? Asked by the program and by the model. -/
namespace Go.Proofs.Ytflmbkjnlgibnaa
open Go.RowKit Go.Sort

/-- A route: its net (a, l), its metric m, the next one n, its iface i, its tag t, its times u (Until) and b (Bin), its mark c. -/
structure Rt where
  a : Int
  l : Int
  m : Int
  n : Int
  i : Int
  t : Int
  u : Int
  b : Int
  c : Bool
instance : Inhabited Rt := ⟨⟨0, 0, 0, 0, 0, 0, 0, 0, false⟩⟩
def rtA (r : Rt) : Array Value := #[.int .i64 r.a, .int .i64 r.l, .int .i64 r.m, .int .i64 r.n, .int .i64 r.i, .int .i64 r.t, .int .i64 r.u, .int .i64 r.b, .bool r.c]
def rtV (r : Rt) : Value := .agg (rtA r)
def inIf (i : Int) : Bool := decide (0 ≤ i ∧ i ≤ 3)
def rtE (r : Rt) : Ent := ⟨r.a, r.l, r.n, r.m, r.t⟩
def saidB (r : Rt) : Bool := entB (rtE r) && inIf r.i
def timesB (r : Rt) : Bool := if r.n = 0 then decide (r.u = 0) && decide (r.b = 0) else if r.m < 16 then decide (0 < r.u) && decide (r.b = 0) else decide (r.u = 0) && decide (0 < r.b)
def routeB (r : Rt) : Bool := saidB r && !(decide (r.n = 0) && decide (r.m = 16)) && (inTime r.u && inTime r.b && timesB r)
theorem entV_rt (r : Rt) : entV (rtE r) = .agg #[.int .i64 r.a, .int .i64 r.l, .int .i64 r.n, .int .i64 r.m, .int .i64 r.t] := rfl
/-- Nine cells that a call has laid: what they hold behind a later one. -/
theorem box9 {w w1 : World} {x0 x1 x2 x3 x4 x5 x6 x7 x8 : Value} {t : TypeId} (h : Below (w.alloc (.cells #[x0, x1, x2, x3, x4, x5, x6, x7, x8] t)).heap.size (w.alloc (.cells #[x0, x1, x2, x3, x4, x5, x6, x7, x8] t)) w1) :
    w1.cell? ⟨w.heap.size, 0, none⟩ = some x0 ∧ w1.cell? ⟨w.heap.size, 1, none⟩ = some x1 ∧ w1.cell? ⟨w.heap.size, 2, none⟩ = some x2 ∧ w1.cell? ⟨w.heap.size, 3, none⟩ = some x3 ∧ w1.cell? ⟨w.heap.size, 4, none⟩ = some x4 ∧ w1.cell? ⟨w.heap.size, 5, none⟩ = some x5 ∧ w1.cell? ⟨w.heap.size, 6, none⟩ = some x6 ∧ w1.cell? ⟨w.heap.size, 7, none⟩ = some x7 ∧ w1.cell? ⟨w.heap.size, 8, none⟩ = some x8 ∧ Below w.heap.size w w1 := by
  have hlt : w.heap.size < (w.alloc (.cells #[x0, x1, x2, x3, x4, x5, x6, x7, x8] t)).heap.size := by simp
  have hz : ∀ k, (w.alloc (.cells #[x0, x1, x2, x3, x4, x5, x6, x7, x8] t)).cell? ⟨w.heap.size, k, none⟩ = #[x0, x1, x2, x3, x4, x5, x6, x7, x8][k]? := fun k => cell_of_row _ _ k _ t _ (heap_alloc_new w _)
  refine ⟨?_, ?_, ?_, ?_, ?_, ?_, ?_, ?_, ?_, (ent_new0 w _).trans (h.mono (by simp))⟩ <;> (rw [h.cell (p := ⟨w.heap.size, _, none⟩) hlt, hz]; rfl)
theorem inIf_dec (i : Int) : inIf i = (decide (0 ≤ i) && decide (i ≤ 3)) := by simp [inIf, Bool.decide_and]
set_option maxRecDepth 100000 in
theorem isIface_any (a : Int) (w : World) : Calls Try.prog 111 #[.int .i64 a] w fun e w' => e = .returned (.bool (inIf a)) ∧ w = w' := by
  by_cases h1 : 0 ≤ a
  · by_cases h2 : a ≤ 3
    · go_enter Try.func111, Try.ntmps111
      go_wp2
      go_ret
      exact ⟨ret_bool (by simp [inIf]; omega), rfl⟩
    · go_enter Try.func111, Try.ntmps111
      go_wp2
      go_ret
      exact ⟨ret_bool (by simp [inIf]; omega), rfl⟩
  · go_enter Try.func111, Try.ntmps111
    go_wp2
    go_ret
    exact ⟨ret_bool (by simp [inIf]; omega), rfl⟩
theorem rt_new (w : World) (r : Rt) (t : TypeId) : Below w.heap.size w (w.alloc (.cells (rtA r) t)) := ent_new0 w _
set_option maxRecDepth 100000 in
theorem isOwn_any (r : Rt) (w : World) : Calls Try.prog 99 #[rtV r] w fun e w' => e = .returned (.bool (decide (r.n = 0))) ∧ Below w.heap.size w w' := by
  obtain ⟨a, l, m, n, i, t, u, b, c⟩ := r
  unfold rtV rtA
  have hb := ent_new0 w (.cells #[.int .i64 a, .int .i64 l, .int .i64 m, .int .i64 n, .int .i64 i, .int .i64 t, .int .i64 u, .int .i64 b, .bool c] 101)
  obtain ⟨c0, c1, c2, c3, c4, c5, c6, c7, c8, hB⟩ := box9 (Below.refl _ (w.alloc (.cells #[.int .i64 a, .int .i64 l, .int .i64 m, .int .i64 n, .int .i64 i, .int .i64 t, .int .i64 u, .int .i64 b, .bool c] 101)))
  go_enter Try.func99, Try.ntmps99
  go_wp2
  go_ret
  exact ⟨ret_bool (by rw [Bool.eq_iff_iff]; simp), hb⟩
set_option maxRecDepth 100000 in
theorem saidRight_any (r : Rt) (w : World) : Calls Try.prog 98 #[rtV r] w fun e w' => e = .returned (.bool (saidB r)) ∧ Below w.heap.size w w' := by
  obtain ⟨a, l, m, n, i, t, u, b, c⟩ := r
  have HE : Hid (∀ w, Calls Try.prog 110 #[.agg #[.int .i64 a, .int .i64 l, .int .i64 n, .int .i64 m, .int .i64 t]] w fun e w' => e = .returned (.bool (entB ⟨a, l, n, m, t⟩)) ∧ Below w.heap.size w w') := implEntryRight_any ⟨a, l, n, m, t⟩
  have HI : Hid (∀ w, Calls Try.prog 111 #[.int .i64 i] w fun e w' => e = .returned (.bool (inIf i)) ∧ w = w') := isIface_any i
  have HS : Hid (saidB ⟨a, l, m, n, i, t, u, b, c⟩ = (entB ⟨a, l, n, m, t⟩ && inIf i)) := rfl
  rw [HS.out]
  clear HS
  unfold rtV rtA
  generalize entB ⟨a, l, n, m, t⟩ = E at *
  generalize inIf i = I at *
  obtain ⟨d0, d1, d2, d3, d4, d5, d6, d7, d8, -⟩ := box9 (Below.refl _ (w.alloc (.cells #[.int .i64 a, .int .i64 l, .int .i64 m, .int .i64 n, .int .i64 i, .int .i64 t, .int .i64 u, .int .i64 b, .bool c] 101)))
  go_enter Try.func98, Try.ntmps98
  go_wp2_with fail
  refine (HE.out _).mono ?_
  rintro e w1 ⟨rfl, hb1⟩
  obtain ⟨c0, c1, c2, c3, c4, c5, c6, c7, c8, hB⟩ := box9 hb1
  clear hb1 HE d0 d1 d2 d3 d4 d5 d6 d7 d8
  cases E
  · go_wp2
    go_ret
    exact ⟨rfl, hB⟩
  · go_wp2_with fail
    refine (HI.out _).mono ?_
    rintro e w2 ⟨rfl, rfl⟩
    go_wp2
    go_ret
    exact ⟨rfl, hB⟩
set_option maxRecDepth 100000 in
theorem timesRight_any (r : Rt) (w : World) : Calls Try.prog 101 #[rtV r] w fun e w' => e = .returned (.bool (timesB r)) ∧ Below w.heap.size w w' := by
  obtain ⟨a, l, m, n, i, t, u, b, c⟩ := r
  have HO : Hid (∀ w, Calls Try.prog 99 #[.agg #[.int .i64 a, .int .i64 l, .int .i64 m, .int .i64 n, .int .i64 i, .int .i64 t, .int .i64 u, .int .i64 b, .bool c]] w fun e w' => e = .returned (.bool (decide (n = 0))) ∧ Below w.heap.size w w') := isOwn_any ⟨a, l, m, n, i, t, u, b, c⟩
  have HT : Hid (timesB ⟨a, l, m, n, i, t, u, b, c⟩ = if n = 0 then decide (u = 0) && decide (b = 0) else if m < 16 then decide (0 < u) && decide (b = 0) else decide (u = 0) && decide (0 < b)) := rfl
  rw [HT.out]
  clear HT
  unfold rtV rtA
  obtain ⟨d0, d1, d2, d3, d4, d5, d6, d7, d8, -⟩ := box9 (Below.refl _ (w.alloc (.cells #[.int .i64 a, .int .i64 l, .int .i64 m, .int .i64 n, .int .i64 i, .int .i64 t, .int .i64 u, .int .i64 b, .bool c] 101)))
  go_enter Try.func101, Try.ntmps101
  go_wp2_with fail
  refine (HO.out _).mono ?_
  rintro e w1 ⟨rfl, hb1⟩
  obtain ⟨c0, c1, c2, c3, c4, c5, c6, c7, c8, hB⟩ := box9 hb1
  clear hb1 HO d0 d1 d2 d3 d4 d5 d6 d7 d8
  by_cases hn : n = 0
  · have dn : decide (n = 0) = true := decide_eq_true hn
    rw [dn]
    by_cases hu : u = 0
    · have eu : (u == 0) = true := by simpa using hu
      go_wp2
      go_ret
      exact ⟨ret_bool (by first | rfl | (rw [Bool.eq_iff_iff]; simp; done) | (simp; omega)), hB⟩
    · have eu : (u == 0) = false := by simpa using hu
      go_wp2
      go_ret
      exact ⟨ret_bool (by first | rfl | (rw [Bool.eq_iff_iff]; simp; done) | (simp; omega)), hB⟩
  · have dn : decide (n = 0) = false := decide_eq_false hn
    rw [dn]
    by_cases hm : m < 16
    · by_cases hu : 0 < u
      · go_wp2
        go_ret
        exact ⟨ret_bool (by first | rfl | (rw [Bool.eq_iff_iff]; simp; done) | (simp; omega)), hB⟩
      · go_wp2
        go_ret
        exact ⟨ret_bool (by first | rfl | (rw [Bool.eq_iff_iff]; simp; done) | (simp; omega)), hB⟩
    · by_cases hu : u = 0
      · have eu : (u == 0) = true := by simpa using hu
        go_wp2
        go_ret
        exact ⟨ret_bool (by first | rfl | (rw [Bool.eq_iff_iff]; simp; done) | (simp; omega)), hB⟩
      · have eu : (u == 0) = false := by simpa using hu
        go_wp2
        go_ret
        exact ⟨ret_bool (by first | rfl | (rw [Bool.eq_iff_iff]; simp; done) | (simp; omega)), hB⟩
set_option maxRecDepth 100000 in
theorem implRoute_any (r : Rt) (w : World) : Calls Try.prog 77 #[rtV r] w fun e w' => e = .returned (.bool (routeB r)) ∧ Below w.heap.size w w' := by
  obtain ⟨a, l, m, n, i, t, u, b, c⟩ := r
  have HS : Hid (∀ w, Calls Try.prog 98 #[.agg #[.int .i64 a, .int .i64 l, .int .i64 m, .int .i64 n, .int .i64 i, .int .i64 t, .int .i64 u, .int .i64 b, .bool c]] w fun e w' => e = .returned (.bool (saidB ⟨a, l, m, n, i, t, u, b, c⟩)) ∧ Below w.heap.size w w') := saidRight_any ⟨a, l, m, n, i, t, u, b, c⟩
  have HO : Hid (∀ w, Calls Try.prog 99 #[.agg #[.int .i64 a, .int .i64 l, .int .i64 m, .int .i64 n, .int .i64 i, .int .i64 t, .int .i64 u, .int .i64 b, .bool c]] w fun e w' => e = .returned (.bool (decide (n = 0))) ∧ Below w.heap.size w w') := isOwn_any ⟨a, l, m, n, i, t, u, b, c⟩
  have HT : Hid (∀ w, Calls Try.prog 101 #[.agg #[.int .i64 a, .int .i64 l, .int .i64 m, .int .i64 n, .int .i64 i, .int .i64 t, .int .i64 u, .int .i64 b, .bool c]] w fun e w' => e = .returned (.bool (timesB ⟨a, l, m, n, i, t, u, b, c⟩)) ∧ Below w.heap.size w w') := timesRight_any ⟨a, l, m, n, i, t, u, b, c⟩
  have HU : Hid (∀ w, Calls Try.prog 100 #[.int .i64 u] w fun e w' => e = .returned (.bool (inTime u)) ∧ w = w') := isTime_any u
  have HB : Hid (∀ w, Calls Try.prog 100 #[.int .i64 b] w fun e w' => e = .returned (.bool (inTime b)) ∧ w = w') := isTime_any b
  have HE : Hid (routeB ⟨a, l, m, n, i, t, u, b, c⟩ = (saidB ⟨a, l, m, n, i, t, u, b, c⟩ && !(decide (n = 0) && decide (m = 16)) && (inTime u && inTime b && timesB ⟨a, l, m, n, i, t, u, b, c⟩))) := rfl
  rw [HE.out]
  clear HE
  unfold rtV rtA
  generalize saidB ⟨a, l, m, n, i, t, u, b, c⟩ = S at *
  generalize timesB ⟨a, l, m, n, i, t, u, b, c⟩ = T at *
  generalize inTime u = U at *
  generalize inTime b = B at *
  generalize decide (n = 0) = N at *
  obtain ⟨d0, d1, d2, d3, d4, d5, d6, d7, d8, -⟩ := box9 (Below.refl _ (w.alloc (.cells #[.int .i64 a, .int .i64 l, .int .i64 m, .int .i64 n, .int .i64 i, .int .i64 t, .int .i64 u, .int .i64 b, .bool c] 101)))
  go_enter Try.func77, Try.ntmps77
  go_wp2_with fail
  refine (HS.out _).mono ?_
  rintro e w1 ⟨rfl, hb1⟩
  obtain ⟨c0, c1, c2, c3, c4, c5, c6, c7, c8, hB⟩ := box9 hb1
  clear HS d0 d1 d2 d3 d4 d5 d6 d7 d8
  cases S
  · go_wp2
    go_ret
    exact ⟨rfl, hB⟩
  go_wp2_with fail
  refine (HO.out _).mono ?_
  rintro e w2 ⟨rfl, hb2⟩
  clear c0 c1 c2 c3 c4 c5 c6 c7 c8 hB
  obtain ⟨c0, c1, c2, c3, c4, c5, c6, c7, c8, hB⟩ := box9 (hb1.trans (hb2.mono hb1.size))
  clear hb1 hb2
  by_cases hd : (N && decide (m = 16)) = true
  · have hN : N = true := by cases N <;> simp_all
    have hm : (m == 16) = true := by cases N <;> simp_all
    subst hN
    go_wp2
    go_ret
    exact ⟨ret_bool (by rw [hd]; rfl), hB⟩
  have HD : Hid ((N && decide (m = 16)) = false) := (by simpa using hd : (N && decide (m = 16)) = false)
  have hm : N = true → (m == 16) = false := by intro h; subst h; simpa using hd
  clear hd
  cases N
  · go_wp2_with fail
    refine (HU.out _).mono ?_
    rintro e w3 ⟨rfl, rfl⟩
    cases U
    · go_wp2
      go_ret
      exact ⟨ret_bool (by rw [HD.out]; rfl), hB⟩
    go_wp2_with fail
    refine (HB.out _).mono ?_
    rintro e w3 ⟨rfl, rfl⟩
    cases B
    · go_wp2
      go_ret
      exact ⟨ret_bool (by rw [HD.out]; rfl), hB⟩
    go_wp2_with fail
    refine (HT.out _).mono ?_
    rintro e w3 ⟨rfl, hb3⟩
    go_wp2
    go_ret
    exact ⟨ret_bool (by rw [HD.out]; rfl), hB.trans (hb3.mono hB.size)⟩
  · have hm' := hm rfl
    go_wp2_with fail
    refine (HU.out _).mono ?_
    rintro e w3 ⟨rfl, rfl⟩
    cases U
    · go_wp2
      go_ret
      exact ⟨ret_bool (by rw [HD.out]; rfl), hB⟩
    go_wp2_with fail
    refine (HB.out _).mono ?_
    rintro e w3 ⟨rfl, rfl⟩
    cases B
    · go_wp2
      go_ret
      exact ⟨ret_bool (by rw [HD.out]; rfl), hB⟩
    go_wp2_with fail
    refine (HT.out _).mono ?_
    rintro e w3 ⟨rfl, hb3⟩
    go_wp2
    go_ret
    exact ⟨ret_bool (by rw [HD.out]; rfl), hB.trans (hb3.mono hB.size)⟩
theorem routeB_spec (r : Rt) : routeB r = (rightB r.a r.l && (inMet r.m && (inAddr r.n && (inIf r.i && (inTag r.t && (inTime r.u && inTime r.b)))))
    && (if r.n = 0 then decide (r.u = 0) && decide (r.b = 0) && decide (r.m < 16) else if r.m < 16 then decide (0 < r.u) && decide (r.b = 0) else decide (r.u = 0) && decide (0 < r.b))) := by
  obtain ⟨a, l, m, n, i, t, u, b, c⟩ := r
  simp only [routeB, saidB, entB, rtE, timesB]
  by_cases hn : n = 0
  · simp only [hn, if_true, decide_true, Bool.true_and]
    by_cases hm : inMet m = true
    · have : decide (m < 16) = !decide (m = 16) := by
        have h := hm; simp [inMet] at h
        by_cases h6 : m = 16
        · simp [h6]
        · simp [h6]; omega
      rw [this, hm]
      cases rightB a l <;> cases inAddr 0 <;> cases inIf i <;> cases inTag t <;> cases inTime u <;> cases inTime b <;> cases decide (u = 0) <;> cases decide (b = 0) <;> cases decide (m = 16) <;> rfl
    · simp [hm]
  · simp only [hn, if_false, decide_false, Bool.false_and, Bool.not_false, Bool.and_true]
    by_cases hm : m < 16
    · simp only [hm, if_true]
      cases rightB a l <;> cases inMet m <;> cases inAddr n <;> cases inIf i <;> cases inTag t <;> cases inTime u <;> cases inTime b <;> rfl
    · simp only [hm, if_false]
      cases rightB a l <;> cases inMet m <;> cases inAddr n <;> cases inIf i <;> cases inTag t <;> cases inTime u <;> cases inTime b <;> rfl
set_option maxRecDepth 100000 in
set_option maxHeartbeats 1000000 in
theorem specRoute_any (r : Rt) (w : World) : Calls Try.prog 72 #[rtV r] w fun e w' => e = .returned (.bool (routeB r)) ∧ Below w.heap.size w w' := by
  rw [routeB_spec]
  obtain ⟨a, l, m, n, i, t, u, b, c⟩ := r
  have HR : Hid (∀ w, Calls Try.prog 63 #[.agg #[.int .i64 a, .int .i64 l]] w fun e w' => e = .returned (.bool (rightB a l)) ∧ Below w.heap.size w w') := specRight_any a l
  have HM : Hid (∀ w, Calls Try.prog 42 #[.int .i64 m, .int .i64 1, .int .i64 16] w fun e w' => e = .returned (.bool (inMet m)) ∧ w = w') := l03Is_any m 1 16
  have HA : Hid (∀ w, Calls Try.prog 89 #[.int .i64 n] w fun e w' => e = .returned (.bool (inAddr n)) ∧ w = w') := l03Addr_any n
  have HI : Hid (∀ w, Calls Try.prog 42 #[.int .i64 i, .int .i64 0, .int .i64 3] w fun e w' => e = .returned (.bool (inIf i)) ∧ w = w') := l03Is_any i 0 3
  have HG : Hid (∀ w, Calls Try.prog 42 #[.int .i64 t, .int .i64 0, .int .i64 65535] w fun e w' => e = .returned (.bool (inTag t)) ∧ w = w') := l03Is_any t 0 65535
  have HU : Hid (∀ w, Calls Try.prog 96 #[.int .i64 u] w fun e w' => e = .returned (.bool (inTime u)) ∧ w = w') := l03Time_any u
  have HB : Hid (∀ w, Calls Try.prog 96 #[.int .i64 b] w fun e w' => e = .returned (.bool (inTime b)) ∧ w = w') := l03Time_any b
  unfold rtV rtA
  show Calls _ _ _ _ fun e w' => e = .returned (.bool (rightB a l && (inMet m && (inAddr n && (inIf i && (inTag t && (inTime u && inTime b))))) && (if n = 0 then decide (u = 0) && decide (b = 0) && decide (m < 16) else if m < 16 then decide (0 < u) && decide (b = 0) else decide (u = 0) && decide (0 < b)))) ∧ _
  generalize hX : (if n = 0 then decide (u = 0) && decide (b = 0) && decide (m < 16) else if m < 16 then decide (0 < u) && decide (b = 0) else decide (u = 0) && decide (0 < b)) = X
  have HX : Hid _ := hX
  clear hX
  generalize rightB a l = R at *
  generalize inMet m = M at *
  generalize inAddr n = N at *
  generalize inIf i = I at *
  generalize inTag t = G at *
  generalize inTime u = U at *
  generalize inTime b = B at *
  obtain ⟨d0, d1, d2, d3, d4, d5, d6, d7, d8, -⟩ := box9 (Below.refl _ (w.alloc (.cells #[.int .i64 a, .int .i64 l, .int .i64 m, .int .i64 n, .int .i64 i, .int .i64 t, .int .i64 u, .int .i64 b, .bool c] 101)))
  go_enter Try.func72, Try.ntmps72
  go_wp2_with fail
  refine (HR.out _).mono ?_
  rintro e w1 ⟨rfl, hb1⟩
  obtain ⟨c0, c1, c2, c3, c4, c5, c6, c7, c8, hB⟩ := box9 hb1
  clear hb1 HR d0 d1 d2 d3 d4 d5 d6 d7 d8
  cases R
  · go_wp2
    go_ret
    exact ⟨rfl, hB⟩
  go_wp2_with fail
  refine (HM.out _).mono ?_
  rintro e w2 ⟨rfl, rfl⟩
  cases M
  · go_wp2
    go_ret
    exact ⟨rfl, hB⟩
  go_wp2_with fail
  refine (HA.out _).mono ?_
  rintro e w2 ⟨rfl, rfl⟩
  cases N
  · go_wp2
    go_ret
    exact ⟨rfl, hB⟩
  go_wp2_with fail
  refine (HI.out _).mono ?_
  rintro e w2 ⟨rfl, rfl⟩
  cases I
  · go_wp2
    go_ret
    exact ⟨rfl, hB⟩
  go_wp2_with fail
  refine (HG.out _).mono ?_
  rintro e w2 ⟨rfl, rfl⟩
  cases G
  · go_wp2
    go_ret
    exact ⟨rfl, hB⟩
  go_wp2_with fail
  refine (HU.out _).mono ?_
  rintro e w2 ⟨rfl, rfl⟩
  cases U
  · go_wp2
    go_ret
    exact ⟨rfl, hB⟩
  go_wp2_with fail
  refine (HB.out _).mono ?_
  rintro e w2 ⟨rfl, rfl⟩
  cases B
  · go_wp2
    go_ret
    exact ⟨rfl, hB⟩
  by_cases hn : n = 0
  · have en : (n == 0) = true := by simpa using hn
    by_cases hu : u = 0
    · by_cases hb : b = 0
      · have HX2 : Hid (X = decide (m < 16)) := by show _ = _; rw [← HX.out]; simp [hn, hu, hb]
        have eu : (u == 0) = true := by simpa using hu
        have eb : (b == 0) = true := by simpa using hb
        clear HX
        go_wp2
        go_ret
        exact ⟨ret_bool (by rw [HX2.out]; first | rfl | (rw [Bool.eq_iff_iff]; simp)), hB⟩
      · have HX2 : Hid (X = false) := by show _ = _; rw [← HX.out]; simp [hn, hu, hb]
        have eu : (u == 0) = true := by simpa using hu
        have eb : (b == 0) = false := by simpa using hb
        clear HX
        go_wp2
        go_ret
        exact ⟨ret_bool (by rw [HX2.out]; rfl), hB⟩
    · have HX2 : Hid (X = false) := by show _ = _; rw [← HX.out]; simp [hn, hu]
      have eu : (u == 0) = false := by simpa using hu
      clear HX
      go_wp2
      go_ret
      exact ⟨ret_bool (by rw [HX2.out]; rfl), hB⟩
  · have en : (n == 0) = false := by simpa using hn
    by_cases hm : m < 16
    · have dm : decide (m < 16) = true := decide_eq_true hm
      by_cases hu : 0 < u
      · have HX2 : Hid (X = decide (b = 0)) := by show _ = _; rw [← HX.out]; simp [hn, hm, hu]
        have du : decide (0 < u) = true := decide_eq_true hu
        clear HX
        go_wp2
        go_ret
        exact ⟨ret_bool (by rw [HX2.out]; first | rfl | (rw [Bool.eq_iff_iff]; simp)), hB⟩
      · have HX2 : Hid (X = false) := by show _ = _; rw [← HX.out]; simp [hn, hm, hu]
        have du : decide (0 < u) = false := decide_eq_false hu
        clear HX
        go_wp2
        go_ret
        exact ⟨ret_bool (by rw [HX2.out]; rfl), hB⟩
    · have dm : decide (m < 16) = false := decide_eq_false hm
      by_cases hu : u = 0
      · have HX2 : Hid (X = decide (0 < b)) := by show _ = _; rw [← HX.out]; simp [hn, hm, hu]
        have eu : (u == 0) = true := by simpa using hu
        clear HX
        go_wp2
        go_ret
        exact ⟨ret_bool (by rw [HX2.out]; first | rfl | (rw [Bool.eq_iff_iff]; simp)), hB⟩
      · have HX2 : Hid (X = false) := by show _ = _; rw [← HX.out]; simp [hn, hm, hu]
        have eu : (u == 0) = false := by simpa using hu
        clear HX
        go_wp2
        go_ret
        exact ⟨ret_bool (by rw [HX2.out]; rfl), hB⟩
end Go.Proofs.Ytflmbkjnlgibnaa
/- The laws' own routes, handed over. (Written by gen_rts.py.) -/
namespace Go.Proofs.Ytflmbkjnlgibnaa
open Go.RowKit Go.Sort

/-- Nine stores one behind the other into one block. -/
def nine (w : World) (g o : Nat) (x0 x1 x2 x3 x4 x5 x6 x7 x8 : Value) : World := (((((((((w.setCell ⟨g, o, none⟩ x0).setCell ⟨g, o + 1, none⟩ x1).setCell ⟨g, o + 2, none⟩ x2).setCell ⟨g, o + 3, none⟩ x3).setCell ⟨g, o + 4, none⟩ x4).setCell ⟨g, o + 5, none⟩ x5).setCell ⟨g, o + 6, none⟩ x6).setCell ⟨g, o + 7, none⟩ x7).setCell ⟨g, o + 8, none⟩ x8)
theorem nine_below {B : Nat} {w0 w : World} (h : Below B w0 w) (g o : Nat) (hg : B ≤ g) (x0 x1 x2 x3 x4 x5 x6 x7 x8 : Value) : Below B w0 (nine w g o x0 x1 x2 x3 x4 x5 x6 x7 x8) :=
  ((((((((h.setCell (p := ⟨g, o, none⟩) hg x0).setCell (p := ⟨g, o + 1, none⟩) hg x1).setCell (p := ⟨g, o + 2, none⟩) hg x2).setCell (p := ⟨g, o + 3, none⟩) hg x3).setCell (p := ⟨g, o + 4, none⟩) hg x4).setCell (p := ⟨g, o + 5, none⟩) hg x5).setCell (p := ⟨g, o + 6, none⟩) hg x6).setCell (p := ⟨g, o + 7, none⟩) hg x7).setCell (p := ⟨g, o + 8, none⟩) hg x8
theorem nine_row {w : World} {g : Nat} {t : TypeId} {l : List Value} (h : Row w g t l) (o : Nat) (x0 x1 x2 x3 x4 x5 x6 x7 x8 : Value) : Row (nine w g o x0 x1 x2 x3 x4 x5 x6 x7 x8) g t ((((((((((l.set o x0).set (o + 1) x1).set (o + 2) x2).set (o + 3) x3).set (o + 4) x4).set (o + 5) x5).set (o + 6) x6).set (o + 7) x7).set (o + 8) x8)) :=
  (((((((((h.set o x0).set (o + 1) x1).set (o + 2) x2).set (o + 3) x3).set (o + 4) x4).set (o + 5) x5).set (o + 6) x6).set (o + 7) x7).set (o + 8) x8)
theorem nine_other {w : World} {b g : Nat} {t : TypeId} {l : List Value} (h : Row w b t l) (hne : b ≠ g) (o : Nat) (x0 x1 x2 x3 x4 x5 x6 x7 x8 : Value) : Row (nine w g o x0 x1 x2 x3 x4 x5 x6 x7 x8) b t l :=
  (((((((((h.other o x0 hne).other (o + 1) x1 hne).other (o + 2) x2 hne).other (o + 3) x3 hne).other (o + 4) x4 hne).other (o + 5) x5 hne).other (o + 6) x6 hne).other (o + 7) x7 hne).other (o + 8) x8 hne)
def nine0 (w : World) (g : Nat) (x0 x1 x2 x3 x4 x5 x6 x7 x8 : Value) : World := (((((((((w.setCell ⟨g, 0, none⟩ x0).setCell ⟨g, 1, none⟩ x1).setCell ⟨g, 2, none⟩ x2).setCell ⟨g, 3, none⟩ x3).setCell ⟨g, 4, none⟩ x4).setCell ⟨g, 5, none⟩ x5).setCell ⟨g, 6, none⟩ x6).setCell ⟨g, 7, none⟩ x7).setCell ⟨g, 8, none⟩ x8)
theorem nine0_below {B : Nat} {w0 w : World} (h : Below B w0 w) (g : Nat) (hg : B ≤ g) (x0 x1 x2 x3 x4 x5 x6 x7 x8 : Value) : Below B w0 (nine0 w g x0 x1 x2 x3 x4 x5 x6 x7 x8) :=
  ((((((((h.setCell (p := ⟨g, 0, none⟩) hg x0).setCell (p := ⟨g, 1, none⟩) hg x1).setCell (p := ⟨g, 2, none⟩) hg x2).setCell (p := ⟨g, 3, none⟩) hg x3).setCell (p := ⟨g, 4, none⟩) hg x4).setCell (p := ⟨g, 5, none⟩) hg x5).setCell (p := ⟨g, 6, none⟩) hg x6).setCell (p := ⟨g, 7, none⟩) hg x7).setCell (p := ⟨g, 8, none⟩) hg x8
theorem nine0_row {w : World} {g : Nat} {t : TypeId} {y0 y1 y2 y3 y4 y5 y6 y7 y8 : Value} (h : Row w g t [y0, y1, y2, y3, y4, y5, y6, y7, y8]) (x0 x1 x2 x3 x4 x5 x6 x7 x8 : Value) : Row (nine0 w g x0 x1 x2 x3 x4 x5 x6 x7 x8) g t [x0, x1, x2, x3, x4, x5, x6, x7, x8] := (((((((((h.set 0 x0).set 1 x1).set 2 x2).set 3 x3).set 4 x4).set 5 x5).set 6 x6).set 7 x7).set 8 x8)
theorem nine0_other {w : World} {g : Nat} {t : TypeId} {l : List Value} (h : Row w g t l) (k : Nat) (hk : g ≠ k) (x0 x1 x2 x3 x4 x5 x6 x7 x8 : Value) : Row (nine0 w k x0 x1 x2 x3 x4 x5 x6 x7 x8) g t l := (((((((((h.other 0 x0 hk).other 1 x1 hk).other 2 x2 hk).other 3 x3 hk).other 4 x4 hk).other 5 x5 hk).other 6 x6 hk).other 7 x7 hk).other 8 x8 hk)
set_option maxRecDepth 100000 in
set_option maxHeartbeats 1000000 in
theorem toRoute_any (r : Rt) (w : World) : Calls Try.prog 97 #[rtV r] w fun e w' => e = .returned (rtV r) ∧ Below w.heap.size w w' := by
  obtain ⟨a, l, m, n, i, t, u, b, c⟩ := r
  unfold rtV rtA
  have HT : Hid (∀ w, Calls Try.prog 64 #[.agg #[.int .i64 a, .int .i64 l]] w fun e w' => e = .returned (.agg #[.int .i64 a, .int .i64 l]) ∧ Below w.heap.size w w') := toNet_any a l
  go_enter Try.func97, Try.ntmps97
  go_wp2_with fail
  refine (HT.out _).mono ?_
  rintro e w1 ⟨rfl, hb1⟩
  have q0 := ((Row.new w 130 [.int .i64 a, .int .i64 l, .int .i64 m, .int .i64 n, .int .i64 i, .int .i64 t, .int .i64 u, .int .i64 b, .bool c]).alloc (.cells #[.int .i64 0, .int .i64 0, .int .i64 0, .int .i64 0, .int .i64 0, .int .i64 0, .int .i64 0, .int .i64 0, .bool false] 101)).alloc (.cells #[.int .i64 0, .int .i64 0, .int .i64 0, .int .i64 0, .int .i64 0, .int .i64 0, .int .i64 0, .int .i64 0, .bool false] 101)
  have q1 := (Row.new (w.alloc (.cells #[.int .i64 a, .int .i64 l, .int .i64 m, .int .i64 n, .int .i64 i, .int .i64 t, .int .i64 u, .int .i64 b, .bool c] 130)) 101 [.int .i64 0, .int .i64 0, .int .i64 0, .int .i64 0, .int .i64 0, .int .i64 0, .int .i64 0, .int .i64 0, .bool false]).alloc (.cells #[.int .i64 0, .int .i64 0, .int .i64 0, .int .i64 0, .int .i64 0, .int .i64 0, .int .i64 0, .int .i64 0, .bool false] 101)
  have q2 := Row.new ((w.alloc (.cells #[.int .i64 a, .int .i64 l, .int .i64 m, .int .i64 n, .int .i64 i, .int .i64 t, .int .i64 u, .int .i64 b, .bool c] 130)).alloc (.cells #[.int .i64 0, .int .i64 0, .int .i64 0, .int .i64 0, .int .i64 0, .int .i64 0, .int .i64 0, .int .i64 0, .bool false] 101)) 101 [.int .i64 0, .int .i64 0, .int .i64 0, .int .i64 0, .int .i64 0, .int .i64 0, .int .i64 0, .int .i64 0, .bool false]
  have hB : Below w.heap.size w w1 := (((ent_new0 w _).alloc (by simp) _).alloc (by simp; omega) _).trans (hb1.mono (by simp; omega))
  have p0 := q0.below hb1 q0.lt
  have p1 := q1.below hb1 q1.lt
  have p2 := q2.below hb1 q2.lt
  clear q0 q1 q2 hb1
  have h0 : (w.alloc (.cells #[.int .i64 a, .int .i64 l, .int .i64 m, .int .i64 n, .int .i64 i, .int .i64 t, .int .i64 u, .int .i64 b, .bool c] 130)).heap.size = w.heap.size + 1 := by simp
  have h1 : ((w.alloc (.cells #[.int .i64 a, .int .i64 l, .int .i64 m, .int .i64 n, .int .i64 i, .int .i64 t, .int .i64 u, .int .i64 b, .bool c] 130)).alloc (.cells #[.int .i64 0, .int .i64 0, .int .i64 0, .int .i64 0, .int .i64 0, .int .i64 0, .int .i64 0, .int .i64 0, .bool false] 101)).heap.size = w.heap.size + 1 + 1 := by simp
  rw [h0] at p1
  rw [h1] at p2
  clear h0 h1
  have a2 : w1.cell? ⟨w.heap.size, 2, none⟩ = some (.int .i64 m) := p0.cell 2
  have a3 : w1.cell? ⟨w.heap.size, 3, none⟩ = some (.int .i64 n) := p0.cell 3
  have a4 : w1.cell? ⟨w.heap.size, 4, none⟩ = some (.int .i64 i) := p0.cell 4
  have a5 : w1.cell? ⟨w.heap.size, 5, none⟩ = some (.int .i64 t) := p0.cell 5
  have a6 : w1.cell? ⟨w.heap.size, 6, none⟩ = some (.int .i64 u) := p0.cell 6
  have a7 : w1.cell? ⟨w.heap.size, 7, none⟩ = some (.int .i64 b) := p0.cell 7
  have a8 : w1.cell? ⟨w.heap.size, 8, none⟩ = some (.bool c) := p0.cell 8
  have b0 : w1.cell? ⟨w.heap.size + 1, 0, none⟩ = some (.int .i64 0) := p1.cell 0
  have b1 : w1.cell? ⟨w.heap.size + 1, 1, none⟩ = some (.int .i64 0) := p1.cell 1
  have b2 : w1.cell? ⟨w.heap.size + 1, 2, none⟩ = some (.int .i64 0) := p1.cell 2
  have b3 : w1.cell? ⟨w.heap.size + 1, 3, none⟩ = some (.int .i64 0) := p1.cell 3
  have b4 : w1.cell? ⟨w.heap.size + 1, 4, none⟩ = some (.int .i64 0) := p1.cell 4
  have b5 : w1.cell? ⟨w.heap.size + 1, 5, none⟩ = some (.int .i64 0) := p1.cell 5
  have b6 : w1.cell? ⟨w.heap.size + 1, 6, none⟩ = some (.int .i64 0) := p1.cell 6
  have b7 : w1.cell? ⟨w.heap.size + 1, 7, none⟩ = some (.int .i64 0) := p1.cell 7
  have b8 : w1.cell? ⟨w.heap.size + 1, 8, none⟩ = some (.bool false) := p1.cell 8
  have d0 : w1.cell? ⟨w.heap.size + 1 + 1, 0, none⟩ = some (.int .i64 0) := p2.cell 0
  have d1 : w1.cell? ⟨w.heap.size + 1 + 1, 1, none⟩ = some (.int .i64 0) := p2.cell 1
  have d2 : w1.cell? ⟨w.heap.size + 1 + 1, 2, none⟩ = some (.int .i64 0) := p2.cell 2
  have d3 : w1.cell? ⟨w.heap.size + 1 + 1, 3, none⟩ = some (.int .i64 0) := p2.cell 3
  have d4 : w1.cell? ⟨w.heap.size + 1 + 1, 4, none⟩ = some (.int .i64 0) := p2.cell 4
  have d5 : w1.cell? ⟨w.heap.size + 1 + 1, 5, none⟩ = some (.int .i64 0) := p2.cell 5
  have d6 : w1.cell? ⟨w.heap.size + 1 + 1, 6, none⟩ = some (.int .i64 0) := p2.cell 6
  have d7 : w1.cell? ⟨w.heap.size + 1 + 1, 7, none⟩ = some (.int .i64 0) := p2.cell 7
  have d8 : w1.cell? ⟨w.heap.size + 1 + 1, 8, none⟩ = some (.bool false) := p2.cell 8
  have f0 := p1.frozen 0
  have f1 := p1.frozen 1
  have f2 := p1.frozen 2
  have f3 := p1.frozen 3
  have f4 := p1.frozen 4
  have f5 := p1.frozen 5
  have f6 := p1.frozen 6
  have f7 := p1.frozen 7
  have f8 := p1.frozen 8
  have g0 := p2.frozen 0
  have g1 := p2.frozen 1
  have g2 := p2.frozen 2
  have g3 := p2.frozen 3
  have g4 := p2.frozen 4
  have g5 := p2.frozen 5
  have g6 := p2.frozen 6
  have g7 := p2.frozen 7
  have g8 := p2.frozen 8
  have P1 : Hid (Row w1 (w.heap.size + 1) 101 [.int .i64 0, .int .i64 0, .int .i64 0, .int .i64 0, .int .i64 0, .int .i64 0, .int .i64 0, .int .i64 0, .bool false]) := p1
  clear p0 p1 p2
  have hBB := nine0_below (nine0_below hB (w.heap.size + 1 + 1) (by omega) (.int .i64 a) (.int .i64 l) (.int .i64 m) (.int .i64 n) (.int .i64 i) (.int .i64 t) (.int .i64 u) (.int .i64 b) (.bool c)) (w.heap.size + 1) (by omega) (.int .i64 a) (.int .i64 l) (.int .i64 m) (.int .i64 n) (.int .i64 i) (.int .i64 t) (.int .i64 u) (.int .i64 b) (.bool c)
  have hRR := nine0_row (nine0_other P1.out (w.heap.size + 1 + 1) (by omega) (.int .i64 a) (.int .i64 l) (.int .i64 m) (.int .i64 n) (.int .i64 i) (.int .i64 t) (.int .i64 u) (.int .i64 b) (.bool c)) (.int .i64 a) (.int .i64 l) (.int .i64 m) (.int .i64 n) (.int .i64 i) (.int .i64 t) (.int .i64 u) (.int .i64 b) (.bool c)
  unfold nine0 at hBB hRR
  have HH : Hid _ := And.intro hBB hRR
  clear hBB hRR P1
  go_wp2_with fail
  have HH2 := HH.out
  clear HH b0 b1 b2 b3 b4 b5 b6 b7 b8 d0 d1 d2 d3 d4 d5 d6 d7 d8 f0 f1 f2 f3 f4 f5 f6 f7 f8 g0 g1 g2 g3 g4 g5 g6 g7 g8 a2 a3 a4 a5 a6 a7 a8 hB HT
  generalize ((((((((((((((((((w1.setCell ⟨w.heap.size + 1 + 1, 0, none⟩ (.int .i64 a)).setCell ⟨w.heap.size + 1 + 1, 1, none⟩ (.int .i64 l)).setCell ⟨w.heap.size + 1 + 1, 2, none⟩ (.int .i64 m)).setCell ⟨w.heap.size + 1 + 1, 3, none⟩ (.int .i64 n)).setCell ⟨w.heap.size + 1 + 1, 4, none⟩ (.int .i64 i)).setCell ⟨w.heap.size + 1 + 1, 5, none⟩ (.int .i64 t)).setCell ⟨w.heap.size + 1 + 1, 6, none⟩ (.int .i64 u)).setCell ⟨w.heap.size + 1 + 1, 7, none⟩ (.int .i64 b)).setCell ⟨w.heap.size + 1 + 1, 8, none⟩ (.bool c)).setCell ⟨w.heap.size + 1, 0, none⟩ (.int .i64 a)).setCell ⟨w.heap.size + 1, 1, none⟩ (.int .i64 l)).setCell ⟨w.heap.size + 1, 2, none⟩ (.int .i64 m)).setCell ⟨w.heap.size + 1, 3, none⟩ (.int .i64 n)).setCell ⟨w.heap.size + 1, 4, none⟩ (.int .i64 i)).setCell ⟨w.heap.size + 1, 5, none⟩ (.int .i64 t)).setCell ⟨w.heap.size + 1, 6, none⟩ (.int .i64 u)).setCell ⟨w.heap.size + 1, 7, none⟩ (.int .i64 b)).setCell ⟨w.heap.size + 1, 8, none⟩ (.bool c)) = W at *
  obtain ⟨hBB, hRR⟩ := HH2
  have b0 : W.cell? ⟨w.heap.size + 1, 0, none⟩ = some (.int .i64 a) := hRR.cell 0
  have b1 : W.cell? ⟨w.heap.size + 1, 1, none⟩ = some (.int .i64 l) := hRR.cell 1
  have b2 : W.cell? ⟨w.heap.size + 1, 2, none⟩ = some (.int .i64 m) := hRR.cell 2
  have b3 : W.cell? ⟨w.heap.size + 1, 3, none⟩ = some (.int .i64 n) := hRR.cell 3
  have b4 : W.cell? ⟨w.heap.size + 1, 4, none⟩ = some (.int .i64 i) := hRR.cell 4
  have b5 : W.cell? ⟨w.heap.size + 1, 5, none⟩ = some (.int .i64 t) := hRR.cell 5
  have b6 : W.cell? ⟨w.heap.size + 1, 6, none⟩ = some (.int .i64 u) := hRR.cell 6
  have b7 : W.cell? ⟨w.heap.size + 1, 7, none⟩ = some (.int .i64 b) := hRR.cell 7
  have b8 : W.cell? ⟨w.heap.size + 1, 8, none⟩ = some (.bool c) := hRR.cell 8
  clear hRR
  refine bodyPost_ret (v := .agg #[.int .i64 a, .int .i64 l, .int .i64 m, .int .i64 n, .int .i64 i, .int .i64 t, .int .i64 u, .int .i64 b, .bool c]) (by simp [results, Try.results97, go_sem, b0, b1, b2, b3, b4, b5, b6, b7, b8]) rfl ⟨rfl, hBB⟩
end Go.Proofs.Ytflmbkjnlgibnaa
/- The laws' own routes, and lists of them, handed in: opened. (Written by gen_rts.py.) -/
namespace Go.Proofs.Ytflmbkjnlgibnaa
open Go.ChangeShapes Go.WideShapes Go.RowKit Go.Deep Go.WideElems Go.Maps Go.Joins

def rtL (r : Rt) : List Value := [.int .i64 r.a, .int .i64 r.l, .int .i64 r.m, .int .i64 r.n, .int .i64 r.i, .int .i64 r.t, .int .i64 r.u, .int .i64 r.b, .bool r.c]
theorem rtL_rtA (r : Rt) : (rtA r).toList = rtL r := rfl
theorem array9 {α : Type} {cs : Array α} (h : cs.size = 9) : ∃ c0 c1 c2 c3 c4 c5 c6 c7 c8, cs = #[c0, c1, c2, c3, c4, c5, c6, c7, c8] := by
  obtain ⟨l⟩ := cs
  match l, h with
  | [c0, c1, c2, c3, c4, c5, c6, c7, c8], _ => exact ⟨c0, c1, c2, c3, c4, c5, c6, c7, c8, rfl⟩
/-- All eight numbers of a route are of 64 bits. -/
def RtW (r : Rt) : Prop := (Lit.int .i64 r.a).wf = true ∧ (Lit.int .i64 r.l).wf = true ∧ (Lit.int .i64 r.m).wf = true ∧ (Lit.int .i64 r.n).wf = true ∧ (Lit.int .i64 r.i).wf = true ∧ (Lit.int .i64 r.t).wf = true ∧ (Lit.int .i64 r.u).wf = true ∧ (Lit.int .i64 r.b).wf = true
theorem Try.cellsRoute : Try.prog.cellsOf 130 = 9 := by kernel_rfl
theorem Try.cellsNetR : Try.prog.cellsOf 58 = 2 := by kernel_rfl
theorem Try.cellsIntR : Try.prog.cellsOf 2 = 1 := by kernel_rfl
theorem Try.cellsBoolR : Try.prog.cellsOf 4 = 1 := by kernel_rfl
section
variable {H : Type} {enc : TypeId × Value → H} {w : World} {base : Nat} {spare : Nat → Bool} {held : Bool}
set_option maxRecDepth 100000 in
theorem open_rt {fuel : Nat} {cs : List Value} {x : DataW H × List MemPlace} (h : DataW.trod enc Try.prog w base spare held fuel 130 cs = some x) : ∃ r : Rt, cs = rtL r ∧ RtW r := by
  obtain ⟨xs, n, _, _, hl, hx, hg⟩ := DataW.trod_struct Try.underlying130 h
  rw [Try.cellsRoute] at hl
  match cs, hl, xs, hx with
  | [c0, c1, c2, c3, c4, c5, c6, c7, c8], _, [y0, y1, y2, y3, y4, y5, y6, y7], _ =>
    have h0 : DataW.trod enc Try.prog w base spare held n 58 ((([c0, c1, c2, c3, c4, c5, c6, c7, c8] : List Value).drop 0).take (Try.prog.cellsOf 58)) = [y0, y1, y2, y3, y4, y5, y6, y7][0]? := hg 0 _ rfl
    rw [Try.cellsNetR] at h0
    replace h0 : DataW.trod enc Try.prog w base spare held n 58 [c0, c1] = some y0 := h0
    have h1 : DataW.trod enc Try.prog w base spare held n 2 ((([c0, c1, c2, c3, c4, c5, c6, c7, c8] : List Value).drop 2).take (Try.prog.cellsOf 2)) = [y0, y1, y2, y3, y4, y5, y6, y7][1]? := hg 1 _ rfl
    rw [Try.cellsIntR] at h1
    replace h1 : DataW.trod enc Try.prog w base spare held n 2 [c2] = some y1 := h1
    have h2 : DataW.trod enc Try.prog w base spare held n 2 ((([c0, c1, c2, c3, c4, c5, c6, c7, c8] : List Value).drop 3).take (Try.prog.cellsOf 2)) = [y0, y1, y2, y3, y4, y5, y6, y7][2]? := hg 2 _ rfl
    rw [Try.cellsIntR] at h2
    replace h2 : DataW.trod enc Try.prog w base spare held n 2 [c3] = some y2 := h2
    have h3 : DataW.trod enc Try.prog w base spare held n 2 ((([c0, c1, c2, c3, c4, c5, c6, c7, c8] : List Value).drop 4).take (Try.prog.cellsOf 2)) = [y0, y1, y2, y3, y4, y5, y6, y7][3]? := hg 3 _ rfl
    rw [Try.cellsIntR] at h3
    replace h3 : DataW.trod enc Try.prog w base spare held n 2 [c4] = some y3 := h3
    have h4 : DataW.trod enc Try.prog w base spare held n 2 ((([c0, c1, c2, c3, c4, c5, c6, c7, c8] : List Value).drop 5).take (Try.prog.cellsOf 2)) = [y0, y1, y2, y3, y4, y5, y6, y7][4]? := hg 4 _ rfl
    rw [Try.cellsIntR] at h4
    replace h4 : DataW.trod enc Try.prog w base spare held n 2 [c5] = some y4 := h4
    have h5 : DataW.trod enc Try.prog w base spare held n 2 ((([c0, c1, c2, c3, c4, c5, c6, c7, c8] : List Value).drop 6).take (Try.prog.cellsOf 2)) = [y0, y1, y2, y3, y4, y5, y6, y7][5]? := hg 5 _ rfl
    rw [Try.cellsIntR] at h5
    replace h5 : DataW.trod enc Try.prog w base spare held n 2 [c6] = some y5 := h5
    have h6 : DataW.trod enc Try.prog w base spare held n 2 ((([c0, c1, c2, c3, c4, c5, c6, c7, c8] : List Value).drop 7).take (Try.prog.cellsOf 2)) = [y0, y1, y2, y3, y4, y5, y6, y7][6]? := hg 6 _ rfl
    rw [Try.cellsIntR] at h6
    replace h6 : DataW.trod enc Try.prog w base spare held n 2 [c7] = some y6 := h6
    have h7 : DataW.trod enc Try.prog w base spare held n 4 ((([c0, c1, c2, c3, c4, c5, c6, c7, c8] : List Value).drop 8).take (Try.prog.cellsOf 4)) = [y0, y1, y2, y3, y4, y5, y6, y7][7]? := hg 7 _ rfl
    rw [Try.cellsBoolR] at h7
    replace h7 : DataW.trod enc Try.prog w base spare held n 4 [c8] = some y7 := h7
    obtain ⟨zs, k, _, _, _, hz, hk⟩ := DataW.trod_struct Try.underlying58 h0
    match zs, hz with
    | [z0, z1], _ =>
      have k0 : DataW.trod enc Try.prog w base spare held k 2 ((([c0, c1] : List Value).drop 0).take (Try.prog.cellsOf 2)) = [z0, z1][0]? := hk 0 _ rfl
      rw [Try.cellsIntR] at k0
      replace k0 : DataW.trod enc Try.prog w base spare held k 2 [c0] = some z0 := k0
      have k1 : DataW.trod enc Try.prog w base spare held k 2 ((([c0, c1] : List Value).drop 1).take (Try.prog.cellsOf 2)) = [z0, z1][1]? := hk 1 _ rfl
      rw [Try.cellsIntR] at k1
      replace k1 : DataW.trod enc Try.prog w base spare held k 2 [c1] = some z1 := k1
      obtain ⟨a, ea, _, wa⟩ := DataW.trod_int Try.underlying2 k0
      obtain ⟨l, el, _, wl⟩ := DataW.trod_int Try.underlying2 k1
      obtain ⟨m, em, _, wm⟩ := DataW.trod_int Try.underlying2 h1
      obtain ⟨n, en, _, wn⟩ := DataW.trod_int Try.underlying2 h2
      obtain ⟨i, ei, _, wi⟩ := DataW.trod_int Try.underlying2 h3
      obtain ⟨t, et, _, wt⟩ := DataW.trod_int Try.underlying2 h4
      obtain ⟨u, eu, _, wu⟩ := DataW.trod_int Try.underlying2 h5
      obtain ⟨b, eb, _, wb⟩ := DataW.trod_int Try.underlying2 h6
      obtain ⟨c, ec, _⟩ := DataW.trod_bool Try.underlying4 h7
      simp only [List.cons.injEq, and_true] at ea el em en ei et eu eb ec
      subst ea el em en ei et eu eb ec
      exact ⟨⟨a, l, m, n, i, t, u, b, c⟩, rfl, wa, wl, wm, wn, wi, wt, wu, wb⟩
set_option maxRecDepth 100000 in
theorem open_rtV {r : Reach} {b0 : Nat} {v : Value} {d : DataW H} {p : List MemPlace} (hv : Value.okWide Try.prog w r b0 130 v) (h : DataW.Trod enc Try.prog w base spare held 130 v d p) :
    ∃ e : Rt, v = rtV e ∧ RtW e := by
  obtain ⟨cs, rfl, hsz⟩ := okWide_struct Try.underlying130 hv
  obtain ⟨c0, c1, c2, c3, c4, c5, c6, c7, c8, rfl⟩ := array9 (hsz.trans Try.cellsRoute)
  obtain ⟨fuel, hf⟩ := h
  obtain ⟨e, he, hw⟩ := open_rt hf
  refine ⟨e, ?_, hw⟩
  simp only [Value.cells, rtL] at he
  simp only [List.cons.injEq, and_true] at he
  obtain ⟨rfl, rfl, rfl, rfl, rfl, rfl, rfl, rfl, rfl⟩ := he
  rfl
end
end Go.Proofs.Ytflmbkjnlgibnaa
/- Lists of routes in memory. (Written by gen_rts.py.) -/
namespace Go.Proofs.Ytflmbkjnlgibnaa
open Go.RowKit Go.Sort

def rowR (rs : List Rt) : List Value := rs.flatMap rtL
theorem rtL_length (r : Rt) : (rtL r).length = 9 := rfl
theorem rowR_length (rs : List Rt) : (rowR rs).length = 9 * rs.length := by
  induction rs with
  | nil => rfl
  | cons e es ih => simp only [rowR, List.flatMap_cons, List.length_append, List.length_cons] at ih ⊢; rw [ih, rtL_length]; omega
theorem rowR_append (a b : List Rt) : rowR (a ++ b) = rowR a ++ rowR b := by simp [rowR]
theorem rowR_cons (e : Rt) (es : List Rt) : rowR (e :: es) = rtL e ++ rowR es := rfl
theorem rowR_get (es : List Rt) (i k : Nat) (hi : i < es.length) (hk : k < 9) : (rowR es)[i * 9 + k]? = (rtL es[i])[k]? := by
  induction es generalizing i with
  | nil => simp at hi
  | cons e es ih =>
    rw [rowR_cons]
    match i with
    | 0 => rw [Nat.zero_mul, Nat.zero_add, List.getElem?_append_left (by rw [rtL_length]; omega)]; rfl
    | i + 1 =>
      rw [List.getElem?_append_right (by rw [rtL_length]; omega), rtL_length, show (i + 1) * 9 + k - 9 = i * 9 + k by omega, ih i (by simpa using hi)]
      rfl
theorem rowR_one (es : List Rt) : ∀ u ∈ rowR es, u.oneCell' = true := by
  intro u hu
  simp only [rowR, List.mem_flatMap, rtL, List.mem_cons, List.not_mem_nil, or_false] at hu
  obtain ⟨e, _, h⟩ := hu
  rcases h with h | h | h | h | h | h | h | h | h <;> (rw [h]; rfl)
/-- The slice (p, rs.length) holds the routes rs. -/
def RtsIn (w : World) (p : Option Addr) (rs : List Rt) : Prop := rs = [] ∨ ∃ g, p = some ⟨g, 0, none⟩ ∧ g < w.heap.size ∧ ∀ j u, (rowR rs)[j]? = some u → w.cell? ⟨g, j, none⟩ = some u
theorem RtsIn.below {w w' : World} {p : Option Addr} {rs : List Rt} (h : RtsIn w p rs) (hb : Below w.heap.size w w') : RtsIn w' p rs := by
  rcases h with h | ⟨g, hp, hg, hc⟩
  · exact .inl h
  · refine .inr ⟨g, hp, by have := hb.size; omega, fun j u hj => ?_⟩
    rw [hb.cell (p := ⟨g, j, none⟩) hg]
    exact hc j u hj
theorem RtsIn.alloc {w : World} {p : Option Addr} {rs : List Rt} (h : RtsIn w p rs) (o : Obj) : RtsIn (w.alloc o) p rs := h.below (ent_new0 w o)
theorem RtsIn.at {w : World} {p : Option Addr} {rs : List Rt} (h : RtsIn w p rs) (i : Nat) (hi : i < rs.length) : ∃ g a l m n ii t u b c, p = some ⟨g, 0, none⟩ ∧ g < w.heap.size ∧ rs[i] = ⟨a, l, m, n, ii, t, u, b, c⟩ ∧ w.cell? ⟨g, i * 9, none⟩ = some (.int .i64 a) ∧ w.cell? ⟨g, i * 9 + 1, none⟩ = some (.int .i64 l) ∧ w.cell? ⟨g, i * 9 + 2, none⟩ = some (.int .i64 m) ∧ w.cell? ⟨g, i * 9 + 3, none⟩ = some (.int .i64 n) ∧ w.cell? ⟨g, i * 9 + 4, none⟩ = some (.int .i64 ii) ∧ w.cell? ⟨g, i * 9 + 5, none⟩ = some (.int .i64 t) ∧ w.cell? ⟨g, i * 9 + 6, none⟩ = some (.int .i64 u) ∧ w.cell? ⟨g, i * 9 + 7, none⟩ = some (.int .i64 b) ∧ w.cell? ⟨g, i * 9 + 8, none⟩ = some (.bool c) := by
  rcases h with rfl | ⟨g, hp, hg, hc⟩
  · simp at hi
  · exact ⟨g, rs[i].a, rs[i].l, rs[i].m, rs[i].n, rs[i].i, rs[i].t, rs[i].u, rs[i].b, rs[i].c, hp, hg, rfl, hc _ _ (rowR_get rs i 0 hi (by omega)), hc _ _ (rowR_get rs i 1 hi (by omega)), hc _ _ (rowR_get rs i 2 hi (by omega)), hc _ _ (rowR_get rs i 3 hi (by omega)), hc _ _ (rowR_get rs i 4 hi (by omega)), hc _ _ (rowR_get rs i 5 hi (by omega)), hc _ _ (rowR_get rs i 6 hi (by omega)), hc _ _ (rowR_get rs i 7 hi (by omega)), hc _ _ (rowR_get rs i 8 hi (by omega))⟩
def ribV (p : Option Addr) (n cap : Nat) : Value := .agg #[.slice p n cap]
theorem rtsIn_row {w : World} {g : Nat} {t : TypeId} {rs : List Rt} (h : Row w g t (rowR rs)) : RtsIn w (some ⟨g, 0, none⟩) rs := .inr ⟨g, rfl, h.lt, fun j _ hj => (h.cell j).trans hj⟩
end Go.Proofs.Ytflmbkjnlgibnaa
/- The laws' own tables: opened, measured, handed over. (Written by gen_rts.py.) -/
namespace Go.Proofs.Ytflmbkjnlgibnaa
open Go.ChangeShapes Go.WideShapes Go.RowKit Go.Sort Go.Deep Go.Joins

/-- The slice (x, len) that was handed in holds the routes rs. -/
def ArgR (w : World) (x : Option Addr) (len : Nat) (rs : List Rt) : Prop := rs.length = len ∧ len ≤ maxLen ∧ (∀ e ∈ rs, RtW e) ∧ ∀ i, (h : i < rs.length) → ∃ p, x = some p ∧ w.cell? (p.add (i * 9)) = some (.int .i64 rs[i].a) ∧ w.cell? (p.add (i * 9 + 1)) = some (.int .i64 rs[i].l) ∧ w.cell? (p.add (i * 9 + 2)) = some (.int .i64 rs[i].m) ∧ w.cell? (p.add (i * 9 + 3)) = some (.int .i64 rs[i].n) ∧ w.cell? (p.add (i * 9 + 4)) = some (.int .i64 rs[i].i) ∧ w.cell? (p.add (i * 9 + 5)) = some (.int .i64 rs[i].t) ∧ w.cell? (p.add (i * 9 + 6)) = some (.int .i64 rs[i].u) ∧ w.cell? (p.add (i * 9 + 7)) = some (.int .i64 rs[i].b) ∧ w.cell? (p.add (i * 9 + 8)) = some (.bool rs[i].c)
theorem ArgR.below {w w' : World} {x : Option Addr} {len : Nat} {rs : List Rt} (h : ArgR w x len rs) (hb : Below w.heap.size w w') : ArgR w' x len rs := by
  obtain ⟨h1, h2, h3, h4⟩ := h
  refine ⟨h1, h2, h3, fun i hi => ?_⟩
  obtain ⟨p, hp, c0, c1, c2, c3, c4, c5, c6, c7, c8⟩ := h4 i hi
  have hk : ∀ k v, w.cell? (p.add k) = some v → w'.cell? (p.add k) = some v := fun k v hv => by rw [hb.cell (World.block_lt_of_cell? w _ hv)]; exact hv
  exact ⟨p, hp, hk _ _ c0, hk _ _ c1, hk _ _ c2, hk _ _ c3, hk _ _ c4, hk _ _ c5, hk _ _ c6, hk _ _ c7, hk _ _ c8⟩
theorem addr_moreR (p : Addr) (m j : Nat) (hj : j ≠ 0) : p.add (m + j) = ⟨(p.add m).block, (p.add m).off + j, none⟩ := by
  rw [← Addr.add_add]
  generalize p.add m = q
  unfold Addr.add
  rw [if_neg hj]
theorem ArgR.at {w : World} {x : Option Addr} {len : Nat} {rs : List Rt} (h : ArgR w x len rs) (i : Nat) (hi : i < rs.length) : ∃ p a l m n ii t u b c, x = some p ∧ rs[i] = ⟨a, l, m, n, ii, t, u, b, c⟩ ∧ w.cell? (p.add (i * 9)) = some (.int .i64 a) ∧ w.cell? ⟨(p.add (i * 9)).block, (p.add (i * 9)).off + 1, none⟩ = some (.int .i64 l) ∧ w.cell? ⟨(p.add (i * 9)).block, (p.add (i * 9)).off + 2, none⟩ = some (.int .i64 m) ∧ w.cell? ⟨(p.add (i * 9)).block, (p.add (i * 9)).off + 3, none⟩ = some (.int .i64 n) ∧ w.cell? ⟨(p.add (i * 9)).block, (p.add (i * 9)).off + 4, none⟩ = some (.int .i64 ii) ∧ w.cell? ⟨(p.add (i * 9)).block, (p.add (i * 9)).off + 5, none⟩ = some (.int .i64 t) ∧ w.cell? ⟨(p.add (i * 9)).block, (p.add (i * 9)).off + 6, none⟩ = some (.int .i64 u) ∧ w.cell? ⟨(p.add (i * 9)).block, (p.add (i * 9)).off + 7, none⟩ = some (.int .i64 b) ∧ w.cell? ⟨(p.add (i * 9)).block, (p.add (i * 9)).off + 8, none⟩ = some (.bool c) := by
  obtain ⟨p, hp, c0, c1, c2, c3, c4, c5, c6, c7, c8⟩ := h.2.2.2 i hi
  rw [addr_moreR _ _ _ (by omega)] at c1 c2 c3 c4 c5 c6 c7 c8
  exact ⟨p, _, _, _, _, _, _, _, _, _, hp, rfl, c0, c1, c2, c3, c4, c5, c6, c7, c8⟩
section
variable {H : Type} {enc : TypeId × Value → H} {w : World} {base : Nat} {spare : Nat → Bool} {held : Bool}
set_option maxRecDepth 100000 in
theorem open_rts {fuel : Nat} {v : Value} {x : DataW H × List MemPlace} (h : DataW.trod enc Try.prog w base spare held fuel 23 [v] = some x) : ∃ y len cap rs, v = .slice y len cap ∧ ArgR w y len rs := by
  rcases open_slice Try.underlying23 h with ⟨h0, _⟩ | ⟨a, len, cap, m, n, D, Pl, h0, hb, hl, hm, hmm, _, hx⟩
  · simp only [List.cons.injEq, and_true] at h0
    exact ⟨none, 0, 0, [], h0, rfl, Nat.zero_le _, by simp, fun i hi => absurd hi (by simp)⟩
  · simp only [List.cons.injEq, and_true] at h0
    have hlm : len ≤ m := by rw [hmm]; split <;> omega
    have each : ∀ i, i < m → ∃ e : Rt, RtW e ∧ w.cell? (a.add (i * 9)) = some (.int .i64 e.a) ∧ w.cell? (a.add (i * 9 + 1)) = some (.int .i64 e.l) ∧ w.cell? (a.add (i * 9 + 2)) = some (.int .i64 e.m) ∧ w.cell? (a.add (i * 9 + 3)) = some (.int .i64 e.n) ∧ w.cell? (a.add (i * 9 + 4)) = some (.int .i64 e.i) ∧ w.cell? (a.add (i * 9 + 5)) = some (.int .i64 e.t) ∧ w.cell? (a.add (i * 9 + 6)) = some (.int .i64 e.u) ∧ w.cell? (a.add (i * 9 + 7)) = some (.int .i64 e.b) ∧ w.cell? (a.add (i * 9 + 8)) = some (.bool e.c) := by
      intro i hi
      obtain ⟨cs', h1, h2⟩ := hx i hi
      rw [Try.cellsRoute] at h1
      obtain ⟨e, rfl, hw⟩ := open_rt h2
      obtain ⟨_, _, hcell⟩ := World.cells?_some h1
      have hadd : ∀ j k, (a.add j).add k = a.add (j + k) := fun j k => by
        unfold Addr.add
        by_cases hj : j = 0
        · subst hj; by_cases hk : k = 0 <;> simp [hk]
        · by_cases hk : k = 0
          · simp [hj, hk]
          · simp [hj, hk, Nat.add_assoc]
      refine ⟨e, hw, ?_⟩
      have k0 := hcell 0 (by omega)
      have k1 := hcell 1 (by omega)
      have k2 := hcell 2 (by omega)
      have k3 := hcell 3 (by omega)
      have k4 := hcell 4 (by omega)
      have k5 := hcell 5 (by omega)
      have k6 := hcell 6 (by omega)
      have k7 := hcell 7 (by omega)
      have k8 := hcell 8 (by omega)
      simp only [hadd, Nat.add_zero, rtL] at k0 k1 k2 k3 k4 k5 k6 k7 k8
      exact ⟨by simpa using k0, by simpa using k1, by simpa using k2, by simpa using k3, by simpa using k4, by simpa using k5, by simpa using k6, by simpa using k7, by simpa using k8⟩
    obtain ⟨E, hE⟩ := choose_lt (α := Rt) (p := fun i e => RtW e ∧ w.cell? (a.add (i * 9)) = some (.int .i64 e.a) ∧ w.cell? (a.add (i * 9 + 1)) = some (.int .i64 e.l) ∧ w.cell? (a.add (i * 9 + 2)) = some (.int .i64 e.m) ∧ w.cell? (a.add (i * 9 + 3)) = some (.int .i64 e.n) ∧ w.cell? (a.add (i * 9 + 4)) = some (.int .i64 e.i) ∧ w.cell? (a.add (i * 9 + 5)) = some (.int .i64 e.t) ∧ w.cell? (a.add (i * 9 + 6)) = some (.int .i64 e.u) ∧ w.cell? (a.add (i * 9 + 7)) = some (.int .i64 e.b) ∧ w.cell? (a.add (i * 9 + 8)) = some (.bool e.c)) each
    refine ⟨some a, len, cap, (List.range len).map E, h0, by simp, by omega, ?_, ?_⟩
    · intro e he
      simp only [List.mem_map, List.mem_range] at he
      obtain ⟨i, hi, rfl⟩ := he
      exact (hE i (by omega)).1
    · intro i hi
      simp only [List.length_map, List.length_range] at hi
      refine ⟨a, rfl, ?_⟩
      simp only [List.getElem_map, List.getElem_range]
      exact (hE i (by omega)).2
set_option maxRecDepth 100000 in
theorem Try.cellsRibS : Try.prog.cellsOf 23 = 1 := by kernel_rfl
theorem Try.cellsRib : Try.prog.cellsOf 25 = 1 := by kernel_rfl
set_option maxRecDepth 100000 in
theorem open_ribV {r : Reach} {b0 : Nat} {v : Value} {d : DataW H} {p : List MemPlace} (hv : Value.okWide Try.prog w r b0 25 v) (h : DataW.Trod enc Try.prog w base spare held 25 v d p) :
    ∃ y len cap rs, v = ribV y len cap ∧ ArgR w y len rs := by
  obtain ⟨cs, rfl, hsz⟩ := okWide_struct Try.underlying25 hv
  rw [Try.cellsRib] at hsz
  obtain ⟨l⟩ := cs
  match l, hsz with
  | [c0], _ =>
    obtain ⟨fuel, hf⟩ := h
    obtain ⟨xs, n, _, _, hl, hx, hg⟩ := DataW.trod_struct Try.underlying25 hf
    match xs, hx with
    | [y0], _ =>
      have h0 : DataW.trod enc Try.prog w base spare held n 23 ((([c0] : List Value).drop 0).take (Try.prog.cellsOf 23)) = [y0][0]? := hg 0 _ rfl
      rw [Try.cellsRibS] at h0
      replace h0 : DataW.trod enc Try.prog w base spare held n 23 [c0] = some y0 := h0
      obtain ⟨y, len, cap, rs, rfl, hA⟩ := open_rts h0
      exact ⟨y, len, cap, rs, rfl, hA⟩
end
end Go.Proofs.Ytflmbkjnlgibnaa
/- The laws' own tables measured and handed over. (Written by gen_rts.py.) -/
namespace Go.Proofs.Ytflmbkjnlgibnaa
open Go.RowKit Go.Sort

theorem set9 (A R : List Value) (k : Nat) (hA : A.length = k * 9) (z0 z1 z2 z3 z4 z5 z6 z7 z8 x0 x1 x2 x3 x4 x5 x6 x7 x8 : Value) : ((((((((((A ++ ([z0, z1, z2, z3, z4, z5, z6, z7, z8] ++ R)).set (k * 9) x0).set (k * 9 + 1) x1).set (k * 9 + 2) x2).set (k * 9 + 3) x3).set (k * 9 + 4) x4).set (k * 9 + 5) x5).set (k * 9 + 6) x6).set (k * 9 + 7) x7).set (k * 9 + 8) x8) = A ++ ([x0, x1, x2, x3, x4, x5, x6, x7, x8] ++ R) := by
  have e : ∀ (L : List Value) (j : Nat) (x : Value), (A ++ L).set (k * 9 + j) x = A ++ L.set j x := fun L j x => by
    rw [List.set_append, if_neg (by omega), hA, Nat.add_sub_cancel_left]
  have e0 : ∀ (L : List Value) (x : Value), (A ++ L).set (k * 9) x = A ++ L.set 0 x := fun L x => e L 0 x
  rw [e0, e, e, e, e, e, e, e, e]
  rfl
theorem Row.someR {w : World} {g : Nat} {t : TypeId} {l : List Value} (h : Row w g t l) (k : Nat) (hk : k < l.length) : ∃ v, w.cell? ⟨g, k, none⟩ = some v := ⟨l[k], by rw [h.cell, List.getElem?_eq_getElem hk]⟩
theorem Try.infoR : (Try.prog.info? 101).map (fun i => (i.zero, i.size, i.bytes)) = some (some (.agg #[.int .i64 0, .int .i64 0, .int .i64 0, .int .i64 0, .int .i64 0, .int .i64 0, .int .i64 0, .int .i64 0, .bool false]), 9, 72) := by kernel_rfl
def zeroRt : Rt := ⟨0, 0, 0, 0, 0, 0, 0, 0, false⟩
theorem rowR_zero_get (n i : Nat) (h : i < n * 9) : (rowR (List.replicate n zeroRt))[i]? = some (if i % 9 = 8 then .bool false else .int .i64 0) := by
  have hi : i / 9 < (List.replicate n zeroRt).length := by simp; omega
  have := rowR_get (List.replicate n zeroRt) (i / 9) (i % 9) hi (by omega)
  rw [show i / 9 * 9 + i % 9 = i by omega] at this
  rw [this, List.getElem_replicate]
  have h9 : i % 9 = 0 ∨ i % 9 = 1 ∨ i % 9 = 2 ∨ i % 9 = 3 ∨ i % 9 = 4 ∨ i % 9 = 5 ∨ i % 9 = 6 ∨ i % 9 = 7 ∨ i % 9 = 8 := by omega
  rcases h9 with h | h | h | h | h | h | h | h | h <;> (rw [h]; rfl)
theorem made_zeroR (n : Nat) : (madeCells (Value.agg #[.int .i64 0, .int .i64 0, .int .i64 0, .int .i64 0, .int .i64 0, .int .i64 0, .int .i64 0, .int .i64 0, .bool false]).cells (n * 9)).toList = rowR (List.replicate n zeroRt) := by
  apply List.ext_getElem?
  intro i
  by_cases h : i < n * 9
  · rw [rowR_zero_get n i h]
    simp only [madeCells, Value.cells, Array.toList_map, List.getElem?_map]
    have h9 : i % 9 = 0 ∨ i % 9 = 1 ∨ i % 9 = 2 ∨ i % 9 = 3 ∨ i % 9 = 4 ∨ i % 9 = 5 ∨ i % 9 = 6 ∨ i % 9 = 7 ∨ i % 9 = 8 := by omega
    rcases h9 with h9 | h9 | h9 | h9 | h9 | h9 | h9 | h9 | h9 <;> simp [h9, h]
  · rw [List.getElem?_eq_none (by simp [madeCells]; omega), List.getElem?_eq_none (by rw [rowR_length]; simp; omega)]
set_option maxRecDepth 100000 in
/-- 'make([]Route, n)'. -/
theorem wpList_make_rts {w : World} {ops : Array Oper} {rest : List Oper} {o : Oper} {a : Act} {Q : Exit → Act → World → Prop}
    (hgd : o.guard = none) (l c : Operand) (hop : o.op = Op.makeSlice 31 l c)
    (L : Int) (n : Nat) (hl : a.eval l = .int .i64 L) (hc : a.eval c = .int .i64 L) (hL : L = (n : Int)) (hn : n ≤ 100000000)
    (B : Nat) (w0 : World) (hb : Below B w0 w) (hB : B ≤ w.heap.size)
    (h : ∀ w', Row w' w.heap.size 101 (rowR (List.replicate n zeroRt)) → Below B w0 w' → wpList Try.prog ops Q rest (a.put o.dst (.slice (some ⟨w.heap.size, 0, none⟩) n n)) w') : wpList Try.prog ops Q (o :: rest) a w := by
  obtain ⟨i0, hi0, hz0, hz1, hz2⟩ := info_parts Try.infoR
  refine wpList_make_full w hgd l c 31 hop B 101 i0 _ 9 Try.underlying31 hi0 hz0 hz1 .i64 .i64 L L n hl hc hL hL (by rw [hz2]; omega) (by unfold maxLen; omega) hB ?_
  intro w' hown hgrow
  rcases hown.2 with ⟨h', _⟩ | ⟨g, cap, cur, h', hbg, hg, hnc, hcm, hcs, htake⟩
  · simp at h'
  · simp only [Value.slice.injEq, Option.some.injEq, Addr.mk.injEq, and_true, true_and] at h'
    obtain ⟨rfl, rfl⟩ := h'
    refine h w' ?_ (hb.trans ((Below.refl B w).grown hgrow hB (by intro k hk; cases hk)))
    unfold Row
    rw [hg, ← made_zeroR, ← htake, List.take_of_length_le (by simp [hcs])]
theorem rowR_set (es : List Rt) (k : Nat) (hk : k < es.length) (a l m n ii t u b : Int) (c : Bool) (he : es[k] = ⟨a, l, m, n, ii, t, u, b, c⟩) :
    ((((((((((rowR (es.take k ++ List.replicate (es.length - k) zeroRt)).set (k * 9) (.int .i64 a)).set (k * 9 + 1) (.int .i64 l)).set (k * 9 + 2) (.int .i64 m)).set (k * 9 + 3) (.int .i64 n)).set (k * 9 + 4) (.int .i64 ii)).set (k * 9 + 5) (.int .i64 t)).set (k * 9 + 6) (.int .i64 u)).set (k * 9 + 7) (.int .i64 b)).set (k * 9 + 8) (.bool c)) = rowR (es.take (k + 1) ++ List.replicate (es.length - (k + 1)) zeroRt) := by
  have e1 : es.length - k = (es.length - (k + 1)) + 1 := by omega
  rw [e1, List.replicate_succ, rowR_append, rowR_cons, List.take_succ_eq_append_getElem hk, List.append_assoc, rowR_append, List.singleton_append, rowR_cons, he]
  exact set9 _ _ k (by rw [rowR_length, List.length_take]; omega) _ _ _ _ _ _ _ _ _ _ _ _ _ _ _ _ _ _
set_option maxRecDepth 100000 in
theorem szRouteS_any (x : Option Addr) (len cap : Nat) (w : World) (hl : len ≤ maxLen) : Calls Try.prog 70 #[.slice x len cap, .int .i64 1048576] w fun e w' => e = .returned (.int .i64 (if len ≤ 1048576 then 1048576 - (len : Int) else -1)) ∧ w = w' := by
  unfold maxLen at hl
  by_cases h : len ≤ 1048576
  · rw [if_pos h]
    have d : decide (1048576 - (len : Int) < 0) = false := by simp; omega
    go_enter Try.func70, Try.ntmps70
    go_wp2
    go_ret
    exact ⟨rfl, rfl⟩
  · rw [if_neg h]
    have d : decide (1048576 - (len : Int) < 0) = true := by simp; omega
    go_enter Try.func70, Try.ntmps70
    go_wp2
    go_ret
    exact ⟨rfl, rfl⟩
set_option maxRecDepth 100000 in
theorem szRib_any (x : Option Addr) (len cap : Nat) (w : World) (hl : len ≤ maxLen) : Calls Try.prog 39 #[ribV x len cap, .int .i64 1048576] w fun e w' => e = .returned (.int .i64 (if len ≤ 1048576 then 1048576 - (len : Int) else -1)) ∧ Below w.heap.size w w' := by
  have HS : Hid (∀ w, Calls Try.prog 70 #[.slice x len cap, .int .i64 1048576] w fun e w' => e = .returned (.int .i64 (if len ≤ 1048576 then 1048576 - (len : Int) else -1)) ∧ w = w') := fun w => szRouteS_any x len cap w hl
  unfold maxLen at hl
  unfold ribV
  by_cases h : len ≤ 1048576
  · rw [if_pos h] at *
    have d : decide (1048576 - (len : Int) < 0) = false := by simp; omega
    go_enter Try.func39, Try.ntmps39
    go_wp2_with fail
    refine (HS.out _).mono ?_
    rintro e w1 ⟨rfl, rfl⟩
    go_wp2
    go_ret
    exact ⟨rfl, ent_new0 w _⟩
  · rw [if_neg h] at *
    go_enter Try.func39, Try.ntmps39
    go_wp2_with fail
    refine (HS.out _).mono ?_
    rintro e w1 ⟨rfl, rfl⟩
    go_wp2
    go_ret
    exact ⟨rfl, ent_new0 w _⟩
set_option maxRecDepth 100000 in
theorem toRouteS_any (x : Option Addr) (cap : Nat) (es : List Rt) (w : World) (h : ArgR w x es.length es) (hn : es.length ≤ 1048576) :
    Calls Try.prog 74 #[.slice x es.length cap] w fun e w' => ∃ g, e = .returned (.slice (some ⟨g, 0, none⟩) es.length es.length) ∧ w.heap.size ≤ g ∧ Row w' g 101 (rowR es) ∧ Below w.heap.size w w' := by
  have HE : Hid (∀ e w, Calls Try.prog 97 #[rtV e] w fun r w' => r = .returned (rtV e) ∧ Below w.heap.size w w') := toRoute_any
  have HX : Hid (ArgR w x es.length es) := h
  clear h
  go_enter Try.func74, Try.ntmps74
  go_wp2_with (at_make; refine wpList_make_rts rfl _ _ rfl _ es.length rfl rfl rfl (by omega) w.heap.size w (Below.refl _ _) (Nat.le_refl _) ?_)
  intro w0 hr0 hb0
  have hz : es.take 0 ++ List.replicate (es.length - 0) zeroRt = List.replicate es.length zeroRt := by simp
  rw [← hz] at hr0
  clear hz
  go_wp2_with fail
  go_loopw [4] (fun i wr => ∃ k : Nat, k ≤ es.length ∧ i = .int .i64 k ∧ Row wr w.heap.size 101 (rowR (es.take k ++ List.replicate (es.length - k) zeroRt)) ∧ Below w.heap.size w wr) (fun i _ => es.length - (intOf i).toNat)
  case atStart => exact ⟨0, Nat.zero_le _, rfl, hr0, hb0⟩
  case round =>
    obtain ⟨k, hk, rfl, hr, hb⟩ := hrel
    by_cases hlt : k < es.length
    · obtain ⟨p, a, l, m, n, ii, t, u, b, c, rfl, hek, c0, c1, c2, c3, c4, c5, c6, c7, c8⟩ := (HX.out.below hb).at k hlt
      have HEk : Hid (∀ w, Calls Try.prog 97 #[.agg #[.int .i64 a, .int .i64 l, .int .i64 m, .int .i64 n, .int .i64 ii, .int .i64 t, .int .i64 u, .int .i64 b, .bool c]] w fun r w' => r = .returned (.agg #[.int .i64 a, .int .i64 l, .int .i64 m, .int .i64 n, .int .i64 ii, .int .i64 t, .int .i64 u, .int .i64 b, .bool c]) ∧ Below w.heap.size w w') := HE.out ⟨a, l, m, n, ii, t, u, b, c⟩
      have hset := rowR_set es k hlt a l m n ii t u b c hek
      have HS : Hid _ := hset
      clear hset HE hek hr0 hb0
      go_wp2_with fail
      refine (HEk.out _).mono ?_
      rintro e w1 ⟨rfl, hb1⟩
      have hr1 := hr.below hb1 hr.lt
      have hB1 := hb.trans (hb1.mono hb.size)
      clear c0 c1 c2 c3 c4 c5 c6 c7 c8 hb1 HEk hr hb
      have hlr : (rowR (es.take k ++ List.replicate (es.length - k) zeroRt)).length = es.length * 9 := by rw [rowR_length]; simp; omega
      obtain ⟨z0, hz0⟩ := Row.someR hr1 (k * 9) (by omega)
      obtain ⟨z1, hz1⟩ := Row.someR hr1 (k * 9 + 1) (by omega)
      obtain ⟨z2, hz2⟩ := Row.someR hr1 (k * 9 + 2) (by omega)
      obtain ⟨z3, hz3⟩ := Row.someR hr1 (k * 9 + 3) (by omega)
      obtain ⟨z4, hz4⟩ := Row.someR hr1 (k * 9 + 4) (by omega)
      obtain ⟨z5, hz5⟩ := Row.someR hr1 (k * 9 + 5) (by omega)
      obtain ⟨z6, hz6⟩ := Row.someR hr1 (k * 9 + 6) (by omega)
      obtain ⟨z7, hz7⟩ := Row.someR hr1 (k * 9 + 7) (by omega)
      obtain ⟨z8, hz8⟩ := Row.someR hr1 (k * 9 + 8) (by omega)
      have f0 := hr1.frozen (k * 9)
      have f1 := hr1.frozen (k * 9 + 1)
      have f2 := hr1.frozen (k * 9 + 2)
      have f3 := hr1.frozen (k * 9 + 3)
      have f4 := hr1.frozen (k * 9 + 4)
      have f5 := hr1.frozen (k * 9 + 5)
      have f6 := hr1.frozen (k * 9 + 6)
      have f7 := hr1.frozen (k * 9 + 7)
      have f8 := hr1.frozen (k * 9 + 8)
      have hr2 := nine_row hr1 (k * 9) (.int .i64 a) (.int .i64 l) (.int .i64 m) (.int .i64 n) (.int .i64 ii) (.int .i64 t) (.int .i64 u) (.int .i64 b) (.bool c)
      rw [HS.out] at hr2
      have hB2 := nine_below hB1 w.heap.size (k * 9) (Nat.le_refl _) (.int .i64 a) (.int .i64 l) (.int .i64 m) (.int .i64 n) (.int .i64 ii) (.int .i64 t) (.int .i64 u) (.int .i64 b) (.bool c)
      unfold nine at hr2 hB2
      have HH : Hid _ := And.intro hr2 hB2
      clear hr1 hB1 HS hlr hr2 hB2
      go_wp2_with fail
      go_roundw
      case rel => exact ⟨k + 1, hlt, by go_num, HH.out.1, HH.out.2⟩
      case measure => simp [intOf]; omega
    · obtain rfl : k = es.length := by omega
      rw [List.take_length, Nat.sub_self, List.replicate_zero, List.append_nil] at hr
      clear hlt hk
      go_wp2
      go_ret
      exact ⟨_, rfl, Nat.le_refl _, hr, hb⟩
theorem three1 (w : World) (a0 b0 c0 : Value) (t u y : TypeId) : ∃ W, W = ((w.alloc (.cells #[a0] t)).alloc (.cells #[b0] u)).alloc (.cells #[c0] y) ∧ Row W w.heap.size t [a0] ∧ Row W (w.heap.size + 1) u [b0] ∧ Row W (w.heap.size + 1 + 1) y [c0] ∧ Below w.heap.size w W ∧ W.heap.size = w.heap.size + 1 + 1 + 1 := by
  have q0 := ((Row.new w t [a0]).alloc (.cells #[b0] u)).alloc (.cells #[c0] y)
  have q1 := (Row.new (w.alloc (.cells #[a0] t)) u [b0]).alloc (.cells #[c0] y)
  have q2 := Row.new ((w.alloc (.cells #[a0] t)).alloc (.cells #[b0] u)) y [c0]
  have e1 : (w.alloc (.cells #[a0] t)).heap.size = w.heap.size + 1 := by simp
  have e2 : ((w.alloc (.cells #[a0] t)).alloc (.cells #[b0] u)).heap.size = w.heap.size + 1 + 1 := by simp
  rw [e1] at q1
  rw [e2] at q2
  exact ⟨_, rfl, q0, q1, q2, ((ent_new0 w _).alloc (by simp) _).alloc (by simp; omega) _, by simp⟩
set_option maxRecDepth 100000 in
theorem toRib_any (x : Option Addr) (cap : Nat) (es : List Rt) (w : World) (h : ArgR w x es.length es) (hn : es.length ≤ 1048576) :
    Calls Try.prog 43 #[ribV x es.length cap] w fun e w' => ∃ g, e = .returned (ribV (some ⟨g, 0, none⟩) es.length es.length) ∧ w.heap.size ≤ g ∧ Row w' g 101 (rowR es) ∧ Below w.heap.size w w' := by
  have HE : Hid (∀ w, ArgR w x es.length es → Calls Try.prog 74 #[.slice x es.length cap] w fun e w' => ∃ g, e = .returned (.slice (some ⟨g, 0, none⟩) es.length es.length) ∧ w.heap.size ≤ g ∧ Row w' g 101 (rowR es) ∧ Below w.heap.size w w') := fun w h => toRouteS_any x cap es w h hn
  have HX : Hid (ArgR w x es.length es) := h
  clear h
  unfold ribV
  generalize es.length = N at *
  obtain ⟨W, hW, q0, q1, q2, hB, hS⟩ := three1 w (.slice x N cap) (.slice none 0 0) (.slice none 0 0) 25 33 33
  have HW : Hid _ := hW
  clear hW
  go_enter Try.func43, Try.ntmps43
  go_wp2_with fail
  rw [← HW.out]
  refine (HE.out _ (HX.out.below hB)).mono ?_
  rintro e w1 ⟨g, rfl, hg, hr, hb1⟩
  have p1 := q1.below hb1 q1.lt
  have p2 := q2.below hb1 q2.lt
  have hB1 := hB.trans (hb1.mono (by omega))
  have hg2 : w.heap.size + 1 + 1 < g := by omega
  clear q0 q1 q2 hb1 HW HX HE hB
  have b0 : w1.cell? ⟨w.heap.size + 1, 0, none⟩ = some (.slice none 0 0) := p1.cell 0
  have d0 : w1.cell? ⟨w.heap.size + 1 + 1, 0, none⟩ = some (.slice none 0 0) := p2.cell 0
  have f0 : w1.frozen? ⟨w.heap.size + 1, 0, none⟩ = false := p1.frozen 0
  have g0 : w1.frozen? ⟨w.heap.size + 1 + 1, 0, none⟩ = false := p2.frozen 0
  have hrow : Row ((w1.setCell ⟨w.heap.size + 1 + 1, 0, none⟩ (.slice (some ⟨g, 0, none⟩) N N)).setCell ⟨w.heap.size + 1, 0, none⟩ (.slice (some ⟨g, 0, none⟩) N N)) g 101 (rowR es) := (hr.other 0 _ (by omega)).other 0 _ (by omega)
  have hres : Row ((w1.setCell ⟨w.heap.size + 1 + 1, 0, none⟩ (.slice (some ⟨g, 0, none⟩) N N)).setCell ⟨w.heap.size + 1, 0, none⟩ (.slice (some ⟨g, 0, none⟩) N N)) (w.heap.size + 1) 33 [.slice (some ⟨g, 0, none⟩) N N] := (p1.other 0 _ (by omega)).set 0 _
  have hbel : Below w.heap.size w ((w1.setCell ⟨w.heap.size + 1 + 1, 0, none⟩ (.slice (some ⟨g, 0, none⟩) N N)).setCell ⟨w.heap.size + 1, 0, none⟩ (.slice (some ⟨g, 0, none⟩) N N)) := (hB1.setCell (p := ⟨w.heap.size + 1 + 1, 0, none⟩) (by show w.heap.size ≤ w.heap.size + 1 + 1; omega) _).setCell (p := ⟨w.heap.size + 1, 0, none⟩) (by show w.heap.size ≤ w.heap.size + 1; omega) _
  have HH : Hid _ := And.intro hrow (And.intro hres hbel)
  clear hrow hres hbel p1 p2 hr hB1
  go_wp2_with fail
  have HH2 := HH.out
  clear HH b0 d0 f0 g0
  generalize ((w1.setCell ⟨w.heap.size + 1 + 1, 0, none⟩ (.slice (some ⟨g, 0, none⟩) N N)).setCell ⟨w.heap.size + 1, 0, none⟩ (.slice (some ⟨g, 0, none⟩) N N)) = Z at *
  obtain ⟨h1, h2, h3⟩ := HH2
  have b0 : Z.cell? ⟨w.heap.size + 1, 0, none⟩ = some (.slice (some ⟨g, 0, none⟩) N N) := h2.cell 0
  refine bodyPost_ret (v := .agg #[.slice (some ⟨g, 0, none⟩) N N]) (by simp [results, Try.results43, go_sem, b0]) rfl ⟨g, rfl, by omega, h1, h3⟩
end Go.Proofs.Ytflmbkjnlgibnaa
/- Routes appended to a list of the call's own; a list of routes cut. -/
namespace Go.Proofs.Ytflmbkjnlgibnaa
open Go.RowKit Go.Sort

theorem ownsR_none {w : World} {base : Nat} {v : Value} {n : Nat} {xs : List Value} (h : w.ownsRow base 101 9 v n xs) (ty : TypeId) : (Builtin.append_ #[31, 31] ty #[v, .slice none 0 0]).run Try.prog w = .ok v w := by
  obtain ⟨i0, hi0, _, _, _⟩ := info_parts Try.infoR
  exact run_append_owned_none w base _ ty 101 i0 9 Try.underlying31 hi0 v n xs h
/-- 'append(v, x...)' of routes. -/
theorem run_append_rts (w : World) (base : Nat) (v : Value) (ls ms : List Rt) (q : Option Addr) (c : Nat) (ty : TypeId) (hown : w.ownsRow base 101 9 v ls.length (rowR ls)) (hq0 : q = none → ms = [] ∧ c = 0)
    (hq : ∀ ad, q = some ad → ∀ j u, (rowR ms)[j]? = some u → w.cell? (ad.add j) = some u) (hlen : ls.length + ms.length ≤ 1000000000) (hbase : base ≤ w.heap.size) :
    ∃ v' w', (Builtin.append_ #[31, 31] ty #[v, .slice q ms.length c]).run Try.prog w = .ok v' w' ∧ w'.ownsRow base 101 9 v' (ls ++ ms).length (rowR (ls ++ ms)) ∧ Below base w w' := by
  obtain ⟨i0, hi0, hz0, hz1, hz2⟩ := info_parts Try.infoR
  cases q with
  | none =>
    obtain ⟨rfl, rfl⟩ := hq0 rfl
    exact ⟨v, w, ownsR_none hown ty, by rw [List.append_nil]; exact hown, Below.refl _ _⟩
  | some ad =>
    obtain ⟨v', w', hr, h2, h3, _⟩ := run_append_own (P := Try.prog) w base _ ty 101 i0 _ 9 72 Try.underlying31 hi0 hz0 hz1 hz2 rfl (by decide) v ls.length (rowR ls) hown ad ms.length c (rowR ms) (by rw [rowR_length]; omega) (hq ad rfl) (rowR_one ms) (by unfold maxLen; omega) (by omega) hbase
    refine ⟨v', w', hr, ?_, (Below.refl base w).grown h3 hbase fun k hk => (World.ownsRow.lt hown k hk).1⟩
    rw [List.length_append, rowR_append]
    exact h2
theorem wpList_append_runs {P : Program} {w : World} {ops : Array Oper} {rest : List Oper} {o : Oper} {a : Act} {Q : Exit → Act → World → Prop} (hgd : o.guard = none) (s x : Operand) (t : TypeId)
    (ho : o.op = .call { callee := .builtin .append, args := #[s, x], argTypes := #[t, t] }) (vs vx : Value) (hs : a.eval s = vs) (hx : a.eval x = vx)
    {v' : Value} {w' : World} (hr : (Builtin.append_ #[t, t] o.type #[vs, vx]).run P w = .ok v' w') (h : wpList P ops Q rest (a.put o.dst v') w') : wpList P ops Q (o :: rest) a w := by
  refine wpList_plain hgd fun K hK => ?_
  unfold Oper.wp execOp
  simp only [ho, resolve, invoke, builtin, Sem.run_bind, Sem.run_pure, Result.andThen_ok, List.map_toArray, List.map_cons, List.map_nil, hs, hx, hr]
  exact hK _ _ h
theorem addR (g o j : Nat) : (⟨g, o, none⟩ : Addr).add j = ⟨g, o + j, none⟩ := by unfold Addr.add; split <;> simp_all
/-- Where the part of a list behind k begins. -/
def fromR (p : Option Addr) (cap k : Nat) : Option Addr := if cap = k then p else p.map (·.add (k * 9))
theorem sliceR_upto (p : Option Addr) (n cap k : Nat) (x : Int) (hx : x = k) (hk : k ≤ cap) (w : World) : (Instr.slice 31 (.slice p n cap) none (some (.int .i64 x)) none).run Try.prog w = .ok (.slice (fromR p cap 0) k cap) w := by
  subst hx
  have hb := run_sliceBound (P := Try.prog) w .i64 (k : Int) cap .sliceAcap (by omega) (by omega)
  unfold Instr.slice Instr.sliceBounds
  simp [Sem.run_bind, run_underlying Try.underlying31, hb, fromR]
theorem sliceR_from (p : Option Addr) (n cap k : Nat) (x : Int) (hx : x = k) (hk : k ≤ n) (w : World) : (Instr.slice 31 (.slice p n cap) (some (.int .i64 x)) none none).run Try.prog w = .ok (.slice (fromR p cap k) (n - k) (cap - k)) w := by
  subst hx
  have hb := run_sliceBound (P := Try.prog) w .i64 (k : Int) n .sliceB (by omega) (by omega)
  unfold Instr.slice Instr.sliceBounds
  simp [Sem.run_bind, run_underlying Try.underlying31, hb, fromR]
theorem fromR_none {p : Option Addr} {cap k : Nat} {rs : List Rt} (hc : p = none → cap = 0) (h : p = none → rs = []) : fromR p cap k = none → rs.drop k = [] ∧ cap - k = 0 := by
  intro e
  have hp : p = none := by
    unfold fromR at e
    split at e
    · exact e
    · simpa using e
  have := hc hp
  exact ⟨by rw [h hp]; simp, by omega⟩
theorem rtsIn_none {w : World} {p : Option Addr} {rs : List Rt} (h : RtsIn w p rs) : p = none → rs = [] := by
  rintro rfl
  rcases h with h | ⟨g, e, _⟩
  · exact h
  · cases e
theorem fromR_cells {w : World} {p : Option Addr} {cap k : Nat} {rs : List Rt} (h : RtsIn w p rs) (hl : rs.length ≤ cap) : ∀ ad, fromR p cap k = some ad → ∀ j u, (rowR (rs.drop k))[j]? = some u → w.cell? (ad.add j) = some u := by
  intro ad e j u hj
  rcases h with rfl | ⟨g, rfl, hg, hc⟩
  · simp [rowR] at hj
  · have hj9 : j < 9 * (rs.length - k) := by
      have := (List.getElem?_eq_some_iff.1 hj).1
      rw [rowR_length, List.length_drop] at this
      exact this
    unfold fromR at e
    rw [if_neg (by omega)] at e
    simp only [Option.map_some, Option.some.injEq] at e
    subst e
    have ea : ((⟨g, 0, none⟩ : Addr).add (k * 9)).add j = ⟨g, k * 9 + j, none⟩ := by rw [addR, addR, Nat.zero_add]
    rw [ea]
    refine hc _ _ ?_
    rw [← hj, ← List.take_append_drop k rs, rowR_append, List.take_append_drop, List.getElem?_append_right (by rw [rowR_length, List.length_take]; omega), rowR_length, List.length_take]
    congr 1
    omega
theorem fromR_upto {w : World} {p : Option Addr} {cap k : Nat} {rs : List Rt} (h : RtsIn w p rs) : ∀ ad, fromR p cap 0 = some ad → ∀ j u, (rowR (rs.take k))[j]? = some u → w.cell? (ad.add j) = some u := by
  intro ad e j u hj
  rcases h with rfl | ⟨g, rfl, hg, hc⟩
  · simp [rowR] at hj
  · have e' : ad = ⟨g, 0, none⟩ := by
      unfold fromR at e
      split at e
      · simpa using e.symm
      · simp only [Option.map_some, Option.some.injEq] at e
        rw [← e]; unfold Addr.add; split <;> simp_all
    subst e'
    have ea : (⟨g, 0, none⟩ : Addr).add j = ⟨g, j, none⟩ := by unfold Addr.add; split <;> simp_all
    rw [ea]
    refine hc _ _ ?_
    rw [← hj, ← List.take_append_drop k rs, rowR_append, List.take_append_drop]
    rw [List.getElem?_append_left (List.getElem?_eq_some_iff.1 hj).1]
end Go.Proofs.Ytflmbkjnlgibnaa
/- The laws' own look: a net is as itself. -/
namespace Go.Proofs.Ytflmbkjnlgibnaa
open Go.RowKit Go.Sort

set_option maxRecDepth 100000 in
theorem eqNet_same (a l : Int) (w : World) : Calls Try.prog 86 #[netV a l, netV a l] w fun e w' => e = .returned (.bool true) ∧ Below w.heap.size w w' := by
  have h1 : (a != a) = false := by simp
  have h2 : (l != l) = false := by simp
  unfold netV
  go_enter Try.func86, Try.ntmps86
  go_wp2
  go_ret
  exact ⟨rfl, ((Below.refl _ _).alloc (Nat.le_refl _) _).alloc (by simp) _⟩
end Go.Proofs.Ytflmbkjnlgibnaa
/- The laws' own look: Ifaces and lists of them are as themselves. (Written by gen_ifs.py.) -/
namespace Go.Proofs.Ytflmbkjnlgibnaa
open Go.RowKit Go.Sort

theorem boxes5i {w w1 : World} {xs ys : List Value} {t u : TypeId} (h : Below ((w.alloc (.cells xs.toArray t)).alloc (.cells ys.toArray u)).heap.size ((w.alloc (.cells xs.toArray t)).alloc (.cells ys.toArray u)) w1) :
    (∀ k v, xs[k]? = some v → w1.cell? ⟨w.heap.size, k, none⟩ = some v) ∧ (∀ k v, ys[k]? = some v → w1.cell? ⟨w.heap.size + 1, k, none⟩ = some v) ∧ Below w.heap.size w w1 := by
  have q0 := (Row.new w t xs).alloc (.cells ys.toArray u)
  have q1 := Row.new (w.alloc (.cells xs.toArray t)) u ys
  have p0 := q0.below h q0.lt
  have p1 := q1.below h q1.lt
  have e1 : (w.alloc (.cells xs.toArray t)).heap.size = w.heap.size + 1 := by simp
  rw [e1] at p1
  exact ⟨fun k v hv => (p0.cell k).trans hv, fun k v hv => (p1.cell k).trans hv, ((ent_new0 w _).alloc (by simp) _).trans (h.mono (by simp; omega))⟩
set_option maxRecDepth 100000 in
theorem eqIface_same (e : If) (w : World) : Calls Try.prog 53 #[ifV e, ifV e] w fun r w' => r = .returned (.bool true) ∧ Below w.heap.size w w' := by
  obtain ⟨d, a, l, c, u⟩ := e
  unfold ifV ifA
  have HN : Hid (∀ w, Calls Try.prog 86 #[.agg #[.int .i64 a, .int .i64 l], .agg #[.int .i64 a, .int .i64 l]] w fun e w' => e = .returned (.bool true) ∧ Below w.heap.size w w') := eqNet_same a l
  have ed : (d != d) = false := by simp
  have ec : (c != c) = false := by simp
  have eu : (u != u) = false := by simp
  go_enter Try.func53, Try.ntmps53
  go_wp2_with fail
  refine (HN.out _).mono ?_
  rintro e w1 ⟨rfl, hb1⟩
  obtain ⟨k0, k1, hB⟩ := boxes5i (xs := [.int .i64 d, .int .i64 a, .int .i64 l, .int .i64 c, .bool u]) (ys := [.int .i64 d, .int .i64 a, .int .i64 l, .int .i64 c, .bool u]) hb1
  have c3 := k0 3 _ rfl
  have d3 := k1 3 _ rfl
  have c4 := k0 4 _ rfl
  have d4 := k1 4 _ rfl
  clear k0 k1 hb1 HN
  go_wp2
  go_ret
  exact ⟨rfl, hB⟩
set_option maxRecDepth 100000 in
theorem eqIfaceS_any (p q : Option Addr) (c0 d0 : Nat) (es : List If) (w : World) (hp : IfsIn w p es) (hq : IfsIn w q es) (hn : es.length ≤ 100000000) : Calls Try.prog 19 #[.slice p es.length c0, .slice q es.length d0] w fun r w' => r = .returned (.bool true) ∧ Below w.heap.size w w' := by
  have HE : Hid (∀ e w, Calls Try.prog 53 #[ifV e, ifV e] w fun r w' => r = .returned (.bool true) ∧ Below w.heap.size w w') := eqIface_same
  have HX : Hid (IfsIn w p es ∧ IfsIn w q es) := ⟨hp, hq⟩
  have h0 : ((es.length : Int) != (es.length : Int)) = false := by simp
  clear hp hq
  go_enter Try.func19, Try.ntmps19
  go_wp2_with fail
  go_loopw [5] (fun i wr => ∃ k : Nat, k ≤ es.length ∧ i = .int .i64 k ∧ Below w.heap.size w wr) (fun i _ => es.length - (intOf i).toNat)
  case atStart => exact ⟨0, Nat.zero_le _, rfl, Below.refl _ _⟩
  case round =>
    obtain ⟨k, hk, rfl, hb⟩ := hrel
    by_cases hlt : k < es.length
    · obtain ⟨g, d, a, l, c, u, rfl, hg, hek, x0, x1, x2, x3, x4⟩ := (HX.out.1.below hb).at k hlt
      obtain ⟨g', d', a', l', c', u', rfl, hg', hek', y0, y1, y2, y3, y4⟩ := (HX.out.2.below hb).at k hlt
      rw [hek] at hek'
      simp only [If.mk.injEq] at hek'
      obtain ⟨rfl, rfl, rfl, rfl, rfl⟩ := hek'
      have HEk : Hid (∀ w, Calls Try.prog 53 #[.agg #[.int .i64 d, .int .i64 a, .int .i64 l, .int .i64 c, .bool u], .agg #[.int .i64 d, .int .i64 a, .int .i64 l, .int .i64 c, .bool u]] w fun r w' => r = .returned (.bool true) ∧ Below w.heap.size w w') := HE.out ⟨d, a, l, c, u⟩
      clear HE hek HX
      replace x0 := cell_regrown x0
      replace y0 := cell_regrown y0
      replace x1 := cell_regrown x1
      replace y1 := cell_regrown y1
      replace x2 := cell_regrown x2
      replace y2 := cell_regrown y2
      replace x3 := cell_regrown x3
      replace y3 := cell_regrown y3
      replace x4 := cell_regrown x4
      replace y4 := cell_regrown y4
      go_wp2_with fail
      refine wp_region_quiet_below (by kernel_rfl) (by kernel_rfl) ?_
      repeat (go_big_quiet_step ((go_at_call 53; exact Calls.regrown_of (HEk.out _))))
      refine wpQuiet_nil ?_
      intro w1 hw'
      obtain ⟨⟨dq, osq⟩, hw''⟩ := hw'
      have hbq := below_regrown wr dq osq
      rw [← hw''] at hbq
      clear hw'' osq dq x0 x1 x2 x3 x4 y0 y1 y2 y3 y4 HEk
      have hb2 := hb.trans (hbq.mono hb.size)
      clear hbq
      go_wp2
      go_roundw
      case rel => exact ⟨k + 1, hlt, by go_num, hb2⟩
      case measure => simp [intOf]; omega
    · obtain rfl : k = es.length := by omega
      clear hlt hk
      go_wp2
      go_ret
      exact ⟨rfl, hb⟩
end Go.Proofs.Ytflmbkjnlgibnaa
/- The laws' own look: routes, lists of them and tables are as themselves. (Written by gen_rts.py.) -/
namespace Go.Proofs.Ytflmbkjnlgibnaa
open Go.RowKit Go.Sort

/-- Two boxes of nine cells, one behind the other: what they hold behind a later call. -/
theorem boxes9 {w w1 : World} {xs ys : List Value} {t u : TypeId} (h : Below ((w.alloc (.cells xs.toArray t)).alloc (.cells ys.toArray u)).heap.size ((w.alloc (.cells xs.toArray t)).alloc (.cells ys.toArray u)) w1) :
    (∀ k v, xs[k]? = some v → w1.cell? ⟨w.heap.size, k, none⟩ = some v) ∧ (∀ k v, ys[k]? = some v → w1.cell? ⟨w.heap.size + 1, k, none⟩ = some v) ∧ Below w.heap.size w w1 := by
  have q0 := (Row.new w t xs).alloc (.cells ys.toArray u)
  have q1 := Row.new (w.alloc (.cells xs.toArray t)) u ys
  have p0 := q0.below h q0.lt
  have p1 := q1.below h q1.lt
  have e1 : (w.alloc (.cells xs.toArray t)).heap.size = w.heap.size + 1 := by simp
  rw [e1] at p1
  exact ⟨fun k v hv => (p0.cell k).trans hv, fun k v hv => (p1.cell k).trans hv, ((ent_new0 w _).alloc (by simp) _).trans (h.mono (by simp; omega))⟩
set_option maxRecDepth 100000 in
theorem eqRoute_same (e : Rt) (w : World) : Calls Try.prog 102 #[rtV e, rtV e] w fun r w' => r = .returned (.bool true) ∧ Below w.heap.size w w' := by
  obtain ⟨a, l, m, n, i, t, u, b, c⟩ := e
  unfold rtV rtA
  have HN : Hid (∀ w, Calls Try.prog 86 #[.agg #[.int .i64 a, .int .i64 l], .agg #[.int .i64 a, .int .i64 l]] w fun e w' => e = .returned (.bool true) ∧ Below w.heap.size w w') := eqNet_same a l
  have em : (m != m) = false := by simp
  have en : (n != n) = false := by simp
  have ei : (i != i) = false := by simp
  have et : (t != t) = false := by simp
  have eu : (u != u) = false := by simp
  have eb : (b != b) = false := by simp
  have ec : (c != c) = false := by simp
  go_enter Try.func102, Try.ntmps102
  go_wp2_with fail
  refine (HN.out _).mono ?_
  rintro e w1 ⟨rfl, hb1⟩
  obtain ⟨k0, k1, hB⟩ := boxes9 (xs := [.int .i64 a, .int .i64 l, .int .i64 m, .int .i64 n, .int .i64 i, .int .i64 t, .int .i64 u, .int .i64 b, .bool c]) (ys := [.int .i64 a, .int .i64 l, .int .i64 m, .int .i64 n, .int .i64 i, .int .i64 t, .int .i64 u, .int .i64 b, .bool c]) hb1
  have c2 := k0 2 _ rfl
  have d2 := k1 2 _ rfl
  have c3 := k0 3 _ rfl
  have d3 := k1 3 _ rfl
  have c4 := k0 4 _ rfl
  have d4 := k1 4 _ rfl
  have c5 := k0 5 _ rfl
  have d5 := k1 5 _ rfl
  have c6 := k0 6 _ rfl
  have d6 := k1 6 _ rfl
  have c7 := k0 7 _ rfl
  have d7 := k1 7 _ rfl
  have c8 := k0 8 _ rfl
  have d8 := k1 8 _ rfl
  clear k0 k1 hb1 HN
  go_wp2
  go_ret
  exact ⟨rfl, hB⟩
set_option maxRecDepth 100000 in
theorem eqRouteS_any (p q : Option Addr) (c d : Nat) (es : List Rt) (w : World) (hp : RtsIn w p es) (hq : RtsIn w q es) (hn : es.length ≤ 100000000) : Calls Try.prog 79 #[.slice p es.length c, .slice q es.length d] w fun r w' => r = .returned (.bool true) ∧ Below w.heap.size w w' := by
  have HE : Hid (∀ e w, Calls Try.prog 102 #[rtV e, rtV e] w fun r w' => r = .returned (.bool true) ∧ Below w.heap.size w w') := eqRoute_same
  have HX : Hid (RtsIn w p es ∧ RtsIn w q es) := ⟨hp, hq⟩
  have h0 : ((es.length : Int) != (es.length : Int)) = false := by simp
  clear hp hq
  go_enter Try.func79, Try.ntmps79
  go_wp2_with fail
  go_loopw [5] (fun i wr => ∃ k : Nat, k ≤ es.length ∧ i = .int .i64 k ∧ Below w.heap.size w wr) (fun i _ => es.length - (intOf i).toNat)
  case atStart => exact ⟨0, Nat.zero_le _, rfl, Below.refl _ _⟩
  case round =>
    obtain ⟨k, hk, rfl, hb⟩ := hrel
    by_cases hlt : k < es.length
    · obtain ⟨g, a, l, m, n, ii, t, u, b, cc, rfl, hg, hek, c0, c1, c2, c3, c4, c5, c6, c7, c8⟩ := (HX.out.1.below hb).at k hlt
      obtain ⟨g', a', l', m', n', ii', t', u', b', cc', rfl, hg', hek', d0, d1, d2, d3, d4, d5, d6, d7, d8⟩ := (HX.out.2.below hb).at k hlt
      rw [hek] at hek'
      simp only [Rt.mk.injEq] at hek'
      obtain ⟨rfl, rfl, rfl, rfl, rfl, rfl, rfl, rfl, rfl⟩ := hek'
      have HEk : Hid (∀ w, Calls Try.prog 102 #[.agg #[.int .i64 a, .int .i64 l, .int .i64 m, .int .i64 n, .int .i64 ii, .int .i64 t, .int .i64 u, .int .i64 b, .bool cc], .agg #[.int .i64 a, .int .i64 l, .int .i64 m, .int .i64 n, .int .i64 ii, .int .i64 t, .int .i64 u, .int .i64 b, .bool cc]] w fun r w' => r = .returned (.bool true) ∧ Below w.heap.size w w') := HE.out ⟨a, l, m, n, ii, t, u, b, cc⟩
      clear HE hek HX
      replace c0 := cell_regrown c0
      replace d0 := cell_regrown d0
      replace c1 := cell_regrown c1
      replace d1 := cell_regrown d1
      replace c2 := cell_regrown c2
      replace d2 := cell_regrown d2
      replace c3 := cell_regrown c3
      replace d3 := cell_regrown d3
      replace c4 := cell_regrown c4
      replace d4 := cell_regrown d4
      replace c5 := cell_regrown c5
      replace d5 := cell_regrown d5
      replace c6 := cell_regrown c6
      replace d6 := cell_regrown d6
      replace c7 := cell_regrown c7
      replace d7 := cell_regrown d7
      replace c8 := cell_regrown c8
      replace d8 := cell_regrown d8
      go_wp2_with fail
      refine wp_region_quiet_below (by kernel_rfl) (by kernel_rfl) ?_
      repeat (go_big_quiet_step ((go_at_call 102; exact Calls.regrown_of (HEk.out _))))
      refine wpQuiet_nil ?_
      intro w1 hw'
      obtain ⟨⟨dq, osq⟩, hw''⟩ := hw'
      have hbq := below_regrown wr dq osq
      rw [← hw''] at hbq
      clear hw'' osq dq c0 c1 c2 c3 c4 c5 c6 c7 c8 d0 d1 d2 d3 d4 d5 d6 d7 d8 HEk
      have hb2 := hb.trans (hbq.mono hb.size)
      clear hbq
      go_wp2
      go_roundw
      case rel => exact ⟨k + 1, hlt, by go_num, hb2⟩
      case measure => simp [intOf]; omega
    · obtain rfl : k = es.length := by omega
      clear hlt hk
      go_wp2
      go_ret
      exact ⟨rfl, hb⟩
set_option maxRecDepth 100000 in
theorem eqRib_any (p q : Option Addr) (c d : Nat) (es : List Rt) (w : World) (hp : RtsIn w p es) (hq : RtsIn w q es) (hn : es.length ≤ 100000000) : Calls Try.prog 46 #[ribV p es.length c, ribV q es.length d] w fun r w' => r = .returned (.bool true) ∧ Below w.heap.size w w' := by
  have HE : Hid (∀ w, RtsIn w p es → RtsIn w q es → Calls Try.prog 79 #[.slice p es.length c, .slice q es.length d] w fun r w' => r = .returned (.bool true) ∧ Below w.heap.size w w') := fun w h1 h2 => eqRouteS_any p q c d es w h1 h2 hn
  have HX : Hid (RtsIn w p es ∧ RtsIn w q es) := ⟨hp, hq⟩
  unfold ribV
  clear hp hq
  go_enter Try.func46, Try.ntmps46
  go_wp2_with fail
  refine (HE.out _ ((HX.out.1.alloc _).alloc _) ((HX.out.2.alloc _).alloc _)).mono ?_
  rintro e w1 ⟨rfl, hb1⟩
  have hB : Below w.heap.size w w1 := ((ent_new0 w _).alloc (by simp) _).trans (hb1.mono (by simp; omega))
  clear hb1 HE HX
  go_wp2
  go_ret
  exact ⟨rfl, hB⟩
end Go.Proofs.Ytflmbkjnlgibnaa
/- An Inst of the laws: measured, handed over, held against another one, opened. (Written by gen_inst.py.) -/
namespace Go.Proofs.Ytflmbkjnlgibnaa
open Go.ChangeShapes Go.WideShapes Go.RowKit Go.Sort Go.Deep Go.Joins

def instV (x : Option Addr) (n1 c1 : Nat) (y : Option Addr) (n2 c2 : Nat) (now : Int) : Value := .agg #[.slice x n1 c1, .slice y n2 c2, .int .i64 now]
set_option maxRecDepth 100000 in
theorem szIfaceSL_any (x : Option Addr) (len cap : Nat) (L : Int) (w : World) (hl : len ≤ maxLen) (h0 : 0 ≤ L) (h1 : L ≤ 1048576) : Calls Try.prog 14 #[.slice x len cap, .int .i64 L] w fun e w' => e = .returned (.int .i64 (if (len : Int) ≤ L then L - (len : Int) else -1)) ∧ w = w' := by
  unfold maxLen at hl
  by_cases h : (len : Int) ≤ L
  · rw [if_pos h]
    have d : decide (L - (len : Int) < 0) = false := by simp; omega
    go_enter Try.func14, Try.ntmps14
    go_wp2
    go_ret
    exact ⟨rfl, rfl⟩
  · rw [if_neg h]
    have d : decide (L - (len : Int) < 0) = true := by simp; omega
    go_enter Try.func14, Try.ntmps14
    go_wp2
    go_ret
    exact ⟨rfl, rfl⟩
set_option maxRecDepth 100000 in
theorem szRouteSL_any (x : Option Addr) (len cap : Nat) (L : Int) (w : World) (hl : len ≤ maxLen) (h0 : 0 ≤ L) (h1 : L ≤ 1048576) : Calls Try.prog 70 #[.slice x len cap, .int .i64 L] w fun e w' => e = .returned (.int .i64 (if (len : Int) ≤ L then L - (len : Int) else -1)) ∧ w = w' := by
  unfold maxLen at hl
  by_cases h : (len : Int) ≤ L
  · rw [if_pos h]
    have d : decide (L - (len : Int) < 0) = false := by simp; omega
    go_enter Try.func70, Try.ntmps70
    go_wp2
    go_ret
    exact ⟨rfl, rfl⟩
  · rw [if_neg h]
    have d : decide (L - (len : Int) < 0) = true := by simp; omega
    go_enter Try.func70, Try.ntmps70
    go_wp2
    go_ret
    exact ⟨rfl, rfl⟩
set_option maxRecDepth 100000 in
theorem szRibL_any (x : Option Addr) (len cap : Nat) (L : Int) (w : World) (hl : len ≤ maxLen) (h0 : 0 ≤ L) (h1 : L ≤ 1048576) : Calls Try.prog 39 #[.agg #[.slice x len cap], .int .i64 L] w fun e w' => e = .returned (.int .i64 (if (len : Int) ≤ L then L - (len : Int) else -1)) ∧ Below w.heap.size w w' := by
  have HS : Hid (∀ w, Calls Try.prog 70 #[.slice x len cap, .int .i64 L] w fun e w' => e = .returned (.int .i64 (if (len : Int) ≤ L then L - (len : Int) else -1)) ∧ w = w') := fun w => szRouteSL_any x len cap L w hl h0 h1
  unfold maxLen at hl
  by_cases h : (len : Int) ≤ L
  · rw [if_pos h] at *
    have d : decide (L - (len : Int) < 0) = false := by simp; omega
    go_enter Try.func39, Try.ntmps39
    go_wp2_with fail
    refine (HS.out _).mono ?_
    rintro e w1 ⟨rfl, rfl⟩
    go_wp2
    go_ret
    exact ⟨rfl, ent_new0 w _⟩
  · rw [if_neg h] at *
    go_enter Try.func39, Try.ntmps39
    go_wp2_with fail
    refine (HS.out _).mono ?_
    rintro e w1 ⟨rfl, rfl⟩
    go_wp2
    go_ret
    exact ⟨rfl, ent_new0 w _⟩
theorem box3i {w w1 : World} {x0 x1 x2 : Value} {t : TypeId} (h : Below (w.alloc (.cells #[x0, x1, x2] t)).heap.size (w.alloc (.cells #[x0, x1, x2] t)) w1) : Row w1 w.heap.size t [x0, x1, x2] ∧ Below w.heap.size w w1 := by
  have q := Row.new w t [x0, x1, x2]
  exact ⟨q.below h q.lt, (ent_new0 w _).trans (h.mono (by simp))⟩
set_option maxRecDepth 100000 in
theorem szInst_any (x : Option Addr) (n1 c1 : Nat) (y : Option Addr) (n2 c2 : Nat) (now : Int) (w : World) (h1 : n1 ≤ maxLen) (h2 : n2 ≤ maxLen) :
    Calls Try.prog 9 #[instV x n1 c1 y n2 c2 now, .int .i64 1048576] w fun e w' => (∃ v : Int, e = .returned (.int .i64 v) ∧ (v < 0 ∨ 0 ≤ v ∧ n1 ≤ 1048576 ∧ n2 ≤ 1048576)) ∧ Below w.heap.size w w' := by
  have HA : Hid (∀ w, Calls Try.prog 14 #[.slice x n1 c1, .int .i64 1048576] w fun e w' => e = .returned (.int .i64 (if (n1 : Int) ≤ 1048576 then 1048576 - (n1 : Int) else -1)) ∧ w = w') := fun w => szIfaceSL_any x n1 c1 1048576 w h1 (by omega) (by omega)
  have HB : Hid (∀ L : Int, 0 ≤ L → L ≤ 1048576 → ∀ w, Calls Try.prog 39 #[.agg #[.slice y n2 c2], .int .i64 L] w fun e w' => e = .returned (.int .i64 (if (n2 : Int) ≤ L then L - (n2 : Int) else -1)) ∧ Below w.heap.size w w') := fun L a b w => szRibL_any y n2 c2 L w h2 a b
  unfold instV
  by_cases k1 : (n1 : Int) ≤ 1048576
  · rw [if_pos k1] at HA
    have HB1 : Hid _ := HB.out (1048576 - (n1 : Int)) (by omega) (by omega)
    have d1 : decide (1048576 - (n1 : Int) < 0) = false := by simp; omega
    clear HB h1 h2
    by_cases k2 : (n2 : Int) ≤ 1048576 - (n1 : Int)
    · rw [if_pos k2] at HB1
      have d2 : decide (1048576 - (n1 : Int) - (n2 : Int) < 0) = false := by simp; omega
      go_enter Try.func9, Try.ntmps9
      go_wp2_with fail
      refine (HA.out _).mono ?_
      rintro e w1 ⟨rfl, rfl⟩
      go_wp2_with fail
      refine (HB1.out _).mono ?_
      rintro e w2 ⟨rfl, hb2⟩
      obtain ⟨-, hB⟩ := box3i hb2
      clear hb2
      go_wp2
      go_ret
      exact ⟨⟨_, rfl, .inr ⟨by omega, by omega, by omega⟩⟩, hB⟩
    · rw [if_neg k2] at HB1
      go_enter Try.func9, Try.ntmps9
      go_wp2_with fail
      refine (HA.out _).mono ?_
      rintro e w1 ⟨rfl, rfl⟩
      go_wp2_with fail
      refine (HB1.out _).mono ?_
      rintro e w2 ⟨rfl, hb2⟩
      obtain ⟨-, hB⟩ := box3i hb2
      clear hb2
      go_wp2
      go_ret
      exact ⟨⟨_, rfl, .inl (by omega)⟩, hB⟩
  · rw [if_neg k1] at HA
    clear HB h1 h2
    go_enter Try.func9, Try.ntmps9
    go_wp2_with fail
    refine (HA.out _).mono ?_
    rintro e w1 ⟨rfl, rfl⟩
    go_wp2
    go_ret
    exact ⟨⟨_, rfl, .inl (by omega)⟩, ent_new0 w _⟩
set_option maxRecDepth 100000 in
set_option maxHeartbeats 2000000 in
theorem eqInst_any (p q : Option Addr) (a1 b1 : Nat) (r s : Option Addr) (a2 b2 : Nat) (is : List If) (rs : List Rt) (now : Int) (w : World) (h1 : IfsIn w p is) (h2 : IfsIn w q is) (h3 : RtsIn w r rs) (h4 : RtsIn w s rs) (hn1 : is.length ≤ 100000000) (hn2 : rs.length ≤ 100000000) :
    Calls Try.prog 13 #[instV p is.length a1 r rs.length a2 now, instV q is.length b1 s rs.length b2 now] w fun e w' => e = .returned (.bool true) ∧ Below w.heap.size w w' := by
  have HI : Hid (∀ w, IfsIn w p is → IfsIn w q is → Calls Try.prog 19 #[.slice p is.length a1, .slice q is.length b1] w fun e w' => e = .returned (.bool true) ∧ Below w.heap.size w w') := fun w a b => eqIfaceS_any p q a1 b1 is w a b hn1
  have HR : Hid (∀ w, RtsIn w r rs → RtsIn w s rs → Calls Try.prog 46 #[.agg #[.slice r rs.length a2], .agg #[.slice s rs.length b2]] w fun e w' => e = .returned (.bool true) ∧ Below w.heap.size w w') := fun w a b => eqRib_any r s a2 b2 rs w a b hn2
  have HX : Hid (IfsIn w p is ∧ IfsIn w q is ∧ RtsIn w r rs ∧ RtsIn w s rs) := ⟨h1, h2, h3, h4⟩
  clear h1 h2 h3 h4 hn1 hn2
  have q0 := (Row.new w 35 [.slice p is.length a1, .slice r rs.length a2, .int .i64 now]).alloc (.cells #[.slice q is.length b1, .slice s rs.length b2, .int .i64 now] 35)
  have q1 := Row.new (w.alloc (.cells #[.slice p is.length a1, .slice r rs.length a2, .int .i64 now] 35)) 35 [.slice q is.length b1, .slice s rs.length b2, .int .i64 now]
  rw [show (w.alloc (.cells #[.slice p is.length a1, .slice r rs.length a2, .int .i64 now] 35)).heap.size = w.heap.size + 1 by simp] at q1
  have hBB : Below w.heap.size w ((w.alloc (.cells #[.slice p is.length a1, .slice r rs.length a2, .int .i64 now] 35)).alloc (.cells #[.slice q is.length b1, .slice s rs.length b2, .int .i64 now] 35)) := (ent_new0 w _).alloc (by simp) _
  have HQ : Hid _ := And.intro q0 (And.intro q1 hBB)
  have dn : (now != now) = false := by simp
  clear q0 q1 hBB
  unfold instV
  go_enter Try.func13, Try.ntmps13
  go_wp2_with fail
  obtain ⟨q0, q1, hB⟩ := HQ.out
  refine (HI.out _ (HX.out.1.below hB) (HX.out.2.1.below hB)).mono ?_
  rintro e w1 ⟨rfl, hb1⟩
  have q0 := q0.below hb1 q0.lt
  have q1 := q1.below hb1 q1.lt
  have hB := hB.trans (hb1.mono hB.size)
  clear hb1 HI HQ
  have x1 : w1.cell? ⟨w.heap.size, 1, none⟩ = some (.slice r rs.length a2) := q0.cell 1
  have y1 : w1.cell? ⟨w.heap.size + 1, 1, none⟩ = some (.slice s rs.length b2) := q1.cell 1
  go_wp2_with fail
  refine (HR.out _ (HX.out.2.2.1.below hB) (HX.out.2.2.2.below hB)).mono ?_
  rintro e w2 ⟨rfl, hb2⟩
  have q0 := q0.below hb2 q0.lt
  have q1 := q1.below hb2 q1.lt
  have hB := hB.trans (hb2.mono hB.size)
  clear hb2 HR x1 y1
  have x2 : w2.cell? ⟨w.heap.size, 2, none⟩ = some (.int .i64 now) := q0.cell 2
  have y2 : w2.cell? ⟨w.heap.size + 1, 2, none⟩ = some (.int .i64 now) := q1.cell 2
  go_wp2
  go_ret
  exact ⟨rfl, hB⟩
set_option maxRecDepth 100000 in
set_option maxHeartbeats 2000000 in
theorem toInst_any (x : Option Addr) (c1 : Nat) (y : Option Addr) (c2 : Nat) (is : List If) (rs : List Rt) (now : Int) (w : World) (h1 : ArgI w x is.length is) (h2 : ArgR w y rs.length rs) (hn1 : is.length ≤ 1048576) (hn2 : rs.length ≤ 1048576) :
    Calls Try.prog 11 #[instV x is.length c1 y rs.length c2 now] w fun e w' => ∃ g h, e = .returned (instV (some ⟨g, 0, none⟩) is.length is.length (some ⟨h, 0, none⟩) rs.length rs.length now) ∧ Row w' g 82 (rowI is) ∧ Row w' h 101 (rowR rs) ∧ Below w.heap.size w w' := by
  have HI : Hid (∀ w, ArgI w x is.length is → Calls Try.prog 16 #[.slice x is.length c1] w fun e w' => ∃ g, e = .returned (.slice (some ⟨g, 0, none⟩) is.length is.length) ∧ w.heap.size ≤ g ∧ Row w' g 82 (rowI is) ∧ Below w.heap.size w w') := fun w h => toIfaceS_any x c1 is w h hn1
  have HR : Hid (∀ w, ArgR w y rs.length rs → Calls Try.prog 43 #[.agg #[.slice y rs.length c2]] w fun e w' => ∃ g, e = .returned (.agg #[.slice (some ⟨g, 0, none⟩) rs.length rs.length]) ∧ w.heap.size ≤ g ∧ Row w' g 101 (rowR rs) ∧ Below w.heap.size w w') := fun w h => toRib_any y c2 rs w h hn2
  have HX : Hid (ArgI w x is.length is ∧ ArgR w y rs.length rs) := ⟨h1, h2⟩
  clear h1 h2 hn1 hn2
  unfold instV
  generalize is.length = n1 at *
  generalize rs.length = n2 at *
  obtain ⟨W, hW, q0, q1, q2, hB, hS⟩ := three_new w [.slice x n1 c1, .slice y n2 c2, .int .i64 now] [.slice none 0 0, .slice none 0 0, .int .i64 0] [.slice none 0 0, .slice none 0 0, .int .i64 0] 27 35 35
  have HW : Hid _ := hW
  have HQ : Hid _ := And.intro q0 (And.intro q1 (And.intro q2 hB))
  clear hW q0 q1 q2 hB
  go_enter Try.func11, Try.ntmps11
  go_wp2_with fail
  rw [← HW.out]
  obtain ⟨q0, q1, q2, hB⟩ := HQ.out
  refine (HI.out _ (HX.out.1.below hB)).mono ?_
  rintro e w1 ⟨g, rfl, hg, rg, hb1⟩
  have q0 := q0.below hb1 q0.lt
  have q1 := q1.below hb1 q1.lt
  have q2 := q2.below hb1 q2.lt
  have hB := hB.trans (hb1.mono (by omega))
  have hs1 := hb1.size
  clear hb1 HI HW HQ
  have x1 : w1.cell? ⟨w.heap.size, 1, none⟩ = some (.slice y n2 c2) := q0.cell 1
  have f0 : w1.frozen? ⟨w.heap.size + 1 + 1, 0, none⟩ = false := q2.frozen 0
  have z0 : w1.cell? ⟨w.heap.size + 1 + 1, 0, none⟩ = some (.slice none 0 0) := q2.cell 0
  have HE : Hid _ := And.intro (q0.other 0 (.slice (some ⟨g, 0, none⟩) n1 n1) (show w.heap.size ≠ w.heap.size + 1 + 1 by omega)) (And.intro (q1.other 0 (.slice (some ⟨g, 0, none⟩) n1 n1) (show w.heap.size + 1 ≠ w.heap.size + 1 + 1 by omega)) (And.intro (q2.set 0 (.slice (some ⟨g, 0, none⟩) n1 n1)) (And.intro (rg.other 0 (.slice (some ⟨g, 0, none⟩) n1 n1) (show g ≠ w.heap.size + 1 + 1 by omega)) (hB.setCell (p := ⟨w.heap.size + 1 + 1, 0, none⟩) (by show w.heap.size ≤ w.heap.size + 1 + 1; omega) (.slice (some ⟨g, 0, none⟩) n1 n1)))))
  clear q0 q1 q2 rg hB
  go_wp2_with fail
  clear x1 f0 z0
  have hsz : (w1.setCell ⟨w.heap.size + 1 + 1, 0, none⟩ (.slice (some ⟨g, 0, none⟩) n1 n1)).heap.size = w1.heap.size := by simp
  generalize w1.setCell ⟨w.heap.size + 1 + 1, 0, none⟩ (.slice (some ⟨g, 0, none⟩) n1 n1) = W1 at *
  obtain ⟨q0, q1, q2, rg, hB⟩ := HE.out
  clear HE
  refine (HR.out _ (HX.out.2.below hB)).mono ?_
  rintro e w2 ⟨h, rfl, hh, rh, hb2⟩
  have q0 := q0.below hb2 q0.lt
  have q1 := q1.below hb2 q1.lt
  have q2 := q2.below hb2 q2.lt
  have rg := rg.below hb2 rg.lt
  have hB := hB.trans (hb2.mono hB.size)
  clear hb2 HR
  have x2 : w2.cell? ⟨w.heap.size, 2, none⟩ = some (.int .i64 now) := q0.cell 2
  have a0 : w2.cell? ⟨w.heap.size + 1 + 1, 0, none⟩ = some (.slice (some ⟨g, 0, none⟩) n1 n1) := q2.cell 0
  have f0 : w2.frozen? ⟨w.heap.size + 1 + 1, 0, none⟩ = false := q2.frozen 0
  have a1 : w2.cell? ⟨w.heap.size + 1 + 1, 1, none⟩ = some (.slice none 0 0) := q2.cell 1
  have f1 : w2.frozen? ⟨w.heap.size + 1 + 1, 1, none⟩ = false := q2.frozen 1
  have a2 : w2.cell? ⟨w.heap.size + 1 + 1, 2, none⟩ = some (.int .i64 0) := q2.cell 2
  have f2 : w2.frozen? ⟨w.heap.size + 1 + 1, 2, none⟩ = false := q2.frozen 2
  have b0 : w2.cell? ⟨w.heap.size + 1, 0, none⟩ = some (.slice none 0 0) := q1.cell 0
  have e0 : w2.frozen? ⟨w.heap.size + 1, 0, none⟩ = false := q1.frozen 0
  have b1 : w2.cell? ⟨w.heap.size + 1, 1, none⟩ = some (.slice none 0 0) := q1.cell 1
  have e1 : w2.frozen? ⟨w.heap.size + 1, 1, none⟩ = false := q1.frozen 1
  have b2 : w2.cell? ⟨w.heap.size + 1, 2, none⟩ = some (.int .i64 0) := q1.cell 2
  have e2 : w2.frozen? ⟨w.heap.size + 1, 2, none⟩ = false := q1.frozen 2
  have ng2 : g ≠ w.heap.size + 1 + 1 := by omega
  have ng1 : g ≠ w.heap.size + 1 := by omega
  have nh2 : h ≠ w.heap.size + 1 + 1 := by omega
  have nh1 : h ≠ w.heap.size + 1 := by omega
  have n12 : w.heap.size + 1 ≠ w.heap.size + 1 + 1 := by omega
  have HF : Hid (Row (((((w2.setCell ⟨w.heap.size + 1 + 1, 1, none⟩ (.slice (some ⟨h, 0, none⟩) n2 n2)).setCell ⟨w.heap.size + 1 + 1, 2, none⟩ (.int .i64 now)).setCell ⟨w.heap.size + 1, 0, none⟩ (.slice (some ⟨g, 0, none⟩) n1 n1)).setCell ⟨w.heap.size + 1, 1, none⟩ (.slice (some ⟨h, 0, none⟩) n2 n2)).setCell ⟨w.heap.size + 1, 2, none⟩ (.int .i64 now)) (w.heap.size + 1) 35 [.slice (some ⟨g, 0, none⟩) n1 n1, .slice (some ⟨h, 0, none⟩) n2 n2, .int .i64 now] ∧ Row (((((w2.setCell ⟨w.heap.size + 1 + 1, 1, none⟩ (.slice (some ⟨h, 0, none⟩) n2 n2)).setCell ⟨w.heap.size + 1 + 1, 2, none⟩ (.int .i64 now)).setCell ⟨w.heap.size + 1, 0, none⟩ (.slice (some ⟨g, 0, none⟩) n1 n1)).setCell ⟨w.heap.size + 1, 1, none⟩ (.slice (some ⟨h, 0, none⟩) n2 n2)).setCell ⟨w.heap.size + 1, 2, none⟩ (.int .i64 now)) g 82 (rowI is) ∧ Row (((((w2.setCell ⟨w.heap.size + 1 + 1, 1, none⟩ (.slice (some ⟨h, 0, none⟩) n2 n2)).setCell ⟨w.heap.size + 1 + 1, 2, none⟩ (.int .i64 now)).setCell ⟨w.heap.size + 1, 0, none⟩ (.slice (some ⟨g, 0, none⟩) n1 n1)).setCell ⟨w.heap.size + 1, 1, none⟩ (.slice (some ⟨h, 0, none⟩) n2 n2)).setCell ⟨w.heap.size + 1, 2, none⟩ (.int .i64 now)) h 101 (rowR rs) ∧ Below w.heap.size w (((((w2.setCell ⟨w.heap.size + 1 + 1, 1, none⟩ (.slice (some ⟨h, 0, none⟩) n2 n2)).setCell ⟨w.heap.size + 1 + 1, 2, none⟩ (.int .i64 now)).setCell ⟨w.heap.size + 1, 0, none⟩ (.slice (some ⟨g, 0, none⟩) n1 n1)).setCell ⟨w.heap.size + 1, 1, none⟩ (.slice (some ⟨h, 0, none⟩) n2 n2)).setCell ⟨w.heap.size + 1, 2, none⟩ (.int .i64 now))) := ⟨((((((q1.other 1 (.slice (some ⟨h, 0, none⟩) n2 n2) n12).other 2 (.int .i64 now) n12).set 0 (.slice (some ⟨g, 0, none⟩) n1 n1)).set 1 (.slice (some ⟨h, 0, none⟩) n2 n2)).set 2 (.int .i64 now))), ((((((rg).other 1 (.slice (some ⟨h, 0, none⟩) n2 n2) ng2).other 2 (.int .i64 now) ng2).other 0 (.slice (some ⟨g, 0, none⟩) n1 n1) ng1).other 1 (.slice (some ⟨h, 0, none⟩) n2 n2) ng1).other 2 (.int .i64 now) ng1), ((((((rh).other 1 (.slice (some ⟨h, 0, none⟩) n2 n2) nh2).other 2 (.int .i64 now) nh2).other 0 (.slice (some ⟨g, 0, none⟩) n1 n1) nh1).other 1 (.slice (some ⟨h, 0, none⟩) n2 n2) nh1).other 2 (.int .i64 now) nh1), (((((hB.setCell (p := ⟨w.heap.size + 1 + 1, 1, none⟩) (by show w.heap.size ≤ w.heap.size + 1 + 1; omega) (.slice (some ⟨h, 0, none⟩) n2 n2)).setCell (p := ⟨w.heap.size + 1 + 1, 2, none⟩) (by show w.heap.size ≤ w.heap.size + 1 + 1; omega) (.int .i64 now)).setCell (p := ⟨w.heap.size + 1, 0, none⟩) (by show w.heap.size ≤ w.heap.size + 1; omega) (.slice (some ⟨g, 0, none⟩) n1 n1)).setCell (p := ⟨w.heap.size + 1, 1, none⟩) (by show w.heap.size ≤ w.heap.size + 1; omega) (.slice (some ⟨h, 0, none⟩) n2 n2)).setCell (p := ⟨w.heap.size + 1, 2, none⟩) (by show w.heap.size ≤ w.heap.size + 1; omega) (.int .i64 now))⟩
  clear q0 q1 q2 rg rh hB
  go_wp2_with fail
  have hF := HF.out
  clear HF x2 a0 f0 b0 e0 a1 f1 b1 e1 a2 f2 b2 e2
  generalize (((((w2.setCell ⟨w.heap.size + 1 + 1, 1, none⟩ (.slice (some ⟨h, 0, none⟩) n2 n2)).setCell ⟨w.heap.size + 1 + 1, 2, none⟩ (.int .i64 now)).setCell ⟨w.heap.size + 1, 0, none⟩ (.slice (some ⟨g, 0, none⟩) n1 n1)).setCell ⟨w.heap.size + 1, 1, none⟩ (.slice (some ⟨h, 0, none⟩) n2 n2)).setCell ⟨w.heap.size + 1, 2, none⟩ (.int .i64 now)) = Z at *
  obtain ⟨k1, k2, k3, k4⟩ := hF
  have e0 : Z.cell? ⟨w.heap.size + 1, 0, none⟩ = some (.slice (some ⟨g, 0, none⟩) n1 n1) := k1.cell 0
  have e1 : Z.cell? ⟨w.heap.size + 1, 1, none⟩ = some (.slice (some ⟨h, 0, none⟩) n2 n2) := k1.cell 1
  have e2 : Z.cell? ⟨w.heap.size + 1, 2, none⟩ = some (.int .i64 now) := k1.cell 2
  exact bodyPost_ret (v := .agg #[.slice (some ⟨g, 0, none⟩) n1 n1, .slice (some ⟨h, 0, none⟩) n2 n2, .int .i64 now]) (by simp [results, Try.results11, go_sem, e0, e1, e2]) rfl ⟨g, h, rfl, k2, k3, k4⟩
section
variable {H : Type} {enc : TypeId × Value → H} {w : World} {base : Nat} {spare : Nat → Bool} {held : Bool}
theorem Try.cellsInst : Try.prog.cellsOf 27 = 3 := by kernel_rfl
theorem Try.cellsIfsI : Try.prog.cellsOf 22 = 1 := by kernel_rfl
theorem Try.cellsRibI : Try.prog.cellsOf 25 = 1 := by kernel_rfl
theorem Try.cellsIntN : Try.prog.cellsOf 2 = 1 := by kernel_rfl
set_option maxRecDepth 100000 in
theorem open_instV {r : Reach} {b0 : Nat} {v : Value} {d : DataW H} {p : List MemPlace} (hv : Value.okWide Try.prog w r b0 27 v) (h : DataW.Trod enc Try.prog w base spare held 27 v d p) :
    ∃ x n1 c1 is y n2 c2 rs now, v = instV x n1 c1 y n2 c2 now ∧ ArgI w x n1 is ∧ ArgR w y n2 rs ∧ (Lit.int .i64 now).wf = true := by
  obtain ⟨cs, rfl, hsz⟩ := okWide_struct Try.underlying27 hv
  rw [Try.cellsInst] at hsz
  obtain ⟨l⟩ := cs
  match l, hsz with
  | [e0, e1, e2], _ =>
    obtain ⟨fuel, hf⟩ := h
    obtain ⟨xs, n, _, _, hl, hx, hg⟩ := DataW.trod_struct Try.underlying27 hf
    match xs, hx with
    | [y0, y1, y2], _ =>
      have h0 : DataW.trod enc Try.prog w base spare held n 22 ((([e0, e1, e2] : List Value).drop 0).take (Try.prog.cellsOf 22)) = [y0, y1, y2][0]? := hg 0 _ rfl
      rw [Try.cellsIfsI] at h0
      replace h0 : DataW.trod enc Try.prog w base spare held n 22 [e0] = some y0 := h0
      have h1 : DataW.trod enc Try.prog w base spare held n 25 ((([e0, e1, e2] : List Value).drop 1).take (Try.prog.cellsOf 25)) = [y0, y1, y2][1]? := hg 1 _ rfl
      rw [Try.cellsRibI] at h1
      replace h1 : DataW.trod enc Try.prog w base spare held n 25 [e1] = some y1 := h1
      have h2 : DataW.trod enc Try.prog w base spare held n 2 ((([e0, e1, e2] : List Value).drop 2).take (Try.prog.cellsOf 2)) = [y0, y1, y2][2]? := hg 2 _ rfl
      rw [Try.cellsIntN] at h2
      replace h2 : DataW.trod enc Try.prog w base spare held n 2 [e2] = some y2 := h2
      obtain ⟨xs', n', _, _, hl', hx', hg'⟩ := DataW.trod_struct Try.underlying25 h1
      match xs', hx' with
      | [z0], _ =>
        have k0 : DataW.trod enc Try.prog w base spare held n' 23 ((([e1] : List Value).drop 0).take (Try.prog.cellsOf 23)) = [z0][0]? := hg' 0 _ rfl
        rw [Try.cellsRibS] at k0
        replace k0 : DataW.trod enc Try.prog w base spare held n' 23 [e1] = some z0 := k0
        obtain ⟨x, n1, c1, is, rfl, hA⟩ := open_ifs h0
        obtain ⟨y, n2, c2, rs, rfl, hR⟩ := open_rts k0
        obtain ⟨now, en, _, wn⟩ := DataW.trod_int Try.underlying2 h2
        simp only [List.cons.injEq, and_true] at en
        subst en
        exact ⟨x, n1, c1, is, y, n2, c2, rs, now, rfl, hA, hR, wn⟩
end
end Go.Proofs.Ytflmbkjnlgibnaa
