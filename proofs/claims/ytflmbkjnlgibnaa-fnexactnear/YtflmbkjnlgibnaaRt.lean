/- Is a route right? Asked by the program and by the model. -/
import Derived.Test.YtflmbkjnlgibnaaEntD
import Derived.Test.YtflmbkjnlgibnaaTimeI
namespace Go.Proofs.Ytflmbkjnlgibnaa
open Go.RowKit Go.Sort

/-- A route: its net (a, l), its metric m, the next one n, its iface i, its tag t, its times u (Until) and b (Bin), its mark c. -/
structure Rt where
  a : Int
  l : Int
  m : Int
  n : Int
  i : Int
  t : Int
  u : Int
  b : Int
  c : Bool
instance : Inhabited Rt := ⟨⟨0, 0, 0, 0, 0, 0, 0, 0, false⟩⟩
def rtA (r : Rt) : Array Value := #[.int .i64 r.a, .int .i64 r.l, .int .i64 r.m, .int .i64 r.n, .int .i64 r.i, .int .i64 r.t, .int .i64 r.u, .int .i64 r.b, .bool r.c]
def rtV (r : Rt) : Value := .agg (rtA r)
def inIf (i : Int) : Bool := decide (0 ≤ i ∧ i ≤ 3)
def rtE (r : Rt) : Ent := ⟨r.a, r.l, r.n, r.m, r.t⟩
def saidB (r : Rt) : Bool := entB (rtE r) && inIf r.i
def timesB (r : Rt) : Bool := if r.n = 0 then decide (r.u = 0) && decide (r.b = 0) else if r.m < 16 then decide (0 < r.u) && decide (r.b = 0) else decide (r.u = 0) && decide (0 < r.b)
def routeB (r : Rt) : Bool := saidB r && !(decide (r.n = 0) && decide (r.m = 16)) && (inTime r.u && inTime r.b && timesB r)
theorem entV_rt (r : Rt) : entV (rtE r) = .agg #[.int .i64 r.a, .int .i64 r.l, .int .i64 r.n, .int .i64 r.m, .int .i64 r.t] := rfl
/-- Nine cells that a call has laid: what they hold behind a later one. -/
theorem box9 {w w1 : World} {x0 x1 x2 x3 x4 x5 x6 x7 x8 : Value} {t : TypeId} (h : Below (w.alloc (.cells #[x0, x1, x2, x3, x4, x5, x6, x7, x8] t)).heap.size (w.alloc (.cells #[x0, x1, x2, x3, x4, x5, x6, x7, x8] t)) w1) :
    w1.cell? ⟨w.heap.size, 0, none⟩ = some x0 ∧ w1.cell? ⟨w.heap.size, 1, none⟩ = some x1 ∧ w1.cell? ⟨w.heap.size, 2, none⟩ = some x2 ∧ w1.cell? ⟨w.heap.size, 3, none⟩ = some x3 ∧ w1.cell? ⟨w.heap.size, 4, none⟩ = some x4 ∧ w1.cell? ⟨w.heap.size, 5, none⟩ = some x5 ∧ w1.cell? ⟨w.heap.size, 6, none⟩ = some x6 ∧ w1.cell? ⟨w.heap.size, 7, none⟩ = some x7 ∧ w1.cell? ⟨w.heap.size, 8, none⟩ = some x8 ∧ Below w.heap.size w w1 := by
  have hlt : w.heap.size < (w.alloc (.cells #[x0, x1, x2, x3, x4, x5, x6, x7, x8] t)).heap.size := by simp
  have hz : ∀ k, (w.alloc (.cells #[x0, x1, x2, x3, x4, x5, x6, x7, x8] t)).cell? ⟨w.heap.size, k, none⟩ = #[x0, x1, x2, x3, x4, x5, x6, x7, x8][k]? := fun k => cell_of_row _ _ k _ t _ (heap_alloc_new w _)
  refine ⟨?_, ?_, ?_, ?_, ?_, ?_, ?_, ?_, ?_, (ent_new0 w _).trans (h.mono (by simp))⟩ <;> (rw [h.cell (p := ⟨w.heap.size, _, none⟩) hlt, hz]; rfl)
theorem inIf_dec (i : Int) : inIf i = (decide (0 ≤ i) && decide (i ≤ 3)) := by simp [inIf, Bool.decide_and]
set_option maxRecDepth 100000 in
theorem isIface_any (a : Int) (w : World) : Calls Try.prog 111 #[.int .i64 a] w fun e w' => e = .returned (.bool (inIf a)) ∧ w = w' := by
  by_cases h1 : 0 ≤ a
  · by_cases h2 : a ≤ 3
    · go_enter Try.func111, Try.ntmps111
      go_wp2
      go_ret
      exact ⟨ret_bool (by simp [inIf]; omega), rfl⟩
    · go_enter Try.func111, Try.ntmps111
      go_wp2
      go_ret
      exact ⟨ret_bool (by simp [inIf]; omega), rfl⟩
  · go_enter Try.func111, Try.ntmps111
    go_wp2
    go_ret
    exact ⟨ret_bool (by simp [inIf]; omega), rfl⟩
theorem rt_new (w : World) (r : Rt) (t : TypeId) : Below w.heap.size w (w.alloc (.cells (rtA r) t)) := ent_new0 w _
set_option maxRecDepth 100000 in
theorem isOwn_any (r : Rt) (w : World) : Calls Try.prog 99 #[rtV r] w fun e w' => e = .returned (.bool (decide (r.n = 0))) ∧ Below w.heap.size w w' := by
  obtain ⟨a, l, m, n, i, t, u, b, c⟩ := r
  unfold rtV rtA
  have hb := ent_new0 w (.cells #[.int .i64 a, .int .i64 l, .int .i64 m, .int .i64 n, .int .i64 i, .int .i64 t, .int .i64 u, .int .i64 b, .bool c] 101)
  obtain ⟨c0, c1, c2, c3, c4, c5, c6, c7, c8, hB⟩ := box9 (Below.refl _ (w.alloc (.cells #[.int .i64 a, .int .i64 l, .int .i64 m, .int .i64 n, .int .i64 i, .int .i64 t, .int .i64 u, .int .i64 b, .bool c] 101)))
  go_enter Try.func99, Try.ntmps99
  go_wp2
  go_ret
  exact ⟨ret_bool (by rw [Bool.eq_iff_iff]; simp), hb⟩
set_option maxRecDepth 100000 in
theorem saidRight_any (r : Rt) (w : World) : Calls Try.prog 98 #[rtV r] w fun e w' => e = .returned (.bool (saidB r)) ∧ Below w.heap.size w w' := by
  obtain ⟨a, l, m, n, i, t, u, b, c⟩ := r
  have HE : Hid (∀ w, Calls Try.prog 110 #[.agg #[.int .i64 a, .int .i64 l, .int .i64 n, .int .i64 m, .int .i64 t]] w fun e w' => e = .returned (.bool (entB ⟨a, l, n, m, t⟩)) ∧ Below w.heap.size w w') := implEntryRight_any ⟨a, l, n, m, t⟩
  have HI : Hid (∀ w, Calls Try.prog 111 #[.int .i64 i] w fun e w' => e = .returned (.bool (inIf i)) ∧ w = w') := isIface_any i
  have HS : Hid (saidB ⟨a, l, m, n, i, t, u, b, c⟩ = (entB ⟨a, l, n, m, t⟩ && inIf i)) := rfl
  rw [HS.out]
  clear HS
  unfold rtV rtA
  generalize entB ⟨a, l, n, m, t⟩ = E at *
  generalize inIf i = I at *
  obtain ⟨d0, d1, d2, d3, d4, d5, d6, d7, d8, -⟩ := box9 (Below.refl _ (w.alloc (.cells #[.int .i64 a, .int .i64 l, .int .i64 m, .int .i64 n, .int .i64 i, .int .i64 t, .int .i64 u, .int .i64 b, .bool c] 101)))
  go_enter Try.func98, Try.ntmps98
  go_wp2_with fail
  refine (HE.out _).mono ?_
  rintro e w1 ⟨rfl, hb1⟩
  obtain ⟨c0, c1, c2, c3, c4, c5, c6, c7, c8, hB⟩ := box9 hb1
  clear hb1 HE d0 d1 d2 d3 d4 d5 d6 d7 d8
  cases E
  · go_wp2
    go_ret
    exact ⟨rfl, hB⟩
  · go_wp2_with fail
    refine (HI.out _).mono ?_
    rintro e w2 ⟨rfl, rfl⟩
    go_wp2
    go_ret
    exact ⟨rfl, hB⟩
set_option maxRecDepth 100000 in
theorem timesRight_any (r : Rt) (w : World) : Calls Try.prog 101 #[rtV r] w fun e w' => e = .returned (.bool (timesB r)) ∧ Below w.heap.size w w' := by
  obtain ⟨a, l, m, n, i, t, u, b, c⟩ := r
  have HO : Hid (∀ w, Calls Try.prog 99 #[.agg #[.int .i64 a, .int .i64 l, .int .i64 m, .int .i64 n, .int .i64 i, .int .i64 t, .int .i64 u, .int .i64 b, .bool c]] w fun e w' => e = .returned (.bool (decide (n = 0))) ∧ Below w.heap.size w w') := isOwn_any ⟨a, l, m, n, i, t, u, b, c⟩
  have HT : Hid (timesB ⟨a, l, m, n, i, t, u, b, c⟩ = if n = 0 then decide (u = 0) && decide (b = 0) else if m < 16 then decide (0 < u) && decide (b = 0) else decide (u = 0) && decide (0 < b)) := rfl
  rw [HT.out]
  clear HT
  unfold rtV rtA
  obtain ⟨d0, d1, d2, d3, d4, d5, d6, d7, d8, -⟩ := box9 (Below.refl _ (w.alloc (.cells #[.int .i64 a, .int .i64 l, .int .i64 m, .int .i64 n, .int .i64 i, .int .i64 t, .int .i64 u, .int .i64 b, .bool c] 101)))
  go_enter Try.func101, Try.ntmps101
  go_wp2_with fail
  refine (HO.out _).mono ?_
  rintro e w1 ⟨rfl, hb1⟩
  obtain ⟨c0, c1, c2, c3, c4, c5, c6, c7, c8, hB⟩ := box9 hb1
  clear hb1 HO d0 d1 d2 d3 d4 d5 d6 d7 d8
  by_cases hn : n = 0
  · have dn : decide (n = 0) = true := decide_eq_true hn
    rw [dn]
    by_cases hu : u = 0
    · have eu : (u == 0) = true := by simpa using hu
      go_wp2
      go_ret
      exact ⟨ret_bool (by first | rfl | (rw [Bool.eq_iff_iff]; simp; done) | (simp; omega)), hB⟩
    · have eu : (u == 0) = false := by simpa using hu
      go_wp2
      go_ret
      exact ⟨ret_bool (by first | rfl | (rw [Bool.eq_iff_iff]; simp; done) | (simp; omega)), hB⟩
  · have dn : decide (n = 0) = false := decide_eq_false hn
    rw [dn]
    by_cases hm : m < 16
    · by_cases hu : 0 < u
      · go_wp2
        go_ret
        exact ⟨ret_bool (by first | rfl | (rw [Bool.eq_iff_iff]; simp; done) | (simp; omega)), hB⟩
      · go_wp2
        go_ret
        exact ⟨ret_bool (by first | rfl | (rw [Bool.eq_iff_iff]; simp; done) | (simp; omega)), hB⟩
    · by_cases hu : u = 0
      · have eu : (u == 0) = true := by simpa using hu
        go_wp2
        go_ret
        exact ⟨ret_bool (by first | rfl | (rw [Bool.eq_iff_iff]; simp; done) | (simp; omega)), hB⟩
      · have eu : (u == 0) = false := by simpa using hu
        go_wp2
        go_ret
        exact ⟨ret_bool (by first | rfl | (rw [Bool.eq_iff_iff]; simp; done) | (simp; omega)), hB⟩
set_option maxRecDepth 100000 in
theorem implRoute_any (r : Rt) (w : World) : Calls Try.prog 77 #[rtV r] w fun e w' => e = .returned (.bool (routeB r)) ∧ Below w.heap.size w w' := by
  obtain ⟨a, l, m, n, i, t, u, b, c⟩ := r
  have HS : Hid (∀ w, Calls Try.prog 98 #[.agg #[.int .i64 a, .int .i64 l, .int .i64 m, .int .i64 n, .int .i64 i, .int .i64 t, .int .i64 u, .int .i64 b, .bool c]] w fun e w' => e = .returned (.bool (saidB ⟨a, l, m, n, i, t, u, b, c⟩)) ∧ Below w.heap.size w w') := saidRight_any ⟨a, l, m, n, i, t, u, b, c⟩
  have HO : Hid (∀ w, Calls Try.prog 99 #[.agg #[.int .i64 a, .int .i64 l, .int .i64 m, .int .i64 n, .int .i64 i, .int .i64 t, .int .i64 u, .int .i64 b, .bool c]] w fun e w' => e = .returned (.bool (decide (n = 0))) ∧ Below w.heap.size w w') := isOwn_any ⟨a, l, m, n, i, t, u, b, c⟩
  have HT : Hid (∀ w, Calls Try.prog 101 #[.agg #[.int .i64 a, .int .i64 l, .int .i64 m, .int .i64 n, .int .i64 i, .int .i64 t, .int .i64 u, .int .i64 b, .bool c]] w fun e w' => e = .returned (.bool (timesB ⟨a, l, m, n, i, t, u, b, c⟩)) ∧ Below w.heap.size w w') := timesRight_any ⟨a, l, m, n, i, t, u, b, c⟩
  have HU : Hid (∀ w, Calls Try.prog 100 #[.int .i64 u] w fun e w' => e = .returned (.bool (inTime u)) ∧ w = w') := isTime_any u
  have HB : Hid (∀ w, Calls Try.prog 100 #[.int .i64 b] w fun e w' => e = .returned (.bool (inTime b)) ∧ w = w') := isTime_any b
  have HE : Hid (routeB ⟨a, l, m, n, i, t, u, b, c⟩ = (saidB ⟨a, l, m, n, i, t, u, b, c⟩ && !(decide (n = 0) && decide (m = 16)) && (inTime u && inTime b && timesB ⟨a, l, m, n, i, t, u, b, c⟩))) := rfl
  rw [HE.out]
  clear HE
  unfold rtV rtA
  generalize saidB ⟨a, l, m, n, i, t, u, b, c⟩ = S at *
  generalize timesB ⟨a, l, m, n, i, t, u, b, c⟩ = T at *
  generalize inTime u = U at *
  generalize inTime b = B at *
  generalize decide (n = 0) = N at *
  obtain ⟨d0, d1, d2, d3, d4, d5, d6, d7, d8, -⟩ := box9 (Below.refl _ (w.alloc (.cells #[.int .i64 a, .int .i64 l, .int .i64 m, .int .i64 n, .int .i64 i, .int .i64 t, .int .i64 u, .int .i64 b, .bool c] 101)))
  go_enter Try.func77, Try.ntmps77
  go_wp2_with fail
  refine (HS.out _).mono ?_
  rintro e w1 ⟨rfl, hb1⟩
  obtain ⟨c0, c1, c2, c3, c4, c5, c6, c7, c8, hB⟩ := box9 hb1
  clear HS d0 d1 d2 d3 d4 d5 d6 d7 d8
  cases S
  · go_wp2
    go_ret
    exact ⟨rfl, hB⟩
  go_wp2_with fail
  refine (HO.out _).mono ?_
  rintro e w2 ⟨rfl, hb2⟩
  clear c0 c1 c2 c3 c4 c5 c6 c7 c8 hB
  obtain ⟨c0, c1, c2, c3, c4, c5, c6, c7, c8, hB⟩ := box9 (hb1.trans (hb2.mono hb1.size))
  clear hb1 hb2
  by_cases hd : (N && decide (m = 16)) = true
  · have hN : N = true := by cases N <;> simp_all
    have hm : (m == 16) = true := by cases N <;> simp_all
    subst hN
    go_wp2
    go_ret
    exact ⟨ret_bool (by rw [hd]; rfl), hB⟩
  have HD : Hid ((N && decide (m = 16)) = false) := (by simpa using hd : (N && decide (m = 16)) = false)
  have hm : N = true → (m == 16) = false := by intro h; subst h; simpa using hd
  clear hd
  cases N
  · go_wp2_with fail
    refine (HU.out _).mono ?_
    rintro e w3 ⟨rfl, rfl⟩
    cases U
    · go_wp2
      go_ret
      exact ⟨ret_bool (by rw [HD.out]; rfl), hB⟩
    go_wp2_with fail
    refine (HB.out _).mono ?_
    rintro e w3 ⟨rfl, rfl⟩
    cases B
    · go_wp2
      go_ret
      exact ⟨ret_bool (by rw [HD.out]; rfl), hB⟩
    go_wp2_with fail
    refine (HT.out _).mono ?_
    rintro e w3 ⟨rfl, hb3⟩
    go_wp2
    go_ret
    exact ⟨ret_bool (by rw [HD.out]; rfl), hB.trans (hb3.mono hB.size)⟩
  · have hm' := hm rfl
    go_wp2_with fail
    refine (HU.out _).mono ?_
    rintro e w3 ⟨rfl, rfl⟩
    cases U
    · go_wp2
      go_ret
      exact ⟨ret_bool (by rw [HD.out]; rfl), hB⟩
    go_wp2_with fail
    refine (HB.out _).mono ?_
    rintro e w3 ⟨rfl, rfl⟩
    cases B
    · go_wp2
      go_ret
      exact ⟨ret_bool (by rw [HD.out]; rfl), hB⟩
    go_wp2_with fail
    refine (HT.out _).mono ?_
    rintro e w3 ⟨rfl, hb3⟩
    go_wp2
    go_ret
    exact ⟨ret_bool (by rw [HD.out]; rfl), hB.trans (hb3.mono hB.size)⟩
theorem routeB_spec (r : Rt) : routeB r = (rightB r.a r.l && (inMet r.m && (inAddr r.n && (inIf r.i && (inTag r.t && (inTime r.u && inTime r.b)))))
    && (if r.n = 0 then decide (r.u = 0) && decide (r.b = 0) && decide (r.m < 16) else if r.m < 16 then decide (0 < r.u) && decide (r.b = 0) else decide (r.u = 0) && decide (0 < r.b))) := by
  obtain ⟨a, l, m, n, i, t, u, b, c⟩ := r
  simp only [routeB, saidB, entB, rtE, timesB]
  by_cases hn : n = 0
  · simp only [hn, if_true, decide_true, Bool.true_and]
    by_cases hm : inMet m = true
    · have : decide (m < 16) = !decide (m = 16) := by
        have h := hm; simp [inMet] at h
        by_cases h6 : m = 16
        · simp [h6]
        · simp [h6]; omega
      rw [this, hm]
      cases rightB a l <;> cases inAddr 0 <;> cases inIf i <;> cases inTag t <;> cases inTime u <;> cases inTime b <;> cases decide (u = 0) <;> cases decide (b = 0) <;> cases decide (m = 16) <;> rfl
    · simp [hm]
  · simp only [hn, if_false, decide_false, Bool.false_and, Bool.not_false, Bool.and_true]
    by_cases hm : m < 16
    · simp only [hm, if_true]
      cases rightB a l <;> cases inMet m <;> cases inAddr n <;> cases inIf i <;> cases inTag t <;> cases inTime u <;> cases inTime b <;> rfl
    · simp only [hm, if_false]
      cases rightB a l <;> cases inMet m <;> cases inAddr n <;> cases inIf i <;> cases inTag t <;> cases inTime u <;> cases inTime b <;> rfl
set_option maxRecDepth 100000 in
set_option maxHeartbeats 1000000 in
theorem specRoute_any (r : Rt) (w : World) : Calls Try.prog 72 #[rtV r] w fun e w' => e = .returned (.bool (routeB r)) ∧ Below w.heap.size w w' := by
  rw [routeB_spec]
  obtain ⟨a, l, m, n, i, t, u, b, c⟩ := r
  have HR : Hid (∀ w, Calls Try.prog 63 #[.agg #[.int .i64 a, .int .i64 l]] w fun e w' => e = .returned (.bool (rightB a l)) ∧ Below w.heap.size w w') := specRight_any a l
  have HM : Hid (∀ w, Calls Try.prog 42 #[.int .i64 m, .int .i64 1, .int .i64 16] w fun e w' => e = .returned (.bool (inMet m)) ∧ w = w') := l03Is_any m 1 16
  have HA : Hid (∀ w, Calls Try.prog 89 #[.int .i64 n] w fun e w' => e = .returned (.bool (inAddr n)) ∧ w = w') := l03Addr_any n
  have HI : Hid (∀ w, Calls Try.prog 42 #[.int .i64 i, .int .i64 0, .int .i64 3] w fun e w' => e = .returned (.bool (inIf i)) ∧ w = w') := l03Is_any i 0 3
  have HG : Hid (∀ w, Calls Try.prog 42 #[.int .i64 t, .int .i64 0, .int .i64 65535] w fun e w' => e = .returned (.bool (inTag t)) ∧ w = w') := l03Is_any t 0 65535
  have HU : Hid (∀ w, Calls Try.prog 96 #[.int .i64 u] w fun e w' => e = .returned (.bool (inTime u)) ∧ w = w') := l03Time_any u
  have HB : Hid (∀ w, Calls Try.prog 96 #[.int .i64 b] w fun e w' => e = .returned (.bool (inTime b)) ∧ w = w') := l03Time_any b
  unfold rtV rtA
  show Calls _ _ _ _ fun e w' => e = .returned (.bool (rightB a l && (inMet m && (inAddr n && (inIf i && (inTag t && (inTime u && inTime b))))) && (if n = 0 then decide (u = 0) && decide (b = 0) && decide (m < 16) else if m < 16 then decide (0 < u) && decide (b = 0) else decide (u = 0) && decide (0 < b)))) ∧ _
  generalize hX : (if n = 0 then decide (u = 0) && decide (b = 0) && decide (m < 16) else if m < 16 then decide (0 < u) && decide (b = 0) else decide (u = 0) && decide (0 < b)) = X
  have HX : Hid _ := hX
  clear hX
  generalize rightB a l = R at *
  generalize inMet m = M at *
  generalize inAddr n = N at *
  generalize inIf i = I at *
  generalize inTag t = G at *
  generalize inTime u = U at *
  generalize inTime b = B at *
  obtain ⟨d0, d1, d2, d3, d4, d5, d6, d7, d8, -⟩ := box9 (Below.refl _ (w.alloc (.cells #[.int .i64 a, .int .i64 l, .int .i64 m, .int .i64 n, .int .i64 i, .int .i64 t, .int .i64 u, .int .i64 b, .bool c] 101)))
  go_enter Try.func72, Try.ntmps72
  go_wp2_with fail
  refine (HR.out _).mono ?_
  rintro e w1 ⟨rfl, hb1⟩
  obtain ⟨c0, c1, c2, c3, c4, c5, c6, c7, c8, hB⟩ := box9 hb1
  clear hb1 HR d0 d1 d2 d3 d4 d5 d6 d7 d8
  cases R
  · go_wp2
    go_ret
    exact ⟨rfl, hB⟩
  go_wp2_with fail
  refine (HM.out _).mono ?_
  rintro e w2 ⟨rfl, rfl⟩
  cases M
  · go_wp2
    go_ret
    exact ⟨rfl, hB⟩
  go_wp2_with fail
  refine (HA.out _).mono ?_
  rintro e w2 ⟨rfl, rfl⟩
  cases N
  · go_wp2
    go_ret
    exact ⟨rfl, hB⟩
  go_wp2_with fail
  refine (HI.out _).mono ?_
  rintro e w2 ⟨rfl, rfl⟩
  cases I
  · go_wp2
    go_ret
    exact ⟨rfl, hB⟩
  go_wp2_with fail
  refine (HG.out _).mono ?_
  rintro e w2 ⟨rfl, rfl⟩
  cases G
  · go_wp2
    go_ret
    exact ⟨rfl, hB⟩
  go_wp2_with fail
  refine (HU.out _).mono ?_
  rintro e w2 ⟨rfl, rfl⟩
  cases U
  · go_wp2
    go_ret
    exact ⟨rfl, hB⟩
  go_wp2_with fail
  refine (HB.out _).mono ?_
  rintro e w2 ⟨rfl, rfl⟩
  cases B
  · go_wp2
    go_ret
    exact ⟨rfl, hB⟩
  by_cases hn : n = 0
  · have en : (n == 0) = true := by simpa using hn
    by_cases hu : u = 0
    · by_cases hb : b = 0
      · have HX2 : Hid (X = decide (m < 16)) := by show _ = _; rw [← HX.out]; simp [hn, hu, hb]
        have eu : (u == 0) = true := by simpa using hu
        have eb : (b == 0) = true := by simpa using hb
        clear HX
        go_wp2
        go_ret
        exact ⟨ret_bool (by rw [HX2.out]; first | rfl | (rw [Bool.eq_iff_iff]; simp)), hB⟩
      · have HX2 : Hid (X = false) := by show _ = _; rw [← HX.out]; simp [hn, hu, hb]
        have eu : (u == 0) = true := by simpa using hu
        have eb : (b == 0) = false := by simpa using hb
        clear HX
        go_wp2
        go_ret
        exact ⟨ret_bool (by rw [HX2.out]; rfl), hB⟩
    · have HX2 : Hid (X = false) := by show _ = _; rw [← HX.out]; simp [hn, hu]
      have eu : (u == 0) = false := by simpa using hu
      clear HX
      go_wp2
      go_ret
      exact ⟨ret_bool (by rw [HX2.out]; rfl), hB⟩
  · have en : (n == 0) = false := by simpa using hn
    by_cases hm : m < 16
    · have dm : decide (m < 16) = true := decide_eq_true hm
      by_cases hu : 0 < u
      · have HX2 : Hid (X = decide (b = 0)) := by show _ = _; rw [← HX.out]; simp [hn, hm, hu]
        have du : decide (0 < u) = true := decide_eq_true hu
        clear HX
        go_wp2
        go_ret
        exact ⟨ret_bool (by rw [HX2.out]; first | rfl | (rw [Bool.eq_iff_iff]; simp)), hB⟩
      · have HX2 : Hid (X = false) := by show _ = _; rw [← HX.out]; simp [hn, hm, hu]
        have du : decide (0 < u) = false := decide_eq_false hu
        clear HX
        go_wp2
        go_ret
        exact ⟨ret_bool (by rw [HX2.out]; rfl), hB⟩
    · have dm : decide (m < 16) = false := decide_eq_false hm
      by_cases hu : u = 0
      · have HX2 : Hid (X = decide (0 < b)) := by show _ = _; rw [← HX.out]; simp [hn, hm, hu]
        have eu : (u == 0) = true := by simpa using hu
        clear HX
        go_wp2
        go_ret
        exact ⟨ret_bool (by rw [HX2.out]; first | rfl | (rw [Bool.eq_iff_iff]; simp)), hB⟩
      · have HX2 : Hid (X = false) := by show _ = _; rw [← HX.out]; simp [hn, hm, hu]
        have eu : (u == 0) = false := by simpa using hu
        clear HX
        go_wp2
        go_ret
        exact ⟨ret_bool (by rw [HX2.out]; rfl), hB⟩
end Go.Proofs.Ytflmbkjnlgibnaa
