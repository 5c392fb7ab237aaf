/- A Leak: its value; right, by the program and by the model. (Written by gen_lk.py.) -/
import Derived.Test.YtpkjkjepmloddaaNetOf
import Derived.Test.YtpkjkjepmloddaaRowV
import Derived.Test.YtpkjkjepmloddaaEntD
namespace Go.Proofs.Ytpkjkjepmloddaa
open Go.RowKit Go.Sort

/-- A Leak: from, to, the net within (address and length), what it adds, its tag. -/
structure Lk where
  fr : Int
  tt : Int
  a : Int
  l : Int
  ad : Int
  tg : Int
deriving Inhabited
def lkA (f : Lk) : Array Value := #[.int .i64 f.fr, .int .i64 f.tt, .int .i64 f.a, .int .i64 f.l, .int .i64 f.ad, .int .i64 f.tg]
def lkV (f : Lk) : Value := .agg (lkA f)
def inPt (n : Int) : Bool := decide (0 ≤ n ∧ n ≤ 2)
def inAd (n : Int) : Bool := decide (1 ≤ n ∧ n ≤ 15)
def inLt (n : Int) : Bool := decide (1000 ≤ n ∧ n ≤ 65535)
def lkB (f : Lk) : Bool := inPt f.fr && (inPt f.tt && (decide (f.fr ≠ f.tt) && (rightB f.a f.l && (inAd f.ad && inLt f.tg))))
theorem box6 {w w1 : World} {x0 x1 x2 x3 x4 x5 : Value} {t : TypeId} (h : Below (w.alloc (.cells #[x0, x1, x2, x3, x4, x5] t)).heap.size (w.alloc (.cells #[x0, x1, x2, x3, x4, x5] t)) w1) :
    w1.cell? ⟨w.heap.size, 0, none⟩ = some x0 ∧ w1.cell? ⟨w.heap.size, 1, none⟩ = some x1 ∧ w1.cell? ⟨w.heap.size, 2, none⟩ = some x2 ∧ w1.cell? ⟨w.heap.size, 3, none⟩ = some x3 ∧ w1.cell? ⟨w.heap.size, 4, none⟩ = some x4 ∧ w1.cell? ⟨w.heap.size, 5, none⟩ = some x5 ∧ Below w.heap.size w w1 := by
  have q := Row.new w t [x0, x1, x2, x3, x4, x5]
  have q := q.below h q.lt
  exact ⟨q.cell 0, q.cell 1, q.cell 2, q.cell 3, q.cell 4, q.cell 5, (ent_new0 w _).trans (h.mono (by simp))⟩
set_option maxRecDepth 100000 in
theorem isParty_any (n : Int) (w : World) : Calls Try.prog 39 #[.int .i64 n] w fun e w' => e = .returned (.bool (inPt n)) ∧ w = w' := by
  by_cases h1 : 0 ≤ n
  · by_cases h2 : n < 3
    · go_enter Try.func39, Try.ntmps39
      go_wp2
      go_ret
      exact ⟨ret_bool (by simp [inPt]; omega), rfl⟩
    · go_enter Try.func39, Try.ntmps39
      go_wp2
      go_ret
      exact ⟨ret_bool (by simp [inPt]; omega), rfl⟩
  · go_enter Try.func39, Try.ntmps39
    go_wp2
    go_ret
    exact ⟨ret_bool (by simp [inPt]; omega), rfl⟩
set_option maxRecDepth 100000 in
theorem byRule_any (n : Int) (w : World) : Calls Try.prog 93 #[.int .i64 n] w fun e w' => e = .returned (.bool (decide (1000 ≤ n))) ∧ w = w' := by
  by_cases h1 : n = 1000
  · subst h1
    go_enter Try.func93, Try.ntmps93
    go_wp2
    go_ret
    exact ⟨rfl, rfl⟩
  · have d0 : (n == 1000) = false := by simp [h1]
    by_cases h2 : 1000 < n
    · have d1 : decide (1000 < n) = true := by simp [h2]
      go_enter Try.func93, Try.ntmps93
      go_wp2
      go_ret
      exact ⟨ret_bool (by simp; omega), rfl⟩
    · have d1 : decide (1000 < n) = false := by simp; omega
      go_enter Try.func93, Try.ntmps93
      go_wp2
      go_ret
      exact ⟨ret_bool (by simp; omega), rfl⟩
set_option maxRecDepth 100000 in
theorem implLeak_any (f : Lk) (w : World) : Calls Try.prog 70 #[lkV f] w fun e w' => e = .returned (.bool (lkB f)) ∧ Below w.heap.size w w' := by
  have HP : Hid (∀ n w, Calls Try.prog 39 #[.int .i64 n] w fun e w' => e = .returned (.bool (inPt n)) ∧ w = w') := isParty_any
  have HR : Hid (∀ w, Calls Try.prog 90 #[.agg #[.int .i64 f.a, .int .i64 f.l]] w fun e w' => e = .returned (.bool (rightB f.a f.l)) ∧ Below w.heap.size w w') := implRight_any f.a f.l
  have HW : Hid (∀ w, Calls Try.prog 92 #[.int .i64 f.tg] w fun e w' => e = .returned (.bool (inTag f.tg)) ∧ w = w') := isWordE_any f.tg
  have HG : Hid (∀ w, Calls Try.prog 93 #[.int .i64 f.tg] w fun e w' => e = .returned (.bool (decide (1000 ≤ f.tg))) ∧ w = w') := byRule_any f.tg
  have HL : Hid (inLt f.tg = (inTag f.tg && decide (1000 ≤ f.tg))) := by show _ = _; simp only [inLt, inTag, ← Bool.decide_and]; congr 1; apply propext; omega
  obtain ⟨fr, tt, a, l, ad, tg⟩ := f
  unfold lkV lkA lkB
  simp only at HR HW HG HL ⊢
  rw [HL.out]
  clear HL
  have q0 := Row.new w 76 [.int .i64 fr, .int .i64 tt, .int .i64 a, .int .i64 l, .int .i64 ad, .int .i64 tg]
  have HQ : Hid _ := And.intro q0 (ent_new0 w (.cells #[.int .i64 fr, .int .i64 tt, .int .i64 a, .int .i64 l, .int .i64 ad, .int .i64 tg] 76))
  clear q0
  generalize rightB a l = R at *
  generalize inTag tg = T at *
  generalize decide (1000 ≤ tg) = G at *
  go_enter Try.func70, Try.ntmps70
  go_wp2_with fail
  refine (HP.out _ _).mono ?_
  rintro e w1 ⟨rfl, rfl⟩
  cases h1 : inPt fr
  · go_wp2
    go_ret
    exact ⟨ret_bool (by simp [h1]), HQ.out.2⟩
  · go_wp2_with fail
    refine (HP.out _ _).mono ?_
    rintro e w1 ⟨rfl, rfl⟩
    cases h2 : inPt tt
    · go_wp2
      go_ret
      exact ⟨ret_bool (by simp [h1, h2]), HQ.out.2⟩
    · by_cases h3 : fr = tt
      · subst h3
        have d : (fr == fr) = true := by simp
        go_wp2
        go_ret
        exact ⟨ret_bool (by simp), HQ.out.2⟩
      · have d : (fr == tt) = false := by simp [h3]
        have d3 : decide (fr ≠ tt) = true := by simp [h3]
        go_wp2_with fail
        refine (HR.out _).mono ?_
        rintro e w1 ⟨rfl, hb1⟩
        obtain ⟨c0, c1, c2, c3, c4, c5, hB⟩ := box6 hb1
        clear hb1 HR HQ HP
        cases R
        · go_wp2
          go_ret
          exact ⟨ret_bool (by simp [h1, h2, h3]), hB⟩
        · by_cases k1 : 1 ≤ ad
          · by_cases k2 : ad ≤ 15
            · go_wp2_with fail
              refine (HW.out _).mono ?_
              rintro e w2 ⟨rfl, rfl⟩
              cases T
              · go_wp2
                go_ret
                exact ⟨ret_bool (by simp [h1, h2, h3]), hB⟩
              · go_wp2_with fail
                refine (HG.out _).mono ?_
                rintro e w2 ⟨rfl, rfl⟩
                go_wp2
                go_ret
                exact ⟨ret_bool (by simp [h1, h2, h3, inAd, k1, k2]), hB⟩
            · go_wp2
              go_ret
              exact ⟨ret_bool (by simp [inAd]; omega), hB⟩
          · go_wp2
            go_ret
            exact ⟨ret_bool (by simp [inAd]; omega), hB⟩
set_option maxRecDepth 100000 in
theorem specLeak_any (f : Lk) (w : World) : Calls Try.prog 68 #[lkV f] w fun e w' => e = .returned (.bool (lkB f)) ∧ Below w.heap.size w w' := by
  have HP : Hid (∀ n w, Calls Try.prog 29 #[.int .i64 n, .int .i64 0, .int .i64 2] w fun e w' => e = .returned (.bool (inPt n)) ∧ w = w') := fun n w => l03Is_any n 0 2 w
  have HR : Hid (∀ w, Calls Try.prog 83 #[.agg #[.int .i64 f.a, .int .i64 f.l]] w fun e w' => e = .returned (.bool (rightB f.a f.l)) ∧ Below w.heap.size w w') := specRight_any f.a f.l
  have HA : Hid (∀ w, Calls Try.prog 29 #[.int .i64 f.ad, .int .i64 1, .int .i64 15] w fun e w' => e = .returned (.bool (inAd f.ad)) ∧ w = w') := fun w => l03Is_any f.ad 1 15 w
  have HG : Hid (∀ w, Calls Try.prog 29 #[.int .i64 f.tg, .int .i64 1000, .int .i64 65535] w fun e w' => e = .returned (.bool (inLt f.tg)) ∧ w = w') := fun w => l03Is_any f.tg 1000 65535 w
  obtain ⟨fr, tt, a, l, ad, tg⟩ := f
  unfold lkV lkA lkB
  simp only at HR HA HG ⊢
  have q0 := Row.new w 76 [.int .i64 fr, .int .i64 tt, .int .i64 a, .int .i64 l, .int .i64 ad, .int .i64 tg]
  have HQ : Hid _ := And.intro q0 (ent_new0 w (.cells #[.int .i64 fr, .int .i64 tt, .int .i64 a, .int .i64 l, .int .i64 ad, .int .i64 tg] 76))
  clear q0
  generalize rightB a l = R at *
  generalize inAd ad = D at *
  generalize inLt tg = G at *
  go_enter Try.func68, Try.ntmps68
  go_wp2_with fail
  refine (HP.out _ _).mono ?_
  rintro e w1 ⟨rfl, rfl⟩
  cases h1 : inPt fr
  · go_wp2
    go_ret
    exact ⟨ret_bool (by simp [h1]), HQ.out.2⟩
  · go_wp2_with fail
    refine (HP.out _ _).mono ?_
    rintro e w1 ⟨rfl, rfl⟩
    cases h2 : inPt tt
    · go_wp2
      go_ret
      exact ⟨ret_bool (by simp [h1, h2]), HQ.out.2⟩
    · by_cases h3 : fr = tt
      · subst h3
        have d : (fr != fr) = false := by simp
        go_wp2
        go_ret
        exact ⟨ret_bool (by simp), HQ.out.2⟩
      · have d : (fr != tt) = true := by simp [h3]
        have d3 : decide (fr ≠ tt) = true := by simp [h3]
        go_wp2_with fail
        refine (HR.out _).mono ?_
        rintro e w1 ⟨rfl, hb1⟩
        obtain ⟨c0, c1, c2, c3, c4, c5, hB⟩ := box6 hb1
        clear hb1 HR HQ HP
        cases R
        · go_wp2
          go_ret
          exact ⟨ret_bool (by simp [h1, h2, h3]), hB⟩
        · go_wp2_with fail
          refine (HA.out _).mono ?_
          rintro e w2 ⟨rfl, rfl⟩
          cases D
          · go_wp2
            go_ret
            exact ⟨ret_bool (by simp [h1, h2, h3]), hB⟩
          · go_wp2_with fail
            refine (HG.out _).mono ?_
            rintro e w2 ⟨rfl, rfl⟩
            go_wp2
            go_ret
            exact ⟨ret_bool (by simp [h1, h2, h3]), hB⟩
end Go.Proofs.Ytpkjkjepmloddaa
