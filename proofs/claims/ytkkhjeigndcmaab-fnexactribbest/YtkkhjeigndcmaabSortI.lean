/- The order of nets, as the program's sort asks for it. -/
import Derived.Test.YtkkhjeigndcmaabLessI
import Derived.Test.YtkkhjeigndcmaabRowV
import Derived.Lib.QuietBelow
import Derived.BigQuiet
namespace Go.Proofs.Ytkkhjeigndcmaab
open Go.RowKit Go.Sort

/-- What netOrder tells of two nets. -/
def cmpN (x y : Int × Int) : Int := if lessB x.1 x.2 y.1 y.2 = true then -1 else if lessB y.1 y.2 x.1 x.2 = true then 1 else 0
def pairV (x : Int × Int) : Value := .agg #[.int .i64 x.1, .int .i64 x.2]
set_option maxRecDepth 100000 in
theorem netOrder_any (a l b m : Int) (w : World) : Calls Try.prog 67 #[.agg #[.int .i64 a, .int .i64 l], .agg #[.int .i64 b, .int .i64 m]] w fun e w' => e = .returned (.int .i64 (cmpN (a, l) (b, m))) ∧ Below w.heap.size w w' := by
  have H1 : Hid (∀ w, Calls Try.prog 66 #[.agg #[.int .i64 a, .int .i64 l], .agg #[.int .i64 b, .int .i64 m]] w fun e w' => e = .returned (.bool (lessB a l b m)) ∧ Below w.heap.size w w') := implLess_any a l b m
  have H2 : Hid (∀ w, Calls Try.prog 66 #[.agg #[.int .i64 b, .int .i64 m], .agg #[.int .i64 a, .int .i64 l]] w fun e w' => e = .returned (.bool (lessB b m a l)) ∧ Below w.heap.size w w') := implLess_any b m a l
  have HC : Hid (cmpN (a, l) (b, m) = if lessB a l b m = true then -1 else if lessB b m a l = true then 1 else 0) := rfl
  generalize cmpN (a, l) (b, m) = R at *
  generalize lessB a l b m = X at *
  generalize lessB b m a l = Y at *
  go_enter Try.func67, Try.ntmps67
  go_wp2_with fail
  refine (H1.out _).mono ?_
  rintro e w1 ⟨rfl, hb1⟩
  obtain ⟨c0, c1, c2, c3, hs1, hB1⟩ := four_later hb1
  clear hb1 H1
  cases X
  · go_wp2_with fail
    refine (H2.out _).mono ?_
    rintro e w2 ⟨rfl, hb2⟩
    have hB2 := hB1.trans (hb2.mono hB1.size)
    clear c0 c1 c2 c3 hb2
    cases Y
    · have HR : Hid (R = 0) := HC.out
      clear HC
      go_wp2
      go_ret
      exact ⟨by rw [HR.out]; rfl, hB2⟩
    · have HR : Hid (R = 1) := HC.out
      clear HC
      go_wp2
      go_ret
      exact ⟨by rw [HR.out]; rfl, hB2⟩
  · have HR : Hid (R = -1) := HC.out
    clear HC
    go_wp2
    go_ret
    exact ⟨by rw [HR.out]; rfl, hB1⟩
end Go.Proofs.Ytkkhjeigndcmaab
