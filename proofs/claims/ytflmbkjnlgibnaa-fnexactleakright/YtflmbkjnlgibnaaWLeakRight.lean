/- The walk of the law on LeakRight. (Written by gen_lk.py.) -/
import Derived.Test.YtflmbkjnlgibnaaToLk
import Derived.Test.YtflmbkjnlgibnaaOpenLk
namespace Go.Proofs.Ytflmbkjnlgibnaa
open Go.RowKit Go.Sort

set_option maxRecDepth 100000 in
theorem fnExactLeakRight_walk (r : Lk) (w : World) (_he : LkW r) :
    Calls Try.prog 7 #[lkV r] w fun e w' => e = .returned (.bool true) ∧ Below w.heap.size w w' := by
  have HT : Hid (∀ w, Calls Try.prog 32 #[lkV r] w fun e w' => e = .returned (lkV r) ∧ Below w.heap.size w w') := toLeak_any r
  have HS : Hid (∀ w, Calls Try.prog 31 #[lkV r] w fun e w' => e = .returned (.bool (lkB r)) ∧ Below w.heap.size w w') := specLeak_any r
  have HI : Hid (∀ w, Calls Try.prog 33 #[lkV r] w fun e w' => e = .returned (.bool (lkB r)) ∧ Below w.heap.size w w') := implLeak_any r
  obtain ⟨fr, tt, a, l, ad, tg⟩ := r
  generalize lkB ⟨fr, tt, a, l, ad, tg⟩ = B at *
  unfold lkV lkA at *
  simp only at HT HS HI
  go_enter Try.func7, Try.ntmps7
  go_wp2_with fail
  refine (HT.out _).mono ?_
  rintro e w1 ⟨rfl, hb1⟩
  go_wp2_with fail
  refine (HS.out _).mono ?_
  rintro e w2 ⟨rfl, hb2⟩
  have hb12 := hb1.trans (hb2.mono hb1.size)
  obtain ⟨c0, c1, c2, c3, c4, c5, hB2⟩ := box6 hb12
  clear hb1 hb2 hb12
  go_wp2_with fail
  refine (HT.out _).mono ?_
  rintro e w3 ⟨rfl, hb3⟩
  have hB3 := hB2.trans (hb3.mono hB2.size)
  clear hb3 hB2 c0 c1 c2 c3 c4 c5
  go_wp2_with fail
  refine (HI.out _).mono ?_
  rintro e w4 ⟨rfl, hb4⟩
  have hB4 := hB3.trans (hb4.mono hB3.size)
  clear hb4 hB3
  cases B
  · go_wp2
    go_ret
    exact ⟨rfl, hB4⟩
  · go_wp2
    go_ret
    exact ⟨rfl, hB4⟩
end Go.Proofs.Ytflmbkjnlgibnaa
