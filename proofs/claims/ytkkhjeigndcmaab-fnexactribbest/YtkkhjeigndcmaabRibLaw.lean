/- What the laws on tables have in common. -/
import Derived.Test.YtkkhjeigndcmaabToRib
import Derived.Test.YtkkhjeigndcmaabEqRts
import Derived.Test.YtkkhjeigndcmaabSteady
namespace Go.Proofs.Ytkkhjeigndcmaab
open Go.RowKit Go.Sort

theorem one_later {w1 w2 : World} {b : Nat} {x : Value} (h : w1.cell? ⟨b, 0, none⟩ = some x) (hb : Below w1.heap.size w1 w2) : w2.cell? ⟨b, 0, none⟩ = some x := by rw [hb.cell (World.block_lt_of_cell? w1 _ h)]; exact h
theorem stab_ribRow {N : Nat} {t : TypeId} (l : List Value) : ∀ (x : Value) (w1 w2 : World), (∃ g, x = .agg #[.slice (some ⟨g, 0, none⟩) N N] ∧ Row w1 g t l) → Below w1.heap.size w1 w2 → ∃ g, x = .agg #[.slice (some ⟨g, 0, none⟩) N N] ∧ Row w2 g t l := by
  rintro x w1 w2 ⟨g, e, h⟩ hb
  exact ⟨g, e, h.below hb h.lt⟩
end Go.Proofs.Ytkkhjeigndcmaab
