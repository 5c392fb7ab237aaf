/- What the laws on Rips have in common. -/
import Derived.Test.YtehiipddbgoajaaToRip
import Derived.Test.YtehiipddbgoajaaEqEnts
import Derived.Test.YtehiipddbgoajaaStabW
namespace Go.Proofs.Ytehiipddbgoajaa
open Go.RowKit Go.Sort

theorem entsIn_row {w : World} {g : Nat} {t : TypeId} {es : List Ent} (h : Row w g t (rowE es)) : EntsIn w (some ⟨g, 0, none⟩) es := .inr ⟨g, rfl, h.lt, fun j _ hj => (h.cell j).trans hj⟩
theorem two_after {w1 w2 : World} {b : Nat} {x y : Value} (h : w1.cell? ⟨b, 0, none⟩ = some x ∧ w1.cell? ⟨b, 1, none⟩ = some y) (hb : Below w1.heap.size w1 w2) : w2.cell? ⟨b, 0, none⟩ = some x ∧ w2.cell? ⟨b, 1, none⟩ = some y := two_later h.1 h.2 hb
theorem stab_ripRow {c : Int} {N : Nat} {t : TypeId} (l : List Value) : ∀ (x : Value) (w1 w2 : World), (∃ g, x = .agg #[.int .i64 c, .slice (some ⟨g, 0, none⟩) N N] ∧ Row w1 g t l) → Below w1.heap.size w1 w2 → ∃ g, x = .agg #[.int .i64 c, .slice (some ⟨g, 0, none⟩) N N] ∧ Row w2 g t l := by
  rintro x w1 w2 ⟨g, e, h⟩ hb
  exact ⟨g, e, h.below hb h.lt⟩
end Go.Proofs.Ytehiipddbgoajaa
