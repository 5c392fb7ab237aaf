/- An Inst handed over is kept. (Written by gen_near2.py.) -/
import Derived.Test.YtflmbkjnlgibnaaInstR
import Derived.Test.YtflmbkjnlgibnaaSteady
namespace Go.Proofs.Ytflmbkjnlgibnaa
open Go.RowKit Go.Sort

theorem stab_inst (n1 n2 : Nat) (now : Int) (is : List If) (rs : List Rt) : ∀ (v : Value) (w1 w2 : World), (∃ g h, v = .agg #[.slice (some ⟨g, 0, none⟩) n1 n1, .slice (some ⟨h, 0, none⟩) n2 n2, .int .i64 now] ∧ Row w1 g 82 (rowI is) ∧ Row w1 h 101 (rowR rs)) → Below w1.heap.size w1 w2 → ∃ g h, v = .agg #[.slice (some ⟨g, 0, none⟩) n1 n1, .slice (some ⟨h, 0, none⟩) n2 n2, .int .i64 now] ∧ Row w2 g 82 (rowI is) ∧ Row w2 h 101 (rowR rs) := by
  rintro v w1 w2 ⟨g, h, e, a, b⟩ hb
  exact ⟨g, h, e, a.below hb a.lt, b.below hb b.lt⟩
end Go.Proofs.Ytflmbkjnlgibnaa
