/- Texts that stand on each other, in one file: MeshW. -/
import Derived.Test.YtcnadobnihbldaaGreatPack19
import Derived.Test.YtcnadobnihbldaaGreatPack3
import Derived.Test.YtcnadobnihbldaaGreatPack27
/- What every walk over a Mesh needs. (Written by gen_mesha.py.) -/
namespace Go.Proofs.YtcnadobnihbldaaGreat
open Go.RowKit Go.Sort

theorem IvS.m {t : Iv} (h : IvS t) : t.is.length ≤ 100000000 ∧ t.rs.length ≤ 100000000 := by
  unfold IvS at h
  omega
/-- The value is a Mesh that was handed over. -/
def HandedM (ps : List IvP) (ls : List Li) (n1 n2 : Nat) (v : Value) (W : World) : Prop := ∃ (g : Nat) (qs : List IvP) (h : Nat), v = .agg #[.slice (some ⟨g, 0, none⟩) n1 n1, .slice (some ⟨h, 0, none⟩) n2 n2] ∧ qs.map (·.2) = ps.map (·.2) ∧ Row W g 61 (rowIv qs) ∧ (∀ e ∈ qs, PlIv W (g + 1) e.1 e.2) ∧ Row W h 56 (rowLi ls)
theorem stab_mesh (ps : List IvP) (ls : List Li) (n1 n2 : Nat) : ∀ (v : Value) (w1 w2 : World), HandedM ps ls n1 n2 v w1 → Below w1.heap.size w1 w2 → HandedM ps ls n1 n2 v w2 := by
  rintro v w1 w2 ⟨g, qs, h, e, em, a, b, c⟩ hb
  exact ⟨g, qs, h, e, em, a.below hb a.lt, fun x hx => (b x hx).below hb, c.below hb c.lt⟩
end Go.Proofs.YtcnadobnihbldaaGreat
