/- Texts that stand on each other, in one file: WorkO. -/
import Derived.Test.YtialedffpaoacaaGreatDoorPack25
import Derived.Test.YtialedffpaoacaaGreatDoorPack34
/- A router at work: its table has a net of its own more. (Written by gen_insti.py.) -/
namespace Go.Proofs.YtialedffpaoacaaGreatDoor
open Go.RowKit Go.Sort

theorem ownW_any (base : Nat) (is : List If) (rs : List Rt) (now : Int) (g : Nat) (a b i : Int) (w : World) (h : AtW base is rs now g w) (hn : rs.length ≤ 100000000) :
    Calls Tryz.prog 167 #[.pointer (some ⟨g, 0, none⟩), .agg #[.int .i64 a, .int .i64 b], .int .i64 i] w fun e w' => e = .returned (.int .i64 (ownO rs a b i).1) ∧ AtW base is (if (ownO rs a b i).1 = 0 then (ownO rs a b i).2 else rs) now g w' ∧ Below base w w' := by
  obtain ⟨q1, k1, q2, k2, hg, hr, oi, orr⟩ := h
  exact (ownAt_any g 0 _ _ q2 k2 rs a b i w hr rfl (ownsR_in rfl orr) hn).mono fun e w' ⟨he, ht⟩ => ⟨he, atW_took hg hr oi orr ht⟩
end Go.Proofs.YtialedffpaoacaaGreatDoor
