/- Texts that stand on each other, in one file: StabW. -/
import Derived.Test.YtialedffpaoacaaGreatDoorPack3
import Derived.Test.YtialedffpaoacaaGreatDoorOwnV
import Derived.Test.YtialedffpaoacaaGreatDoorBaseB
/- Conditions that bear blocks laid behind; what text an owned row gives. -/
namespace Go.Proofs.YtialedffpaoacaaGreatDoor
open Go.RowKit

theorem stab_rowB (n : Nat) (l : List UInt8) : ∀ (x : Value) (w1 w2 : World), (∃ g, x = .slice (some ⟨g, 0, none⟩) n n ∧ RowB w1 g 5 l) → Below w1.heap.size w1 w2 → ∃ g, x = .slice (some ⟨g, 0, none⟩) n n ∧ RowB w2 g 5 l := by
  rintro x w1 w2 ⟨g, hx, hr⟩ hb
  exact ⟨g, hx, by unfold RowB at *; rw [hb.block g (Array.getElem?_eq_some_iff.1 hr).1]; exact hr⟩
theorem stab_row (n : Nat) (l : List Value) : ∀ (x : Value) (w1 w2 : World), (∃ g, x = .slice (some ⟨g, 0, none⟩) n n ∧ Row w1 g 2 l) → Below w1.heap.size w1 w2 → ∃ g, x = .slice (some ⟨g, 0, none⟩) n n ∧ Row w2 g 2 l := by
  rintro x w1 w2 ⟨g, hx, hr⟩ hb
  exact ⟨g, hx, hr.below hb hr.lt⟩
theorem stab_own (base : Nat) (l : List Value) : ∀ (x : Value) (w1 w2 : World), Own w1 base 5 x l → Below w1.heap.size w1 w2 → Own w2 base 5 x l := fun _ _ _ h hb => h.below hb
theorem stab_ptr (B : Nat) {t : TypeId} (l : List Value) : ∀ (x : Value) (w1 w2 : World), (∃ g, x = .pointer (some ⟨g, 0, none⟩) ∧ B < g ∧ Row w1 g t l) → Below w1.heap.size w1 w2 → ∃ g, x = .pointer (some ⟨g, 0, none⟩) ∧ B < g ∧ Row w2 g t l := by
  rintro x w1 w2 ⟨g, hx, hg, hr⟩ hb
  exact ⟨g, hx, hg, hr.below hb hr.lt⟩
theorem own_conv {w : World} {base : Nat} {v : Value} {l : List UInt8} {t : ByteArray} (h : Own w base 5 v (cellsB l)) (hl : l ≠ []) (ht : (⟨l.toArray⟩ : ByteArray) = t) :
    (convert 150 9 v).run Tryz.prog w = .ok (.string t) w := by
  have h' : OwnB w base 5 v l := by unfold OwnB; unfold Own at h; rwa [cellsB_length] at h
  rw [← ht]
  exact (h'.text hl 150 9 Tryz.underlying150 Tryz.underlying5 Tryz.underlying9).2
end Go.Proofs.YtialedffpaoacaaGreatDoor
