/- The laws' own look: a TextOut is as itself. -/
import Derived.Test.YtflgiohhkoplaaeUnseal
namespace Go.Proofs.Ytflgiohhkoplaae
open Go.RowKit

theorem unsealV_form (t : ByteArray) : ∃ x a c, unsealV t = textOut x a c := by
  unfold unsealV
  split
  · exact ⟨_, _, _, rfl⟩
  · split
    · exact ⟨_, _, _, rfl⟩
    · split <;> exact ⟨_, _, _, rfl⟩
set_option maxRecDepth 100000 in
theorem eqText_same (x : ByteArray) (a c : Int) (w : World) :
    Calls Try.prog 12 #[textOut x a c, textOut x a c] w fun e w' => e = .returned (.bool true) ∧ Below w.heap.size w w' := by
  have h1 : (a != a) = false := by simp
  have h2 : (c != c) = false := by simp
  unfold textOut
  go_enter Try.func12, Try.ntmps12
  go_wp2
  go_ret
  exact ⟨rfl, ((Below.refl _ _).alloc (Nat.le_refl _) _).alloc (by simp) _⟩
end Go.Proofs.Ytflgiohhkoplaae
