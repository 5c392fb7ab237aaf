/- Texts that stand on each other, in one file: DskM. -/
import Derived.Test.YtialedffpaoacaaGreatDoorPack36
import Derived.Test.YtialedffpaoacaaGreatDoorPack13
import Derived.Test.YtialedffpaoacaaGreatDoorPack30
/- The desk's own Box, in plain lists. (By hand.) -/
namespace Go.Proofs.YtialedffpaoacaaGreatDoor
open Go.RowKit Go.Sort
open Go.Lib (decDigits)

def dIs : List If := [⟨167772161, 167772160, 24, 1, false⟩, ⟨167772417, 167772416, 24, 1, false⟩]
def dTn (key : ByteArray) : Tn := ⟨(newO dIs).2.1, (newO dIs).2.2.1, (newO dIs).2.2.2, key, 4, [], [], 0⟩
def kRed : ByteArray := ⟨#[114, 101, 100]⟩
def kBlue : ByteArray := ⟨#[98, 108, 117, 101]⟩
def dTS : List Tn := [dTn kRed, dTn kBlue]
def dBS : List Bd := [⟨0, 10, 0, 0⟩, ⟨0, 11, 0, 1⟩, ⟨0, 20, 1, 0⟩, ⟨0, 21, 1, 1⟩]
theorem dNew1 : (newO dIs).2.1.length = 2 := by decide
theorem dNew2 : (newO dIs).2.2.1.length = 2 := by decide
theorem d_small : SmX dTS dBS [] := by
  have e1 := dNew1
  have e2 := dNew2
  have h1 : ∀ k, k.size ≤ 10 → TnS (dTn k) := fun k hk => ⟨by show (newO dIs).2.1.length ≤ _; omega, by show (newO dIs).2.2.1.length ≤ _; omega, by show ([] : List Sn).length ≤ _; simp, by show ([] : List Se).length ≤ _; simp, by show k.size ≤ _; omega, fun s hs => by cases hs⟩
  refine ⟨by decide, by decide, by simp, fun e he => ?_, ?_⟩
  · simp only [dTS, List.mem_cons, List.not_mem_nil, or_false] at he
    rcases he with rfl | rfl
    · exact h1 _ (by decide)
    · exact h1 _ (by decide)
  · have hz : ∀ k, szTn (dTn k) = 32 := fun k => by
      show 5 * (newO dIs).2.1.length + 9 * (newO dIs).2.2.1.length + 2 * ([] : List Sn).length + 2 * ([] : List Se).length + 4 = 32
      rw [e1, e2]
      rfl
    show kN 1 dTS 2 + 4 * 4 + 6 * 0 ≤ 100000000
    have : kN 1 dTS 2 = 1 + szTn (dTn kRed) + szTn (dTn kBlue) := rfl
    rw [this, hz, hz]
    decide
def tA : ByteArray := ⟨#[49, 48, 46, 48, 46, 48, 46, 49]⟩
def tB : ByteArray := ⟨#[49, 48, 46, 48, 46, 49, 46, 49]⟩
theorem readA_tA : readA tA = (167772161, 0) := readA_some (a := 167772161) (by decide) ((addrR_iff _ _).2 ⟨by decide, by
  unfold addrL
  simp [dec_small, dec_big, tA]⟩)
theorem readA_tB : readA tB = (167772417, 0) := readA_some (a := 167772417) (by decide) ((addrR_iff _ _).2 ⟨by decide, by
  unfold addrL
  simp [dec_small, dec_big, tB]⟩)
theorem net_tA : netA 167772161 24 = 167772160 ∧ netN 167772161 24 = 24 := by decide
theorem net_tB : netA 167772417 24 = 167772416 ∧ netN 167772417 24 = 24 := by decide
end Go.Proofs.YtialedffpaoacaaGreatDoor
