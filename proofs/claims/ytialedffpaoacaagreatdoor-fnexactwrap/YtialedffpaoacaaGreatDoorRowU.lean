/- Rows of words (and of numbers) that a call makes itself. -/
import Derived.Test.YtialedffpaoacaaGreatDoorOneRound
import Derived.Test.YtialedffpaoacaaGreatDoorRowV
import Derived.Deep.RegionHeld3
import Derived.BigRegion
namespace Go.Proofs.YtialedffpaoacaaGreatDoor
open Go.RowKit

def valU (x : Nat) : Value := .int .u32 (x : Int)
def valsU (l : List Nat) : List Value := l.map valU
theorem valsU_length (l : List Nat) : (valsU l).length = l.length := by simp [valsU]
theorem valsU_set (l : List Nat) (k x : Nat) : (valsU l).set k (.int .u32 (x : Int)) = valsU (l.set k x) := by
  simp only [valsU, List.map_set]; rfl
theorem valsU_get (l : List Nat) (k : Nat) (h : k < l.length) : (valsU l)[k]? = some (.int .u32 ((l.getD k 0 : Nat) : Int)) := by
  simp [valsU, valU, h]
theorem valsU_one (l : List Nat) : ∀ v ∈ valsU l, v.oneCell' = true := by
  intro v hv
  simp only [valsU, List.mem_map] at hv
  obtain ⟨b, _, rfl⟩ := hv
  rfl
theorem fill_set (l : List Nat) (k x : Nat) (hl : l.length = k) (hk : k < 64) : (l ++ List.replicate (64 - k) 0).set k x = (l ++ [x]) ++ List.replicate (64 - (k + 1)) 0 := by
  have e : 64 - k = (64 - (k + 1)) + 1 := by omega
  rw [e, List.replicate_succ, List.set_append, if_neg (by omega), hl, Nat.sub_self, List.set_cons_zero]
  simp
theorem fill_get (l : List Nat) (k j : Nat) (hl : l.length = k) (hj : j < k) : (l ++ List.replicate (64 - k) 0).getD j 0 = l.getD j 0 := by
  simp [List.getElem?_append_left (show j < l.length by omega)]
end Go.Proofs.YtialedffpaoacaaGreatDoor
