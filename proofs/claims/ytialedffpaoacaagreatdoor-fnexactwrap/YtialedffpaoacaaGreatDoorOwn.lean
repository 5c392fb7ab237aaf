/- Rows that a call makes by appending, of whatever one-cell values. -/
import Derived.Test.YtialedffpaoacaaGreatDoorRowU
import Derived.Test.YtialedffpaoacaaGreatDoorOwnV
namespace Go.Proofs.YtialedffpaoacaaGreatDoor
open Go.RowKit

/-- What 'string(v)' gives of an owned row of bytes. -/
theorem Own.text {P : Program} {w : World} {base : Nat} {e : TypeId} {v : Value} {l : List UInt8} (h : Own w base e v (cellsB l)) (hl : l ≠ []) (src dst : TypeId) (hs : P.underlying src = some (.slice e)) (he : P.underlying e = some (.int .u8)) (hd : P.underlying dst = some .string) :
    (convert src dst v).run P w = .ok (.string ⟨l.toArray⟩) w := by
  have h' : OwnB w base e v l := by unfold OwnB; unfold Own at h; rwa [cellsB_length] at h
  exact (h'.text hl src dst hs he hd).2
theorem be4_cells (x : Nat) (hx : x < 4294967296) : cellsB (be4 x) = [.int .u8 ((x : Int) / 16777216), .int .u8 ((x : Int) / 65536 % 256), .int .u8 ((x : Int) / 256 % 256), .int .u8 ((x : Int) % 256)] := by
  have e0 : ((UInt8.ofNat (x / 16777216 % 256)).toNat : Int) = (x : Int) / 16777216 := by rw [UInt8.toNat_ofNat', Nat.mod_mod]; omega
  have e1 : ((UInt8.ofNat (x / 65536 % 256)).toNat : Int) = (x : Int) / 65536 % 256 := by rw [UInt8.toNat_ofNat', Nat.mod_mod]; omega
  have e2 : ((UInt8.ofNat (x / 256 % 256)).toNat : Int) = (x : Int) / 256 % 256 := by rw [UInt8.toNat_ofNat', Nat.mod_mod]; omega
  have e3 : ((UInt8.ofNat (x % 256)).toNat : Int) = (x : Int) % 256 := by rw [UInt8.toNat_ofNat', Nat.mod_mod]; omega
  simp only [be4, cellsB, List.map_cons, List.map_nil, e0, e1, e2, e3]
end Go.Proofs.YtialedffpaoacaaGreatDoor
