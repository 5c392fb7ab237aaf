/- Texts that stand on each other, in one file: ReadA. -/
import Derived.Test.YtialedffpaoacaaGreatDoorPack6
import Derived.Test.YtialedffpaoacaaGreatDoorPack5
/- What AddrRead answers. -/
namespace Go.Proofs.YtialedffpaoacaaGreatDoor

def numO (n a c : Int) : Value := .agg #[.int .i64 n, .int .i64 a, .int .i64 c]
def readA (s : ByteArray) : Int × Int := if 8000 < s.size then (0, 2) else match addrR s.data.toList with | some a => ((a : Int), 0) | none => (0, 3)
theorem readA_big {s : ByteArray} (h : 8000 < s.size) : readA s = (0, 2) := if_pos h
theorem readA_some {s : ByteArray} {a : Nat} (h : ¬ 8000 < s.size) (hr : addrR s.data.toList = some a) : readA s = ((a : Int), 0) := by unfold readA; rw [if_neg h, hr]
theorem readA_none {s : ByteArray} (h : ¬ 8000 < s.size) (hr : addrR s.data.toList = none) : readA s = (0, 3) := by unfold readA; rw [if_neg h, hr]
end Go.Proofs.YtialedffpaoacaaGreatDoor
