/- What NetRead answers. -/
import Derived.Test.YtchgnjpbjnkdmaaDoorAddrTxt
import Derived.Test.YtchgnjpbjnkdmaaDoorBase
namespace Go.Proofs.YtchgnjpbjnkdmaaDoor

def netO (a n c : Int) : Value := .agg #[.int .i64 a, .int .i64 n, .int .i64 c]
def readN (s : ByteArray) : (Int × Int) × Int := if 8000 < s.size then ((0, 0), 2) else match netR s.data.toList with | some an => (((an.1 : Int), (an.2 : Int)), 0) | none => ((0, 0), 3)
theorem readN_big {s : ByteArray} (h : 8000 < s.size) : readN s = ((0, 0), 2) := if_pos h
theorem readN_some {s : ByteArray} {a n : Nat} (h : ¬ 8000 < s.size) (hr : netR s.data.toList = some (a, n)) : readN s = (((a : Int), (n : Int)), 0) := by unfold readN; rw [if_neg h, hr]
theorem readN_none {s : ByteArray} (h : ¬ 8000 < s.size) (hr : netR s.data.toList = none) : readN s = ((0, 0), 3) := by unfold readN; rw [if_neg h, hr]
end Go.Proofs.YtchgnjpbjnkdmaaDoor
