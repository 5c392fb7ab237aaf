/-
  No cell of these rows narrows 'for every input' (looked for: loops, veiled, ifaces, maps, wideKeys, modest, calm, conditions, laid).
  DERIVED. THE GIVEN ROWS OF THIS SEAT. 5 by the template 'for every input the law returns true; each argument reads behind the call as it read before'; 0 by the template 'total and deterministic' (their statements: YtchgnjpbjnkdmaaTotals.lean).
  GIVEN WITH THE SEED: the statements are not yours to turn. If you find one false, say at which input.
  Laid BY PROGRAM, IN A SANDBOX (cutbox-rows.mjs): the forced cells as the released guide's own fill.sh prints them over the translation c4299145fb4d23bb… (all of the seat's roots in one cut). By AI agents, Wed Nov 11 2026. No macro, syntax, notation, axiom, sorry.
-/
import Derived.Test.YtchgnjpbjnkdmaaChecked
import GoSem.Claim
import GoSem.ClaimJoined
import GoSem.ClaimMapViews
import Derived.JoinedTies
import Derived.KernelRfl
namespace Go.Proofs.Ytchgnjpbjnkdmaa
/- THE CELL 'sum', in the pinned program and in every row, IS THE sha256 OF THE DUMP (.gsa) THAT YtchgnjpbjnkdmaaProg.lean LOADS. Nothing in Lean hashes anything: it is a label: what it is worth is what the hold of that sum in a sandbox is worth. -/
noncomputable def Try.pinned : Pinned := { name := "ytchgnjpbjnkdmaa", sum := "c4299145fb4d23bbd9e61f0b74660af2674fc8ad3faa994d005847eb47d1d032", checked := Try.checked }
namespace Rows
def none {H : Type} : Left H := { results := [], args := [] }

/-- 'laws.FnNets': WHATEVER THE INPUT: true; the input reads as it did. -/
def fnNetsSpec : ChangeSpec := { name := "fnNets", fn := fun _ => fun
  | [d1, d2] => { results := [.lit (.bool true)], args := [d1, d2] }
  | _ => none }
def fnNetsRow : OpenClaim := { program := "ytchgnjpbjnkdmaa", sum := "c4299145fb4d23bbd9e61f0b74660af2674fc8ad3faa994d005847eb47d1d032", func := "loop.example/g00634/laws.FnNets", spec := "fnNets", apart := false }
def FnNetsSaid : Prop := fnNetsRow.holds Try.pinned (OpenSpec.ofChange fnNetsSpec)

/-- ITS FALSE NEIGHBOUR: 'it returns false'. Refute it at one input. -/
def fnNetsWrong : ChangeSpec := { name := "fnNets", fn := fun _ => fun
  | [d1, d2] => { results := [.lit (.bool false)], args := [d1, d2] }
  | _ => none }
def FnNetsWrongFalsely : Prop := fnNetsRow.holds Try.pinned (OpenSpec.ofChange fnNetsWrong)

/-- 'laws.FnDgram': WHATEVER THE INPUT: true; the input reads as it did. -/
def fnDgramSpec : ChangeSpec := { name := "fnDgram", fn := fun _ => fun
  | [d1, d2] => { results := [.lit (.bool true)], args := [d1, d2] }
  | _ => none }
def fnDgramRow : OpenClaim := { program := "ytchgnjpbjnkdmaa", sum := "c4299145fb4d23bbd9e61f0b74660af2674fc8ad3faa994d005847eb47d1d032", func := "loop.example/g00634/laws.FnDgram", spec := "fnDgram", apart := false }
def FnDgramSaid : Prop := fnDgramRow.holds Try.pinned (OpenSpec.ofChange fnDgramSpec)

/-- ITS FALSE NEIGHBOUR: 'it returns false'. Refute it at one input. -/
def fnDgramWrong : ChangeSpec := { name := "fnDgram", fn := fun _ => fun
  | [d1, d2] => { results := [.lit (.bool false)], args := [d1, d2] }
  | _ => none }
def FnDgramWrongFalsely : Prop := fnDgramRow.holds Try.pinned (OpenSpec.ofChange fnDgramWrong)

/-- 'laws.FnExactSum16': WHATEVER THE INPUT: true; the input reads as it did. -/
def fnExactSum16Spec : ChangeSpec := { name := "fnExactSum16", fn := fun _ => fun
  | [d] => { results := [.lit (.bool true)], args := [d] }
  | _ => none }
def fnExactSum16Row : OpenClaim := { program := "ytchgnjpbjnkdmaa", sum := "c4299145fb4d23bbd9e61f0b74660af2674fc8ad3faa994d005847eb47d1d032", func := "loop.example/g00634/laws.FnExactSum16", spec := "fnExactSum16", apart := false }
def FnExactSum16Said : Prop := fnExactSum16Row.holds Try.pinned (OpenSpec.ofChange fnExactSum16Spec)

/-- ITS FALSE NEIGHBOUR: 'it returns false'. Refute it at one input. -/
def fnExactSum16Wrong : ChangeSpec := { name := "fnExactSum16", fn := fun _ => fun
  | [d] => { results := [.lit (.bool false)], args := [d] }
  | _ => none }
def FnExactSum16WrongFalsely : Prop := fnExactSum16Row.holds Try.pinned (OpenSpec.ofChange fnExactSum16Wrong)

/-- 'laws.FnExactDgramRight': WHATEVER THE INPUT: true; the input reads as it did. -/
def fnExactDgramRightSpec : ChangeSpec := { name := "fnExactDgramRight", fn := fun _ => fun
  | [d] => { results := [.lit (.bool true)], args := [d] }
  | _ => none }
def fnExactDgramRightRow : OpenClaim := { program := "ytchgnjpbjnkdmaa", sum := "c4299145fb4d23bbd9e61f0b74660af2674fc8ad3faa994d005847eb47d1d032", func := "loop.example/g00634/laws.FnExactDgramRight", spec := "fnExactDgramRight", apart := false }
def FnExactDgramRightSaid : Prop := fnExactDgramRightRow.holds Try.pinned (OpenSpec.ofChange fnExactDgramRightSpec)

/-- ITS FALSE NEIGHBOUR: 'it returns false'. Refute it at one input. -/
def fnExactDgramRightWrong : ChangeSpec := { name := "fnExactDgramRight", fn := fun _ => fun
  | [d] => { results := [.lit (.bool false)], args := [d] }
  | _ => none }
def FnExactDgramRightWrongFalsely : Prop := fnExactDgramRightRow.holds Try.pinned (OpenSpec.ofChange fnExactDgramRightWrong)

/-- 'laws.FnExactDgramBytes': WHATEVER THE INPUT: true; the input reads as it did. -/
def fnExactDgramBytesSpec : ChangeSpec := { name := "fnExactDgramBytes", fn := fun _ => fun
  | [d] => { results := [.lit (.bool true)], args := [d] }
  | _ => none }
def fnExactDgramBytesRow : OpenClaim := { program := "ytchgnjpbjnkdmaa", sum := "c4299145fb4d23bbd9e61f0b74660af2674fc8ad3faa994d005847eb47d1d032", func := "loop.example/g00634/laws.FnExactDgramBytes", spec := "fnExactDgramBytes", apart := false }
def FnExactDgramBytesSaid : Prop := fnExactDgramBytesRow.holds Try.pinned (OpenSpec.ofChange fnExactDgramBytesSpec)

/-- ITS FALSE NEIGHBOUR: 'it returns false'. Refute it at one input. -/
def fnExactDgramBytesWrong : ChangeSpec := { name := "fnExactDgramBytes", fn := fun _ => fun
  | [d] => { results := [.lit (.bool false)], args := [d] }
  | _ => none }
def FnExactDgramBytesWrongFalsely : Prop := fnExactDgramBytesRow.holds Try.pinned (OpenSpec.ofChange fnExactDgramBytesWrong)

/- THE SECOND FORM. 'bulk': how many values and letters a reading holds, each counted each time it is reached (what is shared counts as often as it is met; a slice's spare places count too). A statement '..UptoSaid' is the law's where the arguments, and the package variables that the reading takes, are together of bulk at most 1048576: NARROWER than '..Said'. Prove '..Said' where nothing that the law and all that it calls make is longer than what came in: it says more and counts as full. Else prove '..UptoSaid'. A law counts once. -/
mutual
def uptoBulk {H : Type} : DataW H → Nat
  | .lit (.string bytes) => bytes.length + 1
  | .lit _ => 1
  | .nil => 1
  | .ptr d => uptoBulk d + 1
  | .slice elems spare => uptoBulkAll elems + uptoBulkAll spare + 1
  | .agg parts => uptoBulkAll parts + 1
  | .iface _ d => uptoBulk d + 1
  | .map entries => uptoBulkEntries entries + 1
  | .held _ => 1
def uptoBulkAll {H : Type} : List (DataW H) → Nat
  | [] => 0
  | d :: r => uptoBulk d + uptoBulkAll r
def uptoBulkEntries {H : Type} : List (Lit × DataW H) → Nat
  | [] => 0
  | x :: r => uptoBulkEntry x + uptoBulkEntries r
def uptoBulkEntry {H : Type} : Lit × DataW H → Nat
  | (.string bytes, d) => bytes.length + uptoBulk d + 1
  | (_, d) => uptoBulk d + 1
 end
def uptoSmall : (H : Type) → List (DataW H) → Bool := fun _ ds => decide (uptoBulkAll ds ≤ 1048576)
def OpenSpec.upto (s : _root_.Go.ChangeSpec) : _root_.Go.OpenSpec := { _root_.Go.OpenSpec.ofChange s with cond := some uptoSmall }

/-- 'laws.FnNets', WHERE WHAT IT READS IS OF BULK AT MOST 1048576: true; the input reads as it did. -/
def fnNetsUptoRow : OpenClaim := { program := "ytchgnjpbjnkdmaa", sum := "c4299145fb4d23bbd9e61f0b74660af2674fc8ad3faa994d005847eb47d1d032", func := "loop.example/g00634/laws.FnNets", spec := "fnNets", apart := false, narrowed := true }
def FnNetsUptoSaid : Prop := fnNetsUptoRow.holds Try.pinned (OpenSpec.upto fnNetsSpec)

/-- 'laws.FnDgram', WHERE WHAT IT READS IS OF BULK AT MOST 1048576: true; the input reads as it did. -/
def fnDgramUptoRow : OpenClaim := { program := "ytchgnjpbjnkdmaa", sum := "c4299145fb4d23bbd9e61f0b74660af2674fc8ad3faa994d005847eb47d1d032", func := "loop.example/g00634/laws.FnDgram", spec := "fnDgram", apart := false, narrowed := true }
def FnDgramUptoSaid : Prop := fnDgramUptoRow.holds Try.pinned (OpenSpec.upto fnDgramSpec)

/-- 'laws.FnExactSum16', WHERE WHAT IT READS IS OF BULK AT MOST 1048576: true; the input reads as it did. -/
def fnExactSum16UptoRow : OpenClaim := { program := "ytchgnjpbjnkdmaa", sum := "c4299145fb4d23bbd9e61f0b74660af2674fc8ad3faa994d005847eb47d1d032", func := "loop.example/g00634/laws.FnExactSum16", spec := "fnExactSum16", apart := false, narrowed := true }
def FnExactSum16UptoSaid : Prop := fnExactSum16UptoRow.holds Try.pinned (OpenSpec.upto fnExactSum16Spec)

/-- 'laws.FnExactDgramRight', WHERE WHAT IT READS IS OF BULK AT MOST 1048576: true; the input reads as it did. -/
def fnExactDgramRightUptoRow : OpenClaim := { program := "ytchgnjpbjnkdmaa", sum := "c4299145fb4d23bbd9e61f0b74660af2674fc8ad3faa994d005847eb47d1d032", func := "loop.example/g00634/laws.FnExactDgramRight", spec := "fnExactDgramRight", apart := false, narrowed := true }
def FnExactDgramRightUptoSaid : Prop := fnExactDgramRightUptoRow.holds Try.pinned (OpenSpec.upto fnExactDgramRightSpec)

/-- 'laws.FnExactDgramBytes', WHERE WHAT IT READS IS OF BULK AT MOST 1048576: true; the input reads as it did. -/
def fnExactDgramBytesUptoRow : OpenClaim := { program := "ytchgnjpbjnkdmaa", sum := "c4299145fb4d23bbd9e61f0b74660af2674fc8ad3faa994d005847eb47d1d032", func := "loop.example/g00634/laws.FnExactDgramBytes", spec := "fnExactDgramBytes", apart := false, narrowed := true }
def FnExactDgramBytesUptoSaid : Prop := fnExactDgramBytesUptoRow.holds Try.pinned (OpenSpec.upto fnExactDgramBytesSpec)

end Rows
end Go.Proofs.Ytchgnjpbjnkdmaa
