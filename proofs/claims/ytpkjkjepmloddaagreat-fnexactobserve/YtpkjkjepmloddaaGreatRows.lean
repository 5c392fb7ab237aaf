/-
  No cell of these rows narrows 'for every input' (looked for: loops, veiled, ifaces, maps, wideKeys, modest, calm, conditions, laid).
  DERIVED. THE GIVEN ROWS OF THIS SEAT. 3 by the template 'for every input the law returns true; each argument reads behind the call as it read before'; 0 by the template 'total and deterministic' (their statements: YtpkjkjepmloddaaGreatTotals.lean).
  GIVEN WITH THE SEED: the statements are not yours to turn. If you find one false, say at which input.
  Laid BY PROGRAM, IN A SANDBOX (cutbox-rows.mjs): the forced cells as the released guide's own fill.sh prints them over the translation 39b147fa49b670e3… (all of the seat's roots in one cut). By AI agents, Wed Nov 11 2026. No macro, syntax, notation, axiom, sorry.
-/
import Derived.Test.YtpkjkjepmloddaaGreatChecked
import GoSem.Claim
import GoSem.ClaimJoined
import GoSem.ClaimMapViews
import Derived.JoinedTies
import Derived.KernelRfl
namespace Go.Proofs.YtpkjkjepmloddaaGreat
/- THE CELL 'sum', in the pinned program and in every row, IS THE sha256 OF THE DUMP (.gsa) THAT YtpkjkjepmloddaaGreatProg.lean LOADS. Nothing in Lean hashes anything: it is a label: what it is worth is what the hold of that sum in a sandbox is worth. -/
noncomputable def Tryz.pinned : Pinned := { name := "ytpkjkjepmloddaagreat", sum := "39b147fa49b670e336f93bc628f50f8f1dcae9f8e079c45404f91c1e6c4b0471", checked := Tryz.checked }
namespace Rows
def none {H : Type} : Left H := { results := [], args := [] }

/-- 'laws.FnExactBoxRight': WHATEVER THE INPUT: true; the input reads as it did. -/
def fnExactBoxRightSpec : ChangeSpec := { name := "fnExactBoxRight", fn := fun _ => fun
  | [d] => { results := [.lit (.bool true)], args := [d] }
  | _ => none }
def fnExactBoxRightRow : OpenClaim := { program := "ytpkjkjepmloddaagreat", sum := "39b147fa49b670e336f93bc628f50f8f1dcae9f8e079c45404f91c1e6c4b0471", func := "loop.example/g00634/laws.FnExactBoxRight", spec := "fnExactBoxRight", unfollowed := true, recurses := true, apart := false }
def FnExactBoxRightSaid : Prop := fnExactBoxRightRow.holds Tryz.pinned (OpenSpec.ofChange fnExactBoxRightSpec)

/-- ITS FALSE NEIGHBOUR: 'it returns false'. Refute it at one input. -/
def fnExactBoxRightWrong : ChangeSpec := { name := "fnExactBoxRight", fn := fun _ => fun
  | [d] => { results := [.lit (.bool false)], args := [d] }
  | _ => none }
def FnExactBoxRightWrongFalsely : Prop := fnExactBoxRightRow.holds Tryz.pinned (OpenSpec.ofChange fnExactBoxRightWrong)

/-- 'laws.FnExactBindOf': WHATEVER THE INPUT: true; the input reads as it did. -/
def fnExactBindOfSpec : ChangeSpec := { name := "fnExactBindOf", fn := fun _ => fun
  | [d1, d2, d3] => { results := [.lit (.bool true)], args := [d1, d2, d3] }
  | _ => none }
def fnExactBindOfRow : OpenClaim := { program := "ytpkjkjepmloddaagreat", sum := "39b147fa49b670e336f93bc628f50f8f1dcae9f8e079c45404f91c1e6c4b0471", func := "loop.example/g00634/laws.FnExactBindOf", spec := "fnExactBindOf", unfollowed := true, recurses := true, apart := false }
def FnExactBindOfSaid : Prop := fnExactBindOfRow.holds Tryz.pinned (OpenSpec.ofChange fnExactBindOfSpec)

/-- ITS FALSE NEIGHBOUR: 'it returns false'. Refute it at one input. -/
def fnExactBindOfWrong : ChangeSpec := { name := "fnExactBindOf", fn := fun _ => fun
  | [d1, d2, d3] => { results := [.lit (.bool false)], args := [d1, d2, d3] }
  | _ => none }
def FnExactBindOfWrongFalsely : Prop := fnExactBindOfRow.holds Tryz.pinned (OpenSpec.ofChange fnExactBindOfWrong)

/-- 'laws.FnExactObserve': WHATEVER THE INPUT: true; the input reads as it did. -/
def fnExactObserveSpec : ChangeSpec := { name := "fnExactObserve", fn := fun _ => fun
  | [d1, d2] => { results := [.lit (.bool true)], args := [d1, d2] }
  | _ => none }
def fnExactObserveRow : OpenClaim := { program := "ytpkjkjepmloddaagreat", sum := "39b147fa49b670e336f93bc628f50f8f1dcae9f8e079c45404f91c1e6c4b0471", func := "loop.example/g00634/laws.FnExactObserve", spec := "fnExactObserve", inPlace := ["internal/abi.NoEscape"], unfollowed := true, recurses := true, apart := false }
def FnExactObserveSaid : Prop := fnExactObserveRow.holds Tryz.pinned (OpenSpec.ofChange fnExactObserveSpec)

/-- ITS FALSE NEIGHBOUR: 'it returns false'. Refute it at one input. -/
def fnExactObserveWrong : ChangeSpec := { name := "fnExactObserve", fn := fun _ => fun
  | [d1, d2] => { results := [.lit (.bool false)], args := [d1, d2] }
  | _ => none }
def FnExactObserveWrongFalsely : Prop := fnExactObserveRow.holds Tryz.pinned (OpenSpec.ofChange fnExactObserveWrong)

/- THE SECOND FORM. 'bulk': how many values and letters a reading holds, each counted each time it is reached (what is shared counts as often as it is met; a slice's spare places count too). A statement '..UptoSaid' is the law's where the arguments, and the package variables that the reading takes, are together of bulk at most 1048576: NARROWER than '..Said'. Prove '..Said' where nothing that the law and all that it calls make is longer than what came in: it says more and counts as full. Else prove '..UptoSaid'. A law counts once. -/
mutual
def uptoBulk {H : Type} : DataW H → Nat
  | .lit (.string bytes) => bytes.length + 1
  | .lit _ => 1
  | .nil => 1
  | .ptr d => uptoBulk d + 1
  | .slice elems spare => uptoBulkAll elems + uptoBulkAll spare + 1
  | .agg parts => uptoBulkAll parts + 1
  | .iface _ d => uptoBulk d + 1
  | .map entries => uptoBulkEntries entries + 1
  | .held _ => 1
def uptoBulkAll {H : Type} : List (DataW H) → Nat
  | [] => 0
  | d :: r => uptoBulk d + uptoBulkAll r
def uptoBulkEntries {H : Type} : List (Lit × DataW H) → Nat
  | [] => 0
  | x :: r => uptoBulkEntry x + uptoBulkEntries r
def uptoBulkEntry {H : Type} : Lit × DataW H → Nat
  | (.string bytes, d) => bytes.length + uptoBulk d + 1
  | (_, d) => uptoBulk d + 1
 end
def uptoSmall : (H : Type) → List (DataW H) → Bool := fun _ ds => decide (uptoBulkAll ds ≤ 1048576)
def OpenSpec.upto (s : _root_.Go.ChangeSpec) : _root_.Go.OpenSpec := { _root_.Go.OpenSpec.ofChange s with cond := some uptoSmall }

/-- 'laws.FnExactBoxRight', WHERE WHAT IT READS IS OF BULK AT MOST 1048576: true; the input reads as it did. -/
def fnExactBoxRightUptoRow : OpenClaim := { program := "ytpkjkjepmloddaagreat", sum := "39b147fa49b670e336f93bc628f50f8f1dcae9f8e079c45404f91c1e6c4b0471", func := "loop.example/g00634/laws.FnExactBoxRight", spec := "fnExactBoxRight", unfollowed := true, recurses := true, apart := false, narrowed := true }
def FnExactBoxRightUptoSaid : Prop := fnExactBoxRightUptoRow.holds Tryz.pinned (OpenSpec.upto fnExactBoxRightSpec)

/-- 'laws.FnExactBindOf', WHERE WHAT IT READS IS OF BULK AT MOST 1048576: true; the input reads as it did. -/
def fnExactBindOfUptoRow : OpenClaim := { program := "ytpkjkjepmloddaagreat", sum := "39b147fa49b670e336f93bc628f50f8f1dcae9f8e079c45404f91c1e6c4b0471", func := "loop.example/g00634/laws.FnExactBindOf", spec := "fnExactBindOf", unfollowed := true, recurses := true, apart := false, narrowed := true }
def FnExactBindOfUptoSaid : Prop := fnExactBindOfUptoRow.holds Tryz.pinned (OpenSpec.upto fnExactBindOfSpec)

/-- 'laws.FnExactObserve', WHERE WHAT IT READS IS OF BULK AT MOST 1048576: true; the input reads as it did. -/
def fnExactObserveUptoRow : OpenClaim := { program := "ytpkjkjepmloddaagreat", sum := "39b147fa49b670e336f93bc628f50f8f1dcae9f8e079c45404f91c1e6c4b0471", func := "loop.example/g00634/laws.FnExactObserve", spec := "fnExactObserve", inPlace := ["internal/abi.NoEscape"], unfollowed := true, recurses := true, apart := false, narrowed := true }
def FnExactObserveUptoSaid : Prop := fnExactObserveUptoRow.holds Tryz.pinned (OpenSpec.upto fnExactObserveSpec)

end Rows
end Go.Proofs.YtpkjkjepmloddaaGreat
