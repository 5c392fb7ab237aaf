/-
  No cell of these rows narrows 'for every input' (looked for: loops, veiled, ifaces, maps, wideKeys, modest, calm, conditions, laid).
  DERIVED. THE GIVEN ROWS OF THIS SEAT. 4 by the template 'for every input the law returns true; each argument reads behind the call as it read before'; 0 by the template 'total and deterministic' (their statements: YtfmaeicodljgkaaTotals.lean).
  GIVEN WITH THE SEED: the statements are not yours to turn. If you find one false, say at which input.
  Laid BY PROGRAM, IN A SANDBOX (cutbox-rows.mjs): the forced cells as the released guide's own fill.sh prints them over the translation aecebbf036c1d901… (all of the seat's roots in one cut). By AI agents, Wed Nov 11 2026. No macro, syntax, notation, axiom, sorry.
-/
import Derived.Test.YtfmaeicodljgkaaChecked
import GoSem.Claim
import GoSem.ClaimJoined
import GoSem.ClaimMapViews
import Derived.JoinedTies
import Derived.KernelRfl
namespace Go.Proofs.Ytfmaeicodljgkaa
/- THE CELL 'sum', in the pinned program and in every row, IS THE sha256 OF THE DUMP (.gsa) THAT YtfmaeicodljgkaaProg.lean LOADS. Nothing in Lean hashes anything: it is a label: what it is worth is what the hold of that sum in a sandbox is worth. -/
noncomputable def Try.pinned : Pinned := { name := "ytfmaeicodljgkaa", sum := "aecebbf036c1d90175709f883916fe8defb1831ed665ae018decaeb9b6db5f7b", checked := Try.checked }
namespace Rows
def none {H : Type} : Left H := { results := [], args := [] }

/-- 'laws.FnExactInstRight': WHATEVER THE INPUT: true; the input reads as it did. -/
def fnExactInstRightSpec : ChangeSpec := { name := "fnExactInstRight", fn := fun _ => fun
  | [d] => { results := [.lit (.bool true)], args := [d] }
  | _ => none }
def fnExactInstRightRow : OpenClaim := { program := "ytfmaeicodljgkaa", sum := "aecebbf036c1d90175709f883916fe8defb1831ed665ae018decaeb9b6db5f7b", func := "loop.example/g00634/laws.FnExactInstRight", spec := "fnExactInstRight", plainKeys := false, apart := false }
def FnExactInstRightSaid : Prop := fnExactInstRightRow.holds Try.pinned (OpenSpec.ofChange fnExactInstRightSpec)

/-- ITS FALSE NEIGHBOUR: 'it returns false'. Refute it at one input. -/
def fnExactInstRightWrong : ChangeSpec := { name := "fnExactInstRight", fn := fun _ => fun
  | [d] => { results := [.lit (.bool false)], args := [d] }
  | _ => none }
def FnExactInstRightWrongFalsely : Prop := fnExactInstRightRow.holds Try.pinned (OpenSpec.ofChange fnExactInstRightWrong)

/-- 'laws.FnExactMeshRight': WHATEVER THE INPUT: true; the input reads as it did. -/
def fnExactMeshRightSpec : ChangeSpec := { name := "fnExactMeshRight", fn := fun _ => fun
  | [d] => { results := [.lit (.bool true)], args := [d] }
  | _ => none }
def fnExactMeshRightRow : OpenClaim := { program := "ytfmaeicodljgkaa", sum := "aecebbf036c1d90175709f883916fe8defb1831ed665ae018decaeb9b6db5f7b", func := "loop.example/g00634/laws.FnExactMeshRight", spec := "fnExactMeshRight", unfollowed := true, recurses := true, plainKeys := false, apart := false }
def FnExactMeshRightSaid : Prop := fnExactMeshRightRow.holds Try.pinned (OpenSpec.ofChange fnExactMeshRightSpec)

/-- ITS FALSE NEIGHBOUR: 'it returns false'. Refute it at one input. -/
def fnExactMeshRightWrong : ChangeSpec := { name := "fnExactMeshRight", fn := fun _ => fun
  | [d] => { results := [.lit (.bool false)], args := [d] }
  | _ => none }
def FnExactMeshRightWrongFalsely : Prop := fnExactMeshRightRow.holds Try.pinned (OpenSpec.ofChange fnExactMeshRightWrong)

/-- 'laws.FnExactMetricTo': WHATEVER THE INPUT: true; the input reads as it did. -/
def fnExactMetricToSpec : ChangeSpec := { name := "fnExactMetricTo", fn := fun _ => fun
  | [d1, d2, d3] => { results := [.lit (.bool true)], args := [d1, d2, d3] }
  | _ => none }
def fnExactMetricToRow : OpenClaim := { program := "ytfmaeicodljgkaa", sum := "aecebbf036c1d90175709f883916fe8defb1831ed665ae018decaeb9b6db5f7b", func := "loop.example/g00634/laws.FnExactMetricTo", spec := "fnExactMetricTo", unfollowed := true, recurses := true, plainKeys := false, apart := false }
def FnExactMetricToSaid : Prop := fnExactMetricToRow.holds Try.pinned (OpenSpec.ofChange fnExactMetricToSpec)

/-- ITS FALSE NEIGHBOUR: 'it returns false'. Refute it at one input. -/
def fnExactMetricToWrong : ChangeSpec := { name := "fnExactMetricTo", fn := fun _ => fun
  | [d1, d2, d3] => { results := [.lit (.bool false)], args := [d1, d2, d3] }
  | _ => none }
def FnExactMetricToWrongFalsely : Prop := fnExactMetricToRow.holds Try.pinned (OpenSpec.ofChange fnExactMetricToWrong)

/-- 'laws.FnExactDistance': WHATEVER THE INPUT: true; the input reads as it did. -/
def fnExactDistanceSpec : ChangeSpec := { name := "fnExactDistance", fn := fun _ => fun
  | [d1, d2, d3] => { results := [.lit (.bool true)], args := [d1, d2, d3] }
  | _ => none }
def fnExactDistanceRow : OpenClaim := { program := "ytfmaeicodljgkaa", sum := "aecebbf036c1d90175709f883916fe8defb1831ed665ae018decaeb9b6db5f7b", func := "loop.example/g00634/laws.FnExactDistance", spec := "fnExactDistance", unfollowed := true, recurses := true, plainKeys := false, apart := false }
def FnExactDistanceSaid : Prop := fnExactDistanceRow.holds Try.pinned (OpenSpec.ofChange fnExactDistanceSpec)

/-- ITS FALSE NEIGHBOUR: 'it returns false'. Refute it at one input. -/
def fnExactDistanceWrong : ChangeSpec := { name := "fnExactDistance", fn := fun _ => fun
  | [d1, d2, d3] => { results := [.lit (.bool false)], args := [d1, d2, d3] }
  | _ => none }
def FnExactDistanceWrongFalsely : Prop := fnExactDistanceRow.holds Try.pinned (OpenSpec.ofChange fnExactDistanceWrong)

/- THE SECOND FORM. 'bulk': how many values and letters a reading holds, each counted each time it is reached (what is shared counts as often as it is met; a slice's spare places count too). A statement '..UptoSaid' is the law's where the arguments, and the package variables that the reading takes, are together of bulk at most 1048576: NARROWER than '..Said'. Prove '..Said' where nothing that the law and all that it calls make is longer than what came in: it says more and counts as full. Else prove '..UptoSaid'. A law counts once. -/
mutual
def uptoBulk {H : Type} : DataW H → Nat
  | .lit (.string bytes) => bytes.length + 1
  | .lit _ => 1
  | .nil => 1
  | .ptr d => uptoBulk d + 1
  | .slice elems spare => uptoBulkAll elems + uptoBulkAll spare + 1
  | .agg parts => uptoBulkAll parts + 1
  | .iface _ d => uptoBulk d + 1
  | .map entries => uptoBulkEntries entries + 1
  | .held _ => 1
def uptoBulkAll {H : Type} : List (DataW H) → Nat
  | [] => 0
  | d :: r => uptoBulk d + uptoBulkAll r
def uptoBulkEntries {H : Type} : List (Lit × DataW H) → Nat
  | [] => 0
  | x :: r => uptoBulkEntry x + uptoBulkEntries r
def uptoBulkEntry {H : Type} : Lit × DataW H → Nat
  | (.string bytes, d) => bytes.length + uptoBulk d + 1
  | (_, d) => uptoBulk d + 1
 end
def uptoSmall : (H : Type) → List (DataW H) → Bool := fun _ ds => decide (uptoBulkAll ds ≤ 1048576)
def OpenSpec.upto (s : _root_.Go.ChangeSpec) : _root_.Go.OpenSpec := { _root_.Go.OpenSpec.ofChange s with cond := some uptoSmall }

/-- 'laws.FnExactInstRight', WHERE WHAT IT READS IS OF BULK AT MOST 1048576: true; the input reads as it did. -/
def fnExactInstRightUptoRow : OpenClaim := { program := "ytfmaeicodljgkaa", sum := "aecebbf036c1d90175709f883916fe8defb1831ed665ae018decaeb9b6db5f7b", func := "loop.example/g00634/laws.FnExactInstRight", spec := "fnExactInstRight", plainKeys := false, apart := false, narrowed := true }
def FnExactInstRightUptoSaid : Prop := fnExactInstRightUptoRow.holds Try.pinned (OpenSpec.upto fnExactInstRightSpec)

/-- 'laws.FnExactMeshRight', WHERE WHAT IT READS IS OF BULK AT MOST 1048576: true; the input reads as it did. -/
def fnExactMeshRightUptoRow : OpenClaim := { program := "ytfmaeicodljgkaa", sum := "aecebbf036c1d90175709f883916fe8defb1831ed665ae018decaeb9b6db5f7b", func := "loop.example/g00634/laws.FnExactMeshRight", spec := "fnExactMeshRight", unfollowed := true, recurses := true, plainKeys := false, apart := false, narrowed := true }
def FnExactMeshRightUptoSaid : Prop := fnExactMeshRightUptoRow.holds Try.pinned (OpenSpec.upto fnExactMeshRightSpec)

/-- 'laws.FnExactMetricTo', WHERE WHAT IT READS IS OF BULK AT MOST 1048576: true; the input reads as it did. -/
def fnExactMetricToUptoRow : OpenClaim := { program := "ytfmaeicodljgkaa", sum := "aecebbf036c1d90175709f883916fe8defb1831ed665ae018decaeb9b6db5f7b", func := "loop.example/g00634/laws.FnExactMetricTo", spec := "fnExactMetricTo", unfollowed := true, recurses := true, plainKeys := false, apart := false, narrowed := true }
def FnExactMetricToUptoSaid : Prop := fnExactMetricToUptoRow.holds Try.pinned (OpenSpec.upto fnExactMetricToSpec)

/-- 'laws.FnExactDistance', WHERE WHAT IT READS IS OF BULK AT MOST 1048576: true; the input reads as it did. -/
def fnExactDistanceUptoRow : OpenClaim := { program := "ytfmaeicodljgkaa", sum := "aecebbf036c1d90175709f883916fe8defb1831ed665ae018decaeb9b6db5f7b", func := "loop.example/g00634/laws.FnExactDistance", spec := "fnExactDistance", unfollowed := true, recurses := true, plainKeys := false, apart := false, narrowed := true }
def FnExactDistanceUptoSaid : Prop := fnExactDistanceUptoRow.holds Try.pinned (OpenSpec.upto fnExactDistanceSpec)

end Rows
end Go.Proofs.Ytfmaeicodljgkaa
