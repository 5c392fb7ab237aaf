/-
  No cell of these rows narrows 'for every input' (looked for: loops, veiled, ifaces, maps, wideKeys, modest, calm, conditions, laid).
  DERIVED. THE GIVEN ROWS OF THIS SEAT. 3 by the template 'for every input the law returns true; each argument reads behind the call as it read before'; 0 by the template 'total and deterministic' (their statements: YtpkjkjepmloddaaTotals.lean).
  GIVEN WITH THE SEED: the statements are not yours to turn. If you find one false, say at which input.
  Laid BY PROGRAM, IN A SANDBOX (cutbox-rows.mjs): the forced cells as the released guide's own fill.sh prints them over the translation ff208c7597e26e0e… (all of the seat's roots in one cut). By AI agents, Wed Nov 11 2026. No macro, syntax, notation, axiom, sorry.
-/
import Derived.Test.YtpkjkjepmloddaaChecked
import GoSem.Claim
import GoSem.ClaimJoined
import GoSem.ClaimMapViews
import Derived.JoinedTies
import Derived.KernelRfl
namespace Go.Proofs.Ytpkjkjepmloddaa
/- THE CELL 'sum', in the pinned program and in every row, IS THE sha256 OF THE DUMP (.gsa) THAT YtpkjkjepmloddaaProg.lean LOADS. Nothing in Lean hashes anything: it is a label: what it is worth is what the hold of that sum in a sandbox is worth. -/
noncomputable def Try.pinned : Pinned := { name := "ytpkjkjepmloddaa", sum := "ff208c7597e26e0e26f0b16e9a22b7fdbe84367c214a2bfa6d6f314f45d4396d", checked := Try.checked }
namespace Rows
def none {H : Type} : Left H := { results := [], args := [] }

/-- 'laws.FnExactInstRight': WHATEVER THE INPUT: true; the input reads as it did. -/
def fnExactInstRightSpec : ChangeSpec := { name := "fnExactInstRight", fn := fun _ => fun
  | [d] => { results := [.lit (.bool true)], args := [d] }
  | _ => none }
def fnExactInstRightRow : OpenClaim := { program := "ytpkjkjepmloddaa", sum := "ff208c7597e26e0e26f0b16e9a22b7fdbe84367c214a2bfa6d6f314f45d4396d", func := "loop.example/g00634/laws.FnExactInstRight", spec := "fnExactInstRight", apart := false }
def FnExactInstRightSaid : Prop := fnExactInstRightRow.holds Try.pinned (OpenSpec.ofChange fnExactInstRightSpec)

/-- ITS FALSE NEIGHBOUR: 'it returns false'. Refute it at one input. -/
def fnExactInstRightWrong : ChangeSpec := { name := "fnExactInstRight", fn := fun _ => fun
  | [d] => { results := [.lit (.bool false)], args := [d] }
  | _ => none }
def FnExactInstRightWrongFalsely : Prop := fnExactInstRightRow.holds Try.pinned (OpenSpec.ofChange fnExactInstRightWrong)

/-- 'laws.FnExactSourcesOf': WHATEVER THE INPUT: true; the input reads as it did. -/
def fnExactSourcesOfSpec : ChangeSpec := { name := "fnExactSourcesOf", fn := fun _ => fun
  | [d1, d2] => { results := [.lit (.bool true)], args := [d1, d2] }
  | _ => none }
def fnExactSourcesOfRow : OpenClaim := { program := "ytpkjkjepmloddaa", sum := "ff208c7597e26e0e26f0b16e9a22b7fdbe84367c214a2bfa6d6f314f45d4396d", func := "loop.example/g00634/laws.FnExactSourcesOf", spec := "fnExactSourcesOf", recurses := true, apart := false }
def FnExactSourcesOfSaid : Prop := fnExactSourcesOfRow.holds Try.pinned (OpenSpec.ofChange fnExactSourcesOfSpec)

/-- ITS FALSE NEIGHBOUR: 'it returns false'. Refute it at one input. -/
def fnExactSourcesOfWrong : ChangeSpec := { name := "fnExactSourcesOf", fn := fun _ => fun
  | [d1, d2] => { results := [.lit (.bool false)], args := [d1, d2] }
  | _ => none }
def FnExactSourcesOfWrongFalsely : Prop := fnExactSourcesOfRow.holds Try.pinned (OpenSpec.ofChange fnExactSourcesOfWrong)

/-- 'laws.FnExactTenantRight': WHATEVER THE INPUT: true; the input reads as it did. -/
def fnExactTenantRightSpec : ChangeSpec := { name := "fnExactTenantRight", fn := fun _ => fun
  | [d] => { results := [.lit (.bool true)], args := [d] }
  | _ => none }
def fnExactTenantRightRow : OpenClaim := { program := "ytpkjkjepmloddaa", sum := "ff208c7597e26e0e26f0b16e9a22b7fdbe84367c214a2bfa6d6f314f45d4396d", func := "loop.example/g00634/laws.FnExactTenantRight", spec := "fnExactTenantRight", unfollowed := true, recurses := true, apart := false }
def FnExactTenantRightSaid : Prop := fnExactTenantRightRow.holds Try.pinned (OpenSpec.ofChange fnExactTenantRightSpec)

/-- ITS FALSE NEIGHBOUR: 'it returns false'. Refute it at one input. -/
def fnExactTenantRightWrong : ChangeSpec := { name := "fnExactTenantRight", fn := fun _ => fun
  | [d] => { results := [.lit (.bool false)], args := [d] }
  | _ => none }
def FnExactTenantRightWrongFalsely : Prop := fnExactTenantRightRow.holds Try.pinned (OpenSpec.ofChange fnExactTenantRightWrong)

/- THE SECOND FORM. 'bulk': how many values and letters a reading holds, each counted each time it is reached (what is shared counts as often as it is met; a slice's spare places count too). A statement '..UptoSaid' is the law's where the arguments, and the package variables that the reading takes, are together of bulk at most 1048576: NARROWER than '..Said'. Prove '..Said' where nothing that the law and all that it calls make is longer than what came in: it says more and counts as full. Else prove '..UptoSaid'. A law counts once. -/
mutual
def uptoBulk {H : Type} : DataW H → Nat
  | .lit (.string bytes) => bytes.length + 1
  | .lit _ => 1
  | .nil => 1
  | .ptr d => uptoBulk d + 1
  | .slice elems spare => uptoBulkAll elems + uptoBulkAll spare + 1
  | .agg parts => uptoBulkAll parts + 1
  | .iface _ d => uptoBulk d + 1
  | .map entries => uptoBulkEntries entries + 1
  | .held _ => 1
def uptoBulkAll {H : Type} : List (DataW H) → Nat
  | [] => 0
  | d :: r => uptoBulk d + uptoBulkAll r
def uptoBulkEntries {H : Type} : List (Lit × DataW H) → Nat
  | [] => 0
  | x :: r => uptoBulkEntry x + uptoBulkEntries r
def uptoBulkEntry {H : Type} : Lit × DataW H → Nat
  | (.string bytes, d) => bytes.length + uptoBulk d + 1
  | (_, d) => uptoBulk d + 1
 end
def uptoSmall : (H : Type) → List (DataW H) → Bool := fun _ ds => decide (uptoBulkAll ds ≤ 1048576)
def OpenSpec.upto (s : _root_.Go.ChangeSpec) : _root_.Go.OpenSpec := { _root_.Go.OpenSpec.ofChange s with cond := some uptoSmall }

/-- 'laws.FnExactInstRight', WHERE WHAT IT READS IS OF BULK AT MOST 1048576: true; the input reads as it did. -/
def fnExactInstRightUptoRow : OpenClaim := { program := "ytpkjkjepmloddaa", sum := "ff208c7597e26e0e26f0b16e9a22b7fdbe84367c214a2bfa6d6f314f45d4396d", func := "loop.example/g00634/laws.FnExactInstRight", spec := "fnExactInstRight", apart := false, narrowed := true }
def FnExactInstRightUptoSaid : Prop := fnExactInstRightUptoRow.holds Try.pinned (OpenSpec.upto fnExactInstRightSpec)

/-- 'laws.FnExactSourcesOf', WHERE WHAT IT READS IS OF BULK AT MOST 1048576: true; the input reads as it did. -/
def fnExactSourcesOfUptoRow : OpenClaim := { program := "ytpkjkjepmloddaa", sum := "ff208c7597e26e0e26f0b16e9a22b7fdbe84367c214a2bfa6d6f314f45d4396d", func := "loop.example/g00634/laws.FnExactSourcesOf", spec := "fnExactSourcesOf", recurses := true, apart := false, narrowed := true }
def FnExactSourcesOfUptoSaid : Prop := fnExactSourcesOfUptoRow.holds Try.pinned (OpenSpec.upto fnExactSourcesOfSpec)

/-- 'laws.FnExactTenantRight', WHERE WHAT IT READS IS OF BULK AT MOST 1048576: true; the input reads as it did. -/
def fnExactTenantRightUptoRow : OpenClaim := { program := "ytpkjkjepmloddaa", sum := "ff208c7597e26e0e26f0b16e9a22b7fdbe84367c214a2bfa6d6f314f45d4396d", func := "loop.example/g00634/laws.FnExactTenantRight", spec := "fnExactTenantRight", unfollowed := true, recurses := true, apart := false, narrowed := true }
def FnExactTenantRightUptoSaid : Prop := fnExactTenantRightUptoRow.holds Try.pinned (OpenSpec.upto fnExactTenantRightSpec)

end Rows
end Go.Proofs.Ytpkjkjepmloddaa
