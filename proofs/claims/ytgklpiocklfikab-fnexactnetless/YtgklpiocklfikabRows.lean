/-
  No cell of these rows narrows 'for every input' (looked for: loops, veiled, ifaces, maps, wideKeys, modest, calm, conditions, laid).
  DERIVED. THE GIVEN ROWS OF THIS SEAT. 4 by the template 'for every input the law returns true; each argument reads behind the call as it read before'; 0 by the template 'total and deterministic' (their statements: YtgklpiocklfikabTotals.lean).
  GIVEN WITH THE SEED: the statements are not yours to turn. If you find one false, say at which input.
  Laid BY PROGRAM, IN A SANDBOX (cutbox-rows.mjs): the forced cells as the released guide's own fill.sh prints them over the translation be08931fd08d2e8a… (all of the seat's roots in one cut). By AI agents, Wed Nov 11 2026. No macro, syntax, notation, axiom, sorry.
-/
import Derived.Test.YtgklpiocklfikabChecked
import GoSem.Claim
import GoSem.ClaimJoined
import GoSem.ClaimMapViews
import Derived.JoinedTies
import Derived.KernelRfl
namespace Go.Proofs.Ytgklpiocklfikab
/- THE CELL 'sum', in the pinned program and in every row, IS THE sha256 OF THE DUMP (.gsa) THAT YtgklpiocklfikabProg.lean LOADS. Nothing in Lean hashes anything: it is a label: what it is worth is what the hold of that sum in a sandbox is worth. -/
noncomputable def Try.pinned : Pinned := { name := "ytgklpiocklfikab", sum := "be08931fd08d2e8afb0022a10947047173beda987c5688a0a5412977e2ad562b", checked := Try.checked }
namespace Rows
def none {H : Type} : Left H := { results := [], args := [] }

/-- 'laws.FnExactNetOf': WHATEVER THE INPUT: true; the input reads as it did. -/
def fnExactNetOfSpec : ChangeSpec := { name := "fnExactNetOf", fn := fun _ => fun
  | [d1, d2] => { results := [.lit (.bool true)], args := [d1, d2] }
  | _ => none }
def fnExactNetOfRow : OpenClaim := { program := "ytgklpiocklfikab", sum := "be08931fd08d2e8afb0022a10947047173beda987c5688a0a5412977e2ad562b", func := "loop.example/g00634/laws.FnExactNetOf", spec := "fnExactNetOf", apart := false }
def FnExactNetOfSaid : Prop := fnExactNetOfRow.holds Try.pinned (OpenSpec.ofChange fnExactNetOfSpec)

/-- ITS FALSE NEIGHBOUR: 'it returns false'. Refute it at one input. -/
def fnExactNetOfWrong : ChangeSpec := { name := "fnExactNetOf", fn := fun _ => fun
  | [d1, d2] => { results := [.lit (.bool false)], args := [d1, d2] }
  | _ => none }
def FnExactNetOfWrongFalsely : Prop := fnExactNetOfRow.holds Try.pinned (OpenSpec.ofChange fnExactNetOfWrong)

/-- 'laws.FnExactNetRight': WHATEVER THE INPUT: true; the input reads as it did. -/
def fnExactNetRightSpec : ChangeSpec := { name := "fnExactNetRight", fn := fun _ => fun
  | [d] => { results := [.lit (.bool true)], args := [d] }
  | _ => none }
def fnExactNetRightRow : OpenClaim := { program := "ytgklpiocklfikab", sum := "be08931fd08d2e8afb0022a10947047173beda987c5688a0a5412977e2ad562b", func := "loop.example/g00634/laws.FnExactNetRight", spec := "fnExactNetRight", apart := false }
def FnExactNetRightSaid : Prop := fnExactNetRightRow.holds Try.pinned (OpenSpec.ofChange fnExactNetRightSpec)

/-- ITS FALSE NEIGHBOUR: 'it returns false'. Refute it at one input. -/
def fnExactNetRightWrong : ChangeSpec := { name := "fnExactNetRight", fn := fun _ => fun
  | [d] => { results := [.lit (.bool false)], args := [d] }
  | _ => none }
def FnExactNetRightWrongFalsely : Prop := fnExactNetRightRow.holds Try.pinned (OpenSpec.ofChange fnExactNetRightWrong)

/-- 'laws.FnExactNetLess': WHATEVER THE INPUT: true; the input reads as it did. -/
def fnExactNetLessSpec : ChangeSpec := { name := "fnExactNetLess", fn := fun _ => fun
  | [d1, d2] => { results := [.lit (.bool true)], args := [d1, d2] }
  | _ => none }
def fnExactNetLessRow : OpenClaim := { program := "ytgklpiocklfikab", sum := "be08931fd08d2e8afb0022a10947047173beda987c5688a0a5412977e2ad562b", func := "loop.example/g00634/laws.FnExactNetLess", spec := "fnExactNetLess", apart := false }
def FnExactNetLessSaid : Prop := fnExactNetLessRow.holds Try.pinned (OpenSpec.ofChange fnExactNetLessSpec)

/-- ITS FALSE NEIGHBOUR: 'it returns false'. Refute it at one input. -/
def fnExactNetLessWrong : ChangeSpec := { name := "fnExactNetLess", fn := fun _ => fun
  | [d1, d2] => { results := [.lit (.bool false)], args := [d1, d2] }
  | _ => none }
def FnExactNetLessWrongFalsely : Prop := fnExactNetLessRow.holds Try.pinned (OpenSpec.ofChange fnExactNetLessWrong)

/-- 'laws.FnExactCovers': WHATEVER THE INPUT: true; the input reads as it did. -/
def fnExactCoversSpec : ChangeSpec := { name := "fnExactCovers", fn := fun _ => fun
  | [d1, d2] => { results := [.lit (.bool true)], args := [d1, d2] }
  | _ => none }
def fnExactCoversRow : OpenClaim := { program := "ytgklpiocklfikab", sum := "be08931fd08d2e8afb0022a10947047173beda987c5688a0a5412977e2ad562b", func := "loop.example/g00634/laws.FnExactCovers", spec := "fnExactCovers", apart := false }
def FnExactCoversSaid : Prop := fnExactCoversRow.holds Try.pinned (OpenSpec.ofChange fnExactCoversSpec)

/-- ITS FALSE NEIGHBOUR: 'it returns false'. Refute it at one input. -/
def fnExactCoversWrong : ChangeSpec := { name := "fnExactCovers", fn := fun _ => fun
  | [d1, d2] => { results := [.lit (.bool false)], args := [d1, d2] }
  | _ => none }
def FnExactCoversWrongFalsely : Prop := fnExactCoversRow.holds Try.pinned (OpenSpec.ofChange fnExactCoversWrong)

/- THE SECOND FORM. 'bulk': how many values and letters a reading holds, each counted each time it is reached (what is shared counts as often as it is met; a slice's spare places count too). A statement '..UptoSaid' is the law's where the arguments, and the package variables that the reading takes, are together of bulk at most 1048576: NARROWER than '..Said'. Prove '..Said' where nothing that the law and all that it calls make is longer than what came in: it says more and counts as full. Else prove '..UptoSaid'. A law counts once. -/
mutual
def uptoBulk {H : Type} : DataW H → Nat
  | .lit (.string bytes) => bytes.length + 1
  | .lit _ => 1
  | .nil => 1
  | .ptr d => uptoBulk d + 1
  | .slice elems spare => uptoBulkAll elems + uptoBulkAll spare + 1
  | .agg parts => uptoBulkAll parts + 1
  | .iface _ d => uptoBulk d + 1
  | .map entries => uptoBulkEntries entries + 1
  | .held _ => 1
def uptoBulkAll {H : Type} : List (DataW H) → Nat
  | [] => 0
  | d :: r => uptoBulk d + uptoBulkAll r
def uptoBulkEntries {H : Type} : List (Lit × DataW H) → Nat
  | [] => 0
  | x :: r => uptoBulkEntry x + uptoBulkEntries r
def uptoBulkEntry {H : Type} : Lit × DataW H → Nat
  | (.string bytes, d) => bytes.length + uptoBulk d + 1
  | (_, d) => uptoBulk d + 1
 end
def uptoSmall : (H : Type) → List (DataW H) → Bool := fun _ ds => decide (uptoBulkAll ds ≤ 1048576)
def OpenSpec.upto (s : _root_.Go.ChangeSpec) : _root_.Go.OpenSpec := { _root_.Go.OpenSpec.ofChange s with cond := some uptoSmall }

/-- 'laws.FnExactNetOf', WHERE WHAT IT READS IS OF BULK AT MOST 1048576: true; the input reads as it did. -/
def fnExactNetOfUptoRow : OpenClaim := { program := "ytgklpiocklfikab", sum := "be08931fd08d2e8afb0022a10947047173beda987c5688a0a5412977e2ad562b", func := "loop.example/g00634/laws.FnExactNetOf", spec := "fnExactNetOf", apart := false, narrowed := true }
def FnExactNetOfUptoSaid : Prop := fnExactNetOfUptoRow.holds Try.pinned (OpenSpec.upto fnExactNetOfSpec)

/-- 'laws.FnExactNetRight', WHERE WHAT IT READS IS OF BULK AT MOST 1048576: true; the input reads as it did. -/
def fnExactNetRightUptoRow : OpenClaim := { program := "ytgklpiocklfikab", sum := "be08931fd08d2e8afb0022a10947047173beda987c5688a0a5412977e2ad562b", func := "loop.example/g00634/laws.FnExactNetRight", spec := "fnExactNetRight", apart := false, narrowed := true }
def FnExactNetRightUptoSaid : Prop := fnExactNetRightUptoRow.holds Try.pinned (OpenSpec.upto fnExactNetRightSpec)

/-- 'laws.FnExactNetLess', WHERE WHAT IT READS IS OF BULK AT MOST 1048576: true; the input reads as it did. -/
def fnExactNetLessUptoRow : OpenClaim := { program := "ytgklpiocklfikab", sum := "be08931fd08d2e8afb0022a10947047173beda987c5688a0a5412977e2ad562b", func := "loop.example/g00634/laws.FnExactNetLess", spec := "fnExactNetLess", apart := false, narrowed := true }
def FnExactNetLessUptoSaid : Prop := fnExactNetLessUptoRow.holds Try.pinned (OpenSpec.upto fnExactNetLessSpec)

/-- 'laws.FnExactCovers', WHERE WHAT IT READS IS OF BULK AT MOST 1048576: true; the input reads as it did. -/
def fnExactCoversUptoRow : OpenClaim := { program := "ytgklpiocklfikab", sum := "be08931fd08d2e8afb0022a10947047173beda987c5688a0a5412977e2ad562b", func := "loop.example/g00634/laws.FnExactCovers", spec := "fnExactCovers", apart := false, narrowed := true }
def FnExactCoversUptoSaid : Prop := fnExactCoversUptoRow.holds Try.pinned (OpenSpec.upto fnExactCoversSpec)

end Rows
end Go.Proofs.Ytgklpiocklfikab
