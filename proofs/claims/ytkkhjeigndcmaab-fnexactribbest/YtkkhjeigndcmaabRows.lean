/-
  No cell of these rows narrows 'for every input' (looked for: loops, veiled, ifaces, maps, wideKeys, modest, calm, conditions, laid).
  DERIVED. THE GIVEN ROWS OF THIS SEAT. 5 by the template 'for every input the law returns true; each argument reads behind the call as it read before'; 0 by the template 'total and deterministic' (their statements: YtkkhjeigndcmaabTotals.lean).
  GIVEN WITH THE SEED: the statements are not yours to turn. If you find one false, say at which input.
  Laid BY PROGRAM, IN A SANDBOX (cutbox-rows.mjs): the forced cells as the released guide's own fill.sh prints them over the translation db5268d81a15945f… (all of the seat's roots in one cut). By AI agents, Wed Nov 11 2026. No macro, syntax, notation, axiom, sorry.
-/
import Derived.Test.YtkkhjeigndcmaabChecked
import GoSem.Claim
import GoSem.ClaimJoined
import GoSem.ClaimMapViews
import Derived.JoinedTies
import Derived.KernelRfl
namespace Go.Proofs.Ytkkhjeigndcmaab
/- THE CELL 'sum', in the pinned program and in every row, IS THE sha256 OF THE DUMP (.gsa) THAT YtkkhjeigndcmaabProg.lean LOADS. Nothing in Lean hashes anything: it is a label: what it is worth is what the hold of that sum in a sandbox is worth. -/
noncomputable def Try.pinned : Pinned := { name := "ytkkhjeigndcmaab", sum := "db5268d81a15945f0c73a48a5bed12388b6fc96ab429b4687a17528a348886dd", checked := Try.checked }
namespace Rows
def none {H : Type} : Left H := { results := [], args := [] }

/-- 'laws.FnExactRibFind': WHATEVER THE INPUT: true; the input reads as it did. -/
def fnExactRibFindSpec : ChangeSpec := { name := "fnExactRibFind", fn := fun _ => fun
  | [d1, d2] => { results := [.lit (.bool true)], args := [d1, d2] }
  | _ => none }
def fnExactRibFindRow : OpenClaim := { program := "ytkkhjeigndcmaab", sum := "db5268d81a15945f0c73a48a5bed12388b6fc96ab429b4687a17528a348886dd", func := "loop.example/g00634/laws.FnExactRibFind", spec := "fnExactRibFind", plainKeys := false, apart := false }
def FnExactRibFindSaid : Prop := fnExactRibFindRow.holds Try.pinned (OpenSpec.ofChange fnExactRibFindSpec)

/-- ITS FALSE NEIGHBOUR: 'it returns false'. Refute it at one input. -/
def fnExactRibFindWrong : ChangeSpec := { name := "fnExactRibFind", fn := fun _ => fun
  | [d1, d2] => { results := [.lit (.bool false)], args := [d1, d2] }
  | _ => none }
def FnExactRibFindWrongFalsely : Prop := fnExactRibFindRow.holds Try.pinned (OpenSpec.ofChange fnExactRibFindWrong)

/-- 'laws.FnExactRibBest': WHATEVER THE INPUT: true; the input reads as it did. -/
def fnExactRibBestSpec : ChangeSpec := { name := "fnExactRibBest", fn := fun _ => fun
  | [d1, d2] => { results := [.lit (.bool true)], args := [d1, d2] }
  | _ => none }
def fnExactRibBestRow : OpenClaim := { program := "ytkkhjeigndcmaab", sum := "db5268d81a15945f0c73a48a5bed12388b6fc96ab429b4687a17528a348886dd", func := "loop.example/g00634/laws.FnExactRibBest", spec := "fnExactRibBest", unfollowed := true, recurses := true, plainKeys := false, apart := false }
def FnExactRibBestSaid : Prop := fnExactRibBestRow.holds Try.pinned (OpenSpec.ofChange fnExactRibBestSpec)

/-- ITS FALSE NEIGHBOUR: 'it returns false'. Refute it at one input. -/
def fnExactRibBestWrong : ChangeSpec := { name := "fnExactRibBest", fn := fun _ => fun
  | [d1, d2] => { results := [.lit (.bool false)], args := [d1, d2] }
  | _ => none }
def FnExactRibBestWrongFalsely : Prop := fnExactRibBestRow.holds Try.pinned (OpenSpec.ofChange fnExactRibBestWrong)

/-- 'laws.FnExactRibOwn': WHATEVER THE INPUT: true; the input reads as it did. -/
def fnExactRibOwnSpec : ChangeSpec := { name := "fnExactRibOwn", fn := fun _ => fun
  | [d1, d2, d3] => { results := [.lit (.bool true)], args := [d1, d2, d3] }
  | _ => none }
def fnExactRibOwnRow : OpenClaim := { program := "ytkkhjeigndcmaab", sum := "db5268d81a15945f0c73a48a5bed12388b6fc96ab429b4687a17528a348886dd", func := "loop.example/g00634/laws.FnExactRibOwn", spec := "fnExactRibOwn", unfollowed := true, recurses := true, plainKeys := false, apart := false }
def FnExactRibOwnSaid : Prop := fnExactRibOwnRow.holds Try.pinned (OpenSpec.ofChange fnExactRibOwnSpec)

/-- ITS FALSE NEIGHBOUR: 'it returns false'. Refute it at one input. -/
def fnExactRibOwnWrong : ChangeSpec := { name := "fnExactRibOwn", fn := fun _ => fun
  | [d1, d2, d3] => { results := [.lit (.bool false)], args := [d1, d2, d3] }
  | _ => none }
def FnExactRibOwnWrongFalsely : Prop := fnExactRibOwnRow.holds Try.pinned (OpenSpec.ofChange fnExactRibOwnWrong)

/-- 'laws.FnExactRibLearn': WHATEVER THE INPUT: true; the input reads as it did. -/
def fnExactRibLearnSpec : ChangeSpec := { name := "fnExactRibLearn", fn := fun _ => fun
  | [d1, d2, d3] => { results := [.lit (.bool true)], args := [d1, d2, d3] }
  | _ => none }
def fnExactRibLearnRow : OpenClaim := { program := "ytkkhjeigndcmaab", sum := "db5268d81a15945f0c73a48a5bed12388b6fc96ab429b4687a17528a348886dd", func := "loop.example/g00634/laws.FnExactRibLearn", spec := "fnExactRibLearn", unfollowed := true, recurses := true, plainKeys := false, apart := false }
def FnExactRibLearnSaid : Prop := fnExactRibLearnRow.holds Try.pinned (OpenSpec.ofChange fnExactRibLearnSpec)

/-- ITS FALSE NEIGHBOUR: 'it returns false'. Refute it at one input. -/
def fnExactRibLearnWrong : ChangeSpec := { name := "fnExactRibLearn", fn := fun _ => fun
  | [d1, d2, d3] => { results := [.lit (.bool false)], args := [d1, d2, d3] }
  | _ => none }
def FnExactRibLearnWrongFalsely : Prop := fnExactRibLearnRow.holds Try.pinned (OpenSpec.ofChange fnExactRibLearnWrong)

/-- 'laws.FnExactRibTick': WHATEVER THE INPUT: true; the input reads as it did. -/
def fnExactRibTickSpec : ChangeSpec := { name := "fnExactRibTick", fn := fun _ => fun
  | [d1, d2] => { results := [.lit (.bool true)], args := [d1, d2] }
  | _ => none }
def fnExactRibTickRow : OpenClaim := { program := "ytkkhjeigndcmaab", sum := "db5268d81a15945f0c73a48a5bed12388b6fc96ab429b4687a17528a348886dd", func := "loop.example/g00634/laws.FnExactRibTick", spec := "fnExactRibTick", unfollowed := true, recurses := true, plainKeys := false, apart := false }
def FnExactRibTickSaid : Prop := fnExactRibTickRow.holds Try.pinned (OpenSpec.ofChange fnExactRibTickSpec)

/-- ITS FALSE NEIGHBOUR: 'it returns false'. Refute it at one input. -/
def fnExactRibTickWrong : ChangeSpec := { name := "fnExactRibTick", fn := fun _ => fun
  | [d1, d2] => { results := [.lit (.bool false)], args := [d1, d2] }
  | _ => none }
def FnExactRibTickWrongFalsely : Prop := fnExactRibTickRow.holds Try.pinned (OpenSpec.ofChange fnExactRibTickWrong)

/- THE SECOND FORM. 'bulk': how many values and letters a reading holds, each counted each time it is reached (what is shared counts as often as it is met; a slice's spare places count too). A statement '..UptoSaid' is the law's where the arguments, and the package variables that the reading takes, are together of bulk at most 1048576: NARROWER than '..Said'. Prove '..Said' where nothing that the law and all that it calls make is longer than what came in: it says more and counts as full. Else prove '..UptoSaid'. A law counts once. -/
mutual
def uptoBulk {H : Type} : DataW H → Nat
  | .lit (.string bytes) => bytes.length + 1
  | .lit _ => 1
  | .nil => 1
  | .ptr d => uptoBulk d + 1
  | .slice elems spare => uptoBulkAll elems + uptoBulkAll spare + 1
  | .agg parts => uptoBulkAll parts + 1
  | .iface _ d => uptoBulk d + 1
  | .map entries => uptoBulkEntries entries + 1
  | .held _ => 1
def uptoBulkAll {H : Type} : List (DataW H) → Nat
  | [] => 0
  | d :: r => uptoBulk d + uptoBulkAll r
def uptoBulkEntries {H : Type} : List (Lit × DataW H) → Nat
  | [] => 0
  | x :: r => uptoBulkEntry x + uptoBulkEntries r
def uptoBulkEntry {H : Type} : Lit × DataW H → Nat
  | (.string bytes, d) => bytes.length + uptoBulk d + 1
  | (_, d) => uptoBulk d + 1
 end
def uptoSmall : (H : Type) → List (DataW H) → Bool := fun _ ds => decide (uptoBulkAll ds ≤ 1048576)
def OpenSpec.upto (s : _root_.Go.ChangeSpec) : _root_.Go.OpenSpec := { _root_.Go.OpenSpec.ofChange s with cond := some uptoSmall }

/-- 'laws.FnExactRibFind', WHERE WHAT IT READS IS OF BULK AT MOST 1048576: true; the input reads as it did. -/
def fnExactRibFindUptoRow : OpenClaim := { program := "ytkkhjeigndcmaab", sum := "db5268d81a15945f0c73a48a5bed12388b6fc96ab429b4687a17528a348886dd", func := "loop.example/g00634/laws.FnExactRibFind", spec := "fnExactRibFind", plainKeys := false, apart := false, narrowed := true }
def FnExactRibFindUptoSaid : Prop := fnExactRibFindUptoRow.holds Try.pinned (OpenSpec.upto fnExactRibFindSpec)

/-- 'laws.FnExactRibBest', WHERE WHAT IT READS IS OF BULK AT MOST 1048576: true; the input reads as it did. -/
def fnExactRibBestUptoRow : OpenClaim := { program := "ytkkhjeigndcmaab", sum := "db5268d81a15945f0c73a48a5bed12388b6fc96ab429b4687a17528a348886dd", func := "loop.example/g00634/laws.FnExactRibBest", spec := "fnExactRibBest", unfollowed := true, recurses := true, plainKeys := false, apart := false, narrowed := true }
def FnExactRibBestUptoSaid : Prop := fnExactRibBestUptoRow.holds Try.pinned (OpenSpec.upto fnExactRibBestSpec)

/-- 'laws.FnExactRibOwn', WHERE WHAT IT READS IS OF BULK AT MOST 1048576: true; the input reads as it did. -/
def fnExactRibOwnUptoRow : OpenClaim := { program := "ytkkhjeigndcmaab", sum := "db5268d81a15945f0c73a48a5bed12388b6fc96ab429b4687a17528a348886dd", func := "loop.example/g00634/laws.FnExactRibOwn", spec := "fnExactRibOwn", unfollowed := true, recurses := true, plainKeys := false, apart := false, narrowed := true }
def FnExactRibOwnUptoSaid : Prop := fnExactRibOwnUptoRow.holds Try.pinned (OpenSpec.upto fnExactRibOwnSpec)

/-- 'laws.FnExactRibLearn', WHERE WHAT IT READS IS OF BULK AT MOST 1048576: true; the input reads as it did. -/
def fnExactRibLearnUptoRow : OpenClaim := { program := "ytkkhjeigndcmaab", sum := "db5268d81a15945f0c73a48a5bed12388b6fc96ab429b4687a17528a348886dd", func := "loop.example/g00634/laws.FnExactRibLearn", spec := "fnExactRibLearn", unfollowed := true, recurses := true, plainKeys := false, apart := false, narrowed := true }
def FnExactRibLearnUptoSaid : Prop := fnExactRibLearnUptoRow.holds Try.pinned (OpenSpec.upto fnExactRibLearnSpec)

/-- 'laws.FnExactRibTick', WHERE WHAT IT READS IS OF BULK AT MOST 1048576: true; the input reads as it did. -/
def fnExactRibTickUptoRow : OpenClaim := { program := "ytkkhjeigndcmaab", sum := "db5268d81a15945f0c73a48a5bed12388b6fc96ab429b4687a17528a348886dd", func := "loop.example/g00634/laws.FnExactRibTick", spec := "fnExactRibTick", unfollowed := true, recurses := true, plainKeys := false, apart := false, narrowed := true }
def FnExactRibTickUptoSaid : Prop := fnExactRibTickUptoRow.holds Try.pinned (OpenSpec.upto fnExactRibTickSpec)

end Rows
end Go.Proofs.Ytkkhjeigndcmaab
