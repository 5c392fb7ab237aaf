/-
  No cell of these rows narrows 'for every input' (looked for: loops, veiled, ifaces, maps, wideKeys, modest, calm, conditions, laid).
  DERIVED. THE GIVEN ROWS OF THIS SEAT. 6 by the template 'for every input the law returns true; each argument reads behind the call as it read before'; 0 by the template 'total and deterministic' (their statements: YtaledidomgelcaaTotals.lean).
  GIVEN WITH THE SEED: the statements are not yours to turn. If you find one false, say at which input.
  Laid BY PROGRAM, IN A SANDBOX (cutbox-rows.mjs): the forced cells as the released guide's own fill.sh prints them over the translation b0f3ce64a8654a19… (all of the seat's roots in one cut). By AI agents, Wed Nov 11 2026. No macro, syntax, notation, axiom, sorry.
-/
import Derived.Test.YtaledidomgelcaaChecked
import GoSem.Claim
import GoSem.ClaimJoined
import GoSem.ClaimMapViews
import Derived.JoinedTies
import Derived.KernelRfl
namespace Go.Proofs.Ytaledidomgelcaa
/- THE CELL 'sum', in the pinned program and in every row, IS THE sha256 OF THE DUMP (.gsa) THAT YtaledidomgelcaaProg.lean LOADS. Nothing in Lean hashes anything: it is a label: what it is worth is what the hold of that sum in a sandbox is worth. -/
noncomputable def Try.pinned : Pinned := { name := "ytaledidomgelcaa", sum := "b0f3ce64a8654a190f25b289746793847e513a8d3c133c7f4be353c0837f1129", checked := Try.checked }
namespace Rows
def none {H : Type} : Left H := { results := [], args := [] }

/-- 'laws.FnExactRibOwn': WHATEVER THE INPUT: true; the input reads as it did. -/
def fnExactRibOwnSpec : ChangeSpec := { name := "fnExactRibOwn", fn := fun _ => fun
  | [d1, d2, d3] => { results := [.lit (.bool true)], args := [d1, d2, d3] }
  | _ => none }
def fnExactRibOwnRow : OpenClaim := { program := "ytaledidomgelcaa", sum := "b0f3ce64a8654a190f25b289746793847e513a8d3c133c7f4be353c0837f1129", func := "loop.example/g00634/laws.FnExactRibOwn", spec := "fnExactRibOwn", unfollowed := true, recurses := true, plainKeys := false, apart := false }
def FnExactRibOwnSaid : Prop := fnExactRibOwnRow.holds Try.pinned (OpenSpec.ofChange fnExactRibOwnSpec)

/-- ITS FALSE NEIGHBOUR: 'it returns false'. Refute it at one input. -/
def fnExactRibOwnWrong : ChangeSpec := { name := "fnExactRibOwn", fn := fun _ => fun
  | [d1, d2, d3] => { results := [.lit (.bool false)], args := [d1, d2, d3] }
  | _ => none }
def FnExactRibOwnWrongFalsely : Prop := fnExactRibOwnRow.holds Try.pinned (OpenSpec.ofChange fnExactRibOwnWrong)

/-- 'laws.FnExactRibLearn': WHATEVER THE INPUT: true; the input reads as it did. -/
def fnExactRibLearnSpec : ChangeSpec := { name := "fnExactRibLearn", fn := fun _ => fun
  | [d1, d2, d3] => { results := [.lit (.bool true)], args := [d1, d2, d3] }
  | _ => none }
def fnExactRibLearnRow : OpenClaim := { program := "ytaledidomgelcaa", sum := "b0f3ce64a8654a190f25b289746793847e513a8d3c133c7f4be353c0837f1129", func := "loop.example/g00634/laws.FnExactRibLearn", spec := "fnExactRibLearn", unfollowed := true, recurses := true, plainKeys := false, apart := false }
def FnExactRibLearnSaid : Prop := fnExactRibLearnRow.holds Try.pinned (OpenSpec.ofChange fnExactRibLearnSpec)

/-- ITS FALSE NEIGHBOUR: 'it returns false'. Refute it at one input. -/
def fnExactRibLearnWrong : ChangeSpec := { name := "fnExactRibLearn", fn := fun _ => fun
  | [d1, d2, d3] => { results := [.lit (.bool false)], args := [d1, d2, d3] }
  | _ => none }
def FnExactRibLearnWrongFalsely : Prop := fnExactRibLearnRow.holds Try.pinned (OpenSpec.ofChange fnExactRibLearnWrong)

/-- 'laws.FnExactRibTick': WHATEVER THE INPUT: true; the input reads as it did. -/
def fnExactRibTickSpec : ChangeSpec := { name := "fnExactRibTick", fn := fun _ => fun
  | [d1, d2] => { results := [.lit (.bool true)], args := [d1, d2] }
  | _ => none }
def fnExactRibTickRow : OpenClaim := { program := "ytaledidomgelcaa", sum := "b0f3ce64a8654a190f25b289746793847e513a8d3c133c7f4be353c0837f1129", func := "loop.example/g00634/laws.FnExactRibTick", spec := "fnExactRibTick", unfollowed := true, recurses := true, plainKeys := false, apart := false }
def FnExactRibTickSaid : Prop := fnExactRibTickRow.holds Try.pinned (OpenSpec.ofChange fnExactRibTickSpec)

/-- ITS FALSE NEIGHBOUR: 'it returns false'. Refute it at one input. -/
def fnExactRibTickWrong : ChangeSpec := { name := "fnExactRibTick", fn := fun _ => fun
  | [d1, d2] => { results := [.lit (.bool false)], args := [d1, d2] }
  | _ => none }
def FnExactRibTickWrongFalsely : Prop := fnExactRibTickRow.holds Try.pinned (OpenSpec.ofChange fnExactRibTickWrong)

/-- 'laws.FnExactRibQuiet': WHATEVER THE INPUT: true; the input reads as it did. -/
def fnExactRibQuietSpec : ChangeSpec := { name := "fnExactRibQuiet", fn := fun _ => fun
  | [d] => { results := [.lit (.bool true)], args := [d] }
  | _ => none }
def fnExactRibQuietRow : OpenClaim := { program := "ytaledidomgelcaa", sum := "b0f3ce64a8654a190f25b289746793847e513a8d3c133c7f4be353c0837f1129", func := "loop.example/g00634/laws.FnExactRibQuiet", spec := "fnExactRibQuiet", unfollowed := true, recurses := true, plainKeys := false, apart := false }
def FnExactRibQuietSaid : Prop := fnExactRibQuietRow.holds Try.pinned (OpenSpec.ofChange fnExactRibQuietSpec)

/-- ITS FALSE NEIGHBOUR: 'it returns false'. Refute it at one input. -/
def fnExactRibQuietWrong : ChangeSpec := { name := "fnExactRibQuiet", fn := fun _ => fun
  | [d] => { results := [.lit (.bool false)], args := [d] }
  | _ => none }
def FnExactRibQuietWrongFalsely : Prop := fnExactRibQuietRow.holds Try.pinned (OpenSpec.ofChange fnExactRibQuietWrong)

/-- 'laws.FnExactIfaceRight': WHATEVER THE INPUT: true; the input reads as it did. -/
def fnExactIfaceRightSpec : ChangeSpec := { name := "fnExactIfaceRight", fn := fun _ => fun
  | [d] => { results := [.lit (.bool true)], args := [d] }
  | _ => none }
def fnExactIfaceRightRow : OpenClaim := { program := "ytaledidomgelcaa", sum := "b0f3ce64a8654a190f25b289746793847e513a8d3c133c7f4be353c0837f1129", func := "loop.example/g00634/laws.FnExactIfaceRight", spec := "fnExactIfaceRight", plainKeys := false, apart := false }
def FnExactIfaceRightSaid : Prop := fnExactIfaceRightRow.holds Try.pinned (OpenSpec.ofChange fnExactIfaceRightSpec)

/-- ITS FALSE NEIGHBOUR: 'it returns false'. Refute it at one input. -/
def fnExactIfaceRightWrong : ChangeSpec := { name := "fnExactIfaceRight", fn := fun _ => fun
  | [d] => { results := [.lit (.bool false)], args := [d] }
  | _ => none }
def FnExactIfaceRightWrongFalsely : Prop := fnExactIfaceRightRow.holds Try.pinned (OpenSpec.ofChange fnExactIfaceRightWrong)

/-- 'laws.FnExactInstRight': WHATEVER THE INPUT: true; the input reads as it did. -/
def fnExactInstRightSpec : ChangeSpec := { name := "fnExactInstRight", fn := fun _ => fun
  | [d] => { results := [.lit (.bool true)], args := [d] }
  | _ => none }
def fnExactInstRightRow : OpenClaim := { program := "ytaledidomgelcaa", sum := "b0f3ce64a8654a190f25b289746793847e513a8d3c133c7f4be353c0837f1129", func := "loop.example/g00634/laws.FnExactInstRight", spec := "fnExactInstRight", plainKeys := false, apart := false }
def FnExactInstRightSaid : Prop := fnExactInstRightRow.holds Try.pinned (OpenSpec.ofChange fnExactInstRightSpec)

/-- ITS FALSE NEIGHBOUR: 'it returns false'. Refute it at one input. -/
def fnExactInstRightWrong : ChangeSpec := { name := "fnExactInstRight", fn := fun _ => fun
  | [d] => { results := [.lit (.bool false)], args := [d] }
  | _ => none }
def FnExactInstRightWrongFalsely : Prop := fnExactInstRightRow.holds Try.pinned (OpenSpec.ofChange fnExactInstRightWrong)

/- THE SECOND FORM. 'bulk': how many values and letters a reading holds, each counted each time it is reached (what is shared counts as often as it is met; a slice's spare places count too). A statement '..UptoSaid' is the law's where the arguments, and the package variables that the reading takes, are together of bulk at most 1048576: NARROWER than '..Said'. Prove '..Said' where nothing that the law and all that it calls make is longer than what came in: it says more and counts as full. Else prove '..UptoSaid'. A law counts once. -/
mutual
def uptoBulk {H : Type} : DataW H → Nat
  | .lit (.string bytes) => bytes.length + 1
  | .lit _ => 1
  | .nil => 1
  | .ptr d => uptoBulk d + 1
  | .slice elems spare => uptoBulkAll elems + uptoBulkAll spare + 1
  | .agg parts => uptoBulkAll parts + 1
  | .iface _ d => uptoBulk d + 1
  | .map entries => uptoBulkEntries entries + 1
  | .held _ => 1
def uptoBulkAll {H : Type} : List (DataW H) → Nat
  | [] => 0
  | d :: r => uptoBulk d + uptoBulkAll r
def uptoBulkEntries {H : Type} : List (Lit × DataW H) → Nat
  | [] => 0
  | x :: r => uptoBulkEntry x + uptoBulkEntries r
def uptoBulkEntry {H : Type} : Lit × DataW H → Nat
  | (.string bytes, d) => bytes.length + uptoBulk d + 1
  | (_, d) => uptoBulk d + 1
 end
def uptoSmall : (H : Type) → List (DataW H) → Bool := fun _ ds => decide (uptoBulkAll ds ≤ 1048576)
def OpenSpec.upto (s : _root_.Go.ChangeSpec) : _root_.Go.OpenSpec := { _root_.Go.OpenSpec.ofChange s with cond := some uptoSmall }

/-- 'laws.FnExactRibOwn', WHERE WHAT IT READS IS OF BULK AT MOST 1048576: true; the input reads as it did. -/
def fnExactRibOwnUptoRow : OpenClaim := { program := "ytaledidomgelcaa", sum := "b0f3ce64a8654a190f25b289746793847e513a8d3c133c7f4be353c0837f1129", func := "loop.example/g00634/laws.FnExactRibOwn", spec := "fnExactRibOwn", unfollowed := true, recurses := true, plainKeys := false, apart := false, narrowed := true }
def FnExactRibOwnUptoSaid : Prop := fnExactRibOwnUptoRow.holds Try.pinned (OpenSpec.upto fnExactRibOwnSpec)

/-- 'laws.FnExactRibLearn', WHERE WHAT IT READS IS OF BULK AT MOST 1048576: true; the input reads as it did. -/
def fnExactRibLearnUptoRow : OpenClaim := { program := "ytaledidomgelcaa", sum := "b0f3ce64a8654a190f25b289746793847e513a8d3c133c7f4be353c0837f1129", func := "loop.example/g00634/laws.FnExactRibLearn", spec := "fnExactRibLearn", unfollowed := true, recurses := true, plainKeys := false, apart := false, narrowed := true }
def FnExactRibLearnUptoSaid : Prop := fnExactRibLearnUptoRow.holds Try.pinned (OpenSpec.upto fnExactRibLearnSpec)

/-- 'laws.FnExactRibTick', WHERE WHAT IT READS IS OF BULK AT MOST 1048576: true; the input reads as it did. -/
def fnExactRibTickUptoRow : OpenClaim := { program := "ytaledidomgelcaa", sum := "b0f3ce64a8654a190f25b289746793847e513a8d3c133c7f4be353c0837f1129", func := "loop.example/g00634/laws.FnExactRibTick", spec := "fnExactRibTick", unfollowed := true, recurses := true, plainKeys := false, apart := false, narrowed := true }
def FnExactRibTickUptoSaid : Prop := fnExactRibTickUptoRow.holds Try.pinned (OpenSpec.upto fnExactRibTickSpec)

/-- 'laws.FnExactRibQuiet', WHERE WHAT IT READS IS OF BULK AT MOST 1048576: true; the input reads as it did. -/
def fnExactRibQuietUptoRow : OpenClaim := { program := "ytaledidomgelcaa", sum := "b0f3ce64a8654a190f25b289746793847e513a8d3c133c7f4be353c0837f1129", func := "loop.example/g00634/laws.FnExactRibQuiet", spec := "fnExactRibQuiet", unfollowed := true, recurses := true, plainKeys := false, apart := false, narrowed := true }
def FnExactRibQuietUptoSaid : Prop := fnExactRibQuietUptoRow.holds Try.pinned (OpenSpec.upto fnExactRibQuietSpec)

/-- 'laws.FnExactIfaceRight', WHERE WHAT IT READS IS OF BULK AT MOST 1048576: true; the input reads as it did. -/
def fnExactIfaceRightUptoRow : OpenClaim := { program := "ytaledidomgelcaa", sum := "b0f3ce64a8654a190f25b289746793847e513a8d3c133c7f4be353c0837f1129", func := "loop.example/g00634/laws.FnExactIfaceRight", spec := "fnExactIfaceRight", plainKeys := false, apart := false, narrowed := true }
def FnExactIfaceRightUptoSaid : Prop := fnExactIfaceRightUptoRow.holds Try.pinned (OpenSpec.upto fnExactIfaceRightSpec)

/-- 'laws.FnExactInstRight', WHERE WHAT IT READS IS OF BULK AT MOST 1048576: true; the input reads as it did. -/
def fnExactInstRightUptoRow : OpenClaim := { program := "ytaledidomgelcaa", sum := "b0f3ce64a8654a190f25b289746793847e513a8d3c133c7f4be353c0837f1129", func := "loop.example/g00634/laws.FnExactInstRight", spec := "fnExactInstRight", plainKeys := false, apart := false, narrowed := true }
def FnExactInstRightUptoSaid : Prop := fnExactInstRightUptoRow.holds Try.pinned (OpenSpec.upto fnExactInstRightSpec)

end Rows
end Go.Proofs.Ytaledidomgelcaa
