/-
  No cell of these rows narrows 'for every input' (looked for: loops, veiled, ifaces, maps, wideKeys, modest, calm, conditions, laid).
  DERIVED. THE GIVEN ROWS OF THIS SEAT. 4 by the template 'for every input the law returns true; each argument reads behind the call as it read before'; 0 by the template 'total and deterministic' (their statements: YtcnadobnihbldaaGreatTotals.lean).
  GIVEN WITH THE SEED: the statements are not yours to turn. If you find one false, say at which input.
  Laid BY PROGRAM, IN A SANDBOX (cutbox-rows.mjs): the forced cells as the released guide's own fill.sh prints them over the translation d5b65b61c2ca239c… (all of the seat's roots in one cut). By AI agents, Wed Nov 11 2026. No macro, syntax, notation, axiom, sorry.
-/
import Derived.Test.YtcnadobnihbldaaGreatChecked
import GoSem.Claim
import GoSem.ClaimJoined
import GoSem.ClaimMapViews
import Derived.JoinedTies
import Derived.KernelRfl
namespace Go.Proofs.YtcnadobnihbldaaGreat
/- THE CELL 'sum', in the pinned program and in every row, IS THE sha256 OF THE DUMP (.gsa) THAT YtcnadobnihbldaaGreatProg.lean LOADS. Nothing in Lean hashes anything: it is a label: what it is worth is what the hold of that sum in a sandbox is worth. -/
noncomputable def Tryz.pinned : Pinned := { name := "ytcnadobnihbldaagreat", sum := "d5b65b61c2ca239c24178209109530faa2f9c8a5e2b15586a1e68a6ed20f9085", checked := Tryz.checked }
namespace Rows
def none {H : Type} : Left H := { results := [], args := [] }

/-- 'laws.FnExactMeshNew': WHATEVER THE INPUT: true; the input reads as it did. -/
def fnExactMeshNewSpec : ChangeSpec := { name := "fnExactMeshNew", fn := fun _ => fun
  | [d1, d2, d3] => { results := [.lit (.bool true)], args := [d1, d2, d3] }
  | _ => none }
def fnExactMeshNewRow : OpenClaim := { program := "ytcnadobnihbldaagreat", sum := "d5b65b61c2ca239c24178209109530faa2f9c8a5e2b15586a1e68a6ed20f9085", func := "loop.example/g00634/laws.FnExactMeshNew", spec := "fnExactMeshNew", unfollowed := true, recurses := true, plainKeys := false, apart := false }
def FnExactMeshNewSaid : Prop := fnExactMeshNewRow.holds Tryz.pinned (OpenSpec.ofChange fnExactMeshNewSpec)

/-- ITS FALSE NEIGHBOUR: 'it returns false'. Refute it at one input. -/
def fnExactMeshNewWrong : ChangeSpec := { name := "fnExactMeshNew", fn := fun _ => fun
  | [d1, d2, d3] => { results := [.lit (.bool false)], args := [d1, d2, d3] }
  | _ => none }
def FnExactMeshNewWrongFalsely : Prop := fnExactMeshNewRow.holds Tryz.pinned (OpenSpec.ofChange fnExactMeshNewWrong)

/-- 'laws.FnExactMeshRound': WHATEVER THE INPUT: true; the input reads as it did. -/
def fnExactMeshRoundSpec : ChangeSpec := { name := "fnExactMeshRound", fn := fun _ => fun
  | [d1, d2] => { results := [.lit (.bool true)], args := [d1, d2] }
  | _ => none }
def fnExactMeshRoundRow : OpenClaim := { program := "ytcnadobnihbldaagreat", sum := "d5b65b61c2ca239c24178209109530faa2f9c8a5e2b15586a1e68a6ed20f9085", func := "loop.example/g00634/laws.FnExactMeshRound", spec := "fnExactMeshRound", unfollowed := true, recurses := true, plainKeys := false, apart := false }
def FnExactMeshRoundSaid : Prop := fnExactMeshRoundRow.holds Tryz.pinned (OpenSpec.ofChange fnExactMeshRoundSpec)

/-- ITS FALSE NEIGHBOUR: 'it returns false'. Refute it at one input. -/
def fnExactMeshRoundWrong : ChangeSpec := { name := "fnExactMeshRound", fn := fun _ => fun
  | [d1, d2] => { results := [.lit (.bool false)], args := [d1, d2] }
  | _ => none }
def FnExactMeshRoundWrongFalsely : Prop := fnExactMeshRoundRow.holds Tryz.pinned (OpenSpec.ofChange fnExactMeshRoundWrong)

/-- 'laws.FnExactMeshCut': WHATEVER THE INPUT: true; the input reads as it did. -/
def fnExactMeshCutSpec : ChangeSpec := { name := "fnExactMeshCut", fn := fun _ => fun
  | [d1, d2] => { results := [.lit (.bool true)], args := [d1, d2] }
  | _ => none }
def fnExactMeshCutRow : OpenClaim := { program := "ytcnadobnihbldaagreat", sum := "d5b65b61c2ca239c24178209109530faa2f9c8a5e2b15586a1e68a6ed20f9085", func := "loop.example/g00634/laws.FnExactMeshCut", spec := "fnExactMeshCut", unfollowed := true, recurses := true, plainKeys := false, apart := false }
def FnExactMeshCutSaid : Prop := fnExactMeshCutRow.holds Tryz.pinned (OpenSpec.ofChange fnExactMeshCutSpec)

/-- ITS FALSE NEIGHBOUR: 'it returns false'. Refute it at one input. -/
def fnExactMeshCutWrong : ChangeSpec := { name := "fnExactMeshCut", fn := fun _ => fun
  | [d1, d2] => { results := [.lit (.bool false)], args := [d1, d2] }
  | _ => none }
def FnExactMeshCutWrongFalsely : Prop := fnExactMeshCutRow.holds Tryz.pinned (OpenSpec.ofChange fnExactMeshCutWrong)

/-- 'laws.FnExactMeshJoin': WHATEVER THE INPUT: true; the input reads as it did. -/
def fnExactMeshJoinSpec : ChangeSpec := { name := "fnExactMeshJoin", fn := fun _ => fun
  | [d1, d2] => { results := [.lit (.bool true)], args := [d1, d2] }
  | _ => none }
def fnExactMeshJoinRow : OpenClaim := { program := "ytcnadobnihbldaagreat", sum := "d5b65b61c2ca239c24178209109530faa2f9c8a5e2b15586a1e68a6ed20f9085", func := "loop.example/g00634/laws.FnExactMeshJoin", spec := "fnExactMeshJoin", unfollowed := true, recurses := true, plainKeys := false, apart := false }
def FnExactMeshJoinSaid : Prop := fnExactMeshJoinRow.holds Tryz.pinned (OpenSpec.ofChange fnExactMeshJoinSpec)

/-- ITS FALSE NEIGHBOUR: 'it returns false'. Refute it at one input. -/
def fnExactMeshJoinWrong : ChangeSpec := { name := "fnExactMeshJoin", fn := fun _ => fun
  | [d1, d2] => { results := [.lit (.bool false)], args := [d1, d2] }
  | _ => none }
def FnExactMeshJoinWrongFalsely : Prop := fnExactMeshJoinRow.holds Tryz.pinned (OpenSpec.ofChange fnExactMeshJoinWrong)

/- THE SECOND FORM. 'bulk': how many values and letters a reading holds, each counted each time it is reached (what is shared counts as often as it is met; a slice's spare places count too). A statement '..UptoSaid' is the law's where the arguments, and the package variables that the reading takes, are together of bulk at most 1048576: NARROWER than '..Said'. Prove '..Said' where nothing that the law and all that it calls make is longer than what came in: it says more and counts as full. Else prove '..UptoSaid'. A law counts once. -/
mutual
def uptoBulk {H : Type} : DataW H → Nat
  | .lit (.string bytes) => bytes.length + 1
  | .lit _ => 1
  | .nil => 1
  | .ptr d => uptoBulk d + 1
  | .slice elems spare => uptoBulkAll elems + uptoBulkAll spare + 1
  | .agg parts => uptoBulkAll parts + 1
  | .iface _ d => uptoBulk d + 1
  | .map entries => uptoBulkEntries entries + 1
  | .held _ => 1
def uptoBulkAll {H : Type} : List (DataW H) → Nat
  | [] => 0
  | d :: r => uptoBulk d + uptoBulkAll r
def uptoBulkEntries {H : Type} : List (Lit × DataW H) → Nat
  | [] => 0
  | x :: r => uptoBulkEntry x + uptoBulkEntries r
def uptoBulkEntry {H : Type} : Lit × DataW H → Nat
  | (.string bytes, d) => bytes.length + uptoBulk d + 1
  | (_, d) => uptoBulk d + 1
 end
def uptoSmall : (H : Type) → List (DataW H) → Bool := fun _ ds => decide (uptoBulkAll ds ≤ 1048576)
def OpenSpec.upto (s : _root_.Go.ChangeSpec) : _root_.Go.OpenSpec := { _root_.Go.OpenSpec.ofChange s with cond := some uptoSmall }

/-- 'laws.FnExactMeshNew', WHERE WHAT IT READS IS OF BULK AT MOST 1048576: true; the input reads as it did. -/
def fnExactMeshNewUptoRow : OpenClaim := { program := "ytcnadobnihbldaagreat", sum := "d5b65b61c2ca239c24178209109530faa2f9c8a5e2b15586a1e68a6ed20f9085", func := "loop.example/g00634/laws.FnExactMeshNew", spec := "fnExactMeshNew", unfollowed := true, recurses := true, plainKeys := false, apart := false, narrowed := true }
def FnExactMeshNewUptoSaid : Prop := fnExactMeshNewUptoRow.holds Tryz.pinned (OpenSpec.upto fnExactMeshNewSpec)

/-- 'laws.FnExactMeshRound', WHERE WHAT IT READS IS OF BULK AT MOST 1048576: true; the input reads as it did. -/
def fnExactMeshRoundUptoRow : OpenClaim := { program := "ytcnadobnihbldaagreat", sum := "d5b65b61c2ca239c24178209109530faa2f9c8a5e2b15586a1e68a6ed20f9085", func := "loop.example/g00634/laws.FnExactMeshRound", spec := "fnExactMeshRound", unfollowed := true, recurses := true, plainKeys := false, apart := false, narrowed := true }
def FnExactMeshRoundUptoSaid : Prop := fnExactMeshRoundUptoRow.holds Tryz.pinned (OpenSpec.upto fnExactMeshRoundSpec)

/-- 'laws.FnExactMeshCut', WHERE WHAT IT READS IS OF BULK AT MOST 1048576: true; the input reads as it did. -/
def fnExactMeshCutUptoRow : OpenClaim := { program := "ytcnadobnihbldaagreat", sum := "d5b65b61c2ca239c24178209109530faa2f9c8a5e2b15586a1e68a6ed20f9085", func := "loop.example/g00634/laws.FnExactMeshCut", spec := "fnExactMeshCut", unfollowed := true, recurses := true, plainKeys := false, apart := false, narrowed := true }
def FnExactMeshCutUptoSaid : Prop := fnExactMeshCutUptoRow.holds Tryz.pinned (OpenSpec.upto fnExactMeshCutSpec)

/-- 'laws.FnExactMeshJoin', WHERE WHAT IT READS IS OF BULK AT MOST 1048576: true; the input reads as it did. -/
def fnExactMeshJoinUptoRow : OpenClaim := { program := "ytcnadobnihbldaagreat", sum := "d5b65b61c2ca239c24178209109530faa2f9c8a5e2b15586a1e68a6ed20f9085", func := "loop.example/g00634/laws.FnExactMeshJoin", spec := "fnExactMeshJoin", unfollowed := true, recurses := true, plainKeys := false, apart := false, narrowed := true }
def FnExactMeshJoinUptoSaid : Prop := fnExactMeshJoinUptoRow.holds Tryz.pinned (OpenSpec.upto fnExactMeshJoinSpec)

end Rows
end Go.Proofs.YtcnadobnihbldaaGreat
