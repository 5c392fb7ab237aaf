/-
  No cell of these rows narrows 'for every input' (looked for: loops, veiled, ifaces, maps, wideKeys, modest, calm, conditions, laid).
  DERIVED. THE GIVEN ROWS OF THIS SEAT. 6 by the template 'for every input the law returns true; each argument reads behind the call as it read before'; 0 by the template 'total and deterministic' (their statements: YtflmbkjnlgibnaaTotals.lean).
  GIVEN WITH THE SEED: the statements are not yours to turn. If you find one false, say at which input.
  Laid BY PROGRAM, IN A SANDBOX (cutbox-rows.mjs): the forced cells as the released guide's own fill.sh prints them over the translation e717d3f9a5204bd6… (all of the seat's roots in one cut). By AI agents, Wed Nov 11 2026. No macro, syntax, notation, axiom, sorry.
-/
import Derived.Test.YtflmbkjnlgibnaaChecked
import GoSem.Claim
import GoSem.ClaimJoined
import GoSem.ClaimMapViews
import Derived.JoinedTies
import Derived.KernelRfl
namespace Go.Proofs.Ytflmbkjnlgibnaa
/- THE CELL 'sum', in the pinned program and in every row, IS THE sha256 OF THE DUMP (.gsa) THAT YtflmbkjnlgibnaaProg.lean LOADS. Nothing in Lean hashes anything: it is a label: what it is worth is what the hold of that sum in a sandbox is worth. -/
noncomputable def Try.pinned : Pinned := { name := "ytflmbkjnlgibnaa", sum := "e717d3f9a5204bd69ab760f79210d1e6e80ac133093600b2a4f2fbd0530282fe", checked := Try.checked }
namespace Rows
def none {H : Type} : Left H := { results := [], args := [] }

/-- 'laws.FnExactInstRight': WHATEVER THE INPUT: true; the input reads as it did. -/
def fnExactInstRightSpec : ChangeSpec := { name := "fnExactInstRight", fn := fun _ => fun
  | [d] => { results := [.lit (.bool true)], args := [d] }
  | _ => none }
def fnExactInstRightRow : OpenClaim := { program := "ytflmbkjnlgibnaa", sum := "e717d3f9a5204bd69ab760f79210d1e6e80ac133093600b2a4f2fbd0530282fe", func := "loop.example/g00634/laws.FnExactInstRight", spec := "fnExactInstRight", plainKeys := false, apart := false }
def FnExactInstRightSaid : Prop := fnExactInstRightRow.holds Try.pinned (OpenSpec.ofChange fnExactInstRightSpec)

/-- ITS FALSE NEIGHBOUR: 'it returns false'. Refute it at one input. -/
def fnExactInstRightWrong : ChangeSpec := { name := "fnExactInstRight", fn := fun _ => fun
  | [d] => { results := [.lit (.bool false)], args := [d] }
  | _ => none }
def FnExactInstRightWrongFalsely : Prop := fnExactInstRightRow.holds Try.pinned (OpenSpec.ofChange fnExactInstRightWrong)

/-- 'laws.FnExactInstNew': WHATEVER THE INPUT: true; the input reads as it did. -/
def fnExactInstNewSpec : ChangeSpec := { name := "fnExactInstNew", fn := fun _ => fun
  | [d] => { results := [.lit (.bool true)], args := [d] }
  | _ => none }
def fnExactInstNewRow : OpenClaim := { program := "ytflmbkjnlgibnaa", sum := "e717d3f9a5204bd69ab760f79210d1e6e80ac133093600b2a4f2fbd0530282fe", func := "loop.example/g00634/laws.FnExactInstNew", spec := "fnExactInstNew", unfollowed := true, recurses := true, plainKeys := false, apart := false }
def FnExactInstNewSaid : Prop := fnExactInstNewRow.holds Try.pinned (OpenSpec.ofChange fnExactInstNewSpec)

/-- ITS FALSE NEIGHBOUR: 'it returns false'. Refute it at one input. -/
def fnExactInstNewWrong : ChangeSpec := { name := "fnExactInstNew", fn := fun _ => fun
  | [d] => { results := [.lit (.bool false)], args := [d] }
  | _ => none }
def FnExactInstNewWrongFalsely : Prop := fnExactInstNewRow.holds Try.pinned (OpenSpec.ofChange fnExactInstNewWrong)

/-- 'laws.FnExactNear': WHATEVER THE INPUT: true; the input reads as it did. -/
def fnExactNearSpec : ChangeSpec := { name := "fnExactNear", fn := fun _ => fun
  | [d1, d2, d3] => { results := [.lit (.bool true)], args := [d1, d2, d3] }
  | _ => none }
def fnExactNearRow : OpenClaim := { program := "ytflmbkjnlgibnaa", sum := "e717d3f9a5204bd69ab760f79210d1e6e80ac133093600b2a4f2fbd0530282fe", func := "loop.example/g00634/laws.FnExactNear", spec := "fnExactNear", plainKeys := false, apart := false }
def FnExactNearSaid : Prop := fnExactNearRow.holds Try.pinned (OpenSpec.ofChange fnExactNearSpec)

/-- ITS FALSE NEIGHBOUR: 'it returns false'. Refute it at one input. -/
def fnExactNearWrong : ChangeSpec := { name := "fnExactNear", fn := fun _ => fun
  | [d1, d2, d3] => { results := [.lit (.bool false)], args := [d1, d2, d3] }
  | _ => none }
def FnExactNearWrongFalsely : Prop := fnExactNearRow.holds Try.pinned (OpenSpec.ofChange fnExactNearWrong)

/-- 'laws.FnExactOffer': WHATEVER THE INPUT: true; the input reads as it did. -/
def fnExactOfferSpec : ChangeSpec := { name := "fnExactOffer", fn := fun _ => fun
  | [d1, d2, d3] => { results := [.lit (.bool true)], args := [d1, d2, d3] }
  | _ => none }
def fnExactOfferRow : OpenClaim := { program := "ytflmbkjnlgibnaa", sum := "e717d3f9a5204bd69ab760f79210d1e6e80ac133093600b2a4f2fbd0530282fe", func := "loop.example/g00634/laws.FnExactOffer", spec := "fnExactOffer", plainKeys := false, apart := false }
def FnExactOfferSaid : Prop := fnExactOfferRow.holds Try.pinned (OpenSpec.ofChange fnExactOfferSpec)

/-- ITS FALSE NEIGHBOUR: 'it returns false'. Refute it at one input. -/
def fnExactOfferWrong : ChangeSpec := { name := "fnExactOffer", fn := fun _ => fun
  | [d1, d2, d3] => { results := [.lit (.bool false)], args := [d1, d2, d3] }
  | _ => none }
def FnExactOfferWrongFalsely : Prop := fnExactOfferRow.holds Try.pinned (OpenSpec.ofChange fnExactOfferWrong)

/-- 'laws.FnExactLeakRight': WHATEVER THE INPUT: true; the input reads as it did. -/
def fnExactLeakRightSpec : ChangeSpec := { name := "fnExactLeakRight", fn := fun _ => fun
  | [d] => { results := [.lit (.bool true)], args := [d] }
  | _ => none }
def fnExactLeakRightRow : OpenClaim := { program := "ytflmbkjnlgibnaa", sum := "e717d3f9a5204bd69ab760f79210d1e6e80ac133093600b2a4f2fbd0530282fe", func := "loop.example/g00634/laws.FnExactLeakRight", spec := "fnExactLeakRight", plainKeys := false, apart := false }
def FnExactLeakRightSaid : Prop := fnExactLeakRightRow.holds Try.pinned (OpenSpec.ofChange fnExactLeakRightSpec)

/-- ITS FALSE NEIGHBOUR: 'it returns false'. Refute it at one input. -/
def fnExactLeakRightWrong : ChangeSpec := { name := "fnExactLeakRight", fn := fun _ => fun
  | [d] => { results := [.lit (.bool false)], args := [d] }
  | _ => none }
def FnExactLeakRightWrongFalsely : Prop := fnExactLeakRightRow.holds Try.pinned (OpenSpec.ofChange fnExactLeakRightWrong)

/-- 'laws.FnExactLeaksRight': WHATEVER THE INPUT: true; the input reads as it did. -/
def fnExactLeaksRightSpec : ChangeSpec := { name := "fnExactLeaksRight", fn := fun _ => fun
  | [d] => { results := [.lit (.bool true)], args := [d] }
  | _ => none }
def fnExactLeaksRightRow : OpenClaim := { program := "ytflmbkjnlgibnaa", sum := "e717d3f9a5204bd69ab760f79210d1e6e80ac133093600b2a4f2fbd0530282fe", func := "loop.example/g00634/laws.FnExactLeaksRight", spec := "fnExactLeaksRight", plainKeys := false, apart := false }
def FnExactLeaksRightSaid : Prop := fnExactLeaksRightRow.holds Try.pinned (OpenSpec.ofChange fnExactLeaksRightSpec)

/-- ITS FALSE NEIGHBOUR: 'it returns false'. Refute it at one input. -/
def fnExactLeaksRightWrong : ChangeSpec := { name := "fnExactLeaksRight", fn := fun _ => fun
  | [d] => { results := [.lit (.bool false)], args := [d] }
  | _ => none }
def FnExactLeaksRightWrongFalsely : Prop := fnExactLeaksRightRow.holds Try.pinned (OpenSpec.ofChange fnExactLeaksRightWrong)

/- THE SECOND FORM. 'bulk': how many values and letters a reading holds, each counted each time it is reached (what is shared counts as often as it is met; a slice's spare places count too). A statement '..UptoSaid' is the law's where the arguments, and the package variables that the reading takes, are together of bulk at most 1048576: NARROWER than '..Said'. Prove '..Said' where nothing that the law and all that it calls make is longer than what came in: it says more and counts as full. Else prove '..UptoSaid'. A law counts once. -/
mutual
def uptoBulk {H : Type} : DataW H → Nat
  | .lit (.string bytes) => bytes.length + 1
  | .lit _ => 1
  | .nil => 1
  | .ptr d => uptoBulk d + 1
  | .slice elems spare => uptoBulkAll elems + uptoBulkAll spare + 1
  | .agg parts => uptoBulkAll parts + 1
  | .iface _ d => uptoBulk d + 1
  | .map entries => uptoBulkEntries entries + 1
  | .held _ => 1
def uptoBulkAll {H : Type} : List (DataW H) → Nat
  | [] => 0
  | d :: r => uptoBulk d + uptoBulkAll r
def uptoBulkEntries {H : Type} : List (Lit × DataW H) → Nat
  | [] => 0
  | x :: r => uptoBulkEntry x + uptoBulkEntries r
def uptoBulkEntry {H : Type} : Lit × DataW H → Nat
  | (.string bytes, d) => bytes.length + uptoBulk d + 1
  | (_, d) => uptoBulk d + 1
 end
def uptoSmall : (H : Type) → List (DataW H) → Bool := fun _ ds => decide (uptoBulkAll ds ≤ 1048576)
def OpenSpec.upto (s : _root_.Go.ChangeSpec) : _root_.Go.OpenSpec := { _root_.Go.OpenSpec.ofChange s with cond := some uptoSmall }

/-- 'laws.FnExactInstRight', WHERE WHAT IT READS IS OF BULK AT MOST 1048576: true; the input reads as it did. -/
def fnExactInstRightUptoRow : OpenClaim := { program := "ytflmbkjnlgibnaa", sum := "e717d3f9a5204bd69ab760f79210d1e6e80ac133093600b2a4f2fbd0530282fe", func := "loop.example/g00634/laws.FnExactInstRight", spec := "fnExactInstRight", plainKeys := false, apart := false, narrowed := true }
def FnExactInstRightUptoSaid : Prop := fnExactInstRightUptoRow.holds Try.pinned (OpenSpec.upto fnExactInstRightSpec)

/-- 'laws.FnExactInstNew', WHERE WHAT IT READS IS OF BULK AT MOST 1048576: true; the input reads as it did. -/
def fnExactInstNewUptoRow : OpenClaim := { program := "ytflmbkjnlgibnaa", sum := "e717d3f9a5204bd69ab760f79210d1e6e80ac133093600b2a4f2fbd0530282fe", func := "loop.example/g00634/laws.FnExactInstNew", spec := "fnExactInstNew", unfollowed := true, recurses := true, plainKeys := false, apart := false, narrowed := true }
def FnExactInstNewUptoSaid : Prop := fnExactInstNewUptoRow.holds Try.pinned (OpenSpec.upto fnExactInstNewSpec)

/-- 'laws.FnExactNear', WHERE WHAT IT READS IS OF BULK AT MOST 1048576: true; the input reads as it did. -/
def fnExactNearUptoRow : OpenClaim := { program := "ytflmbkjnlgibnaa", sum := "e717d3f9a5204bd69ab760f79210d1e6e80ac133093600b2a4f2fbd0530282fe", func := "loop.example/g00634/laws.FnExactNear", spec := "fnExactNear", plainKeys := false, apart := false, narrowed := true }
def FnExactNearUptoSaid : Prop := fnExactNearUptoRow.holds Try.pinned (OpenSpec.upto fnExactNearSpec)

/-- 'laws.FnExactOffer', WHERE WHAT IT READS IS OF BULK AT MOST 1048576: true; the input reads as it did. -/
def fnExactOfferUptoRow : OpenClaim := { program := "ytflmbkjnlgibnaa", sum := "e717d3f9a5204bd69ab760f79210d1e6e80ac133093600b2a4f2fbd0530282fe", func := "loop.example/g00634/laws.FnExactOffer", spec := "fnExactOffer", plainKeys := false, apart := false, narrowed := true }
def FnExactOfferUptoSaid : Prop := fnExactOfferUptoRow.holds Try.pinned (OpenSpec.upto fnExactOfferSpec)

/-- 'laws.FnExactLeakRight', WHERE WHAT IT READS IS OF BULK AT MOST 1048576: true; the input reads as it did. -/
def fnExactLeakRightUptoRow : OpenClaim := { program := "ytflmbkjnlgibnaa", sum := "e717d3f9a5204bd69ab760f79210d1e6e80ac133093600b2a4f2fbd0530282fe", func := "loop.example/g00634/laws.FnExactLeakRight", spec := "fnExactLeakRight", plainKeys := false, apart := false, narrowed := true }
def FnExactLeakRightUptoSaid : Prop := fnExactLeakRightUptoRow.holds Try.pinned (OpenSpec.upto fnExactLeakRightSpec)

/-- 'laws.FnExactLeaksRight', WHERE WHAT IT READS IS OF BULK AT MOST 1048576: true; the input reads as it did. -/
def fnExactLeaksRightUptoRow : OpenClaim := { program := "ytflmbkjnlgibnaa", sum := "e717d3f9a5204bd69ab760f79210d1e6e80ac133093600b2a4f2fbd0530282fe", func := "loop.example/g00634/laws.FnExactLeaksRight", spec := "fnExactLeaksRight", plainKeys := false, apart := false, narrowed := true }
def FnExactLeaksRightUptoSaid : Prop := fnExactLeaksRightUptoRow.holds Try.pinned (OpenSpec.upto fnExactLeaksRightSpec)

end Rows
end Go.Proofs.Ytflmbkjnlgibnaa
