/-
  No cell of these rows narrows 'for every input' (looked for: loops, veiled, ifaces, maps, wideKeys, modest, calm, conditions, laid).
  DERIVED. THE GIVEN ROWS OF THIS SEAT. 6 by the template 'for every input the law returns true; each argument reads behind the call as it read before'; 0 by the template 'total and deterministic' (their statements: YtifckpncpjijiaaGreatTotals.lean).
  GIVEN WITH THE SEED: the statements are not yours to turn. If you find one false, say at which input.
  Laid BY PROGRAM, IN A SANDBOX (cutbox-rows.mjs): the forced cells as the released guide's own fill.sh prints them over the translation 4fc313861bf953d9… (all of the seat's roots in one cut). By AI agents, Wed Nov 11 2026. No macro, syntax, notation, axiom, sorry.
-/
import Derived.Test.YtifckpncpjijiaaGreatChecked
import GoSem.Claim
import GoSem.ClaimJoined
import GoSem.ClaimMapViews
import Derived.JoinedTies
import Derived.KernelRfl
namespace Go.Proofs.YtifckpncpjijiaaGreat
/- THE CELL 'sum', in the pinned program and in every row, IS THE sha256 OF THE DUMP (.gsa) THAT YtifckpncpjijiaaGreatProg.lean LOADS. Nothing in Lean hashes anything: it is a label: what it is worth is what the hold of that sum in a sandbox is worth. -/
noncomputable def Tryz.pinned : Pinned := { name := "ytifckpncpjijiaagreat", sum := "4fc313861bf953d96e6c7236646e090860d2140955928e6c9c8b8487851eb569", checked := Tryz.checked }
namespace Rows
def none {H : Type} : Left H := { results := [], args := [] }

/-- 'laws.FnExactHearRip': WHATEVER THE INPUT: true; the input reads as it did. -/
def fnExactHearRipSpec : ChangeSpec := { name := "fnExactHearRip", fn := fun _ => fun
  | [d1, d2, d3, d4] => { results := [.lit (.bool true)], args := [d1, d2, d3, d4] }
  | _ => none }
def fnExactHearRipRow : OpenClaim := { program := "ytifckpncpjijiaagreat", sum := "4fc313861bf953d96e6c7236646e090860d2140955928e6c9c8b8487851eb569", func := "loop.example/g00634/laws.FnExactHearRip", spec := "fnExactHearRip", unfollowed := true, recurses := true, plainKeys := false, apart := false }
def FnExactHearRipSaid : Prop := fnExactHearRipRow.holds Tryz.pinned (OpenSpec.ofChange fnExactHearRipSpec)

/-- ITS FALSE NEIGHBOUR: 'it returns false'. Refute it at one input. -/
def fnExactHearRipWrong : ChangeSpec := { name := "fnExactHearRip", fn := fun _ => fun
  | [d1, d2, d3, d4] => { results := [.lit (.bool false)], args := [d1, d2, d3, d4] }
  | _ => none }
def FnExactHearRipWrongFalsely : Prop := fnExactHearRipRow.holds Tryz.pinned (OpenSpec.ofChange fnExactHearRipWrong)

/-- 'laws.FnExactStep': WHATEVER THE INPUT: true; the input reads as it did. -/
def fnExactStepSpec : ChangeSpec := { name := "fnExactStep", fn := fun _ => fun
  | [d] => { results := [.lit (.bool true)], args := [d] }
  | _ => none }
def fnExactStepRow : OpenClaim := { program := "ytifckpncpjijiaagreat", sum := "4fc313861bf953d96e6c7236646e090860d2140955928e6c9c8b8487851eb569", func := "loop.example/g00634/laws.FnExactStep", spec := "fnExactStep", unfollowed := true, recurses := true, plainKeys := false, apart := false }
def FnExactStepSaid : Prop := fnExactStepRow.holds Tryz.pinned (OpenSpec.ofChange fnExactStepSpec)

/-- ITS FALSE NEIGHBOUR: 'it returns false'. Refute it at one input. -/
def fnExactStepWrong : ChangeSpec := { name := "fnExactStep", fn := fun _ => fun
  | [d] => { results := [.lit (.bool false)], args := [d] }
  | _ => none }
def FnExactStepWrongFalsely : Prop := fnExactStepRow.holds Tryz.pinned (OpenSpec.ofChange fnExactStepWrong)

/-- 'laws.FnExactDown': WHATEVER THE INPUT: true; the input reads as it did. -/
def fnExactDownSpec : ChangeSpec := { name := "fnExactDown", fn := fun _ => fun
  | [d1, d2] => { results := [.lit (.bool true)], args := [d1, d2] }
  | _ => none }
def fnExactDownRow : OpenClaim := { program := "ytifckpncpjijiaagreat", sum := "4fc313861bf953d96e6c7236646e090860d2140955928e6c9c8b8487851eb569", func := "loop.example/g00634/laws.FnExactDown", spec := "fnExactDown", unfollowed := true, recurses := true, plainKeys := false, apart := false }
def FnExactDownSaid : Prop := fnExactDownRow.holds Tryz.pinned (OpenSpec.ofChange fnExactDownSpec)

/-- ITS FALSE NEIGHBOUR: 'it returns false'. Refute it at one input. -/
def fnExactDownWrong : ChangeSpec := { name := "fnExactDown", fn := fun _ => fun
  | [d1, d2] => { results := [.lit (.bool false)], args := [d1, d2] }
  | _ => none }
def FnExactDownWrongFalsely : Prop := fnExactDownRow.holds Tryz.pinned (OpenSpec.ofChange fnExactDownWrong)

/-- 'laws.FnExactUp': WHATEVER THE INPUT: true; the input reads as it did. -/
def fnExactUpSpec : ChangeSpec := { name := "fnExactUp", fn := fun _ => fun
  | [d1, d2] => { results := [.lit (.bool true)], args := [d1, d2] }
  | _ => none }
def fnExactUpRow : OpenClaim := { program := "ytifckpncpjijiaagreat", sum := "4fc313861bf953d96e6c7236646e090860d2140955928e6c9c8b8487851eb569", func := "loop.example/g00634/laws.FnExactUp", spec := "fnExactUp", unfollowed := true, recurses := true, plainKeys := false, apart := false }
def FnExactUpSaid : Prop := fnExactUpRow.holds Tryz.pinned (OpenSpec.ofChange fnExactUpSpec)

/-- ITS FALSE NEIGHBOUR: 'it returns false'. Refute it at one input. -/
def fnExactUpWrong : ChangeSpec := { name := "fnExactUp", fn := fun _ => fun
  | [d1, d2] => { results := [.lit (.bool false)], args := [d1, d2] }
  | _ => none }
def FnExactUpWrongFalsely : Prop := fnExactUpRow.holds Tryz.pinned (OpenSpec.ofChange fnExactUpWrong)

/-- 'laws.FnExactSettle': WHATEVER THE INPUT: true; the input reads as it did. -/
def fnExactSettleSpec : ChangeSpec := { name := "fnExactSettle", fn := fun _ => fun
  | [d] => { results := [.lit (.bool true)], args := [d] }
  | _ => none }
def fnExactSettleRow : OpenClaim := { program := "ytifckpncpjijiaagreat", sum := "4fc313861bf953d96e6c7236646e090860d2140955928e6c9c8b8487851eb569", func := "loop.example/g00634/laws.FnExactSettle", spec := "fnExactSettle", unfollowed := true, recurses := true, plainKeys := false, apart := false }
def FnExactSettleSaid : Prop := fnExactSettleRow.holds Tryz.pinned (OpenSpec.ofChange fnExactSettleSpec)

/-- ITS FALSE NEIGHBOUR: 'it returns false'. Refute it at one input. -/
def fnExactSettleWrong : ChangeSpec := { name := "fnExactSettle", fn := fun _ => fun
  | [d] => { results := [.lit (.bool false)], args := [d] }
  | _ => none }
def FnExactSettleWrongFalsely : Prop := fnExactSettleRow.holds Tryz.pinned (OpenSpec.ofChange fnExactSettleWrong)

/-- 'laws.FnExactLeakOnce': WHATEVER THE INPUT: true; the input reads as it did. -/
def fnExactLeakOnceSpec : ChangeSpec := { name := "fnExactLeakOnce", fn := fun _ => fun
  | [d1, d2, d3] => { results := [.lit (.bool true)], args := [d1, d2, d3] }
  | _ => none }
def fnExactLeakOnceRow : OpenClaim := { program := "ytifckpncpjijiaagreat", sum := "4fc313861bf953d96e6c7236646e090860d2140955928e6c9c8b8487851eb569", func := "loop.example/g00634/laws.FnExactLeakOnce", spec := "fnExactLeakOnce", unfollowed := true, recurses := true, plainKeys := false, apart := false }
def FnExactLeakOnceSaid : Prop := fnExactLeakOnceRow.holds Tryz.pinned (OpenSpec.ofChange fnExactLeakOnceSpec)

/-- ITS FALSE NEIGHBOUR: 'it returns false'. Refute it at one input. -/
def fnExactLeakOnceWrong : ChangeSpec := { name := "fnExactLeakOnce", fn := fun _ => fun
  | [d1, d2, d3] => { results := [.lit (.bool false)], args := [d1, d2, d3] }
  | _ => none }
def FnExactLeakOnceWrongFalsely : Prop := fnExactLeakOnceRow.holds Tryz.pinned (OpenSpec.ofChange fnExactLeakOnceWrong)

/- THE SECOND FORM. 'bulk': how many values and letters a reading holds, each counted each time it is reached (what is shared counts as often as it is met; a slice's spare places count too). A statement '..UptoSaid' is the law's where the arguments, and the package variables that the reading takes, are together of bulk at most 1048576: NARROWER than '..Said'. Prove '..Said' where nothing that the law and all that it calls make is longer than what came in: it says more and counts as full. Else prove '..UptoSaid'. A law counts once. -/
mutual
def uptoBulk {H : Type} : DataW H → Nat
  | .lit (.string bytes) => bytes.length + 1
  | .lit _ => 1
  | .nil => 1
  | .ptr d => uptoBulk d + 1
  | .slice elems spare => uptoBulkAll elems + uptoBulkAll spare + 1
  | .agg parts => uptoBulkAll parts + 1
  | .iface _ d => uptoBulk d + 1
  | .map entries => uptoBulkEntries entries + 1
  | .held _ => 1
def uptoBulkAll {H : Type} : List (DataW H) → Nat
  | [] => 0
  | d :: r => uptoBulk d + uptoBulkAll r
def uptoBulkEntries {H : Type} : List (Lit × DataW H) → Nat
  | [] => 0
  | x :: r => uptoBulkEntry x + uptoBulkEntries r
def uptoBulkEntry {H : Type} : Lit × DataW H → Nat
  | (.string bytes, d) => bytes.length + uptoBulk d + 1
  | (_, d) => uptoBulk d + 1
 end
def uptoSmall : (H : Type) → List (DataW H) → Bool := fun _ ds => decide (uptoBulkAll ds ≤ 1048576)
def OpenSpec.upto (s : _root_.Go.ChangeSpec) : _root_.Go.OpenSpec := { _root_.Go.OpenSpec.ofChange s with cond := some uptoSmall }

/-- 'laws.FnExactHearRip', WHERE WHAT IT READS IS OF BULK AT MOST 1048576: true; the input reads as it did. -/
def fnExactHearRipUptoRow : OpenClaim := { program := "ytifckpncpjijiaagreat", sum := "4fc313861bf953d96e6c7236646e090860d2140955928e6c9c8b8487851eb569", func := "loop.example/g00634/laws.FnExactHearRip", spec := "fnExactHearRip", unfollowed := true, recurses := true, plainKeys := false, apart := false, narrowed := true }
def FnExactHearRipUptoSaid : Prop := fnExactHearRipUptoRow.holds Tryz.pinned (OpenSpec.upto fnExactHearRipSpec)

/-- 'laws.FnExactStep', WHERE WHAT IT READS IS OF BULK AT MOST 1048576: true; the input reads as it did. -/
def fnExactStepUptoRow : OpenClaim := { program := "ytifckpncpjijiaagreat", sum := "4fc313861bf953d96e6c7236646e090860d2140955928e6c9c8b8487851eb569", func := "loop.example/g00634/laws.FnExactStep", spec := "fnExactStep", unfollowed := true, recurses := true, plainKeys := false, apart := false, narrowed := true }
def FnExactStepUptoSaid : Prop := fnExactStepUptoRow.holds Tryz.pinned (OpenSpec.upto fnExactStepSpec)

/-- 'laws.FnExactDown', WHERE WHAT IT READS IS OF BULK AT MOST 1048576: true; the input reads as it did. -/
def fnExactDownUptoRow : OpenClaim := { program := "ytifckpncpjijiaagreat", sum := "4fc313861bf953d96e6c7236646e090860d2140955928e6c9c8b8487851eb569", func := "loop.example/g00634/laws.FnExactDown", spec := "fnExactDown", unfollowed := true, recurses := true, plainKeys := false, apart := false, narrowed := true }
def FnExactDownUptoSaid : Prop := fnExactDownUptoRow.holds Tryz.pinned (OpenSpec.upto fnExactDownSpec)

/-- 'laws.FnExactUp', WHERE WHAT IT READS IS OF BULK AT MOST 1048576: true; the input reads as it did. -/
def fnExactUpUptoRow : OpenClaim := { program := "ytifckpncpjijiaagreat", sum := "4fc313861bf953d96e6c7236646e090860d2140955928e6c9c8b8487851eb569", func := "loop.example/g00634/laws.FnExactUp", spec := "fnExactUp", unfollowed := true, recurses := true, plainKeys := false, apart := false, narrowed := true }
def FnExactUpUptoSaid : Prop := fnExactUpUptoRow.holds Tryz.pinned (OpenSpec.upto fnExactUpSpec)

/-- 'laws.FnExactSettle', WHERE WHAT IT READS IS OF BULK AT MOST 1048576: true; the input reads as it did. -/
def fnExactSettleUptoRow : OpenClaim := { program := "ytifckpncpjijiaagreat", sum := "4fc313861bf953d96e6c7236646e090860d2140955928e6c9c8b8487851eb569", func := "loop.example/g00634/laws.FnExactSettle", spec := "fnExactSettle", unfollowed := true, recurses := true, plainKeys := false, apart := false, narrowed := true }
def FnExactSettleUptoSaid : Prop := fnExactSettleUptoRow.holds Tryz.pinned (OpenSpec.upto fnExactSettleSpec)

/-- 'laws.FnExactLeakOnce', WHERE WHAT IT READS IS OF BULK AT MOST 1048576: true; the input reads as it did. -/
def fnExactLeakOnceUptoRow : OpenClaim := { program := "ytifckpncpjijiaagreat", sum := "4fc313861bf953d96e6c7236646e090860d2140955928e6c9c8b8487851eb569", func := "loop.example/g00634/laws.FnExactLeakOnce", spec := "fnExactLeakOnce", unfollowed := true, recurses := true, plainKeys := false, apart := false, narrowed := true }
def FnExactLeakOnceUptoSaid : Prop := fnExactLeakOnceUptoRow.holds Tryz.pinned (OpenSpec.upto fnExactLeakOnceSpec)

end Rows
end Go.Proofs.YtifckpncpjijiaaGreat
