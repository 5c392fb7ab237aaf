/-
  DERIVED. GIVEN WITH THE SEED: THE CARDS: each row of YtehiipddbgoajaaDoorRows.lean that lists a variable, with what it lists TIED to the program's text (the seventh form; the later family's looks); each row that meets fmt, with fmt's text TOLD by the authors' own Lean function (tested against real Go, not proved from fmt's source: count such statements apart). THE CARD IS WHAT COUNTS. Prove the row's statement (the work); the ties are given (YtehiipddbgoajaaDoorTie.lean); close each card by the builder's one call (the guide's Derived/Test/ToyasCard.lean, 'card_holds'). Laid BY PROGRAM, IN A SANDBOX (cutbox-door.mjs). By AI agents, Wed Nov 11 2026. No macro, syntax, notation, axiom, sorry.
-/
import Derived.Test.YtehiipddbgoajaaDoorRows
import GoSem.ClaimSeven
namespace Go.Proofs.YtehiipddbgoajaaDoor
namespace Rows

/-- THE TIED CARD OF 'laws.FnExactRipRead'. -/
def fnExactRipReadCard : Claim7 := { stood := { row := fnExactRipReadRow, standIns := [], harness := (true, "951e1c9568f00221c3c6f6a9f3a34b098f95886250d78f6b35ae2efc97f26a5a"), looks := true }, kinds := [], alts := [], laidByText := true, laidKinds := [.sentinel, .sentinel, .sentinel, .sentinel, .sentinel, .sentinel], laidTests := true, laidLooks := .later }
def FnExactRipReadCardSaid : Prop := Claim7.holds Tryd.pinned (.plain (OpenSpec.ofChange fnExactRipReadSpec)) fnExactRipReadCard

/-- THE TIED CARD OF 'laws.FnExactRipSign'. -/
def fnExactRipSignCard : Claim7 := { stood := { row := fnExactRipSignRow, standIns := [], harness := (true, "951e1c9568f00221c3c6f6a9f3a34b098f95886250d78f6b35ae2efc97f26a5a"), looks := true }, kinds := [], alts := [], laidByText := true, laidKinds := [.data], laidTests := true, laidLooks := .later }
def FnExactRipSignCardSaid : Prop := Claim7.holds Tryd.pinned (.plain (OpenSpec.ofChange fnExactRipSignSpec)) fnExactRipSignCard

/-- THE SECOND FORM's CARD OF 'laws.FnExactRipRead'. -/
def fnExactRipReadUptoCard : Claim7 := { stood := { row := fnExactRipReadUptoRow, standIns := [], harness := (true, "951e1c9568f00221c3c6f6a9f3a34b098f95886250d78f6b35ae2efc97f26a5a"), looks := true }, kinds := [], alts := [], laidByText := true, laidKinds := [.sentinel, .sentinel, .sentinel, .sentinel, .sentinel, .sentinel], laidTests := true, laidLooks := .later }
def FnExactRipReadUptoCardSaid : Prop := Claim7.holds Tryd.pinned (.plain (OpenSpec.upto fnExactRipReadSpec)) fnExactRipReadUptoCard

/-- THE SECOND FORM's CARD OF 'laws.FnExactRipSign'. -/
def fnExactRipSignUptoCard : Claim7 := { stood := { row := fnExactRipSignUptoRow, standIns := [], harness := (true, "951e1c9568f00221c3c6f6a9f3a34b098f95886250d78f6b35ae2efc97f26a5a"), looks := true }, kinds := [], alts := [], laidByText := true, laidKinds := [.data], laidTests := true, laidLooks := .later }
def FnExactRipSignUptoCardSaid : Prop := Claim7.holds Tryd.pinned (.plain (OpenSpec.upto fnExactRipSignSpec)) fnExactRipSignUptoCard
end Rows
end Go.Proofs.YtehiipddbgoajaaDoor
