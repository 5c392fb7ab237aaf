/-
  DERIVED. GIVEN WITH THE SEED: THE CARDS: each row of YtkkhjeigndcmaaaDoorRows.lean that lists a variable, with what it lists TIED to the program's text (the seventh form; the later family's looks); each row that meets fmt, with fmt's text TOLD by the authors' own Lean function (tested against real Go, not proved from fmt's source: count such statements apart). THE CARD IS WHAT COUNTS. Prove the row's statement (the work); the ties are given (YtkkhjeigndcmaaaDoorTie.lean); close each card by the builder's one call (the guide's Derived/Test/ToyasCard.lean, 'card_holds'). Laid BY PROGRAM, IN A SANDBOX (cutbox-door.mjs). By AI agents, Wed Nov 11 2026. No macro, syntax, notation, axiom, sorry.
-/
import Derived.Test.YtkkhjeigndcmaaaDoorRows
import GoSem.ClaimSeven
namespace Go.Proofs.YtkkhjeigndcmaaaDoor
namespace Rows

/-- THE TIED CARD OF 'laws.FnExactRipOpen'. -/
def fnExactRipOpenCard : Claim7 := { stood := { row := fnExactRipOpenRow, standIns := [], harness := (true, "26db03e1941bd4fe6926562a76b3d10b4cb280037f6cba742950befdac1b6b37"), looks := true }, kinds := [], alts := [], laidByText := true, laidKinds := [.data, .sentinel, .sentinel, .sentinel, .sentinel, .sentinel, .sentinel], laidTests := true, laidLooks := .later }
def FnExactRipOpenCardSaid : Prop := Claim7.holds Tryd.pinned (.plain (OpenSpec.ofChange fnExactRipOpenSpec)) fnExactRipOpenCard

/-- THE SECOND FORM's CARD OF 'laws.FnExactRipOpen'. -/
def fnExactRipOpenUptoCard : Claim7 := { stood := { row := fnExactRipOpenUptoRow, standIns := [], harness := (true, "26db03e1941bd4fe6926562a76b3d10b4cb280037f6cba742950befdac1b6b37"), looks := true }, kinds := [], alts := [], laidByText := true, laidKinds := [.data, .sentinel, .sentinel, .sentinel, .sentinel, .sentinel, .sentinel], laidTests := true, laidLooks := .later }
def FnExactRipOpenUptoCardSaid : Prop := Claim7.holds Tryd.pinned (.plain (OpenSpec.upto fnExactRipOpenSpec)) fnExactRipOpenUptoCard
end Rows
end Go.Proofs.YtkkhjeigndcmaaaDoor
