/-
  DERIVED. GIVEN WITH THE SEED: THE CARDS: each row of YtialedffpaoacaaGreatDoorRows.lean that lists a variable, with what it lists TIED to the program's text (the seventh form; the later family's looks); each row that meets fmt, with fmt's text TOLD by the authors' own Lean function (tested against real Go, not proved from fmt's source: count such statements apart). THE CARD IS WHAT COUNTS. Prove the row's statement (the work); the ties are given (YtialedffpaoacaaGreatDoorTie.lean); close each card by the builder's one call (the guide's Derived/Test/ToyasCard.lean, 'card_holds'). Laid BY PROGRAM, IN A SANDBOX (cutbox-door.mjs). By AI agents, Wed Nov 11 2026. No macro, syntax, notation, axiom, sorry.
-/
import Derived.Test.YtialedffpaoacaaGreatDoorRows
import GoSem.ClaimSeven
namespace Go.Proofs.YtialedffpaoacaaGreatDoor
namespace Rows

/-- THE TIED CARD OF 'laws.FnExactWrap'. -/
def fnExactWrapCard : Claim7 := { stood := { row := fnExactWrapRow, standIns := [], harness := (true, "2cae575e27e742cea01cdf184ce427e3e453c6a4f12fe2f692170a20b7b0c49b"), looks := false }, kinds := [], alts := [], laidByText := true, laidKinds := [.data], laidTests := true, laidLooks := .later }
def FnExactWrapCardSaid : Prop := Claim7.holds Tryz.pinned (.plain (OpenSpec.ofChange fnExactWrapSpec)) fnExactWrapCard

/-- THE TIED CARD OF 'laws.FnExactDeskBox'. -/
def fnExactDeskBoxCard : Claim7 := { stood := { row := fnExactDeskBoxRow, standIns := [], harness := (true, "2cae575e27e742cea01cdf184ce427e3e453c6a4f12fe2f692170a20b7b0c49b"), looks := false }, kinds := [], alts := [], laidByText := true, laidKinds := [.data, .pinned], laidTests := true, laidLooks := .later }
def FnExactDeskBoxCardSaid : Prop := Claim7.holds Tryz.pinned (.plain (OpenSpec.ofChange fnExactDeskBoxSpec)) fnExactDeskBoxCard

/-- THE SECOND FORM's CARD OF 'laws.FnExactWrap'. -/
def fnExactWrapUptoCard : Claim7 := { stood := { row := fnExactWrapUptoRow, standIns := [], harness := (true, "2cae575e27e742cea01cdf184ce427e3e453c6a4f12fe2f692170a20b7b0c49b"), looks := false }, kinds := [], alts := [], laidByText := true, laidKinds := [.data], laidTests := true, laidLooks := .later }
def FnExactWrapUptoCardSaid : Prop := Claim7.holds Tryz.pinned (.plain (OpenSpec.upto fnExactWrapSpec)) fnExactWrapUptoCard

/-- THE SECOND FORM's CARD OF 'laws.FnExactDeskBox'. -/
def fnExactDeskBoxUptoCard : Claim7 := { stood := { row := fnExactDeskBoxUptoRow, standIns := [], harness := (true, "2cae575e27e742cea01cdf184ce427e3e453c6a4f12fe2f692170a20b7b0c49b"), looks := false }, kinds := [], alts := [], laidByText := true, laidKinds := [.data, .pinned], laidTests := true, laidLooks := .later }
def FnExactDeskBoxUptoCardSaid : Prop := Claim7.holds Tryz.pinned (.plain (OpenSpec.upto fnExactDeskBoxSpec)) fnExactDeskBoxUptoCard
end Rows
end Go.Proofs.YtialedffpaoacaaGreatDoor
