/-
  DERIVED. GIVEN WITH THE SEED: THE CARDS: each row of YtgklpiocklfikabDoorRows.lean that lists a variable, with what it lists TIED to the program's text (the seventh form; the later family's looks); each row that meets fmt, with fmt's text TOLD by the authors' own Lean function (tested against real Go, not proved from fmt's source: count such statements apart). THE CARD IS WHAT COUNTS. Prove the row's statement (the work); the ties are given (YtgklpiocklfikabDoorTie.lean); close each card by the builder's one call (the guide's Derived/Test/ToyasCard.lean, 'card_holds'). Laid BY PROGRAM, IN A SANDBOX (cutbox-door.mjs). By AI agents, Wed Nov 11 2026. No macro, syntax, notation, axiom, sorry.
-/
import Derived.Test.YtgklpiocklfikabDoorRows
import GoSem.ClaimSeven
namespace Go.Proofs.YtgklpiocklfikabDoor
namespace Rows

/-- THE TIED CARD OF 'laws.FnExactNetText'. -/
def fnExactNetTextCard : Claim7 := { stood := { row := fnExactNetTextRow, standIns := [], harness := (true, "47273a23d52ee37440d41ac073f7fc9968058d8322b6654c9c4871e0bdcd274c"), looks := false }, kinds := [], alts := [], laidByText := true, laidKinds := [.data, .data, .data], laidTests := true, laidLooks := .later }
def FnExactNetTextCardSaid : Prop := Claim7.holds Tryd.pinned (.plain (OpenSpec.ofChange fnExactNetTextSpec)) fnExactNetTextCard

/-- THE TIED CARD OF 'laws.FnExactNetRead'. -/
def fnExactNetReadCard : Claim7 := { stood := { row := fnExactNetReadRow, standIns := [], harness := (true, "47273a23d52ee37440d41ac073f7fc9968058d8322b6654c9c4871e0bdcd274c"), looks := false }, kinds := [], alts := [], laidByText := true, laidKinds := [.data, .pinned], laidTests := true, laidLooks := .later }
def FnExactNetReadCardSaid : Prop := Claim7.holds Tryd.pinned (.plain (OpenSpec.ofChange fnExactNetReadSpec)) fnExactNetReadCard

/-- THE SECOND FORM's CARD OF 'laws.FnExactNetText'. -/
def fnExactNetTextUptoCard : Claim7 := { stood := { row := fnExactNetTextUptoRow, standIns := [], harness := (true, "47273a23d52ee37440d41ac073f7fc9968058d8322b6654c9c4871e0bdcd274c"), looks := false }, kinds := [], alts := [], laidByText := true, laidKinds := [.data, .data, .data], laidTests := true, laidLooks := .later }
def FnExactNetTextUptoCardSaid : Prop := Claim7.holds Tryd.pinned (.plain (OpenSpec.upto fnExactNetTextSpec)) fnExactNetTextUptoCard

/-- THE SECOND FORM's CARD OF 'laws.FnExactNetRead'. -/
def fnExactNetReadUptoCard : Claim7 := { stood := { row := fnExactNetReadUptoRow, standIns := [], harness := (true, "47273a23d52ee37440d41ac073f7fc9968058d8322b6654c9c4871e0bdcd274c"), looks := false }, kinds := [], alts := [], laidByText := true, laidKinds := [.data, .pinned], laidTests := true, laidLooks := .later }
def FnExactNetReadUptoCardSaid : Prop := Claim7.holds Tryd.pinned (.plain (OpenSpec.upto fnExactNetReadSpec)) fnExactNetReadUptoCard
end Rows
end Go.Proofs.YtgklpiocklfikabDoor
