/-
  DERIVED. GIVEN WITH THE SEED: THE CARDS: each row of YtafhhemojdblpabDoorRows.lean that lists a variable, with what it lists TIED to the program's text (the seventh form; the later family's looks); each row that meets fmt, with fmt's text TOLD by the authors' own Lean function (tested against real Go, not proved from fmt's source: count such statements apart). THE CARD IS WHAT COUNTS. Prove the row's statement (the work); the ties are given (YtafhhemojdblpabDoorTie.lean); close each card by the builder's one call (the guide's Derived/Test/ToyasCard.lean, 'card_holds'). Laid BY PROGRAM, IN A SANDBOX (cutbox-door.mjs). By AI agents, Wed Nov 11 2026. No macro, syntax, notation, axiom, sorry.
-/
import Derived.Test.YtafhhemojdblpabDoorRows
import GoSem.ClaimSeven
namespace Go.Proofs.YtafhhemojdblpabDoor
namespace Rows

/-- THE TIED CARD OF 'laws.FnExactTurnsBetween'. -/
def fnExactTurnsBetweenCard : Claim7 := { stood := { row := fnExactTurnsBetweenRow, standIns := [], harness := (true, "39d8c589dc063e155536dd3e2f8a14577c72e47ec4aea822717bf7e4cf150d16"), looks := false }, kinds := [], alts := [], laidByText := true, laidKinds := [.wider], laidTests := true, laidLooks := .later }
def FnExactTurnsBetweenCardSaid : Prop := Claim7.holds Tryd.pinned (.plain (OpenSpec.ofChange fnExactTurnsBetweenSpec)) fnExactTurnsBetweenCard

/-- THE SECOND FORM's CARD OF 'laws.FnExactTurnsBetween'. -/
def fnExactTurnsBetweenUptoCard : Claim7 := { stood := { row := fnExactTurnsBetweenUptoRow, standIns := [], harness := (true, "39d8c589dc063e155536dd3e2f8a14577c72e47ec4aea822717bf7e4cf150d16"), looks := false }, kinds := [], alts := [], laidByText := true, laidKinds := [.wider], laidTests := true, laidLooks := .later }
def FnExactTurnsBetweenUptoCardSaid : Prop := Claim7.holds Tryd.pinned (.plain (OpenSpec.upto fnExactTurnsBetweenSpec)) fnExactTurnsBetweenUptoCard
end Rows
end Go.Proofs.YtafhhemojdblpabDoor
