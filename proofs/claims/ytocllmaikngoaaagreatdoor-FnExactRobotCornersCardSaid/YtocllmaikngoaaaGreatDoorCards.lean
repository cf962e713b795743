/-
  DERIVED. GIVEN WITH THE SEED: THE CARDS: each row of YtocllmaikngoaaaGreatDoorRows.lean that lists a variable, with what it lists TIED to the program's text (the seventh form; the later family's looks); each row that meets fmt, with fmt's text TOLD by the authors' own Lean function (tested against real Go, not proved from fmt's source: count such statements apart). THE CARD IS WHAT COUNTS. Prove the row's statement (the work); the ties are given (YtocllmaikngoaaaGreatDoorTie.lean); close each card by the builder's one call (the guide's Derived/Test/ToyasCard.lean, 'card_holds'). Laid BY PROGRAM, IN A SANDBOX (cutbox-door.mjs). By AI agents, Wed Nov 11 2026. No macro, syntax, notation, axiom, sorry.
-/
import Derived.Test.YtocllmaikngoaaaGreatDoorRows
import GoSem.ClaimSeven
namespace Go.Proofs.YtocllmaikngoaaaGreatDoor
namespace Rows

/-- THE TIED CARD OF 'laws.FnExactRobotCorners'. -/
def fnExactRobotCornersCard : Claim7 := { stood := { row := fnExactRobotCornersRow, standIns := [], harness := (true, "fdf851ba4837a0736aa0d3d8591224abb600b0e0ec5b5eef4988ee12646ace4a"), looks := false }, kinds := [], alts := [], laidByText := true, laidKinds := [.wider], laidTests := true, laidLooks := .later }
def FnExactRobotCornersCardSaid : Prop := Claim7.holds Tryz.pinned (.plain (OpenSpec.ofChange fnExactRobotCornersSpec)) fnExactRobotCornersCard

/-- THE TIED CARD OF 'laws.FnFree'. -/
def fnFreeCard : Claim7 := { stood := { row := fnFreeRow, standIns := [], harness := (true, "fdf851ba4837a0736aa0d3d8591224abb600b0e0ec5b5eef4988ee12646ace4a"), looks := false }, kinds := [], alts := [], laidByText := true, laidKinds := [.wider], laidTests := true, laidLooks := .later }
def FnFreeCardSaid : Prop := Claim7.holds Tryz.pinned (.plain (OpenSpec.ofChange fnFreeSpec)) fnFreeCard

/-- THE TIED CARD OF 'laws.FnFreeMove'. -/
def fnFreeMoveCard : Claim7 := { stood := { row := fnFreeMoveRow, standIns := [], harness := (true, "fdf851ba4837a0736aa0d3d8591224abb600b0e0ec5b5eef4988ee12646ace4a"), looks := false }, kinds := [], alts := [], laidByText := true, laidKinds := [.wider], laidTests := true, laidLooks := .later }
def FnFreeMoveCardSaid : Prop := Claim7.holds Tryz.pinned (.plain (OpenSpec.ofChange fnFreeMoveSpec)) fnFreeMoveCard

/-- THE SECOND FORM's CARD OF 'laws.FnExactRobotCorners'. -/
def fnExactRobotCornersUptoCard : Claim7 := { stood := { row := fnExactRobotCornersUptoRow, standIns := [], harness := (true, "fdf851ba4837a0736aa0d3d8591224abb600b0e0ec5b5eef4988ee12646ace4a"), looks := false }, kinds := [], alts := [], laidByText := true, laidKinds := [.wider], laidTests := true, laidLooks := .later }
def FnExactRobotCornersUptoCardSaid : Prop := Claim7.holds Tryz.pinned (.plain (OpenSpec.upto fnExactRobotCornersSpec)) fnExactRobotCornersUptoCard

/-- THE SECOND FORM's CARD OF 'laws.FnFree'. -/
def fnFreeUptoCard : Claim7 := { stood := { row := fnFreeUptoRow, standIns := [], harness := (true, "fdf851ba4837a0736aa0d3d8591224abb600b0e0ec5b5eef4988ee12646ace4a"), looks := false }, kinds := [], alts := [], laidByText := true, laidKinds := [.wider], laidTests := true, laidLooks := .later }
def FnFreeUptoCardSaid : Prop := Claim7.holds Tryz.pinned (.plain (OpenSpec.upto fnFreeSpec)) fnFreeUptoCard

/-- THE SECOND FORM's CARD OF 'laws.FnFreeMove'. -/
def fnFreeMoveUptoCard : Claim7 := { stood := { row := fnFreeMoveUptoRow, standIns := [], harness := (true, "fdf851ba4837a0736aa0d3d8591224abb600b0e0ec5b5eef4988ee12646ace4a"), looks := false }, kinds := [], alts := [], laidByText := true, laidKinds := [.wider], laidTests := true, laidLooks := .later }
def FnFreeMoveUptoCardSaid : Prop := Claim7.holds Tryz.pinned (.plain (OpenSpec.upto fnFreeMoveSpec)) fnFreeMoveUptoCard
end Rows
end Go.Proofs.YtocllmaikngoaaaGreatDoor
