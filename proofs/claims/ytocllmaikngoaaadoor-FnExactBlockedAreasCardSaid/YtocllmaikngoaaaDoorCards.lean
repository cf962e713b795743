/-
  DERIVED. GIVEN WITH THE SEED: THE CARDS: each row of YtocllmaikngoaaaDoorRows.lean that lists a variable, with what it lists TIED to the program's text (the seventh form; the later family's looks); each row that meets fmt, with fmt's text TOLD by the authors' own Lean function (tested against real Go, not proved from fmt's source: count such statements apart). THE CARD IS WHAT COUNTS. Prove the row's statement (the work); the ties are given (YtocllmaikngoaaaDoorTie.lean); close each card by the builder's one call (the guide's Derived/Test/ToyasCard.lean, 'card_holds'). Laid BY PROGRAM, IN A SANDBOX (cutbox-door.mjs). By AI agents, Wed Nov 11 2026. No macro, syntax, notation, axiom, sorry.
-/
import Derived.Test.YtocllmaikngoaaaDoorRows
import GoSem.ClaimSeven
namespace Go.Proofs.YtocllmaikngoaaaDoor
namespace Rows

/-- THE TIED CARD OF 'laws.FnExactRobotAt'. -/
def fnExactRobotAtCard : Claim7 := { stood := { row := fnExactRobotAtRow, standIns := [], harness := (true, "c315c8e55eeb066226d544f8995acb8797dee4d48dcb69aff66c7fb059311fcb"), looks := false }, kinds := [], alts := [], laidByText := true, laidKinds := [.wider], laidTests := true, laidLooks := .later }
def FnExactRobotAtCardSaid : Prop := Claim7.holds Tryd.pinned (.plain (OpenSpec.ofChange fnExactRobotAtSpec)) fnExactRobotAtCard

/-- THE TIED CARD OF 'laws.FnExactLimitsOf'. -/
def fnExactLimitsOfCard : Claim7 := { stood := { row := fnExactLimitsOfRow, standIns := [], harness := (true, "c315c8e55eeb066226d544f8995acb8797dee4d48dcb69aff66c7fb059311fcb"), looks := false }, kinds := [], alts := [], laidByText := true, laidKinds := [.wider], laidTests := true, laidLooks := .later }
def FnExactLimitsOfCardSaid : Prop := Claim7.holds Tryd.pinned (.plain (OpenSpec.ofChange fnExactLimitsOfSpec)) fnExactLimitsOfCard

/-- THE TIED CARD OF 'laws.FnExactBlockedAreas'. -/
def fnExactBlockedAreasCard : Claim7 := { stood := { row := fnExactBlockedAreasRow, standIns := [], harness := (true, "c315c8e55eeb066226d544f8995acb8797dee4d48dcb69aff66c7fb059311fcb"), looks := false }, kinds := [], alts := [], laidByText := true, laidKinds := [.wider], laidTests := true, laidLooks := .later }
def FnExactBlockedAreasCardSaid : Prop := Claim7.holds Tryd.pinned (.plain (OpenSpec.ofChange fnExactBlockedAreasSpec)) fnExactBlockedAreasCard

/-- THE SECOND FORM's CARD OF 'laws.FnExactRobotAt'. -/
def fnExactRobotAtUptoCard : Claim7 := { stood := { row := fnExactRobotAtUptoRow, standIns := [], harness := (true, "c315c8e55eeb066226d544f8995acb8797dee4d48dcb69aff66c7fb059311fcb"), looks := false }, kinds := [], alts := [], laidByText := true, laidKinds := [.wider], laidTests := true, laidLooks := .later }
def FnExactRobotAtUptoCardSaid : Prop := Claim7.holds Tryd.pinned (.plain (OpenSpec.upto fnExactRobotAtSpec)) fnExactRobotAtUptoCard

/-- THE SECOND FORM's CARD OF 'laws.FnExactLimitsOf'. -/
def fnExactLimitsOfUptoCard : Claim7 := { stood := { row := fnExactLimitsOfUptoRow, standIns := [], harness := (true, "c315c8e55eeb066226d544f8995acb8797dee4d48dcb69aff66c7fb059311fcb"), looks := false }, kinds := [], alts := [], laidByText := true, laidKinds := [.wider], laidTests := true, laidLooks := .later }
def FnExactLimitsOfUptoCardSaid : Prop := Claim7.holds Tryd.pinned (.plain (OpenSpec.upto fnExactLimitsOfSpec)) fnExactLimitsOfUptoCard

/-- THE SECOND FORM's CARD OF 'laws.FnExactBlockedAreas'. -/
def fnExactBlockedAreasUptoCard : Claim7 := { stood := { row := fnExactBlockedAreasUptoRow, standIns := [], harness := (true, "c315c8e55eeb066226d544f8995acb8797dee4d48dcb69aff66c7fb059311fcb"), looks := false }, kinds := [], alts := [], laidByText := true, laidKinds := [.wider], laidTests := true, laidLooks := .later }
def FnExactBlockedAreasUptoCardSaid : Prop := Claim7.holds Tryd.pinned (.plain (OpenSpec.upto fnExactBlockedAreasSpec)) fnExactBlockedAreasUptoCard
end Rows
end Go.Proofs.YtocllmaikngoaaaDoor
