/-
  DERIVED. GIVEN WITH THE SEED: THE CARDS: each row of YtafhhemojdblpaaDoorRows.lean that lists a variable, with what it lists TIED to the program's text (the seventh form; the later family's looks); each row that meets fmt, with fmt's text TOLD by the authors' own Lean function (tested against real Go, not proved from fmt's source: count such statements apart). THE CARD IS WHAT COUNTS. Prove the row's statement (the work); the ties are given (YtafhhemojdblpaaDoorTie.lean); close each card by the builder's one call (the guide's Derived/Test/ToyasCard.lean, 'card_holds'). Laid BY PROGRAM, IN A SANDBOX (cutbox-door.mjs). By AI agents, Wed Nov 11 2026. No macro, syntax, notation, axiom, sorry.
-/
import Derived.Test.YtafhhemojdblpaaDoorRows
import GoSem.ClaimSeven
namespace Go.Proofs.YtafhhemojdblpaaDoor
namespace Rows

/-- THE TIED CARD OF 'laws.FnTurns'. -/
def fnTurnsCard : Claim7 := { stood := { row := fnTurnsRow, standIns := [], harness := (true, "7bd7483f734bf3dc7eb6c7492f518cc55bee46595294be3b1e7a464076c296e1"), looks := false }, kinds := [], alts := [], laidByText := true, laidKinds := [.wider], laidTests := true, laidLooks := .later }
def FnTurnsCardSaid : Prop := Claim7.holds Tryd.pinned (.plain (OpenSpec.ofChange fnTurnsSpec)) fnTurnsCard

/-- THE TIED CARD OF 'laws.FnExactTurnVec'. -/
def fnExactTurnVecCard : Claim7 := { stood := { row := fnExactTurnVecRow, standIns := [], harness := (true, "7bd7483f734bf3dc7eb6c7492f518cc55bee46595294be3b1e7a464076c296e1"), looks := false }, kinds := [], alts := [], laidByText := true, laidKinds := [.wider], laidTests := true, laidLooks := .later }
def FnExactTurnVecCardSaid : Prop := Claim7.holds Tryd.pinned (.plain (OpenSpec.ofChange fnExactTurnVecSpec)) fnExactTurnVecCard

/-- THE TIED CARD OF 'laws.FnExactTurnPolygon'. -/
def fnExactTurnPolygonCard : Claim7 := { stood := { row := fnExactTurnPolygonRow, standIns := [], harness := (true, "7bd7483f734bf3dc7eb6c7492f518cc55bee46595294be3b1e7a464076c296e1"), looks := false }, kinds := [], alts := [], laidByText := true, laidKinds := [.wider], laidTests := true, laidLooks := .later }
def FnExactTurnPolygonCardSaid : Prop := Claim7.holds Tryd.pinned (.plain (OpenSpec.ofChange fnExactTurnPolygonSpec)) fnExactTurnPolygonCard

/-- THE SECOND FORM's CARD OF 'laws.FnTurns'. -/
def fnTurnsUptoCard : Claim7 := { stood := { row := fnTurnsUptoRow, standIns := [], harness := (true, "7bd7483f734bf3dc7eb6c7492f518cc55bee46595294be3b1e7a464076c296e1"), looks := false }, kinds := [], alts := [], laidByText := true, laidKinds := [.wider], laidTests := true, laidLooks := .later }
def FnTurnsUptoCardSaid : Prop := Claim7.holds Tryd.pinned (.plain (OpenSpec.upto fnTurnsSpec)) fnTurnsUptoCard

/-- THE SECOND FORM's CARD OF 'laws.FnExactTurnVec'. -/
def fnExactTurnVecUptoCard : Claim7 := { stood := { row := fnExactTurnVecUptoRow, standIns := [], harness := (true, "7bd7483f734bf3dc7eb6c7492f518cc55bee46595294be3b1e7a464076c296e1"), looks := false }, kinds := [], alts := [], laidByText := true, laidKinds := [.wider], laidTests := true, laidLooks := .later }
def FnExactTurnVecUptoCardSaid : Prop := Claim7.holds Tryd.pinned (.plain (OpenSpec.upto fnExactTurnVecSpec)) fnExactTurnVecUptoCard

/-- THE SECOND FORM's CARD OF 'laws.FnExactTurnPolygon'. -/
def fnExactTurnPolygonUptoCard : Claim7 := { stood := { row := fnExactTurnPolygonUptoRow, standIns := [], harness := (true, "7bd7483f734bf3dc7eb6c7492f518cc55bee46595294be3b1e7a464076c296e1"), looks := false }, kinds := [], alts := [], laidByText := true, laidKinds := [.wider], laidTests := true, laidLooks := .later }
def FnExactTurnPolygonUptoCardSaid : Prop := Claim7.holds Tryd.pinned (.plain (OpenSpec.upto fnExactTurnPolygonSpec)) fnExactTurnPolygonUptoCard
end Rows
end Go.Proofs.YtafhhemojdblpaaDoor
