/-
  DERIVED. GIVEN WITH THE SEED: THE CARDS: each row of YtfajcogkbmefjaaDoorRows.lean that lists a variable, with what it lists TIED to the program's text (the seventh form; the later family's looks); each row that meets fmt, with fmt's text TOLD by the authors' own Lean function (tested against real Go, not proved from fmt's source: count such statements apart). THE CARD IS WHAT COUNTS. Prove the row's statement (the work); the ties are given (YtfajcogkbmefjaaDoorTie.lean); close each card by the builder's one call (the guide's Derived/Test/ToyasCard.lean, 'card_holds'). Laid BY PROGRAM, IN A SANDBOX (cutbox-door.mjs). By AI agents, Wed Nov 11 2026. No macro, syntax, notation, axiom, sorry.
-/
import Derived.Test.YtfajcogkbmefjaaDoorRows
import GoSem.ClaimSeven
namespace Go.Proofs.YtfajcogkbmefjaaDoor
namespace Rows

/-- THE TIED CARD OF 'laws.FnExactFormatPolygon'. -/
def fnExactFormatPolygonCard : Claim7 := { stood := { row := fnExactFormatPolygonRow, standIns := [], harness := (true, "4719d86cc08c2d7aaa45d23d2567d3ef8b59cebe8132dcbd16dd259ee38073fe"), looks := true }, kinds := [], alts := [], laidByText := true, laidKinds := [.data, .data, .data], laidTests := true, laidLooks := .later }
def FnExactFormatPolygonCardSaid : Prop := Claim7.holds Tryd.pinned (.plain (OpenSpec.ofChange fnExactFormatPolygonSpec)) fnExactFormatPolygonCard

/-- THE TIED CARD OF 'laws.FnExactParsePolygon'. -/
def fnExactParsePolygonCard : Claim7 := { stood := { row := fnExactParsePolygonRow, standIns := [], harness := (true, "4719d86cc08c2d7aaa45d23d2567d3ef8b59cebe8132dcbd16dd259ee38073fe"), looks := true }, kinds := [], alts := [], laidByText := true, laidKinds := [.data, .data, .data, .sentinel, .sentinel], laidTests := true, laidLooks := .later }
def FnExactParsePolygonCardSaid : Prop := Claim7.holds Tryd.pinned (.plain (OpenSpec.ofChange fnExactParsePolygonSpec)) fnExactParsePolygonCard

/-- THE SECOND FORM's CARD OF 'laws.FnExactFormatPolygon'. -/
def fnExactFormatPolygonUptoCard : Claim7 := { stood := { row := fnExactFormatPolygonUptoRow, standIns := [], harness := (true, "4719d86cc08c2d7aaa45d23d2567d3ef8b59cebe8132dcbd16dd259ee38073fe"), looks := true }, kinds := [], alts := [], laidByText := true, laidKinds := [.data, .data, .data], laidTests := true, laidLooks := .later }
def FnExactFormatPolygonUptoCardSaid : Prop := Claim7.holds Tryd.pinned (.plain (OpenSpec.upto fnExactFormatPolygonSpec)) fnExactFormatPolygonUptoCard

/-- THE SECOND FORM's CARD OF 'laws.FnExactParsePolygon'. -/
def fnExactParsePolygonUptoCard : Claim7 := { stood := { row := fnExactParsePolygonUptoRow, standIns := [], harness := (true, "4719d86cc08c2d7aaa45d23d2567d3ef8b59cebe8132dcbd16dd259ee38073fe"), looks := true }, kinds := [], alts := [], laidByText := true, laidKinds := [.data, .data, .data, .sentinel, .sentinel], laidTests := true, laidLooks := .later }
def FnExactParsePolygonUptoCardSaid : Prop := Claim7.holds Tryd.pinned (.plain (OpenSpec.upto fnExactParsePolygonSpec)) fnExactParsePolygonUptoCard
end Rows
end Go.Proofs.YtfajcogkbmefjaaDoor
