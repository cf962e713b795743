/-
  DERIVED. GIVEN WITH THE SEED: THE CARDS: each row of YtnbaookdeijhhaaDoorRows.lean that lists a variable, with what it lists TIED to the program's text (the seventh form; the later family's looks); each row that meets fmt, with fmt's text TOLD by the authors' own Lean function (tested against real Go, not proved from fmt's source: count such statements apart). THE CARD IS WHAT COUNTS. Prove the row's statement (the work); the ties are given (YtnbaookdeijhhaaDoorTie.lean); close each card by the builder's one call (the guide's Derived/Test/ToyasCard.lean, 'card_holds'). Laid BY PROGRAM, IN A SANDBOX (cutbox-door.mjs). By AI agents, Wed Nov 11 2026. No macro, syntax, notation, axiom, sorry.
-/
import Derived.Test.YtnbaookdeijhhaaDoorRows
import GoSem.ClaimSeven
namespace Go.Proofs.YtnbaookdeijhhaaDoor
namespace Rows

/-- THE TIED CARD OF 'laws.FnExactFormatVec'. -/
def fnExactFormatVecCard : Claim7 := { stood := { row := fnExactFormatVecRow, standIns := [], harness := (true, "8a7316d09bfdcf650bfb63271665d7308a7f4755e94eae12c10deb86aa6e0b4a"), looks := true }, kinds := [], alts := [], laidByText := true, laidKinds := [.data, .data, .data], laidTests := true, laidLooks := .later }
def FnExactFormatVecCardSaid : Prop := Claim7.holds Tryd.pinned (.plain (OpenSpec.ofChange fnExactFormatVecSpec)) fnExactFormatVecCard

/-- THE TIED CARD OF 'laws.FnExactParseVec'. -/
def fnExactParseVecCard : Claim7 := { stood := { row := fnExactParseVecRow, standIns := [], harness := (true, "8a7316d09bfdcf650bfb63271665d7308a7f4755e94eae12c10deb86aa6e0b4a"), looks := true }, kinds := [], alts := [], laidByText := true, laidKinds := [.data, .data, .data, .sentinel, .sentinel], laidTests := true, laidLooks := .later }
def FnExactParseVecCardSaid : Prop := Claim7.holds Tryd.pinned (.plain (OpenSpec.ofChange fnExactParseVecSpec)) fnExactParseVecCard

/-- THE SECOND FORM's CARD OF 'laws.FnExactFormatVec'. -/
def fnExactFormatVecUptoCard : Claim7 := { stood := { row := fnExactFormatVecUptoRow, standIns := [], harness := (true, "8a7316d09bfdcf650bfb63271665d7308a7f4755e94eae12c10deb86aa6e0b4a"), looks := true }, kinds := [], alts := [], laidByText := true, laidKinds := [.data, .data, .data], laidTests := true, laidLooks := .later }
def FnExactFormatVecUptoCardSaid : Prop := Claim7.holds Tryd.pinned (.plain (OpenSpec.upto fnExactFormatVecSpec)) fnExactFormatVecUptoCard

/-- THE SECOND FORM's CARD OF 'laws.FnExactParseVec'. -/
def fnExactParseVecUptoCard : Claim7 := { stood := { row := fnExactParseVecUptoRow, standIns := [], harness := (true, "8a7316d09bfdcf650bfb63271665d7308a7f4755e94eae12c10deb86aa6e0b4a"), looks := true }, kinds := [], alts := [], laidByText := true, laidKinds := [.data, .data, .data, .sentinel, .sentinel], laidTests := true, laidLooks := .later }
def FnExactParseVecUptoCardSaid : Prop := Claim7.holds Tryd.pinned (.plain (OpenSpec.upto fnExactParseVecSpec)) fnExactParseVecUptoCard
end Rows
end Go.Proofs.YtnbaookdeijhhaaDoor
