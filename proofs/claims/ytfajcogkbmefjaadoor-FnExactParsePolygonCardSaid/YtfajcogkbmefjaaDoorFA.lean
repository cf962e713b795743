/-
  The texts FmtN, put together; each has its own heading below. No condition of ours.
-/
import Derived.Test.YtfajcogkbmefjaaDoorItoaD
import Derived.Test.YtfajcogkbmefjaaDoorJoinI
import Derived.Test.YtfajcogkbmefjaaDoorPadP
import Derived.Test.YtfajcogkbmefjaaDoorPB
/-
  A natural number's text: what FormatNat answers, and that ParseNat gives it back. Of no program.
-/




namespace Go.Proofs.YtfajcogkbmefjaaDoor
open Go.RowKit
set_option linter.unusedVariables false

/-- one group of nine digits -/
def grp (d : Int) : ByteArray := padB (itoaB d) 9
/-- the groups of a number's text, the first one first, j of them behind it -/
def tx (a : List Int) : Nat → List ByteArray
  | 0 => [itoaB (a.getD (a.length - 1) 0)]
  | j + 1 => tx a j ++ [grp (a.getD (a.length - 2 - j) 0)]
def fmtB (a : List Int) : ByteArray := if natB a then (if a = [] then ⟨#[48]⟩ else joinB (tx a (a.length - 1)) ⟨#[]⟩) else ⟨#[]⟩
end Go.Proofs.YtfajcogkbmefjaaDoor
