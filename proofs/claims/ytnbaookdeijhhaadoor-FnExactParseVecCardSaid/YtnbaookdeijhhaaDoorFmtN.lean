/-
  A natural number's text: what FormatNat answers, and that ParseNat gives it back. Of no program.
-/
import Derived.Test.YtnbaookdeijhhaaDoorItoaD
import Derived.Test.YtnbaookdeijhhaaDoorJoinI
import Derived.Test.YtnbaookdeijhhaaDoorPadP
import Derived.Test.YtnbaookdeijhhaaDoorPB
namespace Go.Proofs.YtnbaookdeijhhaaDoor
open Go.RowKit
set_option linter.unusedVariables false

/-- one group of nine digits -/
def grp (d : Int) : ByteArray := padB (itoaB d) 9
/-- the groups of a number's text, the first one first, j of them behind it -/
def tx (a : List Int) : Nat → List ByteArray
  | 0 => [itoaB (a.getD (a.length - 1) 0)]
  | j + 1 => tx a j ++ [grp (a.getD (a.length - 2 - j) 0)]
def fmtB (a : List Int) : ByteArray := if natB a then (if a = [] then ⟨#[48]⟩ else joinB (tx a (a.length - 1)) ⟨#[]⟩) else ⟨#[]⟩
end Go.Proofs.YtnbaookdeijhhaaDoor
