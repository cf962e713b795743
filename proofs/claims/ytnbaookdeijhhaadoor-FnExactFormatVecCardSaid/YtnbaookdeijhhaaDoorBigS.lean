/-
  Big integers as text: FormatBigInt: both sides' contracts.
-/
import Derived.Test.YtnbaookdeijhhaaDoorIA
import Derived.Test.YtnbaookdeijhhaaDoorPB
import Derived.Deep.RegionHeld3
import Derived.Test.YtnbaookdeijhhaaDoorBigR
import Derived.Test.YtnbaookdeijhhaaDoorFmtN
import Derived.Test.YtnbaookdeijhhaaDoorFmtI
import Derived.Test.YtnbaookdeijhhaaDoorPadP
import Derived.Test.YtnbaookdeijhhaaDoorRA
namespace Go.Proofs.YtnbaookdeijhhaaDoor
open Go.RowKit
set_option linter.unusedVariables false

def fmtZ (s : Bool) (xs : List Int) : ByteArray := if bigB s xs then (if s then ⟨#[45]⟩ ++ fmtB xs else fmtB xs) else ByteArray.empty
end Go.Proofs.YtnbaookdeijhhaaDoor
