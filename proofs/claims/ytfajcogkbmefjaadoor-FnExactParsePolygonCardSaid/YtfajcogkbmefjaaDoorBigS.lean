/-
  Big integers as text: FormatBigInt: both sides' contracts.
-/
import Derived.Test.YtfajcogkbmefjaaDoorIA
import Derived.Test.YtfajcogkbmefjaaDoorPB
import Derived.Deep.RegionHeld3
import Derived.Test.YtfajcogkbmefjaaDoorBigR
import Derived.Test.YtfajcogkbmefjaaDoorFA
import Derived.Test.YtfajcogkbmefjaaDoorFmtI
import Derived.Test.YtfajcogkbmefjaaDoorPadP
import Derived.Test.YtfajcogkbmefjaaDoorRA
namespace Go.Proofs.YtfajcogkbmefjaaDoor
open Go.RowKit
set_option linter.unusedVariables false

def fmtZ (s : Bool) (xs : List Int) : ByteArray := if bigB s xs then (if s then ⟨#[45]⟩ ++ fmtB xs else fmtB xs) else ByteArray.empty
end Go.Proofs.YtfajcogkbmefjaaDoor
