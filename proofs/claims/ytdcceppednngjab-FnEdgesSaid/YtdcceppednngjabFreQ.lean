/-
  Points strictly inside a rectangle: plain; fractions compared: contracts.
-/
import Derived.Test.YtdcceppednngjabPT
import Derived.Test.YtdcceppednngjabPB
import Derived.Test.YtdcceppednngjabRX
import Derived.Test.YtdcceppednngjabRL
import Derived.Test.YtdcceppednngjabNatLen
import Derived.Sort.AtCall
import Derived.Deep.RegionHeld3
import Derived.Deep.CutRange
namespace Go.Proofs.Ytdcceppednngjab
open Go.RowKit
set_option linter.unusedVariables false
/-- two fractions compared -/
def cqR (Z Y : RQ) : Int := cmpR Z.1.1 Z.1.2 Z.2 Y.1.1 Y.1.2 Y.2
end Go.Proofs.Ytdcceppednngjab
