/-
  Fractions as text: FormatRat: both sides' contracts.
-/
import Derived.Test.YtfajcogkbmefjaaDoorPB
import Derived.Test.YtfajcogkbmefjaaDoorIA
import Derived.Deep.RegionHeld3
import Derived.Test.YtfajcogkbmefjaaDoorIC
import Derived.Deep.CutRange
import Derived.Test.YtfajcogkbmefjaaDoorBigR
import Derived.Laws.CopyOwn
import Derived.Test.YtfajcogkbmefjaaDoorRA
import Derived.Laws.AppendOwnNone
import Derived.Test.YtfajcogkbmefjaaDoorMem
import Derived.Test.YtfajcogkbmefjaaDoorBigS
import Derived.Test.YtfajcogkbmefjaaDoorJoinI
import Derived.Deep.RegionWith
import Derived.Sort.AtCall
namespace Go.Proofs.YtfajcogkbmefjaaDoor
open Go.RowKit
set_option linter.unusedVariables false
def fmtR (s : Bool) (xs ds : List Int) : ByteArray := if ratB s xs ds then (if ds = [1] then fmtZ s xs else (fmtZ s xs ++ ⟨#[47]⟩) ++ fmtB ds) else ⟨#[]⟩
end Go.Proofs.YtfajcogkbmefjaaDoor
