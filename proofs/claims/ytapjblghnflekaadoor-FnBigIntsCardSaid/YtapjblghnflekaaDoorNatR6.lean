/-
  The reference's natural numbers: contracts (6): NatToInt, l02Small.
-/
import Derived.Test.YtapjblghnflekaaDoorNatR5
namespace Go.Proofs.YtapjblghnflekaaDoor
open Go.RowKit
set_option linter.unusedVariables false

end Go.Proofs.YtapjblghnflekaaDoor
