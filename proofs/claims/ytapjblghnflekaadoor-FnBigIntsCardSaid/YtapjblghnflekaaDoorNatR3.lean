/-
  The reference's natural numbers: contracts (3): l02Add, NatAdd.
-/
import Derived.Test.YtapjblghnflekaaDoorNatR2
namespace Go.Proofs.YtapjblghnflekaaDoor
open Go.RowKit
set_option linter.unusedVariables false

end Go.Proofs.YtapjblghnflekaaDoor
