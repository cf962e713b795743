/-
  The reference's natural numbers: contracts (2): l02Cmp, NatCmp, l02Add, NatAdd.
-/
import Derived.Test.YtapjblghnflekaaDoorNatR
namespace Go.Proofs.YtapjblghnflekaaDoor
open Go.RowKit
set_option linter.unusedVariables false

end Go.Proofs.YtapjblghnflekaaDoor
