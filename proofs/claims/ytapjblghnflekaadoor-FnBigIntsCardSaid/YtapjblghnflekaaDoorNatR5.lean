/-
  The reference's natural numbers: contracts (5): l02Mul, NatMul.
-/
import Derived.Test.YtapjblghnflekaaDoorNatR4
namespace Go.Proofs.YtapjblghnflekaaDoor
open Go.RowKit
set_option linter.unusedVariables false

end Go.Proofs.YtapjblghnflekaaDoor
