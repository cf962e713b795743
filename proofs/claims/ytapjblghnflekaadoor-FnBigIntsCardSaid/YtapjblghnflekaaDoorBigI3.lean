/-
  The program's big integers: contracts (3): magnitudeOf, BigIntOf.
-/
import Derived.Test.YtapjblghnflekaaDoorBigI2
import Derived.Test.YtapjblghnflekaaDoorNatLen
namespace Go.Proofs.YtapjblghnflekaaDoor
open Go.RowKit
set_option linter.unusedVariables false

theorem limbs_small {n : Nat} (h : n < 1000000000000000000000000000) : (limbs n).length ≤ 3 := limbs_len.2 h
end Go.Proofs.YtapjblghnflekaaDoor
