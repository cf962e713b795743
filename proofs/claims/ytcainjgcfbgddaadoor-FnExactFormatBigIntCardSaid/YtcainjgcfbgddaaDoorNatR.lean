/-
  The reference's natural numbers: contracts (1): NatOk, l02Trim, l02Cap, NatOf, l02Cmp, NatCmp.
-/
import Derived.Test.YtcainjgcfbgddaaDoorNatT
namespace Go.Proofs.YtcainjgcfbgddaaDoor
open Go.RowKit
set_option linter.unusedVariables false

/-! ### NatOf -/
end Go.Proofs.YtcainjgcfbgddaaDoor
