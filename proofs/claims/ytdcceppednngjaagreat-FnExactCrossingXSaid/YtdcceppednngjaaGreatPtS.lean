/-
  What the laws' walks over points share.
-/
import Derived.Test.YtdcceppednngjaaGreatLB
import Derived.Test.YtdcceppednngjaaGreatPT
namespace Go.Proofs.YtdcceppednngjaaGreat
open Go.RowKit
set_option linter.unusedVariables false
theorem sizQ_le {Z : RQ} (h : QFit Z) : sizQ Z ≤ 2097152 := by have := h.1; have := h.2.1; unfold sizQ; omega
end Go.Proofs.YtdcceppednngjaaGreat
