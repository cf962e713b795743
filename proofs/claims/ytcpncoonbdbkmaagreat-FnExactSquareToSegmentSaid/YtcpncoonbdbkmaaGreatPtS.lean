/-
  What the laws' walks over points share.
-/
import Derived.Test.YtcpncoonbdbkmaaGreatLB
import Derived.Test.YtcpncoonbdbkmaaGreatPV
namespace Go.Proofs.YtcpncoonbdbkmaaGreat
open Go.RowKit
set_option linter.unusedVariables false
theorem sizQ_le {Z : RQ} (h : QFit Z) : sizQ Z ≤ 2097152 := by have := h.1; have := h.2.1; unfold sizQ; omega
theorem sizP_le {P : PQ} (h : PFit P) : sizP P ≤ 4194304 := by have := sizQ_le h.1; have := sizQ_le h.2; unfold sizP; omega
end Go.Proofs.YtcpncoonbdbkmaaGreat
