/-
  The texts PtB, put together; each has its own heading below. No condition of ours.
-/
import Derived.Test.YtcpncoonbdbkmaaGreatMem
/-
  Vectors: what is valid.
-/

namespace Go.Proofs.YtcpncoonbdbkmaaGreat
def vecB (x y : Int) : Bool := decide (-1000 ≤ x ∧ x ≤ 1000) && decide (-1000 ≤ y ∧ y ≤ 1000)
end Go.Proofs.YtcpncoonbdbkmaaGreat
