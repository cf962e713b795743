/-
  Vectors: what is valid.
-/
import Derived.Test.YtdcceppednngjabMem
namespace Go.Proofs.Ytdcceppednngjab
def vecB (x y : Int) : Bool := decide (-1000 ≤ x ∧ x ≤ 1000) && decide (-1000 ≤ y ∧ y ≤ 1000)
end Go.Proofs.Ytdcceppednngjab
