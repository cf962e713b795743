/-
  Vectors: what is valid.
-/
import Derived.Test.YtdcceppednngjaaMem
namespace Go.Proofs.Ytdcceppednngjaa
def vecB (x y : Int) : Bool := decide (-1000 ≤ x ∧ x ≤ 1000) && decide (-1000 ≤ y ∧ y ≤ 1000)
end Go.Proofs.Ytdcceppednngjaa
