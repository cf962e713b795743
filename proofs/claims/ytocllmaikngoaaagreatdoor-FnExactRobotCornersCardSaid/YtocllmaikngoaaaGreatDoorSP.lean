/-
  The texts SumP, put together; each has its own heading below. No condition of ours.
-/
import Derived.Test.YtocllmaikngoaaaGreatDoorHM
/-
  Sums of two polygons: how many corners, what lies inside, what separates two polygons.
-/

namespace Go.Proofs.YtocllmaikngoaaaGreatDoor
open Go.RowKit
set_option linter.unusedVariables false
def addV (u v : V2) : V2 := (u.1 + v.1, u.2 + v.2)
def sumV (a b : List V2) : List V2 := a.flatMap fun v => b.map fun w => addV v w
section
variable {a b : List V2} (hl : (sumV a b).length ≤ 64) (hv : allV (sumV a b) = true) (h2 : 2 ≤ (srtV (sumV a b)).length) (h3 : 3 ≤ (hullV (sumV a b)).length)
include hl hv h2 h3
end
end Go.Proofs.YtocllmaikngoaaaGreatDoor
