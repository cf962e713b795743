/-
  The texts SumP, MinM, put together; each has its own heading below. No condition of ours.
-/
import Derived.Test.YtocllmaikngoaaaHM
/-
  Sums of two polygons: how many corners, what lies inside, what separates two polygons.
-/

namespace Go.Proofs.Ytocllmaikngoaaa
open Go.RowKit
set_option linter.unusedVariables false
def addV (u v : V2) : V2 := (u.1 + v.1, u.2 + v.2)
def sumV (a b : List V2) : List V2 := a.flatMap fun v => b.map fun w => addV v w
def dt (u w : V2) : Int := u.1 * w.1 + u.2 * w.2
/-- w points where u points -/
def pr (u w : V2) : Prop := crs u w = 0 ∧ 0 < dt u w
section
variable {a b : List V2} (hl : (sumV a b).length ≤ 64) (hv : allV (sumV a b) = true) (h2 : 2 ≤ (srtV (sumV a b)).length) (h3 : 3 ≤ (hullV (sumV a b)).length)
include hl hv h2 h3
end
end Go.Proofs.Ytocllmaikngoaaa

/-
  Sums, separating edges, widths and moves of polygons: what the functions answer, said of lists.
-/

namespace Go.Proofs.Ytocllmaikngoaaa
open Go.RowKit
set_option linter.unusedVariables false
/-- each corner moved by v, where all of them stay in range -/
def mvL (l : List V2) (v : V2) : List V2 := if vecV v = true ∧ allV (l.map fun p => addV p v) = true then l.map fun p => addV p v else []
end Go.Proofs.Ytocllmaikngoaaa
