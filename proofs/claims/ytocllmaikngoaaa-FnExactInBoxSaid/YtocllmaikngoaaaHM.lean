/-
  The texts PolM, HulM, put together; each has its own heading below. No condition of ours.
-/
import Derived.Test.YtocllmaikngoaaaVecM
import Derived.Test.YtocllmaikngoaaaPT
import Derived.Test.YtocllmaikngoaaaLB
import Derived.Test.YtocllmaikngoaaaPtB
import Derived.Deep.RegionHeld3
import Derived.Deep.CutRange
import Derived.Sort.AtCall
import Derived.Laws.StructEq
/-
  Polygons, said of lists of vectors.
-/


namespace Go.Proofs.Ytocllmaikngoaaa
open Go.RowKit
set_option linter.unusedVariables false
def vecV (v : V2) : Bool := vecB v.1 v.2
/-- all of them are valid -/
def allV (l : List V2) : Bool := l.all vecV
end Go.Proofs.Ytocllmaikngoaaa

/-
  The hull of a list of vectors, said once for both texts: sorted without repetition, two chains.
-/

namespace Go.Proofs.Ytocllmaikngoaaa
open Go.RowKit
set_option linter.unusedVariables false
def insV (p : V2) : List V2 → List V2
  | [] => [p]
  | a :: r => if lt2 a p then a :: insV p r else if a = p then a :: r else p :: a :: r
def srtV (l : List V2) : List V2 := l.foldr insV []
/-- the hull of sorted points -/
def hul2 (xs : List V2) : List V2 := if xs.length < 2 then xs else outL (chain xs) (hiC xs)
def hullV (l : List V2) : List V2 := if l.length ≤ 64 ∧ allV l = true then hul2 (srtV l) else []
end Go.Proofs.Ytocllmaikngoaaa
