/-
  Scenes: plain: which are valid, their text, what is made of them.
-/
import Derived.Test.YtocllmaikngoaaaScnM
import Derived.Test.YtocllmaikngoaaaHM
import Derived.Deep.RegionHeld3
import Derived.Deep.CutRange
import Derived.Sort.AtCall
import Derived.BigQuiet
import Derived.Test.YtocllmaikngoaaaPT
import Derived.Test.YtocllmaikngoaaaLB
import Derived.Test.YtocllmaikngoaaaPtB
import Derived.Laws.StructEq
namespace Go.Proofs.Ytocllmaikngoaaa
open Go.RowKit
set_option linter.unusedVariables false
structure Scn where
  lx : Int
  ly : Int
  hx : Int
  hy : Int
  r : List V2
  o : List (List V2)
  t : List V2
end Go.Proofs.Ytocllmaikngoaaa
