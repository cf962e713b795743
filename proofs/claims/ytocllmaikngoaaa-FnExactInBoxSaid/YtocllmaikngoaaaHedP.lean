/-
  Quarter turns, said of vectors and lists: what the functions of headings answer.
-/
import Derived.Test.YtocllmaikngoaaaHM
import Derived.Test.YtocllmaikngoaaaPT
import Derived.Test.YtocllmaikngoaaaLB
import Derived.Test.YtocllmaikngoaaaPtB
import Derived.Deep.RegionHeld3
import Derived.Deep.CutRange
import Derived.Sort.AtCall
import Derived.Laws.StructEq
namespace Go.Proofs.Ytocllmaikngoaaa
open Go.RowKit
set_option linter.unusedVariables false
/-- the heading that k quarter turns from heading 0 lead to -/
def hd (k : Int) : Nat := (k % 4).toNat
def rot1 (v : V2) : V2 := (-v.2, v.1)
def rotK : Nat → V2 → V2
  | 0, v => v
  | k + 1, v => rotK k (rot1 v)
/-- the rows of the table: what becomes of (1, 0), and of (0, 1) -/
def qx (k : Nat) : V2 := rotK k (1, 0)
end Go.Proofs.Ytocllmaikngoaaa
