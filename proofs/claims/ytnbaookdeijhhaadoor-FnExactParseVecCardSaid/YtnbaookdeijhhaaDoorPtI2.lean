/-
  The program's points: contracts (2): Turn, PointOf, SamePoint.
-/
import Derived.Test.YtnbaookdeijhhaaDoorPtI
import Derived.Deep.RegionHeld3
import Derived.Deep.CutRange
import Derived.Sort.AtCall
namespace Go.Proofs.YtnbaookdeijhhaaDoor
open Go.RowKit
set_option linter.unusedVariables false
theorem vecB_bounds {x y : Int} (h : vecB x y = true) : -1000 ≤ x ∧ x ≤ 1000 ∧ -1000 ≤ y ∧ y ≤ 1000 := by
  unfold vecB at h; simp at h; omega
end Go.Proofs.YtnbaookdeijhhaaDoor
