/-
  The program's sums of polygons: contracts: sumOf, MovePolygon of valid corners, MoveToOrigin.
-/
import Derived.Test.YtocllmaikngoaaaDoorSP
import Derived.Test.YtocllmaikngoaaaDoorPolI
import Derived.Test.YtocllmaikngoaaaDoorLB
import Derived.Test.YtocllmaikngoaaaDoorPolI3
namespace Go.Proofs.YtocllmaikngoaaaDoor
open Go.RowKit
set_option linter.unusedVariables false
theorem impl_sumOf (w : World) (x y u v : Int) (h1 : vecB x y = true) (h2 : vecB u v = true) :
    Calls Tryd.prog 76 #[.agg #[.int .i64 x, .int .i64 y], .agg #[.int .i64 u, .int .i64 v]] w fun e w' => e = .returned (.agg #[.int .i64 (x + u), .int .i64 (y + v)]) ∧ Below w.heap.size w w' := by
  have g1 := vecB_bounds h1
  have g2 := vecB_bounds h2
  clear h1 h2
  go_enter Tryd.func76, Tryd.ntmps76
  go_wp2_with fail
  refine bodyPost_ret (results_cell_row rfl _ _ (w.heap.size + 2) _ #[.int .i64 (x + u), .int .i64 (y + v)] (0, 0) _ rfl (show Box _ _ 31 #[.int .i64 (x + u), .int .i64 (y + v)] from Box.last _ _ _ (by rw [alloc_size, alloc_size])) Tryd.underlying31 rfl Tryd.sizeVec) rfl ?_
  exact ⟨rfl, below_alloc (below_alloc (below_new _ _) _) _⟩
end Go.Proofs.YtocllmaikngoaaaDoor
