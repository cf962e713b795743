/-
  The laws' helpers told over whole fractions, and the same for vectors and points: szPoint, toVec, toPoint, eqVec, eqPoint, markPoint, heldPoint.
-/
import Derived.Test.YtnbaookdeijhhaaDoorPtM
import Derived.Test.YtnbaookdeijhhaaDoorRatL
namespace Go.Proofs.YtnbaookdeijhhaaDoor
open Go.RowKit
set_option linter.unusedVariables false
/-! vectors -/
theorem Tryd.sizeVec : (Tryd.prog.info? 25).map (·.size) = some 2 := by kernel_rfl
theorem toVec_any (w : World) (x y : Int) (hx : (Lit.int .i64 x).wf = true) (hy : (Lit.int .i64 y).wf = true) :
    Calls Tryd.prog 6 #[.agg #[.int .i64 x, .int .i64 y]] w fun e w' => e = .returned (.agg #[.int .i64 x, .int .i64 y]) ∧ Below w.heap.size w w' := by
  obtain ⟨hx1, hx2⟩ := bounds_i64 hx
  obtain ⟨hy1, hy2⟩ := bounds_i64 hy
  go_enter Tryd.func6, Tryd.ntmps6
  go_wp2_with fail
  refine bodyPost_ret (results_cell_row rfl _ _ (w.heap.size + 1) _ #[.int .i64 x, .int .i64 y] (0, 0) _ rfl (show Box _ _ 25 #[.int .i64 x, .int .i64 y] from (Box.last _ _ _ (alloc_size _ _).symm).alloc _) Tryd.underlying25 rfl Tryd.sizeVec) rfl ?_
  · exact ⟨rfl, below_alloc (below_alloc (below_new _ _) _) _⟩
theorem eqVec_any (w : World) (x y : Int) (hx : (Lit.int .i64 x).wf = true) (hy : (Lit.int .i64 y).wf = true) :
    Calls Tryd.prog 10 #[.agg #[.int .i64 x, .int .i64 y], .agg #[.int .i64 x, .int .i64 y]] w fun e w' => e = .returned (.bool true) ∧ Below w.heap.size w w' := by
  obtain ⟨hx1, hx2⟩ := bounds_i64 hx
  obtain ⟨hy1, hy2⟩ := bounds_i64 hy
  go_enter Tryd.func10, Tryd.ntmps10
  go_wp2_with fail
  go_ret
  exact ⟨rfl, below_alloc (below_new _ _) _⟩
end Go.Proofs.YtnbaookdeijhhaaDoor
