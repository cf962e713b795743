/-
  The program's headings: contracts: the product of a matrix and a vector; TurnVec, TurnPolygon.
-/
import Derived.Test.YtafhhemojdblpabDoorHedI
import Derived.Test.YtafhhemojdblpabDoorHedT
import Derived.Test.YtafhhemojdblpabDoorPolI3
namespace Go.Proofs.YtafhhemojdblpabDoor
open Go.RowKit
set_option linter.unusedVariables false
set_option maxRecDepth 100000 in
set_option maxHeartbeats 1600000 in
theorem impl_mtimes (w : World) (a b c d x y : Int) :
    Calls Tryd.prog 13 #[.agg #[.int .i64 a, .int .i64 b, .int .i64 c, .int .i64 d], .agg #[.int .i64 x, .int .i64 y]] w fun e w' => e = .returned (.agg #[.int .i64 (wrap64 (wrap64 (a * x) + wrap64 (c * y))), .int .i64 (wrap64 (wrap64 (b * x) + wrap64 (d * y)))]) ∧ Below w.heap.size w w' := by
  go_enter Tryd.func13, Tryd.ntmps13
  go_wp2_with fail
  generalize wrap64 (wrap64 (a * x) + wrap64 (c * y)) = u at *
  generalize wrap64 (wrap64 (b * x) + wrap64 (d * y)) = v at *
  refine bodyPost_ret (results_cell_row rfl _ _ (w.heap.size + 1 + 1) _ #[.int .i64 u, .int .i64 v] (0, 0) _ rfl (show Box _ _ 30 #[.int .i64 u, .int .i64 v] from Box.last _ _ _ (by rw [alloc_size, alloc_size])) Tryd.underlying30 rfl Tryd.sizeVec) rfl ?_
  exact ⟨rfl, below_alloc (below_alloc (below_new _ _) _) _⟩
theorem wrap_lin {p q x y : Int} (h : p = 0 ∨ q = 0) : wrap64 (wrap64 (p * x) + wrap64 (q * y)) = IntKind.i64.wrap (p * x + q * y) := by
  have e : ∀ z : Int, wrap64 z = IntKind.i64.wrap z := fun z => (IntWalk.i64_left z).symm
  have z0 : IntKind.i64.wrap 0 = 0 := by decide
  rw [e, e, e]
  rcases h with rfl | rfl
  · rw [Int.zero_mul, z0, Int.zero_add, Int.zero_add, wrap_keep (wrap_wf _ _)]
  · rw [Int.zero_mul, z0, Int.add_zero, Int.add_zero, wrap_keep (wrap_wf _ _)]
theorem q_axis {k : Nat} (h : k < 4) : ((qx k).1 = 0 ∨ (qy k).1 = 0) ∧ ((qx k).2 = 0 ∨ (qy k).2 = 0) := by
  rcases (show k = 0 ∨ k = 1 ∨ k = 2 ∨ k = 3 by omega) with rfl | rfl | rfl | rfl <;> decide
/-- a row of the table times a vector -/
theorem impl_mtimesQ (w : World) (k : Nat) (hk : k < 4) (x y : Int) :
    Calls Tryd.prog 13 #[.agg #[.int .i64 (qx k).1, .int .i64 (qx k).2, .int .i64 (qy k).1, .int .i64 (qy k).2], .agg #[.int .i64 x, .int .i64 y]] w fun e w' => e = .returned (.agg #[.int .i64 (rotW k (x, y)).1, .int .i64 (rotW k (x, y)).2]) ∧ Below w.heap.size w w' := by
  have h := impl_mtimes w (qx k).1 (qx k).2 (qy k).1 (qy k).2 x y
  rw [wrap_lin (q_axis hk).1, wrap_lin (q_axis hk).2] at h
  have e : rotW k (x, y) = (IntKind.i64.wrap ((qx k).1 * x + (qy k).1 * y), IntKind.i64.wrap ((qx k).2 * x + (qy k).2 * y)) := by unfold rotW; rw [rot_tab hk]
  rw [e]
  exact h
end Go.Proofs.YtafhhemojdblpabDoor
