/-
  The reference's sums of polygons: contracts: l07Min, l07Max, WidthOf.
-/
import Derived.Test.YtafhhemojdblpaaSP
import Derived.Test.YtafhhemojdblpaaPolI
import Derived.Test.YtafhhemojdblpaaLB
import Derived.Test.YtafhhemojdblpaaPolR
namespace Go.Proofs.Ytafhhemojdblpaa
open Go.RowKit
set_option linter.unusedVariables false
theorem l07Max_any (w : World) (x y : Int) :
    Calls Try.prog 10 #[.int .i64 x, .int .i64 y] w fun e w' => e = .returned (.int .i64 (max x y)) ∧ w = w' := by
  by_cases h : y < x
  · have HM : Hid (x = max x y) := by show _ = _; omega
    go_enter Try.func10, Try.ntmps10
    go_wp2_with fail
    go_ret
    exact ⟨ret_int HM.out, rfl⟩
  · have HM : Hid (y = max x y) := by show _ = _; omega
    go_enter Try.func10, Try.ntmps10
    go_wp2_with fail
    go_ret
    exact ⟨ret_int HM.out, rfl⟩
end Go.Proofs.Ytafhhemojdblpaa
