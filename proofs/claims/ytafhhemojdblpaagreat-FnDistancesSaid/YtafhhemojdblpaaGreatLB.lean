/-
  The texts PtL, put together; each has its own heading below. No condition of ours.
-/
import Derived.Test.YtafhhemojdblpaaGreatPtM
import Derived.Test.YtafhhemojdblpaaGreatOwn
import Derived.Test.YtafhhemojdblpaaGreatPB
import Derived.Deep.CutRange
/-
  The laws' helpers told over whole fractions, and the same for vectors and points: szPoint, toVec, toPoint, eqVec, eqPoint, markPoint, heldPoint.
-/
namespace Go.Proofs.YtafhhemojdblpaaGreat
open Go.RowKit
set_option linter.unusedVariables false
/-! vectors -/
theorem Tryz.sizeVec:(Tryz.prog.info? 44).map (·.size)=some 2:=by kernel_rfl
theorem Tryz.sizePoint:(Tryz.prog.info? 29).map (·.size)=some 6:=by kernel_rfl
end Go.Proofs.YtafhhemojdblpaaGreat
