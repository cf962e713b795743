/-
  The contracts on fractions, told over whole fractions: both sides.
-/
import Derived.Test.YtdagomikjblgiaaGreatDoorPtM
import Derived.Test.YtdagomikjblgiaaGreatDoorRX
import Derived.Test.YtdagomikjblgiaaGreatDoorIntI
import Derived.Test.YtdagomikjblgiaaGreatDoorRL
import Derived.Test.YtdagomikjblgiaaGreatDoorBigR
import Derived.Test.YtdagomikjblgiaaGreatDoorRA
import Derived.Sort.AtCall
import Derived.Deep.RegionHeld3
import Derived.Deep.CutRange
namespace Go.Proofs.YtdagomikjblgiaaGreatDoor
open Go.RowKit
set_option linter.unusedVariables false
theorem impl_ratQ (w : World) (B : Nat) (hB : B ≤ w.heap.size) {v0 v1 v2 : Value} {Z : RQ} (h : QIn w B v0 v1 v2 Z) :
    Calls Tryz.prog 46 #[.agg #[v0, v1, v2]] w fun e w' => e = .returned (.bool (ratQ Z)) ∧ Below w.heap.size w w' := by
  obtain ⟨A, n, c, D, m, k, rfl, rfl, rfl, r1, r2, c1, c2⟩ := h
  exact impl_ratValid w B hB Z.1.1 A n c Z.1.2 r1 D m k Z.2 r2
theorem impl_intQ (w : World) (n : Int) (hn : (Lit.int .i64 n).wf = true) :
    Calls Tryz.prog 34 #[.int .i64 n] w fun e w' => QRes 3 w w' e (intQ n) :=
  (impl_RatFromInt w n hn).mono fun e w' h => QRes.of h
end Go.Proofs.YtdagomikjblgiaaGreatDoor
