/-
  Operations on fractions whose value is known: the program's contracts.
-/
import Derived.Test.YtnbaookdeijhhaaGreatDoorPtQ
import Derived.Test.YtnbaookdeijhhaaGreatDoorRTN
import Derived.Test.YtnbaookdeijhhaaGreatDoorRatS
import Derived.Test.YtnbaookdeijhhaaGreatDoorRatU1
namespace Go.Proofs.YtnbaookdeijhhaaGreatDoor
open Go.RowKit
set_option linter.unusedVariables false
theorem is_sameQ (w : World) (B : Nat) (hB : B ≤ w.heap.size) {v0 v1 v2 : Value} {Z : RQ} (h : QIn w B v0 v1 v2 Z) {u0 u1 u2 : Value} (h' : QIn w B u0 u1 u2 Z) :
    Calls Tryz.prog 10 #[.agg #[v0, v1, v2], .agg #[u0, u1, u2]] w fun e w' => e = .returned (.bool true) ∧ Below w.heap.size w w' := by
  have hc := impl_sameQ w B hB h h'
  rw [show sameQ Z Z = true from sameR_self Z] at hc
  exact hc
end Go.Proofs.YtnbaookdeijhhaaGreatDoor
