/-
  The contracts on fractions, told over whole fractions: both sides.
-/
import Derived.Test.YtnbaookdeijhhaaGreatDoorPtM
import Derived.Test.YtnbaookdeijhhaaGreatDoorRK
import Derived.Test.YtnbaookdeijhhaaGreatDoorNatI8
import Derived.Test.YtnbaookdeijhhaaGreatDoorPB
import Derived.Test.YtnbaookdeijhhaaGreatDoorBA
import Derived.Test.YtnbaookdeijhhaaGreatDoorNatLen
import Derived.Deep.CutRange
import Derived.Sort.AtCall
import Derived.Test.YtnbaookdeijhhaaGreatDoorIA
import Derived.Test.YtnbaookdeijhhaaGreatDoorIntI
import Derived.Test.YtnbaookdeijhhaaGreatDoorRatR4
import Derived.Test.YtnbaookdeijhhaaGreatDoorBigR
import Derived.Test.YtnbaookdeijhhaaGreatDoorRA
import Derived.Deep.RegionHeld3
namespace Go.Proofs.YtnbaookdeijhhaaGreatDoor
open Go.RowKit
set_option linter.unusedVariables false
theorem impl_ratQ (w : World) (B : Nat) (hB : B ≤ w.heap.size) {v0 v1 v2 : Value} {Z : RQ} (h : QIn w B v0 v1 v2 Z) :
    Calls Tryz.prog 42 #[.agg #[v0, v1, v2]] w fun e w' => e = .returned (.bool (ratQ Z)) ∧ Below w.heap.size w w' := by
  obtain ⟨A, n, c, D, m, k, rfl, rfl, rfl, r1, r2, c1, c2⟩ := h
  exact impl_ratValid w B hB Z.1.1 A n c Z.1.2 r1 D m k Z.2 r2
theorem spec_ratQ (w : World) (B : Nat) (hB : B ≤ w.heap.size) {v0 v1 v2 : Value} {Z : RQ} (h : QIn w B v0 v1 v2 Z) :
    Calls Tryz.prog 114 #[.agg #[v0, v1, v2]] w fun e w' => e = .returned (.bool (ratQ Z)) ∧ Below w.heap.size w w' := by
  obtain ⟨A, n, c, D, m, k, rfl, rfl, rfl, r1, r2, c1, c2⟩ := h
  exact spec_RatOk w B hB Z.1.1 A n c Z.1.2 r1 D m k Z.2 r2
end Go.Proofs.YtnbaookdeijhhaaGreatDoor
