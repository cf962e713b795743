/-
  The laws' fractions: what the reference's draws make.
-/
import Derived.Test.YtnbaookdeijhhaaGreatDoorBND
import Derived.Test.YtnbaookdeijhhaaGreatDoorPtQ
import Derived.Test.YtnbaookdeijhhaaGreatDoorPtM
import Derived.Test.YtnbaookdeijhhaaGreatDoorRTN
namespace Go.Proofs.YtnbaookdeijhhaaGreatDoor
open Go.RowKit
set_option linter.unusedVariables false
theorem ofQ_low (a : Int) (m : Nat) (ha : a.natAbs ≤ 1000) (hm : 0 < m) (hm1 : m ≤ 1000) : ofQ a m = lowR a m := by
  obtain ⟨b1, z1, _, _⟩ := capZ_back (z := a) (Nat.lt_of_le_of_lt ha (by decide +kernel))
  obtain ⟨b2, _, _, n2⟩ := capZ_back (z := (m : Int)) (Nat.lt_of_le_of_lt (show (m : Int).natAbs ≤ 1000 by omega) (by decide +kernel))
  have s2 : (capZ (m : Int)).1 = false := by
    rw [capZ_sign _ (Nat.lt_of_le_of_lt (show (m : Int).natAbs ≤ 1000 by omega) (by decide +kernel))]; exact decide_eq_false (by omega)
  rw [ofQ, makeR, b1, b2, s2, z1, n2]
  rfl
end Go.Proofs.YtnbaookdeijhhaaGreatDoor
