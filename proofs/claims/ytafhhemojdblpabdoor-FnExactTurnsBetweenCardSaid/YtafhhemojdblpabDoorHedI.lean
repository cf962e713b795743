/-
  The program's headings: contracts: headingAfter, isHeading, NextHeading.
-/
import Derived.Test.YtafhhemojdblpabDoorHedP
import Derived.Test.YtafhhemojdblpabDoorLB
namespace Go.Proofs.YtafhhemojdblpabDoor
open Go.RowKit
set_option linter.unusedVariables false
theorem impl_headingAfter (w : World) (k : Int) :
    Calls Tryd.prog 12 #[.int .i64 k] w fun e w' => e = .returned (.int .i64 ((hd k : Nat) : Int)) ∧ w = w' := by
  have h1 := tmod4_range k
  have HT := hide (hd_emod k)
  have h2 := hd_lt k
  go_enter Tryd.func12, Tryd.ntmps12
  go_wp2_with fail
  go_ret
  exact ⟨ret_int HT.out, rfl⟩
theorem impl_isHeading (w : World) (k : Int) :
    Calls Tryd.prog 10 #[.int .i64 k] w fun e w' => e = .returned (.bool (decide (0 ≤ k ∧ k ≤ 3))) ∧ w = w' := by
  have HC := hide (impl_headingAfter w k)
  have HN : Hid (decide (k = ((hd k : Nat) : Int)) = decide (0 ≤ k ∧ k ≤ 3)) := by
    show _ = _
    have := hd_int k
    exact decide_eq_decide.2 (by omega)
  generalize ((hd k : Nat) : Int) = n at *
  go_enter Tryd.func10, Tryd.ntmps10
  go_wp2_with fail
  refine HC.out.mono ?_
  rintro e w1 ⟨rfl, rfl⟩
  go_wp2_with fail
  go_ret
  exact ⟨by rw [← HN.out]; rfl, rfl⟩
end Go.Proofs.YtafhhemojdblpabDoor
