/-
  The laws' marks on lists of vectors: contracts.
-/
import Derived.Test.YtocllmaikngoaaaDoorVecL
namespace Go.Proofs.YtocllmaikngoaaaDoor
open Go.RowKit
set_option linter.unusedVariables false
theorem szVecS_ok (w : World) (A : Option Addr) (n c k : Nat) (hk : k ≤ 1048576) (h : n ≤ k) :
    Calls Tryd.prog 23 #[.slice A n c, .int .i64 k] w fun e w' => e = .returned (.int .i64 ((k - n : Nat) : Int)) ∧ w = w' := by
  have e : ((k - n : Nat) : Int) = (k : Int) - (n : Int) := by omega
  rw [e]
  go_enter Tryd.func23, Tryd.ntmps23
  go_wp2_with fail
  go_ret
  exact ⟨rfl, rfl⟩
theorem szVecS_no (w : World) (A : Option Addr) (n c k : Nat) (hk : k ≤ 1048576) (hn : n ≤ maxLen) (h : k < n) :
    Calls Tryd.prog 23 #[.slice A n c, .int .i64 k] w fun e w' => e = .returned (.int .i64 (-1)) ∧ w = w' := by
  unfold maxLen at hn
  go_enter Tryd.func23, Tryd.ntmps23
  go_wp2_with fail
  go_ret
  exact ⟨rfl, rfl⟩
end Go.Proofs.YtocllmaikngoaaaDoor
