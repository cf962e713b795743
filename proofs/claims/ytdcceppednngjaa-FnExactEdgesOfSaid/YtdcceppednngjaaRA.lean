/-
  The texts NatT, put together; each has its own heading below. No condition of ours.
-/
import Derived.Test.YtdcceppednngjaaPB
/-
  The reference's natural numbers: contracts that both seats know: NatOk, l02Trim.
-/

namespace Go.Proofs.Ytdcceppednngjaa
open Go.RowKit
set_option linter.unusedVariables false

theorem l01In_all (n lo hi : Int) (w : World) (b : Bool) (h : Hid (b = decide (lo ≤ n ∧ n ≤ hi))) :
    Calls Try.prog 68 #[.int .i64 n, .int .i64 lo, .int .i64 hi] w fun e w' => e = .returned (.bool b) ∧ w = w' := by
  by_cases h1 : lo ≤ n
  · go_enter Try.func68, Try.ntmps68
    go_wp2
    go_ret
    exact ⟨ret_bool (a := decide (n ≤ hi)) (by rw [h.out]; simp [h1]), rfl⟩
  · go_enter Try.func68, Try.ntmps68
    go_wp2
    go_ret
    exact ⟨ret_bool (a := false) (by rw [h.out]; simp; omega), rfl⟩
end Go.Proofs.Ytdcceppednngjaa
