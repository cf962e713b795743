/-
  The reference's headings: contracts: NextHeading.
-/
import Derived.Test.YtafhhemojdblpabHedP
import Derived.Test.YtafhhemojdblpabRA
namespace Go.Proofs.Ytafhhemojdblpab
open Go.RowKit
set_option linter.unusedVariables false
theorem spec_NextHeading (w : World) (h t : Int) (fh : (Lit.int .i64 h).wf = true) (ft : (Lit.int .i64 t).wf = true) :
    Calls Try.prog 4 #[.int .i64 h, .int .i64 t] w fun e w' => e = .returned (.int .i64 (nxt h t)) ∧ w = w' := by
  have b1 := bounds_i64 fh
  have b2 := bounds_i64 ft
  clear fh ft
  by_cases c : 0 ≤ h ∧ h ≤ 3
  case neg =>
    have HN : Hid (nxt h t = -1) := nxt_no fun k => c k.1
    have HC := hide (l01In_all h 0 3 w false (by show false = _; rw [decide_eq_false c]))
    go_enter Try.func4, Try.ntmps4
    go_wp2_with fail
    refine HC.out.mono ?_
    rintro e w1 ⟨rfl, rfl⟩
    go_wp2_with fail
    go_ret
    exact ⟨ret_int HN.out.symm, rfl⟩
  have HC := hide (l01In_all h 0 3 w true (by show true = _; rw [decide_eq_true c]))
  have key : ∀ s, (s = 1 ∨ s = -1) → (h + 4 + s) % 4 = nxt h s := fun s hs => by unfold nxt; rw [if_pos ⟨c, hs⟩]; omega
  by_cases c1 : t = 1
  · have HA := hide (key t (.inl c1))
    subst c1
    clear key
    go_enter Try.func4, Try.ntmps4
    go_wp2_with fail
    refine HC.out.mono ?_
    rintro e w1 ⟨rfl, rfl⟩
    go_wp2_with fail
    go_ret
    exact ⟨ret_int HA.out, rfl⟩
  · by_cases c2 : t = -1
    · have HA := hide (key t (.inr c2))
      subst c2
      clear key
      go_enter Try.func4, Try.ntmps4
      go_wp2_with fail
      refine HC.out.mono ?_
      rintro e w1 ⟨rfl, rfl⟩
      go_wp2_with fail
      go_ret
      exact ⟨ret_int HA.out, rfl⟩
    · have HN : Hid (nxt h t = -1) := nxt_no fun k => by rcases k.2 with k | k <;> contradiction
      have k1 : (t != 1) = true := by simp [c1]
      have k2 : (t != -1) = true := by simp [c2]
      clear key
      go_enter Try.func4, Try.ntmps4
      go_wp2_with fail
      refine HC.out.mono ?_
      rintro e w1 ⟨rfl, rfl⟩
      go_wp2_with fail
      go_ret
      exact ⟨ret_int HN.out.symm, rfl⟩
end Go.Proofs.Ytafhhemojdblpab
