/-
  The program's headings: contracts: headingAfter, isHeading, NextHeading.
-/
import Derived.Test.YtafhhemojdblpaaDoorHedP
import Derived.Test.YtafhhemojdblpaaDoorLB
namespace Go.Proofs.YtafhhemojdblpaaDoor
open Go.RowKit
set_option linter.unusedVariables false
theorem impl_headingAfter (w : World) (k : Int) :
    Calls Tryd.prog 30 #[.int .i64 k] w fun e w' => e = .returned (.int .i64 ((hd k : Nat) : Int)) ∧ w = w' := by
  have h1 := tmod4_range k
  have HT := hide (hd_emod k)
  have h2 := hd_lt k
  go_enter Tryd.func30, Tryd.ntmps30
  go_wp2_with fail
  go_ret
  exact ⟨ret_int HT.out, rfl⟩
theorem impl_isHeading (w : World) (k : Int) :
    Calls Tryd.prog 28 #[.int .i64 k] w fun e w' => e = .returned (.bool (decide (0 ≤ k ∧ k ≤ 3))) ∧ w = w' := by
  have HC := hide (impl_headingAfter w k)
  have HN : Hid (decide (k = ((hd k : Nat) : Int)) = decide (0 ≤ k ∧ k ≤ 3)) := by
    show _ = _
    have := hd_int k
    exact decide_eq_decide.2 (by omega)
  generalize ((hd k : Nat) : Int) = n at *
  go_enter Tryd.func28, Tryd.ntmps28
  go_wp2_with fail
  refine HC.out.mono ?_
  rintro e w1 ⟨rfl, rfl⟩
  go_wp2_with fail
  go_ret
  exact ⟨by rw [← HN.out]; rfl, rfl⟩
theorem impl_NextHeading (w : World) (h t : Int) (fh : (Lit.int .i64 h).wf = true) (ft : (Lit.int .i64 t).wf = true) :
    Calls Tryd.prog 9 #[.int .i64 h, .int .i64 t] w fun e w' => e = .returned (.int .i64 (nxt h t)) ∧ w = w' := by
  have b1 := bounds_i64 fh
  have b2 := bounds_i64 ft
  have HC := hide (impl_isHeading w h)
  clear fh ft
  by_cases c : 0 ≤ h ∧ h ≤ 3
  case neg =>
    have HN : Hid (nxt h t = -1) := nxt_no fun k => c k.1
    rw [decide_eq_false c] at HC
    go_enter Tryd.func9, Tryd.ntmps9
    go_wp2_with fail
    refine HC.out.mono ?_
    rintro e w1 ⟨rfl, rfl⟩
    go_wp2_with fail
    go_ret
    exact ⟨ret_int HN.out.symm, rfl⟩
  rw [decide_eq_true c] at HC
  by_cases c1 : t = 1
  · have HA := hide (impl_headingAfter w (h + t))
    rw [← nxt_yes c (.inl c1)] at HA
    generalize nxt h t = r at *
    subst c1
    go_enter Tryd.func9, Tryd.ntmps9
    go_wp2_with fail
    refine HC.out.mono ?_
    rintro e w1 ⟨rfl, rfl⟩
    go_wp2_with fail
    refine HA.out.mono ?_
    rintro e w1 ⟨rfl, rfl⟩
    go_wp2_with fail
    go_ret
    exact ⟨rfl, rfl⟩
  · by_cases c2 : t = -1
    · have HA := hide (impl_headingAfter w (h + t))
      rw [← nxt_yes c (.inr c2)] at HA
      generalize nxt h t = r at *
      subst c2
      go_enter Tryd.func9, Tryd.ntmps9
      go_wp2_with fail
      refine HC.out.mono ?_
      rintro e w1 ⟨rfl, rfl⟩
      go_wp2_with fail
      refine HA.out.mono ?_
      rintro e w1 ⟨rfl, rfl⟩
      go_wp2_with fail
      go_ret
      exact ⟨rfl, rfl⟩
    · have HN : Hid (nxt h t = -1) := nxt_no fun k => by rcases k.2 with k | k <;> contradiction
      have k1 : (t != 1) = true := by simp [c1]
      have k2 : (t != -1) = true := by simp [c2]
      go_enter Tryd.func9, Tryd.ntmps9
      go_wp2_with fail
      refine HC.out.mono ?_
      rintro e w1 ⟨rfl, rfl⟩
      go_wp2_with fail
      go_ret
      exact ⟨ret_int HN.out.symm, rfl⟩
end Go.Proofs.YtafhhemojdblpaaDoor
