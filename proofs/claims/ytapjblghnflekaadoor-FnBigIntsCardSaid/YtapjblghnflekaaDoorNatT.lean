/-
  The reference's natural numbers: contracts that both seats know: NatOk, l02Trim.
-/
import Derived.Test.YtapjblghnflekaaDoorG1
namespace Go.Proofs.YtapjblghnflekaaDoor
open Go.RowKit
set_option linter.unusedVariables false

set_option maxHeartbeats 800000 in
theorem spec_Trim (w : World) (B : Nat) (A : Option Addr) (n c : Nat) (xs : List Int) (hn : xs.length = n) (hx : Rd w B A (iv xs)) (hc : n ≤ c) (hcm : c ≤ maxLen) :
    Calls Tryd.prog 46 #[.slice A n c] w fun e w' => ∃ m, e = .returned (.slice A m c) ∧ m ≤ n ∧ trim xs = xs.take m ∧ w = w' := by
  unfold maxLen at hcm
  go_enter Tryd.func46, Tryd.ntmps46
  go_wp2_with fail
  go_loop [3] (fun i => ∃ k : Nat, k ≤ n ∧ i = .int .i64 k ∧ Hid (trim xs = trim (xs.take k))) (fun i => (intOf i).toNat)
  case atStart => exact ⟨n, Nat.le_refl _, rfl, by show _ = _; rw [List.take_of_length_le (by omega)]⟩
  case round =>
    obtain ⟨k, hk, rfl, H⟩ := hrel
    by_cases h0 : k = 0
    · subst h0
      have HT : Hid (trim xs = xs.take 0) := H.out
      clear H hx
      go_wp2_with fail
      go_ret
      exact ⟨0, rfl, Nat.zero_le _, HT.out, rfl⟩
    · obtain ⟨j, rfl⟩ : ∃ j, k = j + 1 := ⟨k - 1, by omega⟩
      obtain ⟨ad, hA, hb1, hc1⟩ := hx.int (k := j) (by omega)
      by_cases hz : xs[j] = 0
      · have HN : Hid (trim xs = trim (xs.take j)) := H.out.trans (trim_take_step (by omega) hz)
        have hzb : (xs[j] == 0) = true := by simp [hz]
        clear H hx hz h0
        subst hA
        go_wp2_with fail
        go_round
        case rel => exact ⟨j, by omega, by go_num, HN⟩
        case measure => simp [intOf]
      · have HN : Hid (trim xs = xs.take (j + 1)) := H.out.trans (trim_take_end (by omega) hz)
        have hzb : (xs[j] == 0) = false := by simp [hz]
        clear H hx hz h0
        subst hA
        go_wp2_with fail
        go_ret
        exact ⟨j + 1, rfl, by omega, HN.out, rfl⟩
end Go.Proofs.YtapjblghnflekaaDoor
