/-
  What IsDigits answers, of the reference.
-/
import Derived.Test.YtfajcogkbmefjaaDoorPA
namespace Go.Proofs.YtfajcogkbmefjaaDoor
open Go.RowKit
set_option linter.unusedVariables false

set_option maxHeartbeats 400000 in
theorem spec_IsDigits (s : ByteArray) (w : World) (hs : s.size ≤ maxLen) :
    Calls Tryd.prog 42 #[.string s] w fun e w' => e = .returned (.bool (digsB s)) ∧ w = w' := by
  unfold maxLen at hs
  go_enter Tryd.func42, Tryd.ntmps42
  go_wp2
  go_loop [3] (fun i => ∃ k : Nat, k ≤ s.size ∧ i = .int .i64 k ∧ Hid (∀ j (h : j < s.size), j < k → digB s[j] = true)) (fun i => s.size - (intOf i).toNat)
  case atStart => exact ⟨0, Nat.zero_le _, rfl, fun j _ h => absurd h (Nat.not_lt_zero _)⟩
  case round =>
    obtain ⟨k, hk, rfl, H⟩ := hrel
    by_cases hlt : k < s.size
    · by_cases h1 : (s[k].toNat : Int) < 48
      · have HB : Hid (digsB s = false) := digsB_bad hlt (by simp [digB]; omega)
        go_wp2
        go_ret
        exact ⟨ret_bool HB.out.symm, rfl⟩
      · by_cases h2 : 57 < (s[k].toNat : Int)
        · have HB : Hid (digsB s = false) := digsB_bad hlt (by simp [digB]; omega)
          go_wp2
          go_ret
          exact ⟨ret_bool HB.out.symm, rfl⟩
        · have HN : Hid (∀ j (h : j < s.size), j < k + 1 → digB s[j] = true) := fun j hj hjk => by
            by_cases e : j = k
            · subst e; simp [digB]; omega
            · exact H.out j hj (by omega)
          clear H
          go_wp2
          go_round
          case rel => exact ⟨k + 1, by omega, by go_num, HN⟩
          case measure => simp [intOf]; omega
    · have hk' : k = s.size := by omega
      by_cases h0 : 0 < s.size
      · have HB : Hid (digsB s = true) := digsB_true h0 fun i hi => H.out i hi (by omega)
        clear H hk'
        go_wp2
        go_ret
        exact ⟨ret_bool HB.out.symm, rfl⟩
      · have HB : Hid (digsB s = false) := digsB_nil (by omega)
        clear H hk'
        go_wp2
        go_ret
        exact ⟨ret_bool HB.out.symm, rfl⟩
end Go.Proofs.YtfajcogkbmefjaaDoor
