/-
  Join, of the reference: contract.
-/
import Derived.Test.YtfajcogkbmefjaaDoorJoinI
namespace Go.Proofs.YtfajcogkbmefjaaDoor
open Go.RowKit
set_option linter.unusedVariables false
set_option maxHeartbeats 400000 in
theorem spec_Join (A : Option Addr) (n c B : Nat) (xs : List ByteArray) (s : ByteArray) (w : World) (hn : xs.length = n) (hx : Rd w B A (sv xs)) (hl : n ≤ 1048576) (hsum : sumS xs ≤ 1048576) (hs : s.size ≤ 1048576) :
    Calls Tryd.prog 16 #[.slice A n c, .string s] w fun e w' => e = .returned (.string (joinB xs s)) ∧ w = w' := by
  go_enter Tryd.func16, Tryd.ntmps16
  go_wp2
  go_loop [5, 10] (fun q i => ∃ (k : Nat) (S : ByteArray), k ≤ n ∧ i = .int .i64 k ∧ q = .string S ∧ S.size ≤ 1048576 + k * 1048576 ∧ Hid (S.data.toList = joinL (xs.take k) s)) (fun _ i => n - (intOf i).toNat)
  case atStart => exact ⟨0, ⟨#[]⟩, Nat.zero_le _, rfl, rfl, by decide, rfl⟩
  case round =>
    obtain ⟨k, S, hk, rfl, rfl, hS, H⟩ := hrel
    by_cases hlt : k < n
    · obtain ⟨ad, hA, hb1, hc1⟩ := hx.str (k := k) (by omega)
      have htk : xs.take (k + 1) = xs.take k ++ [xs[k]] := List.take_succ_eq_append_getElem (by omega)
      have hbound : (joinL (xs.take (k + 1)) s).length ≤ 1048576 + (k + 1) * 1048576 := by
        have h1 := joinL_len (xs.take (k + 1)) s
        have h2 := sumS_take_le xs (k + 1)
        have h3 : (xs.take (k + 1)).length = k + 1 := by rw [List.length_take]; omega
        rw [h3] at h1
        have h4 : (k + 1) * s.size ≤ (k + 1) * 1048576 := Nat.mul_le_mul_left _ hs
        omega
      have hxs : xs[k].size ≤ 1048576 := by
        have h2 := sumS_take_le xs (k + 1)
        rw [sumS_step (by omega)] at h2
        omega
      by_cases h0 : k = 0
      · subst h0
        have HN : Hid ((S ++ xs[0]).data.toList = joinL (xs.take 1) s) := by
          show _ = _
          rw [Go.Joins.data_append, H.out, htk]
          simp [joinL_nil, joinL_one]
        have HZ : Hid ((S ++ xs[0]).size ≤ 1048576 + 1 * 1048576) := by show _ ≤ _; rw [← ba_size, HN.out]; exact hbound
        have hc0 : w.cell? ad = some (.string xs[0]) := by rw [add_zero'] at hc1; exact hc1
        clear hx H htk hbound hc1
        subst hA
        go_wp2
        go_round
        case rel => exact ⟨1, _, by omega, rfl, rfl, HZ.out, HN⟩
        case measure => simp [intOf]; omega
      · have h0' : 0 < k := by omega
        have HN : Hid ((S ++ s ++ xs[k]).data.toList = joinL (xs.take (k + 1)) s) := by
          show _ = _
          rw [Go.Joins.data_append, Go.Joins.data_append, H.out, htk, joinL_snoc]
          intro e
          have := congrArg List.length e
          rw [List.length_take] at this
          have h9 : ([] : List ByteArray).length = 0 := rfl
          rw [h9] at this
          omega
        have HZ : Hid ((S ++ s ++ xs[k]).size ≤ 1048576 + (k + 1) * 1048576) := by show _ ≤ _; rw [← ba_size, HN.out]; exact hbound
        clear hx H htk hbound h0
        subst hA
        go_wp2
        go_round
        case rel => exact ⟨k + 1, _, by omega, by go_num, rfl, HZ.out, HN⟩
        case measure => simp [intOf]; omega
    · have HE : Hid (S = joinB xs s) := by
        have h1 := H.out
        rw [List.take_of_length_le (by omega)] at h1
        show S = ⟨(joinL xs s).toArray⟩
        rw [← h1]
      clear H
      go_wp2
      go_ret
      exact ⟨ret_string HE.out, rfl⟩
end Go.Proofs.YtfajcogkbmefjaaDoor
