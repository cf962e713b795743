/-
  What PadZeros answers, of the program and of the reference.
-/
import Derived.Test.YtnbaookdeijhhaaGreatDoorPadP
namespace Go.Proofs.YtnbaookdeijhhaaGreatDoor
open Go.RowKit
set_option linter.unusedVariables false

set_option maxHeartbeats 400000 in
theorem spec_PadZeros (s : ByteArray) (n : Int) (w : World) (hs : s.size ≤ 1048576) :
    Calls Tryz.prog 162 #[.string s, .int .i64 n] w fun e w' => e = .returned (.string (padB s n)) ∧ w = w' := by
  by_cases h2 : 2000 < n
  · have HB : Hid (padB s n = s) := pad_same (.inr h2)
    go_enter Tryz.func162, Tryz.ntmps162
    go_wp2
    go_ret
    exact ⟨ret_string HB.out.symm, rfl⟩
  · go_enter Tryz.func162, Tryz.ntmps162
    go_wp2
    go_loop [0] (fun q => ∃ (k : Nat) (S : ByteArray), q = .string S ∧ S.size = s.size + k ∧ (k = 0 ∨ (S.size : Int) ≤ n) ∧ Hid (S.data.toList = padL k s.data.toList)) (fun q => match q with | .string S => (n - S.size).toNat | _ => 0)
    case atStart => exact ⟨0, s, rfl, rfl, .inl rfl, rfl⟩
    case round =>
      obtain ⟨k, S, rfl, hS, hk, H⟩ := hrel
      by_cases hlt : (S.size : Int) < n
      · have HN : Hid ((⟨#[48]⟩ ++ S : ByteArray).data.toList = padL (k + 1) s.data.toList) := by
          show _ = _
          rw [Go.Joins.data_append, H.out]; rfl
        have HS : Hid ((⟨#[48]⟩ ++ S : ByteArray).size = s.size + (k + 1)) := by
          show _ = _
          rw [ByteArray.size_append, hS]
          show 1 + _ = _
          omega
        have hS' : S.size ≤ 1050576 := by omega
        have H2 : Hid (((⟨#[48]⟩ ++ S : ByteArray).size : Int) ≤ n) := by show _ ≤ _; rw [HS.out]; omega
        have HSS : Hid (S.size = s.size + k) := hS
        clear hS H hk
        go_wp2
        go_round
        case rel => exact ⟨k + 1, _, rfl, HS.out, .inr H2.out, HN⟩
        case measure => have h1 := HS.out; have h2 := HSS.out; simp at h1 ⊢; omega
      · have HE : Hid (S = padB s n) := by
          unfold padB
          rw [if_neg (by omega), show (n - s.size).toNat = k by omega, ← H.out]
          exact (Go.Joins.bytes_eta S).symm
        clear H hS hk
        go_wp2
        go_ret
        exact ⟨ret_string HE.out, rfl⟩
set_option maxHeartbeats 400000 in
theorem impl_PadZeros (s : ByteArray) (n : Int) (w : World) (hs : s.size ≤ 1048576) :
    Calls Tryz.prog 94 #[.string s, .int .i64 n] w fun e w' => e = .returned (.string (padB s n)) ∧ Below w.heap.size w w' := by
  by_cases h1 : n ≤ s.size
  · have HB : Hid (padB s n = s) := pad_same (.inl h1)
    go_enter Tryz.func94, Tryz.ntmps94
    go_wp2
    go_ret
    exact ⟨ret_string HB.out.symm, Below.refl _ _⟩
  · by_cases h2 : 2000 < n
    · have HB : Hid (padB s n = s) := pad_same (.inr h2)
      go_enter Tryz.func94, Tryz.ntmps94
      go_wp2
      go_ret
      exact ⟨ret_string HB.out.symm, Below.refl _ _⟩
    · obtain ⟨k, hk⟩ : ∃ k : Nat, (k : Int) = n - s.size := ⟨(n - s.size).toNat, by omega⟩
      have hk2 : k ≤ 2000 := by omega
      have hR := Tryz.strings_Repeat ⟨#[48]⟩ k w (by omega) (by show 1 * k ≤ _; omega)
      have HB : Hid (padB s n = joinB [⟨(Lib.repeatL (ByteArray.mk #[48]).data.toList k).toArray⟩, s] ⟨#[]⟩) := by
        show _ = _
        unfold padB joinB joinL padL
        rw [if_neg (by omega), show (n - s.size).toNat = k by omega]
        show _ = (⟨(Lib.join [Lib.repeatL [48] k, s.data.toList] []).toArray⟩ : ByteArray)
        rw [repeat_zero]
        simp [Lib.join, List.intercalate]
      have hzs : (⟨(Lib.repeatL (ByteArray.mk #[48]).data.toList k).toArray⟩ : ByteArray).size = k := by
        show (Lib.repeatL [48] k).toArray.size = k
        rw [repeat_zero]; simp
      generalize (⟨(Lib.repeatL (ByteArray.mk #[48]).data.toList k).toArray⟩ : ByteArray) = z at hR HB hzs
      have hlen : Hid ((joinL [z, s] ⟨#[]⟩).length ≤ 140737488355328) := by
        have := joinL_len [z, s] ⟨#[]⟩
        simp only [sumS, List.map_cons, List.map_nil, List.sum_cons, List.sum_nil, List.length_cons, List.length_nil] at this
        have h0 : (ByteArray.mk #[]).size = 0 := rfl
        rw [h0] at this
        show _ ≤ _
        omega
      have h1' : decide (n ≤ (s.size : Int)) = false := decide_eq_false h1
      have h2' : decide (2000 < n) = false := decide_eq_false h2
      have h1l : (s.size : Int) < n := by omega
      have h2l : n ≤ 2000 := by omega
      rw [hk] at hR
      clear hk hzs h1 h2
      go_enter Tryz.func94, Tryz.ntmps94
      go_wp2_with fail
      refine hR.mono ?_
      rintro e w1 ⟨rfl, hb1⟩
      clear hR
      have hJ := joinWith_any w1.heap.size 2 2 [z, s] ⟨#[]⟩ (w1.alloc (.cells #[.string z, .string s] 9)) rfl (Nat.le_refl _)
        (fun j x hj => by
          rw [Nat.zero_add, World.cell?_alloc_mark]
          match j, hj with
          | 0, hj => simp at hj; simp [hj]
          | 1, hj => simp at hj; simp [hj])
        (by simp) (by omega) hlen.out
      go_wp2_with fail
      refine hJ.mono ?_
      rintro e w2 ⟨rfl, hb2⟩
      clear hJ
      go_wp2
      go_ret
      exact ⟨ret_string HB.out.symm, (hb1.alloc hb1.size _).trans (hb2.mono (by simp; have := hb1.size; omega))⟩
end Go.Proofs.YtnbaookdeijhhaaGreatDoor
