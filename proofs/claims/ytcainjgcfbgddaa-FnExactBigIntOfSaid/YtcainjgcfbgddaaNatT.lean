/-
  The reference's natural numbers: contracts that both seats know: NatOk, l02Trim.
-/
import Derived.Test.YtcainjgcfbgddaaNatM
namespace Go.Proofs.Ytcainjgcfbgddaa
open Go.RowKit
set_option linter.unusedVariables false

theorem l01In_all (n lo hi : Int) (w : World) (b : Bool) (h : Hid (b = decide (lo ≤ n ∧ n ≤ hi))) :
    Calls Try.prog 70 #[.int .i64 n, .int .i64 lo, .int .i64 hi] w fun e w' => e = .returned (.bool b) ∧ w = w' := by
  by_cases h1 : lo ≤ n
  · go_enter Try.func70, Try.ntmps70
    go_wp2
    go_ret
    exact ⟨ret_bool (a := decide (n ≤ hi)) (by rw [h.out]; simp [h1]), rfl⟩
  · go_enter Try.func70, Try.ntmps70
    go_wp2
    go_ret
    exact ⟨ret_bool (a := false) (by rw [h.out]; simp; omega), rfl⟩
set_option maxHeartbeats 800000 in
theorem spec_NatOk (w : World) (B : Nat) (hB : B ≤ w.heap.size) (A : Option Addr) (n c : Nat) (xs : List Int) (R : RdI w B A n xs) :
    Calls Try.prog 43 #[.slice A n c] w fun e w' => e = .returned (.bool (natB xs)) ∧ w = w' := by
  obtain ⟨hn, hx, hl, hwf⟩ := R
  go_enter Try.func43, Try.ntmps43
  go_wp2_with fail
  go_loop [7] (fun i => ∃ k : Nat, k ≤ n ∧ i = .int .i64 k ∧ Hid (∀ j (h : j < xs.length), j < k → 0 ≤ xs[j] ∧ xs[j] ≤ 999999999)) (fun i => n - (intOf i).toNat)
  case atStart => exact ⟨0, Nat.zero_le _, rfl, fun j _ h => absurd h (Nat.not_lt_zero _)⟩
  case round =>
    obtain ⟨k, hk, rfl, H⟩ := hrel
    by_cases hlt : k < n
    · obtain ⟨ad, hA, hb1, hc1⟩ := hx.int (k := k) (by omega)
      by_cases hd : 0 ≤ xs[k] ∧ xs[k] ≤ 999999999
      · have HN : Hid (∀ j (h : j < xs.length), j < k + 1 → 0 ≤ xs[j] ∧ xs[j] ≤ 999999999) := fun j h hj => by
          by_cases e : j = k
          · subst e; exact hd
          · exact H.out j h (by omega)
        have HI := hide (l01In_all xs[k] 0 999999999 w true (by show true = _; simp [hd]))
        clear hd H hx hwf
        subst hA
        go_wp2_with fail
        refine HI.out.mono ?_
        rintro e w' ⟨rfl, rfl⟩
        go_wp2_with fail
        go_round
        case rel => exact ⟨k + 1, by omega, by go_num, HN⟩
        case measure => simp [intOf]; omega
      · have HB := hide (natB_bad (k := k) (by omega) hd)
        have HI := hide (l01In_all xs[k] 0 999999999 w false (by show false = _; simpa using hd))
        clear hd H hx hwf
        subst hA
        go_wp2_with fail
        refine HI.out.mono ?_
        rintro e w' ⟨rfl, rfl⟩
        go_wp2_with fail
        go_ret
        exact ⟨ret_bool HB.out.symm, rfl⟩
    · have hL : Limbs xs := fun d hd => by
        obtain ⟨j, hj, rfl⟩ := List.getElem_of_mem hd
        exact H.out j hj (by omega)
      clear H
      by_cases h60 : n ≤ 60
      · by_cases h0 : n = 0
        · have HB : Hid (natB xs = true) := by
            have : xs = [] := List.eq_nil_of_length_eq_zero (by omega)
            subst this; rfl
          subst h0
          clear hx hwf hL
          go_wp2_with fail
          go_ret
          exact ⟨ret_bool HB.out.symm, rfl⟩
        · have HB := hide (natB_last (l := xs) (by omega) (by omega) hL)
          obtain ⟨ad, hA, hb1, hc1⟩ := hx.int (k := n - 1) (by omega)
          have hz : ((n : Int) == 0) = false := by simp; omega
          have e1 : xs[xs.length - 1]'(by omega) = xs[n - 1]'(by omega) := by congr 1; omega
          have HB' := hide (HB.out.trans (by rw [e1]))
          generalize xs[n - 1]'(by omega) = y at *
          have h0' : 0 < n := by omega
          clear HB e1 hx hwf hL h0
          subst hA
          go_wp2_with fail
          go_ret
          exact ⟨ret_bool HB'.out.symm, rfl⟩
      · have HB := hide (natB_long (l := xs) (by omega))
        have h60' : 60 < n := by omega
        clear hx hwf hL h60
        go_wp2_with fail
        go_ret
        exact ⟨ret_bool HB.out.symm, rfl⟩
set_option maxHeartbeats 800000 in
theorem spec_Trim (w : World) (B : Nat) (A : Option Addr) (n c : Nat) (xs : List Int) (hn : xs.length = n) (hx : Rd w B A (iv xs)) (hc : n ≤ c) (hcm : c ≤ maxLen) :
    Calls Try.prog 78 #[.slice A n c] w fun e w' => ∃ m, e = .returned (.slice A m c) ∧ m ≤ n ∧ trim xs = xs.take m ∧ w = w' := by
  unfold maxLen at hcm
  go_enter Try.func78, Try.ntmps78
  go_wp2_with fail
  go_loop [3] (fun i => ∃ k : Nat, k ≤ n ∧ i = .int .i64 k ∧ Hid (trim xs = trim (xs.take k))) (fun i => (intOf i).toNat)
  case atStart => exact ⟨n, Nat.le_refl _, rfl, by show _ = _; rw [List.take_of_length_le (by omega)]⟩
  case round =>
    obtain ⟨k, hk, rfl, H⟩ := hrel
    by_cases h0 : k = 0
    · subst h0
      have HT : Hid (trim xs = xs.take 0) := H.out
      clear H hx
      go_wp2_with fail
      go_ret
      exact ⟨0, rfl, Nat.zero_le _, HT.out, rfl⟩
    · obtain ⟨j, rfl⟩ : ∃ j, k = j + 1 := ⟨k - 1, by omega⟩
      obtain ⟨ad, hA, hb1, hc1⟩ := hx.int (k := j) (by omega)
      by_cases hz : xs[j] = 0
      · have HN : Hid (trim xs = trim (xs.take j)) := H.out.trans (trim_take_step (by omega) hz)
        have hzb : (xs[j] == 0) = true := by simp [hz]
        clear H hx hz h0
        subst hA
        go_wp2_with fail
        go_round
        case rel => exact ⟨j, by omega, by go_num, HN⟩
        case measure => simp [intOf]
      · have HN : Hid (trim xs = xs.take (j + 1)) := H.out.trans (trim_take_end (by omega) hz)
        have hzb : (xs[j] == 0) = false := by simp [hz]
        clear H hx hz h0
        subst hA
        go_wp2_with fail
        go_ret
        exact ⟨j + 1, rfl, by omega, HN.out, rfl⟩
end Go.Proofs.Ytcainjgcfbgddaa
