/-
  The reference's natural numbers: contracts (2): l02Cmp, NatCmp, l02Add, NatAdd.
-/
import Derived.Test.YtcainjgcfbgddaaNatR
namespace Go.Proofs.Ytcainjgcfbgddaa
open Go.RowKit
set_option linter.unusedVariables false

set_option maxHeartbeats 1600000 in
theorem spec_Cmp (w : World) (B : Nat) (A A' : Option Addr) (n m c c' : Nat) (xs ys : List Int) (hn : xs.length = n) (hm : ys.length = m) (hx : Rd w B A (iv xs)) (hy : Rd w B A' (iv ys)) (hl : n ≤ 100000000) (hl' : m ≤ 100000000) (hcx : Canon xs) (hcy : Canon ys) :
    Calls Try.prog 74 #[.slice A n c, .slice A' m c'] w fun e w' => e = .returned (.int .i64 (cmpV (val xs) (val ys))) ∧ ∃ d, w' = w.drewN d := by
  by_cases hnm : n = m
  · subst hnm
    go_enter Try.func74, Try.ntmps74
    go_wp2_with fail
    go_loopw [5] (fun i wr => ∃ k d : Nat, k ≤ n ∧ i = .int .i64 ((k : Int) - 1) ∧ wr = w.drewN d ∧ Hid (xs.drop k = ys.drop k)) (fun i _ => (intOf i + 1).toNat)
    case atStart => exact ⟨n, 0, Nat.le_refl _, rfl, rfl, by show _ = _; rw [List.drop_of_length_le (by omega), List.drop_of_length_le (by omega)]⟩
    case round =>
      obtain ⟨k, d, hk, rfl, rfl, H⟩ := hrel
      by_cases h0 : k = 0
      · subst h0
        have HE : Hid (cmpV (val xs) (val ys) = 0) := by
          have : xs = ys := H.out
          show _ = _
          rw [this]; exact cmpV_eq _
        clear H hx hy
        go_wp2_with fail
        go_ret
        exact ⟨ret_int HE.out.symm, d, rfl⟩
      · obtain ⟨j, rfl⟩ : ∃ j, k = j + 1 := ⟨k - 1, by omega⟩
        rw [show (((j + 1 : Nat) : Int) - 1) = (j : Int) by omega]
        obtain ⟨ad, hA, hb1, hc1⟩ := hx.int (k := j) (by omega)
        obtain ⟨ad', hA', hb2, hc2⟩ := hy.int (k := j) (by omega)
        have hj0 : (0 : Int) ≤ (j : Int) := Int.natCast_nonneg _
        have hj1 : (j : Int) < (n : Int) := by omega
        by_cases hlt : xs[j] < ys[j]
        · have HE := hide (cmpV_lt (cmp_at hcx.1 hcy.1 (by omega) (by omega) H.out hlt))
          clear H hx hy h0
          subst hA hA'
          go_wp2_with fail
          go_quiet (fail)
          go_wp2_with fail
          go_ret
          exact ⟨ret_int HE.out.symm, d + nq, World.drewN_drewN _ _ _⟩
        · by_cases hgt : ys[j] < xs[j]
          · have HE := hide (cmpV_gt (cmp_at hcy.1 hcx.1 (by omega) (by omega) H.out.symm hgt))
            have hd1 : decide (xs[j] < ys[j]) = false := decide_eq_false hlt
            clear H hx hy h0
            subst hA hA'
            go_wp2_with fail
            go_quiet (fail)
            go_wp2_with fail
            go_quiet (fail)
            go_wp2_with fail
            go_ret
            exact ⟨ret_int HE.out.symm, _, (by rw [World.drewN_drewN, World.drewN_drewN])⟩
          · have HN : Hid (xs.drop j = ys.drop j) := by
              show _ = _
              rw [List.drop_eq_getElem_cons (show j < xs.length by omega), List.drop_eq_getElem_cons (show j < ys.length by omega), H.out]
              congr 1; omega
            have hd1 : decide (xs[j] < ys[j]) = false := decide_eq_false hlt
            have hd2 : decide (ys[j] < xs[j]) = false := decide_eq_false hgt
            clear H hx hy h0
            subst hA hA'
            go_wp2_with fail
            go_quiet (fail)
            go_wp2_with fail
            go_quiet (fail)
            go_wp2_with fail
            go_roundw
            case rel => exact ⟨j, _, by omega, rfl, rfl, HN⟩
            case measure => simp [intOf]
  · have hq : ((n : Int) != (m : Int)) = true := by simp; omega
    by_cases hlt : n < m
    · have HE := hide (cmpV_lt (val_lt_len hcx.1 hcy (by omega)))
      clear hx hy hnm
      go_enter Try.func74, Try.ntmps74
      go_wp2_with fail
      go_ret
      exact ⟨ret_int HE.out.symm, 0, rfl⟩
    · have HE := hide (cmpV_gt (val_lt_len hcy.1 hcx (by omega)))
      have hgt : m < n := by omega
      clear hx hy hnm hlt
      go_enter Try.func74, Try.ntmps74
      go_wp2_with fail
      go_ret
      exact ⟨ret_int HE.out.symm, 0, rfl⟩
end Go.Proofs.Ytcainjgcfbgddaa
