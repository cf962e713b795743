/-
  The program's natural numbers: contracts (3): NatOk, NatOf, cmp.Compare, compareLimbs, NatCmp.
-/
import Derived.Test.YtcainjgcfbgddaaDoorNatI2
namespace Go.Proofs.YtcainjgcfbgddaaDoor
open Go.RowKit
set_option linter.unusedVariables false

set_option maxHeartbeats 800000 in
theorem impl_NatOk (w : World) (B : Nat) (hB : B ≤ w.heap.size) (A : Option Addr) (n c : Nat) (xs : List Int) (R : RdI w B A n xs) :
    Calls Tryd.prog 24 #[.slice A n c] w fun e w' => e = .returned (.bool (natB xs)) ∧ w = w' := by
  obtain ⟨hn, hx, hl, hwf⟩ := R
  by_cases h60 : n ≤ 60
  · go_enter Tryd.func24, Tryd.ntmps24
    go_wp2_with fail
    go_loop [10] (fun i => ∃ k : Nat, k ≤ n ∧ i = .int .i64 k ∧ Hid (∀ j (h : j < xs.length), j < k → 0 ≤ xs[j] ∧ xs[j] ≤ 999999999)) (fun i => n - (intOf i).toNat)
    case atStart => exact ⟨0, Nat.zero_le _, rfl, fun j _ h => absurd h (Nat.not_lt_zero _)⟩
    case round =>
      obtain ⟨k, hk, rfl, H⟩ := hrel
      by_cases hlt : k < n
      · obtain ⟨ad, hA, hb1, hc1⟩ := hx.int (k := k) (by omega)
        by_cases hd : 0 ≤ xs[k] ∧ xs[k] ≤ 999999999
        · have HN : Hid (∀ j (h : j < xs.length), j < k + 1 → 0 ≤ xs[j] ∧ xs[j] ≤ 999999999) := fun j h hj => by
            by_cases e : j = k
            · subst e; exact hd
            · exact H.out j h (by omega)
          obtain ⟨hd1, hd2⟩ := hd
          generalize xs[k] = y at *
          clear H hx hwf
          subst hA
          go_wp2_with fail
          go_round
          case rel => exact ⟨k + 1, by omega, by go_num, HN⟩
          case measure => simp [intOf]; omega
        · have HB := hide (natB_bad (k := k) (by omega) hd)
          by_cases hd1 : xs[k] < 0
          · generalize xs[k] = y at *
            clear hd H hx hwf
            subst hA
            go_wp2_with fail
            go_ret
            exact ⟨ret_bool HB.out.symm, rfl⟩
          · have hd2 : 1000000000 ≤ xs[k] := by omega
            generalize xs[k] = y at *
            clear hd H hx hwf
            subst hA
            go_wp2_with fail
            go_ret
            exact ⟨ret_bool HB.out.symm, rfl⟩
      · have hL : Limbs xs := fun d hd => by
          obtain ⟨j, hj, rfl⟩ := List.getElem_of_mem hd
          exact H.out j hj (by omega)
        clear H
        by_cases h0 : n = 0
        · have HB : Hid (natB xs = true) := by
            have : xs = [] := List.eq_nil_of_length_eq_zero (by omega)
            subst this; rfl
          subst h0
          clear hx hwf hL
          go_wp2_with fail
          go_ret
          exact ⟨ret_bool HB.out.symm, rfl⟩
        · have HB := hide (natB_last (l := xs) (by omega) (by omega) hL)
          obtain ⟨ad, hA, hb1, hc1⟩ := hx.int (k := n - 1) (by omega)
          have hz : ((n : Int) == 0) = false := by simp; omega
          have e1 : xs[xs.length - 1]'(by omega) = xs[n - 1]'(by omega) := by congr 1; omega
          have HB' := hide (HB.out.trans (by rw [e1]))
          generalize xs[n - 1]'(by omega) = y at *
          have h0' : 0 < n := by omega
          clear HB e1 hx hwf hL h0
          subst hA
          go_wp2_with fail
          go_ret
          exact ⟨ret_bool HB'.out.symm, rfl⟩
  · have HB := hide (natB_long (l := xs) (by omega))
    have h60' : 60 < n := by omega
    clear hx hwf h60
    go_enter Tryd.func24, Tryd.ntmps24
    go_wp2_with fail
    go_ret
    exact ⟨ret_bool HB.out.symm, rfl⟩

/-! ### NatOf -/
theorem trim_limbs (n : Nat) : trim (limbs n) = limbs n := trim_eq (limbs_ok n) (val_limbs n)
/-! ### cmp.Compare, compareLimbs, NatCmp -/
theorem cmpV_len {a b : List Int} (ha : Canon a) (hb : Canon b) (h : a.length ≠ b.length) : cmpV (val a) (val b) = cmpV (a.length : Int) (b.length : Int) := by
  by_cases hlt : a.length < b.length
  · rw [cmpV_lt (val_lt_len ha.1 hb hlt), cmpV_lt (by omega)]
  · rw [cmpV_gt (val_lt_len hb.1 ha (by omega)), cmpV_gt (by omega)]
end Go.Proofs.YtcainjgcfbgddaaDoor
