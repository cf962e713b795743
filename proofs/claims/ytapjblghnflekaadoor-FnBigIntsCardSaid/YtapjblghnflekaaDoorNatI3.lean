/-
  The program's natural numbers: contracts (3): NatOk, NatOf, cmp.Compare, compareLimbs, NatCmp.
-/
import Derived.Test.YtapjblghnflekaaDoorNatI2
namespace Go.Proofs.YtapjblghnflekaaDoor
open Go.RowKit
set_option linter.unusedVariables false

set_option maxHeartbeats 800000 in
theorem impl_NatOk (w : World) (B : Nat) (hB : B ≤ w.heap.size) (A : Option Addr) (n c : Nat) (xs : List Int) (R : RdI w B A n xs) :
    Calls Tryd.prog 40 #[.slice A n c] w fun e w' => e = .returned (.bool (natB xs)) ∧ w = w' := by
  obtain ⟨hn, hx, hl, hwf⟩ := R
  by_cases h60 : n ≤ 60
  · go_enter Tryd.func40, Tryd.ntmps40
    go_wp2_with fail
    go_loop [10] (fun i => ∃ k : Nat, k ≤ n ∧ i = .int .i64 k ∧ Hid (∀ j (h : j < xs.length), j < k → 0 ≤ xs[j] ∧ xs[j] ≤ 999999999)) (fun i => n - (intOf i).toNat)
    case atStart => exact ⟨0, Nat.zero_le _, rfl, fun j _ h => absurd h (Nat.not_lt_zero _)⟩
    case round =>
      obtain ⟨k, hk, rfl, H⟩ := hrel
      by_cases hlt : k < n
      · obtain ⟨ad, hA, hb1, hc1⟩ := hx.int (k := k) (by omega)
        by_cases hd : 0 ≤ xs[k] ∧ xs[k] ≤ 999999999
        · have HN : Hid (∀ j (h : j < xs.length), j < k + 1 → 0 ≤ xs[j] ∧ xs[j] ≤ 999999999) := fun j h hj => by
            by_cases e : j = k
            · subst e; exact hd
            · exact H.out j h (by omega)
          obtain ⟨hd1, hd2⟩ := hd
          generalize xs[k] = y at *
          clear H hx hwf
          subst hA
          go_wp2_with fail
          go_round
          case rel => exact ⟨k + 1, by omega, by go_num, HN⟩
          case measure => simp [intOf]; omega
        · have HB := hide (natB_bad (k := k) (by omega) hd)
          by_cases hd1 : xs[k] < 0
          · generalize xs[k] = y at *
            clear hd H hx hwf
            subst hA
            go_wp2_with fail
            go_ret
            exact ⟨ret_bool HB.out.symm, rfl⟩
          · have hd2 : 1000000000 ≤ xs[k] := by omega
            generalize xs[k] = y at *
            clear hd H hx hwf
            subst hA
            go_wp2_with fail
            go_ret
            exact ⟨ret_bool HB.out.symm, rfl⟩
      · have hL : Limbs xs := fun d hd => by
          obtain ⟨j, hj, rfl⟩ := List.getElem_of_mem hd
          exact H.out j hj (by omega)
        clear H
        by_cases h0 : n = 0
        · have HB : Hid (natB xs = true) := by
            have : xs = [] := List.eq_nil_of_length_eq_zero (by omega)
            subst this; rfl
          subst h0
          clear hx hwf hL
          go_wp2_with fail
          go_ret
          exact ⟨ret_bool HB.out.symm, rfl⟩
        · have HB := hide (natB_last (l := xs) (by omega) (by omega) hL)
          obtain ⟨ad, hA, hb1, hc1⟩ := hx.int (k := n - 1) (by omega)
          have hz : ((n : Int) == 0) = false := by simp; omega
          have e1 : xs[xs.length - 1]'(by omega) = xs[n - 1]'(by omega) := by congr 1; omega
          have HB' := hide (HB.out.trans (by rw [e1]))
          generalize xs[n - 1]'(by omega) = y at *
          have h0' : 0 < n := by omega
          clear HB e1 hx hwf hL h0
          subst hA
          go_wp2_with fail
          go_ret
          exact ⟨ret_bool HB'.out.symm, rfl⟩
  · have HB := hide (natB_long (l := xs) (by omega))
    have h60' : 60 < n := by omega
    clear hx hwf h60
    go_enter Tryd.func40, Tryd.ntmps40
    go_wp2_with fail
    go_ret
    exact ⟨ret_bool HB.out.symm, rfl⟩

/-! ### NatOf -/
theorem trim_limbs (n : Nat) : trim (limbs n) = limbs n := trim_eq (limbs_ok n) (val_limbs n)
/-! ### cmp.Compare, compareLimbs, NatCmp -/
theorem impl_isNaN (w : World) (x : Int) : Calls Tryd.prog 66 #[.int .i64 x] w fun e w' => e = .returned (.bool false) ∧ w = w' := by
  have h : (x != x) = false := by simp
  go_enter Tryd.func66, Tryd.ntmps66
  go_wp2_with fail
  go_ret
  exact ⟨rfl, rfl⟩
set_option maxHeartbeats 800000 in
theorem impl_Compare (w : World) (x y : Int) : Calls Tryd.prog 58 #[.int .i64 x, .int .i64 y] w fun e w' => e = .returned (.int .i64 (cmpV x y)) ∧ w = w' := by
  have H1 := hide (impl_isNaN w x)
  have H2 := hide (impl_isNaN w y)
  by_cases h1 : x < y
  · have HE := hide (cmpV_lt h1)
    go_enter Tryd.func58, Tryd.ntmps58
    go_wp2_with fail
    refine H1.out.mono ?_
    rintro e w' ⟨rfl, rfl⟩
    go_wp2_with fail
    refine H2.out.mono ?_
    rintro e w' ⟨rfl, rfl⟩
    go_wp2_with fail
    go_ret
    exact ⟨ret_int HE.out.symm, rfl⟩
  · by_cases h2 : y < x
    · have HE := hide (cmpV_gt h2)
      go_enter Tryd.func58, Tryd.ntmps58
      go_wp2_with fail
      refine H1.out.mono ?_
      rintro e w' ⟨rfl, rfl⟩
      go_wp2_with fail
      refine H2.out.mono ?_
      rintro e w' ⟨rfl, rfl⟩
      go_wp2_with fail
      go_ret
      exact ⟨ret_int HE.out.symm, rfl⟩
    · have e : x = y := by omega
      have HE : Hid (cmpV x y = 0) := by show _ = _; rw [e]; exact cmpV_eq _
      clear e
      go_enter Tryd.func58, Tryd.ntmps58
      go_wp2_with fail
      refine H1.out.mono ?_
      rintro e w' ⟨rfl, rfl⟩
      go_wp2_with fail
      refine H2.out.mono ?_
      rintro e w' ⟨rfl, rfl⟩
      go_wp2_with fail
      go_ret
      exact ⟨ret_int HE.out.symm, rfl⟩
theorem cmpV_len {a b : List Int} (ha : Canon a) (hb : Canon b) (h : a.length ≠ b.length) : cmpV (val a) (val b) = cmpV (a.length : Int) (b.length : Int) := by
  by_cases hlt : a.length < b.length
  · rw [cmpV_lt (val_lt_len ha.1 hb hlt), cmpV_lt (by omega)]
  · rw [cmpV_gt (val_lt_len hb.1 ha (by omega)), cmpV_gt (by omega)]
set_option maxHeartbeats 1600000 in
theorem impl_Cmp (w : World) (B : Nat) (A A' : Option Addr) (n m c c' : Nat) (xs ys : List Int) (hn : xs.length = n) (hm : ys.length = m) (hx : Rd w B A (iv xs)) (hy : Rd w B A' (iv ys)) (hl : n ≤ 100000000) (hl' : m ≤ 100000000) (hcx : Canon xs) (hcy : Canon ys) :
    Calls Tryd.prog 53 #[.slice A n c, .slice A' m c'] w fun e w' => e = .returned (.int .i64 (cmpV (val xs) (val ys))) ∧ ∃ d, w' = w.drewN d := by
  by_cases hnm : n = m
  · subst hnm
    go_enter Tryd.func53, Tryd.ntmps53
    go_wp2_with fail
    go_loopw [5] (fun i wr => ∃ k d : Nat, k ≤ n ∧ i = .int .i64 ((k : Int) - 1) ∧ wr = w.drewN d ∧ Hid (xs.drop k = ys.drop k)) (fun i _ => (intOf i + 1).toNat)
    case atStart => exact ⟨n, 0, Nat.le_refl _, rfl, rfl, by show _ = _; rw [List.drop_of_length_le (by omega), List.drop_of_length_le (by omega)]⟩
    case round =>
      obtain ⟨k, d, hk, rfl, rfl, H⟩ := hrel
      by_cases h0 : k = 0
      · subst h0
        have HE : Hid (cmpV (val xs) (val ys) = 0) := by
          have : xs = ys := H.out
          show _ = _
          rw [this]; exact cmpV_eq _
        clear H hx hy
        go_wp2_with fail
        go_ret
        exact ⟨ret_int HE.out.symm, d, rfl⟩
      · obtain ⟨j, rfl⟩ : ∃ j, k = j + 1 := ⟨k - 1, by omega⟩
        rw [show (((j + 1 : Nat) : Int) - 1) = (j : Int) by omega]
        obtain ⟨ad, hA, hb1, hc1⟩ := hx.int (k := j) (by omega)
        obtain ⟨ad', hA', hb2, hc2⟩ := hy.int (k := j) (by omega)
        have hj0 : (0 : Int) ≤ (j : Int) := Int.natCast_nonneg _
        have hj1 : (j : Int) < (n : Int) := by omega
        by_cases heq : xs[j] = ys[j]
        · have HN : Hid (xs.drop j = ys.drop j) := by
            show _ = _
            rw [List.drop_eq_getElem_cons (show j < xs.length by omega), List.drop_eq_getElem_cons (show j < ys.length by omega), H.out, heq]
          have hq : (xs[j] != ys[j]) = false := by simp [heq]
          clear H hx hy h0 heq
          subst hA hA'
          go_wp2_with fail
          go_quiet (fail)
          go_wp2_with fail
          go_roundw
          case rel => exact ⟨j, _, by omega, rfl, rfl, HN⟩
          case measure => simp [intOf]
        · have HE : Hid (cmpV (val xs) (val ys) = cmpV xs[j] ys[j]) := by
            show _ = _
            by_cases hlt : xs[j] < ys[j]
            · rw [cmpV_lt hlt, cmpV_lt (cmp_at hcx.1 hcy.1 (by omega) (by omega) H.out hlt)]
            · rw [cmpV_gt (show ys[j] < xs[j] by omega), cmpV_gt (cmp_at hcy.1 hcx.1 (by omega) (by omega) H.out.symm (by omega))]
          have hq : (xs[j] != ys[j]) = true := by simp [heq]
          clear H hx hy h0 heq
          subst hA hA'
          go_wp2_with fail
          go_quiet (fail)
          go_wp2_with fail
          go_quiet ((go_at_call 58; exact (impl_Compare _ _ _).mono (by rintro e w' ⟨rfl, rfl⟩; exact ⟨rfl, _, by first | rfl | (simp only [World.drewN_drewN]; congr 1; omega)⟩)))
          go_wp2_with fail
          go_ret
          exact ⟨ret_int HE.out.symm, _, (by rw [World.drewN_drewN, World.drewN_drewN])⟩
  · have hq : ((n : Int) != (m : Int)) = true := by simp; omega
    have HE : Hid (cmpV (val xs) (val ys) = cmpV (n : Int) (m : Int)) := by
      show _ = _
      rw [cmpV_len hcx hcy (by omega), hn, hm]
    clear hx hy hnm
    go_enter Tryd.func53, Tryd.ntmps53
    go_wp2_with fail
    refine (impl_Compare w (n : Int) (m : Int)).mono ?_
    rintro e w' ⟨rfl, rfl⟩
    go_wp2_with fail
    go_ret
    exact ⟨ret_int HE.out.symm, 0, rfl⟩

end Go.Proofs.YtapjblghnflekaaDoor
