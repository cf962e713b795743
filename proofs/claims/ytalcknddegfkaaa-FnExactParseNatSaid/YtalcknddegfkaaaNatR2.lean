/-
  The reference's natural numbers: contracts (2): l02Cmp, NatCmp, l02Add, NatAdd.
-/
import Derived.Test.YtalcknddegfkaaaNatR
namespace Go.Proofs.Ytalcknddegfkaaa
open Go.RowKit
set_option linter.unusedVariables false

theorem split_at {l : List Int} {j : Nat} (h : j < l.length) : l = l.take j ++ l[j] :: l.drop (j + 1) := by
  rw [← List.drop_eq_getElem_cons h, List.take_append_drop]
theorem cmp_at {xs ys : List Int} {j : Nat} (hx : Limbs xs) (hy : Limbs ys) (h : j < xs.length) (h' : j < ys.length) (hd : xs.drop (j + 1) = ys.drop (j + 1)) (hlt : xs[j] < ys[j]) : val xs < val ys := by
  have e1 := split_at h
  have e2 := split_at h'
  rw [e1, e2, hd]
  exact val_lt_top (hx.take j) (hy.take j) (by rw [List.length_take, List.length_take]; omega) hlt
set_option maxHeartbeats 1600000 in
theorem spec_Cmp (w : World) (B : Nat) (A A' : Option Addr) (n m c c' : Nat) (xs ys : List Int) (hn : xs.length = n) (hm : ys.length = m) (hx : Rd w B A (iv xs)) (hy : Rd w B A' (iv ys)) (hl : n ≤ 100000000) (hl' : m ≤ 100000000) (hcx : Canon xs) (hcy : Canon ys) :
    Calls Try.prog 39 #[.slice A n c, .slice A' m c'] w fun e w' => e = .returned (.int .i64 (cmpV (val xs) (val ys))) ∧ ∃ d, w' = w.drewN d := by
  by_cases hnm : n = m
  · subst hnm
    go_enter Try.func39, Try.ntmps39
    go_wp2_with fail
    go_loopw [5] (fun i wr => ∃ k d : Nat, k ≤ n ∧ i = .int .i64 ((k : Int) - 1) ∧ wr = w.drewN d ∧ Hid (xs.drop k = ys.drop k)) (fun i _ => (intOf i + 1).toNat)
    case atStart => exact ⟨n, 0, Nat.le_refl _, rfl, rfl, by show _ = _; rw [List.drop_of_length_le (by omega), List.drop_of_length_le (by omega)]⟩
    case round =>
      obtain ⟨k, d, hk, rfl, rfl, H⟩ := hrel
      by_cases h0 : k = 0
      · subst h0
        have HE : Hid (cmpV (val xs) (val ys) = 0) := by
          have : xs = ys := H.out
          show _ = _
          rw [this]; exact cmpV_eq _
        clear H hx hy
        go_wp2_with fail
        go_ret
        exact ⟨ret_int HE.out.symm, d, rfl⟩
      · obtain ⟨j, rfl⟩ : ∃ j, k = j + 1 := ⟨k - 1, by omega⟩
        rw [show (((j + 1 : Nat) : Int) - 1) = (j : Int) by omega]
        obtain ⟨ad, hA, hb1, hc1⟩ := hx.int (k := j) (by omega)
        obtain ⟨ad', hA', hb2, hc2⟩ := hy.int (k := j) (by omega)
        have hj0 : (0 : Int) ≤ (j : Int) := Int.natCast_nonneg _
        have hj1 : (j : Int) < (n : Int) := by omega
        by_cases hlt : xs[j] < ys[j]
        · have HE := hide (cmpV_lt (cmp_at hcx.1 hcy.1 (by omega) (by omega) H.out hlt))
          clear H hx hy h0
          subst hA hA'
          go_wp2_with fail
          go_quiet (fail)
          go_wp2_with fail
          go_ret
          exact ⟨ret_int HE.out.symm, d + nq, World.drewN_drewN _ _ _⟩
        · by_cases hgt : ys[j] < xs[j]
          · have HE := hide (cmpV_gt (cmp_at hcy.1 hcx.1 (by omega) (by omega) H.out.symm hgt))
            have hd1 : decide (xs[j] < ys[j]) = false := decide_eq_false hlt
            clear H hx hy h0
            subst hA hA'
            go_wp2_with fail
            go_quiet (fail)
            go_wp2_with fail
            go_quiet (fail)
            go_wp2_with fail
            go_ret
            exact ⟨ret_int HE.out.symm, _, (by rw [World.drewN_drewN, World.drewN_drewN])⟩
          · have HN : Hid (xs.drop j = ys.drop j) := by
              show _ = _
              rw [List.drop_eq_getElem_cons (show j < xs.length by omega), List.drop_eq_getElem_cons (show j < ys.length by omega), H.out]
              congr 1; omega
            have hd1 : decide (xs[j] < ys[j]) = false := decide_eq_false hlt
            have hd2 : decide (ys[j] < xs[j]) = false := decide_eq_false hgt
            clear H hx hy h0
            subst hA hA'
            go_wp2_with fail
            go_quiet (fail)
            go_wp2_with fail
            go_quiet (fail)
            go_wp2_with fail
            go_roundw
            case rel => exact ⟨j, _, by omega, rfl, rfl, HN⟩
            case measure => simp [intOf]
  · have hq : ((n : Int) != (m : Int)) = true := by simp; omega
    by_cases hlt : n < m
    · have HE := hide (cmpV_lt (val_lt_len hcx.1 hcy (by omega)))
      clear hx hy hnm
      go_enter Try.func39, Try.ntmps39
      go_wp2_with fail
      go_ret
      exact ⟨ret_int HE.out.symm, 0, rfl⟩
    · have HE := hide (cmpV_gt (val_lt_len hcy.1 hcx (by omega)))
      have hgt : m < n := by omega
      clear hx hy hnm hlt
      go_enter Try.func39, Try.ntmps39
      go_wp2_with fail
      go_ret
      exact ⟨ret_int HE.out.symm, 0, rfl⟩

theorem cmpL_ok {a b : List Int} (ha : natB a = true) (hb : natB b = true) : cmpL a b = cmpV (val a) (val b) := by
  rw [cmpL, ha, hb, cmpV, ← natV_val ha, ← natV_val hb]
  simp
set_option maxHeartbeats 800000 in
theorem spec_NatCmp (w : World) (B : Nat) (hB : B ≤ w.heap.size) (A0 : Option Addr) (n0 c0 : Nat) (xs0 : List Int) (R0 : RdI w B A0 n0 xs0) (A1 : Option Addr) (n1 c1 : Nat) (xs1 : List Int) (R1 : RdI w B A1 n1 xs1) :
    Calls Try.prog 23 #[.slice A0 n0 c0, .slice A1 n1 c1] w fun e w' => e = .returned (.int .i64 (cmpL xs0 xs1)) ∧ Below w.heap.size w w' := by
  by_cases h0 : natB xs0 = true
  · by_cases h1 : natB xs1 = true
    · have HE := hide (cmpL_ok h0 h1)
      obtain ⟨k0, l0⟩ := (natB_iff xs0).1 h0
      obtain ⟨k1, l1⟩ := (natB_iff xs1).1 h1
      have H0 := hide (spec_NatOk w B hB A0 n0 c0 xs0 R0)
      have H1 := hide (spec_NatOk w B hB A1 n1 c1 xs1 R1)
      have HC := hide (spec_Cmp w B A0 A1 n0 n1 c0 c1 xs0 xs1 R0.1 R1.1 R0.2.1 R1.2.1 (by have := R0.2.2.1; omega) (by have := R1.2.2.1; omega) k0 k1)
      clear R0 R1 k0 k1
      go_enter Try.func23, Try.ntmps23
      go_wp2_with fail
      refine H0.out.mono ?_
      rintro e w' ⟨rfl, rfl⟩
      go_wp2_with fail
      refine H1.out.mono ?_
      rintro e w' ⟨rfl, rfl⟩
      go_wp2_with fail
      refine HC.out.mono ?_
      rintro e w' ⟨rfl, d, rfl⟩
      go_wp2_with fail
      go_ret
      exact ⟨ret_int HE.out.symm, below_drewN (Below.refl _ _) d⟩
    · have h1' : natB xs1 = false := by simpa using h1
      have HE : Hid (cmpL xs0 xs1 = 0) := by show _ = _; rw [cmpL, h1']; simp
      have H0 := hide (spec_NatOk w B hB A0 n0 c0 xs0 R0)
      have H1 := hide (spec_NatOk w B hB A1 n1 c1 xs1 R1)
      clear R0 R1 h1
      go_enter Try.func23, Try.ntmps23
      go_wp2_with fail
      refine H0.out.mono ?_
      rintro e w' ⟨rfl, rfl⟩
      go_wp2_with fail
      refine H1.out.mono ?_
      rintro e w' ⟨rfl, rfl⟩
      go_wp2_with fail
      go_ret
      exact ⟨ret_int HE.out.symm, Below.refl _ _⟩
  · have h0' : natB xs0 = false := by simpa using h0
    have HE : Hid (cmpL xs0 xs1 = 0) := by show _ = _; rw [cmpL, h0']; simp
    have H0 := hide (spec_NatOk w B hB A0 n0 c0 xs0 R0)
    clear R0 R1 h0
    go_enter Try.func23, Try.ntmps23
    go_wp2_with fail
    refine H0.out.mono ?_
    rintro e w' ⟨rfl, rfl⟩
    go_wp2_with fail
    go_ret
    exact ⟨ret_int HE.out.symm, Below.refl _ _⟩
end Go.Proofs.Ytalcknddegfkaaa
