/-
  The laws' helpers for lists of integers: eqIntS, toIntS: contracts.
-/
import Derived.Test.YtdcceppednngjaaGreatMem
namespace Go.Proofs.YtdcceppednngjaaGreat
open Go.RowKit
set_option linter.unusedVariables false

theorem Tryz.infoInt : (Tryz.prog.info? 3).map (fun i => (i.zero, i.size, i.bytes)) = some (some (.int .i64 0), 1, 8) := by kernel_rfl
theorem Tryz.sliceInt : SliceOf Tryz.prog 26 3 1 8 := by
  obtain ⟨i0, hi0, hz0, hz1, hz2⟩ := info_parts Tryz.infoInt
  exact ⟨Tryz.underlying26, i0, _, hi0, hz0, hz1, hz2, rfl, by omega⟩

def eqI (xs ys : List Int) : Bool := decide (xs = ys)
set_option maxHeartbeats 400000 in
theorem eqIntS_any (A A' : Option Addr) (n m c c' : Nat) (xs ys : List Int) (B : Nat) (w : World) (hn : xs.length = n) (hm : ys.length = m) (hx : Rd w B A (iv xs)) (hy : Rd w B A' (iv ys)) (hl : n ≤ maxLen) (hl' : m ≤ maxLen) :
    Calls Tryz.prog 26 #[.slice A n c, .slice A' m c'] w fun e w' => e = .returned (.bool (eqI xs ys)) ∧ ∃ d, w' = w.drewN d := by
  unfold maxLen at hl hl'
  by_cases hnm : n = m
  · subst hnm
    go_enter Tryz.func26, Tryz.ntmps26
    go_wp2
    go_loopw [5] (fun i wr => ∃ k d : Nat, k ≤ n ∧ i = .int .i64 k ∧ wr = w.drewN d ∧ Hid (∀ j (h : j < xs.length) (h' : j < ys.length), j < k → xs[j] = ys[j])) (fun i _ => n - (intOf i).toNat)
    case atStart => exact ⟨0, 0, Nat.zero_le _, rfl, rfl, fun j _ _ h => absurd h (Nat.not_lt_zero _)⟩
    case round =>
      obtain ⟨k, d, hk, rfl, rfl, H⟩ := hrel
      by_cases hlt : k < n
      · obtain ⟨ad, rfl, hb1, hc1⟩ := hx.int (k := k) (by omega)
        obtain ⟨ad', rfl, hb2, hc2⟩ := hy.int (k := k) (by omega)
        have hk0 : (0 : Int) ≤ (k : Int) := Int.natCast_nonneg _
        have hk1 : (k : Int) < (n : Int) := by omega
        by_cases he : xs[k] = ys[k]
        · have HN : Hid (∀ j (h : j < xs.length) (h' : j < ys.length), j < k + 1 → xs[j] = ys[j]) := fun j h h' hj => by
            by_cases e : j = k
            · subst e; exact he
            · exact H.out j h h' (by omega)
          have hq : (xs[k] != ys[k]) = false := by simp [he]
          clear he H
          go_wp2_with fail
          go_quiet (fail)
          go_wp2
          go_roundw
          case rel => exact ⟨k + 1, d + nq, by omega, by go_num, rfl, HN⟩
          case measure => simp [intOf]; omega
        · have HB : Hid (eqI xs ys = false) := decide_eq_false fun e => by subst e; exact he rfl
          have hq : (xs[k] != ys[k]) = true := by simp [he]
          clear he H
          go_wp2_with fail
          go_quiet (fail)
          go_wp2
          go_ret
          exact ⟨ret_bool HB.out.symm, d + nq, World.drewN_drewN _ _ _⟩
      · have HB : Hid (eqI xs ys = true) := decide_eq_true (List.ext_getElem (by omega) fun j h h' => H.out j h h' (by omega))
        clear H
        go_wp2
        go_ret
        exact ⟨ret_bool HB.out.symm, d, rfl⟩
  · have HB : Hid (eqI xs ys = false) := decide_eq_false fun e => by subst e; omega
    have hq : ((n : Int) != (m : Int)) = true := by simp; omega
    clear hnm
    go_enter Tryz.func26, Tryz.ntmps26
    go_wp2
    go_ret
    exact ⟨ret_bool HB.out.symm, 0, rfl⟩
theorem eqIntS_below (A A' : Option Addr) (n m c c' : Nat) (xs ys : List Int) (B : Nat) (w : World) (hn : xs.length = n) (hm : ys.length = m) (hx : Rd w B A (iv xs)) (hy : Rd w B A' (iv ys)) (hl : n ≤ maxLen) (hl' : m ≤ maxLen) (b : Bool) (hb : Hid (eqI xs ys = b)) :
    Calls Tryz.prog 26 #[.slice A n c, .slice A' m c'] w fun e w' => e = .returned (.bool b) ∧ Below w.heap.size w w' :=
  (eqIntS_any A A' n m c c' xs ys B w hn hm hx hy hl hl').mono fun e w' ⟨he, d, hw⟩ => by
    subst hw; exact ⟨by rw [he, hb.out], below_drewN (Below.refl _ _) d⟩

/-! ### toIntS: a copy in new memory -/
end Go.Proofs.YtdcceppednngjaaGreat
