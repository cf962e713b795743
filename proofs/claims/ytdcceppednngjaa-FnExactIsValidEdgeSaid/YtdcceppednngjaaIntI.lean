/-
  The laws' helpers for lists of integers: eqIntS, toIntS: contracts.
-/
import Derived.Test.YtdcceppednngjaaMem
namespace Go.Proofs.Ytdcceppednngjaa
open Go.RowKit
set_option linter.unusedVariables false

theorem Try.infoInt : (Try.prog.info? 3).map (fun i => (i.zero, i.size, i.bytes)) = some (some (.int .i64 0), 1, 8) := by kernel_rfl
theorem Try.sliceInt : SliceOf Try.prog 43 3 1 8 := by
  obtain ⟨i0, hi0, hz0, hz1, hz2⟩ := info_parts Try.infoInt
  exact ⟨Try.underlying43, i0, _, hi0, hz0, hz1, hz2, rfl, by omega⟩

def eqI (xs ys : List Int) : Bool := decide (xs = ys)
set_option maxHeartbeats 400000 in
theorem eqIntS_any (A A' : Option Addr) (n m c c' : Nat) (xs ys : List Int) (B : Nat) (w : World) (hn : xs.length = n) (hm : ys.length = m) (hx : Rd w B A (iv xs)) (hy : Rd w B A' (iv ys)) (hl : n ≤ maxLen) (hl' : m ≤ maxLen) :
    Calls Try.prog 59 #[.slice A n c, .slice A' m c'] w fun e w' => e = .returned (.bool (eqI xs ys)) ∧ ∃ d, w' = w.drewN d := by
  unfold maxLen at hl hl'
  by_cases hnm : n = m
  · subst hnm
    go_enter Try.func59, Try.ntmps59
    go_wp2
    go_loopw [5] (fun i wr => ∃ k d : Nat, k ≤ n ∧ i = .int .i64 k ∧ wr = w.drewN d ∧ Hid (∀ j (h : j < xs.length) (h' : j < ys.length), j < k → xs[j] = ys[j])) (fun i _ => n - (intOf i).toNat)
    case atStart => exact ⟨0, 0, Nat.zero_le _, rfl, rfl, fun j _ _ h => absurd h (Nat.not_lt_zero _)⟩
    case round =>
      obtain ⟨k, d, hk, rfl, rfl, H⟩ := hrel
      by_cases hlt : k < n
      · obtain ⟨ad, rfl, hb1, hc1⟩ := hx.int (k := k) (by omega)
        obtain ⟨ad', rfl, hb2, hc2⟩ := hy.int (k := k) (by omega)
        have hk0 : (0 : Int) ≤ (k : Int) := Int.natCast_nonneg _
        have hk1 : (k : Int) < (n : Int) := by omega
        by_cases he : xs[k] = ys[k]
        · have HN : Hid (∀ j (h : j < xs.length) (h' : j < ys.length), j < k + 1 → xs[j] = ys[j]) := fun j h h' hj => by
            by_cases e : j = k
            · subst e; exact he
            · exact H.out j h h' (by omega)
          have hq : (xs[k] != ys[k]) = false := by simp [he]
          clear he H
          go_wp2_with fail
          go_quiet (fail)
          go_wp2
          go_roundw
          case rel => exact ⟨k + 1, d + nq, by omega, by go_num, rfl, HN⟩
          case measure => simp [intOf]; omega
        · have HB : Hid (eqI xs ys = false) := decide_eq_false fun e => by subst e; exact he rfl
          have hq : (xs[k] != ys[k]) = true := by simp [he]
          clear he H
          go_wp2_with fail
          go_quiet (fail)
          go_wp2
          go_ret
          exact ⟨ret_bool HB.out.symm, d + nq, World.drewN_drewN _ _ _⟩
      · have HB : Hid (eqI xs ys = true) := decide_eq_true (List.ext_getElem (by omega) fun j h h' => H.out j h h' (by omega))
        clear H
        go_wp2
        go_ret
        exact ⟨ret_bool HB.out.symm, d, rfl⟩
  · have HB : Hid (eqI xs ys = false) := decide_eq_false fun e => by subst e; omega
    have hq : ((n : Int) != (m : Int)) = true := by simp; omega
    clear hnm
    go_enter Try.func59, Try.ntmps59
    go_wp2
    go_ret
    exact ⟨ret_bool HB.out.symm, 0, rfl⟩
theorem eqIntS_below (A A' : Option Addr) (n m c c' : Nat) (xs ys : List Int) (B : Nat) (w : World) (hn : xs.length = n) (hm : ys.length = m) (hx : Rd w B A (iv xs)) (hy : Rd w B A' (iv ys)) (hl : n ≤ maxLen) (hl' : m ≤ maxLen) (b : Bool) (hb : Hid (eqI xs ys = b)) :
    Calls Try.prog 59 #[.slice A n c, .slice A' m c'] w fun e w' => e = .returned (.bool b) ∧ Below w.heap.size w w' :=
  (eqIntS_any A A' n m c c' xs ys B w hn hm hx hy hl hl').mono fun e w' ⟨he, d, hw⟩ => by
    subst hw; exact ⟨by rw [he, hb.out], below_drewN (Below.refl _ _) d⟩

/-! ### toIntS: a copy in new memory -/
def intF (xs : List Int) (i : Nat) : Value := .int .i64 (xs.getD i 0)
theorem int_fill {xs : List Int} {ys : List Value} (h : ys.length = xs.length) : fillTo (intF xs) ys xs.length = iv xs := by
  rw [fillTo_all h]
  apply List.ext_getElem (by simp [iv])
  intro i h1 h2
  simp [iv] at h1 h2 ⊢
  simp [intF, List.getD, List.getElem?_eq_getElem h2]

set_option maxHeartbeats 400000 in
theorem toIntS_any (A : Option Addr) (n c B : Nat) (xs : List Int) (w : World) (hn : xs.length = n) (hx : Rd w B A (iv xs)) (hB : B ≤ w.heap.size) (hl : n ≤ 1000000000) :
    Calls Try.prog 49 #[.slice A n c] w fun e w' => ∃ g, e = .returned (.slice (some ⟨g, 0, none⟩) n n) ∧ w'.ownsRow w.heap.size 3 1 (.slice (some ⟨g, 0, none⟩) n n) n (iv xs) ∧ Below w.heap.size w w' := by
  obtain ⟨i0, hi0, hz0, hz1, hz2⟩ := info_parts Try.infoInt
  obtain ⟨w1, hmk, hown0, hg0⟩ := run_make_full (P := Try.prog) w w.heap.size 43 3 i0 _ 1 Try.underlying43 hi0 hz0 hz1 .i64 .i64 n (by rw [hz2]; omega) (by unfold maxLen; omega) (Nat.le_refl _)
  have hb0 : Below w.heap.size w w1 := (Below.refl _ _).grown hg0 (Nat.le_refl _) (fun k h => by cases h)
  clear hi0 hz0 hz1 hz2 hg0
  generalize (madeCells (Value.int .i64 0).cells (n * 1)).toList = ys at hown0
  have hyl : ys.length = n := by have := hown0.1; omega
  go_enter Try.func49, Try.ntmps49
  go_wp2
  go_loopw [4] (fun i wr => ∃ k : Nat, k ≤ n ∧ i = .int .i64 k ∧ wr.ownsRow w.heap.size 3 1 (.slice (some ⟨w.heap.size, 0, none⟩) n n) n (fillTo (intF xs) ys k) ∧ Below w.heap.size w wr) (fun i _ => n - (intOf i).toNat)
  case atStart => exact ⟨0, Nat.zero_le _, rfl, by rw [fillTo_zero]; exact hown0, hb0⟩
  case round =>
    clear hown0 hb0 hmk
    obtain ⟨k, hk, rfl, hown, hbel⟩ := hrel
    by_cases hlt : k < n
    · obtain ⟨ad, hA, hb1, hc1⟩ := (hx.below (hbel.mono hB)).int (k := k) (by omega)
      have hf1 := hown.frozenAt k
      obtain ⟨u1, hu1⟩ := own_cell hown hlt
      obtain ⟨h1, h2⟩ := hown.stored k (intF xs k)
      rw [fillTo_step (by omega)] at h1
      have hxk : intF xs k = .int .i64 xs[k] := by simp [intF, List.getD, List.getElem?_eq_getElem (show k < xs.length by omega)]
      rw [hxk] at h1
      have H1 := hide (And.intro h1 (hbel.setCell (p := ⟨w.heap.size, k, none⟩) (Nat.le_refl _) (.int .i64 xs[k])))
      clear h1 h2 hxk hx
      subst hA
      go_wp2
      go_roundw
      case rel => exact ⟨k + 1, by omega, by go_num, H1.out.1, H1.out.2⟩
      case measure => simp [intOf]; omega
    · obtain rfl : k = n := by omega
      have hfill : fillTo (intF xs) ys k = iv xs := by rw [← hn]; exact int_fill (by omega)
      rw [hfill] at hown
      clear hfill hx hn
      go_wp2
      go_ret
      exact ⟨_, rfl, hown, hbel⟩
end Go.Proofs.Ytdcceppednngjaa
