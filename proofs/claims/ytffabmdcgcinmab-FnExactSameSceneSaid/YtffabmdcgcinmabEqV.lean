/-
  slices.Equal, slices.Clone at lists of vectors: contracts.
-/
import Derived.Test.YtffabmdcgcinmabVecM
import Derived.Laws.StructEq
import Derived.BigQuiet
import Derived.Deep.RegionHeld3
namespace Go.Proofs.Ytffabmdcgcinmab
open Go.RowKit
set_option linter.unusedVariables false
theorem below_dN {B : Nat} {a w : World} (h : Below B a w) (n : Nat) : Below B a (w.drewN n) := ⟨h.os, h.tape, h.output, h.size, h.block⟩
theorem take_eq_step {xs ys : List V2} {k : Nat} (hk : k < xs.length) (hk' : k < ys.length) (h : xs.take k = ys.take k) (e : xs[k] = ys[k]) : xs.take (k + 1) = ys.take (k + 1) := by
  rw [List.take_succ_eq_append_getElem hk, List.take_succ_eq_append_getElem hk', h, e]
set_option maxRecDepth 100000 in
set_option maxHeartbeats 1600000 in
theorem slices_Equal (w : World) (B : Nat) (hB : B ≤ w.heap.size) (A D : Option Addr) (n c m d : Nat) (xs ys : List V2) (hn : xs.length = n) (hm : ys.length = m) (hx : Rd w B A (fl xs)) (hy : Rd w B D (fl ys)) (hl : n ≤ 1048576) (hl2 : m ≤ 1048576) :
    Calls Try.prog 41 #[.slice A n c, .slice D m d] w fun e w' => e = .returned (.bool (decide (xs = ys))) ∧ ∃ q, w' = w.drewN q := by
  by_cases hnm : n = m
  case neg =>
    have hd : decide (xs = ys) = false := by simp; intro e; rw [e] at hn; omega
    have hne : ((n : Int) != (m : Int)) = true := by simp; omega
    rw [hd]
    clear hx hy hd
    go_enter Try.func41, Try.ntmps41
    go_wp2_with fail
    go_ret
    exact ⟨rfl, 0, rfl⟩
  subst hnm
  have hq : ((n : Int) != (n : Int)) = false := by simp
  go_enter Try.func41, Try.ntmps41
  go_wp2_with fail
  clear hq
  go_loopw [13] (fun i wr => ∃ k : Nat, k ≤ n ∧ i = .int .i64 k ∧ Hid (xs.take k = ys.take k) ∧ ∃ q, wr = w.drewN q) (fun i _ => n - (intOf i).toNat)
  case atStart => exact ⟨0, Nat.zero_le _, rfl, by show _ = _; simp, 0, rfl⟩
  case round =>
    obtain ⟨k, hk, rfl, H, hq⟩ := hrel
    have hbel : Below w.heap.size w wr := by obtain ⟨q, rfl⟩ := hq; exact below_dN (Below.refl _ _) q
    have HQ : Hid (∀ n, ∃ q, wr.drewN n = w.drewN q) := fun n => by obtain ⟨q, rfl⟩ := hq; exact ⟨_, by rw [World.drewN_drewN]⟩
    clear hq
    by_cases hlt : k < n
    · obtain ⟨ad, hA, hb1, hc1, hc2⟩ := (hx.below (hbel.mono hB)).vec (k := k) (by omega)
      obtain ⟨ae, hE, hb3, hc3, hc4⟩ := (hy.below (hbel.mono hB)).vec (k := k) (by omega)
      have hkx : k < xs.length := by omega
      have hky : k < ys.length := by omega
      have hj0 : (0 : Int) ≤ (k : Int) := Int.natCast_nonneg _
      have hj1 : (k : Int) < (n : Int) := by omega
      subst hA
      subst hE
      by_cases he : xs[k] = ys[k]
      · have HN : Hid (xs.take (k + 1) = ys.take (k + 1)) := take_eq_step hkx hky H.out he
        rw [← he] at hc3 hc4
        generalize xs[k] = u at *
        obtain ⟨x, y⟩ := u
        simp only at hc1 hc2 hc3 hc4
        clear H he hx hy
        go_wp2_with fail
        go_quiet (fail)
        go_wp2_with fail
        go_roundw
        case rel => exact ⟨k + 1, by omega, by go_num, HN, HQ.out _⟩
        case measure => simp [intOf]; omega
      · have HN : Hid (decide (xs = ys) = false) := by show _ = _; simp; intro e; subst e; exact he rfl
        have hne : xs[k].1 ≠ ys[k].1 ∨ (xs[k].1 = ys[k].1 ∧ xs[k].2 ≠ ys[k].2) := by
          by_cases h : xs[k].1 = ys[k].1
          · exact .inr ⟨h, fun h2 => he (Prod.ext h h2)⟩
          · exact .inl h
        generalize xs[k] = u at *
        generalize ys[k] = v at *
        obtain ⟨x, y⟩ := u
        obtain ⟨x', y'⟩ := v
        simp only at hc1 hc2 hc3 hc4 hne
        clear H he hx hy
        rcases hne with hne | ⟨rfl, hne⟩
        · have hne2 : (x == x') = false := by simpa using hne
          go_wp2_with fail
          go_quiet (fail)
          go_wp2_with fail
          go_ret
          exact ⟨ret_bool HN.out.symm, HQ.out _⟩
        · have hne2 : (y == y') = false := by simpa using hne
          go_wp2_with fail
          go_quiet (fail)
          go_wp2_with fail
          go_ret
          exact ⟨ret_bool HN.out.symm, HQ.out _⟩
    · obtain rfl : k = n := by omega
      have HN : Hid (decide (xs = ys) = true) := by
        show _ = _
        have h := H.out
        rw [List.take_of_length_le (by omega), List.take_of_length_le (by omega)] at h
        simp [h]
      clear hx hy H
      go_wp2_with fail
      go_ret
      exact ⟨ret_bool HN.out.symm, HQ.out 0⟩
end Go.Proofs.Ytffabmdcgcinmab
