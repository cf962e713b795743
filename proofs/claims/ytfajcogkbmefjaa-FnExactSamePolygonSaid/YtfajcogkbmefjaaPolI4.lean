/-
  The program's polygons: contracts: SamePolygon.
-/
import Derived.Test.YtfajcogkbmefjaaPolM
import Derived.Test.YtfajcogkbmefjaaEqV
import Derived.Sort.AtCall
import Derived.BigQuiet
namespace Go.Proofs.Ytfajcogkbmefjaa
open Go.RowKit
set_option linter.unusedVariables false
set_option maxRecDepth 100000 in
set_option maxHeartbeats 1600000 in
theorem impl_SamePolygon (w : World) (B : Nat) (hB : B ≤ w.heap.size) (A : Option Addr) (n c : Nat) (l : List V2) (R : RdV w B A n l) (D : Option Addr) (m d : Nat) (k : List V2) (S : RdV w B D m k) (hc : n ≤ c ∧ c ≤ maxLen) (hd : m ≤ d ∧ d ≤ maxLen) :
    Calls Try.prog 15 #[.slice A n c, .slice D m d] w fun e w' => e = .returned (.bool (cycB l k)) ∧ Below w.heap.size w w' := by
  obtain ⟨hn, hx, hl, hwf⟩ := R
  obtain ⟨hm, hy, hl2, hwf2⟩ := S
  unfold maxLen at hc hd
  by_cases hnm : n = m
  case neg =>
    have HS : Hid (cycB l k = false) := cycB_no fun h => hnm (by have := h.1; omega)
    have hne : ((n : Int) != (m : Int)) = true := by simp; omega
    clear hx hy
    go_enter Try.func15, Try.ntmps15
    go_wp2_with fail
    go_ret
    exact ⟨ret_bool HS.out.symm, Below.refl _ _⟩
  subst hnm
  have hq : ((n : Int) != (n : Int)) = false := by simp
  go_enter Try.func15, Try.ntmps15
  go_wp2_with fail
  clear hq
  go_loopw [14] (fun i wr => ∃ j : Nat, j ≤ n ∧ i = .int .i64 j ∧ Hid (∀ s, s < j → k ≠ rotL l s) ∧ ∃ q, wr = w.drewN q) (fun i _ => n - (intOf i).toNat)
  case atStart => exact ⟨0, Nat.zero_le _, rfl, fun s h => absurd h (Nat.not_lt_zero _), 0, rfl⟩
  case round =>
    obtain ⟨j, hj, rfl, H, hq⟩ := hrel
    have hbel : Below w.heap.size w wr := by obtain ⟨q, rfl⟩ := hq; exact below_dN (Below.refl _ _) q
    have HQ := hide hq
    clear hq
    by_cases hlt : j < n
    · obtain ⟨ad, hA, hb1, hcx, -⟩ := hx.vec (k := 0) (by omega)
      obtain ⟨ae, hE, hb2, hcy, -⟩ := hy.vec (k := 0) (by omega)
      subst hA
      subst hE
      clear hcx hcy
      go_upto_region 7 with fail
      have hr2 : (n : Int) - (j : Int) = ((n - j : Nat) : Int) := by omega
      rw [hr2]
      have hrd1 := (hx.below (hbel.mono hB)).dropV j
      have hrd2 := (hy.below (hbel.mono hB)).takeV (n - j)
      have hrd3 := (hx.below (hbel.mono hB)).takeV j
      have hrd4 : Rd wr B (if d = n - j then some ae else some (ae.add ((n - j) * 2))) (fl (k.drop (n - j))) := by
        split
        · left
          rw [List.drop_of_length_le (by omega)]; rfl
        · exact (hy.below (hbel.mono hB)).dropV (n - j)
      have L1 : (l.drop j).length = (n - j) := by simp; omega
      have L2 : (k.take (n - j)).length = (n - j) := by simp; omega
      have L3 : (l.take j).length = j := by simp; omega
      have L4 : (k.drop (n - j)).length = n - (n - j) := by simp; omega
      have hB2 : ∀ n1, B ≤ (wr.drewN n1).heap.size := fun n1 => Nat.le_trans (Nat.le_trans hB hbel.size) (below_dN (Below.refl wr.heap.size wr) n1).size
      have HE1 := hide (fun (c1 c2 n1 : Nat) => Calls.quiet_of (slices_Equal (wr.drewN n1) B (hB2 n1) _ _ (n - j) c1 (n - j) c2 _ _ L1 L2 (hrd1.below (below_dN (Below.refl _ _) n1)) (hrd2.below (below_dN (Below.refl _ _) n1)) (by omega) (by omega)))
      have HE2 := hide (fun (c1 c2 n1 : Nat) => Calls.quiet_of (slices_Equal (wr.drewN n1) B (hB2 n1) _ _ j c1 (n - (n - j)) c2 _ _ L3 L4 (hrd3.below (below_dN (Below.refl _ _) n1)) (hrd4.below (below_dN (Below.refl _ _) n1)) (by omega) (by omega)))
      have HP := hide (rotL_parts (l := l) (m := k) (s := j) (by omega) (by omega))
      have hkn : k.length - j = (n - j) := by omega
      rw [hkn] at HP
      clear hB2 hrd1 hrd2 hrd3 hrd4 L1 L2 L3 L4 hkn hx hy
      have hj0 : (0 : Int) ≤ (j : Int) := Int.natCast_nonneg _
      have hj1 : (j : Int) ≤ (n : Int) := by omega
      have hr0 : (0 : Int) ≤ ((n - j : Nat) : Int) := Int.natCast_nonneg _
      have hr1 : ((n - j : Nat) : Int) ≤ (n : Int) := by omega
      have hr3 : ((n - j : Nat) : Int) ≤ (d : Int) := by omega
      have hr4 : (j : Int) ≤ (c : Int) := by omega
      have HQ2 : Hid (∀ n, ∃ q, wr.drewN n = w.drewN q) := fun n => by obtain ⟨q, rfl⟩ := HQ.out; exact ⟨_, by rw [World.drewN_drewN]⟩
      by_cases e1 : l.drop j = k.take (n - j)
      · rw [decide_eq_true e1] at HE1
        by_cases e2 : l.take j = k.drop (n - j)
        · rw [decide_eq_true e2] at HE2
          have HS : Hid (cycB l k = true) := cycB_iff.2 ⟨by omega, .inr ⟨j, by omega, HP.out.2 ⟨e1, e2⟩⟩⟩
          clear e1 e2
          go_quiet (first | (go_at_call 45; first | (with_reducible exact HE1.out _ _ _) | (with_reducible exact HE2.out _ _ _)))
          generalize (if d = n - j then some ae else some (ae.add ((n - j) * 2))) = Z at *
          go_wp2_with fail
          go_ret
          exact ⟨ret_bool HS.out.symm, below_dN hbel _⟩
        · rw [decide_eq_false e2] at HE2
          have HN : Hid (∀ s, s < j + 1 → k ≠ rotL l s) := fun s hs => by
            by_cases es : s = j
            · subst es; exact fun h => e2 (HP.out.1 h).2
            · exact H.out s (by omega)
          clear e1 e2
          go_quiet (first | (go_at_call 45; first | (with_reducible exact HE1.out _ _ _) | (with_reducible exact HE2.out _ _ _)))
          generalize (if d = n - j then some ae else some (ae.add ((n - j) * 2))) = Z at *
          go_wp2_with fail
          go_roundw
          case rel => exact ⟨j + 1, by omega, by go_num, HN, HQ2.out _⟩
          case measure => simp [intOf]; omega
      · rw [decide_eq_false e1] at HE1
        have HN : Hid (∀ s, s < j + 1 → k ≠ rotL l s) := fun s hs => by
          by_cases es : s = j
          · subst es; exact fun h => e1 (HP.out.1 h).1
          · exact H.out s (by omega)
        clear e1
        go_quiet (first | (go_at_call 45; with_reducible exact HE1.out _ _ _))
        go_wp2_with fail
        go_roundw
        case rel => exact ⟨j + 1, by omega, by go_num, HN, HQ2.out _⟩
        case measure => simp [intOf]; omega
    · obtain rfl : j = n := by omega
      by_cases h0 : j = 0
      · have HS : Hid (cycB l k = true) := cycB_iff.2 ⟨by omega, .inl (by omega)⟩
        subst h0
        clear hx hy H
        go_wp2_with fail
        go_ret
        exact ⟨ret_bool HS.out.symm, hbel⟩
      · have HS : Hid (cycB l k = false) := cycB_no fun h => by
          rcases h.2 with e | ⟨s, hs, e⟩
          · omega
          · exact H.out s (by omega) e
        have hz : ((j : Int) == 0) = false := by simp; omega
        clear hx hy H
        go_wp2_with fail
        go_ret
        exact ⟨ret_bool HS.out.symm, hbel⟩
end Go.Proofs.Ytfajcogkbmefjaa
