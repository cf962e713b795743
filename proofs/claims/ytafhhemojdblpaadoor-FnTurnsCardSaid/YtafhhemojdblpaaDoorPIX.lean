/-
  The texts PolI2, PolI4, put together; each has its own heading below. No condition of ours.
-/
import Derived.Test.YtafhhemojdblpaaDoorPolI
import Derived.Test.YtafhhemojdblpaaDoorPX
import Derived.Test.YtafhhemojdblpaaDoorHM
import Derived.Test.YtafhhemojdblpaaDoorEqV
import Derived.Sort.AtCall
import Derived.BigQuiet
/-
  The program's polygons: contracts: DoubleArea.
-/


namespace Go.Proofs.YtafhhemojdblpaaDoor
open Go.RowKit
set_option linter.unusedVariables false
set_option maxRecDepth 100000 in
set_option maxHeartbeats 1600000 in
theorem impl_DoubleArea (w : World) (B : Nat) (hB : B ≤ w.heap.size) (A : Option Addr) (n c : Nat) (l : List V2) (R : RdV w B A n l) :
    Calls Tryd.prog 13 #[.slice A n c] w fun e w' => e = .returned (.int .i64 (areaB l)) ∧ Below w.heap.size w w' := by
  have HP := hide (impl_IsPolygon w B hB A n c l R)
  obtain ⟨hn, hx, hl, hwf⟩ := R
  by_cases hp : polyB l = true
  case neg =>
    have hp : polyB l = false := by simpa using hp
    have HA : Hid (areaB l = 0) := by show _ = _; unfold areaB; rw [hp]; rfl
    clear hx
    go_enter Tryd.func13, Tryd.ntmps13
    go_wp2_with fail
    refine HP.out.mono ?_
    rintro e w1 ⟨rfl, hb⟩
    rw [hp]
    go_wp2_with fail
    go_ret
    exact ⟨ret_int HA.out.symm, hb⟩
  have hpp := polyB_iff.1 hp
  have h3 := hpp.1
  have h16 := hpp.2.1
  have HA : Hid (areaB l = fanN l n) := by show _ = _; unfold areaB; rw [if_pos hp, ← hn, fanN_all]; intro e; rw [e] at h3; simp at h3
  have HT := hide (fun k (hk : k < l.length) => poly_vec hpp hk)
  have HS := hide (fanN_small hpp)
  go_enter Tryd.func13, Tryd.ntmps13
  go_wp2_with fail
  refine HP.out.mono ?_
  rintro e w1 ⟨rfl, hb1⟩
  rw [hp]
  clear HP hp hpp
  go_wp2_with fail
  go_loopw [3, 4] (fun s i wr => ∃ k : Nat, 2 ≤ k ∧ k ≤ n ∧ s = .int .i64 (fanN l k) ∧ i = .int .i64 k ∧ Below w.heap.size w wr) (fun _ i _ => n - (intOf i).toNat)
  case atStart => exact ⟨2, by omega, by omega, by simp [fanN], rfl, hb1⟩
  case round =>
    obtain ⟨k, h2k, hk, rfl, rfl, hbel⟩ := hrel
    by_cases hlt : k < n
    · obtain ⟨j, rfl⟩ : ∃ j, k = j + 1 := ⟨k - 1, by omega⟩
      obtain ⟨ad, hA, hb2, hc1, hc2⟩ := (hx.below (hbel.mono hB)).vec (k := 0) (by omega)
      obtain ⟨a1, hA1, hb3, hc3, hc4⟩ := (hx.below (hbel.mono hB)).vec (k := j) (by omega)
      rw [hA] at hA1
      cases hA1
      obtain ⟨a2, hA2, hb4, hc5, hc6⟩ := (hx.below (hbel.mono hB)).vec (k := j + 1) (by omega)
      rw [hA] at hA2
      cases hA2
      obtain ⟨f1, f2⟩ := wfV_at hwf (k := 0) (by omega)
      obtain ⟨f3, f4⟩ := wfV_at hwf (k := j) (by omega)
      obtain ⟨f5, f6⟩ := wfV_at hwf (k := j + 1) (by omega)
      have HC := hide (fun (W : World) => impl_Turn W _ _ f1 f2 _ _ f3 f4 _ _ f5 f6)
      have HE : Hid (fanN l (j + 1 + 1) = fanN l (j + 1) + turnI l[0].1 l[0].2 l[j].1 l[j].2 l[j + 1].1 l[j + 1].2) := by
        show _ = _
        have e := tV_tn (HT.out 0 (by omega)) (HT.out j (by omega)) (HT.out (j + 1) (by omega))
        have e1 : fanN l (j + 1 + 1) = fanN l (j + 1) + (if 2 ≤ j + 1 then tn (atV l 0) (atV l (j + 1 - 1)) (atV l (j + 1)) else 0) := rfl
        rw [if_pos h2k, Nat.add_sub_cancel, ← e, atV_eq (show 0 < l.length by omega), atV_eq (show j < l.length by omega), atV_eq (show j + 1 < l.length by omega)] at e1
        exact e1
      have hsm := HS.out (j + 1) (by omega)
      have hsm2 := HS.out (j + 1 + 1) (by omega)
      rw [HE.out] at hsm2
      have hbs := hbel.size
      have e0 : ad.add (0 * 2) = ad := add_zero' ad
      rw [e0] at hc1 hc2
      have hba0 : ad.block < wr.heap.size := by omega
      have hi1 : ((j : Int) + 1 - 1) = (j : Int) := by omega
      have hi2 : 0 ≤ (j : Int) := Int.natCast_nonneg _
      have hi3 : (j : Int) < (n : Int) := by omega
      have hi4 : (j : Int) + 1 < (n : Int) := by omega
      have hi5 : 0 ≤ (j : Int) + 1 := by omega
      have hi6 : 0 < (n : Int) := by omega
      have hi7 : j < n := by omega
      have hi8 : 0 < n := by omega
      have hw1 : IntKind.i64.wrap ((j : Int) + 1 - 1) = (j : Int) := by rw [hi1]; exact IntWalk.i64_in _ (by omega)
      have hw2 : IntKind.i64.wrap (j : Int) = (j : Int) := IntWalk.i64_in _ (by omega)
      clear e0
      have hba1 : (ad.add (j * 2)).block < wr.heap.size := by rw [add_block]; omega
      have hba2 : (ad.add ((j + 1) * 2)).block < wr.heap.size := by rw [add_block]; omega
      generalize hT : turnI l[0].1 l[0].2 l[j].1 l[j].2 l[j + 1].1 l[j + 1].2 = T at *
      generalize hF : fanN l (j + 1) = F at *
      clear f1 f2 f3 f4 f5 f6
      subst hA
      go_wp2_with fail
      go_region_held3 (fun w' => w'.cell? ad = some (.int .i64 l[0].1) ∧ w'.cell? ⟨ad.block, ad.off + 1, none⟩ = some (.int .i64 l[0].2) ∧ w'.cell? (ad.add (j * 2)) = some (.int .i64 l[j].1) ∧ w'.cell? ⟨(ad.add (j * 2)).block, (ad.add (j * 2)).off + 1, none⟩ = some (.int .i64 l[j].2) ∧ w'.cell? (ad.add ((j + 1) * 2)) = some (.int .i64 l[j + 1].1) ∧ w'.cell? ⟨(ad.add ((j + 1) * 2)).block, (ad.add ((j + 1) * 2)).off + 1, none⟩ = some (.int .i64 l[j + 1].2) ∧ Below wr.heap.size wr w')
        (first | exact ⟨hc1, hc2, hc3, hc4, hc5, hc6, (Below.refl _ _).drew⟩ | exact ⟨keep1 hb9 hba0 hc1, keep2 hb9 hba0 hc2, keep1 hb9 hba1 hc3, keep2 hb9 hba1 hc4, keep1 hb9 hba2 hc5, keep2 hb9 hba2 hc6, undrew hb9⟩)
        (first | (go_at_call 33; refine (HC.out _).mono ?_; rintro e w1 ⟨rfl, hb9⟩))
      go_wp2_with fail
      go_roundw
      case rel => exact ⟨j + 1 + 1, by omega, by omega, by rw [HE.out, IntWalk.i64_in _ (by omega)], by go_num, hbel.trans ((undrew hb9).mono hbs)⟩
      case measure => simp [intOf]; omega
    · obtain rfl : k = n := by omega
      clear hx
      go_wp2_with fail
      go_ret
      exact ⟨ret_int HA.out.symm, hbel⟩
end Go.Proofs.YtafhhemojdblpaaDoor

/-
  The program's polygons: contracts: SamePolygon.
-/




namespace Go.Proofs.YtafhhemojdblpaaDoor
open Go.RowKit
set_option linter.unusedVariables false
set_option maxRecDepth 100000 in
set_option maxHeartbeats 1600000 in
theorem impl_SamePolygon (w : World) (B : Nat) (hB : B ≤ w.heap.size) (A : Option Addr) (n c : Nat) (l : List V2) (R : RdV w B A n l) (D : Option Addr) (m d : Nat) (k : List V2) (S : RdV w B D m k) (hc : n ≤ c ∧ c ≤ maxLen) (hd : m ≤ d ∧ d ≤ maxLen) :
    Calls Tryd.prog 12 #[.slice A n c, .slice D m d] w fun e w' => e = .returned (.bool (cycB l k)) ∧ Below w.heap.size w w' := by
  obtain ⟨hn, hx, hl, hwf⟩ := R
  obtain ⟨hm, hy, hl2, hwf2⟩ := S
  unfold maxLen at hc hd
  by_cases hnm : n = m
  case neg =>
    have HS : Hid (cycB l k = false) := cycB_no fun h => hnm (by have := h.1; omega)
    have hne : ((n : Int) != (m : Int)) = true := by simp; omega
    clear hx hy
    go_enter Tryd.func12, Tryd.ntmps12
    go_wp2_with fail
    go_ret
    exact ⟨ret_bool HS.out.symm, Below.refl _ _⟩
  subst hnm
  have hq : ((n : Int) != (n : Int)) = false := by simp
  go_enter Tryd.func12, Tryd.ntmps12
  go_wp2_with fail
  clear hq
  go_loopw [14] (fun i wr => ∃ j : Nat, j ≤ n ∧ i = .int .i64 j ∧ Hid (∀ s, s < j → k ≠ rotL l s) ∧ ∃ q, wr = w.drewN q) (fun i _ => n - (intOf i).toNat)
  case atStart => exact ⟨0, Nat.zero_le _, rfl, fun s h => absurd h (Nat.not_lt_zero _), 0, rfl⟩
  case round =>
    obtain ⟨j, hj, rfl, H, hq⟩ := hrel
    have hbel : Below w.heap.size w wr := by obtain ⟨q, rfl⟩ := hq; exact below_dN (Below.refl _ _) q
    have HQ := hide hq
    clear hq
    by_cases hlt : j < n
    · obtain ⟨ad, hA, hb1, hcx, -⟩ := hx.vec (k := 0) (by omega)
      obtain ⟨ae, hE, hb2, hcy, -⟩ := hy.vec (k := 0) (by omega)
      subst hA
      subst hE
      clear hcx hcy
      go_upto_region 7 with fail
      have hr2 : (n : Int) - (j : Int) = ((n - j : Nat) : Int) := by omega
      rw [hr2]
      have hrd1 := (hx.below (hbel.mono hB)).dropV j
      have hrd2 := (hy.below (hbel.mono hB)).takeV (n - j)
      have hrd3 := (hx.below (hbel.mono hB)).takeV j
      have hrd4 : Rd wr B (if d = n - j then some ae else some (ae.add ((n - j) * 2))) (fl (k.drop (n - j))) := by
        split
        · left
          rw [List.drop_of_length_le (by omega)]; rfl
        · exact (hy.below (hbel.mono hB)).dropV (n - j)
      have L1 : (l.drop j).length = (n - j) := by simp; omega
      have L2 : (k.take (n - j)).length = (n - j) := by simp; omega
      have L3 : (l.take j).length = j := by simp; omega
      have L4 : (k.drop (n - j)).length = n - (n - j) := by simp; omega
      have hB2 : ∀ n1, B ≤ (wr.drewN n1).heap.size := fun n1 => Nat.le_trans (Nat.le_trans hB hbel.size) (below_dN (Below.refl wr.heap.size wr) n1).size
      have HE1 := hide (fun (c1 c2 n1 : Nat) => Calls.quiet_of (slices_Equal (wr.drewN n1) B (hB2 n1) _ _ (n - j) c1 (n - j) c2 _ _ L1 L2 (hrd1.below (below_dN (Below.refl _ _) n1)) (hrd2.below (below_dN (Below.refl _ _) n1)) (by omega) (by omega)))
      have HE2 := hide (fun (c1 c2 n1 : Nat) => Calls.quiet_of (slices_Equal (wr.drewN n1) B (hB2 n1) _ _ j c1 (n - (n - j)) c2 _ _ L3 L4 (hrd3.below (below_dN (Below.refl _ _) n1)) (hrd4.below (below_dN (Below.refl _ _) n1)) (by omega) (by omega)))
      have HP := hide (rotL_parts (l := l) (m := k) (s := j) (by omega) (by omega))
      have hkn : k.length - j = (n - j) := by omega
      rw [hkn] at HP
      clear hB2 hrd1 hrd2 hrd3 hrd4 L1 L2 L3 L4 hkn hx hy
      have hj0 : (0 : Int) ≤ (j : Int) := Int.natCast_nonneg _
      have hj1 : (j : Int) ≤ (n : Int) := by omega
      have hr0 : (0 : Int) ≤ ((n - j : Nat) : Int) := Int.natCast_nonneg _
      have hr1 : ((n - j : Nat) : Int) ≤ (n : Int) := by omega
      have hr3 : ((n - j : Nat) : Int) ≤ (d : Int) := by omega
      have hr4 : (j : Int) ≤ (c : Int) := by omega
      have HQ2 : Hid (∀ n, ∃ q, wr.drewN n = w.drewN q) := fun n => by obtain ⟨q, rfl⟩ := HQ.out; exact ⟨_, by rw [World.drewN_drewN]⟩
      by_cases e1 : l.drop j = k.take (n - j)
      · rw [decide_eq_true e1] at HE1
        by_cases e2 : l.take j = k.drop (n - j)
        · rw [decide_eq_true e2] at HE2
          have HS : Hid (cycB l k = true) := cycB_iff.2 ⟨by omega, .inr ⟨j, by omega, HP.out.2 ⟨e1, e2⟩⟩⟩
          clear e1 e2
          go_quiet (first | (go_at_call 34; first | (with_reducible exact HE1.out _ _ _) | (with_reducible exact HE2.out _ _ _)))
          generalize (if d = n - j then some ae else some (ae.add ((n - j) * 2))) = Z at *
          go_wp2_with fail
          go_ret
          exact ⟨ret_bool HS.out.symm, below_dN hbel _⟩
        · rw [decide_eq_false e2] at HE2
          have HN : Hid (∀ s, s < j + 1 → k ≠ rotL l s) := fun s hs => by
            by_cases es : s = j
            · subst es; exact fun h => e2 (HP.out.1 h).2
            · exact H.out s (by omega)
          clear e1 e2
          go_quiet (first | (go_at_call 34; first | (with_reducible exact HE1.out _ _ _) | (with_reducible exact HE2.out _ _ _)))
          generalize (if d = n - j then some ae else some (ae.add ((n - j) * 2))) = Z at *
          go_wp2_with fail
          go_roundw
          case rel => exact ⟨j + 1, by omega, by go_num, HN, HQ2.out _⟩
          case measure => simp [intOf]; omega
      · rw [decide_eq_false e1] at HE1
        have HN : Hid (∀ s, s < j + 1 → k ≠ rotL l s) := fun s hs => by
          by_cases es : s = j
          · subst es; exact fun h => e1 (HP.out.1 h).1
          · exact H.out s (by omega)
        clear e1
        go_quiet (first | (go_at_call 34; with_reducible exact HE1.out _ _ _))
        go_wp2_with fail
        go_roundw
        case rel => exact ⟨j + 1, by omega, by go_num, HN, HQ2.out _⟩
        case measure => simp [intOf]; omega
    · obtain rfl : j = n := by omega
      by_cases h0 : j = 0
      · have HS : Hid (cycB l k = true) := cycB_iff.2 ⟨by omega, .inl (by omega)⟩
        subst h0
        clear hx hy H
        go_wp2_with fail
        go_ret
        exact ⟨ret_bool HS.out.symm, hbel⟩
      · have HS : Hid (cycB l k = false) := cycB_no fun h => by
          rcases h.2 with e | ⟨s, hs, e⟩
          · omega
          · exact H.out s (by omega) e
        have hz : ((j : Int) == 0) = false := by simp; omega
        clear hx hy H
        go_wp2_with fail
        go_ret
        exact ⟨ret_bool HS.out.symm, hbel⟩
end Go.Proofs.YtafhhemojdblpaaDoor
