/-
  The program's polygons: contracts: DoubleArea.
-/
import Derived.Test.YtfajcogkbmefjaaPolI
import Derived.Test.YtfajcogkbmefjaaPolA
namespace Go.Proofs.Ytfajcogkbmefjaa
open Go.RowKit
set_option linter.unusedVariables false
set_option maxRecDepth 100000 in
set_option maxHeartbeats 1600000 in
theorem impl_DoubleArea (w : World) (B : Nat) (hB : B ≤ w.heap.size) (A : Option Addr) (n c : Nat) (l : List V2) (R : RdV w B A n l) :
    Calls Try.prog 16 #[.slice A n c] w fun e w' => e = .returned (.int .i64 (areaB l)) ∧ Below w.heap.size w w' := by
  have HP := hide (impl_IsPolygon w B hB A n c l R)
  obtain ⟨hn, hx, hl, hwf⟩ := R
  by_cases hp : polyB l = true
  case neg =>
    have hp : polyB l = false := by simpa using hp
    have HA : Hid (areaB l = 0) := by show _ = _; unfold areaB; rw [hp]; rfl
    clear hx
    go_enter Try.func16, Try.ntmps16
    go_wp2_with fail
    refine HP.out.mono ?_
    rintro e w1 ⟨rfl, hb⟩
    rw [hp]
    go_wp2_with fail
    go_ret
    exact ⟨ret_int HA.out.symm, hb⟩
  have hpp := polyB_iff.1 hp
  have h3 := hpp.1
  have h16 := hpp.2.1
  have HA : Hid (areaB l = fanN l n) := by show _ = _; unfold areaB; rw [if_pos hp, ← hn, fanN_all]; intro e; rw [e] at h3; simp at h3
  have HT := hide (fun k (hk : k < l.length) => poly_vec hpp hk)
  have HS := hide (fanN_small hpp)
  go_enter Try.func16, Try.ntmps16
  go_wp2_with fail
  refine HP.out.mono ?_
  rintro e w1 ⟨rfl, hb1⟩
  rw [hp]
  clear HP hp hpp
  go_wp2_with fail
  go_loopw [3, 4] (fun s i wr => ∃ k : Nat, 2 ≤ k ∧ k ≤ n ∧ s = .int .i64 (fanN l k) ∧ i = .int .i64 k ∧ Below w.heap.size w wr) (fun _ i _ => n - (intOf i).toNat)
  case atStart => exact ⟨2, by omega, by omega, by simp [fanN], rfl, hb1⟩
  case round =>
    obtain ⟨k, h2k, hk, rfl, rfl, hbel⟩ := hrel
    by_cases hlt : k < n
    · obtain ⟨j, rfl⟩ : ∃ j, k = j + 1 := ⟨k - 1, by omega⟩
      obtain ⟨ad, hA, hb2, hc1, hc2⟩ := (hx.below (hbel.mono hB)).vec (k := 0) (by omega)
      obtain ⟨a1, hA1, hb3, hc3, hc4⟩ := (hx.below (hbel.mono hB)).vec (k := j) (by omega)
      rw [hA] at hA1
      cases hA1
      obtain ⟨a2, hA2, hb4, hc5, hc6⟩ := (hx.below (hbel.mono hB)).vec (k := j + 1) (by omega)
      rw [hA] at hA2
      cases hA2
      obtain ⟨f1, f2⟩ := wfV_at hwf (k := 0) (by omega)
      obtain ⟨f3, f4⟩ := wfV_at hwf (k := j) (by omega)
      obtain ⟨f5, f6⟩ := wfV_at hwf (k := j + 1) (by omega)
      have HC := hide (fun (W : World) => impl_Turn W _ _ f1 f2 _ _ f3 f4 _ _ f5 f6)
      have HE : Hid (fanN l (j + 1 + 1) = fanN l (j + 1) + turnI l[0].1 l[0].2 l[j].1 l[j].2 l[j + 1].1 l[j + 1].2) := by
        show _ = _
        have e := tV_tn (HT.out 0 (by omega)) (HT.out j (by omega)) (HT.out (j + 1) (by omega))
        have e1 : fanN l (j + 1 + 1) = fanN l (j + 1) + (if 2 ≤ j + 1 then tn (atV l 0) (atV l (j + 1 - 1)) (atV l (j + 1)) else 0) := rfl
        rw [if_pos h2k, Nat.add_sub_cancel, ← e, atV_eq (show 0 < l.length by omega), atV_eq (show j < l.length by omega), atV_eq (show j + 1 < l.length by omega)] at e1
        exact e1
      have hsm := HS.out (j + 1) (by omega)
      have hsm2 := HS.out (j + 1 + 1) (by omega)
      rw [HE.out] at hsm2
      have hbs := hbel.size
      have e0 : ad.add (0 * 2) = ad := add_zero' ad
      rw [e0] at hc1 hc2
      have hba0 : ad.block < wr.heap.size := by omega
      have hi1 : ((j : Int) + 1 - 1) = (j : Int) := by omega
      have hi2 : 0 ≤ (j : Int) := Int.natCast_nonneg _
      have hi3 : (j : Int) < (n : Int) := by omega
      have hi4 : (j : Int) + 1 < (n : Int) := by omega
      have hi5 : 0 ≤ (j : Int) + 1 := by omega
      have hi6 : 0 < (n : Int) := by omega
      have hi7 : j < n := by omega
      have hi8 : 0 < n := by omega
      have hw1 : IntKind.i64.wrap ((j : Int) + 1 - 1) = (j : Int) := by rw [hi1]; exact IntWalk.i64_in _ (by omega)
      have hw2 : IntKind.i64.wrap (j : Int) = (j : Int) := IntWalk.i64_in _ (by omega)
      clear e0
      have hba1 : (ad.add (j * 2)).block < wr.heap.size := by rw [add_block]; omega
      have hba2 : (ad.add ((j + 1) * 2)).block < wr.heap.size := by rw [add_block]; omega
      generalize hT : turnI l[0].1 l[0].2 l[j].1 l[j].2 l[j + 1].1 l[j + 1].2 = T at *
      generalize hF : fanN l (j + 1) = F at *
      clear f1 f2 f3 f4 f5 f6
      subst hA
      go_wp2_with fail
      go_region_held3 (fun w' => w'.cell? ad = some (.int .i64 l[0].1) ∧ w'.cell? ⟨ad.block, ad.off + 1, none⟩ = some (.int .i64 l[0].2) ∧ w'.cell? (ad.add (j * 2)) = some (.int .i64 l[j].1) ∧ w'.cell? ⟨(ad.add (j * 2)).block, (ad.add (j * 2)).off + 1, none⟩ = some (.int .i64 l[j].2) ∧ w'.cell? (ad.add ((j + 1) * 2)) = some (.int .i64 l[j + 1].1) ∧ w'.cell? ⟨(ad.add ((j + 1) * 2)).block, (ad.add ((j + 1) * 2)).off + 1, none⟩ = some (.int .i64 l[j + 1].2) ∧ Below wr.heap.size wr w')
        (first | exact ⟨hc1, hc2, hc3, hc4, hc5, hc6, (Below.refl _ _).drew⟩ | exact ⟨keep1 hb9 hba0 hc1, keep2 hb9 hba0 hc2, keep1 hb9 hba1 hc3, keep2 hb9 hba1 hc4, keep1 hb9 hba2 hc5, keep2 hb9 hba2 hc6, undrew hb9⟩)
        (first | (go_at_call 39; refine (HC.out _).mono ?_; rintro e w1 ⟨rfl, hb9⟩))
      go_wp2_with fail
      go_roundw
      case rel => exact ⟨j + 1 + 1, by omega, by omega, by rw [HE.out, IntWalk.i64_in _ (by omega)], by go_num, hbel.trans ((undrew hb9).mono hbs)⟩
      case measure => simp [intOf]; omega
    · obtain rfl : k = n := by omega
      clear hx
      go_wp2_with fail
      go_ret
      exact ⟨ret_int HA.out.symm, hbel⟩
end Go.Proofs.Ytfajcogkbmefjaa
