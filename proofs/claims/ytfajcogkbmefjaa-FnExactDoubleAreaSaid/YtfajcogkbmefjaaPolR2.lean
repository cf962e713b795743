/-
  The reference's polygons: contracts: DoubleArea.
-/
import Derived.Test.YtfajcogkbmefjaaPolR
import Derived.Test.YtfajcogkbmefjaaPolA
namespace Go.Proofs.Ytfajcogkbmefjaa
open Go.RowKit
set_option linter.unusedVariables false
set_option maxRecDepth 100000 in
set_option maxHeartbeats 1600000 in
theorem spec_DoubleArea (w : World) (B : Nat) (hB : B ≤ w.heap.size) (A : Option Addr) (n c : Nat) (l : List V2) (R : RdV w B A n l) :
    Calls Try.prog 24 #[.slice A n c] w fun e w' => e = .returned (.int .i64 (areaB l)) ∧ Below w.heap.size w w' := by
  have HP := hide (spec_IsPolygon w B hB A n c l R)
  obtain ⟨hn, hx, hl, hwf⟩ := R
  by_cases hp : polyB l = true
  case neg =>
    have hp : polyB l = false := by simpa using hp
    have HA : Hid (areaB l = 0) := by show _ = _; unfold areaB; rw [hp]; rfl
    clear hx
    go_enter Try.func24, Try.ntmps24
    go_wp2_with fail
    refine HP.out.mono ?_
    rintro e w1 ⟨rfl, hb⟩
    rw [hp]
    go_wp2_with fail
    go_ret
    exact ⟨ret_int HA.out.symm, hb⟩
  have hpp := polyB_iff.1 hp
  have h3 := hpp.1
  have h16 := hpp.2.1
  have HA : Hid (areaB l = shoeN l n) := by show _ = _; unfold areaB; rw [if_pos hp, ← hn, shoeN_all (by omega)]
  have HT := hide (fun k (hk : k < l.length) => vecB_bounds (poly_vec hpp hk))
  have HS := hide (shoeN_small hpp)
  go_enter Try.func24, Try.ntmps24
  go_wp2_with fail
  refine HP.out.mono ?_
  rintro e w1 ⟨rfl, hb1⟩
  rw [hp]
  clear HP hp hpp
  go_wp2_with fail
  go_loopw [3, 12] (fun s i wr => ∃ k : Nat, k ≤ n ∧ s = .int .i64 (shoeN l k) ∧ i = .int .i64 k ∧ Below w.heap.size w wr) (fun _ i _ => n - (intOf i).toNat)
  case atStart => exact ⟨0, by omega, by simp [shoeN], rfl, hb1⟩
  case round =>
    obtain ⟨k, hk, rfl, rfl, hbel⟩ := hrel
    by_cases hlt : k < n
    · obtain ⟨ad, hA, hb2, hc1, hc2⟩ := (hx.below (hbel.mono hB)).vec (k := k) (by omega)
      have hm : ((k : Int) + 1) % (n : Int) = (((k + 1) % n : Nat) : Int) := by rw [Int.natCast_emod]; rfl
      have hp : (k + 1) % n < n := Nat.mod_lt _ (by omega)
      have HE : Hid (shoeN l (k + 1) = shoeN l k + crs (atV l k) (atV l ((k + 1) % n))) := by show _ = _; rw [← hn]; rfl
      have g1 := HT.out k (by omega)
      have g2 := HT.out ((k + 1) % n) (by omega)
      generalize (k + 1) % n = p at *
      obtain ⟨a1, hA1, hb3, hc3, hc4⟩ := (hx.below (hbel.mono hB)).vec (k := p) (by omega)
      rw [hA] at hA1
      cases hA1
      rw [atV_eq (show k < l.length by omega)] at HE g1
      rw [atV_eq (show p < l.length by omega)] at HE g2
      have hsm := HS.out k (by omega)
      have hsm2 := HS.out (k + 1) (by omega)
      rw [HE.out] at hsm2
      generalize hF : shoeN l k = F at *
      have HE : Hid (shoeN l (k + 1) = F + l[k].1 * l[p].2 - l[k].2 * l[p].1) := by show _ = _; rw [HE.out]; unfold crs; omega
      generalize l[k].1 = x0 at *
      generalize l[k].2 = y0 at *
      generalize l[p].1 = x1 at *
      generalize l[p].2 = y1 at *
      have k1 := mul_bounds (a := x0) (b := y1) (by omega) (by omega)
      have k2 := mul_bounds (a := y0) (b := x1) (by omega) (by omega)
      have hbs := hbel.size
      have hba : (ad.add (p * 2)).block < wr.heap.size := by rw [add_block]; omega
      clear hsm2 HS HT
      subst hA
      go_wp2_with fail
      go_roundw
      case rel => exact ⟨k + 1, by omega, by rw [HE.out], by go_num, below_alloc (below_alloc hbel _) _⟩
      case measure => simp [intOf]; omega
    · obtain rfl : k = n := by omega
      clear hx
      go_wp2_with fail
      go_ret
      exact ⟨ret_int HA.out.symm, hbel⟩
end Go.Proofs.Ytfajcogkbmefjaa
