/-
  The program's headings: contracts: ReachSquare.
-/
import Derived.Test.YtafhhemojdblpaaDoorHedP
import Derived.Test.YtafhhemojdblpaaDoorPolI
namespace Go.Proofs.YtafhhemojdblpaaDoor
open Go.RowKit
set_option linter.unusedVariables false
set_option maxRecDepth 100000 in
set_option maxHeartbeats 1600000 in
theorem impl_ReachSquare (w : World) (B : Nat) (hB : B ≤ w.heap.size) (A : Option Addr) (n c : Nat) (l : List V2) (R : RdV w B A n l) :
    Calls Tryd.prog 14 #[.slice A n c] w fun e w' => e = .returned (.int .i64 (rchB l)) ∧ Below w.heap.size w w' := by
  have HP := hide (impl_IsPolygon w B hB A n c l R)
  obtain ⟨hn, hx, hl, hwf⟩ := R
  by_cases hp : polyB l = true
  case neg =>
    have hp : polyB l = false := by simpa using hp
    have HA := hide (rchB_no hp)
    clear hx
    go_enter Tryd.func14, Tryd.ntmps14
    go_wp2_with fail
    refine HP.out.mono ?_
    rintro e w1 ⟨rfl, hb⟩
    rw [hp]
    go_wp2_with fail
    go_ret
    exact ⟨ret_int HA.out.symm, hb⟩
  have hpp := polyB_iff.1 hp
  have HA : Hid (rchB l = rchN l n) := by show _ = _; rw [rchB_is hp, hn]
  have HT := hide (fun k (hk : k < l.length) => And.intro (rsq_range (poly_vec hpp hk)) (vecB_bounds (poly_vec hpp hk)))
  have HS := hide (fun k (hk : k ≤ l.length) => rchN_range hpp k hk)
  go_enter Tryd.func14, Tryd.ntmps14
  go_wp2_with fail
  refine HP.out.mono ?_
  rintro e w1 ⟨rfl, hb1⟩
  rw [hp]
  clear HP hp hpp
  go_wp2_with fail
  go_loopw [3, 11] (fun s i wr => ∃ k : Nat, k ≤ n ∧ s = .int .i64 (rchN l k) ∧ i = .int .i64 k ∧ Below w.heap.size w wr) (fun _ i _ => n - (intOf i).toNat)
  case atStart => exact ⟨0, Nat.zero_le _, rfl, rfl, hb1⟩
  case round =>
    clear hb1
    obtain ⟨k, hk, rfl, rfl, hbel⟩ := hrel
    by_cases hlt : k < n
    · obtain ⟨ad, hA, hb1, hc1, hc2⟩ := (hx.below (hbel.mono hB)).vec (k := k) (by omega)
      have hkl : k < l.length := by omega
      have hs := HS.out k (by omega)
      obtain ⟨⟨ht1, ht2, ht3, ht4, ht5, ht6⟩, ht7⟩ := HT.out k hkl
      have HN : Hid (rchN l (k + 1) = max (rchN l k) (rsq (atV l k))) := rfl
      have HE : Hid (rsq (atV l k) = (atV l k).1 * (atV l k).1 + (atV l k).2 * (atV l k).2) := rfl
      rw [HE.out] at HN ht1 ht2
      have hbs := hbel.size
      rw [← atV_eq hkl] at hc1 hc2
      generalize hm : rchN l k = m at *
      generalize (atV l k).1 = x0 at *
      generalize (atV l k).2 = y0 at *
      generalize hxx : x0 * x0 = xx at *
      generalize hyy : y0 * y0 = yy at *
      clear HT HS HE
      subst hA
      go_wp2_with fail
      go_roundw
      case rel => exact ⟨k + 1, by omega, by first | (rw [HN.out]; done) | (rw [HN.out]; exact congrArg (Value.int .i64) (by split <;> omega)), by go_num, below_alloc hbel _⟩
      case measure => simp [intOf]; omega
    · obtain rfl : k = n := by omega
      clear hx
      go_wp2_with fail
      go_ret
      exact ⟨ret_int HA.out.symm, hbel⟩
end Go.Proofs.YtafhhemojdblpaaDoor
