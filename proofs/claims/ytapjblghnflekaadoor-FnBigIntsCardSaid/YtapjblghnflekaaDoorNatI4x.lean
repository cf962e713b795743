/-
  The program's natural numbers: contracts (4, second part): NatToInt, NatSub.
-/
import Derived.Test.YtapjblghnflekaaDoorNatI4
namespace Go.Proofs.YtapjblghnflekaaDoor
open Go.RowKit
set_option linter.unusedVariables false

set_option maxHeartbeats 1600000 in
theorem impl_NatSub (w : World) (B : Nat) (hB : B ≤ w.heap.size) (A0 : Option Addr) (n0 c0 : Nat) (xs0 : List Int) (R0 : RdI w B A0 n0 xs0) (A1 : Option Addr) (n1 c1 : Nat) (xs1 : List Int) (R1 : RdI w B A1 n1 xs1) :
    Calls Tryd.prog 39 #[.slice A0 n0 c0, .slice A1 n1 c1] w fun e w' => ∃ v, e = .returned v ∧ Own w' w.heap.size w'.heap.size 3 v (subL xs0 xs1).length (iv (subL xs0 xs1)) ∧ Below w.heap.size w w' := by
  have H0 := hide (impl_NatOk w B hB A0 n0 c0 xs0 R0)
  have H1 := hide (impl_NatOk w B hB A1 n1 c1 xs1 R1)
  by_cases h0 : natB xs0 = true
  · by_cases h1 : natB xs1 = true
    · obtain ⟨k0, l0⟩ := (natB_iff xs0).1 h0
      obtain ⟨k1, l1⟩ := (natB_iff xs1).1 h1
      have e0 := R0.1
      have e1 := R1.1
      have HC := hide (impl_Cmp w B A0 A1 n0 n1 c0 c1 xs0 xs1 e0 e1 R0.2.1 R1.2.1 (by omega) (by omega) k0 k1)
      by_cases hlt : val xs0 < val xs1
      · have hq : cmpV (val xs0) (val xs1) < 0 := cmpV_negI.2 hlt
        have HE := hide (subL_lt h0 h1 hlt)
        generalize cmpV (val xs0) (val xs1) = q at *
        clear R0 R1 k0 k1 hlt
        go_enter Tryd.func39, Tryd.ntmps39
        go_wp2_with fail
        refine H0.out.mono ?_
        rintro e w' ⟨rfl, rfl⟩
        go_wp2_with fail
        refine H1.out.mono ?_
        rintro e w' ⟨rfl, rfl⟩
        go_wp2_with fail
        refine HC.out.mono ?_
        rintro e w' ⟨rfl, d, rfl⟩
        go_wp2_with fail
        go_ret
        exact ⟨_, rfl, by rw [HE.out]; exact Own.nil _ _ _ _, below_drewN (Below.refl _ _) d⟩
      · have hq : ¬ cmpV (val xs0) (val xs1) < 0 := fun h => hlt (cmpV_negI.1 h)
        have HF : Hid (∀ out : List Int, out.length = n0 + 1 → Limbs (out.take (n0 + 1 - 1)) → val out = val (xs0 ++ List.replicate (n0 + 1 - n0) 0) + -1 * val xs1 → capT out = subL xs0 xs1) := fun out hl ht hv => by
          rw [val_pad] at hv
          have a0 := val_nonneg k0.1
          have a1 := val_nonneg k1.1
          have b0 := val_lt k0.1
          have p0 := pow_le' (show xs0.length ≤ n0 + 1 by omega)
          exact subL_okI h0 h1 (by omega) (limbs_of_val hl (by omega) ht (by omega) (by omega)) (by omega)
        have hn10 : n1 ≤ n0 := by
          rcases Nat.lt_or_ge n0 n1 with h | h
          · exact absurd (val_lt_len k0.1 k1 (by omega)) hlt
          · exact h
        have HB0 := hide (fun d => (below_drewN (Below.refl w.heap.size w) d))
        have HW := hide (fun d => impl_widened (w.drewN d) B hB A0 n0 c0 (n0 + 1) xs0 e0 (R0.2.1.below ((HB0.out d).mono hB)) (by omega) (by omega))
        have HA := hide (fun d w1 g (hg : w.heap.size ≤ g) (hb1 : Below w.heap.size (w.drewN d) w1) (hblk : Blk w1 g 3 (xs0 ++ List.replicate (n0 + 1 - n0) 0)) =>
          impl_addWhole w1 g (n0 + 1) (n0 + 1) B n1 c1 A1 (xs0 ++ List.replicate (n0 + 1 - n0) 0) xs1 (-1) hblk (by simp; omega) e1 (by omega) (by omega)
            ((k0.1.append (zeros_ok _)).take _) (k0.1.append (zeros_ok _)).last k1.1 (by omega) (R1.2.1.below (((HB0.out d).trans hb1).mono hB)) (by have := hb1.size; have := (HB0.out d).size; omega) (R1.2.1.sep (by omega)))
        generalize cmpV (val xs0) (val xs1) = q at *
        have hn6 : n0 ≤ 60 := by omega
        clear R0 R1 k0 k1 hlt
        go_enter Tryd.func39, Tryd.ntmps39
        go_wp2_with fail
        refine H0.out.mono ?_
        rintro e w' ⟨rfl, rfl⟩
        go_wp2_with fail
        refine H1.out.mono ?_
        rintro e w' ⟨rfl, rfl⟩
        go_wp2_with fail
        refine HC.out.mono ?_
        rintro e w' ⟨rfl, d, rfl⟩
        go_wp2_with fail
        refine (HW.out d).mono ?_
        rintro e w1 ⟨g, rfl, hg, hblk, hb1⟩
        have HA1 := hide (HA.out d w1 g hg hb1 hblk)
        have HB1 := hide ((HB0.out d).trans hb1)
        have hs1 := hb1.size
        have hs0 := (HB0.out d).size
        clear hblk hb1
        go_wp2_with fail
        refine HA1.out.mono ?_
        rintro e w2 ⟨v, out, rfl, hblk, hl, ht, hv, ha⟩
        have HE := hide (HF.out out hl ht hv)
        have HP := hide (impl_fitting w2 g (g + 1) (some ⟨g, 0, none⟩) (n0 + 1) (n0 + 1) out (by have := hblk.own (n0 + 1) (n0 + 1) (by omega); rwa [List.take_of_length_le (by omega)] at this) (Nat.le_refl _) (by omega))
        have hgl := hblk.lt
        have hgw : w.heap.size ≤ g := hg
        have hb2 := HB1.out.trans (ha.below hgw (by omega))
        clear hv ht hl hblk ha
        go_wp2_with fail
        refine HP.out.mono ?_
        rintro e w' ⟨v2, rfl, o, rfl⟩
        rw [HE.out] at o
        have HO := hide (o.wider (lo' := w.heap.size) (hi' := w2.heap.size) hgw (by omega))
        clear o
        go_wp2_with fail
        go_ret
        exact ⟨_, rfl, HO.out, hb2⟩
    · have h1' : natB xs1 = false := by simpa using h1
      have HE : Hid (subL xs0 xs1 = []) := by show _ = _; rw [subL, h1']; simp
      clear R0 R1 h1
      go_enter Tryd.func39, Tryd.ntmps39
      go_wp2_with fail
      refine H0.out.mono ?_
      rintro e w' ⟨rfl, rfl⟩
      go_wp2_with fail
      refine H1.out.mono ?_
      rintro e w' ⟨rfl, rfl⟩
      go_wp2_with fail
      go_ret
      exact ⟨_, rfl, by rw [HE.out]; exact Own.nil _ _ _ _, Below.refl _ _⟩
  · have h0' : natB xs0 = false := by simpa using h0
    have HE : Hid (subL xs0 xs1 = []) := by show _ = _; rw [subL, h0']; simp
    clear R0 R1 h0
    go_enter Tryd.func39, Tryd.ntmps39
    go_wp2_with fail
    refine H0.out.mono ?_
    rintro e w' ⟨rfl, rfl⟩
    go_wp2_with fail
    go_ret
    exact ⟨_, rfl, by rw [HE.out]; exact Own.nil _ _ _ _, Below.refl _ _⟩
end Go.Proofs.YtapjblghnflekaaDoor
