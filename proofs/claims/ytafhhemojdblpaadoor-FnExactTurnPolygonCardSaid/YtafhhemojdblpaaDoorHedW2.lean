/-
  The exact laws' walks: TurnPolygon.
-/
import Derived.Test.YtafhhemojdblpaaDoorVecL2
import Derived.Test.YtafhhemojdblpaaDoorHedI2
import Derived.Test.YtafhhemojdblpaaDoorHedR
namespace Go.Proofs.YtafhhemojdblpaaDoor
open Go.RowKit
set_option linter.unusedVariables false
theorem impl_TurnPolygonB (w : World) (B : Nat) (hB : B ≤ w.heap.size) (A : Option Addr) (n c : Nat) (l : List V2) (R : RdV w B A n l) (k : Int) (hk : (Lit.int .i64 k).wf = true) (hQ : QTab w) :
    Calls Tryd.prog 10 #[.slice A n c, .int .i64 k] w fun e w' => ∃ v, e = .returned v ∧ OwnV w' w.heap.size w'.heap.size 36 v (turnL l k).length (turnL l k) ∧ Below w.heap.size w w' := impl_TurnPolygon w B hB A n c l R k hQ

set_option maxHeartbeats 4000000 in
set_option maxRecDepth 100000 in
theorem FnExactTurnPolygon_walk (w : World) (a0 : Option Addr) (len0 cap0 : Nat) (xs0 : List V2) (f0 : IsVecs w a0 len0 cap0 xs0) (a1 : Int) (f1 : (Lit.int .i64 a1).wf = true) (hQ : QTab w) :
    Calls Tryd.prog 5 #[.slice a0 len0 cap0, .int .i64 a1] w fun e w' => e = .returned (.bool true) ∧ Below w.heap.size w w' := by
  have hm0 := f0.rd.2.2.1
  unfold maxLen at hm0
  obtain ⟨hm1, hM1⟩ := bounds_i64 f1
  by_cases c0 : 1048576 < len0
  · go_enter Tryd.func5, Tryd.ntmps5
    go_wp2_with fail
    refine (szVecS_no w a0 len0 cap0 (1048576) (by omega) (by unfold maxLen; omega) (by omega)).mono ?_
    rintro e w' ⟨rfl, rfl⟩
    go_wp2_with fail
    go_ret
    exact ⟨rfl, Below.refl _ _⟩
  have hn0 : len0 ≤ 1048576 := by omega
  have hN0 : len0 ≤ 1048576 := by omega
  clear c0
  have I0_0 := f0.rdV hn0
  have F0 := hide f0.rd.2.2.2
  clear f0
  have hT0 : Below w.heap.size w w := Below.refl _ _
  go_enter Tryd.func5, Tryd.ntmps5
  go_wp2_with fail
  refine (szVecS_ok w a0 len0 cap0 (1048576) (by omega) (by omega)).mono ?_
  rintro e w' ⟨rfl, rfl⟩
  have hL0 : (turnL xs0 a1).length ≤ 1048576 := by have := turnL_len xs0 a1; have := I0_0.1; omega
  have HF0 : Hid (wfV (turnL xs0 a1)) := turnL_wf _ _
  go_wp2_with fail
  refine (toVecS_any a0 len0 cap0 _ xs0 w I0_0.1 I0_0.2.1 (by omega) (by omega) F0.out).mono ?_
  rintro e w1 ⟨g0, rfl, q0, hb1⟩
  have o0_1 := OwnV.of q0
  clear q0
  have hs1 := hb1.size
  have I0_1 := I0_0.below (hb1.mono (by omega))
  clear I0_0
  have hT1 := hT0.trans (hb1.mono (by omega))
  clear hT0
  go_wp2_with fail
  refine (spec_TurnPolygon w1 w1.heap.size (Nat.le_refl _) (some ⟨g0, 0, none⟩) len0 len0 xs0 (I0_1.at_ o0_1.rd) a1 f1).mono ?_
  rintro e w2 ⟨v1, rfl, o1_2, hb2⟩
  obtain ⟨A1, c1, rfl⟩ := o1_2.form
  have hs2 := hb2.size
  clear o0_1
  have I0_2 := I0_1.below (hb2.mono (by omega))
  clear I0_1
  have hT2 := hT1.trans (hb2.mono (by omega))
  clear hT1
  go_wp2_with fail
  refine (toVecS_any a0 len0 cap0 _ xs0 w2 I0_2.1 I0_2.2.1 (by omega) (by omega) F0.out).mono ?_
  rintro e w3 ⟨g2, rfl, q2, hb3⟩
  have o2_3 := OwnV.of q2
  clear q2
  have hs3 := hb3.size
  have o1_3 := o1_2.below hb3 (by omega)
  clear o1_2
  have I0_3 := I0_2.below (hb3.mono (by omega))
  clear I0_2
  have hT3 := hT2.trans (hb3.mono (by omega))
  clear hT2
  go_wp2_with fail
  refine (impl_TurnPolygonB w3 w3.heap.size (Nat.le_refl _) (some ⟨g2, 0, none⟩) len0 len0 xs0 (I0_3.at_ o2_3.rd) a1 f1 (hQ.below hT3 (Nat.le_refl _))).mono ?_
  rintro e w4 ⟨v3, rfl, o3_4, hb4⟩
  obtain ⟨A3, c3, rfl⟩ := o3_4.form
  have hs4 := hb4.size
  have o1_4 := o1_3.below hb4 (by omega)
  clear o1_3
  have o2_4 := o2_3.below hb4 (by omega)
  clear o2_3
  have I0_4 := I0_3.below (hb4.mono (by omega))
  clear I0_3
  have hT4 := hT3.trans (hb4.mono (by omega))
  clear hT3
  go_wp2_with fail
  refine (eqVecS_any A3 A1 (turnL xs0 a1).length c3 c1 _ (turnL xs0 a1) w4 rfl o3_4.rd o1_4.rd (Nat.le_refl _) (by omega) HF0.out).mono ?_
  rintro e w5 ⟨rfl, hb5⟩
  have hs5 := hb5.size
  have o1_5 := o1_4.below hb5 (by omega)
  clear o1_4
  have o2_5 := o2_4.below hb5 (by omega)
  clear o2_4
  have o3_5 := o3_4.below hb5 (by omega)
  clear o3_4
  have I0_5 := I0_4.below (hb5.mono (by omega))
  clear I0_4
  have hT5 := hT4.trans (hb5.mono (by omega))
  clear hT4
  go_wp2_with fail
  refine (toVecS_any a0 len0 cap0 _ xs0 w5 I0_5.1 I0_5.2.1 (by omega) (by omega) F0.out).mono ?_
  rintro e w6 ⟨g4, rfl, q4, hb6⟩
  have o4_6 := OwnV.of q4
  clear q4
  have hs6 := hb6.size
  have o1_6 := o1_5.below hb6 (by omega)
  clear o1_5
  have o2_6 := o2_5.below hb6 (by omega)
  clear o2_5
  have o3_6 := o3_5.below hb6 (by omega)
  clear o3_5
  have I0_6 := I0_5.below (hb6.mono (by omega))
  clear I0_5
  have hT6 := hT5.trans (hb6.mono (by omega))
  clear hT5
  go_wp2_with fail
  refine (eqVecS_any (some ⟨g2, 0, none⟩) (some ⟨g4, 0, none⟩) len0 len0 len0 _ xs0 w6 I0_6.1 o2_6.rd o4_6.rd (Nat.le_refl _) (by omega) F0.out).mono ?_
  rintro e w7 ⟨rfl, hb7⟩
  have hs7 := hb7.size
  have o1_7 := o1_6.below hb7 (by omega)
  clear o1_6
  have o2_7 := o2_6.below hb7 (by omega)
  clear o2_6
  have o3_7 := o3_6.below hb7 (by omega)
  clear o3_6
  have o4_7 := o4_6.below hb7 (by omega)
  clear o4_6
  have I0_7 := I0_6.below (hb7.mono (by omega))
  clear I0_6
  have hT7 := hT6.trans (hb7.mono (by omega))
  clear hT6
  clear o4_7
  go_wp2_with fail
  refine (markVecS_own (.slice (some ⟨g2, 0, none⟩) len0 len0) len0 1 _ _ _ _ w7 o2_7 (by omega) (by omega)).mono ?_
  rintro e w8 ⟨he, p2, ha8⟩
  obtain ⟨K1, hK1⟩ : ∃ K : Nat, K = 1 + len0 * 2 := ⟨_, rfl⟩
  have bK1 : K1 ≤ 3000010 := by omega
  rw [← hK1] at he
  subst he
  have HK1 := hide hK1
  clear hK1
  have hs8 := ha8.size
  have o1_8 := o1_7.aside ha8 (by omega)
  clear o1_7
  have o3_8 := o3_7.aside ha8 (by omega)
  clear o3_7
  have I0_8 := I0_7.below (ha8.below (by omega) (by omega))
  clear I0_7
  have hT8 := hT7.trans (ha8.below (by omega) (by omega))
  clear hT7
  have o2_8 := p2
  clear p2 o2_7
  go_wp2_with fail
  refine (eqVecS_any A3 A1 (turnL xs0 a1).length c3 c1 _ (turnL xs0 a1) w8 rfl o3_8.rd o1_8.rd (Nat.le_refl _) (by omega) HF0.out).mono ?_
  rintro e w9 ⟨rfl, hb9⟩
  have hs9 := hb9.size
  have o1_9 := o1_8.below hb9 (by omega)
  clear o1_8
  have o2_9 := o2_8.below hb9 (by omega)
  clear o2_8
  have o3_9 := o3_8.below hb9 (by omega)
  clear o3_8
  have I0_9 := I0_8.below (hb9.mono (by omega))
  clear I0_8
  have hT9 := hT8.trans (hb9.mono (by omega))
  clear hT8
  clear o2_9
  go_wp2_with fail
  refine (markVecS_own (.slice A3 (turnL xs0 a1).length c3) (turnL xs0 a1).length 1 _ _ _ _ w9 o3_9 (by omega) (by omega)).mono ?_
  rintro e w10 ⟨he, p3, ha10⟩
  obtain ⟨K2, hK2⟩ : ∃ K : Nat, K = 1 + (turnL xs0 a1).length * 2 := ⟨_, rfl⟩
  have bK2 : K2 ≤ 6000010 := by omega
  rw [← hK2] at he
  subst he
  have HK2 := hide hK2
  clear hK2
  have hs10 := ha10.size
  have o1_10 := o1_9.aside ha10 (by omega)
  clear o1_9
  have I0_10 := I0_9.below (ha10.below (by omega) (by omega))
  clear I0_9
  have hT10 := hT9.trans (ha10.below (by omega) (by omega))
  clear hT9
  have o3_10 := p3
  clear p3 o3_9
  go_wp2_with fail
  refine (heldVecS_any A3 (turnL xs0 a1).length c3 1 _ w10 o3_10.rd (by omega) (by omega)).mono ?_
  rintro e w' ⟨he, rfl⟩
  rw [← HK2.out] at he
  subst he
  go_wp2_with fail
  refine (toVecS_any a0 len0 cap0 _ xs0 w10 I0_10.1 I0_10.2.1 (by omega) (by omega) F0.out).mono ?_
  rintro e w11 ⟨g5, rfl, q5, hb11⟩
  have o5_11 := OwnV.of q5
  clear q5
  have hs11 := hb11.size
  have o1_11 := o1_10.below hb11 (by omega)
  clear o1_10
  have o3_11 := o3_10.below hb11 (by omega)
  clear o3_10
  have I0_11 := I0_10.below (hb11.mono (by omega))
  clear I0_10
  have hT11 := hT10.trans (hb11.mono (by omega))
  clear hT10
  go_wp2_with fail
  refine (impl_TurnPolygonB w11 w11.heap.size (Nat.le_refl _) (some ⟨g5, 0, none⟩) len0 len0 xs0 (I0_11.at_ o5_11.rd) a1 f1 (hQ.below hT11 (Nat.le_refl _))).mono ?_
  rintro e w12 ⟨v6, rfl, o6_12, hb12⟩
  obtain ⟨A6, c6, rfl⟩ := o6_12.form
  have hs12 := hb12.size
  have o1_12 := o1_11.below hb12 (by omega)
  clear o1_11
  have o3_12 := o3_11.below hb12 (by omega)
  clear o3_11
  clear o5_11
  have I0_12 := I0_11.below (hb12.mono (by omega))
  clear I0_11
  have hT12 := hT11.trans (hb12.mono (by omega))
  clear hT11
  go_wp2_with fail
  refine (eqVecS_any A6 A1 (turnL xs0 a1).length c6 c1 _ (turnL xs0 a1) w12 rfl o6_12.rd o1_12.rd (Nat.le_refl _) (by omega) HF0.out).mono ?_
  rintro e w13 ⟨rfl, hb13⟩
  have hs13 := hb13.size
  have o1_13 := o1_12.below hb13 (by omega)
  clear o1_12
  have o3_13 := o3_12.below hb13 (by omega)
  clear o3_12
  have o6_13 := o6_12.below hb13 (by omega)
  clear o6_12
  have I0_13 := I0_12.below (hb13.mono (by omega))
  clear I0_12
  have hT13 := hT12.trans (hb13.mono (by omega))
  clear hT12
  go_wp2_with fail
  refine (heldVecS_any A3 (turnL xs0 a1).length c3 1 _ w13 o3_13.rd (by omega) (by omega)).mono ?_
  rintro e w' ⟨he, rfl⟩
  rw [← HK2.out] at he
  subst he
  clear o1_13
  clear o3_13
  clear o6_13
  go_wp2
  go_ret
  exact ⟨rfl, hT13⟩
end Go.Proofs.YtafhhemojdblpaaDoor
