/-
  The exact laws' walks: stage 2, W2.
-/
import Derived.Test.YtalcknddegfkaaaNatLen
import Derived.Test.YtalcknddegfkaaaNatR8
import Derived.Test.YtalcknddegfkaaaNatI8
namespace Go.Proofs.Ytalcknddegfkaaa
open Go.RowKit
set_option linter.unusedVariables false

set_option maxHeartbeats 4000000 in
set_option maxRecDepth 100000 in
theorem FnExactNatDiv_walk (w : World) (a0 : Option Addr) (len0 cap0 : Nat) (z0 : List Int) (f0 : IsRow .i64 w a0 len0 cap0 z0) (a1 : Option Addr) (len1 cap1 : Nat) (z1 : List Int) (f1 : IsRow .i64 w a1 len1 cap1 z1) :
    Calls Try.prog 10 #[.slice a0 len0 cap0, .slice a1 len1 cap1] w fun e w' => e = .returned (.bool true) ∧ Below w.heap.size w w' := by
  have hm0 := f0.rd.2.2.1
  unfold maxLen at hm0
  have hm1 := f1.rd.2.2.1
  unfold maxLen at hm1
  by_cases c0 : 1048576 < len0
  · go_enter Try.func10, Try.ntmps10
    go_wp2
    go_ret
    exact ⟨rfl, Below.refl _ _⟩
  have hn0 : len0 ≤ 1048576 := by omega
  clear c0
  by_cases c1 : 1048576 < len1
  · go_enter Try.func10, Try.ntmps10
    go_wp2
    go_ret
    exact ⟨rfl, Below.refl _ _⟩
  have hn1 : len1 ≤ 1048576 := by omega
  clear c1
  obtain ⟨xs0, I0_0⟩ := f0.rdI hn0
  clear f0
  obtain ⟨xs1, I1_0⟩ := f1.rdI hn1
  clear f1
  have hT0 : Below w.heap.size w w := Below.refl _ _
  go_enter Try.func10, Try.ntmps10
  have hL0 : (quoL xs0 xs1).length ≤ 1048576 := quoL_len _ _
  have hL1 : (remL xs0 xs1).length ≤ 1048576 := remL_len _ _
  go_wp2_with fail
  refine (toIntS_any a0 len0 cap0 _ xs0 w I0_0.1 I0_0.2.1 (by omega) (by omega)).mono ?_
  rintro e w1 ⟨g0, rfl, q0, hb1⟩
  have o0_1 := Own.of q0
  clear q0
  have hs1 := hb1.size
  have I0_1 := I0_0.below (hb1.mono (by omega))
  clear I0_0
  have I1_1 := I1_0.below (hb1.mono (by omega))
  clear I1_0
  have hT1 := hT0.trans (hb1.mono (by omega))
  clear hT0
  go_wp2_with fail
  refine (toIntS_any a1 len1 cap1 _ xs1 w1 I1_1.1 I1_1.2.1 (by omega) (by omega)).mono ?_
  rintro e w2 ⟨g1, rfl, q1, hb2⟩
  have o1_2 := Own.of q1
  clear q1
  have hs2 := hb2.size
  have o0_2 := o0_1.below hb2 (by omega)
  clear o0_1
  have I0_2 := I0_1.below (hb2.mono (by omega))
  clear I0_1
  have I1_2 := I1_1.below (hb2.mono (by omega))
  clear I1_1
  have hT2 := hT1.trans (hb2.mono (by omega))
  clear hT1
  go_wp2_with fail
  refine (spec_NatDiv w2 w2.heap.size (Nat.le_refl _) (some ⟨g0, 0, none⟩) len0 len0 xs0 (I0_2.at_ o0_2.rd) (some ⟨g1, 0, none⟩) len1 len1 xs1 (I1_2.at_ o1_2.rd)).mono ?_
  rintro e w3 ⟨v2, v3, rfl, ⟨lo2, hi2, lo3, hi3, o2_3, o3_3, hl2, hl3, hh2, hh3, hdis2⟩, hb3⟩
  obtain ⟨A2, c2, rfl⟩ := o2_3.form
  obtain ⟨A3, c3, rfl⟩ := o3_3.form
  have hs3 := hb3.size
  clear o0_2
  clear o1_2
  have I0_3 := I0_2.below (hb3.mono (by omega))
  clear I0_2
  have I1_3 := I1_2.below (hb3.mono (by omega))
  clear I1_2
  have hT3 := hT2.trans (hb3.mono (by omega))
  clear hT2
  go_wp2_with fail
  refine (toIntS_any a0 len0 cap0 _ xs0 w3 I0_3.1 I0_3.2.1 (by omega) (by omega)).mono ?_
  rintro e w4 ⟨g4, rfl, q4, hb4⟩
  have o4_4 := Own.of q4
  clear q4
  have hs4 := hb4.size
  have o2_4 := o2_3.below hb4 (by omega)
  clear o2_3
  have o3_4 := o3_3.below hb4 (by omega)
  clear o3_3
  have I0_4 := I0_3.below (hb4.mono (by omega))
  clear I0_3
  have I1_4 := I1_3.below (hb4.mono (by omega))
  clear I1_3
  have hT4 := hT3.trans (hb4.mono (by omega))
  clear hT3
  go_wp2_with fail
  refine (toIntS_any a1 len1 cap1 _ xs1 w4 I1_4.1 I1_4.2.1 (by omega) (by omega)).mono ?_
  rintro e w5 ⟨g5, rfl, q5, hb5⟩
  have o5_5 := Own.of q5
  clear q5
  have hs5 := hb5.size
  have o2_5 := o2_4.below hb5 (by omega)
  clear o2_4
  have o3_5 := o3_4.below hb5 (by omega)
  clear o3_4
  have o4_5 := o4_4.below hb5 (by omega)
  clear o4_4
  have I0_5 := I0_4.below (hb5.mono (by omega))
  clear I0_4
  have I1_5 := I1_4.below (hb5.mono (by omega))
  clear I1_4
  have hT5 := hT4.trans (hb5.mono (by omega))
  clear hT4
  go_wp2_with fail
  refine (impl_NatDiv w5 w5.heap.size (Nat.le_refl _) (some ⟨g4, 0, none⟩) len0 len0 xs0 (I0_5.at_ o4_5.rd) (some ⟨g5, 0, none⟩) len1 len1 xs1 (I1_5.at_ o5_5.rd)).mono ?_
  rintro e w6 ⟨v6, v7, rfl, ⟨lo6, hi6, lo7, hi7, o6_6, o7_6, hl6, hl7, hh6, hh7, hdis6⟩, hb6⟩
  obtain ⟨A6, c6, rfl⟩ := o6_6.form
  obtain ⟨A7, c7, rfl⟩ := o7_6.form
  have hs6 := hb6.size
  have o2_6 := o2_5.below hb6 (by omega)
  clear o2_5
  have o3_6 := o3_5.below hb6 (by omega)
  clear o3_5
  have o4_6 := o4_5.below hb6 (by omega)
  clear o4_5
  have o5_6 := o5_5.below hb6 (by omega)
  clear o5_5
  have I0_6 := I0_5.below (hb6.mono (by omega))
  clear I0_5
  have I1_6 := I1_5.below (hb6.mono (by omega))
  clear I1_5
  have hT6 := hT5.trans (hb6.mono (by omega))
  clear hT5
  go_wp2_with fail
  refine (eqIntS_below A6 A2 (quoL xs0 xs1).length (quoL xs0 xs1).length c6 c2 (quoL xs0 xs1) (quoL xs0 xs1) _ w6 rfl rfl o6_6.rd o2_6.rd (by unfold maxLen; omega) (by unfold maxLen; omega) true (decide_eq_true rfl)).mono ?_
  rintro e w7 ⟨rfl, hb7⟩
  have hs7 := hb7.size
  have o2_7 := o2_6.below hb7 (by omega)
  clear o2_6
  have o3_7 := o3_6.below hb7 (by omega)
  clear o3_6
  have o4_7 := o4_6.below hb7 (by omega)
  clear o4_6
  have o5_7 := o5_6.below hb7 (by omega)
  clear o5_6
  have o6_7 := o6_6.below hb7 (by omega)
  clear o6_6
  have o7_7 := o7_6.below hb7 (by omega)
  clear o7_6
  have I0_7 := I0_6.below (hb7.mono (by omega))
  clear I0_6
  have I1_7 := I1_6.below (hb7.mono (by omega))
  clear I1_6
  have hT7 := hT6.trans (hb7.mono (by omega))
  clear hT6
  go_wp2_with fail
  refine (eqIntS_below A7 A3 (remL xs0 xs1).length (remL xs0 xs1).length c7 c3 (remL xs0 xs1) (remL xs0 xs1) _ w7 rfl rfl o7_7.rd o3_7.rd (by unfold maxLen; omega) (by unfold maxLen; omega) true (decide_eq_true rfl)).mono ?_
  rintro e w8 ⟨rfl, hb8⟩
  have hs8 := hb8.size
  have o2_8 := o2_7.below hb8 (by omega)
  clear o2_7
  have o3_8 := o3_7.below hb8 (by omega)
  clear o3_7
  have o4_8 := o4_7.below hb8 (by omega)
  clear o4_7
  have o5_8 := o5_7.below hb8 (by omega)
  clear o5_7
  have o6_8 := o6_7.below hb8 (by omega)
  clear o6_7
  have o7_8 := o7_7.below hb8 (by omega)
  clear o7_7
  have I0_8 := I0_7.below (hb8.mono (by omega))
  clear I0_7
  have I1_8 := I1_7.below (hb8.mono (by omega))
  clear I1_7
  have hT8 := hT7.trans (hb8.mono (by omega))
  clear hT7
  go_wp2_with fail
  refine (toIntS_any a0 len0 cap0 _ xs0 w8 I0_8.1 I0_8.2.1 (by omega) (by omega)).mono ?_
  rintro e w9 ⟨g8, rfl, q8, hb9⟩
  have o8_9 := Own.of q8
  clear q8
  have hs9 := hb9.size
  have o2_9 := o2_8.below hb9 (by omega)
  clear o2_8
  have o3_9 := o3_8.below hb9 (by omega)
  clear o3_8
  have o4_9 := o4_8.below hb9 (by omega)
  clear o4_8
  have o5_9 := o5_8.below hb9 (by omega)
  clear o5_8
  have o6_9 := o6_8.below hb9 (by omega)
  clear o6_8
  have o7_9 := o7_8.below hb9 (by omega)
  clear o7_8
  have I0_9 := I0_8.below (hb9.mono (by omega))
  clear I0_8
  have I1_9 := I1_8.below (hb9.mono (by omega))
  clear I1_8
  have hT9 := hT8.trans (hb9.mono (by omega))
  clear hT8
  go_wp2_with fail
  refine (eqIntS_below (some ⟨g4, 0, none⟩) (some ⟨g8, 0, none⟩) len0 len0 len0 len0 xs0 xs0 _ w9 I0_9.1 I0_9.1 o4_9.rd o8_9.rd (by unfold maxLen; omega) (by unfold maxLen; omega) true (decide_eq_true rfl)).mono ?_
  rintro e w10 ⟨rfl, hb10⟩
  have hs10 := hb10.size
  have o2_10 := o2_9.below hb10 (by omega)
  clear o2_9
  have o3_10 := o3_9.below hb10 (by omega)
  clear o3_9
  have o4_10 := o4_9.below hb10 (by omega)
  clear o4_9
  have o5_10 := o5_9.below hb10 (by omega)
  clear o5_9
  have o6_10 := o6_9.below hb10 (by omega)
  clear o6_9
  have o7_10 := o7_9.below hb10 (by omega)
  clear o7_9
  have o8_10 := o8_9.below hb10 (by omega)
  clear o8_9
  have I0_10 := I0_9.below (hb10.mono (by omega))
  clear I0_9
  have I1_10 := I1_9.below (hb10.mono (by omega))
  clear I1_9
  have hT10 := hT9.trans (hb10.mono (by omega))
  clear hT9
  clear o8_10
  go_wp2_with fail
  refine (toIntS_any a1 len1 cap1 _ xs1 w10 I1_10.1 I1_10.2.1 (by omega) (by omega)).mono ?_
  rintro e w11 ⟨g9, rfl, q9, hb11⟩
  have o9_11 := Own.of q9
  clear q9
  have hs11 := hb11.size
  have o2_11 := o2_10.below hb11 (by omega)
  clear o2_10
  have o3_11 := o3_10.below hb11 (by omega)
  clear o3_10
  have o4_11 := o4_10.below hb11 (by omega)
  clear o4_10
  have o5_11 := o5_10.below hb11 (by omega)
  clear o5_10
  have o6_11 := o6_10.below hb11 (by omega)
  clear o6_10
  have o7_11 := o7_10.below hb11 (by omega)
  clear o7_10
  have I0_11 := I0_10.below (hb11.mono (by omega))
  clear I0_10
  have I1_11 := I1_10.below (hb11.mono (by omega))
  clear I1_10
  have hT11 := hT10.trans (hb11.mono (by omega))
  clear hT10
  go_wp2_with fail
  refine (eqIntS_below (some ⟨g5, 0, none⟩) (some ⟨g9, 0, none⟩) len1 len1 len1 len1 xs1 xs1 _ w11 I1_11.1 I1_11.1 o5_11.rd o9_11.rd (by unfold maxLen; omega) (by unfold maxLen; omega) true (decide_eq_true rfl)).mono ?_
  rintro e w12 ⟨rfl, hb12⟩
  have hs12 := hb12.size
  have o2_12 := o2_11.below hb12 (by omega)
  clear o2_11
  have o3_12 := o3_11.below hb12 (by omega)
  clear o3_11
  have o4_12 := o4_11.below hb12 (by omega)
  clear o4_11
  have o5_12 := o5_11.below hb12 (by omega)
  clear o5_11
  have o6_12 := o6_11.below hb12 (by omega)
  clear o6_11
  have o7_12 := o7_11.below hb12 (by omega)
  clear o7_11
  have o9_12 := o9_11.below hb12 (by omega)
  clear o9_11
  have I0_12 := I0_11.below (hb12.mono (by omega))
  clear I0_11
  have I1_12 := I1_11.below (hb12.mono (by omega))
  clear I1_11
  have hT12 := hT11.trans (hb12.mono (by omega))
  clear hT11
  clear o9_12
  go_wp2_with fail
  refine (markIntS_own (.slice (some ⟨g4, 0, none⟩) len0 len0) len0 1 _ _ _ _ w12 o4_12 (by omega) (by omega)).mono ?_
  rintro e w13 ⟨he, p4, ha13⟩
  obtain ⟨K1, hK1⟩ : ∃ K : Nat, K = 1 + len0 := ⟨_, rfl⟩
  have bK1 : K1 ≤ 2000010 := by omega
  rw [← hK1] at he
  subst he
  have HK1 := hide hK1
  clear hK1
  have hs13 := ha13.size
  have o2_13 := o2_12.aside ha13 (by omega)
  clear o2_12
  have o3_13 := o3_12.aside ha13 (by omega)
  clear o3_12
  have o5_13 := o5_12.aside ha13 (by omega)
  clear o5_12
  have o6_13 := o6_12.aside ha13 (by omega)
  clear o6_12
  have o7_13 := o7_12.aside ha13 (by omega)
  clear o7_12
  have I0_13 := I0_12.below (ha13.below (by omega) (by omega))
  clear I0_12
  have I1_13 := I1_12.below (ha13.below (by omega) (by omega))
  clear I1_12
  have hT13 := hT12.trans (ha13.below (by omega) (by omega))
  clear hT12
  have o4_13 := p4
  clear p4 o4_12
  go_wp2_with fail
  refine (markIntS_own (.slice (some ⟨g5, 0, none⟩) len1 len1) len1 K1 _ _ _ _ w13 o5_13 (by omega) (by omega)).mono ?_
  rintro e w14 ⟨he, p5, ha14⟩
  obtain ⟨K2, hK2⟩ : ∃ K : Nat, K = K1 + len1 := ⟨_, rfl⟩
  have bK2 : K2 ≤ 4000010 := by omega
  rw [← hK2] at he
  subst he
  have HK2 := hide hK2
  clear hK2
  have hs14 := ha14.size
  have o2_14 := o2_13.aside ha14 (by omega)
  clear o2_13
  have o3_14 := o3_13.aside ha14 (by omega)
  clear o3_13
  have o4_14 := o4_13.aside ha14 (by omega)
  clear o4_13
  have o6_14 := o6_13.aside ha14 (by omega)
  clear o6_13
  have o7_14 := o7_13.aside ha14 (by omega)
  clear o7_13
  have I0_14 := I0_13.below (ha14.below (by omega) (by omega))
  clear I0_13
  have I1_14 := I1_13.below (ha14.below (by omega) (by omega))
  clear I1_13
  have hT14 := hT13.trans (ha14.below (by omega) (by omega))
  clear hT13
  have o5_14 := p5
  clear p5 o5_13
  go_wp2_with fail
  refine (eqIntS_below A6 A2 (quoL xs0 xs1).length (quoL xs0 xs1).length c6 c2 (quoL xs0 xs1) (quoL xs0 xs1) _ w14 rfl rfl o6_14.rd o2_14.rd (by unfold maxLen; omega) (by unfold maxLen; omega) true (decide_eq_true rfl)).mono ?_
  rintro e w15 ⟨rfl, hb15⟩
  have hs15 := hb15.size
  have o2_15 := o2_14.below hb15 (by omega)
  clear o2_14
  have o3_15 := o3_14.below hb15 (by omega)
  clear o3_14
  have o4_15 := o4_14.below hb15 (by omega)
  clear o4_14
  have o5_15 := o5_14.below hb15 (by omega)
  clear o5_14
  have o6_15 := o6_14.below hb15 (by omega)
  clear o6_14
  have o7_15 := o7_14.below hb15 (by omega)
  clear o7_14
  have I0_15 := I0_14.below (hb15.mono (by omega))
  clear I0_14
  have I1_15 := I1_14.below (hb15.mono (by omega))
  clear I1_14
  have hT15 := hT14.trans (hb15.mono (by omega))
  clear hT14
  go_wp2_with fail
  refine (eqIntS_below A7 A3 (remL xs0 xs1).length (remL xs0 xs1).length c7 c3 (remL xs0 xs1) (remL xs0 xs1) _ w15 rfl rfl o7_15.rd o3_15.rd (by unfold maxLen; omega) (by unfold maxLen; omega) true (decide_eq_true rfl)).mono ?_
  rintro e w16 ⟨rfl, hb16⟩
  have hs16 := hb16.size
  have o2_16 := o2_15.below hb16 (by omega)
  clear o2_15
  have o3_16 := o3_15.below hb16 (by omega)
  clear o3_15
  have o4_16 := o4_15.below hb16 (by omega)
  clear o4_15
  have o5_16 := o5_15.below hb16 (by omega)
  clear o5_15
  have o6_16 := o6_15.below hb16 (by omega)
  clear o6_15
  have o7_16 := o7_15.below hb16 (by omega)
  clear o7_15
  have I0_16 := I0_15.below (hb16.mono (by omega))
  clear I0_15
  have I1_16 := I1_15.below (hb16.mono (by omega))
  clear I1_15
  have hT16 := hT15.trans (hb16.mono (by omega))
  clear hT15
  clear o4_16
  clear o5_16
  go_wp2_with fail
  refine (markIntS_own (.slice A6 (quoL xs0 xs1).length c6) (quoL xs0 xs1).length 1 _ _ _ _ w16 o6_16 (by omega) (by omega)).mono ?_
  rintro e w17 ⟨he, p6, ha17⟩
  obtain ⟨K3, hK3⟩ : ∃ K : Nat, K = 1 + (quoL xs0 xs1).length := ⟨_, rfl⟩
  have bK3 : K3 ≤ 6000010 := by omega
  rw [← hK3] at he
  subst he
  have HK3 := hide hK3
  clear hK3
  have hs17 := ha17.size
  have o2_17 := o2_16.aside ha17 (by omega)
  clear o2_16
  have o3_17 := o3_16.aside ha17 (by omega)
  clear o3_16
  have o7_17 := o7_16.aside ha17 (by omega)
  clear o7_16
  have I0_17 := I0_16.below (ha17.below (by omega) (by omega))
  clear I0_16
  have I1_17 := I1_16.below (ha17.below (by omega) (by omega))
  clear I1_16
  have hT17 := hT16.trans (ha17.below (by omega) (by omega))
  clear hT16
  have o6_17 := p6
  clear p6 o6_16
  go_wp2_with fail
  refine (markIntS_own (.slice A7 (remL xs0 xs1).length c7) (remL xs0 xs1).length K3 _ _ _ _ w17 o7_17 (by omega) (by omega)).mono ?_
  rintro e w18 ⟨he, p7, ha18⟩
  obtain ⟨K4, hK4⟩ : ∃ K : Nat, K = K3 + (remL xs0 xs1).length := ⟨_, rfl⟩
  have bK4 : K4 ≤ 8000010 := by omega
  rw [← hK4] at he
  subst he
  have HK4 := hide hK4
  clear hK4
  have hs18 := ha18.size
  have o2_18 := o2_17.aside ha18 (by omega)
  clear o2_17
  have o3_18 := o3_17.aside ha18 (by omega)
  clear o3_17
  have o6_18 := o6_17.aside ha18 (by omega)
  clear o6_17
  have I0_18 := I0_17.below (ha18.below (by omega) (by omega))
  clear I0_17
  have I1_18 := I1_17.below (ha18.below (by omega) (by omega))
  clear I1_17
  have hT18 := hT17.trans (ha18.below (by omega) (by omega))
  clear hT17
  have o7_18 := p7
  clear p7 o7_17
  go_wp2_with fail
  refine (heldIntS_any A6 (quoL xs0 xs1).length c6 1 _ w18 o6_18.rd (by omega) (by omega)).mono ?_
  rintro e w' ⟨he, rfl⟩
  rw [← HK3.out] at he
  subst he
  go_wp2_with fail
  refine (heldIntS_any A7 (remL xs0 xs1).length c7 K3 _ w18 o7_18.rd (by omega) (by omega)).mono ?_
  rintro e w' ⟨he, rfl⟩
  rw [← HK4.out] at he
  subst he
  go_wp2_with fail
  refine (toIntS_any a0 len0 cap0 _ xs0 w18 I0_18.1 I0_18.2.1 (by omega) (by omega)).mono ?_
  rintro e w19 ⟨g10, rfl, q10, hb19⟩
  have o10_19 := Own.of q10
  clear q10
  have hs19 := hb19.size
  have o2_19 := o2_18.below hb19 (by omega)
  clear o2_18
  have o3_19 := o3_18.below hb19 (by omega)
  clear o3_18
  have o6_19 := o6_18.below hb19 (by omega)
  clear o6_18
  have o7_19 := o7_18.below hb19 (by omega)
  clear o7_18
  have I0_19 := I0_18.below (hb19.mono (by omega))
  clear I0_18
  have I1_19 := I1_18.below (hb19.mono (by omega))
  clear I1_18
  have hT19 := hT18.trans (hb19.mono (by omega))
  clear hT18
  go_wp2_with fail
  refine (toIntS_any a1 len1 cap1 _ xs1 w19 I1_19.1 I1_19.2.1 (by omega) (by omega)).mono ?_
  rintro e w20 ⟨g11, rfl, q11, hb20⟩
  have o11_20 := Own.of q11
  clear q11
  have hs20 := hb20.size
  have o2_20 := o2_19.below hb20 (by omega)
  clear o2_19
  have o3_20 := o3_19.below hb20 (by omega)
  clear o3_19
  have o6_20 := o6_19.below hb20 (by omega)
  clear o6_19
  have o7_20 := o7_19.below hb20 (by omega)
  clear o7_19
  have o10_20 := o10_19.below hb20 (by omega)
  clear o10_19
  have I0_20 := I0_19.below (hb20.mono (by omega))
  clear I0_19
  have I1_20 := I1_19.below (hb20.mono (by omega))
  clear I1_19
  have hT20 := hT19.trans (hb20.mono (by omega))
  clear hT19
  go_wp2_with fail
  refine (impl_NatDiv w20 w20.heap.size (Nat.le_refl _) (some ⟨g10, 0, none⟩) len0 len0 xs0 (I0_20.at_ o10_20.rd) (some ⟨g11, 0, none⟩) len1 len1 xs1 (I1_20.at_ o11_20.rd)).mono ?_
  rintro e w21 ⟨v12, v13, rfl, ⟨lo12, hi12, lo13, hi13, o12_21, o13_21, hl12, hl13, hh12, hh13, hdis12⟩, hb21⟩
  obtain ⟨A12, c12, rfl⟩ := o12_21.form
  obtain ⟨A13, c13, rfl⟩ := o13_21.form
  have hs21 := hb21.size
  have o2_21 := o2_20.below hb21 (by omega)
  clear o2_20
  have o3_21 := o3_20.below hb21 (by omega)
  clear o3_20
  have o6_21 := o6_20.below hb21 (by omega)
  clear o6_20
  have o7_21 := o7_20.below hb21 (by omega)
  clear o7_20
  clear o10_20
  clear o11_20
  have I0_21 := I0_20.below (hb21.mono (by omega))
  clear I0_20
  have I1_21 := I1_20.below (hb21.mono (by omega))
  clear I1_20
  have hT21 := hT20.trans (hb21.mono (by omega))
  clear hT20
  go_wp2_with fail
  refine (eqIntS_below A12 A2 (quoL xs0 xs1).length (quoL xs0 xs1).length c12 c2 (quoL xs0 xs1) (quoL xs0 xs1) _ w21 rfl rfl o12_21.rd o2_21.rd (by unfold maxLen; omega) (by unfold maxLen; omega) true (decide_eq_true rfl)).mono ?_
  rintro e w22 ⟨rfl, hb22⟩
  have hs22 := hb22.size
  have o2_22 := o2_21.below hb22 (by omega)
  clear o2_21
  have o3_22 := o3_21.below hb22 (by omega)
  clear o3_21
  have o6_22 := o6_21.below hb22 (by omega)
  clear o6_21
  have o7_22 := o7_21.below hb22 (by omega)
  clear o7_21
  have o12_22 := o12_21.below hb22 (by omega)
  clear o12_21
  have o13_22 := o13_21.below hb22 (by omega)
  clear o13_21
  have I0_22 := I0_21.below (hb22.mono (by omega))
  clear I0_21
  have I1_22 := I1_21.below (hb22.mono (by omega))
  clear I1_21
  have hT22 := hT21.trans (hb22.mono (by omega))
  clear hT21
  go_wp2_with fail
  refine (eqIntS_below A13 A3 (remL xs0 xs1).length (remL xs0 xs1).length c13 c3 (remL xs0 xs1) (remL xs0 xs1) _ w22 rfl rfl o13_22.rd o3_22.rd (by unfold maxLen; omega) (by unfold maxLen; omega) true (decide_eq_true rfl)).mono ?_
  rintro e w23 ⟨rfl, hb23⟩
  have hs23 := hb23.size
  have o2_23 := o2_22.below hb23 (by omega)
  clear o2_22
  have o3_23 := o3_22.below hb23 (by omega)
  clear o3_22
  have o6_23 := o6_22.below hb23 (by omega)
  clear o6_22
  have o7_23 := o7_22.below hb23 (by omega)
  clear o7_22
  have o12_23 := o12_22.below hb23 (by omega)
  clear o12_22
  have o13_23 := o13_22.below hb23 (by omega)
  clear o13_22
  have I0_23 := I0_22.below (hb23.mono (by omega))
  clear I0_22
  have I1_23 := I1_22.below (hb23.mono (by omega))
  clear I1_22
  have hT23 := hT22.trans (hb23.mono (by omega))
  clear hT22
  go_wp2_with fail
  refine (heldIntS_any A6 (quoL xs0 xs1).length c6 1 _ w23 o6_23.rd (by omega) (by omega)).mono ?_
  rintro e w' ⟨he, rfl⟩
  rw [← HK3.out] at he
  subst he
  go_wp2_with fail
  refine (heldIntS_any A7 (remL xs0 xs1).length c7 K3 _ w23 o7_23.rd (by omega) (by omega)).mono ?_
  rintro e w' ⟨he, rfl⟩
  rw [← HK4.out] at he
  subst he
  clear o2_23
  clear o3_23
  clear o6_23
  clear o7_23
  clear o12_23
  clear o13_23
  go_wp2
  go_ret
  exact ⟨rfl, hT23⟩
end Go.Proofs.Ytalcknddegfkaaa
