/-
  The exact laws' walks: SumPolygons.
-/
import Derived.Test.YtdagomikjblgiaaVecL2
import Derived.Test.YtdagomikjblgiaaSumI
import Derived.Test.YtdagomikjblgiaaSumR
namespace Go.Proofs.Ytdagomikjblgiaa
open Go.RowKit
set_option linter.unusedVariables false

set_option maxHeartbeats 4000000 in
set_option maxRecDepth 100000 in
theorem FnExactSumPolygons_walk (w : World) (a0 : Option Addr) (len0 cap0 : Nat) (xs0 : List V2) (f0 : IsVecs w a0 len0 cap0 xs0) (a1 : Option Addr) (len1 cap1 : Nat) (xs1 : List V2) (f1 : IsVecs w a1 len1 cap1 xs1) :
    Calls Try.prog 3 #[.slice a0 len0 cap0, .slice a1 len1 cap1] w fun e w' => e = .returned (.bool true) ∧ Below w.heap.size w w' := by
  have hm0 := f0.rd.2.2.1
  unfold maxLen at hm0
  have hm1 := f1.rd.2.2.1
  unfold maxLen at hm1
  by_cases c0 : 1048576 < len0
  · go_enter Try.func3, Try.ntmps3
    go_wp2_with fail
    refine (szVecS_no w a0 len0 cap0 (1048576) (by omega) (by unfold maxLen; omega) (by omega)).mono ?_
    rintro e w' ⟨rfl, rfl⟩
    go_wp2_with fail
    go_ret
    exact ⟨rfl, Below.refl _ _⟩
  have hn0 : len0 ≤ 1048576 := by omega
  have hN0 : len0 ≤ 1048576 := by omega
  clear c0
  by_cases c1 : 1048576 - len0 < len1
  · go_enter Try.func3, Try.ntmps3
    go_wp2_with fail
    refine (szVecS_ok w a0 len0 cap0 (1048576) (by omega) (by omega)).mono ?_
    rintro e w' ⟨rfl, rfl⟩
    go_wp2_with fail
    refine (szVecS_no w a1 len1 cap1 (1048576 - len0) (by omega) (by unfold maxLen; omega) (by omega)).mono ?_
    rintro e w' ⟨rfl, rfl⟩
    go_wp2_with fail
    go_ret
    exact ⟨rfl, Below.refl _ _⟩
  have hn1 : len1 ≤ 1048576 := by omega
  have hN1 : len1 ≤ 1048576 - len0 := by omega
  clear c1
  have I0_0 := f0.rdV hn0
  have F0 := hide f0.rd.2.2.2
  clear f0
  have I1_0 := f1.rdV hn1
  have F1 := hide f1.rd.2.2.2
  clear f1
  have hT0 : Below w.heap.size w w := Below.refl _ _
  go_enter Try.func3, Try.ntmps3
  go_wp2_with fail
  refine (szVecS_ok w a0 len0 cap0 (1048576) (by omega) (by omega)).mono ?_
  rintro e w' ⟨rfl, rfl⟩
  go_wp2_with fail
  refine (szVecS_ok w a1 len1 cap1 (1048576 - len0) (by omega) (by omega)).mono ?_
  rintro e w' ⟨rfl, rfl⟩
  have hL0 : (sumL xs0 xs1).length ≤ 1048576 := sumL_len _ _
  have HF0 : Hid (wfV (sumL xs0 xs1)) := sumL_wf _ _
  go_wp2_with fail
  refine (toVecS_any a0 len0 cap0 _ xs0 w I0_0.1 I0_0.2.1 (by omega) (by omega) F0.out).mono ?_
  rintro e w1 ⟨g0, rfl, q0, hb1⟩
  have o0_1 := OwnV.of q0
  clear q0
  have hs1 := hb1.size
  have I0_1 := I0_0.below (hb1.mono (by omega))
  clear I0_0
  have I1_1 := I1_0.below (hb1.mono (by omega))
  clear I1_0
  have hT1 := hT0.trans (hb1.mono (by omega))
  clear hT0
  go_wp2_with fail
  refine (toVecS_any a1 len1 cap1 _ xs1 w1 I1_1.1 I1_1.2.1 (by omega) (by omega) F1.out).mono ?_
  rintro e w2 ⟨g1, rfl, q1, hb2⟩
  have o1_2 := OwnV.of q1
  clear q1
  have hs2 := hb2.size
  have o0_2 := o0_1.below hb2 (by omega)
  clear o0_1
  have I0_2 := I0_1.below (hb2.mono (by omega))
  clear I0_1
  have I1_2 := I1_1.below (hb2.mono (by omega))
  clear I1_1
  have hT2 := hT1.trans (hb2.mono (by omega))
  clear hT1
  go_wp2_with fail
  refine (spec_SumPolygons w2 w2.heap.size (Nat.le_refl _) (some ⟨g0, 0, none⟩) len0 len0 xs0 (I0_2.at_ o0_2.rd) (some ⟨g1, 0, none⟩) len1 len1 xs1 (I1_2.at_ o1_2.rd)).mono ?_
  rintro e w3 ⟨v2, rfl, o2_3, hb3⟩
  obtain ⟨A2, c2, rfl⟩ := o2_3.form
  have hs3 := hb3.size
  clear o0_2
  clear o1_2
  have I0_3 := I0_2.below (hb3.mono (by omega))
  clear I0_2
  have I1_3 := I1_2.below (hb3.mono (by omega))
  clear I1_2
  have hT3 := hT2.trans (hb3.mono (by omega))
  clear hT2
  go_wp2_with fail
  refine (toVecS_any a0 len0 cap0 _ xs0 w3 I0_3.1 I0_3.2.1 (by omega) (by omega) F0.out).mono ?_
  rintro e w4 ⟨g3, rfl, q3, hb4⟩
  have o3_4 := OwnV.of q3
  clear q3
  have hs4 := hb4.size
  have o2_4 := o2_3.below hb4 (by omega)
  clear o2_3
  have I0_4 := I0_3.below (hb4.mono (by omega))
  clear I0_3
  have I1_4 := I1_3.below (hb4.mono (by omega))
  clear I1_3
  have hT4 := hT3.trans (hb4.mono (by omega))
  clear hT3
  go_wp2_with fail
  refine (toVecS_any a1 len1 cap1 _ xs1 w4 I1_4.1 I1_4.2.1 (by omega) (by omega) F1.out).mono ?_
  rintro e w5 ⟨g4, rfl, q4, hb5⟩
  have o4_5 := OwnV.of q4
  clear q4
  have hs5 := hb5.size
  have o2_5 := o2_4.below hb5 (by omega)
  clear o2_4
  have o3_5 := o3_4.below hb5 (by omega)
  clear o3_4
  have I0_5 := I0_4.below (hb5.mono (by omega))
  clear I0_4
  have I1_5 := I1_4.below (hb5.mono (by omega))
  clear I1_4
  have hT5 := hT4.trans (hb5.mono (by omega))
  clear hT4
  go_wp2_with fail
  refine (impl_SumPolygons w5 w5.heap.size (Nat.le_refl _) (some ⟨g3, 0, none⟩) len0 len0 xs0 (I0_5.at_ o3_5.rd) (some ⟨g4, 0, none⟩) len1 len1 xs1 (I1_5.at_ o4_5.rd)).mono ?_
  rintro e w6 ⟨v5, rfl, o5_6, hb6⟩
  obtain ⟨A5, c5, rfl⟩ := o5_6.form
  have hs6 := hb6.size
  have o2_6 := o2_5.below hb6 (by omega)
  clear o2_5
  have o3_6 := o3_5.below hb6 (by omega)
  clear o3_5
  have o4_6 := o4_5.below hb6 (by omega)
  clear o4_5
  have I0_6 := I0_5.below (hb6.mono (by omega))
  clear I0_5
  have I1_6 := I1_5.below (hb6.mono (by omega))
  clear I1_5
  have hT6 := hT5.trans (hb6.mono (by omega))
  clear hT5
  go_wp2_with fail
  refine (eqVecS_any A5 A2 (sumL xs0 xs1).length c5 c2 _ (sumL xs0 xs1) w6 rfl o5_6.rd o2_6.rd (Nat.le_refl _) (by omega) HF0.out).mono ?_
  rintro e w7 ⟨rfl, hb7⟩
  have hs7 := hb7.size
  have o2_7 := o2_6.below hb7 (by omega)
  clear o2_6
  have o3_7 := o3_6.below hb7 (by omega)
  clear o3_6
  have o4_7 := o4_6.below hb7 (by omega)
  clear o4_6
  have o5_7 := o5_6.below hb7 (by omega)
  clear o5_6
  have I0_7 := I0_6.below (hb7.mono (by omega))
  clear I0_6
  have I1_7 := I1_6.below (hb7.mono (by omega))
  clear I1_6
  have hT7 := hT6.trans (hb7.mono (by omega))
  clear hT6
  go_wp2_with fail
  refine (toVecS_any a0 len0 cap0 _ xs0 w7 I0_7.1 I0_7.2.1 (by omega) (by omega) F0.out).mono ?_
  rintro e w8 ⟨g6, rfl, q6, hb8⟩
  have o6_8 := OwnV.of q6
  clear q6
  have hs8 := hb8.size
  have o2_8 := o2_7.below hb8 (by omega)
  clear o2_7
  have o3_8 := o3_7.below hb8 (by omega)
  clear o3_7
  have o4_8 := o4_7.below hb8 (by omega)
  clear o4_7
  have o5_8 := o5_7.below hb8 (by omega)
  clear o5_7
  have I0_8 := I0_7.below (hb8.mono (by omega))
  clear I0_7
  have I1_8 := I1_7.below (hb8.mono (by omega))
  clear I1_7
  have hT8 := hT7.trans (hb8.mono (by omega))
  clear hT7
  go_wp2_with fail
  refine (eqVecS_any (some ⟨g3, 0, none⟩) (some ⟨g6, 0, none⟩) len0 len0 len0 _ xs0 w8 I0_8.1 o3_8.rd o6_8.rd (Nat.le_refl _) (by omega) F0.out).mono ?_
  rintro e w9 ⟨rfl, hb9⟩
  have hs9 := hb9.size
  have o2_9 := o2_8.below hb9 (by omega)
  clear o2_8
  have o3_9 := o3_8.below hb9 (by omega)
  clear o3_8
  have o4_9 := o4_8.below hb9 (by omega)
  clear o4_8
  have o5_9 := o5_8.below hb9 (by omega)
  clear o5_8
  have o6_9 := o6_8.below hb9 (by omega)
  clear o6_8
  have I0_9 := I0_8.below (hb9.mono (by omega))
  clear I0_8
  have I1_9 := I1_8.below (hb9.mono (by omega))
  clear I1_8
  have hT9 := hT8.trans (hb9.mono (by omega))
  clear hT8
  clear o6_9
  go_wp2_with fail
  refine (toVecS_any a1 len1 cap1 _ xs1 w9 I1_9.1 I1_9.2.1 (by omega) (by omega) F1.out).mono ?_
  rintro e w10 ⟨g7, rfl, q7, hb10⟩
  have o7_10 := OwnV.of q7
  clear q7
  have hs10 := hb10.size
  have o2_10 := o2_9.below hb10 (by omega)
  clear o2_9
  have o3_10 := o3_9.below hb10 (by omega)
  clear o3_9
  have o4_10 := o4_9.below hb10 (by omega)
  clear o4_9
  have o5_10 := o5_9.below hb10 (by omega)
  clear o5_9
  have I0_10 := I0_9.below (hb10.mono (by omega))
  clear I0_9
  have I1_10 := I1_9.below (hb10.mono (by omega))
  clear I1_9
  have hT10 := hT9.trans (hb10.mono (by omega))
  clear hT9
  go_wp2_with fail
  refine (eqVecS_any (some ⟨g4, 0, none⟩) (some ⟨g7, 0, none⟩) len1 len1 len1 _ xs1 w10 I1_10.1 o4_10.rd o7_10.rd (Nat.le_refl _) (by omega) F1.out).mono ?_
  rintro e w11 ⟨rfl, hb11⟩
  have hs11 := hb11.size
  have o2_11 := o2_10.below hb11 (by omega)
  clear o2_10
  have o3_11 := o3_10.below hb11 (by omega)
  clear o3_10
  have o4_11 := o4_10.below hb11 (by omega)
  clear o4_10
  have o5_11 := o5_10.below hb11 (by omega)
  clear o5_10
  have o7_11 := o7_10.below hb11 (by omega)
  clear o7_10
  have I0_11 := I0_10.below (hb11.mono (by omega))
  clear I0_10
  have I1_11 := I1_10.below (hb11.mono (by omega))
  clear I1_10
  have hT11 := hT10.trans (hb11.mono (by omega))
  clear hT10
  clear o7_11
  go_wp2_with fail
  refine (markVecS_own (.slice (some ⟨g3, 0, none⟩) len0 len0) len0 1 _ _ _ _ w11 o3_11 (by omega) (by omega)).mono ?_
  rintro e w12 ⟨he, p3, ha12⟩
  obtain ⟨K1, hK1⟩ : ∃ K : Nat, K = 1 + len0 * 2 := ⟨_, rfl⟩
  have bK1 : K1 ≤ 3000010 := by omega
  rw [← hK1] at he
  subst he
  have HK1 := hide hK1
  clear hK1
  have hs12 := ha12.size
  have o2_12 := o2_11.aside ha12 (by omega)
  clear o2_11
  have o4_12 := o4_11.aside ha12 (by omega)
  clear o4_11
  have o5_12 := o5_11.aside ha12 (by omega)
  clear o5_11
  have I0_12 := I0_11.below (ha12.below (by omega) (by omega))
  clear I0_11
  have I1_12 := I1_11.below (ha12.below (by omega) (by omega))
  clear I1_11
  have hT12 := hT11.trans (ha12.below (by omega) (by omega))
  clear hT11
  have o3_12 := p3
  clear p3 o3_11
  go_wp2_with fail
  refine (markVecS_own (.slice (some ⟨g4, 0, none⟩) len1 len1) len1 K1 _ _ _ _ w12 o4_12 (by omega) (by omega)).mono ?_
  rintro e w13 ⟨he, p4, ha13⟩
  obtain ⟨K2, hK2⟩ : ∃ K : Nat, K = K1 + len1 * 2 := ⟨_, rfl⟩
  have bK2 : K2 ≤ 6000010 := by omega
  rw [← hK2] at he
  subst he
  have HK2 := hide hK2
  clear hK2
  have hs13 := ha13.size
  have o2_13 := o2_12.aside ha13 (by omega)
  clear o2_12
  have o3_13 := o3_12.aside ha13 (by omega)
  clear o3_12
  have o5_13 := o5_12.aside ha13 (by omega)
  clear o5_12
  have I0_13 := I0_12.below (ha13.below (by omega) (by omega))
  clear I0_12
  have I1_13 := I1_12.below (ha13.below (by omega) (by omega))
  clear I1_12
  have hT13 := hT12.trans (ha13.below (by omega) (by omega))
  clear hT12
  have o4_13 := p4
  clear p4 o4_12
  go_wp2_with fail
  refine (eqVecS_any A5 A2 (sumL xs0 xs1).length c5 c2 _ (sumL xs0 xs1) w13 rfl o5_13.rd o2_13.rd (Nat.le_refl _) (by omega) HF0.out).mono ?_
  rintro e w14 ⟨rfl, hb14⟩
  have hs14 := hb14.size
  have o2_14 := o2_13.below hb14 (by omega)
  clear o2_13
  have o3_14 := o3_13.below hb14 (by omega)
  clear o3_13
  have o4_14 := o4_13.below hb14 (by omega)
  clear o4_13
  have o5_14 := o5_13.below hb14 (by omega)
  clear o5_13
  have I0_14 := I0_13.below (hb14.mono (by omega))
  clear I0_13
  have I1_14 := I1_13.below (hb14.mono (by omega))
  clear I1_13
  have hT14 := hT13.trans (hb14.mono (by omega))
  clear hT13
  clear o3_14
  clear o4_14
  go_wp2_with fail
  refine (markVecS_own (.slice A5 (sumL xs0 xs1).length c5) (sumL xs0 xs1).length 1 _ _ _ _ w14 o5_14 (by omega) (by omega)).mono ?_
  rintro e w15 ⟨he, p5, ha15⟩
  obtain ⟨K3, hK3⟩ : ∃ K : Nat, K = 1 + (sumL xs0 xs1).length * 2 := ⟨_, rfl⟩
  have bK3 : K3 ≤ 9000010 := by omega
  rw [← hK3] at he
  subst he
  have HK3 := hide hK3
  clear hK3
  have hs15 := ha15.size
  have o2_15 := o2_14.aside ha15 (by omega)
  clear o2_14
  have I0_15 := I0_14.below (ha15.below (by omega) (by omega))
  clear I0_14
  have I1_15 := I1_14.below (ha15.below (by omega) (by omega))
  clear I1_14
  have hT15 := hT14.trans (ha15.below (by omega) (by omega))
  clear hT14
  have o5_15 := p5
  clear p5 o5_14
  go_wp2_with fail
  refine (heldVecS_any A5 (sumL xs0 xs1).length c5 1 _ w15 o5_15.rd (by omega) (by omega)).mono ?_
  rintro e w' ⟨he, rfl⟩
  rw [← HK3.out] at he
  subst he
  go_wp2_with fail
  refine (toVecS_any a0 len0 cap0 _ xs0 w15 I0_15.1 I0_15.2.1 (by omega) (by omega) F0.out).mono ?_
  rintro e w16 ⟨g8, rfl, q8, hb16⟩
  have o8_16 := OwnV.of q8
  clear q8
  have hs16 := hb16.size
  have o2_16 := o2_15.below hb16 (by omega)
  clear o2_15
  have o5_16 := o5_15.below hb16 (by omega)
  clear o5_15
  have I0_16 := I0_15.below (hb16.mono (by omega))
  clear I0_15
  have I1_16 := I1_15.below (hb16.mono (by omega))
  clear I1_15
  have hT16 := hT15.trans (hb16.mono (by omega))
  clear hT15
  go_wp2_with fail
  refine (toVecS_any a1 len1 cap1 _ xs1 w16 I1_16.1 I1_16.2.1 (by omega) (by omega) F1.out).mono ?_
  rintro e w17 ⟨g9, rfl, q9, hb17⟩
  have o9_17 := OwnV.of q9
  clear q9
  have hs17 := hb17.size
  have o2_17 := o2_16.below hb17 (by omega)
  clear o2_16
  have o5_17 := o5_16.below hb17 (by omega)
  clear o5_16
  have o8_17 := o8_16.below hb17 (by omega)
  clear o8_16
  have I0_17 := I0_16.below (hb17.mono (by omega))
  clear I0_16
  have I1_17 := I1_16.below (hb17.mono (by omega))
  clear I1_16
  have hT17 := hT16.trans (hb17.mono (by omega))
  clear hT16
  go_wp2_with fail
  refine (impl_SumPolygons w17 w17.heap.size (Nat.le_refl _) (some ⟨g8, 0, none⟩) len0 len0 xs0 (I0_17.at_ o8_17.rd) (some ⟨g9, 0, none⟩) len1 len1 xs1 (I1_17.at_ o9_17.rd)).mono ?_
  rintro e w18 ⟨v10, rfl, o10_18, hb18⟩
  obtain ⟨A10, c10, rfl⟩ := o10_18.form
  have hs18 := hb18.size
  have o2_18 := o2_17.below hb18 (by omega)
  clear o2_17
  have o5_18 := o5_17.below hb18 (by omega)
  clear o5_17
  clear o8_17
  clear o9_17
  have I0_18 := I0_17.below (hb18.mono (by omega))
  clear I0_17
  have I1_18 := I1_17.below (hb18.mono (by omega))
  clear I1_17
  have hT18 := hT17.trans (hb18.mono (by omega))
  clear hT17
  go_wp2_with fail
  refine (eqVecS_any A10 A2 (sumL xs0 xs1).length c10 c2 _ (sumL xs0 xs1) w18 rfl o10_18.rd o2_18.rd (Nat.le_refl _) (by omega) HF0.out).mono ?_
  rintro e w19 ⟨rfl, hb19⟩
  have hs19 := hb19.size
  have o2_19 := o2_18.below hb19 (by omega)
  clear o2_18
  have o5_19 := o5_18.below hb19 (by omega)
  clear o5_18
  have o10_19 := o10_18.below hb19 (by omega)
  clear o10_18
  have I0_19 := I0_18.below (hb19.mono (by omega))
  clear I0_18
  have I1_19 := I1_18.below (hb19.mono (by omega))
  clear I1_18
  have hT19 := hT18.trans (hb19.mono (by omega))
  clear hT18
  go_wp2_with fail
  refine (heldVecS_any A5 (sumL xs0 xs1).length c5 1 _ w19 o5_19.rd (by omega) (by omega)).mono ?_
  rintro e w' ⟨he, rfl⟩
  rw [← HK3.out] at he
  subst he
  clear o2_19
  clear o5_19
  clear o10_19
  go_wp2
  go_ret
  exact ⟨rfl, hT19⟩
end Go.Proofs.Ytdagomikjblgiaa
