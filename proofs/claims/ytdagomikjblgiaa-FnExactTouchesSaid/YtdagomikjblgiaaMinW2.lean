/-
  The exact laws' walks: Touches.
-/
import Derived.Test.YtdagomikjblgiaaVecL2
import Derived.Test.YtdagomikjblgiaaMinI2
import Derived.Test.YtdagomikjblgiaaMinR
namespace Go.Proofs.Ytdagomikjblgiaa
open Go.RowKit
set_option linter.unusedVariables false

set_option maxHeartbeats 4000000 in
set_option maxRecDepth 100000 in
theorem FnExactTouches_walk (w : World) (a0 : Option Addr) (len0 cap0 : Nat) (xs0 : List V2) (f0 : IsVecs w a0 len0 cap0 xs0) (a1 : Option Addr) (len1 cap1 : Nat) (xs1 : List V2) (f1 : IsVecs w a1 len1 cap1 xs1) :
    Calls Try.prog 6 #[.slice a0 len0 cap0, .slice a1 len1 cap1] w fun e w' => e = .returned (.bool true) ∧ Below w.heap.size w w' := by
  have hm0 := f0.rd.2.2.1
  unfold maxLen at hm0
  have hm1 := f1.rd.2.2.1
  unfold maxLen at hm1
  by_cases c0 : 1048576 < len0
  · go_enter Try.func6, Try.ntmps6
    go_wp2_with fail
    refine (szVecS_no w a0 len0 cap0 (1048576) (by omega) (by unfold maxLen; omega) (by omega)).mono ?_
    rintro e w' ⟨rfl, rfl⟩
    go_wp2_with fail
    go_ret
    exact ⟨rfl, Below.refl _ _⟩
  have hn0 : len0 ≤ 1048576 := by omega
  have hN0 : len0 ≤ 1048576 := by omega
  clear c0
  by_cases c1 : 1048576 - len0 < len1
  · go_enter Try.func6, Try.ntmps6
    go_wp2_with fail
    refine (szVecS_ok w a0 len0 cap0 (1048576) (by omega) (by omega)).mono ?_
    rintro e w' ⟨rfl, rfl⟩
    go_wp2_with fail
    refine (szVecS_no w a1 len1 cap1 (1048576 - len0) (by omega) (by unfold maxLen; omega) (by omega)).mono ?_
    rintro e w' ⟨rfl, rfl⟩
    go_wp2_with fail
    go_ret
    exact ⟨rfl, Below.refl _ _⟩
  have hn1 : len1 ≤ 1048576 := by omega
  have hN1 : len1 ≤ 1048576 - len0 := by omega
  clear c1
  have I0_0 := f0.rdV hn0
  have F0 := hide f0.rd.2.2.2
  clear f0
  have I1_0 := f1.rdV hn1
  have F1 := hide f1.rd.2.2.2
  clear f1
  have hT0 : Below w.heap.size w w := Below.refl _ _
  go_enter Try.func6, Try.ntmps6
  go_wp2_with fail
  refine (szVecS_ok w a0 len0 cap0 (1048576) (by omega) (by omega)).mono ?_
  rintro e w' ⟨rfl, rfl⟩
  go_wp2_with fail
  refine (szVecS_ok w a1 len1 cap1 (1048576 - len0) (by omega) (by omega)).mono ?_
  rintro e w' ⟨rfl, rfl⟩
  go_wp2_with fail
  refine (toVecS_any a0 len0 cap0 _ xs0 w I0_0.1 I0_0.2.1 (by omega) (by omega) F0.out).mono ?_
  rintro e w1 ⟨g0, rfl, q0, hb1⟩
  have o0_1 := OwnV.of q0
  clear q0
  have hs1 := hb1.size
  have I0_1 := I0_0.below (hb1.mono (by omega))
  clear I0_0
  have I1_1 := I1_0.below (hb1.mono (by omega))
  clear I1_0
  have hT1 := hT0.trans (hb1.mono (by omega))
  clear hT0
  go_wp2_with fail
  refine (toVecS_any a1 len1 cap1 _ xs1 w1 I1_1.1 I1_1.2.1 (by omega) (by omega) F1.out).mono ?_
  rintro e w2 ⟨g1, rfl, q1, hb2⟩
  have o1_2 := OwnV.of q1
  clear q1
  have hs2 := hb2.size
  have o0_2 := o0_1.below hb2 (by omega)
  clear o0_1
  have I0_2 := I0_1.below (hb2.mono (by omega))
  clear I0_1
  have I1_2 := I1_1.below (hb2.mono (by omega))
  clear I1_1
  have hT2 := hT1.trans (hb2.mono (by omega))
  clear hT1
  go_wp2_with fail
  refine (spec_Touches w2 w2.heap.size (Nat.le_refl _) (some ⟨g0, 0, none⟩) len0 len0 xs0 (I0_2.at_ o0_2.rd) (some ⟨g1, 0, none⟩) len1 len1 xs1 (I1_2.at_ o1_2.rd)).mono ?_
  rintro e w3 ⟨rfl, hb3⟩
  have hs3 := hb3.size
  clear o0_2
  clear o1_2
  have I0_3 := I0_2.below (hb3.mono (by omega))
  clear I0_2
  have I1_3 := I1_2.below (hb3.mono (by omega))
  clear I1_2
  have hT3 := hT2.trans (hb3.mono (by omega))
  clear hT2
  go_wp2_with fail
  refine (toVecS_any a0 len0 cap0 _ xs0 w3 I0_3.1 I0_3.2.1 (by omega) (by omega) F0.out).mono ?_
  rintro e w4 ⟨g2, rfl, q2, hb4⟩
  have o2_4 := OwnV.of q2
  clear q2
  have hs4 := hb4.size
  have I0_4 := I0_3.below (hb4.mono (by omega))
  clear I0_3
  have I1_4 := I1_3.below (hb4.mono (by omega))
  clear I1_3
  have hT4 := hT3.trans (hb4.mono (by omega))
  clear hT3
  go_wp2_with fail
  refine (toVecS_any a1 len1 cap1 _ xs1 w4 I1_4.1 I1_4.2.1 (by omega) (by omega) F1.out).mono ?_
  rintro e w5 ⟨g3, rfl, q3, hb5⟩
  have o3_5 := OwnV.of q3
  clear q3
  have hs5 := hb5.size
  have o2_5 := o2_4.below hb5 (by omega)
  clear o2_4
  have I0_5 := I0_4.below (hb5.mono (by omega))
  clear I0_4
  have I1_5 := I1_4.below (hb5.mono (by omega))
  clear I1_4
  have hT5 := hT4.trans (hb5.mono (by omega))
  clear hT4
  go_wp2_with fail
  refine (impl_Touches w5 w5.heap.size (Nat.le_refl _) (some ⟨g2, 0, none⟩) len0 len0 xs0 (I0_5.at_ o2_5.rd) (some ⟨g3, 0, none⟩) len1 len1 xs1 (I1_5.at_ o3_5.rd)).mono ?_
  rintro e w6 ⟨rfl, hb6⟩
  have hs6 := hb6.size
  have o2_6 := o2_5.below hb6 (by omega)
  clear o2_5
  have o3_6 := o3_5.below hb6 (by omega)
  clear o3_5
  have I0_6 := I0_5.below (hb6.mono (by omega))
  clear I0_5
  have I1_6 := I1_5.below (hb6.mono (by omega))
  clear I1_5
  have hT6 := hT5.trans (hb6.mono (by omega))
  clear hT5
  go_wp2_with fail
  refine (toVecS_any a0 len0 cap0 _ xs0 w6 I0_6.1 I0_6.2.1 (by omega) (by omega) F0.out).mono ?_
  rintro e w7 ⟨g4, rfl, q4, hb7⟩
  have o4_7 := OwnV.of q4
  clear q4
  have hs7 := hb7.size
  have o2_7 := o2_6.below hb7 (by omega)
  clear o2_6
  have o3_7 := o3_6.below hb7 (by omega)
  clear o3_6
  have I0_7 := I0_6.below (hb7.mono (by omega))
  clear I0_6
  have I1_7 := I1_6.below (hb7.mono (by omega))
  clear I1_6
  have hT7 := hT6.trans (hb7.mono (by omega))
  clear hT6
  go_wp2_with fail
  refine (eqVecS_any (some ⟨g2, 0, none⟩) (some ⟨g4, 0, none⟩) len0 len0 len0 _ xs0 w7 I0_7.1 o2_7.rd o4_7.rd (Nat.le_refl _) (by omega) F0.out).mono ?_
  rintro e w8 ⟨rfl, hb8⟩
  have hs8 := hb8.size
  have o2_8 := o2_7.below hb8 (by omega)
  clear o2_7
  have o3_8 := o3_7.below hb8 (by omega)
  clear o3_7
  have o4_8 := o4_7.below hb8 (by omega)
  clear o4_7
  have I0_8 := I0_7.below (hb8.mono (by omega))
  clear I0_7
  have I1_8 := I1_7.below (hb8.mono (by omega))
  clear I1_7
  have hT8 := hT7.trans (hb8.mono (by omega))
  clear hT7
  clear o4_8
  go_wp2_with fail
  refine (toVecS_any a1 len1 cap1 _ xs1 w8 I1_8.1 I1_8.2.1 (by omega) (by omega) F1.out).mono ?_
  rintro e w9 ⟨g5, rfl, q5, hb9⟩
  have o5_9 := OwnV.of q5
  clear q5
  have hs9 := hb9.size
  have o2_9 := o2_8.below hb9 (by omega)
  clear o2_8
  have o3_9 := o3_8.below hb9 (by omega)
  clear o3_8
  have I0_9 := I0_8.below (hb9.mono (by omega))
  clear I0_8
  have I1_9 := I1_8.below (hb9.mono (by omega))
  clear I1_8
  have hT9 := hT8.trans (hb9.mono (by omega))
  clear hT8
  go_wp2_with fail
  refine (eqVecS_any (some ⟨g3, 0, none⟩) (some ⟨g5, 0, none⟩) len1 len1 len1 _ xs1 w9 I1_9.1 o3_9.rd o5_9.rd (Nat.le_refl _) (by omega) F1.out).mono ?_
  rintro e w10 ⟨rfl, hb10⟩
  have hs10 := hb10.size
  have o2_10 := o2_9.below hb10 (by omega)
  clear o2_9
  have o3_10 := o3_9.below hb10 (by omega)
  clear o3_9
  have o5_10 := o5_9.below hb10 (by omega)
  clear o5_9
  have I0_10 := I0_9.below (hb10.mono (by omega))
  clear I0_9
  have I1_10 := I1_9.below (hb10.mono (by omega))
  clear I1_9
  have hT10 := hT9.trans (hb10.mono (by omega))
  clear hT9
  clear o5_10
  clear o2_10
  clear o3_10
  go_wp2
  go_ret
  exact ⟨rfl, hT10⟩
end Go.Proofs.Ytdagomikjblgiaa
