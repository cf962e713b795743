/-
  The exact laws' walks: ReachSquare.
-/
import Derived.Test.YtafhhemojdblpaaVecL2
import Derived.Test.YtafhhemojdblpaaHedI4
import Derived.Test.YtafhhemojdblpaaHedR2
namespace Go.Proofs.Ytafhhemojdblpaa
open Go.RowKit
set_option linter.unusedVariables false

set_option maxHeartbeats 4000000 in
set_option maxRecDepth 100000 in
theorem FnExactReachSquare_walk (w : World) (a0 : Option Addr) (len0 cap0 : Nat) (xs0 : List V2) (f0 : IsVecs w a0 len0 cap0 xs0) :
    Calls Try.prog 3 #[.slice a0 len0 cap0] w fun e w' => e = .returned (.bool true) ∧ Below w.heap.size w w' := by
  have hm0 := f0.rd.2.2.1
  unfold maxLen at hm0
  by_cases c0 : 1048576 < len0
  · go_enter Try.func3, Try.ntmps3
    go_wp2_with fail
    refine (szVecS_no w a0 len0 cap0 (1048576) (by omega) (by unfold maxLen; omega) (by omega)).mono ?_
    rintro e w' ⟨rfl, rfl⟩
    go_wp2_with fail
    go_ret
    exact ⟨rfl, Below.refl _ _⟩
  have hn0 : len0 ≤ 1048576 := by omega
  have hN0 : len0 ≤ 1048576 := by omega
  clear c0
  have I0_0 := f0.rdV hn0
  have F0 := hide f0.rd.2.2.2
  clear f0
  have hT0 : Below w.heap.size w w := Below.refl _ _
  go_enter Try.func3, Try.ntmps3
  go_wp2_with fail
  refine (szVecS_ok w a0 len0 cap0 (1048576) (by omega) (by omega)).mono ?_
  rintro e w' ⟨rfl, rfl⟩
  go_wp2_with fail
  refine (toVecS_any a0 len0 cap0 _ xs0 w I0_0.1 I0_0.2.1 (by omega) (by omega) F0.out).mono ?_
  rintro e w1 ⟨g0, rfl, q0, hb1⟩
  have o0_1 := OwnV.of q0
  clear q0
  have hs1 := hb1.size
  have I0_1 := I0_0.below (hb1.mono (by omega))
  clear I0_0
  have hT1 := hT0.trans (hb1.mono (by omega))
  clear hT0
  go_wp2_with fail
  refine (spec_ReachSquare w1 w1.heap.size (Nat.le_refl _) (some ⟨g0, 0, none⟩) len0 len0 xs0 (I0_1.at_ o0_1.rd)).mono ?_
  rintro e w2 ⟨rfl, hb2⟩
  have hs2 := hb2.size
  clear o0_1
  have I0_2 := I0_1.below (hb2.mono (by omega))
  clear I0_1
  have hT2 := hT1.trans (hb2.mono (by omega))
  clear hT1
  go_wp2_with fail
  refine (toVecS_any a0 len0 cap0 _ xs0 w2 I0_2.1 I0_2.2.1 (by omega) (by omega) F0.out).mono ?_
  rintro e w3 ⟨g1, rfl, q1, hb3⟩
  have o1_3 := OwnV.of q1
  clear q1
  have hs3 := hb3.size
  have I0_3 := I0_2.below (hb3.mono (by omega))
  clear I0_2
  have hT3 := hT2.trans (hb3.mono (by omega))
  clear hT2
  go_wp2_with fail
  refine (impl_ReachSquare w3 w3.heap.size (Nat.le_refl _) (some ⟨g1, 0, none⟩) len0 len0 xs0 (I0_3.at_ o1_3.rd)).mono ?_
  rintro e w4 ⟨rfl, hb4⟩
  have hs4 := hb4.size
  have o1_4 := o1_3.below hb4 (by omega)
  clear o1_3
  have I0_4 := I0_3.below (hb4.mono (by omega))
  clear I0_3
  have hT4 := hT3.trans (hb4.mono (by omega))
  clear hT3
  go_wp2_with fail
  refine (toVecS_any a0 len0 cap0 _ xs0 w4 I0_4.1 I0_4.2.1 (by omega) (by omega) F0.out).mono ?_
  rintro e w5 ⟨g2, rfl, q2, hb5⟩
  have o2_5 := OwnV.of q2
  clear q2
  have hs5 := hb5.size
  have o1_5 := o1_4.below hb5 (by omega)
  clear o1_4
  have I0_5 := I0_4.below (hb5.mono (by omega))
  clear I0_4
  have hT5 := hT4.trans (hb5.mono (by omega))
  clear hT4
  go_wp2_with fail
  refine (eqVecS_any (some ⟨g1, 0, none⟩) (some ⟨g2, 0, none⟩) len0 len0 len0 _ xs0 w5 I0_5.1 o1_5.rd o2_5.rd (Nat.le_refl _) (by omega) F0.out).mono ?_
  rintro e w6 ⟨rfl, hb6⟩
  have hs6 := hb6.size
  have o1_6 := o1_5.below hb6 (by omega)
  clear o1_5
  have o2_6 := o2_5.below hb6 (by omega)
  clear o2_5
  have I0_6 := I0_5.below (hb6.mono (by omega))
  clear I0_5
  have hT6 := hT5.trans (hb6.mono (by omega))
  clear hT5
  clear o2_6
  clear o1_6
  go_wp2
  go_ret
  exact ⟨rfl, hT6⟩
end Go.Proofs.Ytafhhemojdblpaa
