/-
  The exact laws' walks: TurnsBetween.
-/
import Derived.Test.YtafhhemojdblpabDoorMarkI
import Derived.Test.YtafhhemojdblpabDoorPB
import Derived.Deep.CutRange
import Derived.Test.YtafhhemojdblpabDoorHedI6
import Derived.Test.YtafhhemojdblpabDoorHedR4
namespace Go.Proofs.YtafhhemojdblpabDoor
open Go.RowKit
set_option linter.unusedVariables false
theorem btw_len (g h : Int) : (btw g h).length ≤ 1048576 := by
  unfold btw
  split
  · split
    · simp
    · split
      · simp
      · split <;> simp
  · simp
theorem impl_TurnsBetweenO (w : World) (B : Nat) (hB : B ≤ w.heap.size) (g : Int) (fg : (Lit.int .i64 g).wf = true) (h : Int) (fh : (Lit.int .i64 h).wf = true) (hQ : QTab w) :
    Calls Tryd.prog 5 #[.int .i64 g, .int .i64 h] w fun e w' => ∃ v, e = .returned v ∧ Own w' w.heap.size w'.heap.size 3 v (btw g h).length (iv (btw g h)) ∧ Below w.heap.size w w' :=
  (impl_TurnsBetween w B hB g fg h fh hQ).mono fun e w' ⟨v, he, ho, hb⟩ => ⟨v, he, Own.of ho, hb⟩

set_option maxHeartbeats 4000000 in
set_option maxRecDepth 100000 in
theorem FnExactTurnsBetween_walk (w : World) (a0 : Int) (f0 : (Lit.int .i64 a0).wf = true) (a1 : Int) (f1 : (Lit.int .i64 a1).wf = true) (hQ : QTab w) :
    Calls Tryd.prog 3 #[.int .i64 a0, .int .i64 a1] w fun e w' => e = .returned (.bool true) ∧ Below w.heap.size w w' := by
  obtain ⟨hm0, hM0⟩ := bounds_i64 f0
  obtain ⟨hm1, hM1⟩ := bounds_i64 f1
  have hT0 : Below w.heap.size w w := Below.refl _ _
  go_enter Tryd.func3, Tryd.ntmps3
  have hL0 : (btw a0 a1).length ≤ 1048576 := btw_len _ _
  go_wp2_with fail
  refine (spec_TurnsBetween w w.heap.size (Nat.le_refl _) a0 f0 a1 f1).mono ?_
  rintro e w1 ⟨v0, rfl, q0, hb1⟩
  have o0_1 := Own.of q0
  clear q0
  obtain ⟨A0, c0, rfl⟩ := o0_1.form
  have hs1 := hb1.size
  have hT1 := hT0.trans (hb1.mono (by omega))
  clear hT0
  go_wp2_with fail
  refine (impl_TurnsBetweenO w1 w1.heap.size (Nat.le_refl _) a0 f0 a1 f1 (hQ.below hT1 (Nat.le_refl _))).mono ?_
  rintro e w2 ⟨v1, rfl, o1_2, hb2⟩
  obtain ⟨A1, c1, rfl⟩ := o1_2.form
  have hs2 := hb2.size
  have o0_2 := o0_1.below hb2 (by omega)
  clear o0_1
  have hT2 := hT1.trans (hb2.mono (by omega))
  clear hT1
  go_wp2_with fail
  refine (eqIntS_below A1 A0 (btw a0 a1).length (btw a0 a1).length c1 c0 (btw a0 a1) (btw a0 a1) _ w2 rfl rfl o1_2.rd o0_2.rd (by unfold maxLen; omega) (by unfold maxLen; omega) true (decide_eq_true rfl)).mono ?_
  rintro e w3 ⟨rfl, hb3⟩
  have hs3 := hb3.size
  have o0_3 := o0_2.below hb3 (by omega)
  clear o0_2
  have o1_3 := o1_2.below hb3 (by omega)
  clear o1_2
  have hT3 := hT2.trans (hb3.mono (by omega))
  clear hT2
  go_wp2_with fail
  refine (markIntS_own (.slice A1 (btw a0 a1).length c1) (btw a0 a1).length 1 _ _ _ _ w3 o1_3 (by omega) (by omega)).mono ?_
  rintro e w4 ⟨he, p1, ha4⟩
  obtain ⟨K1, hK1⟩ : ∃ K : Nat, K = 1 + (btw a0 a1).length := ⟨_, rfl⟩
  have bK1 : K1 ≤ 2000010 := by omega
  rw [← hK1] at he
  subst he
  have HK1 := hide hK1
  clear hK1
  have hs4 := ha4.size
  have o0_4 := o0_3.aside ha4 (by omega)
  clear o0_3
  have hT4 := hT3.trans (ha4.below (by omega) (by omega))
  clear hT3
  have o1_4 := p1
  clear p1 o1_3
  go_wp2_with fail
  refine (heldIntS_any A1 (btw a0 a1).length c1 1 _ w4 o1_4.rd (by omega) (by omega)).mono ?_
  rintro e w' ⟨he, rfl⟩
  rw [← HK1.out] at he
  subst he
  go_wp2_with fail
  refine (impl_TurnsBetweenO w4 w4.heap.size (Nat.le_refl _) a0 f0 a1 f1 (hQ.below hT4 (Nat.le_refl _))).mono ?_
  rintro e w5 ⟨v2, rfl, o2_5, hb5⟩
  obtain ⟨A2, c2, rfl⟩ := o2_5.form
  have hs5 := hb5.size
  have o0_5 := o0_4.below hb5 (by omega)
  clear o0_4
  have o1_5 := o1_4.below hb5 (by omega)
  clear o1_4
  have hT5 := hT4.trans (hb5.mono (by omega))
  clear hT4
  go_wp2_with fail
  refine (eqIntS_below A2 A0 (btw a0 a1).length (btw a0 a1).length c2 c0 (btw a0 a1) (btw a0 a1) _ w5 rfl rfl o2_5.rd o0_5.rd (by unfold maxLen; omega) (by unfold maxLen; omega) true (decide_eq_true rfl)).mono ?_
  rintro e w6 ⟨rfl, hb6⟩
  have hs6 := hb6.size
  have o0_6 := o0_5.below hb6 (by omega)
  clear o0_5
  have o1_6 := o1_5.below hb6 (by omega)
  clear o1_5
  have o2_6 := o2_5.below hb6 (by omega)
  clear o2_5
  have hT6 := hT5.trans (hb6.mono (by omega))
  clear hT5
  go_wp2_with fail
  refine (heldIntS_any A1 (btw a0 a1).length c1 1 _ w6 o1_6.rd (by omega) (by omega)).mono ?_
  rintro e w' ⟨he, rfl⟩
  rw [← HK1.out] at he
  subst he
  clear o0_6
  clear o1_6
  clear o2_6
  go_wp2
  go_ret
  exact ⟨rfl, hT6⟩
end Go.Proofs.YtafhhemojdblpabDoor
