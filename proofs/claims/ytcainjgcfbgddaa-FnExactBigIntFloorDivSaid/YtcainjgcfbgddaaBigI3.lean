/-
  The program's big integers: contracts (3): magnitudeOf, BigIntOf.
-/
import Derived.Test.YtcainjgcfbgddaaBigI2
import Derived.Test.YtcainjgcfbgddaaNatLen
namespace Go.Proofs.Ytcainjgcfbgddaa
open Go.RowKit
set_option linter.unusedVariables false

theorem limbs_small {n : Nat} (h : n < 1000000000000000000000000000) : (limbs n).length ≤ 3 := limbs_len.2 h
set_option maxHeartbeats 800000 in
theorem impl_magnitudeOf (w : World) (n : Int) (hwf : (Lit.int .i64 n).wf = true) :
    Calls Try.prog 48 #[.int .i64 n] w fun e w' => ∃ v, e = .returned v ∧ Own w' w.heap.size w'.heap.size 3 v (limbs n.natAbs).length (iv (limbs n.natAbs)) ∧ Below w.heap.size w w' := by
  obtain ⟨h1, h2⟩ := bounds_i64 hwf
  by_cases hmin : n = -9223372036854775808
  · subst hmin
    go_enter Try.func48, Try.ntmps48
    go_wp2_with fail
    refine (impl_NatOf w w.heap.size (Nat.le_refl _) 9223372036854775807 (by decide)).mono ?_
    rintro e w1 ⟨v1, rfl, o1, hb1⟩
    obtain ⟨A1, c1, rfl⟩ := o1.form
    have hs1 := hb1.size
    go_wp2_with fail
    refine (impl_NatOf w1 w1.heap.size (Nat.le_refl _) 1 (by decide)).mono ?_
    rintro e w2 ⟨v2, rfl, o2, hb2⟩
    obtain ⟨A2, c2, rfl⟩ := o2.form
    have hs2 := hb2.size
    have o1' := o1.below hb2 (by omega)
    have l1 : (limbs (Int.toNat 9223372036854775807)).length ≤ 3 := limbs_small (by decide)
    have l2 : (limbs (Int.toNat 1)).length ≤ 3 := limbs_small (by decide)
    go_wp2_with fail
    refine (impl_NatAdd w2 w2.heap.size (Nat.le_refl _) A1 _ c1 _ (RdI.of_own o1' (by omega) (limbs_ok _)) A2 _ c2 _ (RdI.of_own o2 (by omega) (limbs_ok _))).mono ?_
    rintro e w3 ⟨v3, rfl, o3, hb3⟩
    have e3 : addL (limbs (Int.toNat 9223372036854775807)) (limbs (Int.toNat 1)) = limbs (Int.natAbs (-9223372036854775808)) := by
      rw [addL, natB_limbs (by decide), natB_limbs (by decide)]
      show capL _ = _
      rw [natV_limbs, natV_limbs]
      exact capL_of (by decide)
    rw [e3] at o3
    have o3' := o3.wider (show w.heap.size ≤ w2.heap.size by omega) (Nat.le_refl _)
    have hb3' := (hb1.trans (hb2.mono hs1)).trans (hb3.mono (by omega))
    clear o1 o1' o2 o3 hb1 hb2 hb3 e3
    go_wp2_with fail
    go_ret
    exact ⟨_, rfl, o3', hb3'⟩
  · have hne : (n == -9223372036854775808) = false := by simp [hmin]
    have hmin : IntKind.i64.min = -9223372036854775808 := rfl
    have hmax : IntKind.i64.max = 9223372036854775807 := rfl
    have hmw : (Lit.int .i64 (-n)).wf = true := by simp only [Lit.wf, Bool.and_eq_true, decide_eq_true_eq]; omega
    clear hmin hmax
    by_cases hlt : n < -n
    · have e1 : n.natAbs = (-n).toNat := by omega
      rw [e1]
      have HW := hide hmw
      clear e1 hmw
      go_enter Try.func48, Try.ntmps48
      go_wp2_with fail
      refine (impl_NatOf w w.heap.size (Nat.le_refl _) (-n) HW.out).mono ?_
      rintro e w1 ⟨v1, rfl, o1, hb1⟩
      go_wp2_with fail
      go_ret
      exact ⟨_, rfl, o1, hb1⟩
    · have hle : -n ≤ n := by omega
      have e1 : n.natAbs = n.toNat := by omega
      rw [e1]
      have HW := hide hwf
      clear e1 hmw hwf
      go_enter Try.func48, Try.ntmps48
      go_wp2_with fail
      refine (impl_NatOf w w.heap.size (Nat.le_refl _) n HW.out).mono ?_
      rintro e w1 ⟨v1, rfl, o1, hb1⟩
      go_wp2_with fail
      go_ret
      exact ⟨_, rfl, o1, hb1⟩

set_option maxHeartbeats 800000 in
theorem impl_BigIntOf (w : World) (B : Nat) (hB : B ≤ w.heap.size) (n : Int) (hwf : (Lit.int .i64 n).wf = true) :
    Calls Try.prog 19 #[.int .i64 n] w fun e w' => ∃ v, e = .returned (.agg #[.bool (capZ n).1, v]) ∧ Own w' w.heap.size w'.heap.size 3 v (capZ n).2.length (iv (capZ n).2) ∧ Below w.heap.size w w' := by
  obtain ⟨h1, h2⟩ := bounds_i64 hwf
  have hb0 := below_new w (.cells #[.bool false, .slice none 0 0] 27)
  have k0 := Box.last w 27 #[.bool false, .slice none 0 0] rfl
  have hs0 := hb0.size
  have e2 : ((decide (n < 0)) && !(limbs n.natAbs).isEmpty, limbs n.natAbs) = capZ n := by
    rw [← capL_of (n := n.natAbs) (Nat.lt_trans (show n.natAbs < 1000000000000000000000000000 by omega) (by decide)), capZ_make]
    by_cases h : n < 0
    · simp [h]; congr 1; omega
    · simp [h]; congr 1; omega
  rw [← e2]
  clear e2
  go_enter Try.func19, Try.ntmps19
  go_wp2_with fail
  refine (impl_magnitudeOf _ n hwf).mono ?_
  rintro e w1 ⟨v1, rfl, o1, hb1⟩
  obtain ⟨A1, c1, rfl⟩ := o1.form
  have hb1' := below_then hb0 hb1
  have k1 := k0.below hb1 (by rw [alloc_size]; omega)
  have l1 : (limbs n.natAbs).length ≤ 3 := limbs_small (by omega)
  go_wp2_with fail
  refine (impl_bigInt w1 (decide (n < 0)) A1 _ c1 (limbs n.natAbs) rfl).mono ?_
  rintro e w2 ⟨rfl, hb2⟩
  have hb2' := below_then hb1' hb2
  have k2 := k1.below hb2 k1.lt
  have hb1s := alloc_size w (.cells #[.bool false, .slice none 0 0] 27)
  have HR := hide (ret_big (x := .bool (decide (n < 0) && !(limbs n.natAbs).isEmpty)) k2 (o1.below hb2 (Nat.le_refl _)) hb2' (Nat.le_refl _) (by omega) hb2.size)
  have hz0 := k2.frozen 0
  have hz1 := k2.frozen 1
  have d0 := k2.cell 0
  have d1 := k2.cell 1
  simp only [List.getElem?_toArray, List.getElem?_cons_zero, List.getElem?_cons_succ] at d0 d1
  clear k0 k1 k2 o1 hb0 hb1 hb1' hb2 hb2'
  go_wp2_with fail
  refine bodyPost_ret (results_cell_row rfl _ _ w.heap.size _ #[.bool (decide (n < 0) && !(limbs n.natAbs).isEmpty), .slice A1 (limbs n.natAbs).length c1] (0, 0) _ rfl HR.out.1 Try.underlying27 rfl Try.sizeBig) rfl ?_
  exact ⟨_, rfl, HR.out.2.1, HR.out.2.2⟩
end Go.Proofs.Ytcainjgcfbgddaa
