/-
  The reference's big integers: contracts (2): BigIntOf, BigIntToInt, BigIntNeg.
-/
import Derived.Test.YtdcceppednngjaaGreatBigR
import Derived.Test.YtdcceppednngjaaGreatRA
namespace Go.Proofs.YtdcceppednngjaaGreat
open Go.RowKit
set_option linter.unusedVariables false

theorem make_limbs (s : Bool) (k : Nat) : (s && !(capT (limbs k)).isEmpty, capT (limbs k)) = capZ (if s then -(k : Int) else k) := by
  rw [capT_capL (limbs_ok k) (val_limbs k)]; exact capZ_make s k
theorem make_eq {s : Bool} {xs : List Int} (h : Limbs xs) {k : Nat} (hk : val xs = k) : (s && !(capT xs).isEmpty, capT xs) = capZ (if s then -(k : Int) else k) := by
  rw [capT_capL h hk]; exact capZ_make s k
set_option maxHeartbeats 1600000 in
theorem spec_BigIntOf (w : World) (B : Nat) (hB : B ≤ w.heap.size) (n : Int) (hwf : (Lit.int .i64 n).wf = true) :
    Calls Tryz.prog 35 #[.int .i64 n] w fun e w' => ∃ v, e = .returned (.agg #[.bool (capZ n).1, v]) ∧ Own w' w.heap.size w'.heap.size 3 v (capZ n).2.length (iv (capZ n).2) ∧ Below w.heap.size w w' := by
  obtain ⟨h1, h2⟩ := bounds_i64 hwf
  have hb0 := below_new w (.cells #[.bool false, .slice none 0 0] 28)
  have k0 := Box.last w 28 #[.bool false, .slice none 0 0] rfl
  have hs0 := alloc_size w (.cells #[.bool false, .slice none 0 0] 28)
  by_cases hmin : n = -9223372036854775808
  · subst hmin
    have hz : capZ (-9223372036854775808) = (true && !(capT [854775808, 223372036, 9]).isEmpty, capT [854775808, 223372036, 9]) := (make_eq (s := true) (k := 9223372036854775808) (fun d hd => by simp at hd; omega) (by simp [val])).symm
    rw [hz]
    clear hz
    obtain ⟨W1, hW1⟩ : ∃ W1, W1 = (w.alloc (.cells #[.bool false, .slice none 0 0] 28)).alloc (.cells #[.int .i64 854775808, .int .i64 223372036, .int .i64 9] 3) := ⟨_, rfl⟩
    have hb1 : Below w.heap.size w W1 := by rw [hW1]; exact below_alloc hb0 _
    have k1 : Box W1 w.heap.size 28 #[.bool false, .slice none 0 0] := by rw [hW1]; exact k0.alloc _
    have hs1 : W1.heap.size = w.heap.size + 2 := by rw [hW1, alloc_size, alloc_size]
    have hblk : Blk W1 (w.heap.size + 1) 3 [854775808, 223372036, 9] := by rw [hW1]; exact Blk.of_heap (heap_last hs0.symm) (by unfold maxLen; show 3 ≤ _; omega)
    have hrd := hblk.rd
    clear hblk hb0 k0 hs0
    go_enter Tryz.func35, Tryz.ntmps35
    go_wp2_with fail
    rw [← hW1]
    clear hW1
    refine (spec_Make W1 (w.heap.size + 2) (by omega) true _ 3 3 [854775808, 223372036, 9] rfl hrd (Nat.le_refl _) (by unfold maxLen; omega)).mono ?_
    rintro e w8 ⟨v8, rfl, o8, hb8⟩
    obtain ⟨A8, c8, rfl⟩ := o8.form
    have k8 := k1.below hb8 k1.lt
    have hb8' := below_then hb1 hb8
    have hs8 := hb8.size
    obtain ⟨t0, t1, z0, z1⟩ := k8.facts
    have HO := hide (ret_big (x := .bool (true && !(capT [854775808, 223372036, 9]).isEmpty)) k8 o8 hb8' (Nat.le_refl _) (by omega) (by omega))
    clear k8 o8 hb8 hb8' k1 hb1 hrd
    go_wp2_with fail
    refine bodyPost_ret (results_cell_row rfl _ _ (w.heap.size) _ #[.bool (true && !(capT [854775808, 223372036, 9]).isEmpty), .slice A8 (capT [854775808, 223372036, 9]).length c8] (0, 0) _ rfl HO.out.1 Tryz.underlying28 rfl Tryz.sizeBig) rfl ?_
    exact ⟨_, rfl, HO.out.2.1, HO.out.2.2⟩
  · have hne : (n == -9223372036854775808) = false := by simp [hmin]
    have hmin' : IntKind.i64.min = -9223372036854775808 := rfl
    have hmax' : IntKind.i64.max = 9223372036854775807 := rfl
    have hmw : (Lit.int .i64 (-n)).wf = true := by simp only [Lit.wf, Bool.and_eq_true, decide_eq_true_eq]; omega
    have HW := hide hmw
    have HW2 := hide hwf
    clear hmin' hmax' hmw hwf
    by_cases hlt : n < 0
    · have hz : capZ n = (true && !(capT (limbs (-n).toNat)).isEmpty, capT (limbs (-n).toNat)) := by rw [make_limbs]; show capZ n = capZ (-((-n).toNat : Int)); congr 1; omega
      have hl3 : (limbs (-n).toNat).length ≤ 3 := limbs_len.2 (by omega)
      rw [hz]
      clear hz
      go_enter Tryz.func35, Tryz.ntmps35
      go_wp2_with fail
      refine (spec_NatOf _ _ (Nat.le_refl _) (-n) HW.out).mono ?_
      rintro e w1 ⟨v1, rfl, q1, hb1⟩
      obtain ⟨A1, c1, rfl, _, _, _⟩ := own_reads q1
      obtain ⟨_, hc1, hcm1⟩ := own_nilcap q1
      have k1 := k0.below hb1 (by omega)
      have hb1' := below_then hb0 hb1
      have hs1 := hb1.size
      have hrd := own_rd q1
      have HC1 := hide hc1
      have HCM := hide hcm1
      clear q1 hb1 k0 hb0 hc1 hcm1
      go_wp2_with fail
      refine (spec_Make w1 w1.heap.size (Nat.le_refl _) true A1 _ c1 (limbs (-n).toNat) rfl hrd HC1.out HCM.out).mono ?_
      rintro e w8 ⟨v8, rfl, o8, hb8⟩
      obtain ⟨A8, c8, rfl⟩ := o8.form
      have k8 := k1.below hb8 k1.lt
      have hb8' := below_then hb1' hb8
      have hs8 := hb8.size
      obtain ⟨t0, t1, z0, z1⟩ := k8.facts
      have HO := hide (ret_big (x := .bool (true && !(capT (limbs (-n).toNat)).isEmpty)) k8 o8 hb8' (Nat.le_refl _) (by omega) (by omega))
      clear k8 o8 hb8 hb8' k1 hb1' hrd
      go_wp2_with fail
      refine bodyPost_ret (results_cell_row rfl _ _ (w.heap.size) _ #[.bool (true && !(capT (limbs (-n).toNat)).isEmpty), .slice A8 (capT (limbs (-n).toNat)).length c8] (0, 0) _ rfl HO.out.1 Tryz.underlying28 rfl Tryz.sizeBig) rfl ?_
      exact ⟨_, rfl, HO.out.2.1, HO.out.2.2⟩
    · have hz : capZ n = (false && !(capT (limbs (n).toNat)).isEmpty, capT (limbs (n).toNat)) := by rw [make_limbs]; show capZ n = capZ ((n.toNat : Nat) : Int); congr 1; omega
      have hl3 : (limbs (n).toNat).length ≤ 3 := limbs_len.2 (by omega)
      rw [hz]
      clear hz
      go_enter Tryz.func35, Tryz.ntmps35
      go_wp2_with fail
      refine (spec_NatOf _ _ (Nat.le_refl _) (n) HW2.out).mono ?_
      rintro e w1 ⟨v1, rfl, q1, hb1⟩
      obtain ⟨A1, c1, rfl, _, _, _⟩ := own_reads q1
      obtain ⟨_, hc1, hcm1⟩ := own_nilcap q1
      have k1 := k0.below hb1 (by omega)
      have hb1' := below_then hb0 hb1
      have hs1 := hb1.size
      have hrd := own_rd q1
      have HC1 := hide hc1
      have HCM := hide hcm1
      clear q1 hb1 k0 hb0 hc1 hcm1
      go_wp2_with fail
      refine (spec_Make w1 w1.heap.size (Nat.le_refl _) false A1 _ c1 (limbs (n).toNat) rfl hrd HC1.out HCM.out).mono ?_
      rintro e w8 ⟨v8, rfl, o8, hb8⟩
      obtain ⟨A8, c8, rfl⟩ := o8.form
      have k8 := k1.below hb8 k1.lt
      have hb8' := below_then hb1' hb8
      have hs8 := hb8.size
      obtain ⟨t0, t1, z0, z1⟩ := k8.facts
      have HO := hide (ret_big (x := .bool (false && !(capT (limbs (n).toNat)).isEmpty)) k8 o8 hb8' (Nat.le_refl _) (by omega) (by omega))
      clear k8 o8 hb8 hb8' k1 hb1' hrd
      go_wp2_with fail
      refine bodyPost_ret (results_cell_row rfl _ _ (w.heap.size) _ #[.bool (false && !(capT (limbs (n).toNat)).isEmpty), .slice A8 (capT (limbs (n).toNat)).length c8] (0, 0) _ rfl HO.out.1 Tryz.underlying28 rfl Tryz.sizeBig) rfl ?_
      exact ⟨_, rfl, HO.out.2.1, HO.out.2.2⟩

end Go.Proofs.YtdcceppednngjaaGreat
