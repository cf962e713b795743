/-
  Big integers: floor division, said of numbers.
-/
import Derived.Test.YtcainjgcfbgddaaBigP
namespace Go.Proofs.Ytcainjgcfbgddaa
open Go.RowKit
set_option linter.unusedVariables false

/-- what the two parts of a floor division are -/
theorem floor_pos {s : Bool} {xs ys : List Int} (hx : bigB s xs = true) (hy : natB ys = true) (h0 : ys.isEmpty = false) (hr : s = true → remL xs ys = []) :
    (s && !(quoL xs ys).isEmpty, quoL xs ys) = floorZ s xs ys ∧ remL xs ys = restZ s xs ys := by
  have hn := bigB_nat hx
  have hvx := natV_val hn
  have hvy := natV_val hy
  have hY : natV ys ≠ 0 := by intro e; have := natB_zero hy; rw [e, h0] at this; simp at this
  have e1 : quoL xs ys = capL (natV xs / natV ys) := by
    rw [quoL, hn, hy]
    show limbs _ = _
    rw [capL_of (Nat.lt_of_le_of_lt (Nat.div_le_self _ _) (natB_lt hn))]
  have e2 : remL xs ys = limbs (natV xs % natV ys) := by rw [remL, hn, hy, h0]; rfl
  rw [floorZ, restZ, hx, hy, h0, zv_nat hn, capZ_make' s (natV xs / natV ys) _ _ e1 rfl, e2, ← hvy]
  cases s
  · refine ⟨rfl, ?_⟩
    show limbs _ = limbs _
    congr 1
  · have hz : natV xs % natV ys = 0 := limbs_nil.1 (by rw [← e2]; exact hr rfl)
    have hd : (natV xs : Int) = natV ys * (natV xs / natV ys : Nat) := by
      have := Nat.div_add_mod (natV xs) (natV ys)
      rw [hz] at this
      have h := congrArg Int.ofNat this
      simp only [Nat.add_zero] at h
      show ((natV xs : Nat) : Int) = _
      rw [← Int.natCast_mul]
      exact h.symm
    have hq : -(natV xs : Int) / (natV ys : Int) = -((natV xs / natV ys : Nat) : Int) := by
      have h2 : -(natV xs : Int) = (natV ys : Int) * (-((natV xs / natV ys : Nat) : Int)) := by rw [Int.mul_neg, ← hd]
      rw [h2, Int.mul_ediv_cancel_left _ (by omega)]
    have hm : -(natV xs : Int) % (natV ys : Int) = 0 := by
      have h2 : -(natV xs : Int) = (natV ys : Int) * (-((natV xs / natV ys : Nat) : Int)) := by rw [Int.mul_neg, ← hd]
      rw [h2, Int.mul_emod_right]
    refine ⟨?_, ?_⟩
    · show capZ _ = capZ _
      exact congrArg capZ hq.symm
    · show limbs _ = limbs (Int.toNat (-(natV xs : Int) % (natV ys : Int)))
      rw [hm, hz]; rfl
theorem floor_neg {xs ys : List Int} (hx : bigB true xs = true) (hy : natB ys = true) (h0 : ys.isEmpty = false) (hr : remL xs ys ≠ []) :
    (true && !(addL (quoL xs ys) [1]).isEmpty, addL (quoL xs ys) [1]) = floorZ true xs ys ∧ subL ys (remL xs ys) = restZ true xs ys := by
  have hn := bigB_nat hx
  have hvx := natV_val hn
  have hvy := natV_val hy
  have hY : natV ys ≠ 0 := by intro e; have := natB_zero hy; rw [e, h0] at this; simp at this
  have e1 : quoL xs ys = limbs (natV xs / natV ys) := by rw [quoL, hn, hy]; rfl
  have e2 : remL xs ys = limbs (natV xs % natV ys) := by rw [remL, hn, hy, h0]; rfl
  have hz : natV xs % natV ys ≠ 0 := fun h => hr (by rw [e2]; exact limbs_nil.2 h)
  have hlt := Nat.mod_lt (natV xs) (show 0 < natV ys by omega)
  have b1 : natB (quoL xs ys) = true := by rw [e1]; exact natB_limbs (Nat.lt_of_le_of_lt (Nat.div_le_self _ _) (natB_lt hn))
  have b2 : natB (remL xs ys) = true := by rw [e2]; exact natB_limbs (Nat.lt_trans hlt (natB_lt hy))
  have v1 : natV (quoL xs ys) = natV xs / natV ys := by rw [e1, natV_limbs]
  have v2 : natV (remL xs ys) = natV xs % natV ys := by rw [e2, natV_limbs]
  have e3 : addL (quoL xs ys) [1] = capL (natV xs / natV ys + 1) := by
    rw [addL, b1, show natB [1] = true by decide]
    show capL _ = _
    rw [v1]; rfl
  have e4 : subL ys (remL xs ys) = limbs (natV ys - natV xs % natV ys) := by rw [subL, hy, b2, v2]; rfl
  have hdm : (natV ys : Int) * ((natV xs / natV ys : Nat) : Int) + ((natV xs % natV ys : Nat) : Int) = natV xs := by
    rw [← Int.natCast_mul, ← Int.natCast_add, Nat.div_add_mod]
  have hsum : -(natV xs : Int) = ((natV ys - natV xs % natV ys : Nat) : Int) + (natV ys : Int) * (-((natV xs / natV ys + 1 : Nat) : Int)) := by
    rw [Int.natCast_add, Int.neg_add, Int.mul_add, Int.mul_neg]
    have : ((natV ys - natV xs % natV ys : Nat) : Int) = natV ys - ((natV xs % natV ys : Nat) : Int) := by omega
    rw [this]; omega
  have hq : -(natV xs : Int) / (natV ys : Int) = -((natV xs / natV ys + 1 : Nat) : Int) := by
    rw [hsum, Int.add_mul_ediv_left _ _ (by omega), Int.ediv_eq_zero_of_lt (by omega) (by omega), Int.zero_add]
  have hm : -(natV xs : Int) % (natV ys : Int) = ((natV ys - natV xs % natV ys : Nat) : Int) := by
    rw [hsum, Int.add_mul_emod_self_left, Int.emod_eq_of_lt (by omega) (by omega)]
  rw [floorZ, restZ, hx, hy, h0, zv_nat hn, capZ_make' true (natV xs / natV ys + 1) _ _ e3 rfl, e4, ← hvy]
  refine ⟨?_, ?_⟩
  · show capZ _ = capZ _
    exact congrArg capZ hq.symm
  · show limbs _ = limbs (Int.toNat (-(natV xs : Int) % (natV ys : Int)))
    rw [hm]; congr 1
theorem floor_no {s : Bool} {xs ys : List Int} (h : bigB s xs = false ∨ natB ys = false ∨ ys.isEmpty = true) : floorZ s xs ys = noZ ∧ restZ s xs ys = [] := by
  have hf : ¬ ((bigB s xs && natB ys && !ys.isEmpty) = true) := by rcases h with h | h | h <;> simp [h]
  rw [floorZ, restZ, if_neg hf, if_neg hf]; exact ⟨rfl, rfl⟩
theorem quoL_limbs (a b : List Int) (h : natB a = true) : Limbs (quoL a b) := by rw [quoL]; split; exact limbs_ok _; exact Limbs.nil
theorem remL_limbs (a b : List Int) : Limbs (remL a b) := by rw [remL]; split; exact limbs_ok _; exact Limbs.nil
theorem quoL_60 {a b : List Int} (ha : natB a = true) (hb : natB b = true) : (quoL a b).length ≤ 60 := by
  rw [quoL, ha, hb]
  exact limbs_len.2 (Nat.lt_of_le_of_lt (Nat.div_le_self _ _) (natB_lt ha))
theorem remL_60 {a b : List Int} (ha : natB a = true) (hb : natB b = true) : (remL a b).length ≤ 60 := by
  rw [remL, ha, hb]
  cases h : b.isEmpty
  · have hY : natV b ≠ 0 := by intro e; have := natB_zero hb; rw [e, h] at this; simp at this
    exact limbs_len.2 (Nat.lt_trans (Nat.mod_lt _ (by omega)) (natB_lt hb))
  · simp
theorem restZ_len (s : Bool) (xs ys : List Int) : (restZ s xs ys).length ≤ 1048576 := by
  unfold restZ; split
  · rename_i h
    simp only [Bool.and_eq_true, Bool.not_eq_true'] at h
    obtain ⟨⟨hx, hy⟩, h0⟩ := h
    have hY : natV ys ≠ 0 := by intro e; have := natB_zero hy; rw [e, h0] at this; simp at this
    have hv := natV_val hy
    have : (limbs (zv s xs % val ys).toNat).length ≤ 60 := by
      refine limbs_len.2 (Nat.lt_trans (m := natV ys) ?_ (natB_lt hy))
      have h1 := Int.emod_lt_of_pos (zv s xs) (show 0 < val ys by omega)
      have h2 := Int.emod_nonneg (zv s xs) (show val ys ≠ 0 by omega)
      omega
    omega
  · simp
end Go.Proofs.Ytcainjgcfbgddaa
