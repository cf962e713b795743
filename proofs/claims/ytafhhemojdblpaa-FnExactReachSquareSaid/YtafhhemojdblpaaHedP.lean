/-
  Quarter turns, said of vectors and lists: what the functions of headings answer.
-/
import Derived.Test.YtafhhemojdblpaaHM
import Derived.Test.YtafhhemojdblpaaPI
import Derived.Test.YtafhhemojdblpaaLB
namespace Go.Proofs.Ytafhhemojdblpaa
open Go.RowKit
set_option linter.unusedVariables false
/-- the square of a corner's distance from the origin -/
def rsq (v : V2) : Int := v.1 * v.1 + v.2 * v.2
/-- the greatest of the first k -/
def rchN (l : List V2) : Nat → Int
  | 0 => 0
  | k + 1 => max (rchN l k) (rsq (atV l k))
noncomputable def rchB (l : List V2) : Int := if polyB l = true then rchN l l.length else 0
theorem rchB_is {l : List V2} (h : polyB l = true) : rchB l = rchN l l.length := by unfold rchB; rw [if_pos h]
theorem rchB_no {l : List V2} (h : polyB l = false) : rchB l = 0 := by unfold rchB; rw [if_neg (by simp [h])]
theorem rsq_range {v : V2} (h : vecV v = true) : 0 ≤ rsq v ∧ rsq v ≤ 2000000 ∧ 0 ≤ v.1 * v.1 ∧ v.1 * v.1 ≤ 1000000 ∧ 0 ≤ v.2 * v.2 ∧ v.2 * v.2 ≤ 1000000 := by
  have b := vecB_bounds (show vecB v.1 v.2 = true from h)
  have hs : ∀ z : Int, -1000 ≤ z → z ≤ 1000 → 0 ≤ z * z ∧ z * z ≤ 1000000 := fun z h1 h2 => by
    have m1 : 0 ≤ (1000 - z) * (1000 + z) := Int.mul_nonneg (by omega) (by omega)
    have e : (1000 - z) * (1000 + z) = 1000000 - z * z := by grind
    have m2 : 0 ≤ z * z := by
      rcases Int.le_total 0 z with c | c
      · exact Int.mul_nonneg c c
      · have : 0 ≤ (-z) * (-z) := Int.mul_nonneg (by omega) (by omega)
        rwa [Int.neg_mul_neg] at this
    omega
  have h1 := hs v.1 (by omega) (by omega)
  have h2 := hs v.2 (by omega) (by omega)
  unfold rsq
  omega
theorem rchN_range {l : List V2} (h : polyP l) : ∀ k, k ≤ l.length → 0 ≤ rchN l k ∧ rchN l k ≤ 2000000 := by
  intro k
  induction k with
  | zero => intro _; exact ⟨Int.le_refl _, show (0 : Int) ≤ 2000000 by decide⟩
  | succ k ih =>
    intro hk
    have i := ih (by omega)
    have r := rsq_range (poly_vec h (show k < l.length by omega))
    show 0 ≤ max (rchN l k) (rsq (atV l k)) ∧ max (rchN l k) (rsq (atV l k)) ≤ 2000000
    omega
end Go.Proofs.Ytafhhemojdblpaa
