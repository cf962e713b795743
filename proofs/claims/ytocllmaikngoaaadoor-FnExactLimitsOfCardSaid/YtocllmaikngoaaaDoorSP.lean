/-
  The texts SumP, MinM, put together; each has its own heading below. No condition of ours.
-/
import Derived.Test.YtocllmaikngoaaaDoorHM
/-
  Sums of two polygons: how many corners, what lies inside, what separates two polygons.
-/

namespace Go.Proofs.YtocllmaikngoaaaDoor
open Go.RowKit
set_option linter.unusedVariables false
def addV (u v : V2) : V2 := (u.1 + v.1, u.2 + v.2)
def sumV (a b : List V2) : List V2 := a.flatMap fun v => b.map fun w => addV v w
section
variable {a b : List V2} (hl : (sumV a b).length ≤ 64) (hv : allV (sumV a b) = true) (h2 : 2 ≤ (srtV (sumV a b)).length) (h3 : 3 ≤ (hullV (sumV a b)).length)
include hl hv h2 h3
end
end Go.Proofs.YtocllmaikngoaaaDoor

/-
  Sums, separating edges, widths and moves of polygons: what the functions answer, said of lists.
-/

namespace Go.Proofs.YtocllmaikngoaaaDoor
open Go.RowKit
set_option linter.unusedVariables false
/-- least and greatest coordinates of the corners up to k -/
def loN (l : List V2) : Nat → V2
  | 0 => atV l 0
  | k + 1 => (min (loN l k).1 (atV l k).1, min (loN l k).2 (atV l k).2)
def hiN (l : List V2) : Nat → V2
  | 0 => atV l 0
  | k + 1 => (max (hiN l k).1 (atV l k).1, max (hiN l k).2 (atV l k).2)
theorem loN_mem (l : List V2) (h0 : 0 < l.length) : ∀ k, k ≤ l.length → (∃ i, i < l.length ∧ (loN l k).1 = (atV l i).1) ∧ (∃ i, i < l.length ∧ (loN l k).2 = (atV l i).2) := by
  intro k
  induction k with
  | zero => intro _; exact ⟨⟨0, h0, rfl⟩, ⟨0, h0, rfl⟩⟩
  | succ k ih =>
    intro hk
    obtain ⟨i1, i2⟩ := ih (by omega)
    constructor
    · show ∃ i, i < l.length ∧ min (loN l k).1 (atV l k).1 = (atV l i).1
      by_cases c : (loN l k).1 ≤ (atV l k).1
      · rw [Int.min_eq_left c]; exact i1
      · rw [Int.min_eq_right (by omega)]; exact ⟨k, by omega, rfl⟩
    · show ∃ i, i < l.length ∧ min (loN l k).2 (atV l k).2 = (atV l i).2
      by_cases c : (loN l k).2 ≤ (atV l k).2
      · rw [Int.min_eq_left c]; exact i2
      · rw [Int.min_eq_right (by omega)]; exact ⟨k, by omega, rfl⟩
theorem hiN_mem (l : List V2) (h0 : 0 < l.length) : ∀ k, k ≤ l.length → (∃ i, i < l.length ∧ (hiN l k).1 = (atV l i).1) ∧ (∃ i, i < l.length ∧ (hiN l k).2 = (atV l i).2) := by
  intro k
  induction k with
  | zero => intro _; exact ⟨⟨0, h0, rfl⟩, ⟨0, h0, rfl⟩⟩
  | succ k ih =>
    intro hk
    obtain ⟨i1, i2⟩ := ih (by omega)
    constructor
    · show ∃ i, i < l.length ∧ max (hiN l k).1 (atV l k).1 = (atV l i).1
      by_cases c : (hiN l k).1 ≤ (atV l k).1
      · rw [Int.max_eq_right c]; exact ⟨k, by omega, rfl⟩
      · rw [Int.max_eq_left (by omega)]; exact i1
    · show ∃ i, i < l.length ∧ max (hiN l k).2 (atV l k).2 = (atV l i).2
      by_cases c : (hiN l k).2 ≤ (atV l k).2
      · rw [Int.max_eq_right c]; exact ⟨k, by omega, rfl⟩
      · rw [Int.max_eq_left (by omega)]; exact i2
theorem loN_vec {l : List V2} (h : polyP l) {k : Nat} (hk : k ≤ l.length) : vecV (loN l k) = true := by
  obtain ⟨⟨i, hi, e⟩, ⟨j, hj, e'⟩⟩ := loN_mem l (by have := h.1; omega) k hk
  have h1 := vecB_bounds (poly_vec h hi)
  have h2 := vecB_bounds (poly_vec h hj)
  unfold vecV vecB
  simp; omega
theorem hiN_vec {l : List V2} (h : polyP l) {k : Nat} (hk : k ≤ l.length) : vecV (hiN l k) = true := by
  obtain ⟨⟨i, hi, e⟩, ⟨j, hj, e'⟩⟩ := hiN_mem l (by have := h.1; omega) k hk
  have h1 := vecB_bounds (poly_vec h hi)
  have h2 := vecB_bounds (poly_vec h hj)
  unfold vecV vecB
  simp; omega
noncomputable def loB (l : List V2) : V2 := if polyB l = true then loN l l.length else (0, 0)
noncomputable def hiB (l : List V2) : V2 := if polyB l = true then hiN l l.length else (0, 0)
theorem loB_no {l : List V2} (h : polyB l = false) : loB l = (0, 0) := by unfold loB; rw [if_neg (by simp [h])]
theorem hiB_no {l : List V2} (h : polyB l = false) : hiB l = (0, 0) := by unfold hiB; rw [if_neg (by simp [h])]
theorem loB_is {l : List V2} (h : polyB l = true) : loB l = loN l l.length := by unfold loB; rw [if_pos h]
theorem hiB_is {l : List V2} (h : polyB l = true) : hiB l = hiN l l.length := by unfold hiB; rw [if_pos h]
end Go.Proofs.YtocllmaikngoaaaDoor
