/-
  Free placements: plain: the robot at a heading, the rectangle for its origin, the blocked areas.
-/
import Derived.Test.YtocllmaikngoaaaDoorSB
import Derived.Test.YtocllmaikngoaaaDoorSA
import Derived.Test.YtocllmaikngoaaaDoorHP
import Derived.Test.YtocllmaikngoaaaDoorSP
namespace Go.Proofs.YtocllmaikngoaaaDoor
open Go.RowKit
set_option linter.unusedVariables false
def hdgB (k : Int) : Bool := decide (0 ≤ k ∧ k ≤ 3)
/-- the robot at a heading -/
noncomputable def robL (S : Scn) (k : Int) : List V2 := if (scnB S && hdgB k) = true then turnL S.r k else []
theorem robL_is {S : Scn} {k : Int} (h : scnB S = true) (hk : hdgB k = true) : robL S k = turnL S.r k := by unfold robL; rw [h, hk]; rfl
theorem robL_no {S : Scn} {k : Int} (h : (scnB S && hdgB k) = false) : robL S k = [] := by unfold robL; rw [h]; rfl
theorem scn_solid {S : Scn} (h : scnB S = true) : solB 20 S.r = true ∧ obsB S.o = true ∧ roomB S.lx S.ly S.hx S.hy = true := by
  unfold scnB at h
  simp only [Bool.and_eq_true] at h
  exact ⟨h.2.1, h.2.2.1, h.1⟩
theorem solid_is {m : Int} {l : List V2} (h : solB m l = true) : l.length ≤ 5 ∧ polyB l = true ∧ allV l = true := by
  unfold solB at h
  simp only [Bool.and_eq_true, decide_eq_true_eq] at h
  have hpp := polyB_iff.1 h.2.1
  exact ⟨h.1, h.2.1, List.all_eq_true.2 fun x hx => by obtain ⟨i, hi, rfl⟩ := List.getElem_of_mem hx; have h9 := poly_vec hpp hi; rwa [atV_eq hi] at h9⟩
theorem robL_len (S : Scn) (k : Int) : (robL S k).length ≤ 5 := by
  by_cases h : (scnB S && hdgB k) = true
  · have h' := h
    simp only [Bool.and_eq_true] at h'
    rw [robL_is h'.1 h'.2]
    exact Nat.le_trans (turnL_len _ _) (solid_is (scn_solid h'.1).1).1
  · rw [robL_no (by simpa using h)]; exact Nat.zero_le _
theorem robL_wf (S : Scn) (k : Int) : wfV (robL S k) := by
  by_cases h : (scnB S && hdgB k) = true
  · have h' := h
    simp only [Bool.and_eq_true] at h'
    rw [robL_is h'.1 h'.2]
    exact turnL_wf _ _
  · rw [robL_no (by simpa using h)]
    intro v hv; simp at hv
theorem robL_ne {S : Scn} {k : Int} (h : scnB S = true) (hk : hdgB k = true) : robL S k ≠ [] := by
  obtain ⟨_, h1, h2⟩ := solid_is (scn_solid h).1
  rw [robL_is h hk, turnL_yes h2]
  have h3 := (polyB_iff.1 h1).1
  intro e
  have := congrArg List.length e
  rw [List.length_map] at this
  simp at this
  rw [this] at h3
  simp at h3
end Go.Proofs.YtocllmaikngoaaaDoor
