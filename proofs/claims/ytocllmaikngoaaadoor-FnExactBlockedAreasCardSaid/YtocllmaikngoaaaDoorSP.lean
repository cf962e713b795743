/-
  The texts SumP, MinM, put together; each has its own heading below. No condition of ours.
-/
import Derived.Test.YtocllmaikngoaaaDoorHM
/-
  Sums of two polygons: how many corners, what lies inside, what separates two polygons.
-/

namespace Go.Proofs.YtocllmaikngoaaaDoor
open Go.RowKit
set_option linter.unusedVariables false
def addV (u v : V2) : V2 := (u.1 + v.1, u.2 + v.2)
def sumV (a b : List V2) : List V2 := a.flatMap fun v => b.map fun w => addV v w
theorem sumV_mem {a b : List V2} {x : V2} : x ∈ sumV a b ↔ ∃ p, p ∈ a ∧ ∃ q, q ∈ b ∧ addV p q = x := by simp [sumV]
theorem sumV_len (a b : List V2) : (sumV a b).length = a.length * b.length := by
  induction a with
  | nil => simp [sumV]
  | cons v a ih =>
    have e : sumV (v :: a) b = b.map (fun w => addV v w) ++ sumV a b := by simp [sumV]
    rw [e, List.length_append, ih, List.length_map, List.length_cons, Nat.add_mul]; omega
theorem mem_at {l : List V2} {x : V2} (h : x ∈ l) : ∃ i, i < l.length ∧ atV l i = x := by
  obtain ⟨i, hi, e⟩ := List.getElem_of_mem h
  exact ⟨i, hi, by rw [atV_eq hi, e]⟩
section
variable {a b : List V2} (hl : (sumV a b).length ≤ 64) (hv : allV (sumV a b) = true) (h2 : 2 ≤ (srtV (sumV a b)).length) (h3 : 3 ≤ (hullV (sumV a b)).length)
include hl hv h2 h3
end
end Go.Proofs.YtocllmaikngoaaaDoor

/-
  Sums, separating edges, widths and moves of polygons: what the functions answer, said of lists.
-/

namespace Go.Proofs.YtocllmaikngoaaaDoor
open Go.RowKit
set_option linter.unusedVariables false
noncomputable def sumL (a b : List V2) : List V2 := if polyB a = true ∧ polyB b = true ∧ polyB (hullV (sumV a b)) = true then hullV (sumV a b) else []
theorem sumL_a {a b : List V2} (h : polyB a = false) : sumL a b = [] := by unfold sumL; rw [if_neg (by simp [h])]
theorem sumL_b {a b : List V2} (h : polyB b = false) : sumL a b = [] := by unfold sumL; rw [if_neg (by simp [h])]
theorem sumL_no {a b : List V2} (h : polyB (hullV (sumV a b)) = false) : sumL a b = [] := by unfold sumL; rw [if_neg (by simp [h])]
theorem sumL_is {a b : List V2} (h1 : polyB a = true) (h2 : polyB b = true) (h3 : polyB (hullV (sumV a b)) = true) : sumL a b = hullV (sumV a b) := by unfold sumL; rw [if_pos ⟨h1, h2, h3⟩]
theorem hullV_long {l : List V2} (h : 64 < l.length) : hullV l = [] := by unfold hullV; rw [if_neg (by omega)]
theorem polyB_nil : polyB [] = false := polyB_no fun h => by have := h.1; simp at this
theorem wfV_sum {a b : List V2} (ha : polyP a) (hb : polyP b) : wfV (sumV a b) := by
  intro x hx
  obtain ⟨p, hp, q, hq, rfl⟩ := sumV_mem.1 hx
  obtain ⟨i, hi, rfl⟩ := mem_at hp
  obtain ⟨j, hj, rfl⟩ := mem_at hq
  have h1 := vecB_bounds (poly_vec ha hi)
  have h2 := vecB_bounds (poly_vec hb hj)
  unfold addV
  exact ⟨WalkArith.wf_i64 ⟨by simp only; omega, by simp only; omega⟩, WalkArith.wf_i64 ⟨by simp only; omega, by simp only; omega⟩⟩
theorem sumL_wf (a b : List V2) : wfV (sumL a b) := by
  unfold sumL
  split
  · rename_i h
    exact hullV_wf (wfV_sum (polyB_iff.1 h.1) (polyB_iff.1 h.2.1))
  · intro v hv; simp at hv
noncomputable def obsL (r o : List V2) : List V2 := sumL o (negL r)
end Go.Proofs.YtocllmaikngoaaaDoor
