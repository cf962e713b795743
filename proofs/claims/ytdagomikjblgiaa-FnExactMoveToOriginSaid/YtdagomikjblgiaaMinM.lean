/-
  Sums, separating edges, widths and moves of polygons: what the functions answer, said of lists.
-/
import Derived.Test.YtdagomikjblgiaaSumP
namespace Go.Proofs.Ytdagomikjblgiaa
open Go.RowKit
set_option linter.unusedVariables false
noncomputable def sumL (a b : List V2) : List V2 := if polyB a = true ∧ polyB b = true ∧ polyB (hullV (sumV a b)) = true then hullV (sumV a b) else []
theorem sumL_a {a b : List V2} (h : polyB a = false) : sumL a b = [] := by unfold sumL; rw [if_neg (by simp [h])]
theorem sumL_b {a b : List V2} (h : polyB b = false) : sumL a b = [] := by unfold sumL; rw [if_neg (by simp [h])]
theorem sumL_no {a b : List V2} (h : polyB (hullV (sumV a b)) = false) : sumL a b = [] := by unfold sumL; rw [if_neg (by simp [h])]
theorem sumL_is {a b : List V2} (h1 : polyB a = true) (h2 : polyB b = true) (h3 : polyB (hullV (sumV a b)) = true) : sumL a b = hullV (sumV a b) := by unfold sumL; rw [if_pos ⟨h1, h2, h3⟩]
theorem hullV_long {l : List V2} (h : 64 < l.length) : hullV l = [] := by unfold hullV; rw [if_neg (by omega)]
theorem polyB_nil : polyB [] = false := polyB_no fun h => by have := h.1; simp at this
theorem wfV_sum {a b : List V2} (ha : polyP a) (hb : polyP b) : wfV (sumV a b) := by
  intro x hx
  obtain ⟨p, hp, q, hq, rfl⟩ := sumV_mem.1 hx
  obtain ⟨i, hi, rfl⟩ := mem_at hp
  obtain ⟨j, hj, rfl⟩ := mem_at hq
  have h1 := vecB_bounds (poly_vec ha hi)
  have h2 := vecB_bounds (poly_vec hb hj)
  unfold addV
  exact ⟨WalkArith.wf_i64 ⟨by simp only; omega, by simp only; omega⟩, WalkArith.wf_i64 ⟨by simp only; omega, by simp only; omega⟩⟩
theorem sumL_wf (a b : List V2) : wfV (sumL a b) := by
  unfold sumL
  split
  · rename_i h
    exact hullV_wf (wfV_sum (polyB_iff.1 h.1) (polyB_iff.1 h.2.1))
  · intro v hv; simp at hv
theorem sumL_len (a b : List V2) : (sumL a b).length ≤ 1048576 := by
  unfold sumL
  split
  · exact hullV_len _
  · simp
noncomputable def obsL (r o : List V2) : List V2 := sumL o (negL r)
/-- all points of b are right of edge i of a -/
def sepI (a b : List V2) (i : Nat) : Bool := b.all fun q => decide (tV (atV a i) (atV a ((i + 1) % a.length)) q < 0)
def sepK (a b : List V2) : Int := match (List.range a.length).find? (sepI a b) with | some i => (i : Int) | none => -1
theorem sepK_at {a b : List V2} {k : Nat} (hk : k < a.length) (h : ∀ i, i < k → sepI a b i = false) (hs : sepI a b k = true) : sepK a b = k := by
  unfold sepK
  have : (List.range a.length).find? (sepI a b) = some k := by
    rw [List.find?_range_eq_some]
    exact ⟨hs, List.mem_range.2 hk, fun j hj => by rw [h j hj]; rfl⟩
  rw [this]
theorem sepK_no {a b : List V2} (h : ∀ i, i < a.length → sepI a b i = false) : sepK a b = -1 := by
  unfold sepK
  have : (List.range a.length).find? (sepI a b) = none := by
    rw [List.find?_eq_none]
    intro i hi
    rw [h i (List.mem_range.1 hi)]; simp
  rw [this]
noncomputable def sepL (a b : List V2) : Int := if polyB a = true ∧ polyB b = true then sepK a b else -1
theorem sepL_a {a b : List V2} (h : polyB a = false) : sepL a b = -1 := by unfold sepL; rw [if_neg (by simp [h])]
theorem sepL_b {a b : List V2} (h : polyB b = false) : sepL a b = -1 := by unfold sepL; rw [if_neg (by simp [h])]
theorem sepL_is {a b : List V2} (h1 : polyB a = true) (h2 : polyB b = true) : sepL a b = sepK a b := by unfold sepL; rw [if_pos ⟨h1, h2⟩]
noncomputable def touB (a b : List V2) : Bool := polyB a && (polyB b && (decide (sepL a b < 0) && decide (sepL b a < 0)))
/-- least and greatest coordinates of the corners up to k -/
def loN (l : List V2) : Nat → V2
  | 0 => atV l 0
  | k + 1 => (min (loN l k).1 (atV l k).1, min (loN l k).2 (atV l k).2)
def hiN (l : List V2) : Nat → V2
  | 0 => atV l 0
  | k + 1 => (max (hiN l k).1 (atV l k).1, max (hiN l k).2 (atV l k).2)
theorem loN_mem (l : List V2) (h0 : 0 < l.length) : ∀ k, k ≤ l.length → (∃ i, i < l.length ∧ (loN l k).1 = (atV l i).1) ∧ (∃ i, i < l.length ∧ (loN l k).2 = (atV l i).2) := by
  intro k
  induction k with
  | zero => intro _; exact ⟨⟨0, h0, rfl⟩, ⟨0, h0, rfl⟩⟩
  | succ k ih =>
    intro hk
    obtain ⟨i1, i2⟩ := ih (by omega)
    constructor
    · show ∃ i, i < l.length ∧ min (loN l k).1 (atV l k).1 = (atV l i).1
      by_cases c : (loN l k).1 ≤ (atV l k).1
      · rw [Int.min_eq_left c]; exact i1
      · rw [Int.min_eq_right (by omega)]; exact ⟨k, by omega, rfl⟩
    · show ∃ i, i < l.length ∧ min (loN l k).2 (atV l k).2 = (atV l i).2
      by_cases c : (loN l k).2 ≤ (atV l k).2
      · rw [Int.min_eq_left c]; exact i2
      · rw [Int.min_eq_right (by omega)]; exact ⟨k, by omega, rfl⟩
theorem hiN_mem (l : List V2) (h0 : 0 < l.length) : ∀ k, k ≤ l.length → (∃ i, i < l.length ∧ (hiN l k).1 = (atV l i).1) ∧ (∃ i, i < l.length ∧ (hiN l k).2 = (atV l i).2) := by
  intro k
  induction k with
  | zero => intro _; exact ⟨⟨0, h0, rfl⟩, ⟨0, h0, rfl⟩⟩
  | succ k ih =>
    intro hk
    obtain ⟨i1, i2⟩ := ih (by omega)
    constructor
    · show ∃ i, i < l.length ∧ max (hiN l k).1 (atV l k).1 = (atV l i).1
      by_cases c : (hiN l k).1 ≤ (atV l k).1
      · rw [Int.max_eq_right c]; exact ⟨k, by omega, rfl⟩
      · rw [Int.max_eq_left (by omega)]; exact i1
    · show ∃ i, i < l.length ∧ max (hiN l k).2 (atV l k).2 = (atV l i).2
      by_cases c : (hiN l k).2 ≤ (atV l k).2
      · rw [Int.max_eq_right c]; exact ⟨k, by omega, rfl⟩
      · rw [Int.max_eq_left (by omega)]; exact i2
theorem loN_vec {l : List V2} (h : polyP l) {k : Nat} (hk : k ≤ l.length) : vecV (loN l k) = true := by
  obtain ⟨⟨i, hi, e⟩, ⟨j, hj, e'⟩⟩ := loN_mem l (by have := h.1; omega) k hk
  have h1 := vecB_bounds (poly_vec h hi)
  have h2 := vecB_bounds (poly_vec h hj)
  unfold vecV vecB
  simp; omega
theorem hiN_vec {l : List V2} (h : polyP l) {k : Nat} (hk : k ≤ l.length) : vecV (hiN l k) = true := by
  obtain ⟨⟨i, hi, e⟩, ⟨j, hj, e'⟩⟩ := hiN_mem l (by have := h.1; omega) k hk
  have h1 := vecB_bounds (poly_vec h hi)
  have h2 := vecB_bounds (poly_vec h hj)
  unfold vecV vecB
  simp; omega
noncomputable def loB (l : List V2) : V2 := if polyB l = true then loN l l.length else (0, 0)
noncomputable def hiB (l : List V2) : V2 := if polyB l = true then hiN l l.length else (0, 0)
theorem loB_no {l : List V2} (h : polyB l = false) : loB l = (0, 0) := by unfold loB; rw [if_neg (by simp [h])]
theorem hiB_no {l : List V2} (h : polyB l = false) : hiB l = (0, 0) := by unfold hiB; rw [if_neg (by simp [h])]
theorem loB_is {l : List V2} (h : polyB l = true) : loB l = loN l l.length := by unfold loB; rw [if_pos h]
theorem hiB_is {l : List V2} (h : polyB l = true) : hiB l = hiN l l.length := by unfold hiB; rw [if_pos h]
/-- each corner moved by v, where all of them stay in range -/
def mvL (l : List V2) (v : V2) : List V2 := if vecV v = true ∧ allV (l.map fun p => addV p v) = true then l.map fun p => addV p v else []
theorem mvL_wf {l : List V2} (v : V2) : wfV (mvL l v) := by
  unfold mvL
  split
  · rename_i h
    intro x hx
    have := vecB_bounds (List.all_eq_true.1 h.2 x hx)
    exact ⟨WalkArith.wf_i64 ⟨by omega, by omega⟩, WalkArith.wf_i64 ⟨by omega, by omega⟩⟩
  · intro x hx; simp at hx
theorem mvL_len {l : List V2} (v : V2) : (mvL l v).length ≤ l.length := by
  unfold mvL
  split
  · simp
  · simp
noncomputable def orgL (l : List V2) : List V2 := if polyB l = true then mvL l (ng (loN l l.length)) else []
theorem orgL_no {l : List V2} (h : polyB l = false) : orgL l = [] := by unfold orgL; rw [if_neg (by simp [h])]
theorem orgL_is {l : List V2} (h : polyB l = true) : orgL l = mvL l (ng (loN l l.length)) := by unfold orgL; rw [if_pos h]
end Go.Proofs.Ytdagomikjblgiaa
