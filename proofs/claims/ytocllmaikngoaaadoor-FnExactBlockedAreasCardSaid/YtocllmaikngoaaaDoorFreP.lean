/-
  Free placements: plain: the robot at a heading, the rectangle for its origin, the blocked areas.
-/
import Derived.Test.YtocllmaikngoaaaDoorSB
import Derived.Test.YtocllmaikngoaaaDoorSA
import Derived.Test.YtocllmaikngoaaaDoorHP
import Derived.Test.YtocllmaikngoaaaDoorSP
namespace Go.Proofs.YtocllmaikngoaaaDoor
open Go.RowKit
set_option linter.unusedVariables false
def hdgB (k : Int) : Bool := decide (0 ≤ k ∧ k ≤ 3)
/-- the robot at a heading -/
noncomputable def robL (S : Scn) (k : Int) : List V2 := if (scnB S && hdgB k) = true then turnL S.r k else []
theorem robL_is {S : Scn} {k : Int} (h : scnB S = true) (hk : hdgB k = true) : robL S k = turnL S.r k := by unfold robL; rw [h, hk]; rfl
theorem robL_no {S : Scn} {k : Int} (h : (scnB S && hdgB k) = false) : robL S k = [] := by unfold robL; rw [h]; rfl
theorem scn_solid {S : Scn} (h : scnB S = true) : solB 20 S.r = true ∧ obsB S.o = true ∧ roomB S.lx S.ly S.hx S.hy = true := by
  unfold scnB at h
  simp only [Bool.and_eq_true] at h
  exact ⟨h.2.1, h.2.2.1, h.1⟩
theorem solid_is {m : Int} {l : List V2} (h : solB m l = true) : l.length ≤ 5 ∧ polyB l = true ∧ allV l = true := by
  unfold solB at h
  simp only [Bool.and_eq_true, decide_eq_true_eq] at h
  have hpp := polyB_iff.1 h.2.1
  exact ⟨h.1, h.2.1, List.all_eq_true.2 fun x hx => by obtain ⟨i, hi, rfl⟩ := List.getElem_of_mem hx; have h9 := poly_vec hpp hi; rwa [atV_eq hi] at h9⟩
theorem robL_len (S : Scn) (k : Int) : (robL S k).length ≤ 5 := by
  by_cases h : (scnB S && hdgB k) = true
  · have h' := h
    simp only [Bool.and_eq_true] at h'
    rw [robL_is h'.1 h'.2]
    exact Nat.le_trans (turnL_len _ _) (solid_is (scn_solid h'.1).1).1
  · rw [robL_no (by simpa using h)]; exact Nat.zero_le _
theorem robL_wf (S : Scn) (k : Int) : wfV (robL S k) := by
  by_cases h : (scnB S && hdgB k) = true
  · have h' := h
    simp only [Bool.and_eq_true] at h'
    rw [robL_is h'.1 h'.2]
    exact turnL_wf _ _
  · rw [robL_no (by simpa using h)]
    intro v hv; simp at hv
theorem robL_ne {S : Scn} {k : Int} (h : scnB S = true) (hk : hdgB k = true) : robL S k ≠ [] := by
  obtain ⟨_, h1, h2⟩ := solid_is (scn_solid h).1
  rw [robL_is h hk, turnL_yes h2]
  have h3 := (polyB_iff.1 h1).1
  intro e
  have := congrArg List.length e
  rw [List.length_map] at this
  simp at this
  rw [this] at h3
  simp at h3
structure Bx where
  lx : Int
  ly : Int
  hx : Int
  hy : Int
theorem rob_scn {S : Scn} {k : Int} (h : robL S k ≠ []) : scnB S = true ∧ hdgB k = true := by
  by_cases c : (scnB S && hdgB k) = true
  · simpa using c
  · exact absurd (robL_no (by simpa using c)) h
/-- the blocked areas -/
noncomputable def arsL (S : Scn) (k : Int) : List (List V2) := if robL S k = [] then [] else S.o.map fun o => obsL (robL S k) o
theorem arsL_no {S : Scn} {k : Int} (h : robL S k = []) : arsL S k = [] := by unfold arsL; rw [if_pos h]
theorem arsL_is {S : Scn} {k : Int} (h : robL S k ≠ []) : arsL S k = S.o.map fun o => obsL (robL S k) o := by unfold arsL; rw [if_neg h]
theorem obsL_wf (a b : List V2) : wfV (obsL a b) := sumL_wf _ _
theorem obsL_len (a b : List V2) : (obsL a b).length ≤ 16 := by
  unfold obsL sumL
  split
  · rename_i h
    exact (polyB_iff.1 h.2.2).2.1
  · simp
theorem scn_obs {S : Scn} (h : scnB S = true) : S.o.length ≤ 4 := by
  have := (scn_solid h).2.1
  unfold obsB at this
  simp only [Bool.and_eq_true, decide_eq_true_eq] at this
  exact this.1
theorem arsL_len (S : Scn) (k : Int) : (arsL S k).length ≤ 4 := by
  by_cases h : robL S k = []
  · rw [arsL_no h]; exact Nat.zero_le _
  · rw [arsL_is h, List.length_map]; exact scn_obs (rob_scn h).1
theorem arsL_at {S : Scn} {k : Int} {l : List V2} (h : l ∈ arsL S k) : l.length ≤ 16 ∧ wfV l := by
  unfold arsL at h
  split at h
  · simp at h
  · obtain ⟨o, _, rfl⟩ := List.mem_map.1 h
    exact ⟨obsL_len _ _, obsL_wf _ _⟩
theorem totN_few : ∀ (L : List (List V2)), (∀ l ∈ L, l.length ≤ 16) → totN L ≤ L.length * 16
  | [], _ => by simp [totN]
  | l :: L, h => by
    have h1 := h l (by simp)
    have h2 := totN_few L fun x hx => h x (by simp [hx])
    have e : totN (l :: L) = l.length + totN L := by simp [totN]
    rw [e, List.length_cons]
    omega
theorem arsL_tot (S : Scn) (k : Int) : totN (arsL S k) ≤ 64 := by
  have h1 := totN_few (arsL S k) fun l hl => (arsL_at hl).1
  have h2 := arsL_len S k
  omega
end Go.Proofs.YtocllmaikngoaaaDoor
