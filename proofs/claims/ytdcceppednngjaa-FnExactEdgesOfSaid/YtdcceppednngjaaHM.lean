/-
  The texts PolM, put together; each has its own heading below. No condition of ours.
-/
import Derived.Test.YtdcceppednngjaaVecM
import Derived.Test.YtdcceppednngjaaPI
/-
  Polygons, said of lists of vectors.
-/


namespace Go.Proofs.Ytdcceppednngjaa
open Go.RowKit
set_option linter.unusedVariables false
def vecV (v : V2) : Bool := vecB v.1 v.2
def tV (a b c : V2) : Int := turnI a.1 a.2 b.1 b.2 c.1 c.2
def atV (l : List V2) (i : Nat) : V2 := l.getD i (0, 0)
theorem atV_eq {l : List V2} {i : Nat} (h : i < l.length) : atV l i = l[i] := by simp [atV, List.getD, List.getElem?_eq_getElem h]
/-- corner j lies left of the edge that begins at corner i -/
def okE (l : List V2) (i j : Nat) : Prop := j ≠ i → j ≠ (i + 1) % l.length → 0 < tV (atV l i) (atV l ((i + 1) % l.length)) (atV l j)
def polyP (l : List V2) : Prop := 3 ≤ l.length ∧ l.length ≤ 16 ∧ ∀ i, i < l.length → ∀ j, j < l.length → okE l i j
noncomputable def polyB (l : List V2) : Bool := @decide (polyP l) (Classical.propDecidable _)
theorem polyB_iff {l : List V2} : polyB l = true ↔ polyP l := by unfold polyB; exact @decide_eq_true_iff _ (Classical.propDecidable _)
theorem polyB_no {l : List V2} (h : ¬ polyP l) : polyB l = false := by
  cases e : polyB l with
  | false => rfl
  | true => exact (h (polyB_iff.1 e)).elim
theorem tV_bad {a b c : V2} (h : vecV a = false ∨ vecV b = false ∨ vecV c = false) : tV a b c = 0 := by
  unfold tV turnI
  unfold vecV at h
  rw [if_neg]
  rcases h with h | h | h <;> simp [h]
/-- each corner of a polygon is valid -/
theorem poly_vec {l : List V2} (h : polyP l) {k : Nat} (hk : k < l.length) : vecV (atV l k) = true := by
  obtain ⟨h3, _, hE⟩ := h
  -- corner k stands right of the edge from the corner behind it
  have h1 : (k + 1) % l.length < l.length := Nat.mod_lt _ (by omega)
  have h2 : ((k + 1) % l.length + 1) % l.length < l.length := Nat.mod_lt _ (by omega)
  have n1 : k ≠ (k + 1) % l.length := by
    by_cases e : k + 1 < l.length
    · rw [Nat.mod_eq_of_lt e]; omega
    · have : k + 1 = l.length := by omega
      rw [this, Nat.mod_self]; omega
  have n2 : k ≠ ((k + 1) % l.length + 1) % l.length := by
    by_cases e : k + 1 < l.length
    · rw [Nat.mod_eq_of_lt e]
      by_cases e2 : k + 1 + 1 < l.length
      · rw [Nat.mod_eq_of_lt e2]; omega
      · have : k + 1 + 1 = l.length := by omega
        rw [this, Nat.mod_self]; omega
    · have : k + 1 = l.length := by omega
      rw [this, Nat.mod_self, Nat.mod_eq_of_lt (by omega)]; omega
  have := hE _ h1 _ hk n1 n2
  cases e : vecV (atV l k) with
  | true => rfl
  | false => rw [tV_bad (.inr (.inr e))] at this; exact absurd this (Int.lt_irrefl 0)
end Go.Proofs.Ytdcceppednngjaa
