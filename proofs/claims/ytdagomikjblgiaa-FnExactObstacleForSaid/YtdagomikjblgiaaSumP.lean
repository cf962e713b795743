/-
  Sums of two polygons: how many corners, what lies inside, what separates two polygons.
-/
import Derived.Test.YtdagomikjblgiaaHulM
import Derived.Test.YtdagomikjblgiaaPolM
namespace Go.Proofs.Ytdagomikjblgiaa
open Go.RowKit
set_option linter.unusedVariables false
def addV (u v : V2) : V2 := (u.1 + v.1, u.2 + v.2)
def sumV (a b : List V2) : List V2 := a.flatMap fun v => b.map fun w => addV v w
theorem sumV_mem {a b : List V2} {x : V2} : x ∈ sumV a b ↔ ∃ p, p ∈ a ∧ ∃ q, q ∈ b ∧ addV p q = x := by simp [sumV]
theorem sumV_len (a b : List V2) : (sumV a b).length = a.length * b.length := by
  induction a with
  | nil => simp [sumV]
  | cons v a ih =>
    have e : sumV (v :: a) b = b.map (fun w => addV v w) ++ sumV a b := by simp [sumV]
    rw [e, List.length_append, ih, List.length_map, List.length_cons, Nat.add_mul]; omega
theorem mem_at {l : List V2} {x : V2} (h : x ∈ l) : ∃ i, i < l.length ∧ atV l i = x := by
  obtain ⟨i, hi, e⟩ := List.getElem_of_mem h
  exact ⟨i, hi, by rw [atV_eq hi, e]⟩
section
variable {a b : List V2} (hl : (sumV a b).length ≤ 64) (hv : allV (sumV a b) = true) (h2 : 2 ≤ (srtV (sumV a b)).length) (h3 : 3 ≤ (hullV (sumV a b)).length)
include hl hv h2 h3
end
end Go.Proofs.Ytdagomikjblgiaa
