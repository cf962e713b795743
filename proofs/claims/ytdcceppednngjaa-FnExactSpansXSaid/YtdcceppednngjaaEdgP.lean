/-
  Edges: plain: which are valid, what they span, where two cross and where one has a height, told of fractions; the program's one fraction and the reference's arithmetic give the same one.
-/
import Derived.Test.YtdcceppednngjaaSG
import Derived.Test.YtdcceppednngjaaFreQ
import Derived.Test.YtdcceppednngjaaPI
namespace Go.Proofs.Ytdcceppednngjaa
open Go.RowKit
set_option linter.unusedVariables false
/-- an edge's ends are valid, and the first lies left of the second -/
def edgeB (a b c d : Int) : Bool := (vecB a b && vecB c d) && decide (a < c)
def spanB (a b c d : Int) (Z Y : RQ) : Bool := edgeB a b c d && (ratQ Z && (ratQ Y && (decide (cqR (intQ a) Z ≤ 0) && decide (0 ≤ cqR (intQ c) Y))))
theorem edge_iff {a b c d : Int} : edgeB a b c d = true ↔ ((-1000 ≤ a ∧ a ≤ 1000) ∧ (-1000 ≤ b ∧ b ≤ 1000)) ∧ ((-1000 ≤ c ∧ c ≤ 1000) ∧ (-1000 ≤ d ∧ d ≤ 1000)) ∧ a < c := by
  unfold edgeB vecB
  simp only [Bool.and_eq_true, decide_eq_true_eq, and_assoc]
theorem int_V {a : Int} (h : -1000 ≤ a ∧ a ≤ 1000) : IsV (intQ a) (a : Rat) 1000 := (intQ_V a (by omega)).mono (by omega)
/-! the height y -/
end Go.Proofs.Ytdcceppednngjaa
