/-
  The laws' helpers for lists of integers: markIntS, heldIntS: contracts.
-/
import Derived.Test.YtcainjgcfbgddaaDoorOwn
namespace Go.Proofs.YtcainjgcfbgddaaDoor
open Go.RowKit
set_option linter.unusedVariables false

/-! ### markIntS, heldIntS: the marks from k on -/
def marksI (k n : Nat) : List Int := (List.range n).map fun i => ((k + i : Nat) : Int)
theorem marksI_len (k n : Nat) : (marksI k n).length = n := by simp [marksI]
theorem marksI_at {k n i : Nat} (h : i < n) : (marksI k n)[i]'(by rw [marksI_len]; exact h) = ((k + i : Nat) : Int) := by simp [marksI]
def markFI (k : Nat) (i : Nat) : Value := .int .i64 ((k + i : Nat) : Int)
theorem marksI_fill {k n : Nat} {ys : List Value} (h : ys.length = n) : fillTo (markFI k) ys n = iv (marksI k n) := by
  rw [fillTo_all h]; simp [iv, marksI, markFI, Function.comp_def]

end Go.Proofs.YtcainjgcfbgddaaDoor
