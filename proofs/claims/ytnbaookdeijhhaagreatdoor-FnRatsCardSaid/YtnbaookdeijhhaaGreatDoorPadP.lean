/-
  Zeros in front of a text. Of no program.
-/
import Derived.Test.YtnbaookdeijhhaaGreatDoorJoinI
import Derived.Lib.Repeat
namespace Go.Proofs.YtnbaookdeijhhaaGreatDoor
open Go.RowKit
set_option linter.unusedVariables false

/-- k zeros in front of the bytes -/
def padL (k : Nat) (l : List UInt8) : List UInt8 := List.replicate k 48 ++ l
def padB (s : ByteArray) (n : Int) : ByteArray := if n > 2000 then s else ⟨(padL (n - s.size).toNat s.data.toList).toArray⟩
theorem repeat_zero (k : Nat) : Lib.repeatL [48] k = List.replicate k 48 := by
  induction k with
  | zero => rfl
  | succ k ih => rw [Lib.repeatL, ih]; rfl
theorem pad_same {s : ByteArray} {n : Int} (h : n ≤ s.size ∨ 2000 < n) : padB s n = s := by
  unfold padB
  by_cases h2 : n > 2000
  · rw [if_pos h2]
  · rw [if_neg h2, show (n - s.size).toNat = 0 by omega]
    exact Go.Joins.bytes_eta s
end Go.Proofs.YtnbaookdeijhhaaGreatDoor
