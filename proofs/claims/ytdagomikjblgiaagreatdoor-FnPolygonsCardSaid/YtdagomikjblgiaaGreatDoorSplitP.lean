/-
  The pieces of a string: plain.
-/
import Derived.Test.YtdagomikjblgiaaGreatDoorSJ
import Derived.OwnWalk
namespace Go.Proofs.YtdagomikjblgiaaGreatDoor
open Go.RowKit
set_option linter.unusedVariables false



/-- does the byte occur in by, before place i? -/
def cutB (by_ : ByteArray) (i : Nat) (c : UInt8) : Bool := decide (∃ k, ∃ h : k < by_.size, k < i ∧ by_[k] = c)

theorem cutB_zero (b : ByteArray) (c : UInt8) : cutB b 0 c = false := by
  simp only [cutB, decide_eq_false_iff_not]; intro ⟨k, _, h, _⟩; omega

theorem cutB_hit {b : ByteArray} {i : Nat} (hi : i < b.size) : cutB b (i + 1) b[i] = true := decide_eq_true ⟨i, hi, by omega, rfl⟩

theorem cutB_step {b : ByteArray} {i : Nat} {c : UInt8} (hi : i < b.size) (h : b[i] ≠ c) : cutB b (i + 1) c = cutB b i c := by
  unfold cutB
  apply decide_eq_decide.2
  constructor
  · rintro ⟨k, hk, hki, hc⟩
    by_cases e : k = i
    · subst e; exact absurd hc h
    · exact ⟨k, hk, by omega, hc⟩
  · rintro ⟨k, hk, hki, hc⟩; exact ⟨k, hk, by omega, hc⟩

/-- the pieces that are complete before place i, and where the next one begins -/
def pieces (s by_ : ByteArray) : Nat → List ByteArray × Nat
  | 0 => ([], 0)
  | i + 1 => if cutB by_ by_.size (s.data.getD i 0) then ((pieces s by_ i).1 ++ [s.extract (pieces s by_ i).2 i], i + 1) else pieces s by_ i

theorem data_getD {s : ByteArray} {i : Nat} (h : i < s.size) : s.data.getD i 0 = s[i] := by
  have h' : i < s.data.size := h
  simp [Array.getD, h]; rfl

theorem pieces_cut {s b : ByteArray} {i : Nat} (hi : i < s.size) (h : cutB b b.size s[i] = true) : pieces s b (i + 1) = ((pieces s b i).1 ++ [s.extract (pieces s b i).2 i], i + 1) := by
  rw [pieces, data_getD hi, if_pos h]

theorem pieces_none {s b : ByteArray} {i : Nat} (hi : i < s.size) (h : cutB b b.size s[i] = false) : pieces s b (i + 1) = pieces s b i := by
  rw [pieces, data_getD hi, if_neg (by rw [h]; simp)]

theorem pieces_le (s b : ByteArray) : ∀ i, (pieces s b i).2 ≤ i ∧ (pieces s b i).1.length ≤ i
  | 0 => ⟨Nat.le_refl _, Nat.le_refl _⟩
  | i + 1 => by
    have ih := pieces_le s b i
    rw [pieces]
    split
    · exact ⟨Nat.le_refl _, by simp; omega⟩
    · omega

def splitL (s b : ByteArray) : List ByteArray := (pieces s b s.size).1 ++ [s.extract (pieces s b s.size).2 s.size]

theorem splitL_len (s b : ByteArray) : 0 < (splitL s b).length ∧ (splitL s b).length ≤ s.size + 1 := by
  have := pieces_le s b s.size
  simp [splitL]; omega
end Go.Proofs.YtdagomikjblgiaaGreatDoor
