/-
  Digits: plain.
-/
import Derived.Test.YtcainjgcfbgddaaMem
namespace Go.Proofs.Ytcainjgcfbgddaa
open Go.RowKit
set_option linter.unusedVariables false



/-! ### plain -/
/-- is the byte a decimal digit? -/
def digB (c : UInt8) : Bool := decide (48 ≤ c.toNat ∧ c.toNat ≤ 57)

def lowB (c : UInt8) : Bool := decide (97 ≤ c.toNat ∧ c.toNat ≤ 122)

/-- at least one byte, all digits -/
def digsB (s : ByteArray) : Bool := decide (0 < s.size ∧ ∀ i (h : i < s.size), digB s[i] = true)

theorem digsB_true {s : ByteArray} (h0 : 0 < s.size) (h : ∀ i (h : i < s.size), digB s[i] = true) : digsB s = true := by
  simp [digsB, h0]; exact h

theorem digsB_bad {s : ByteArray} {i : Nat} (hi : i < s.size) (h : digB s[i] = false) : digsB s = false := by
  simp only [digsB, decide_eq_false_iff_not]
  intro ⟨_, h2⟩
  have := h2 i hi
  rw [h] at this; cases this

theorem digsB_nil {s : ByteArray} (h : s.size = 0) : digsB s = false := by
  simp [digsB, h]
end Go.Proofs.Ytcainjgcfbgddaa
