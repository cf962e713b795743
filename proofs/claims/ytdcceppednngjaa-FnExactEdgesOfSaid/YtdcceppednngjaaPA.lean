/-
  The texts NatP, put together; each has its own heading below. No condition of ours.
-/
import Derived.Test.YtdcceppednngjaaMem
/-
  Natural numbers as lists of limbs: plain mathematics. Of no program.
-/

namespace Go.Proofs.Ytdcceppednngjaa
open Go.RowKit
set_option linter.unusedVariables false

/-- every limb from 0 to Base - 1 -/
def Limbs (l : List Int) : Prop := ∀ d ∈ l, 0 ≤ d ∧ d ≤ 999999999
/-- no zero limb at the end -/
def Canon (l : List Int) : Prop := Limbs l ∧ ∀ d, l.getLast? = some d → d ≠ 0
/-- the value -/
def val : List Int → Int
  | [] => 0
  | d :: r => d + 1000000000 * val r
/-- the limbs of a number -/
def limbs (n : Nat) : List Int := if h : n = 0 then [] else ((n % 1000000000 : Nat) : Int) :: limbs (n / 1000000000)
  termination_by n
  decreasing_by omega
theorem Limbs.cons {d : Int} {r : List Int} (h : Limbs (d :: r)) : (0 ≤ d ∧ d ≤ 999999999) ∧ Limbs r := ⟨h d (List.mem_cons_self ..), fun x hx => h x (List.mem_cons_of_mem _ hx)⟩
theorem Limbs.nil : Limbs [] := fun d hd => by simp at hd
theorem Limbs.mk {d : Int} {r : List Int} (h : 0 ≤ d ∧ d ≤ 999999999) (hr : Limbs r) : Limbs (d :: r) := fun x hx => by
  rw [List.mem_cons] at hx
  rcases hx with rfl | hx
  · exact h
  · exact hr x hx
theorem Limbs.append {l r : List Int} (h : Limbs l) (hr : Limbs r) : Limbs (l ++ r) := fun x hx => by
  rw [List.mem_append] at hx
  rcases hx with hx | hx
  · exact h x hx
  · exact hr x hx
theorem Limbs.take {l : List Int} (h : Limbs l) (k : Nat) : Limbs (l.take k) := fun x hx => h x (List.mem_of_mem_take hx)
theorem Limbs.drop {l : List Int} (h : Limbs l) (k : Nat) : Limbs (l.drop k) := fun x hx => h x (List.mem_of_mem_drop hx)
theorem val_append (l r : List Int) : val (l ++ r) = val l + 1000000000 ^ l.length * val r := by
  induction l with
  | nil => simp [val]
  | cons d l ih =>
    rw [List.cons_append, val, val, ih, List.length_cons, Int.pow_succ, Int.mul_add, Int.add_assoc, ← Int.mul_assoc, Int.mul_comm (1000000000 ^ l.length)]
theorem val_lt {l : List Int} (h : Limbs l) : val l < 1000000000 ^ l.length := by
  induction l with
  | nil => simp [val]
  | cons d r ih =>
    have := ih h.cons.2
    have := h.cons.1
    rw [val, List.length_cons, Int.pow_succ]
    omega
theorem Canon.nil : Canon [] := ⟨Limbs.nil, fun d hd => by simp at hd⟩

/-! ### without the zeros at the end -/
/-! ### what the chapter's functions answer -/
/-! ### order -/
end Go.Proofs.Ytdcceppednngjaa
