/-
  The texts NatP, DigP, NatQ, put together; each has its own heading below. No condition of ours.
-/
import Derived.Test.YtfajcogkbmefjaaDoorMem
/-
  Natural numbers as lists of limbs: plain mathematics. Of no program.
-/

namespace Go.Proofs.YtfajcogkbmefjaaDoor
open Go.RowKit
set_option linter.unusedVariables false

/-- every limb from 0 to Base - 1 -/
def Limbs (l : List Int) : Prop := ∀ d ∈ l, 0 ≤ d ∧ d ≤ 999999999
/-- no zero limb at the end -/
def Canon (l : List Int) : Prop := Limbs l ∧ ∀ d, l.getLast? = some d → d ≠ 0
/-- the value -/
def val : List Int → Int
  | [] => 0
  | d :: r => d + 1000000000 * val r
/-- the limbs of a number -/
def limbs (n : Nat) : List Int := if h : n = 0 then [] else ((n % 1000000000 : Nat) : Int) :: limbs (n / 1000000000)
  termination_by n
  decreasing_by omega
theorem Limbs.cons {d : Int} {r : List Int} (h : Limbs (d :: r)) : (0 ≤ d ∧ d ≤ 999999999) ∧ Limbs r := ⟨h d (List.mem_cons_self ..), fun x hx => h x (List.mem_cons_of_mem _ hx)⟩
theorem Limbs.nil : Limbs [] := fun d hd => by simp at hd
theorem Limbs.mk {d : Int} {r : List Int} (h : 0 ≤ d ∧ d ≤ 999999999) (hr : Limbs r) : Limbs (d :: r) := fun x hx => by
  rw [List.mem_cons] at hx
  rcases hx with rfl | hx
  · exact h
  · exact hr x hx
theorem Limbs.append {l r : List Int} (h : Limbs l) (hr : Limbs r) : Limbs (l ++ r) := fun x hx => by
  rw [List.mem_append] at hx
  rcases hx with hx | hx
  · exact h x hx
  · exact hr x hx
theorem Limbs.take {l : List Int} (h : Limbs l) (k : Nat) : Limbs (l.take k) := fun x hx => h x (List.mem_of_mem_take hx)
theorem Limbs.drop {l : List Int} (h : Limbs l) (k : Nat) : Limbs (l.drop k) := fun x hx => h x (List.mem_of_mem_drop hx)
theorem val_nonneg {l : List Int} (h : Limbs l) : 0 ≤ val l := by
  induction l with
  | nil => simp [val]
  | cons d r ih =>
    have := ih h.cons.2
    have := h.cons.1
    rw [val]; omega
theorem val_append (l r : List Int) : val (l ++ r) = val l + 1000000000 ^ l.length * val r := by
  induction l with
  | nil => simp [val]
  | cons d l ih =>
    rw [List.cons_append, val, val, ih, List.length_cons, Int.pow_succ, Int.mul_add, Int.add_assoc, ← Int.mul_assoc, Int.mul_comm (1000000000 ^ l.length)]
theorem val_lt {l : List Int} (h : Limbs l) : val l < 1000000000 ^ l.length := by
  induction l with
  | nil => simp [val]
  | cons d r ih =>
    have := ih h.cons.2
    have := h.cons.1
    rw [val, List.length_cons, Int.pow_succ]
    omega
theorem Canon.nil : Canon [] := ⟨Limbs.nil, fun d hd => by simp at hd⟩

/-! ### without the zeros at the end -/
def trim (l : List Int) : List Int := (l.reverse.dropWhile (· == 0)).reverse
/-! ### what the chapter's functions answer -/
/-- is the list a natural number? -/
def natB (l : List Int) : Bool := l.all (fun d => decide (0 ≤ d) && decide (d ≤ 999999999)) && decide (l.length ≤ 60) && (l.getLast? != some 0)
def natV (l : List Int) : Nat := (val l).toNat
def gcdL (a b : List Int) : List Int := if natB a && natB b then limbs (Nat.gcd (natV a) (natV b)) else []
/-! ### order -/
theorem pow_pos' (k : Nat) : (0 : Int) < 1000000000 ^ k := Int.pow_pos (by omega)
end Go.Proofs.YtfajcogkbmefjaaDoor

/-
  Digits: plain.
-/

namespace Go.Proofs.YtfajcogkbmefjaaDoor
open Go.RowKit
set_option linter.unusedVariables false



/-! ### plain -/
/-- is the byte a decimal digit? -/
def digB (c : UInt8) : Bool := decide (48 ≤ c.toNat ∧ c.toNat ≤ 57)

/-- at least one byte, all digits -/
def digsB (s : ByteArray) : Bool := decide (0 < s.size ∧ ∀ i (h : i < s.size), digB s[i] = true)

theorem digsB_true {s : ByteArray} (h0 : 0 < s.size) (h : ∀ i (h : i < s.size), digB s[i] = true) : digsB s = true := by
  simp [digsB, h0]; exact h

theorem digsB_bad {s : ByteArray} {i : Nat} (hi : i < s.size) (h : digB s[i] = false) : digsB s = false := by
  simp only [digsB, decide_eq_false_iff_not]
  intro ⟨_, h2⟩
  have := h2 i hi
  rw [h] at this; cases this

theorem digsB_nil {s : ByteArray} (h : s.size = 0) : digsB s = false := by
  simp [digsB, h]
end Go.Proofs.YtfajcogkbmefjaaDoor

/-
  A natural number's text, in groups of nine digits. Of no program.
-/


namespace Go.Proofs.YtfajcogkbmefjaaDoor
open Go.RowKit
set_option linter.unusedVariables false

/-- the digit at place i -/
def dg (s : ByteArray) (i : Nat) : Int := if h : i < s.size then (s[i].toNat : Int) - 48 else 0
/-- the number that k digits from place a on tell -/
def numL (s : ByteArray) (a : Nat) : Nat → Int
  | 0 => 0
  | k + 1 => numL s a k * 10 + dg s (a + k)
/-- the groups of the first e digits, the last group first -/
def parts (s : ByteArray) (e : Nat) : List Int := if h : e = 0 then [] else numL s (e - 9) (e - (e - 9)) :: parts s (e - 9)
  termination_by e
  decreasing_by omega
/-- is the text a natural number's? -/
def parseB (s : ByteArray) : Bool := digsB s && decide (s.size ≤ 540) && !(decide (1 < s.size) && (dg s 0 == 0))
def parseL (s : ByteArray) : List Int := if parseB s then trim (parts s s.size) else []
end Go.Proofs.YtfajcogkbmefjaaDoor
