/-
  Points said of numbers: which point an operation makes.
-/
import Derived.Test.YtdcceppednngjabPT
import Derived.Test.YtdcceppednngjabRatN0
namespace Go.Proofs.Ytdcceppednngjab
open Go.RowKit
set_option linter.unusedVariables false
/-- the fraction z over d, small -/
def IsS (Z : RQ) (z : Int) (d B : Nat) : Prop := IsR Z z d ∧ z.natAbs ≤ B ∧ d ≤ B
section
variable {Z Y : RQ} {z y : Int} {d e B C : Nat}
theorem IsS.valid (h : IsS Z z d B) : ratQ Z = true := h.1.2.1
theorem IsS.fit (h : IsS Z z d B) : QFit Z := by rw [h.1.1]; exact lowR_fit _ _
theorem IsS.dpos (h : IsS Z z d B) : 0 < d := h.1.dpos
theorem ab_mul {a b : Int} {B C : Nat} (h : a.natAbs ≤ B) (k : b.natAbs ≤ C) : (a * b).natAbs ≤ B * C := by rw [Int.natAbs_mul]; exact Nat.mul_le_mul h k
theorem IsS.add (h : IsS Z z d B) (k : IsS Y y e C) (hB : 2 * (B * C) < 1000000000 ^ 24) : IsS (addQ Z Y) (z * e + y * d) (d * e) (2 * (B * C)) := by
  obtain ⟨h1, h2, h3⟩ := h
  obtain ⟨k1, k2, k3⟩ := k
  have a1 : (z * (e : Int)).natAbs ≤ B * C := ab_mul h2 (by simpa using k3)
  have a2 : (y * (d : Int)).natAbs ≤ C * B := ab_mul k2 (by simpa using h3)
  rw [Nat.mul_comm C B] at a2
  have a3 : d * e ≤ B * C := Nat.mul_le_mul h3 k3
  rw [show addQ Z Y = lowR (z * e + y * d) (d * e) from addR_is h1 k1]
  exact ⟨isR (Nat.mul_pos h1.dpos k1.dpos) (by omega) (by omega), by omega, by omega⟩
theorem IsS.sign (h : IsS Z z d B) : signQ Z = cmpV z 0 := signR_is h.1
theorem low_S {z : Int} {d B : Nat} (h0 : 0 < d) (hz : z.natAbs ≤ B) (hd : d ≤ B) (hB : B < 1000000000 ^ 24) : IsS (lowR z d) z d B := ⟨isR h0 (by omega) (by omega), hz, hd⟩
end
theorem intQ_low (a : Int) (ha : a.natAbs ≤ 1000) : intQ a = lowR a 1 := by
  have hp : (1000 : Nat) < 1000000000 ^ 24 := by decide +kernel
  have hq : (1000 : Nat) < 1000000000 ^ 60 := by decide +kernel
  have hc : capZ a = (decide (a < 0), limbs a.natAbs) := Prod.ext (capZ_sign a (Nat.lt_of_le_of_lt ha hq)) (capL_of (Nat.lt_of_le_of_lt ha hq))
  rw [intQ, hc, lowR, Nat.gcd_one_right, Nat.div_one, Nat.div_one, limbs_one, if_pos ⟨by omega, limbs_len.2 (by omega), by decide⟩]
/-- the point x over d, y over e -/
def IsP (P : PQ) (x : Int) (d : Nat) (y : Int) (e B : Nat) : Prop := IsS P.1 x d B ∧ IsS P.2 y e B
theorem IsP.fit {P : PQ} {x y : Int} {d e B : Nat} (h : IsP P x d y e B) : PFit P := ⟨h.1.fit, h.2.fit⟩
theorem IsP.valid {P : PQ} {x y : Int} {d e B : Nat} (h : IsP P x d y e B) : (ratQ P.1 && ratQ P.2) = true := by rw [h.1.valid, h.2.valid]; rfl
theorem IsP.sure {P : PQ} {x y : Int} {d e B : Nat} (h : IsP P x d y e B) : sureP P = P := by rw [sureP, validP, h.valid]; rfl
section
variable {P Q R : PQ} {px py qx qy rx ry : Int} {pd pe qd qe rd re : Nat}
end
end Go.Proofs.Ytdcceppednngjab
