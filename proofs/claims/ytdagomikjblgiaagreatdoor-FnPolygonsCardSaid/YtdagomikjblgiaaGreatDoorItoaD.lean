/-
  Plain facts on decimal numerals: what a numeral's text parses to. Of no program.
-/
import Derived.Test.YtdagomikjblgiaaGreatDoorMem
import Derived.Lib.ItoaMem
namespace Go.Proofs.YtdagomikjblgiaaGreatDoor
open Go.RowKit

/-! ### the digits of a number -/
def dgt (n : Nat) : UInt8 := UInt8.ofNat (48 + n)
theorem dgt_nat {n : Nat} (h : n < 10) : (dgt n).toNat = 48 + n := by simp [dgt]; omega
theorem dec_one {k : Nat} (h : k < 10) : Lib.decDigits k = [dgt k] := Lib.decDigits_one h
theorem dec_more {k : Nat} (h : 9 < k) : Lib.decDigits k = Lib.decDigits (k / 10) ++ [dgt (k % 10)] := by
  conv => lhs; rw [Lib.decDigits]
  rw [dif_neg (by omega)]; rfl
theorem dec_len (k : Nat) : (Lib.decDigits k).length ≤ k + 1 := by
  induction k using Nat.strongRecOn with
  | _ k ih =>
    by_cases h : k < 10
    · rw [dec_one h]; simp
    · rw [dec_more (by omega), List.length_append, List.length_singleton]
      have := ih (k / 10) (by omega)
      omega
theorem dec_pos (k : Nat) : 0 < (Lib.decDigits k).length := by
  by_cases h : k < 10
  · rw [dec_one h]; simp
  · rw [dec_more (by omega)]; simp
theorem dec_digit (k : Nat) : ∀ c ∈ Lib.decDigits k, 48 ≤ c.toNat ∧ c.toNat ≤ 57 := by
  induction k using Nat.strongRecOn with
  | _ k ih =>
    intro c hc
    by_cases h : k < 10
    · rw [dec_one h, List.mem_singleton] at hc
      subst hc; rw [dgt_nat h]; omega
    · rw [dec_more (by omega), List.mem_append, List.mem_singleton] at hc
      rcases hc with hc | rfl
      · exact ih (k / 10) (by omega) c hc
      · rw [dgt_nat (by omega)]; omega
/-- the value of digits -/
def dval (l : List UInt8) : Nat := l.foldl (fun a c => a * 10 + (c.toNat - 48)) 0
theorem dval_snoc (l : List UInt8) (c : UInt8) : dval (l ++ [c]) = dval l * 10 + (c.toNat - 48) := by simp [dval]
theorem dval_dec (k : Nat) : dval (Lib.decDigits k) = k := by
  induction k using Nat.strongRecOn with
  | _ k ih =>
    by_cases h : k < 10
    · rw [dec_one h]; simp [dval, dgt_nat h]
    · rw [dec_more (by omega), dval_snoc, ih (k / 10) (by omega), dgt_nat (by omega)]
      omega
theorem dval_fold (l : List UInt8) : ∀ a, l.foldl (fun a c => a * 10 + (c.toNat - 48)) a = a * 10 ^ l.length + dval l := by
  induction l with
  | nil => intro a; simp [dval]
  | cons c r ih =>
    intro a
    have e : dval (c :: r) = r.foldl (fun a c => a * 10 + (c.toNat - 48)) (0 * 10 + (c.toNat - 48)) := rfl
    rw [List.foldl_cons, ih, e, ih (0 * 10 + _), List.length_cons, Nat.pow_succ, Nat.zero_mul, Nat.zero_add, Nat.add_mul, Nat.mul_assoc, Nat.mul_comm 10, Nat.add_assoc]
/-! ### the numeral of an int -/
def itoaB (n : Int) : ByteArray := ⟨(Lib.itoa n).toArray⟩
theorem itoaB_data (n : Int) : (itoaB n).data.toList = Lib.itoa n := by simp [itoaB]
end Go.Proofs.YtdagomikjblgiaaGreatDoor
