/-
  Plain facts on decimal numerals: what a numeral's text parses to. Of no program.
-/
import Derived.Test.YtfajcogkbmefjaaDoorMem
import Derived.Lib.ItoaMem
namespace Go.Proofs.YtfajcogkbmefjaaDoor
open Go.RowKit

/-! ### the digits of a number -/
def dgt (n : Nat) : UInt8 := UInt8.ofNat (48 + n)
theorem dgt_nat {n : Nat} (h : n < 10) : (dgt n).toNat = 48 + n := by simp [dgt]; omega
theorem dgt_val {n : Nat} (h : n < 10) : ((dgt n).toNat : Int) = 48 + n := by rw [dgt_nat h]; simp
theorem dec_one {k : Nat} (h : k < 10) : Lib.decDigits k = [dgt k] := Lib.decDigits_one h
theorem dec_more {k : Nat} (h : 9 < k) : Lib.decDigits k = Lib.decDigits (k / 10) ++ [dgt (k % 10)] := by
  conv => lhs; rw [Lib.decDigits]
  rw [dif_neg (by omega)]; rfl
theorem dec_len (k : Nat) : (Lib.decDigits k).length ≤ k + 1 := by
  induction k using Nat.strongRecOn with
  | _ k ih =>
    by_cases h : k < 10
    · rw [dec_one h]; simp
    · rw [dec_more (by omega), List.length_append, List.length_singleton]
      have := ih (k / 10) (by omega)
      omega
/-! ### the numeral of an int -/
def itoaB (n : Int) : ByteArray := ⟨(Lib.itoa n).toArray⟩
theorem itoaB_data (n : Int) : (itoaB n).data.toList = Lib.itoa n := by simp [itoaB]
theorem itoaB_nat (k : Nat) : itoaB k = ⟨(Lib.decDigits k).toArray⟩ := by rw [itoaB, Lib.itoa_nonneg]
theorem itoaB_neg {k : Nat} (h : 1 ≤ k) : itoaB (-(k : Int)) = ⟨(45 :: Lib.decDigits k).toArray⟩ := by rw [itoaB, Lib.itoa_neg k h]
end Go.Proofs.YtfajcogkbmefjaaDoor
