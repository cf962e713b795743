/-
  A natural number's text: what FormatNat answers, and that ParseNat gives it back. Of no program.
-/
import Derived.Test.YtiiedfhcandjdaaGreatDoorItoaD
import Derived.Test.YtiiedfhcandjdaaGreatDoorJoinI
import Derived.Test.YtiiedfhcandjdaaGreatDoorPadP
import Derived.Test.YtiiedfhcandjdaaGreatDoorPB
namespace Go.Proofs.YtiiedfhcandjdaaGreatDoor
open Go.RowKit
set_option linter.unusedVariables false

/-- one group of nine digits -/
def grp (d : Int) : ByteArray := padB (itoaB d) 9
/-- the groups of a number's text, the first one first, j of them behind it -/
def tx (a : List Int) : Nat → List ByteArray
  | 0 => [itoaB (a.getD (a.length - 1) 0)]
  | j + 1 => tx a j ++ [grp (a.getD (a.length - 2 - j) 0)]
def fmtB (a : List Int) : ByteArray := if natB a then (if a = [] then ⟨#[48]⟩ else joinB (tx a (a.length - 1)) ⟨#[]⟩) else ⟨#[]⟩
/-- the digits, as a list -/
def fmtD : List Int → List UInt8
  | [] => []
  | [d] => Lib.decDigits d.toNat
  | d :: e :: r => fmtD (e :: r) ++ (List.replicate (9 - (Lib.decDigits d.toNat).length) 48 ++ Lib.decDigits d.toNat)
theorem joinE (xs : List ByteArray) (x : ByteArray) : joinL (xs ++ [x]) ⟨#[]⟩ = joinL xs ⟨#[]⟩ ++ x.data.toList := by
  by_cases h : xs = []
  · subst h; rw [List.nil_append, joinL_one, joinL_nil]; rfl
  · rw [joinL_snoc h]; simp
theorem tx_cons (d : Int) (r : List Int) (j : Nat) (h : j + 1 ≤ r.length) : tx (d :: r) j = tx r j := by
  induction j with
  | zero =>
    rw [tx, tx]
    have : (d :: r).getD ((d :: r).length - 1) 0 = r.getD (r.length - 1) 0 := by
      rw [show (d :: r).length - 1 = (r.length - 1) + 1 by rw [List.length_cons]; omega, List.getD_cons_succ]
    rw [this]
  | succ j ih =>
    rw [tx, tx, ih (by omega)]
    have : (d :: r).getD ((d :: r).length - 2 - j) 0 = r.getD (r.length - 2 - j) 0 := by
      rw [show (d :: r).length - 2 - j = (r.length - 2 - j) + 1 by rw [List.length_cons]; omega, List.getD_cons_succ]
    rw [this]
theorem itoaB_dig {d : Int} (h : 0 ≤ d) : (itoaB d).data.toList = Lib.decDigits d.toNat := by
  obtain ⟨n, rfl⟩ : ∃ n : Nat, d = (n : Int) := ⟨d.toNat, by omega⟩
  rw [itoaB_nat]; simp
theorem grp_dig {d : Int} (h : 0 ≤ d) : (grp d).data.toList = List.replicate (9 - (Lib.decDigits d.toNat).length) 48 ++ Lib.decDigits d.toNat := by
  have e := itoaB_dig h
  have es : (itoaB d).size = (Lib.decDigits d.toNat).length := by rw [← e]; rfl
  unfold grp padB padL
  rw [if_neg (by omega), es, e, show ((9 : Int) - ((Lib.decDigits d.toNat).length : Int)).toNat = 9 - (Lib.decDigits d.toNat).length by omega]
theorem fmt_eq {a : List Int} (hl : Limbs a) (h0 : a ≠ []) : joinL (tx a (a.length - 1)) ⟨#[]⟩ = fmtD a := by
  induction a with
  | nil => exact absurd rfl h0
  | cons d r ih =>
    cases r with
    | nil =>
      show joinL [itoaB d] ⟨#[]⟩ = Lib.decDigits d.toNat
      rw [joinL_one]; exact itoaB_dig hl.cons.1.1
    | cons e r =>
      have hi := ih hl.cons.2 (by simp)
      show joinL (tx (d :: e :: r) ((e :: r).length)) ⟨#[]⟩ = _
      rw [show (e :: r).length = ((e :: r).length - 1) + 1 by simp, tx, joinE, tx_cons d (e :: r) _ (by simp), hi]
      rw [fmtD]
      congr 1
      have : (d :: e :: r).getD ((d :: e :: r).length - 2 - ((e :: r).length - 1)) 0 = d := by
        rw [show (d :: e :: r).length - 2 - ((e :: r).length - 1) = 0 by simp]; rfl
      rw [this]; exact grp_dig hl.cons.1.1
end Go.Proofs.YtiiedfhcandjdaaGreatDoor
