/-
  Quarter turns, said of vectors and lists: what the functions of headings answer.
-/
import Derived.Test.YtafhhemojdblpabVecM
import Derived.Test.YtafhhemojdblpabPtM
import Derived.Test.YtafhhemojdblpabPB
import Derived.Test.YtafhhemojdblpabIA
import Derived.Deep.RegionHeld3
import Derived.RegionTactic
import Derived.ChangeAlike
import Derived.Deep.QuietTactic
import Derived.BigQuiet
import Derived.IntWalk
import Derived.Sort.AtCall
import Derived.Deep.CutRange
import Derived.Test.YtafhhemojdblpabMem
import Derived.Test.YtafhhemojdblpabRA
import Derived.Laws.CopyOwn
import Derived.Laws.AppendOwnNone
import Derived.Deep.AppendLies
import Derived.Deep.RegionLaw
import Derived.Deep.RegionHeldLaw
import Derived.Test.YtafhhemojdblpabOwn
import Derived.Laws.StructEq
namespace Go.Proofs.Ytafhhemojdblpab
open Go.RowKit
set_option linter.unusedVariables false
/-- the heading that k quarter turns from heading 0 lead to -/
def hd (k : Int) : Nat := (k % 4).toNat
theorem hd_lt (k : Int) : hd k < 4 := by unfold hd; omega
theorem hd_int (k : Int) : ((hd k : Nat) : Int) = k % 4 := by unfold hd; omega
/-- what the program computes -/
theorem hd_tmod (k : Int) : (k.tmod 4 + 4).tmod 4 = ((hd k : Nat) : Int) := by
  rw [hd_int, Int.tmod_eq_emod_of_nonneg (by have := Int.tmod_lt_of_pos k (show (0 : Int) < 4 by decide); have := Int.lt_tmod_of_pos k (show (0 : Int) < 4 by decide); omega)]
  have : (k.tmod 4 + 4) % 4 = k.tmod 4 % 4 := by omega
  rw [this]
  have h : k.tmod 4 = k - 4 * k.tdiv 4 := by have := Int.mul_tdiv_add_tmod k 4; omega
  omega
theorem hd_emod (k : Int) : (k.tmod 4 + 4) % 4 = ((hd k : Nat) : Int) := by
  have := Int.lt_tmod_of_pos k (show (0 : Int) < 4 by decide)
  exact (Int.tmod_eq_emod_of_nonneg (by omega)).symm.trans (hd_tmod k)
theorem tmod4_range (k : Int) : -4 < k.tmod 4 ∧ k.tmod 4 < 4 :=
  ⟨by have := Int.lt_tmod_of_pos k (show (0 : Int) < 4 by decide); omega, Int.tmod_lt_of_pos k (by decide)⟩
/-- what NextHeading answers -/
def nxt (h t : Int) : Int := if (0 ≤ h ∧ h ≤ 3) ∧ (t = 1 ∨ t = -1) then (h + t) % 4 else -1
theorem nxt_yes {h t : Int} (h1 : 0 ≤ h ∧ h ≤ 3) (h2 : t = 1 ∨ t = -1) : nxt h t = ((hd (h + t) : Nat) : Int) := by unfold nxt; rw [if_pos ⟨h1, h2⟩, hd_int]
theorem nxt_no {h t : Int} (h1 : ¬ ((0 ≤ h ∧ h ≤ 3) ∧ (t = 1 ∨ t = -1))) : nxt h t = -1 := by unfold nxt; rw [if_neg h1]
end Go.Proofs.Ytafhhemojdblpab
