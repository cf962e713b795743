/-
  Quarter turns, said of vectors and lists: what the functions of headings answer.
-/
import Derived.Test.YtafhhemojdblpabDoorVecM
import Derived.Test.YtafhhemojdblpabDoorPtM
import Derived.Test.YtafhhemojdblpabDoorPB
import Derived.Test.YtafhhemojdblpabDoorIA
import Derived.Deep.RegionHeld3
import Derived.Test.YtafhhemojdblpabDoorIC
import Derived.Deep.CutRange
import Derived.Test.YtafhhemojdblpabDoorIB
import Derived.Sort.AtCall
import Derived.Test.YtafhhemojdblpabDoorIntI
import Derived.Test.YtafhhemojdblpabDoorRL
import Derived.Test.YtafhhemojdblpabDoorBigR
import Derived.Test.YtafhhemojdblpabDoorRA
import Derived.Test.YtafhhemojdblpabDoorLB
import Derived.Test.YtafhhemojdblpabDoorMem
import Derived.Laws.StructEq
import Derived.Test.YtafhhemojdblpabDoorPolI3
namespace Go.Proofs.YtafhhemojdblpabDoor
open Go.RowKit
set_option linter.unusedVariables false
/-- the heading that k quarter turns from heading 0 lead to -/
def hd (k : Int) : Nat := (k % 4).toNat
theorem hd_lt (k : Int) : hd k < 4 := by unfold hd; omega
theorem hd_int (k : Int) : ((hd k : Nat) : Int) = k % 4 := by unfold hd; omega
/-- what the program computes -/
theorem hd_tmod (k : Int) : (k.tmod 4 + 4).tmod 4 = ((hd k : Nat) : Int) := by
  rw [hd_int, Int.tmod_eq_emod_of_nonneg (by have := Int.tmod_lt_of_pos k (show (0 : Int) < 4 by decide); have := Int.lt_tmod_of_pos k (show (0 : Int) < 4 by decide); omega)]
  have : (k.tmod 4 + 4) % 4 = k.tmod 4 % 4 := by omega
  rw [this]
  have h : k.tmod 4 = k - 4 * k.tdiv 4 := by have := Int.mul_tdiv_add_tmod k 4; omega
  omega
theorem hd_emod (k : Int) : (k.tmod 4 + 4) % 4 = ((hd k : Nat) : Int) := by
  have := Int.lt_tmod_of_pos k (show (0 : Int) < 4 by decide)
  exact (Int.tmod_eq_emod_of_nonneg (by omega)).symm.trans (hd_tmod k)
theorem tmod4_range (k : Int) : -4 < k.tmod 4 ∧ k.tmod 4 < 4 :=
  ⟨by have := Int.lt_tmod_of_pos k (show (0 : Int) < 4 by decide); omega, Int.tmod_lt_of_pos k (by decide)⟩
def rot1 (v : V2) : V2 := (-v.2, v.1)
def rotK : Nat → V2 → V2
  | 0, v => v
  | k + 1, v => rotK k (rot1 v)
/-- the rows of the table: what becomes of (1, 0), and of (0, 1) -/
def qx (k : Nat) : V2 := rotK k (1, 0)
def qy (k : Nat) : V2 := rotK k (0, 1)
theorem rot_tab {k : Nat} (h : k < 4) (v : V2) : rotK k v = ((qx k).1 * v.1 + (qy k).1 * v.2, (qx k).2 * v.1 + (qy k).2 * v.2) := by
  rcases (show k = 0 ∨ k = 1 ∨ k = 2 ∨ k = 3 by omega) with rfl | rfl | rfl | rfl <;> simp [rotK, rot1, qx, qy]
/-- the turn that the program makes of any vector: -2^63 stays -/
def rotW (k : Nat) (v : V2) : V2 := (IntKind.i64.wrap (rotK k v).1, IntKind.i64.wrap (rotK k v).2)
theorem wrap_keep {x : Int} (h : (Lit.int .i64 x).wf = true) : IntKind.i64.wrap x = x := by
  obtain ⟨a1, a2⟩ := bounds_i64 h
  exact IntWalk.i64_in _ ⟨by omega, by omega⟩
theorem rotW_wf2 (k : Nat) (v : V2) : (Lit.int .i64 (rotW k v).1).wf = true ∧ (Lit.int .i64 (rotW k v).2).wf = true := ⟨wrap_wf _ _, wrap_wf _ _⟩
/-- what TurnsBetween answers -/
def btw (g h : Int) : List Int := if (0 ≤ g ∧ g ≤ 3) ∧ (0 ≤ h ∧ h ≤ 3) then (if (h - g) % 4 = 1 then [1] else if (h - g) % 4 = 3 then [-1] else if (h - g) % 4 = 2 then [1, 1] else []) else []
/-- which rows of the table are equal, as they are and behind a quarter turn to the left or right -/
theorem rows_dec {p q : Nat} (hp : p < 4) (hq : q < 4) :
    decide ((qx q).1 = (qx p).1 ∧ (qx q).2 = (qx p).2 ∧ (qy q).1 = (qy p).1 ∧ (qy q).2 = (qy p).2) = decide (((q : Int) - (p : Int)) % 4 = 0) ∧
    decide ((qx q).1 = (rotW (hd 1) ((qx p).1, (qx p).2)).1 ∧ (qx q).2 = (rotW (hd 1) ((qx p).1, (qx p).2)).2 ∧ (qy q).1 = (rotW (hd 1) ((qy p).1, (qy p).2)).1 ∧ (qy q).2 = (rotW (hd 1) ((qy p).1, (qy p).2)).2) = decide (((q : Int) - (p : Int)) % 4 = 1) ∧
    decide ((qx q).1 = (rotW (hd (-1)) ((qx p).1, (qx p).2)).1 ∧ (qx q).2 = (rotW (hd (-1)) ((qx p).1, (qx p).2)).2 ∧ (qy q).1 = (rotW (hd (-1)) ((qy p).1, (qy p).2)).1 ∧ (qy q).2 = (rotW (hd (-1)) ((qy p).1, (qy p).2)).2) = decide (((q : Int) - (p : Int)) % 4 = 3) := by
  rcases (show p = 0 ∨ p = 1 ∨ p = 2 ∨ p = 3 by omega) with rfl | rfl | rfl | rfl <;> rcases (show q = 0 ∨ q = 1 ∨ q = 2 ∨ q = 3 by omega) with rfl | rfl | rfl | rfl <;> decide
theorem q_wf {k : Nat} (h : k < 4) : (Lit.int .i64 (qx k).1).wf = true ∧ (Lit.int .i64 (qx k).2).wf = true ∧ (Lit.int .i64 (qy k).1).wf = true ∧ (Lit.int .i64 (qy k).2).wf = true := by
  rcases (show k = 0 ∨ k = 1 ∨ k = 2 ∨ k = 3 by omega) with rfl | rfl | rfl | rfl <;> decide
theorem btw_yes {g h d : Int} (k1 : 0 ≤ g ∧ g ≤ 3) (k2 : 0 ≤ h ∧ h ≤ 3) (e : (h - g) % 4 = d) : btw g h = if d = 1 then [1] else if d = 3 then [-1] else if d = 2 then [1, 1] else [] := by unfold btw; rw [if_pos ⟨k1, k2⟩, e]
theorem btw_no {g h : Int} (k : ¬ ((0 ≤ g ∧ g ≤ 3) ∧ (0 ≤ h ∧ h ≤ 3))) : btw g h = [] := by unfold btw; rw [if_neg k]
end Go.Proofs.YtafhhemojdblpabDoor
