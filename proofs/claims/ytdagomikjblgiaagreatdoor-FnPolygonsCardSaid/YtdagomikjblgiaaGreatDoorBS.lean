/-
  The texts BigS, RatS, put together; each has its own heading below. No condition of ours.
-/
import Derived.Test.YtdagomikjblgiaaGreatDoorBA
import Derived.Test.YtdagomikjblgiaaGreatDoorBigR
import Derived.Test.YtdagomikjblgiaaGreatDoorFX
import Derived.Test.YtdagomikjblgiaaGreatDoorSJ
import Derived.Test.YtdagomikjblgiaaGreatDoorRA
import Derived.Test.YtdagomikjblgiaaGreatDoorIA
import Derived.Test.YtdagomikjblgiaaGreatDoorRK
import Derived.Test.YtdagomikjblgiaaGreatDoorPB
import Derived.Laws.AppendOwnNone
import Derived.Test.YtdagomikjblgiaaGreatDoorNatLen
import Derived.Test.YtdagomikjblgiaaGreatDoorIntI
import Derived.Deep.CutRange
import Derived.Deep.RegionHeld3
import Derived.Deep.RegionWith
import Derived.Sort.AtCall
/-
  Big integers as text: FormatBigInt: both sides' contracts.
-/



namespace Go.Proofs.YtdagomikjblgiaaGreatDoor
open Go.RowKit
set_option linter.unusedVariables false

def fmtZ (s : Bool) (xs : List Int) : ByteArray := if bigB s xs then (if s then ⟨#[45]⟩ ++ fmtB xs else fmtB xs) else ByteArray.empty
end Go.Proofs.YtdagomikjblgiaaGreatDoor

/-
  Fractions as text: FormatRat: both sides' contracts.
-/







namespace Go.Proofs.YtdagomikjblgiaaGreatDoor
open Go.RowKit
set_option linter.unusedVariables false
def fmtR (s : Bool) (xs ds : List Int) : ByteArray := if ratB s xs ds then (if ds = [1] then fmtZ s xs else (fmtZ s xs ++ ⟨#[47]⟩) ++ fmtB ds) else ⟨#[]⟩
theorem sum_two (x y : ByteArray) : sumS [x, y] = x.size + y.size := by simp [sumS]
theorem two_cells (w : World) (E : TypeId) (x y : ByteArray) : ∀ (j : Nat) z, ([x, y] : List ByteArray)[j]? = some z → (w.alloc (.cells #[.string x, .string y] E)).cell? ⟨w.heap.size, 0 + j, none⟩ = some (.string z) := fun j z hz => by
  rw [Nat.zero_add, (Box.last w E #[.string x, .string y] rfl).cell j]
  match j, hz with
  | 0, hz => simp at hz; subst hz; rfl
  | 1, hz => simp at hz; subst hz; rfl
  | j + 2, hz => simp at hz
end Go.Proofs.YtdagomikjblgiaaGreatDoor
