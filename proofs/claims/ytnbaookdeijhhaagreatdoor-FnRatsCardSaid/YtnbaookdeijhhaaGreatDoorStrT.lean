/-
  The type of lists of strings, as the program's table has it.
-/
import Derived.Test.YtnbaookdeijhhaaGreatDoorMem
namespace Go.Proofs.YtnbaookdeijhhaaGreatDoor
open Go.RowKit
set_option linter.unusedVariables false

/-! ### toStringS: a copy in new memory -/
theorem Tryz.infoStr : (Tryz.prog.info? 9).map (fun i => (i.zero, i.size, i.bytes)) = some (some (.string ⟨#[]⟩), 1, 16) := by kernel_rfl

theorem Tryz.sliceStr : SliceOf Tryz.prog 96 9 1 16 := by
  obtain ⟨i0, hi0, hz0, hz1, hz2⟩ := info_parts Tryz.infoStr
  exact ⟨Tryz.underlying96, i0, _, hi0, hz0, hz1, hz2, rfl, by omega⟩
def sumS (xs : List ByteArray) : Nat := (xs.map (·.size)).sum

end Go.Proofs.YtnbaookdeijhhaaGreatDoor
