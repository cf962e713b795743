/-
  The laws' helpers for lists of integers: eqIntS, toIntS: contracts.
-/
import Derived.Test.YtdcceppednngjabMem
namespace Go.Proofs.Ytdcceppednngjab
open Go.RowKit
set_option linter.unusedVariables false

theorem Try.infoInt : (Try.prog.info? 3).map (fun i => (i.zero, i.size, i.bytes)) = some (some (.int .i64 0), 1, 8) := by kernel_rfl
theorem Try.sliceInt : SliceOf Try.prog 28 3 1 8 := by
  obtain ⟨i0, hi0, hz0, hz1, hz2⟩ := info_parts Try.infoInt
  exact ⟨Try.underlying28, i0, _, hi0, hz0, hz1, hz2, rfl, by omega⟩

def eqI (xs ys : List Int) : Bool := decide (xs = ys)
/-! ### toIntS: a copy in new memory -/
end Go.Proofs.Ytdcceppednngjab
