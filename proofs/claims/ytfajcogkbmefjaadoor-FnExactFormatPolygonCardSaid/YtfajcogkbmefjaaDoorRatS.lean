/-
  Fractions as text: FormatRat: both sides' contracts.
-/
import Derived.Test.YtfajcogkbmefjaaDoorPB
import Derived.Test.YtfajcogkbmefjaaDoorIA
import Derived.Deep.RegionHeld3
import Derived.Test.YtfajcogkbmefjaaDoorIC
import Derived.Deep.CutRange
import Derived.Test.YtfajcogkbmefjaaDoorBigR
import Derived.Laws.CopyOwn
import Derived.Test.YtfajcogkbmefjaaDoorRA
import Derived.Laws.AppendOwnNone
import Derived.Test.YtfajcogkbmefjaaDoorMem
import Derived.Test.YtfajcogkbmefjaaDoorBigS
import Derived.Test.YtfajcogkbmefjaaDoorJoinI
import Derived.Deep.RegionWith
import Derived.Sort.AtCall
namespace Go.Proofs.YtfajcogkbmefjaaDoor
open Go.RowKit
set_option linter.unusedVariables false
def fmtR (s : Bool) (xs ds : List Int) : ByteArray := if ratB s xs ds then (if ds = [1] then fmtZ s xs else (fmtZ s xs ++ ⟨#[47]⟩) ++ fmtB ds) else ⟨#[]⟩
theorem sum_two (x y : ByteArray) : sumS [x, y] = x.size + y.size := by simp [sumS]
theorem two_cells (w : World) (E : TypeId) (x y : ByteArray) : ∀ (j : Nat) z, ([x, y] : List ByteArray)[j]? = some z → (w.alloc (.cells #[.string x, .string y] E)).cell? ⟨w.heap.size, 0 + j, none⟩ = some (.string z) := fun j z hz => by
  rw [Nat.zero_add, (Box.last w E #[.string x, .string y] rfl).cell j]
  match j, hz with
  | 0, hz => simp at hz; subst hz; rfl
  | 1, hz => simp at hz; subst hz; rfl
  | j + 2, hz => simp at hz
end Go.Proofs.YtfajcogkbmefjaaDoor
