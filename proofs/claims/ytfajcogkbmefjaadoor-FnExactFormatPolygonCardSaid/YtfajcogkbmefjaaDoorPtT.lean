/-
  Points as text: where a text is cut at commas; what is parsed of a vector, of a point; said of bytes.
-/
import Derived.Test.YtfajcogkbmefjaaDoorStrT
import Derived.OwnWalk
import Derived.Test.YtfajcogkbmefjaaDoorMem
import Derived.Test.YtfajcogkbmefjaaDoorPtB
import Derived.Test.YtfajcogkbmefjaaDoorItoaD
import Derived.Lib.AtoiAll
import Derived.Lib.CutLaws
namespace Go.Proofs.YtfajcogkbmefjaaDoor
open Go.RowKit
set_option linter.unusedVariables false

/-! ### texts without commas -/
/-! ### what is parsed -/
def fmtV (x y : Int) : ByteArray := if vecB x y then (itoaB x ++ ⟨#[44]⟩) ++ itoaB y else ⟨#[]⟩
theorem fmtV_no {x y : Int} (h : vecB x y = false) : fmtV x y = ⟨#[]⟩ := by rw [fmtV, h]; rfl
theorem fmtV_ok {x y : Int} (h : vecB x y = true) : fmtV x y = (itoaB x ++ ⟨#[44]⟩) ++ itoaB y := by rw [fmtV, h]; rfl
end Go.Proofs.YtfajcogkbmefjaaDoor
