/-
  Fractions as text: where a text is cut, and what is parsed; said of bytes.
-/
import Derived.Test.YtfajcogkbmefjaaDoorRatS
import Derived.Test.YtfajcogkbmefjaaDoorBigQ
import Derived.Test.YtfajcogkbmefjaaDoorSplitP
import Derived.Test.YtfajcogkbmefjaaDoorFA
import Derived.Lib.CutLaws
namespace Go.Proofs.YtfajcogkbmefjaaDoor
open Go.RowKit
set_option linter.unusedVariables false

def sl : ByteArray := ⟨#[47]⟩
/-! ### where a text is cut -/
/-! ### the library's cut -/
def headB (s : ByteArray) : ByteArray := ⟨(Lib.cut s.data.toList sl.data.toList).1.toArray⟩
def tailB (s : ByteArray) : ByteArray := ⟨(Lib.cut s.data.toList sl.data.toList).2.1.toArray⟩
def hasB (s : ByteArray) : Bool := (Lib.cut s.data.toList sl.data.toList).2.2
/-! ### what is parsed -/
def denS (s : ByteArray) : ByteArray := if hasB s then tailB s else ⟨#[49]⟩
def okRB (s : ByteArray) : Bool := parseZB (headB s) && parseB (denS s) && decide (fmtR (parseZ (headB s)).1 (parseZ (headB s)).2 (parseL (denS s)) = s)
def parR (s : ByteArray) : (Bool × List Int) × List Int := if okRB s then (parseZ (headB s), parseL (denS s)) else noR
end Go.Proofs.YtfajcogkbmefjaaDoor
