/-
  Zeros in front of a text. Of no program.
-/
import Derived.Test.YtfajcogkbmefjaaDoorJoinI
import Derived.Lib.Repeat
namespace Go.Proofs.YtfajcogkbmefjaaDoor
open Go.RowKit
set_option linter.unusedVariables false

/-- k zeros in front of the bytes -/
def padL (k : Nat) (l : List UInt8) : List UInt8 := List.replicate k 48 ++ l
def padB (s : ByteArray) (n : Int) : ByteArray := if n > 2000 then s else ⟨(padL (n - s.size).toNat s.data.toList).toArray⟩
end Go.Proofs.YtfajcogkbmefjaaDoor
