/-
  Strings joined: plain, and what Join answers, of the program.
-/
import Derived.Test.YtfajcogkbmefjaaDoorStrT
import Derived.Test.YtfajcogkbmefjaaDoorShelf
namespace Go.Proofs.YtfajcogkbmefjaaDoor
open Go.RowKit
set_option linter.unusedVariables false

/-- the elements joined, by the library's word -/
def joinL (xs : List ByteArray) (by_ : ByteArray) : List UInt8 := Lib.join (xs.map (·.data.toList)) by_.data.toList
def joinB (xs : List ByteArray) (by_ : ByteArray) : ByteArray := ⟨(joinL xs by_).toArray⟩
end Go.Proofs.YtfajcogkbmefjaaDoor
