/-
  Big integers as text: what is parsed, said of bytes.
-/
import Derived.Test.YtfajcogkbmefjaaDoorPB
import Derived.Test.YtfajcogkbmefjaaDoorPA
namespace Go.Proofs.YtfajcogkbmefjaaDoor
open Go.RowKit
set_option linter.unusedVariables false

def signB (s : ByteArray) : Bool := if h : 0 < s.size then s[0] == 45 else false
def restB (s : ByteArray) : ByteArray := if signB s then s.extract 1 s.size else s
def parseZB (s : ByteArray) : Bool := parseB (restB s) && !(signB s && (parseL (restB s)).isEmpty)
def parseZ (s : ByteArray) : Bool × List Int := if parseZB s then (signB s, parseL (restB s)) else noZ
end Go.Proofs.YtfajcogkbmefjaaDoor
