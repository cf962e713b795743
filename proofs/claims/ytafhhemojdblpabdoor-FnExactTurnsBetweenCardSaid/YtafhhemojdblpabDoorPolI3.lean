/-
  The program's polygons: contracts: areValidVecs, NegatePolygon.
-/
import Derived.Test.YtafhhemojdblpabDoorVecM
import Derived.Test.YtafhhemojdblpabDoorPtM
import Derived.Test.YtafhhemojdblpabDoorPB
import Derived.Test.YtafhhemojdblpabDoorIA
import Derived.Deep.RegionHeld3
import Derived.Test.YtafhhemojdblpabDoorIC
import Derived.Deep.CutRange
import Derived.Test.YtafhhemojdblpabDoorIB
import Derived.Sort.AtCall
import Derived.Test.YtafhhemojdblpabDoorIntI
import Derived.Test.YtafhhemojdblpabDoorRL
import Derived.Test.YtafhhemojdblpabDoorBigR
import Derived.Test.YtafhhemojdblpabDoorRA
import Derived.Test.YtafhhemojdblpabDoorLB
import Derived.Test.YtafhhemojdblpabDoorMem
import Derived.Laws.StructEq
namespace Go.Proofs.YtafhhemojdblpabDoor
open Go.RowKit
set_option linter.unusedVariables false
theorem wrap_wf (k : IntKind) (n : Int) : (Lit.int k (k.wrap n)).wf = true := by
  have := wrap_within k n
  simp [Lit.wf, this.1, this.2]
end Go.Proofs.YtafhhemojdblpabDoor
