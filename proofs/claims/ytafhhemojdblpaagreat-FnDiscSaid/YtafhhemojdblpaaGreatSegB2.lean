/-
  The program's segments: lineMeets, meets.
-/
import Derived.Test.YtafhhemojdblpaaGreatSegB
import Derived.Deep.RegionHeld3
import Derived.Deep.CutRange
import Derived.Sort.AtCall
namespace Go.Proofs.YtafhhemojdblpaaGreat
open Go.RowKit
set_option linter.unusedVariables false
theorem COwn.alloc {w : World} {lo hi : Nat} {E : TypeId} {c0 c1 c2 c3 c4 c5 : Value} {T : Int × Int × Int} (h : COwn w lo hi E c0 c1 c2 c3 c4 c5 T) (o : Obj) (hh : hi ≤ w.heap.size) : COwn (w.alloc o) lo hi E c0 c1 c2 c3 c4 c5 T := h.below (below_new w o) hh
end Go.Proofs.YtafhhemojdblpaaGreat
