/-
  The texts RatI7, put together; each has its own heading below. No condition of ours.
-/
import Derived.Test.YtdagomikjblgiaaGreatDoorRJ
import Derived.Test.YtdagomikjblgiaaGreatDoorIA
import Derived.Test.YtdagomikjblgiaaGreatDoorBX
import Derived.Deep.CutRange
/-
  The program's fractions: contracts (7): plus, minus.
-/



namespace Go.Proofs.YtdagomikjblgiaaGreatDoor
open Go.RowKit
set_option linter.unusedVariables false
theorem rdI_alloc {w : World} {A : Option Addr} {n : Nat} {xs : List Int} (h : RdI w w.heap.size A n xs) (o : Obj) : RdI (w.alloc o) (w.alloc o).heap.size A n xs := ⟨h.1, rd_alloc h.2.1 o, h.2.2⟩
end Go.Proofs.YtdagomikjblgiaaGreatDoor
