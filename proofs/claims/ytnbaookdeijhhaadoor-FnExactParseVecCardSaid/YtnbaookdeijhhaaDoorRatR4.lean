/-
  The reference's fractions: contracts (4): l04Copy, l04Neg.
-/
import Derived.Test.YtnbaookdeijhhaaDoorPB
import Derived.Test.YtnbaookdeijhhaaDoorBigR
import Derived.Test.YtnbaookdeijhhaaDoorIA
import Derived.Laws.CopyOwn
import Derived.Test.YtnbaookdeijhhaaDoorRA
import Derived.Laws.AppendOwnNone
import Derived.Test.YtnbaookdeijhhaaDoorMem
import Derived.Deep.CutRange
namespace Go.Proofs.YtnbaookdeijhhaaDoor
open Go.RowKit
set_option linter.unusedVariables false
section
variable {w w' : World} {B B' g : Nat} {E : TypeId} {v1 v2 : Value} {xs ys : List Int}
theorem Both.below (h : Both w B E v1 xs v2 ys) (hb : Below w.heap.size w w') : Both w' B E v1 xs v2 ys :=
  ⟨(h.1.below hb (Nat.le_refl _)).wider (Nat.le_refl _) hb.size, (h.2.below hb (Nat.le_refl _)).wider (Nat.le_refl _) hb.size⟩
end
end Go.Proofs.YtnbaookdeijhhaaDoor
