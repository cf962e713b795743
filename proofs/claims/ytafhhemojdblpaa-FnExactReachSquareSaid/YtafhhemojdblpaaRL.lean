/-
  The texts RatR4, put together; each has its own heading below. No condition of ours.
-/
import Derived.Test.YtafhhemojdblpaaPB
import Derived.Test.YtafhhemojdblpaaRA
import Derived.Test.YtafhhemojdblpaaIA
import Derived.Laws.CopyOwn
import Derived.Laws.AppendOwnNone
import Derived.Test.YtafhhemojdblpaaMem
import Derived.Deep.CutRange
/-
  The reference's fractions: contracts (4): l04Copy, l04Neg.
-/


namespace Go.Proofs.Ytafhhemojdblpaa
open Go.RowKit
set_option linter.unusedVariables false
section
variable {w w' : World} {B B' g : Nat} {E : TypeId} {v1 v2 : Value} {xs ys : List Int}
theorem Both.below (h : Both w B E v1 xs v2 ys) (hb : Below w.heap.size w w') : Both w' B E v1 xs v2 ys :=
  ⟨(h.1.below hb (Nat.le_refl _)).wider (Nat.le_refl _) hb.size, (h.2.below hb (Nat.le_refl _)).wider (Nat.le_refl _) hb.size⟩
theorem Both.rd {A1 A2 : Option Addr} {c1 c2 : Nat} (h : Both w B E (.slice A1 xs.length c1) xs (.slice A2 ys.length c2) ys) : Rd w w.heap.size A1 (iv xs) ∧ Rd w w.heap.size A2 (iv ys) := ⟨h.1.rd, h.2.rd⟩
end
end Go.Proofs.Ytafhhemojdblpaa
