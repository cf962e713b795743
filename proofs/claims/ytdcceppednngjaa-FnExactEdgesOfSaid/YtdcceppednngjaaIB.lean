/-
  The texts NatI8, put together; each has its own heading below. No condition of ours.
-/
import Derived.Test.YtdcceppednngjaaPB
import Derived.Test.YtdcceppednngjaaIA
import Derived.RegionTactic
import Derived.ChangeAlike
import Derived.Deep.QuietTactic
import Derived.BigQuiet
import Derived.IntWalk
/-
  The program's natural numbers: contracts (8): divideLimbs, NatDiv.
-/


namespace Go.Proofs.Ytdcceppednngjaa
open Go.RowKit
set_option linter.unusedVariables false

theorem Two.of {w w' : World} {E : TypeId} {v1 v2 : Value} {xs ys : List Int} {l1 h1 l2 h2 : Nat} (a : Own w' l1 h1 E v1 xs.length (iv xs)) (b : Own w' l2 h2 E v2 ys.length (iv ys)) (e1 : w.heap.size ≤ l1) (e2 : w.heap.size ≤ l2) (e3 : h1 ≤ w'.heap.size) (e4 : h2 ≤ w'.heap.size) (e5 : h1 ≤ l2 ∨ h2 ≤ l1) : Two w w' E v1 xs v2 ys := ⟨l1, h1, l2, h2, a, b, e1, e2, e3, e4, e5⟩
end Go.Proofs.Ytdcceppednngjaa
