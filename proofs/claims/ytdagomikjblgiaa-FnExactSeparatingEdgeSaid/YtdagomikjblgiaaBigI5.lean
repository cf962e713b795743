/-
  The program's big integers: contracts (5): plus.
-/
import Derived.Test.YtdagomikjblgiaaIA
import Derived.Test.YtdagomikjblgiaaPB
import Derived.Deep.RegionHeld3
namespace Go.Proofs.Ytdagomikjblgiaa
open Go.RowKit
set_option linter.unusedVariables false

theorem below_drewN' {B : Nat} {a w : World} (h : Below B a w) (n : Nat) : Below B a (w.drewN n) := ⟨h.os, h.tape, h.output, h.size, h.block⟩
end Go.Proofs.Ytdagomikjblgiaa
