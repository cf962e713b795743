/-
  The laws' numbers: what the reference's draws make.
-/
import Derived.Test.YtdagomikjblgiaaGreatDoorDA
import Derived.Test.YtdagomikjblgiaaGreatDoorRA
namespace Go.Proofs.YtdagomikjblgiaaGreatDoor
open Go.RowKit
set_option linter.unusedVariables false

theorem Only.aside {G : Nat} {a b : World} (h : Only G a b) : Aside G (G + 1) a b :=
  ⟨h.1.os, h.1.tape, h.1.output, h.1.size, fun i hi hd => h.1.block i hi (fun e => by injection e with e; omega)⟩
end Go.Proofs.YtdagomikjblgiaaGreatDoor
