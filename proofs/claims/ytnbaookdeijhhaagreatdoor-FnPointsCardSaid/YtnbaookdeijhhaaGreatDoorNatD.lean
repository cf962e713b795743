/-
  The laws' numbers: what the reference's draws make.
-/
import Derived.Test.YtnbaookdeijhhaaGreatDoorDA
import Derived.Test.YtnbaookdeijhhaaGreatDoorRA
namespace Go.Proofs.YtnbaookdeijhhaaGreatDoor
open Go.RowKit
set_option linter.unusedVariables false

theorem Only.aside {G : Nat} {a b : World} (h : Only G a b) : Aside G (G + 1) a b :=
  ⟨h.1.os, h.1.tape, h.1.output, h.1.size, fun i hi hd => h.1.block i hi (fun e => by injection e with e; omega)⟩
theorem belowAsides {w w' : World} (h : Below w.heap.size w w') (lo hi : Nat) : Aside lo hi w w' := ⟨h.os, h.tape, h.output, h.size, fun k hk _ => h.block k hk⟩
theorem alloc_aside (w : World) (o : Obj) (lo hi : Nat) : Aside lo hi w (w.alloc o) := belowAsides ((Below.refl w.heap.size w).alloc (Nat.le_refl _) o) lo hi
end Go.Proofs.YtnbaookdeijhhaaGreatDoor
