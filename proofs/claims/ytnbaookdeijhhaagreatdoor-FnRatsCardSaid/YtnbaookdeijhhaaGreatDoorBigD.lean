/-
  The laws' big integers: what the reference's draws make.
-/
import Derived.Test.YtnbaookdeijhhaaGreatDoorNatD
import Derived.Test.YtnbaookdeijhhaaGreatDoorBQR
import Derived.Test.YtnbaookdeijhhaaGreatDoorBigN
namespace Go.Proofs.YtnbaookdeijhhaaGreatDoor
open Go.RowKit
set_option linter.unusedVariables false

theorem aside_set_new {w W : World} {lo hi g j : Nat} (h : Aside lo hi w W) (hg : w.heap.size ≤ g) (u : Value) : Aside lo hi w (W.setCell ⟨g, j, none⟩ u) :=
  ⟨h.os, h.tape, h.output, by rw [setCell_size]; exact h.size, fun k hk hd => (Below.heap_setCell _ _ _ _ (show k ≠ g by omega)).trans (h.block k hk hd)⟩
theorem aside_below {w W W' : World} {lo hi : Nat} (h : Aside lo hi w W) (k : Below W.heap.size W W') : Aside lo hi w W' := h.trans (belowAsides k lo hi)
end Go.Proofs.YtnbaookdeijhhaaGreatDoor
