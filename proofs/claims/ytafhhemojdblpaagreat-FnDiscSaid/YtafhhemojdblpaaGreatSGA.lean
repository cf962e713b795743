/-
  The texts SegA, put together; each has its own heading below. No condition of ours.
-/
import Derived.Test.YtafhhemojdblpaaGreatSegS
import Derived.Test.YtafhhemojdblpaaGreatPJ
import Derived.Deep.RegionHeld3
import Derived.Deep.CutRange
import Derived.Sort.AtCall
/-
  The program's segments: sides of points, exactly: wayTo, sideOfLine.
-/





namespace Go.Proofs.YtafhhemojdblpaaGreat
open Go.RowKit
set_option linter.unusedVariables false
theorem SOwn.set2 {w : World} {lo hi g : Nat} {E : TypeId} {v b x y : Value} {z : Int} (h : SOwn w lo hi E v b z) (hg : g < lo ∨ hi ≤ g) : SOwn ((w.setCell ⟨g, 0, none⟩ x).setCell ⟨g, 1, none⟩ y) lo hi E v b z := (h.setv hg 0 x).setv hg 1 y
end Go.Proofs.YtafhhemojdblpaaGreat
