/-
  A struct of two structs of three cells each: its data, opened.
-/
import Derived.Test.YtnbaookdeijhhaaDoorRows
import Derived.WalkKit
import Derived.ProofKit
import Derived.ChangeSame
import Derived.Lib.SmallJoins
import Derived.Test.YtnbaookdeijhhaaDoorPtL
import Derived.ChangeOld
namespace Go.Proofs.YtnbaookdeijhhaaDoor
open Go.ChangeShapes Go.WideShapes Go.ChangeAt Go.RowKit
theorem Tryd.vec_of {H : Type} {enc : TypeId × Value → H} {W : World} {base : Nat} {spare : Nat → Bool} {n : Nat} {a0 a1 : Value} {y0 y1 : DataW H × List MemPlace}
    (h0 : DataW.trod enc Tryd.prog W base spare true n 3 [a0] = some y0) (h1 : DataW.trod enc Tryd.prog W base spare true n 3 [a1] = some y1) : ∃ x y : Int, (a0 = .int .i64 x ∧ a1 = .int .i64 y) ∧ (Lit.int .i64 x).wf = true ∧ (Lit.int .i64 y).wf = true := by
  obtain ⟨x, e0, _, w0⟩ := DataW.trod_int Tryd.underlying3 h0
  obtain ⟨y, e1, _, w1⟩ := DataW.trod_int Tryd.underlying3 h1
  exact ⟨x, y, ⟨by simpa using e0, by simpa using e1⟩, w0, w1⟩
end Go.Proofs.YtnbaookdeijhhaaDoor
