/-
  A struct whose first field is a struct of two cells, beside a field of one cell: its data, opened.
-/
import Derived.Test.YtiiedfhcandjdaaDoorRows
import Derived.WalkKit
import Derived.ProofKit
import Derived.ChangeSame
import Derived.Lib.SmallJoins
namespace Go.Proofs.YtiiedfhcandjdaaDoor
open Go.ChangeShapes Go.WideShapes Go.ChangeAt Go.RowKit

theorem open_nest {H : Type} {enc : TypeId × Value → H} {P : Program} {w : World} {base : Nat} {spare : Nat → Bool} {held : Bool} {r : Reach} {b0 : Nat} {t : TypeId} {f0 f1 g0 g1 : Field} {v : Value} {d : DataW H} {p : List MemPlace}
    (hs : P.underlying t = some (.struct #[f0, f1])) (hu : P.underlying f0.type = some (.struct #[g0, g1])) (hC : P.cellsOf t = 3)
    (o0 : f0.offset = 0) (o1 : f1.offset = 2) (q0 : g0.offset = 0) (q1 : g1.offset = 1) (c0 : P.cellsOf f0.type = 2) (c1 : P.cellsOf f1.type = 1) (e0 : P.cellsOf g0.type = 1) (e1 : P.cellsOf g1.type = 1)
    (hv : Value.okWide P w r b0 t v) (h : DataW.Trod enc P w base spare held t v d p) :
    ∃ (v0 v1 v2 : Value) (y0 y1 y2 : DataW H × List MemPlace) (n n' : Nat), v = .agg #[v0, v1, v2] ∧
      DataW.trod enc P w base spare held n g0.type [v0] = some y0 ∧ DataW.trod enc P w base spare held n g1.type [v1] = some y1 ∧ DataW.trod enc P w base spare held n' f1.type [v2] = some y2 := by
  obtain ⟨cs, rfl, hsz⟩ := okWide_struct hs hv
  obtain ⟨a0, a1, a2, rfl⟩ := Joins.array3 (hsz.trans hC)
  obtain ⟨fuel, hf⟩ := h
  obtain ⟨y0, y1, n, _, _, h0, h1⟩ := trod_struct2 hs hf
  have k0 : DataW.trod enc P w base spare held n f0.type [a0, a1] = some y0 := by simpa [Value.cells, o0, c0] using h0
  have k1 : DataW.trod enc P w base spare held n f1.type [a2] = some y1 := by simpa [Value.cells, o1, c1] using h1
  obtain ⟨z0, z1, m, _, _, j0, j1⟩ := trod_struct2 hu k0
  exact ⟨a0, a1, a2, z0, z1, y1, m, n, rfl, by simpa [q0, e0] using j0, by simpa [q1, e1] using j1, k1⟩
end Go.Proofs.YtiiedfhcandjdaaDoor
