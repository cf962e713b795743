/-
  The texts NestP, NestE, put together; each has its own heading below. No condition of ours.
-/
import Derived.Test.YtdcceppednngjaaGreatRows
import Derived.WalkKit
import Derived.ProofKit
import Derived.ChangeSame
import Derived.Lib.SmallJoins
import Derived.Test.YtdcceppednngjaaGreatLB
import Derived.ChangeOld
/-
  A struct of two structs of three cells each: its data, opened.
-/




namespace Go.Proofs.YtdcceppednngjaaGreat
open Go.ChangeShapes Go.WideShapes Go.ChangeAt Go.RowKit
theorem Tryz.vec_of {H : Type} {enc : TypeId × Value → H} {W : World} {base : Nat} {spare : Nat → Bool} {n : Nat} {a0 a1 : Value} {y0 y1 : DataW H × List MemPlace}
    (h0 : DataW.trod enc Tryz.prog W base spare true n 3 [a0] = some y0) (h1 : DataW.trod enc Tryz.prog W base spare true n 3 [a1] = some y1) : ∃ x y : Int, (a0 = .int .i64 x ∧ a1 = .int .i64 y) ∧ (Lit.int .i64 x).wf = true ∧ (Lit.int .i64 y).wf = true := by
  obtain ⟨x, e0, _, w0⟩ := DataW.trod_int Tryz.underlying3 h0
  obtain ⟨y, e1, _, w1⟩ := DataW.trod_int Tryz.underlying3 h1
  exact ⟨x, y, ⟨by simpa using e0, by simpa using e1⟩, w0, w1⟩
end Go.Proofs.YtdcceppednngjaaGreat

/-
  The data of an argument that is an edge: read into ints and a Bool.
-/

namespace Go.Proofs.YtdcceppednngjaaGreat
open Go.RowKit Go.ChangeShapes Go.WideShapes
set_option linter.unusedVariables false
set_option maxRecDepth 100000 in
theorem Tryz.edge_of {H : Type} {enc : TypeId × Value → H} {W : World} {base : Nat} {r : Reach} {b0 : Nat} {v : Value} {d : DataW H} {p : List MemPlace}
    (hv : Value.okWide Tryz.prog W r b0 25 v) (h : DataW.Trod enc Tryz.prog W base (fun _ => true) true 25 v d p) : ∃ (x y u z k : Int) (l : Bool), v = .agg #[.int .i64 x, .int .i64 y, .int .i64 u, .int .i64 z, .int .i64 k, .bool l] ∧ (Lit.int .i64 x).wf = true ∧ (Lit.int .i64 y).wf = true ∧ (Lit.int .i64 u).wf = true ∧ (Lit.int .i64 z).wf = true ∧ (Lit.int .i64 k).wf = true := by
  have c2 : Tryz.prog.cellsOf 23 = 2 := by kernel_rfl
  have ci : Tryz.prog.cellsOf 3 = 1 := by kernel_rfl
  have cb : Tryz.prog.cellsOf 4 = 1 := by kernel_rfl
  obtain ⟨cs, rfl, hsz⟩ := okWide_struct Tryz.underlying25 hv
  have h6 : cs.size = 6 := hsz.trans (show Tryz.prog.cellsOf 25 = 6 by kernel_rfl)
  obtain ⟨v0, v1, v2, v3, v4, v5, rfl⟩ : ∃ a b c d e f, cs = #[a, b, c, d, e, f] := by
    obtain ⟨l⟩ := cs
    match l, h6 with
    | [a, b, c, d, e, f], _ => exact ⟨a, b, c, d, e, f, rfl⟩
  obtain ⟨fuel, hf⟩ := h
  obtain ⟨xs, k, hk, hxy, _, hxl, hg⟩ := DataW.trod_struct Tryz.underlying25 hf
  match xs, hxl with
  | [x0, x1, x2, x3], _ =>
    have g0 := hg 0 _ rfl
    have g1 := hg 1 _ rfl
    have g2 := hg 2 _ rfl
    have g3 := hg 3 _ rfl
    simp [Value.cells, c2, ci, cb] at g0 g1 g2 g3
    have two : ∀ {n : Nat} {a b : Value} {y : DataW H × List MemPlace}, DataW.trod enc Tryz.prog W base (fun _ => true) true n 23 [a, b] = some y → ∃ x z : Int, (a = .int .i64 x ∧ b = .int .i64 z) ∧ (Lit.int .i64 x).wf = true ∧ (Lit.int .i64 z).wf = true := by
      intro n a b y hy
      obtain ⟨y0, y1, m, _, _, h0, h1⟩ := trod_struct2 Tryz.underlying23 hy
      exact Tryz.vec_of (by simpa [ci] using h0) (by simpa [ci] using h1)
    obtain ⟨x, y, ⟨rfl, rfl⟩, w1, w2⟩ := two g0
    obtain ⟨u, z, ⟨rfl, rfl⟩, w3, w4⟩ := two g1
    obtain ⟨n, e4, _, w5⟩ := DataW.trod_int Tryz.underlying3 g2
    obtain ⟨b, e5, _⟩ := DataW.trod_bool Tryz.underlying4 g3
    simp at e4 e5
    subst e4; subst e5
    exact ⟨x, y, u, z, n, b, rfl, w1, w2, w3, w4, w5⟩
end Go.Proofs.YtdcceppednngjaaGreat
