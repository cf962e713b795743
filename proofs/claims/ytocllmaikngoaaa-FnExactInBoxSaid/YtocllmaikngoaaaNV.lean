/-
  The texts NestP, NestB, put together; each has its own heading below. No condition of ours.
-/
import Derived.Test.YtocllmaikngoaaaRows
import Derived.WalkKit
import Derived.ProofKit
import Derived.ChangeSame
import Derived.Lib.SmallJoins
import Derived.Test.YtocllmaikngoaaaLB
import Derived.ChangeOld
/-
  A struct of two structs of three cells each: its data, opened.
-/




namespace Go.Proofs.Ytocllmaikngoaaa
open Go.ChangeShapes Go.WideShapes Go.ChangeAt Go.RowKit
theorem array6 {α : Type} {cs : Array α} (h : cs.size = 6) : ∃ a b c d e f, cs = #[a, b, c, d, e, f] := by
  obtain ⟨l⟩ := cs
  match l, h with
  | [a, b, c, d, e, f], _ => exact ⟨a, b, c, d, e, f, rfl⟩
theorem open_point {H : Type} {enc : TypeId × Value → H} {P : Program} {w : World} {base : Nat} {spare : Nat → Bool} {held : Bool} {r : Reach} {b0 : Nat} {t : TypeId} {f0 f1 : Field} {v : Value} {d : DataW H} {p : List MemPlace}
    (hs : P.underlying t = some (.struct #[f0, f1])) (hC : P.cellsOf t = 6) (o0 : f0.offset = 0) (o1 : f1.offset = 3) (c0 : P.cellsOf f0.type = 3) (c1 : P.cellsOf f1.type = 3)
    (hv : Value.okWide P w r b0 t v) (h : DataW.Trod enc P w base spare held t v d p) :
    ∃ (v0 v1 v2 v3 v4 v5 : Value) (y0 y1 : DataW H × List MemPlace) (n : Nat), v = .agg #[v0, v1, v2, v3, v4, v5] ∧
      DataW.trod enc P w base spare held n f0.type [v0, v1, v2] = some y0 ∧ DataW.trod enc P w base spare held n f1.type [v3, v4, v5] = some y1 := by
  obtain ⟨cs, rfl, hsz⟩ := okWide_struct hs hv
  obtain ⟨a0, a1, a2, a3, a4, a5, rfl⟩ := array6 (hsz.trans hC)
  obtain ⟨fuel, hf⟩ := h
  obtain ⟨y0, y1, n, _, _, h0, h1⟩ := trod_struct2 hs hf
  exact ⟨a0, a1, a2, a3, a4, a5, y0, y1, n, rfl, by simpa [Value.cells, o0, c0] using h0, by simpa [Value.cells, o1, c1] using h1⟩
theorem open_three {H : Type} {enc : TypeId × Value → H} {P : Program} {w : World} {base : Nat} {spare : Nat → Bool} {held : Bool} {t : TypeId} {f0 f1 g0 g1 : Field} {a0 a1 a2 : Value} {n : Nat} {y : DataW H × List MemPlace}
    (hs : P.underlying t = some (.struct #[f0, f1])) (hu : P.underlying f0.type = some (.struct #[g0, g1]))
    (o0 : f0.offset = 0) (o1 : f1.offset = 2) (q0 : g0.offset = 0) (q1 : g1.offset = 1) (c0 : P.cellsOf f0.type = 2) (c1 : P.cellsOf f1.type = 1) (e0 : P.cellsOf g0.type = 1) (e1 : P.cellsOf g1.type = 1)
    (h : DataW.trod enc P w base spare held n t [a0, a1, a2] = some y) :
    ∃ (y0 y1 y2 : DataW H × List MemPlace) (m m' : Nat),
      DataW.trod enc P w base spare held m g0.type [a0] = some y0 ∧ DataW.trod enc P w base spare held m g1.type [a1] = some y1 ∧ DataW.trod enc P w base spare held m' f1.type [a2] = some y2 := by
  obtain ⟨y0, y1, n, _, _, h0, h1⟩ := trod_struct2 hs h
  have k0 : DataW.trod enc P w base spare held n f0.type [a0, a1] = some y0 := by simpa [o0, c0] using h0
  have k1 : DataW.trod enc P w base spare held n f1.type [a2] = some y1 := by simpa [o1, c1] using h1
  obtain ⟨z0, z1, m, _, _, j0, j1⟩ := trod_struct2 hu k0
  exact ⟨z0, z1, y1, m, n, by simpa [q0, e0] using j0, by simpa [q1, e1] using j1, k1⟩
theorem Try.qrow_of {H : Type} {enc : TypeId × Value → H} {W : World} {base : Nat} {n : Nat} {a0 a1 a2 : Value} {y : DataW H × List MemPlace}
    (h : DataW.trod enc Try.prog W base (fun _ => true) true n 46 [a0, a1, a2] = some y) : QRow W a0 a1 a2 := by
  obtain ⟨y0, y1, y2, m, m', hy0, hy1, hy2⟩ := open_three Try.underlying46 Try.underlying44 rfl rfl rfl rfl (show Try.prog.cellsOf 44 = 2 by kernel_rfl) (show Try.prog.cellsOf 42 = 1 by kernel_rfl) (show Try.prog.cellsOf 4 = 1 by kernel_rfl) (show Try.prog.cellsOf 42 = 1 by kernel_rfl) h
  obtain ⟨s, hs, _⟩ := DataW.trod_bool Try.underlying4 hy0
  obtain ⟨A, l, c, z, e1, r1⟩ : ∃ (a : Option Addr) (l c : Nat) (z : List Int), a1 = .slice a l c ∧ IsRow .i64 W a l c z := by
    rcases open_ints Try.underlying42 Try.underlying3 (by kernel_rfl) hy1 with ⟨hcs, _⟩ | ⟨x, l, c, zs, hcs, _, hl, hm, hz, _, hcell, hwz⟩
    · exact ⟨none, 0, 0, [], by simpa using hcs, .inl ⟨rfl, rfl, rfl, rfl⟩⟩
    · exact ⟨some x, l, c, zs, by simpa using hcs, .inr ⟨_, rfl, hl, hm, by simpa using hz, hcell, hwz⟩⟩
  obtain ⟨D, m, d, y, e2, r2⟩ : ∃ (a : Option Addr) (l c : Nat) (z : List Int), a2 = .slice a l c ∧ IsRow .i64 W a l c z := by
    rcases open_ints Try.underlying42 Try.underlying3 (by kernel_rfl) hy2 with ⟨hcs, _⟩ | ⟨x, l, c, zs, hcs, _, hl, hm, hz, _, hcell, hwz⟩
    · exact ⟨none, 0, 0, [], by simpa using hcs, .inl ⟨rfl, rfl, rfl, rfl⟩⟩
    · exact ⟨some x, l, c, zs, by simpa using hcs, .inr ⟨_, rfl, hl, hm, by simpa using hz, hcell, hwz⟩⟩
  exact ⟨s, A, l, c, z, D, m, d, y, by simpa using hs, e1, e2, r1, r2⟩
theorem Try.vec_of {H : Type} {enc : TypeId × Value → H} {W : World} {base : Nat} {spare : Nat → Bool} {n : Nat} {a0 a1 : Value} {y0 y1 : DataW H × List MemPlace}
    (h0 : DataW.trod enc Try.prog W base spare true n 3 [a0] = some y0) (h1 : DataW.trod enc Try.prog W base spare true n 3 [a1] = some y1) : ∃ x y : Int, (a0 = .int .i64 x ∧ a1 = .int .i64 y) ∧ (Lit.int .i64 x).wf = true ∧ (Lit.int .i64 y).wf = true := by
  obtain ⟨x, e0, _, w0⟩ := DataW.trod_int Try.underlying3 h0
  obtain ⟨y, e1, _, w1⟩ := DataW.trod_int Try.underlying3 h1
  exact ⟨x, y, ⟨by simpa using e0, by simpa using e1⟩, w0, w1⟩
end Go.Proofs.Ytocllmaikngoaaa

/-
  The data of an argument that is a rectangle: read into ints.
-/

namespace Go.Proofs.Ytocllmaikngoaaa
open Go.RowKit Go.ChangeShapes Go.WideShapes
set_option linter.unusedVariables false
set_option maxRecDepth 100000 in
theorem Try.box_of {H : Type} {enc : TypeId × Value → H} {W : World} {base : Nat} {r : Reach} {b0 : Nat} {v : Value} {d : DataW H} {p : List MemPlace}
    (hv : Value.okWide Try.prog W r b0 41 v) (h : DataW.Trod enc Try.prog W base (fun _ => true) true 41 v d p) : ∃ x y u z : Int, v = .agg #[.int .i64 x, .int .i64 y, .int .i64 u, .int .i64 z] ∧ (Lit.int .i64 x).wf = true ∧ (Lit.int .i64 y).wf = true ∧ (Lit.int .i64 u).wf = true ∧ (Lit.int .i64 z).wf = true := by
  have c2 : Try.prog.cellsOf 23 = 2 := by kernel_rfl
  have ci : Try.prog.cellsOf 3 = 1 := by kernel_rfl
  obtain ⟨cs, rfl, hsz⟩ := okWide_struct Try.underlying41 hv
  have h4 : cs.size = 4 := hsz.trans (show Try.prog.cellsOf 41 = 4 by kernel_rfl)
  obtain ⟨v0, v1, v2, v3, rfl⟩ : ∃ a b c d, cs = #[a, b, c, d] := by
    obtain ⟨l⟩ := cs
    match l, h4 with
    | [a, b, c, d], _ => exact ⟨a, b, c, d, rfl⟩
  obtain ⟨fuel, hf⟩ := h
  obtain ⟨xs, k, hk, hxy, _, hxl, hg⟩ := DataW.trod_struct Try.underlying41 hf
  match xs, hxl with
  | [x0, x1], _ =>
    have g0 := hg 0 _ rfl
    have g1 := hg 1 _ rfl
    simp [Value.cells, c2] at g0 g1
    have two : ∀ {n : Nat} {a b : Value} {y : DataW H × List MemPlace}, DataW.trod enc Try.prog W base (fun _ => true) true n 23 [a, b] = some y → ∃ x z : Int, (a = .int .i64 x ∧ b = .int .i64 z) ∧ (Lit.int .i64 x).wf = true ∧ (Lit.int .i64 z).wf = true := by
      intro n a b y hy
      obtain ⟨y0, y1, m, _, _, h0, h1⟩ := trod_struct2 Try.underlying23 hy
      exact Try.vec_of (by simpa [ci] using h0) (by simpa [ci] using h1)
    obtain ⟨x, y, ⟨rfl, rfl⟩, w1, w2⟩ := two g0
    obtain ⟨u, z, ⟨rfl, rfl⟩, w3, w4⟩ := two g1
    exact ⟨x, y, u, z, rfl, w1, w2, w3, w4⟩
end Go.Proofs.Ytocllmaikngoaaa
