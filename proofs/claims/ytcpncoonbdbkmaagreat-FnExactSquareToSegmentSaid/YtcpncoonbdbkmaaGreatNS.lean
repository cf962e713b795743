/-
  The texts NestP, put together; each has its own heading below. No condition of ours.
-/
import Derived.Test.YtcpncoonbdbkmaaGreatRows
import Derived.WalkKit
import Derived.ProofKit
import Derived.ChangeSame
import Derived.Lib.SmallJoins
import Derived.Test.YtcpncoonbdbkmaaGreatLB
import Derived.ChangeOld
/-
  A struct of two structs of three cells each: its data, opened.
-/




namespace Go.Proofs.YtcpncoonbdbkmaaGreat
open Go.ChangeShapes Go.WideShapes Go.ChangeAt Go.RowKit
theorem array6 {α : Type} {cs : Array α} (h : cs.size = 6) : ∃ a b c d e f, cs = #[a, b, c, d, e, f] := by
  obtain ⟨l⟩ := cs
  match l, h with
  | [a, b, c, d, e, f], _ => exact ⟨a, b, c, d, e, f, rfl⟩
theorem open_point {H : Type} {enc : TypeId × Value → H} {P : Program} {w : World} {base : Nat} {spare : Nat → Bool} {held : Bool} {r : Reach} {b0 : Nat} {t : TypeId} {f0 f1 : Field} {v : Value} {d : DataW H} {p : List MemPlace}
    (hs : P.underlying t = some (.struct #[f0, f1])) (hC : P.cellsOf t = 6) (o0 : f0.offset = 0) (o1 : f1.offset = 3) (c0 : P.cellsOf f0.type = 3) (c1 : P.cellsOf f1.type = 3)
    (hv : Value.okWide P w r b0 t v) (h : DataW.Trod enc P w base spare held t v d p) :
    ∃ (v0 v1 v2 v3 v4 v5 : Value) (y0 y1 : DataW H × List MemPlace) (n : Nat), v = .agg #[v0, v1, v2, v3, v4, v5] ∧
      DataW.trod enc P w base spare held n f0.type [v0, v1, v2] = some y0 ∧ DataW.trod enc P w base spare held n f1.type [v3, v4, v5] = some y1 := by
  obtain ⟨cs, rfl, hsz⟩ := okWide_struct hs hv
  obtain ⟨a0, a1, a2, a3, a4, a5, rfl⟩ := array6 (hsz.trans hC)
  obtain ⟨fuel, hf⟩ := h
  obtain ⟨y0, y1, n, _, _, h0, h1⟩ := trod_struct2 hs hf
  exact ⟨a0, a1, a2, a3, a4, a5, y0, y1, n, rfl, by simpa [Value.cells, o0, c0] using h0, by simpa [Value.cells, o1, c1] using h1⟩
theorem open_three {H : Type} {enc : TypeId × Value → H} {P : Program} {w : World} {base : Nat} {spare : Nat → Bool} {held : Bool} {t : TypeId} {f0 f1 g0 g1 : Field} {a0 a1 a2 : Value} {n : Nat} {y : DataW H × List MemPlace}
    (hs : P.underlying t = some (.struct #[f0, f1])) (hu : P.underlying f0.type = some (.struct #[g0, g1]))
    (o0 : f0.offset = 0) (o1 : f1.offset = 2) (q0 : g0.offset = 0) (q1 : g1.offset = 1) (c0 : P.cellsOf f0.type = 2) (c1 : P.cellsOf f1.type = 1) (e0 : P.cellsOf g0.type = 1) (e1 : P.cellsOf g1.type = 1)
    (h : DataW.trod enc P w base spare held n t [a0, a1, a2] = some y) :
    ∃ (y0 y1 y2 : DataW H × List MemPlace) (m m' : Nat),
      DataW.trod enc P w base spare held m g0.type [a0] = some y0 ∧ DataW.trod enc P w base spare held m g1.type [a1] = some y1 ∧ DataW.trod enc P w base spare held m' f1.type [a2] = some y2 := by
  obtain ⟨y0, y1, n, _, _, h0, h1⟩ := trod_struct2 hs h
  have k0 : DataW.trod enc P w base spare held n f0.type [a0, a1] = some y0 := by simpa [o0, c0] using h0
  have k1 : DataW.trod enc P w base spare held n f1.type [a2] = some y1 := by simpa [o1, c1] using h1
  obtain ⟨z0, z1, m, _, _, j0, j1⟩ := trod_struct2 hu k0
  exact ⟨z0, z1, y1, m, n, by simpa [q0, e0] using j0, by simpa [q1, e1] using j1, k1⟩
theorem Tryz.qrow_of {H : Type} {enc : TypeId × Value → H} {W : World} {base : Nat} {n : Nat} {a0 a1 a2 : Value} {y : DataW H × List MemPlace}
    (h : DataW.trod enc Tryz.prog W base (fun _ => true) true n 51 [a0, a1, a2] = some y) : QRow W a0 a1 a2 := by
  obtain ⟨y0, y1, y2, m, m', hy0, hy1, hy2⟩ := open_three Tryz.underlying51 Tryz.underlying49 rfl rfl rfl rfl (show Tryz.prog.cellsOf 49 = 2 by kernel_rfl) (show Tryz.prog.cellsOf 23 = 1 by kernel_rfl) (show Tryz.prog.cellsOf 4 = 1 by kernel_rfl) (show Tryz.prog.cellsOf 23 = 1 by kernel_rfl) h
  obtain ⟨s, hs, _⟩ := DataW.trod_bool Tryz.underlying4 hy0
  obtain ⟨A, l, c, z, e1, r1⟩ : ∃ (a : Option Addr) (l c : Nat) (z : List Int), a1 = .slice a l c ∧ IsRow .i64 W a l c z := by
    rcases open_ints Tryz.underlying23 Tryz.underlying3 (by kernel_rfl) hy1 with ⟨hcs, _⟩ | ⟨x, l, c, zs, hcs, _, hl, hm, hz, _, hcell, hwz⟩
    · exact ⟨none, 0, 0, [], by simpa using hcs, .inl ⟨rfl, rfl, rfl, rfl⟩⟩
    · exact ⟨some x, l, c, zs, by simpa using hcs, .inr ⟨_, rfl, hl, hm, by simpa using hz, hcell, hwz⟩⟩
  obtain ⟨D, m, d, y, e2, r2⟩ : ∃ (a : Option Addr) (l c : Nat) (z : List Int), a2 = .slice a l c ∧ IsRow .i64 W a l c z := by
    rcases open_ints Tryz.underlying23 Tryz.underlying3 (by kernel_rfl) hy2 with ⟨hcs, _⟩ | ⟨x, l, c, zs, hcs, _, hl, hm, hz, _, hcell, hwz⟩
    · exact ⟨none, 0, 0, [], by simpa using hcs, .inl ⟨rfl, rfl, rfl, rfl⟩⟩
    · exact ⟨some x, l, c, zs, by simpa using hcs, .inr ⟨_, rfl, hl, hm, by simpa using hz, hcell, hwz⟩⟩
  exact ⟨s, A, l, c, z, D, m, d, y, by simpa using hs, e1, e2, r1, r2⟩
end Go.Proofs.YtcpncoonbdbkmaaGreat
