/-
  The texts NestV, NestP, put together; each has its own heading below. No condition of ours.
-/
import Derived.Test.YtafhhemojdblpaaDoorVecM
import Derived.Deep.SlicePairs
import Derived.ChangeOld
import Derived.ProofKit
import Derived.Test.YtafhhemojdblpaaDoorRows
import Derived.WalkKit
import Derived.ChangeSame
import Derived.Lib.SmallJoins
import Derived.Test.YtafhhemojdblpaaDoorLB
/-
  The data of an argument that is a list of vectors: read into integers.
-/




namespace Go.Proofs.YtafhhemojdblpaaDoor
open Go.RowKit Go.ChangeShapes Go.WideShapes
set_option linter.unusedVariables false
theorem Tryd.vecs_of {H : Type} {enc : TypeId × Value → H} {W : World} {base : Nat} {spare : Nat → Bool} {fuel : Nat} {a : Option Addr} {len cap : Nat} {x : DataW H × List MemPlace}
    (h : DataW.trod enc Tryd.prog W base spare true fuel 41 [.slice a len cap] = some x) : ∃ zs, IsVecs W a len cap zs := by
  rcases Deep.open_slice_pairs Tryd.underlying41 Tryd.underlying35 (show Tryd.prog.cellsOf 35 = 2 by kernel_rfl) rfl rfl (show Tryd.prog.cellsOf 3 = 1 by kernel_rfl) (show Tryd.prog.cellsOf 3 = 1 by kernel_rfl) h with ⟨hcs, _⟩ | ⟨ad, l, c, m, n, V0, V1, D0, D1, P0, P1, hcs, _, hl, hm, hmm, _, hc⟩
  · simp at hcs
    obtain ⟨rfl, rfl, rfl⟩ := hcs
    exact ⟨[], .inl ⟨rfl, rfl, rfl, rfl⟩⟩
  · simp at hcs
    obtain ⟨rfl, rfl, rfl⟩ := hcs
    have hlm : len ≤ m := by rw [hmm]; split <;> omega
    have each : ∀ i, i < len → ∃ q : V2, W.cell? (ad.add (i * 2)) = some (.int .i64 q.1) ∧ W.cell? (ad.add (i * 2 + 1)) = some (.int .i64 q.2) ∧ (Lit.int .i64 q.1).wf = true ∧ (Lit.int .i64 q.2).wf = true := by
      intro i hi
      obtain ⟨c0, c1, t0, t1⟩ := hc i (by omega)
      obtain ⟨p, e0, _, w0⟩ := DataW.trod_int Tryd.underlying3 t0
      obtain ⟨q, e1, _, w1⟩ := DataW.trod_int Tryd.underlying3 t1
      simp at e0 e1
      rw [e0] at c0; rw [e1] at c1
      exact ⟨(p, q), c0, c1, w0, w1⟩
    have pick : ∀ k, k ≤ len → ∃ zs : List V2, zs.length = k ∧ ∀ i (h : i < zs.length), W.cell? (ad.add (i * 2)) = some (.int .i64 zs[i].1) ∧ W.cell? (ad.add (i * 2 + 1)) = some (.int .i64 zs[i].2) ∧ (Lit.int .i64 zs[i].1).wf = true ∧ (Lit.int .i64 zs[i].2).wf = true := by
      intro k
      induction k with
      | zero => intro _; exact ⟨[], rfl, fun i h => by simp at h⟩
      | succ k ih =>
        intro hk
        obtain ⟨zs, hz, hi⟩ := ih (by omega)
        obtain ⟨q, hq⟩ := each k (by omega)
        refine ⟨zs ++ [q], by simp [hz], fun i h => ?_⟩
        by_cases e : i < zs.length
        · rw [List.getElem_append_left e]; exact hi i e
        · have : i = zs.length := by simp at h; omega
          subst this
          rw [List.getElem_append_right (by omega)]
          simp only [Nat.sub_self, List.getElem_cons_zero]
          rw [hz]; exact hq
    obtain ⟨zs, hz, hi⟩ := pick len (Nat.le_refl _)
    refine ⟨zs, .inr ⟨ad, rfl, hl, hm, hz, fun i h => ⟨(hi i h).1, (hi i h).2.1⟩, fun v hv => ?_⟩⟩
    obtain ⟨i, h, rfl⟩ := List.getElem_of_mem hv
    exact (hi i h).2.2
end Go.Proofs.YtafhhemojdblpaaDoor

/-
  A struct of two structs of three cells each: its data, opened.
-/




namespace Go.Proofs.YtafhhemojdblpaaDoor
open Go.ChangeShapes Go.WideShapes Go.ChangeAt Go.RowKit
theorem Tryd.vec_of {H : Type} {enc : TypeId × Value → H} {W : World} {base : Nat} {spare : Nat → Bool} {n : Nat} {a0 a1 : Value} {y0 y1 : DataW H × List MemPlace}
    (h0 : DataW.trod enc Tryd.prog W base spare true n 3 [a0] = some y0) (h1 : DataW.trod enc Tryd.prog W base spare true n 3 [a1] = some y1) : ∃ x y : Int, (a0 = .int .i64 x ∧ a1 = .int .i64 y) ∧ (Lit.int .i64 x).wf = true ∧ (Lit.int .i64 y).wf = true := by
  obtain ⟨x, e0, _, w0⟩ := DataW.trod_int Tryd.underlying3 h0
  obtain ⟨y, e1, _, w1⟩ := DataW.trod_int Tryd.underlying3 h1
  exact ⟨x, y, ⟨by simpa using e0, by simpa using e1⟩, w0, w1⟩
end Go.Proofs.YtafhhemojdblpaaDoor
