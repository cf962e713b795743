/-
  The texts NestV, NestS, put together; each has its own heading below. No condition of ours.
-/
import Derived.Test.YtdcceppednngjaaVecM
import Derived.Deep.SlicePairs
import Derived.ChangeOld
import Derived.ProofKit
import Derived.Test.YtdcceppednngjaaSB
import Derived.Test.YtdcceppednngjaaRows
import Derived.WalkKit
import Derived.ChangeSame
import Derived.Lib.SmallJoins
import Derived.Test.YtdcceppednngjaaLB
/-
  The data of an argument that is a list of vectors: read into integers.
-/




namespace Go.Proofs.Ytdcceppednngjaa
open Go.RowKit Go.ChangeShapes Go.WideShapes
set_option linter.unusedVariables false
theorem Try.vecs_of {H : Type} {enc : TypeId × Value → H} {W : World} {base : Nat} {spare : Nat → Bool} {fuel : Nat} {a : Option Addr} {len cap : Nat} {x : DataW H × List MemPlace}
    (h : DataW.trod enc Try.prog W base spare true fuel 62 [.slice a len cap] = some x) : ∃ zs, IsVecs W a len cap zs := by
  rcases Deep.open_slice_pairs Try.underlying62 Try.underlying23 (show Try.prog.cellsOf 23 = 2 by kernel_rfl) rfl rfl (show Try.prog.cellsOf 3 = 1 by kernel_rfl) (show Try.prog.cellsOf 3 = 1 by kernel_rfl) h with ⟨hcs, _⟩ | ⟨ad, l, c, m, n, V0, V1, D0, D1, P0, P1, hcs, _, hl, hm, hmm, _, hc⟩
  · simp at hcs
    obtain ⟨rfl, rfl, rfl⟩ := hcs
    exact ⟨[], .inl ⟨rfl, rfl, rfl, rfl⟩⟩
  · simp at hcs
    obtain ⟨rfl, rfl, rfl⟩ := hcs
    have hlm : len ≤ m := by rw [hmm]; split <;> omega
    have each : ∀ i, i < len → ∃ q : V2, W.cell? (ad.add (i * 2)) = some (.int .i64 q.1) ∧ W.cell? (ad.add (i * 2 + 1)) = some (.int .i64 q.2) ∧ (Lit.int .i64 q.1).wf = true ∧ (Lit.int .i64 q.2).wf = true := by
      intro i hi
      obtain ⟨c0, c1, t0, t1⟩ := hc i (by omega)
      obtain ⟨p, e0, _, w0⟩ := DataW.trod_int Try.underlying3 t0
      obtain ⟨q, e1, _, w1⟩ := DataW.trod_int Try.underlying3 t1
      simp at e0 e1
      rw [e0] at c0; rw [e1] at c1
      exact ⟨(p, q), c0, c1, w0, w1⟩
    have pick : ∀ k, k ≤ len → ∃ zs : List V2, zs.length = k ∧ ∀ i (h : i < zs.length), W.cell? (ad.add (i * 2)) = some (.int .i64 zs[i].1) ∧ W.cell? (ad.add (i * 2 + 1)) = some (.int .i64 zs[i].2) ∧ (Lit.int .i64 zs[i].1).wf = true ∧ (Lit.int .i64 zs[i].2).wf = true := by
      intro k
      induction k with
      | zero => intro _; exact ⟨[], rfl, fun i h => by simp at h⟩
      | succ k ih =>
        intro hk
        obtain ⟨zs, hz, hi⟩ := ih (by omega)
        obtain ⟨q, hq⟩ := each k (by omega)
        refine ⟨zs ++ [q], by simp [hz], fun i h => ?_⟩
        by_cases e : i < zs.length
        · rw [List.getElem_append_left e]; exact hi i e
        · have : i = zs.length := by simp at h; omega
          subst this
          rw [List.getElem_append_right (by omega)]
          simp only [Nat.sub_self, List.getElem_cons_zero]
          rw [hz]; exact hq
    obtain ⟨zs, hz, hi⟩ := pick len (Nat.le_refl _)
    refine ⟨zs, .inr ⟨ad, rfl, hl, hm, hz, fun i h => ⟨(hi i h).1, (hi i h).2.1⟩, fun v hv => ?_⟩⟩
    obtain ⟨i, h, rfl⟩ := List.getElem_of_mem hv
    exact (hi i h).2.2
end Go.Proofs.Ytdcceppednngjaa

/-
  The data of an argument that is a scene: read into numbers and lists.
-/



namespace Go.Proofs.Ytdcceppednngjaa
open Go.RowKit Go.ChangeShapes Go.WideShapes
set_option linter.unusedVariables false
set_option maxRecDepth 100000 in
theorem Try.vecss_of {H : Type} {enc : TypeId × Value → H} {W : World} {base : Nat} {spare : Nat → Bool} {fuel : Nat} {a : Option Addr} {len cap : Nat} {x : DataW H × List MemPlace}
    (h : DataW.trod enc Try.prog W base spare true fuel 32 [.slice a len cap] = some x) : ∃ ss, IsSS W a len cap ss := by
  rcases Deep.open_slice1 Try.underlying32 (show Try.prog.cellsOf 62 = 1 by kernel_rfl) h with ⟨hcs, _⟩ | ⟨ad, l, c, m, n, V, D, Pl, hcs, _, hl, hm, hmm, _, hc⟩
  · simp at hcs
    obtain ⟨rfl, rfl, rfl⟩ := hcs
    exact ⟨[], rfl, Nat.le_refl _, Nat.zero_le _, .inl rfl, fun s hs => by simp at hs⟩
  · simp at hcs
    obtain ⟨rfl, rfl, rfl⟩ := hcs
    have hlm : len ≤ m := by rw [hmm]; split <;> omega
    have each : ∀ i, i < len → ∃ s : Sl, W.cell? (ad.add i) = some s.v ∧ IsVecs W s.a s.vs.length s.c s.vs := by
      intro i hi
      obtain ⟨h1, h2⟩ := hc i (by omega)
      obtain ⟨b, bl, bc, hb⟩ : ∃ b bl bc, V i = .slice b bl bc := by
        rcases Deep.open_slice Try.underlying62 h2 with ⟨e, _⟩ | ⟨b, bl, bc, _, _, _, _, e, _⟩
        · exact ⟨none, 0, 0, by simpa using e⟩
        · exact ⟨some b, bl, bc, by simpa using e⟩
      rw [hb] at h1 h2
      obtain ⟨zs, hz⟩ := Try.vecs_of h2
      have hlen := hz.rd.2.1
      exact ⟨⟨b, bc, zs⟩, by show _ = some (Value.slice b zs.length bc); rw [hlen]; exact h1, by show IsVecs W b zs.length bc zs; rw [hlen]; exact hz⟩
    have pick : ∀ k, k ≤ len → ∃ ss : List Sl, ss.length = k ∧ ∀ i (h : i < ss.length), W.cell? (ad.add i) = some ss[i].v ∧ IsVecs W ss[i].a ss[i].vs.length ss[i].c ss[i].vs := by
      intro k
      induction k with
      | zero => intro _; exact ⟨[], rfl, fun i h => by simp at h⟩
      | succ k ih =>
        intro hk
        obtain ⟨ss, hz, hi⟩ := ih (by omega)
        obtain ⟨q, hq⟩ := each k (by omega)
        refine ⟨ss ++ [q], by simp [hz], fun i h => ?_⟩
        by_cases e : i < ss.length
        · rw [List.getElem_append_left e]; exact hi i e
        · have : i = ss.length := by simp at h; omega
          subst this
          rw [List.getElem_append_right (by omega)]
          simp only [Nat.sub_self, List.getElem_cons_zero]
          rw [hz]; exact hq
    obtain ⟨ss, hz, hi⟩ := pick len (Nat.le_refl _)
    refine ⟨ss, hz, hl, hm, ?_, fun s hs => ?_⟩
    · by_cases h0 : ss.length = 0
      · left
        rw [List.eq_nil_of_length_eq_zero h0]; rfl
      · refine .inr ⟨ad, rfl, ?_, fun k u hu => ?_⟩
        · have := World.block_lt_of_cell? W _ (hi 0 (by omega)).1
          rwa [add_block] at this
        · have hk : k < ss.length := by
            have := (List.getElem?_eq_some_iff.1 hu).1
            rwa [slv_len] at this
          have e : (slv ss)[k]? = some ss[k].v := by rw [List.getElem?_eq_getElem (by rw [slv_len]; exact hk), slv_at hk]
          rw [e] at hu
          injection hu with hu
          rw [← hu]; exact (hi k hk).1
    · obtain ⟨i, h, rfl⟩ := List.getElem_of_mem hs
      exact (hi i h).2
end Go.Proofs.Ytdcceppednngjaa
