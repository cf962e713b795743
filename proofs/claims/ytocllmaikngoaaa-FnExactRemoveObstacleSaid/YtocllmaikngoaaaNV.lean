/-
  The texts NestV, NestP, NestS, put together; each has its own heading below. No condition of ours.
-/
import Derived.Test.YtocllmaikngoaaaVecM
import Derived.Deep.SlicePairs
import Derived.ChangeOld
import Derived.ProofKit
import Derived.Test.YtocllmaikngoaaaRows
import Derived.WalkKit
import Derived.ChangeSame
import Derived.Lib.SmallJoins
import Derived.Test.YtocllmaikngoaaaLB
import Derived.Test.YtocllmaikngoaaaSB
/-
  The data of an argument that is a list of vectors: read into integers.
-/




namespace Go.Proofs.Ytocllmaikngoaaa
open Go.RowKit Go.ChangeShapes Go.WideShapes
set_option linter.unusedVariables false
theorem Try.vecs_of {H : Type} {enc : TypeId × Value → H} {W : World} {base : Nat} {spare : Nat → Bool} {fuel : Nat} {a : Option Addr} {len cap : Nat} {x : DataW H × List MemPlace}
    (h : DataW.trod enc Try.prog W base spare true fuel 24 [.slice a len cap] = some x) : ∃ zs, IsVecs W a len cap zs := by
  rcases Deep.open_slice_pairs Try.underlying24 Try.underlying23 (show Try.prog.cellsOf 23 = 2 by kernel_rfl) rfl rfl (show Try.prog.cellsOf 3 = 1 by kernel_rfl) (show Try.prog.cellsOf 3 = 1 by kernel_rfl) h with ⟨hcs, _⟩ | ⟨ad, l, c, m, n, V0, V1, D0, D1, P0, P1, hcs, _, hl, hm, hmm, _, hc⟩
  · simp at hcs
    obtain ⟨rfl, rfl, rfl⟩ := hcs
    exact ⟨[], .inl ⟨rfl, rfl, rfl, rfl⟩⟩
  · simp at hcs
    obtain ⟨rfl, rfl, rfl⟩ := hcs
    have hlm : len ≤ m := by rw [hmm]; split <;> omega
    have each : ∀ i, i < len → ∃ q : V2, W.cell? (ad.add (i * 2)) = some (.int .i64 q.1) ∧ W.cell? (ad.add (i * 2 + 1)) = some (.int .i64 q.2) ∧ (Lit.int .i64 q.1).wf = true ∧ (Lit.int .i64 q.2).wf = true := by
      intro i hi
      obtain ⟨c0, c1, t0, t1⟩ := hc i (by omega)
      obtain ⟨p, e0, _, w0⟩ := DataW.trod_int Try.underlying3 t0
      obtain ⟨q, e1, _, w1⟩ := DataW.trod_int Try.underlying3 t1
      simp at e0 e1
      rw [e0] at c0; rw [e1] at c1
      exact ⟨(p, q), c0, c1, w0, w1⟩
    have pick : ∀ k, k ≤ len → ∃ zs : List V2, zs.length = k ∧ ∀ i (h : i < zs.length), W.cell? (ad.add (i * 2)) = some (.int .i64 zs[i].1) ∧ W.cell? (ad.add (i * 2 + 1)) = some (.int .i64 zs[i].2) ∧ (Lit.int .i64 zs[i].1).wf = true ∧ (Lit.int .i64 zs[i].2).wf = true := by
      intro k
      induction k with
      | zero => intro _; exact ⟨[], rfl, fun i h => by simp at h⟩
      | succ k ih =>
        intro hk
        obtain ⟨zs, hz, hi⟩ := ih (by omega)
        obtain ⟨q, hq⟩ := each k (by omega)
        refine ⟨zs ++ [q], by simp [hz], fun i h => ?_⟩
        by_cases e : i < zs.length
        · rw [List.getElem_append_left e]; exact hi i e
        · have : i = zs.length := by simp at h; omega
          subst this
          rw [List.getElem_append_right (by omega)]
          simp only [Nat.sub_self, List.getElem_cons_zero]
          rw [hz]; exact hq
    obtain ⟨zs, hz, hi⟩ := pick len (Nat.le_refl _)
    refine ⟨zs, .inr ⟨ad, rfl, hl, hm, hz, fun i h => ⟨(hi i h).1, (hi i h).2.1⟩, fun v hv => ?_⟩⟩
    obtain ⟨i, h, rfl⟩ := List.getElem_of_mem hv
    exact (hi i h).2.2
end Go.Proofs.Ytocllmaikngoaaa

/-
  A struct of two structs of three cells each: its data, opened.
-/




namespace Go.Proofs.Ytocllmaikngoaaa
open Go.ChangeShapes Go.WideShapes Go.ChangeAt Go.RowKit
theorem Try.vec_of {H : Type} {enc : TypeId × Value → H} {W : World} {base : Nat} {spare : Nat → Bool} {n : Nat} {a0 a1 : Value} {y0 y1 : DataW H × List MemPlace}
    (h0 : DataW.trod enc Try.prog W base spare true n 3 [a0] = some y0) (h1 : DataW.trod enc Try.prog W base spare true n 3 [a1] = some y1) : ∃ x y : Int, (a0 = .int .i64 x ∧ a1 = .int .i64 y) ∧ (Lit.int .i64 x).wf = true ∧ (Lit.int .i64 y).wf = true := by
  obtain ⟨x, e0, _, w0⟩ := DataW.trod_int Try.underlying3 h0
  obtain ⟨y, e1, _, w1⟩ := DataW.trod_int Try.underlying3 h1
  exact ⟨x, y, ⟨by simpa using e0, by simpa using e1⟩, w0, w1⟩
end Go.Proofs.Ytocllmaikngoaaa

/-
  The data of an argument that is a scene: read into numbers and lists.
-/



namespace Go.Proofs.Ytocllmaikngoaaa
open Go.RowKit Go.ChangeShapes Go.WideShapes
set_option linter.unusedVariables false
set_option maxRecDepth 100000 in
theorem Try.vecss_of {H : Type} {enc : TypeId × Value → H} {W : World} {base : Nat} {spare : Nat → Bool} {fuel : Nat} {a : Option Addr} {len cap : Nat} {x : DataW H × List MemPlace}
    (h : DataW.trod enc Try.prog W base spare true fuel 25 [.slice a len cap] = some x) : ∃ ss, IsSS W a len cap ss := by
  rcases Deep.open_slice1 Try.underlying25 (show Try.prog.cellsOf 24 = 1 by kernel_rfl) h with ⟨hcs, _⟩ | ⟨ad, l, c, m, n, V, D, Pl, hcs, _, hl, hm, hmm, _, hc⟩
  · simp at hcs
    obtain ⟨rfl, rfl, rfl⟩ := hcs
    exact ⟨[], rfl, Nat.le_refl _, Nat.zero_le _, .inl rfl, fun s hs => by simp at hs⟩
  · simp at hcs
    obtain ⟨rfl, rfl, rfl⟩ := hcs
    have hlm : len ≤ m := by rw [hmm]; split <;> omega
    have each : ∀ i, i < len → ∃ s : Sl, W.cell? (ad.add i) = some s.v ∧ IsVecs W s.a s.vs.length s.c s.vs := by
      intro i hi
      obtain ⟨h1, h2⟩ := hc i (by omega)
      obtain ⟨b, bl, bc, hb⟩ : ∃ b bl bc, V i = .slice b bl bc := by
        rcases Deep.open_slice Try.underlying24 h2 with ⟨e, _⟩ | ⟨b, bl, bc, _, _, _, _, e, _⟩
        · exact ⟨none, 0, 0, by simpa using e⟩
        · exact ⟨some b, bl, bc, by simpa using e⟩
      rw [hb] at h1 h2
      obtain ⟨zs, hz⟩ := Try.vecs_of h2
      have hlen := hz.rd.2.1
      exact ⟨⟨b, bc, zs⟩, by show _ = some (Value.slice b zs.length bc); rw [hlen]; exact h1, by show IsVecs W b zs.length bc zs; rw [hlen]; exact hz⟩
    have pick : ∀ k, k ≤ len → ∃ ss : List Sl, ss.length = k ∧ ∀ i (h : i < ss.length), W.cell? (ad.add i) = some ss[i].v ∧ IsVecs W ss[i].a ss[i].vs.length ss[i].c ss[i].vs := by
      intro k
      induction k with
      | zero => intro _; exact ⟨[], rfl, fun i h => by simp at h⟩
      | succ k ih =>
        intro hk
        obtain ⟨ss, hz, hi⟩ := ih (by omega)
        obtain ⟨q, hq⟩ := each k (by omega)
        refine ⟨ss ++ [q], by simp [hz], fun i h => ?_⟩
        by_cases e : i < ss.length
        · rw [List.getElem_append_left e]; exact hi i e
        · have : i = ss.length := by simp at h; omega
          subst this
          rw [List.getElem_append_right (by omega)]
          simp only [Nat.sub_self, List.getElem_cons_zero]
          rw [hz]; exact hq
    obtain ⟨ss, hz, hi⟩ := pick len (Nat.le_refl _)
    refine ⟨ss, hz, hl, hm, ?_, fun s hs => ?_⟩
    · by_cases h0 : ss.length = 0
      · left
        rw [List.eq_nil_of_length_eq_zero h0]; rfl
      · refine .inr ⟨ad, rfl, ?_, fun k u hu => ?_⟩
        · have := World.block_lt_of_cell? W _ (hi 0 (by omega)).1
          rwa [add_block] at this
        · have hk : k < ss.length := by
            have := (List.getElem?_eq_some_iff.1 hu).1
            rwa [slv_len] at this
          have e : (slv ss)[k]? = some ss[k].v := by rw [List.getElem?_eq_getElem (by rw [slv_len]; exact hk), slv_at hk]
          rw [e] at hu
          injection hu with hu
          rw [← hu]; exact (hi k hk).1
    · obtain ⟨i, h, rfl⟩ := List.getElem_of_mem hs
      exact (hi i h).2
theorem array7 {α : Type} {cs : Array α} (h : cs.size = 7) : ∃ a b c d e f g, cs = #[a, b, c, d, e, f, g] := by
  obtain ⟨l⟩ := cs
  match l, h with
  | [a, b, c, d, e, f, g], _ => exact ⟨a, b, c, d, e, f, g, rfl⟩
set_option maxRecDepth 100000 in
theorem Try.scn_of {H : Type} {enc : TypeId × Value → H} {W : World} {base : Nat} {r : Reach} {b0 : Nat} {v : Value} {d : DataW H} {p : List MemPlace}
    (hv : Value.okWide Try.prog W r b0 27 v) (h : DataW.Trod enc Try.prog W base (fun _ => true) true 27 v d p) : ∃ v0 v1 v2 v3 v4 v5 v6 S, v = .agg #[v0, v1, v2, v3, v4, v5, v6] ∧ SArg W v0 v1 v2 v3 v4 v5 v6 S := by
  obtain ⟨cs, rfl, hsz⟩ := okWide_struct Try.underlying27 hv
  obtain ⟨v0, v1, v2, v3, v4, v5, v6, rfl⟩ := array7 (hsz.trans (show Try.prog.cellsOf 27 = 7 by kernel_rfl))
  obtain ⟨fuel, hf⟩ := h
  obtain ⟨xs, k, hk, hxy, _, hxl, hg⟩ := DataW.trod_struct Try.underlying27 hf
  have c2 : Try.prog.cellsOf 23 = 2 := by kernel_rfl
  have c1 : Try.prog.cellsOf 24 = 1 := by kernel_rfl
  have c3 : Try.prog.cellsOf 25 = 1 := by kernel_rfl
  have ci : Try.prog.cellsOf 3 = 1 := by kernel_rfl
  match xs, hxl with
  | [x0, x1, x2, x3, x4], _ =>
    have g0 := hg 0 _ rfl
    have g1 := hg 1 _ rfl
    have g2 := hg 2 _ rfl
    have g3 := hg 3 _ rfl
    have g4 := hg 4 _ rfl
    simp [Value.cells, c1, c2, c3] at g0 g1 g2 g3 g4
    have two : ∀ {n : Nat} {a b : Value} {y : DataW H × List MemPlace}, DataW.trod enc Try.prog W base (fun _ => true) true n 23 [a, b] = some y → ∃ x z : Int, (a = .int .i64 x ∧ b = .int .i64 z) ∧ (Lit.int .i64 x).wf = true ∧ (Lit.int .i64 z).wf = true := by
      intro n a b y hy
      obtain ⟨y0, y1, m, _, _, h0, h1⟩ := trod_struct2 Try.underlying23 hy
      exact Try.vec_of (by simpa [ci] using h0) (by simpa [ci] using h1)
    have one : ∀ {n : Nat} {a : Value} {y : DataW H × List MemPlace}, DataW.trod enc Try.prog W base (fun _ => true) true n 24 [a] = some y → ∃ b l c zs, a = .slice b l c ∧ IsVecs W b l c zs := by
      intro n a y hy
      obtain ⟨b, bl, bc, rfl⟩ : ∃ b bl bc, a = .slice b bl bc := by
        rcases Deep.open_slice Try.underlying24 hy with ⟨e, _⟩ | ⟨b, bl, bc, _, _, _, _, e, _⟩
        · exact ⟨none, 0, 0, by simpa using e⟩
        · exact ⟨some b, bl, bc, by simpa using e⟩
      obtain ⟨zs, hz⟩ := Try.vecs_of hy
      exact ⟨b, bl, bc, zs, rfl, hz⟩
    obtain ⟨lx, ly, ⟨rfl, rfl⟩, w1, w2⟩ := two g0
    obtain ⟨hx, hy, ⟨rfl, rfl⟩, w3, w4⟩ := two g1
    obtain ⟨RA, rl, rc, rs, rfl, hr⟩ := one g2
    obtain ⟨TA, tl, tc, ts, rfl, ht⟩ := one g4
    obtain ⟨OA, ol, oc, rfl⟩ : ∃ b bl bc, v5 = .slice b bl bc := by
      rcases Deep.open_slice Try.underlying25 g3 with ⟨e, _⟩ | ⟨b, bl, bc, _, _, _, _, e, _⟩
      · exact ⟨none, 0, 0, by simpa using e⟩
      · exact ⟨some b, bl, bc, by simpa using e⟩
    obtain ⟨os, ho⟩ := Try.vecss_of g3
    have er := hr.rd.2.1
    have et := ht.rd.2.1
    have eo := ho.1
    subst er et eo
    exact ⟨_, _, _, _, _, _, _, ⟨lx, ly, hx, hy, rs, cont os, ts⟩, rfl, RA, rc, OA, oc, TA, tc, os, ⟨rfl, rfl, rfl, rfl, rfl, by simp [cont_len], rfl⟩, hr, ⟨by simpa [cont_len] using ho, rfl⟩, ht, ⟨w1, w2⟩, w3, w4⟩
end Go.Proofs.Ytocllmaikngoaaa
