/-
  The program's scenes: contracts (4): AddObstacle.
-/
import Derived.Test.YtffabmdcgcinmaaScnE
import Derived.Deep.RegionHeldLaw
namespace Go.Proofs.Ytffabmdcgcinmaa
open Go.RowKit
set_option linter.unusedVariables false
/-- append of a list that can be read, as a step of a region that draws its order -/
theorem step_append_K {P : Program} {t e : TypeId} {size bytes : Nat} (T : SliceOf P t e size bytes) {ops : Array Oper} {o : Oper} {a : Act} {K : Act → World → Prop} {Q : Exit → Act → World → Prop} {E : Prop}
    (hgd : o.guard = none) (s x : Operand) (ho : o.op = .call { callee := .builtin .append, args := #[s, x], argTypes := #[t, t] })
    (W : World) (base : Nat) (v : Value) (n : Nat) (xs : List Value) (hown : W.ownsRow base e size v n xs) (hs : a.eval s = v)
    (ad : Addr) (m c : Nat) (news : List Value) (hx : a.eval x = .slice (some ad) m c) (hl : news.length = m * size) (R : ∀ j u, news[j]? = some u → W.cell? (ad.add j) = some u) (h1 : ∀ u ∈ news, u.oneCell' = true)
    (h63 : n + m ≤ maxLen) (hn : (n + m) * bytes ≤ 140737488355328) (hbase : base ≤ W.heap.size)
    (h : ∀ v' w', w'.ownsRow base e size v' (n + m) (xs ++ news) → Below base W w' → W.grownBy w' v.ownBlock → K (a.put o.dst v') w') :
    if Region.wanted o (yielded ops a.tmps) = true then Oper.wp P o a W K Q else E := by
  obtain ⟨ht, i, z, hi, hz, hsize, hby, hzs, hsz⟩ := T
  have hw : Region.wanted o (yielded ops a.tmps) = true := by simp [Region.wanted, hgd]
  rw [if_pos hw]
  exact wp_append_own W s x t ho base e i z size bytes ht hi hz hsize hby hzs hsz v n xs hs hown ad m c news hx hl R h1 h63 hn hbase fun v' w' h2 h3 _ => h v' w' h2 (grown_below h3 (fun k hk => (hown.lt k hk).1) hbase) h3
theorem Box.one {w : World} {g : Nat} {E : TypeId} {x : Value} (h : Box w g E #[x]) : ∀ (j : Nat) (u : Value), [x][j]? = some u → w.cell? ((⟨g, 0, none⟩ : Addr).add j) = some u := fun j u hu => by
  have hj : j < 1 := (List.getElem?_eq_some_iff.1 hu).1
  have h0 : j = 0 := by omega
  subst h0
  rw [add_zero', h.cell 0]
  exact hu
set_option maxRecDepth 100000 in
set_option maxHeartbeats 6400000 in
theorem impl_AddObstacle (w : World) (B : Nat) (hB : B ≤ w.heap.size) {v0 v1 v2 v3 v4 v5 v6 : Value} {S : Scn} (h : SIn w B v0 v1 v2 v3 v4 v5 v6 S) (LA : Option Addr) (ln lc : Nat) (l : List V2) (R : RdV w B LA ln l) (ho : S.o.length ≤ 2097151) :
    Calls Try.prog 13 #[.agg #[v0, v1, v2, v3, v4, v5, v6], .slice LA ln lc] w fun e w' => SResB 31 30 w w' e (addS S l) (addB S l) := by
  have h' := h
  obtain ⟨RA, rc, OA, oc, TA, tc, os, ⟨rfl, rfl, rfl, rfl, rfl, rfl, rfl⟩, hR, ⟨hO, hc⟩, hT, hwf⟩ := h
  clear hR hT hwf
  have hol := hO.1
  have hll := R.1
  have HCl := hide (fun (W : World) (hb : Below w.heap.size w W) => impl_CloneS W B (Nat.le_trans hB hb.size) OA S.o.length oc os (hO.below (hb.mono hB)))
  have HW := hide (fun (W : World) (hb : Below w.heap.size w W) (NA : Option Addr) (nn nc : Nat) (r : Rd W W.heap.size NA (slv (os ++ [⟨LA, lc, l⟩]))) (hnn : nn = S.o.length + 1) => impl_scnWith W W.heap.size (Nat.le_refl _) ((h'.below (hb.mono hB)).wider (Nat.le_trans hB hb.size)) NA nn nc (os ++ [⟨LA, lc, l⟩]) ⟨by rw [List.length_append]; simp; omega, r, by omega, fun s hs => by
    rcases List.mem_append.1 hs with hs | hs
    · exact ((hO.2.2.2 s hs).below (hb.mono hB)).wider (Nat.le_trans hB hb.size)
    · rw [List.mem_singleton.1 hs]
      exact ((show RdV w B LA l.length l from ⟨rfl, R.2.1, by have := R.2.2.1; omega, R.2.2.2⟩).below (hb.mono hB)).wider (Nat.le_trans hB hb.size)⟩)
  have hcn : cont (os ++ [⟨LA, lc, l⟩]) = S.o ++ [l] := by rw [← hc]; simp [cont]
  rw [hcn] at HW
  unfold SResB at HW
  subst hll
  unfold addS addB
  obtain ⟨Z, hZ⟩ : ∃ Z, Z = chgS S (S.o ++ [l]) := ⟨_, rfl⟩
  obtain ⟨b, hb⟩ : ∃ b, b = chgB S (S.o ++ [l]) := ⟨_, rfl⟩
  rw [← hZ, ← hb] at HW ⊢
  clear h' hO hc hcn R hZ hb
  have hsl : slv (os ++ [⟨LA, lc, l⟩]) = slv os ++ [.slice LA l.length lc] := by rw [slv_append]; rfl
  rw [hsl] at HW
  have hslen : (slv os).length = S.o.length * 1 := by rw [slv_len]; omega
  clear hsl hol
  obtain ⟨W0, hW0⟩ : ∃ W0, W0 = (w.alloc (.cells #[.int .i64 S.lx, .int .i64 S.ly, .int .i64 S.hx, .int .i64 S.hy, .slice RA S.r.length rc, .slice OA S.o.length oc, .slice TA S.t.length tc] 34)).alloc (.cells #[.int .i64 0, .int .i64 0, .int .i64 0, .int .i64 0, .slice none 0 0, .slice none 0 0, .slice none 0 0] 34) := ⟨_, rfl⟩
  have hT0 : Below w.heap.size w W0 := by rw [hW0]; exact below_alloc (below_new _ _) _
  have kp : Box W0 w.heap.size 34 #[.int .i64 S.lx, .int .i64 S.ly, .int .i64 S.hx, .int .i64 S.hy, .slice RA S.r.length rc, .slice OA S.o.length oc, .slice TA S.t.length tc] := by rw [hW0]; exact (Box.last _ _ _ rfl).alloc _
  have kr : Box W0 (w.heap.size + 1) 34 #[.int .i64 0, .int .i64 0, .int .i64 0, .int .i64 0, .slice none 0 0, .slice none 0 0, .slice none 0 0] := by rw [hW0]; exact Box.last _ _ _ (alloc_size _ _).symm
  have hs0 : w.heap.size + 2 ≤ W0.heap.size := by rw [hW0, alloc_size, alloc_size]; omega
  have HB := hide kp
  have HR := hide kr
  have HT0 := hide hT0
  have HKS := hide (fun (W : World) (hq : Below W0.heap.size W0 W) => (⟨(HB.out.below hq HB.out.lt).cell 0, (HB.out.below hq HB.out.lt).cell 1, (HB.out.below hq HB.out.lt).cell 2, (HB.out.below hq HB.out.lt).cell 3, (HB.out.below hq HB.out.lt).cell 4, (HB.out.below hq HB.out.lt).cell 5, (HB.out.below hq HB.out.lt).cell 6⟩ : W.cell? ⟨w.heap.size, 0, none⟩ = some (.int .i64 S.lx) ∧ W.cell? ⟨w.heap.size, 1, none⟩ = some (.int .i64 S.ly) ∧ W.cell? ⟨w.heap.size, 2, none⟩ = some (.int .i64 S.hx) ∧ W.cell? ⟨w.heap.size, 3, none⟩ = some (.int .i64 S.hy) ∧ W.cell? ⟨w.heap.size, 4, none⟩ = some (.slice RA S.r.length rc) ∧ W.cell? ⟨w.heap.size, 5, none⟩ = some (.slice OA S.o.length oc) ∧ W.cell? ⟨w.heap.size, 6, none⟩ = some (.slice TA S.t.length tc)))
  have HKT := hide (fun (W : World) (hq : Below W0.heap.size W0 W) (x0 x1 x2 x3 x4 x5 x6 : Value) => (⟨((((((((HB.out.below hq HB.out.lt).setv (show w.heap.size ≠ w.heap.size + 1 by omega) 0 x0).setv (show w.heap.size ≠ w.heap.size + 1 by omega) 1 x1).setv (show w.heap.size ≠ w.heap.size + 1 by omega) 2 x2).setv (show w.heap.size ≠ w.heap.size + 1 by omega) 3 x3).setv (show w.heap.size ≠ w.heap.size + 1 by omega) 4 x4).setv (show w.heap.size ≠ w.heap.size + 1 by omega) 5 x5).setv (show w.heap.size ≠ w.heap.size + 1 by omega) 6 x6).cell 0, ((((((((HB.out.below hq HB.out.lt).setv (show w.heap.size ≠ w.heap.size + 1 by omega) 0 x0).setv (show w.heap.size ≠ w.heap.size + 1 by omega) 1 x1).setv (show w.heap.size ≠ w.heap.size + 1 by omega) 2 x2).setv (show w.heap.size ≠ w.heap.size + 1 by omega) 3 x3).setv (show w.heap.size ≠ w.heap.size + 1 by omega) 4 x4).setv (show w.heap.size ≠ w.heap.size + 1 by omega) 5 x5).setv (show w.heap.size ≠ w.heap.size + 1 by omega) 6 x6).cell 1, ((((((((HB.out.below hq HB.out.lt).setv (show w.heap.size ≠ w.heap.size + 1 by omega) 0 x0).setv (show w.heap.size ≠ w.heap.size + 1 by omega) 1 x1).setv (show w.heap.size ≠ w.heap.size + 1 by omega) 2 x2).setv (show w.heap.size ≠ w.heap.size + 1 by omega) 3 x3).setv (show w.heap.size ≠ w.heap.size + 1 by omega) 4 x4).setv (show w.heap.size ≠ w.heap.size + 1 by omega) 5 x5).setv (show w.heap.size ≠ w.heap.size + 1 by omega) 6 x6).cell 2, ((((((((HB.out.below hq HB.out.lt).setv (show w.heap.size ≠ w.heap.size + 1 by omega) 0 x0).setv (show w.heap.size ≠ w.heap.size + 1 by omega) 1 x1).setv (show w.heap.size ≠ w.heap.size + 1 by omega) 2 x2).setv (show w.heap.size ≠ w.heap.size + 1 by omega) 3 x3).setv (show w.heap.size ≠ w.heap.size + 1 by omega) 4 x4).setv (show w.heap.size ≠ w.heap.size + 1 by omega) 5 x5).setv (show w.heap.size ≠ w.heap.size + 1 by omega) 6 x6).cell 3, ((((((((HB.out.below hq HB.out.lt).setv (show w.heap.size ≠ w.heap.size + 1 by omega) 0 x0).setv (show w.heap.size ≠ w.heap.size + 1 by omega) 1 x1).setv (show w.heap.size ≠ w.heap.size + 1 by omega) 2 x2).setv (show w.heap.size ≠ w.heap.size + 1 by omega) 3 x3).setv (show w.heap.size ≠ w.heap.size + 1 by omega) 4 x4).setv (show w.heap.size ≠ w.heap.size + 1 by omega) 5 x5).setv (show w.heap.size ≠ w.heap.size + 1 by omega) 6 x6).cell 4, ((((((((HB.out.below hq HB.out.lt).setv (show w.heap.size ≠ w.heap.size + 1 by omega) 0 x0).setv (show w.heap.size ≠ w.heap.size + 1 by omega) 1 x1).setv (show w.heap.size ≠ w.heap.size + 1 by omega) 2 x2).setv (show w.heap.size ≠ w.heap.size + 1 by omega) 3 x3).setv (show w.heap.size ≠ w.heap.size + 1 by omega) 4 x4).setv (show w.heap.size ≠ w.heap.size + 1 by omega) 5 x5).setv (show w.heap.size ≠ w.heap.size + 1 by omega) 6 x6).cell 5, ((((((((HB.out.below hq HB.out.lt).setv (show w.heap.size ≠ w.heap.size + 1 by omega) 0 x0).setv (show w.heap.size ≠ w.heap.size + 1 by omega) 1 x1).setv (show w.heap.size ≠ w.heap.size + 1 by omega) 2 x2).setv (show w.heap.size ≠ w.heap.size + 1 by omega) 3 x3).setv (show w.heap.size ≠ w.heap.size + 1 by omega) 4 x4).setv (show w.heap.size ≠ w.heap.size + 1 by omega) 5 x5).setv (show w.heap.size ≠ w.heap.size + 1 by omega) 6 x6).cell 6⟩ : (((((((W.setCell ⟨w.heap.size + 1, 0, none⟩ x0).setCell ⟨w.heap.size + 1, 1, none⟩ x1).setCell ⟨w.heap.size + 1, 2, none⟩ x2).setCell ⟨w.heap.size + 1, 3, none⟩ x3).setCell ⟨w.heap.size + 1, 4, none⟩ x4).setCell ⟨w.heap.size + 1, 5, none⟩ x5).setCell ⟨w.heap.size + 1, 6, none⟩ x6).cell? ⟨w.heap.size, 0, none⟩ = some (.int .i64 S.lx) ∧ (((((((W.setCell ⟨w.heap.size + 1, 0, none⟩ x0).setCell ⟨w.heap.size + 1, 1, none⟩ x1).setCell ⟨w.heap.size + 1, 2, none⟩ x2).setCell ⟨w.heap.size + 1, 3, none⟩ x3).setCell ⟨w.heap.size + 1, 4, none⟩ x4).setCell ⟨w.heap.size + 1, 5, none⟩ x5).setCell ⟨w.heap.size + 1, 6, none⟩ x6).cell? ⟨w.heap.size, 1, none⟩ = some (.int .i64 S.ly) ∧ (((((((W.setCell ⟨w.heap.size + 1, 0, none⟩ x0).setCell ⟨w.heap.size + 1, 1, none⟩ x1).setCell ⟨w.heap.size + 1, 2, none⟩ x2).setCell ⟨w.heap.size + 1, 3, none⟩ x3).setCell ⟨w.heap.size + 1, 4, none⟩ x4).setCell ⟨w.heap.size + 1, 5, none⟩ x5).setCell ⟨w.heap.size + 1, 6, none⟩ x6).cell? ⟨w.heap.size, 2, none⟩ = some (.int .i64 S.hx) ∧ (((((((W.setCell ⟨w.heap.size + 1, 0, none⟩ x0).setCell ⟨w.heap.size + 1, 1, none⟩ x1).setCell ⟨w.heap.size + 1, 2, none⟩ x2).setCell ⟨w.heap.size + 1, 3, none⟩ x3).setCell ⟨w.heap.size + 1, 4, none⟩ x4).setCell ⟨w.heap.size + 1, 5, none⟩ x5).setCell ⟨w.heap.size + 1, 6, none⟩ x6).cell? ⟨w.heap.size, 3, none⟩ = some (.int .i64 S.hy) ∧ (((((((W.setCell ⟨w.heap.size + 1, 0, none⟩ x0).setCell ⟨w.heap.size + 1, 1, none⟩ x1).setCell ⟨w.heap.size + 1, 2, none⟩ x2).setCell ⟨w.heap.size + 1, 3, none⟩ x3).setCell ⟨w.heap.size + 1, 4, none⟩ x4).setCell ⟨w.heap.size + 1, 5, none⟩ x5).setCell ⟨w.heap.size + 1, 6, none⟩ x6).cell? ⟨w.heap.size, 4, none⟩ = some (.slice RA S.r.length rc) ∧ (((((((W.setCell ⟨w.heap.size + 1, 0, none⟩ x0).setCell ⟨w.heap.size + 1, 1, none⟩ x1).setCell ⟨w.heap.size + 1, 2, none⟩ x2).setCell ⟨w.heap.size + 1, 3, none⟩ x3).setCell ⟨w.heap.size + 1, 4, none⟩ x4).setCell ⟨w.heap.size + 1, 5, none⟩ x5).setCell ⟨w.heap.size + 1, 6, none⟩ x6).cell? ⟨w.heap.size, 5, none⟩ = some (.slice OA S.o.length oc) ∧ (((((((W.setCell ⟨w.heap.size + 1, 0, none⟩ x0).setCell ⟨w.heap.size + 1, 1, none⟩ x1).setCell ⟨w.heap.size + 1, 2, none⟩ x2).setCell ⟨w.heap.size + 1, 3, none⟩ x3).setCell ⟨w.heap.size + 1, 4, none⟩ x4).setCell ⟨w.heap.size + 1, 5, none⟩ x5).setCell ⟨w.heap.size + 1, 6, none⟩ x6).cell? ⟨w.heap.size, 6, none⟩ = some (.slice TA S.t.length tc)))
  clear kr hT0
  go_enter Try.func13, Try.ntmps13
  go_upto_region 1 with fail
  rw [← hW0]
  clear hW0
  obtain ⟨yp0, yp1, yp2, yp3, yp4, yp5, yp6⟩ := kp.cells7
  clear kp
  go_region_held_law (fun w' => w'.cell? ⟨w.heap.size, 0, none⟩ = some (.int .i64 S.lx) ∧ w'.cell? ⟨w.heap.size, 1, none⟩ = some (.int .i64 S.ly) ∧ w'.cell? ⟨w.heap.size, 2, none⟩ = some (.int .i64 S.hx) ∧ w'.cell? ⟨w.heap.size, 3, none⟩ = some (.int .i64 S.hy) ∧ w'.cell? ⟨w.heap.size, 4, none⟩ = some (.slice RA S.r.length rc) ∧ w'.cell? ⟨w.heap.size, 5, none⟩ = some (.slice OA S.o.length oc) ∧ w'.cell? ⟨w.heap.size, 6, none⟩ = some (.slice TA S.t.length tc))
      (first | (with_reducible exact HKT.out _ HS3.out _ _ _ _ _ _ _) | (with_reducible exact HKS.out _ HS3.out) | (with_reducible exact HKS.out _ HS2.out) | (refine HKS.out _ ?_; repeat (first | (with_reducible exact Below.refl _ _) | (with_reducible exact HS1.out) | (with_reducible refine Below.drew ?_) | (with_reducible refine below_alloc ?_ _))))
      (first
        | (go_at_call 30; have HX := HS2.out; refine (HW.out _ (below_then HT0.out HX) _ _ _ HRD.out rfl).mono ?_; rintro e u3 ⟨q0, q1, q2, q3, q4, q5, q6, rfl, oq, hb3⟩; obtain ⟨QA, qa, QB, qb, QC, qc, ⟨rfl, rfl, rfl, rfl, rfl, rfl, rfl⟩⟩ := oq.form; have hz3 := hb3.size; have HS3 := hide (below_then HX hb3); clear HX; have kR := HR.out.below HS3.out HR.out.lt; obtain ⟨t0, t1, t2, t3, t4, t5, t6⟩ := kR.cells7; obtain ⟨f0, f1, f2, f3, f4, f5, f6⟩ := kR.frz7)
        | (go_at_call 31; refine (HCl.out _ (below_then HT0.out (by repeat (first | (with_reducible exact Below.refl _ _) | (with_reducible exact HS2.out) | (with_reducible exact HS1.out) | (with_reducible refine Below.drew ?_) | (with_reducible refine below_alloc ?_ _))))).mono ?_; rintro e u1 ⟨v1, rfl, oR, hb1⟩; obtain ⟨A1, c1, rfl⟩ := oR.form; have hz1 := hb1.size; (repeat (first | (simp only [alloc_size] at hz1) | (simp only [drew_size] at hz1))); (first | (have HBX := hide ((Box.last W0 31 #[.slice LA l.length lc] rfl).drew.below hb1 (by rw [drew_size, alloc_size]; omega))) | skip); have HS1 := hide (below_then ((by repeat (first | (with_reducible exact Below.refl _ _) | (with_reducible exact HS2.out) | (with_reducible exact HS1.out) | (with_reducible refine Below.drew ?_) | (with_reducible refine below_alloc ?_ _))) : Below W0.heap.size W0 _) hb1))
        | (refine step_append_K Try.sliceVecS rfl _ _ rfl _ W0.heap.size _ S.o.length (slv os) (own_lower (own_below oR.1 (B := u1.heap.size) (by repeat (first | (with_reducible exact Below.refl _ _) | (with_reducible refine Below.drew ?_) | (with_reducible refine below_alloc ?_ _))) oR.2) (by first | omega | ((repeat (first | (simp only [alloc_size]) | (simp only [drew_size]))); first | done | omega))) rfl _ 1 _ [.slice LA l.length lc] rfl rfl (Box.one (by first | (with_reducible exact Box.last _ _ _ rfl) | (exact HBX.out))) (by simp [Value.oneCell']) (by unfold maxLen; omega) (by omega) (by first | omega | ((repeat (first | (simp only [alloc_size]) | (simp only [drew_size]))); first | done | omega)) ?_; intro v2 u2 hown2 hb2 hg2; have HS2 := hide (((by repeat (first | (with_reducible exact Below.refl _ _) | (with_reducible exact HS2.out) | (with_reducible exact HS1.out) | (with_reducible refine Below.drew ?_) | (with_reducible refine below_alloc ?_ _))) : Below W0.heap.size W0 _).trans (hb2.mono (Nat.le_refl _))); obtain ⟨A2, c2, rfl⟩ := own_shape hown2; have HRD := hide (own_rd hown2)))
  all_goals
    have HT := hide (below_then HT0.out HS3.out)
    have hz22 := HS2.out.size
    obtain ⟨r1, r2, r3⟩ := ret_scn (HR.out.below HS3.out HR.out.lt) oq HT.out (by omega) (by have := HS3.out.size; omega) (Nat.le_refl _) (.inl (by omega))
    go_wp2_with fail
    refine bodyPost_ret (results_cell_tmp rfl _ _ (w.heap.size + 1) _ #[.int .i64 Z.lx, .int .i64 Z.ly, .int .i64 Z.hx, .int .i64 Z.hy, .slice QA Z.r.length qa, .slice QB Z.o.length qb, .slice QC Z.t.length qc] (0, 0) _ rfl r1 Try.underlying34 rfl Try.sizeScn) rfl ?_
    exact ⟨_, _, _, _, _, _, _, rfl, r2, r3⟩
end Go.Proofs.Ytffabmdcgcinmaa
