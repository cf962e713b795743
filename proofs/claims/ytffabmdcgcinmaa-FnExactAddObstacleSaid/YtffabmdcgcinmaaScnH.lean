/-
  The reference's scenes: contracts (4): AddObstacle.
-/
import Derived.Test.YtffabmdcgcinmaaSE
import Derived.Test.YtffabmdcgcinmaaScnR
import Derived.Deep.RegionLaw
namespace Go.Proofs.Ytffabmdcgcinmaa
open Go.RowKit
set_option linter.unusedVariables false
theorem step_append_K' {P : Program} {t e : TypeId} {size bytes : Nat} (T : SliceOf P t e size bytes) {ops : Array Oper} {o : Oper} {a : Act} {K : Act → World → Prop} {Q : Exit → Act → World → Prop} {E : Prop}
    (hgd : o.guard = none) (s x : Operand) (ho : o.op = .call { callee := .builtin .append, args := #[s, x], argTypes := #[t, t] })
    (W : World) (base : Nat) (v : Value) (n : Nat) (xs : List Value) (hown : W.ownsRow base e size v n xs) (hs : a.eval s = v)
    (ad : Addr) (m c : Nat) (news : List Value) (hx : a.eval x = .slice (some ad) m c) (hl : news.length = m * size) (R : ∀ j u, news[j]? = some u → W.cell? (ad.add j) = some u) (h1 : ∀ u ∈ news, u.oneCell' = true)
    (h63 : n + m ≤ maxLen) (hn : (n + m) * bytes ≤ 140737488355328) (hbase : base ≤ W.heap.size)
    (h : ∀ v' w', w'.ownsRow base e size v' (n + m) (xs ++ news) → Below base W w' → W.grownBy w' v.ownBlock → K (a.put o.dst v') w') :
    if Region.wanted o (yielded ops a.tmps) = true then Oper.wp P o a W K Q else E := by
  obtain ⟨ht, i, z, hi, hz, hsize, hby, hzs, hsz⟩ := T
  have hw : Region.wanted o (yielded ops a.tmps) = true := by simp [Region.wanted, hgd]
  rw [if_pos hw]
  exact wp_append_own W s x t ho base e i z size bytes ht hi hz hsize hby hzs hsz v n xs hs hown ad m c news hx hl R h1 h63 hn hbase fun v' w' h2 h3 _ => h v' w' h2 (grown_below h3 (fun k hk => (hown.lt k hk).1) hbase) h3
theorem Box.one' {w : World} {g : Nat} {E : TypeId} {x : Value} (h : Box w g E #[x]) : ∀ (j : Nat) (u : Value), [x][j]? = some u → w.cell? ((⟨g, 0, none⟩ : Addr).add j) = some u := fun j u hu => by
  have hj : j < 1 := (List.getElem?_eq_some_iff.1 hu).1
  have h0 : j = 0 := by omega
  subst h0
  rw [add_zero', h.cell 0]
  exact hu
/-- a scene whose row of obstacles has grown by one list -/
theorem SOwn0.more {W W' : World} {lo hi hi' : Nat} {ES EV : TypeId} {v0 v1 v2 v3 v4 v6 v5' : Value} {S : Scn} {OA : Option Addr} {oc : Nat} {os : List Sl} {s : Sl}
    (hne : ES ≠ EV) (h4 : ∃ RA rc, v4 = .slice RA S.r.length rc ∧ OwnV W lo hi EV v4 S.r.length S.r) (h6 : ∃ TA tc, v6 = .slice TA S.t.length tc ∧ OwnV W lo hi EV v6 S.t.length S.t)
    (h0 : v0 = .int .i64 S.lx ∧ v1 = .int .i64 S.ly ∧ v2 = .int .i64 S.hx ∧ v3 = .int .i64 S.hy)
    (hr : W.ownsRow lo ES 1 (.slice OA S.o.length oc) S.o.length (slv os)) (he : ∀ t ∈ os, OwnV W lo hi EV t.v t.vs.length t.vs) (hc : cont os = S.o) (hs : OwnV W lo hi EV s.v s.vs.length s.vs)
    (hown : W'.ownsRow lo ES 1 v5' (S.o.length + 1) (slv (os ++ [s]))) (hg : W.grownBy W' (Value.slice OA S.o.length oc).ownBlock) (hh : hi ≤ W'.heap.size) (hh' : W'.heap.size ≤ hi') :
    SOwn0 W' lo hi' ES EV v0 v1 v2 v3 v4 v5' v6 (withO S (S.o ++ [s.vs])) := by
  have kp : ∀ {v : Value} {n : Nat} {vs : List V2}, OwnV W lo hi EV v n vs → OwnV W' lo hi' EV v n vs := fun {v n vs} o =>
    (o.kept fun g hg' => hg.block g (o.1.lt g hg').2 fun e => own_types hr o.1 hne e.symm hg' rfl).wider (Nat.le_refl _) (by omega)
  obtain ⟨RA, rc, rfl, q4⟩ := h4
  obtain ⟨TA, tc, rfl, q6⟩ := h6
  obtain ⟨rfl, rfl, rfl, rfl⟩ := h0
  obtain ⟨A2, c2, rfl⟩ := own_shape hown
  have el : (withO S (S.o ++ [s.vs])).o.length = S.o.length + 1 := by show (S.o ++ [s.vs]).length = _; simp
  refine ⟨RA, rc, A2, c2, TA, tc, os ++ [s], ⟨rfl, rfl, rfl, rfl, rfl, by rw [el], rfl⟩, kp q4, ⟨?_, fun t ht => ?_, ?_⟩, kp q6⟩
  · rw [el]; exact OwnR.of_row hown hh'
  · rcases List.mem_append.1 ht with ht | ht
    · exact kp (he t ht)
    · rw [List.mem_singleton.1 ht]; exact kp hs
  · show cont (os ++ [s]) = S.o ++ [s.vs]
    rw [← hc]; simp [cont]
set_option maxRecDepth 100000 in
set_option maxHeartbeats 12800000 in
theorem spec_AddObstacle (w : World) (B : Nat) (hB : B ≤ w.heap.size) {v0 v1 v2 v3 v4 v5 v6 : Value} {S : Scn} (h : SIn w B v0 v1 v2 v3 v4 v5 v6 S) (LA : Option Addr) (ln lc : Nat) (l : List V2) (R : RdV w B LA ln l) (ho : S.o.length ≤ 2097151) :
    Calls Try.prog 11 #[.agg #[v0, v1, v2, v3, v4, v5, v6], .slice LA ln lc] w fun e w' => SResB0 31 30 w w' e (addS S l) (addB S l) := by
  have h' := h
  have hfit := h.fit
  obtain ⟨RA, rc, OA, oc, TA, tc, os, ⟨rfl, rfl, rfl, rfl, rfl, rfl, rfl⟩, hR, ⟨hO, hc⟩, hT, hwf⟩ := h
  have hsh : SShort S := ⟨by have := hR.2.2.1; omega, by have := hO.2.2.1; omega, by have := hT.2.2.1; omega, fun x hx => by
    rw [← hc] at hx
    obtain ⟨s, hs, rfl⟩ := List.mem_map.1 hx
    have := (hO.2.2.2 s hs).2.2.1; omega⟩
  have hll := R.1
  have hl20 := R.2.2.1
  have hlw := R.2.2.2
  have hfN : Hid (SFit (withO S (S.o ++ [l])) ∧ wf4 (withO S (S.o ++ [l])) ∧ SShort (withO S (S.o ++ [l]))) := by
    refine ⟨⟨hfit.1.1, by show (S.o ++ [l]).length ≤ _; simp; omega, hfit.1.2.2.1, hfit.1.2.2.2.1, fun x hx => ?_, hfit.1.2.2.2.2.2⟩, hfit.2, hsh.1, by show (S.o ++ [l]).length ≤ _; simp; omega, hsh.2.2.1, fun x hx => ?_⟩
    · rcases List.mem_append.1 hx with hx | hx
      · exact hfit.1.2.2.2.2.1 x hx
      · rw [List.mem_singleton.1 hx]; exact ⟨by omega, hlw⟩
    · rcases List.mem_append.1 hx with hx | hx
      · exact hsh.2.2.2 x hx
      · rw [List.mem_singleton.1 hx]; omega
  have V1 := hide (fun (W : World) (hb : Below w.heap.size w W) => spec_IsValidScene W B (Nat.le_trans hB hb.size) (h'.below (hb.mono hB)))
  have C1 := hide (fun (W : World) (hb : Below w.heap.size w W) => spec_l10Copy W B (Nat.le_trans hB hb.size) (h'.below (hb.mono hB)))
  have HRL := hide (fun (W : World) (hb : Below w.heap.size w W) => (R.2.1.below (hb.mono hB)))
  have hfl : (fl l).length = ln * 2 := by rw [fl_len, hll]
  unfold SRes0 at C1
  clear h' hfit hsh hR hO hT hwf hc R hlw
  unfold addS addB
  have HC : Hid (chgB S (S.o ++ [l]) = (scnB S && scnB (withO S (S.o ++ [l]))) ∧ chgS S (S.o ++ [l]) = if (scnB S && scnB (withO S (S.o ++ [l]))) then withO S (S.o ++ [l]) else S) := ⟨rfl, rfl⟩
  rw [HC.out.1, HC.out.2]
  clear HC
  obtain ⟨b1, hb1'⟩ : ∃ b, b = scnB S := ⟨_, rfl⟩
  obtain ⟨b2, hb2'⟩ : ∃ b, b = scnB (withO S (S.o ++ [l])) := ⟨_, rfl⟩
  rw [← hb1'] at V1
  rw [← hb1', ← hb2']
  have HBB := hide hb2'
  clear hb1' hb2'
  obtain ⟨W0, hW0⟩ : ∃ W0, W0 = (w.alloc (.cells #[.int .i64 S.lx, .int .i64 S.ly, .int .i64 S.hx, .int .i64 S.hy, .slice RA S.r.length rc, .slice OA S.o.length oc, .slice TA S.t.length tc] 34)).alloc (.cells #[.int .i64 0, .int .i64 0, .int .i64 0, .int .i64 0, .slice none 0 0, .slice none 0 0, .slice none 0 0] 34) := ⟨_, rfl⟩
  have hT0 : Below w.heap.size w W0 := by rw [hW0]; exact below_alloc (below_new _ _) _
  have kp : Box W0 w.heap.size 34 #[.int .i64 S.lx, .int .i64 S.ly, .int .i64 S.hx, .int .i64 S.hy, .slice RA S.r.length rc, .slice OA S.o.length oc, .slice TA S.t.length tc] := by rw [hW0]; exact (Box.last _ _ _ rfl).alloc _
  have kr : Box W0 (w.heap.size + 1) 34 #[.int .i64 0, .int .i64 0, .int .i64 0, .int .i64 0, .slice none 0 0, .slice none 0 0, .slice none 0 0] := by rw [hW0]; exact Box.last _ _ _ (alloc_size _ _).symm
  have hs0 : w.heap.size + 2 ≤ W0.heap.size := by rw [hW0, alloc_size, alloc_size]; omega
  obtain ⟨yp0, yp1, yp2, yp3, yp4, yp5, yp6⟩ := kp.cells7
  go_enter Try.func11, Try.ntmps11
  go_upto_region 1 with fail
  rw [← hW0]
  clear hW0
  go_wp2_with fail
  refine (C1.out _ hT0).mono ?_
  rintro e w1 ⟨q0, q1, q2, q3, q4, q5, q6, rfl, o1, hb1⟩
  obtain ⟨QA, qa, QB, qb, QC, qc, os1, ⟨rfl, rfl, rfl, rfl, rfl, rfl, rfl⟩, pr, ⟨po, pe, pc⟩, pt⟩ := o1
  clear yp0 yp1 yp2 yp3 yp4 yp5 yp6
  have hs1 := hb1.size
  have hT1 := below_then hT0 hb1
  have kp := kp.below hb1 kp.lt
  have kr := kr.below hb1 kr.lt
  obtain ⟨W2, hW2⟩ : ∃ W2, W2 = w1.alloc (.cells #[.int .i64 S.lx, .int .i64 S.ly, .int .i64 S.hx, .int .i64 S.hy, .slice QA S.r.length qa, .slice QB S.o.length qb, .slice QC S.t.length qc] 34) := ⟨_, rfl⟩
  have hb2 : Below w1.heap.size w1 W2 := by rw [hW2]; exact below_new _ _
  have kn : Box W2 w1.heap.size 34 #[.int .i64 S.lx, .int .i64 S.ly, .int .i64 S.hx, .int .i64 S.hy, .slice QA S.r.length qa, .slice QB S.o.length qb, .slice QC S.t.length qc] := by rw [hW2]; exact Box.last _ _ _ rfl
  have hq2 : w1.heap.size + 1 ≤ W2.heap.size := by rw [hW2, alloc_size]; omega
  have hT2 := below_then hT1 hb2
  have kp := kp.below hb2 kp.lt
  have kr := kr.below hb2 kr.lt
  have pr := pr.below hb2 (Nat.le_refl _)
  have po := po.below hb2 (Nat.le_refl _)
  have pe : ∀ t ∈ os1, OwnV W2 W0.heap.size w1.heap.size 30 t.v t.vs.length t.vs := fun t ht => (pe t ht).below hb2 (Nat.le_refl _)
  have pt := pt.below hb2 (Nat.le_refl _)
  clear hb1 hb2 hT0 hT1
  go_upto_region 2 with fail
  rw [← hW2]
  clear hW2
  have HKN := hide kn
  have HPO := hide po
  have HT2 := hide hT2
  have HMORE := hide (fun (u1 : World) (A1 : Option Addr) (c1 : Nat) (h1 : Below W2.heap.size W2 u1) (hown : u1.ownsRow W2.heap.size 30 2 (.slice A1 ln c1) ln (fl l)) (W W' : World) (hw : Below u1.heap.size u1 W) (v' : Value) (hown' : W'.ownsRow W0.heap.size 31 1 v' (S.o.length + 1) (slv os1 ++ [.slice A1 ln c1])) (hg : W.grownBy W' (Value.slice QB S.o.length qb).ownBlock) =>
    (show SOwn0 W' W0.heap.size W'.heap.size 31 30 (.int .i64 S.lx) (.int .i64 S.ly) (.int .i64 S.hx) (.int .i64 S.hy) (.slice QA S.r.length qa) v' (.slice QC S.t.length qc) (withO S (S.o ++ [l])) from by
      have hz1 := h1.size
      have hzw := hw.size
      have hzg := hg.size
      have hW : Below W2.heap.size W2 W := h1.trans (hw.mono hz1)
      have up : ∀ {v : Value} {n : Nat} {vs : List V2}, OwnV W2 W0.heap.size w1.heap.size 30 v n vs → OwnV W W0.heap.size W.heap.size 30 v n vs := fun o => (o.below hW (by omega)).wider (Nat.le_refl _) (by omega)
      refine SOwn0.more (hi := W.heap.size) (s := ⟨A1, c1, l⟩) (os := os1) Try.types_ne ⟨_, _, rfl, up pr⟩ ⟨_, _, rfl, up pt⟩ ⟨rfl, rfl, rfl, rfl⟩ (po.below hW (by omega)).1 (fun t ht => up (pe t ht)) pc ?_ ?_ hg hzg (Nat.le_refl _)
      · show OwnV _ _ _ _ (.slice A1 l.length c1) l.length l
        rw [hll]
        exact (((OwnV.of_row hown (Nat.le_refl _)).below hw (Nat.le_refl _)).wider (by omega) hzw)
      · rw [slv_append]
        show W'.ownsRow _ _ _ _ _ (slv os1 ++ [.slice A1 l.length c1])
        rw [hll]; exact hown'))
  have HPK := hide (fun (W : World) (hW : Below W2.heap.size W2 W) (u2 : World) (hb : Below W0.heap.size W u2) => (⟨(kp.below hW kp.lt).below hb (by omega), (kr.below hW kr.lt).below hb (by omega), (hT2.trans (hW.mono (by omega))).trans (hb.mono (by omega))⟩ : Box u2 w.heap.size 34 #[.int .i64 S.lx, .int .i64 S.ly, .int .i64 S.hx, .int .i64 S.hy, .slice RA S.r.length rc, .slice OA S.o.length oc, .slice TA S.t.length tc] ∧ Box u2 (w.heap.size + 1) 34 #[.int .i64 0, .int .i64 0, .int .i64 0, .int .i64 0, .slice none 0 0, .slice none 0 0, .slice none 0 0] ∧ Below w.heap.size w u2))
  have hol : os1.length = S.o.length := po.len
  have hsl : (slv os1).length = S.o.length * 1 := by rw [slv_len]; omega
  obtain ⟨yn0, yn1, yn2, yn3, yn4, yn5, yn6⟩ := kn.cells7
  clear po pr pt pe pc hol kn hT2 hll kp kr
  have yn5a := ((HKN.out.alloc (.cells #[] 30)).cell 5)
  simp only [List.getElem?_toArray, List.getElem?_cons_succ, List.getElem?_cons_zero] at yn5a
  go_region_law (first
        | (refine step_append_new Try.sliceVec rfl _ _ rfl _ _ W2.heap.size ?_ rfl B LA ln lc (fl l) rfl hfl (HRL.out _ (below_then HT2.out (by repeat (first | (with_reducible exact Below.refl _ _) | (with_reducible exact HS2.out) | (with_reducible exact HS1.out) | (with_reducible refine Below.drew ?_) | (with_reducible refine below_alloc ?_ _))))) (fl_one _) (by unfold maxLen; omega) (by omega) (by first | omega | ((repeat (first | (simp only [alloc_size]) | (simp only [drew_size]))); first | done | omega)) (by first | omega | ((repeat (first | (simp only [alloc_size]) | (simp only [drew_size]))); first | done | omega)) ?_; (focus (repeat (first | (with_reducible exact Box.last _ _ _ rfl) | (with_reducible exact Box.last1 _ _ _ _) | (with_reducible refine Box.alloc ?_ _) | (with_reducible refine Box.drew ?_)))); intro lv u1 hown1 hb1; obtain ⟨A1, c1, rfl⟩ := own_shape hown1; have hz1 := hb1.size; (repeat (first | (simp only [alloc_size] at hz1) | (simp only [drew_size] at hz1))); have HS1 := hide (below_then ((by repeat (first | (with_reducible exact Below.refl _ _) | (with_reducible exact HS2.out) | (with_reducible exact HS1.out) | (with_reducible refine Below.drew ?_) | (with_reducible refine below_alloc ?_ _))) : Below W2.heap.size W2 _) hb1); have kN := HKN.out.below HS1.out HKN.out.lt; obtain ⟨m0, m1, m2, m3, m4, m5, m6⟩ := kN.cells7; have m5a := ((kN.alloc (.cells #[.slice A1 ln c1] 31)).cell 5); simp only [List.getElem?_toArray, List.getElem?_cons_succ, List.getElem?_cons_zero] at m5a)
        | (refine step_append_K' Try.sliceVecS rfl _ _ rfl _ W0.heap.size _ S.o.length (slv os1) (own_below HPO.out.1 (B := W2.heap.size) (by repeat (first | (with_reducible exact Below.refl _ _) | (with_reducible exact HS2.out) | (with_reducible exact HS1.out) | (with_reducible refine Below.drew ?_) | (with_reducible refine below_alloc ?_ _))) (fun g hg => by have := HPO.out.2 g hg; omega)) rfl _ 1 _ [.slice A1 ln c1] rfl rfl (Box.one' (by first | (with_reducible exact Box.last _ _ _ rfl) | (with_reducible refine Box.drew ?_; with_reducible exact Box.last _ _ _ rfl))) (by simp [Value.oneCell']) (by unfold maxLen; omega) (by omega) (by first | omega | ((repeat (first | (simp only [alloc_size]) | (simp only [drew_size]))); first | done | omega)) ?_; intro v2 u2 hown2 hb2 hg2; obtain ⟨A2, c2, rfl⟩ := own_shape hown2; have hz2 := hb2.size; (repeat (first | (simp only [alloc_size] at hz2) | (simp only [drew_size] at hz2))); have HSO := hide (HMORE.out u1 A1 c1 HS1.out hown1 _ u2 (by repeat (first | (with_reducible exact Below.refl _ _) | (with_reducible refine Below.drew ?_) | (with_reducible refine below_alloc ?_ _))) _ hown2 hg2); have kN := (show Box u2 w1.heap.size 34 #[.int .i64 S.lx, .int .i64 S.ly, .int .i64 S.hx, .int .i64 S.hy, .slice QA S.r.length qa, .slice QB S.o.length qb, .slice QC S.t.length qc] from (hg2.block w1.heap.size (by first | omega | ((repeat (first | (simp only [alloc_size]) | (simp only [drew_size]))); omega)) (fun e8 => by have h9 := HPO.out.2 _ e8.symm; omega)).trans (HKN.out.below (by repeat (first | (with_reducible exact Below.refl _ _) | (with_reducible exact HS2.out) | (with_reducible exact HS1.out) | (with_reducible refine Below.drew ?_) | (with_reducible refine below_alloc ?_ _))) HKN.out.lt)); have HALL := hide (HPK.out _ (by repeat (first | (with_reducible exact Below.refl _ _) | (with_reducible exact HS2.out) | (with_reducible exact HS1.out) | (with_reducible refine Below.drew ?_) | (with_reducible refine below_alloc ?_ _))) u2 hb2); obtain ⟨m0, m1, m2, m3, m4, m5, m6⟩ := kN.cells7; obtain ⟨f0, f1, f2, f3, f4, f5, f6⟩ := kN.frz7))
  all_goals
    obtain ⟨kp, kr, hT2⟩ := HALL.out
    have kn0 := kN
    have oN0 := HSO.out
    have hz3 : w1.heap.size < u2.heap.size := kN.lt
    have hzw := hT2.size
    clear HALL kN HSO HMORE HPK HKN HPO HRL hown1 hown2 hb1 hb2 hg2 m0 m1 m2 m3 m4 m6 HS1
    obtain ⟨W3, hW3⟩ : ∃ W3, W3 = u2.setCell ⟨w1.heap.size, 5, none⟩ (.slice A2 (S.o.length + 1) c2) := ⟨_, rfl⟩
    have ha3 : Aside w1.heap.size (w1.heap.size + 1) u2 W3 := by rw [hW3]; exact (Aside.refl _).setCell (a := ⟨w1.heap.size, 5, none⟩) (Nat.le_refl _) (Nat.lt_succ_self _) _
    have kn : Box W3 w1.heap.size 34 #[.int .i64 S.lx, .int .i64 S.ly, .int .i64 S.hx, .int .i64 S.hy, .slice QA S.r.length qa, .slice A2 (S.o.length + 1) c2, .slice QC S.t.length qc] := by rw [hW3]; exact kn0.set 5 _
    go_upto_region 3 with fail
    rw [← hW3]
    have hs3 : W3.heap.size = u2.heap.size := by rw [hW3, setCell_size]
    clear hW3 m5 m5a yn5a
    have kp := kp.aside ha3 (by omega)
    have kr := kr.aside ha3 (by omega)
    have hT3 := hT2.trans (ha3.below (by omega) (by omega))
    have VN := hide (fun (W : World) (hb : Below W3.heap.size W3 W) (o : SOwn0 W W0.heap.size W.heap.size 31 30 (.int .i64 S.lx) (.int .i64 S.ly) (.int .i64 S.hx) (.int .i64 S.hy) (.slice QA S.r.length qa) (.slice A2 (S.o.length + 1) c2) (.slice QC S.t.length qc) (withO S (S.o ++ [l]))) => spec_IsValidScene W W.heap.size (Nat.le_refl _) (o.in_ hfN.out.1 hfN.out.2.1 hfN.out.2.2 (Nat.le_refl _)))
    have oN := (oN0.keptBox kn0 Try.types_scn.1 Try.types_scn.2 ha3).wider (lo' := W0.heap.size) (hi' := W3.heap.size) (Nat.le_refl _) (by omega)
    clear ha3 kn0 oN0 hT2
    have hg0 : W0.heap.size ≤ W3.heap.size := by omega
    have HL := hide hs3
    clear hs3
    rw [← HBB.out] at VN
    clear HBB
    cases b1 with
    | false =>
      obtain ⟨yp0, yp1, yp2, yp3, yp4, yp5, yp6⟩ := kp.cells7
      obtain ⟨yn0, yn1, yn2, yn3, yn4, yn5, yn6⟩ := kn.cells7
      go_wp2_with fail
      refine (V1.out _ hT3).mono ?_
      rintro e w4 ⟨rfl, hb4⟩
      clear yp0 yp1 yp2 yp3 yp4 yp5 yp6 yn0 yn1 yn2 yn3 yn4 yn5 yn6
      have hT4 := below_then hT3 hb4
      have hs4 := hb4.size
      have kp := kp.below hb4 kp.lt
      have kn := kn.below hb4 kn.lt
      have kr := kr.below hb4 kr.lt
      have oN := (oN.below hb4 (Nat.le_refl _)).wider (Nat.le_refl _) hs4
      have hL4 := hb4
      clear hb4 hT3
      obtain ⟨yp0, yp1, yp2, yp3, yp4, yp5, yp6⟩ := kp.cells7
      go_wp2_with fail
      refine (C1.out _ hT4).mono ?_
      rintro e w5 ⟨q0, q1, q2, q3, q4, q5, q6, rfl, oq, hb5⟩
      obtain ⟨UA, ua, UB, ub, UC, uc, ⟨rfl, rfl, rfl, rfl, rfl, rfl, rfl⟩⟩ := oq.form
      clear yp0 yp1 yp2 yp3 yp4 yp5 yp6
      have hT5 := below_then hT4 hb5
      have hs5 := hb5.size
      have HKR := hide (kr.below hb5 kr.lt)
      obtain ⟨yr0, yr1, yr2, yr3, yr4, yr5, yr6⟩ := HKR.out.cells7
      obtain ⟨zr0, zr1, zr2, zr3, zr4, zr5, zr6⟩ := HKR.out.frz7
      have HOQ := hide oq
      have HTQ := hide hT5
      clear kp kn kr oq oN hT5 hb5
      go_wp2_with fail
      obtain ⟨r1, r2, r3⟩ := ret_scn0 HKR.out HOQ.out HTQ.out (by omega) (by omega) (Nat.le_refl _) (.inl (by omega))
      refine bodyPost_ret (results_cell_tmp rfl _ _ (w.heap.size + 1) _ #[.int .i64 S.lx, .int .i64 S.ly, .int .i64 S.hx, .int .i64 S.hy, .slice UA S.r.length ua, .slice UB S.o.length ub, .slice UC S.t.length uc] (0, 0) _ rfl r1 Try.underlying34 rfl Try.sizeScn) rfl ?_
      exact ⟨_, _, _, _, _, _, _, rfl, r2, r3⟩
    | true =>
    cases b2 with
    | false =>
      obtain ⟨yp0, yp1, yp2, yp3, yp4, yp5, yp6⟩ := kp.cells7
      obtain ⟨yn0, yn1, yn2, yn3, yn4, yn5, yn6⟩ := kn.cells7
      go_wp2_with fail
      refine (V1.out _ hT3).mono ?_
      rintro e w4 ⟨rfl, hb4⟩
      clear yp0 yp1 yp2 yp3 yp4 yp5 yp6 yn0 yn1 yn2 yn3 yn4 yn5 yn6
      have hT4 := below_then hT3 hb4
      have hs4 := hb4.size
      have kp := kp.below hb4 kp.lt
      have kn := kn.below hb4 kn.lt
      have kr := kr.below hb4 kr.lt
      have oN := (oN.below hb4 (Nat.le_refl _)).wider (Nat.le_refl _) hs4
      have hL4 := hb4
      clear hb4 hT3
      obtain ⟨yp0, yp1, yp2, yp3, yp4, yp5, yp6⟩ := kp.cells7
      obtain ⟨yn0, yn1, yn2, yn3, yn4, yn5, yn6⟩ := kn.cells7
      go_wp2_with fail
      refine (VN.out _ hL4 oN).mono ?_
      rintro e w5 ⟨rfl, hb5⟩
      clear yp0 yp1 yp2 yp3 yp4 yp5 yp6 yn0 yn1 yn2 yn3 yn4 yn5 yn6
      have hT5 := below_then hT4 hb5
      have hs5 := hb5.size
      have kp := kp.below hb5 kp.lt
      have kn := kn.below hb5 kn.lt
      have kr := kr.below hb5 kr.lt
      have oN := (oN.below hb5 (Nat.le_refl _)).wider (Nat.le_refl _) hs5
      have hL5 := hb5
      clear hb5 hT4
      obtain ⟨yp0, yp1, yp2, yp3, yp4, yp5, yp6⟩ := kp.cells7
      go_wp2_with fail
      refine (C1.out _ hT5).mono ?_
      rintro e w6 ⟨q0, q1, q2, q3, q4, q5, q6, rfl, oq, hb6⟩
      obtain ⟨UA, ua, UB, ub, UC, uc, ⟨rfl, rfl, rfl, rfl, rfl, rfl, rfl⟩⟩ := oq.form
      clear yp0 yp1 yp2 yp3 yp4 yp5 yp6
      have hT6 := below_then hT5 hb6
      have hs6 := hb6.size
      have HKR := hide (kr.below hb6 kr.lt)
      obtain ⟨yr0, yr1, yr2, yr3, yr4, yr5, yr6⟩ := HKR.out.cells7
      obtain ⟨zr0, zr1, zr2, zr3, zr4, zr5, zr6⟩ := HKR.out.frz7
      have HOQ := hide oq
      have HTQ := hide hT6
      clear kp kn kr oq oN hT6 hb6
      go_wp2_with fail
      obtain ⟨r1, r2, r3⟩ := ret_scn0 HKR.out HOQ.out HTQ.out (by omega) (by omega) (Nat.le_refl _) (.inl (by omega))
      refine bodyPost_ret (results_cell_tmp rfl _ _ (w.heap.size + 1) _ #[.int .i64 S.lx, .int .i64 S.ly, .int .i64 S.hx, .int .i64 S.hy, .slice UA S.r.length ua, .slice UB S.o.length ub, .slice UC S.t.length uc] (0, 0) _ rfl r1 Try.underlying34 rfl Try.sizeScn) rfl ?_
      exact ⟨_, _, _, _, _, _, _, rfl, r2, r3⟩
    | true =>
      obtain ⟨yp0, yp1, yp2, yp3, yp4, yp5, yp6⟩ := kp.cells7
      obtain ⟨yn0, yn1, yn2, yn3, yn4, yn5, yn6⟩ := kn.cells7
      go_wp2_with fail
      refine (V1.out _ hT3).mono ?_
      rintro e w4 ⟨rfl, hb4⟩
      clear yp0 yp1 yp2 yp3 yp4 yp5 yp6 yn0 yn1 yn2 yn3 yn4 yn5 yn6
      have hT4 := below_then hT3 hb4
      have hs4 := hb4.size
      have kp := kp.below hb4 kp.lt
      have kn := kn.below hb4 kn.lt
      have kr := kr.below hb4 kr.lt
      have oN := (oN.below hb4 (Nat.le_refl _)).wider (Nat.le_refl _) hs4
      have hL4 := hb4
      clear hb4 hT3
      obtain ⟨yp0, yp1, yp2, yp3, yp4, yp5, yp6⟩ := kp.cells7
      obtain ⟨yn0, yn1, yn2, yn3, yn4, yn5, yn6⟩ := kn.cells7
      go_wp2_with fail
      refine (VN.out _ hL4 oN).mono ?_
      rintro e w5 ⟨rfl, hb5⟩
      clear yp0 yp1 yp2 yp3 yp4 yp5 yp6 yn0 yn1 yn2 yn3 yn4 yn5 yn6
      have hT5 := below_then hT4 hb5
      have hs5 := hb5.size
      have kp := kp.below hb5 kp.lt
      have kn := kn.below hb5 kn.lt
      have kr := kr.below hb5 kr.lt
      have oN := (oN.below hb5 (Nat.le_refl _)).wider (Nat.le_refl _) hs5
      have hL5 := hb5
      clear hb5 hT4
      obtain ⟨yn0, yn1, yn2, yn3, yn4, yn5, yn6⟩ := kn.cells7
      have HKR := hide kr
      obtain ⟨yr0, yr1, yr2, yr3, yr4, yr5, yr6⟩ := HKR.out.cells7
      obtain ⟨zr0, zr1, zr2, zr3, zr4, zr5, zr6⟩ := HKR.out.frz7
      have HOQ := hide oN
      have HTQ := hide hT5
      clear kp kn kr oN hT5
      go_wp2_with fail
      obtain ⟨r1, r2, r3⟩ := ret_scn0 HKR.out HOQ.out HTQ.out (by omega) (by omega) (Nat.le_refl _) (.inl (by omega))
      refine bodyPost_ret (results_cell_tmp rfl _ _ (w.heap.size + 1) _ #[.int .i64 S.lx, .int .i64 S.ly, .int .i64 S.hx, .int .i64 S.hy, .slice QA S.r.length qa, .slice A2 (S.o.length + 1) c2, .slice QC S.t.length qc] (0, 0) _ rfl r1 Try.underlying34 rfl Try.sizeScn) rfl ?_
      exact ⟨_, _, _, _, _, _, _, rfl, r2, r3⟩
end Go.Proofs.Ytffabmdcgcinmaa
