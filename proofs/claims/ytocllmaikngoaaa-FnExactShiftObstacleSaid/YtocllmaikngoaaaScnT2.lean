/-
  The reference's scenes: contracts: ShiftObstacle.
-/
import Derived.Test.YtocllmaikngoaaaSE
import Derived.Test.YtocllmaikngoaaaScnR
import Derived.Deep.RegionLaw
import Derived.Test.YtocllmaikngoaaaMinR3
namespace Go.Proofs.Ytocllmaikngoaaa
open Go.RowKit
set_option linter.unusedVariables false
theorem shB_bad {S : Scn} {k : Int} {v : V2} (h : scnB S = false) : shB S k v = false ∧ shS S k v = S := by
  cases hk : hasB S k with
  | false => exact shB_no hk
  | true =>
    obtain ⟨e1, e2⟩ := shB_is (v := v) hk
    rw [e1, e2]
    unfold chgS chgB
    rw [h]
    exact ⟨rfl, rfl⟩
theorem shB_yes {S : Scn} {i : Nat} {v : V2} {b : Bool} {mv : List V2} (h : scnB S = true) (hi : i < S.o.length) (hm : mv = mvG S.o[i] v) (hb : b = scnB (withO S (S.o.set i mv))) : shB S (i : Int) v = b ∧ shS S (i : Int) v = if b = true then withO S (S.o.set i mv) else S := by
  have hk : hasB S (i : Int) = true := by unfold hasB; simp; omega
  obtain ⟨e1, e2⟩ := shB_is (v := v) hk
  rw [shO_at hi, ← hm] at e1 e2
  have e3 : chgB S (S.o.set i mv) = b := by unfold chgB; rw [h, hb]; rfl
  rw [e1, e2]
  unfold chgS
  rw [e3]
  exact ⟨rfl, rfl⟩
theorem scn_at {S : Scn} {i : Nat} (h : scnB S = true) (hi : i < S.o.length) : allV S.o[i] = true ∧ S.o[i].length ≤ 5 ∧ S.o.length ≤ 4 := by
  unfold scnB at h
  simp only [Bool.and_eq_true] at h
  have h2 := h.2.2.1
  unfold obsB at h2
  simp only [Bool.and_eq_true, decide_eq_true_eq] at h2
  have h3 := List.all_eq_true.1 h2.2 _ (List.getElem_mem hi)
  unfold solB at h3
  simp only [Bool.and_eq_true, decide_eq_true_eq] at h3
  have hpp := polyB_iff.1 h3.2.1
  exact ⟨List.all_eq_true.2 fun x hx => by obtain ⟨j, hj, rfl⟩ := List.getElem_of_mem hx; have h9 := poly_vec hpp hj; rwa [atV_eq hj] at h9, h3.1, h2.1⟩
/-- a scene of one's own, one of its obstacles replaced in place -/
theorem SOwn0.put {W : World} {lo hi hi' g i : Nat} {ES EV : TypeId} {v0 v1 v2 v3 v4 v6 : Value} {S : Scn} {c d : Nat} {D : Option Addr} {mv : List V2} (hne : ES ≠ EV)
    (h : SOwn0 W lo hi ES EV v0 v1 v2 v3 v4 (.slice (some ⟨g, 0, none⟩) S.o.length c) v6 S) (om : OwnV W hi hi' EV (.slice D mv.length d) mv.length mv) (hl : lo ≤ hi) (hh : hi ≤ hi') :
    SOwn0 (W.setCell ⟨g, i, none⟩ (.slice D mv.length d)) lo hi' ES EV v0 v1 v2 v3 v4 (.slice (some ⟨g, 0, none⟩) S.o.length c) v6 (withO S (S.o.set i mv)) := by
  obtain ⟨RA, rc, OA, oc, TA, tc, os, ⟨rfl, rfl, rfl, rfl, rfl, e5, rfl⟩, pr, ⟨ro, eo, ce⟩, pt⟩ := h
  injection e5 with e5a _ e5c
  subst e5a e5c
  have hg : lo ≤ g ∧ g < W.heap.size := ro.1.lt g rfl
  have ha : Aside g (g + 1) W (W.setCell ⟨g, i, none⟩ (.slice D mv.length d)) := (Aside.refl _).setCell (a := ⟨g, i, none⟩) (Nat.le_refl _) (Nat.lt_succ_self _) _
  have kp : ∀ {v : Value} {n : Nat} {vs : List V2} {l u : Nat}, OwnV W l u EV v n vs → OwnV (W.setCell ⟨g, i, none⟩ (.slice D mv.length d)) l u EV v n vs := fun {v n vs l u} o =>
    o.kept fun b hb => ha.block b (o.1.lt b hb).2 (by have h9 : g ≠ b := own_types ro.1 o.1 hne rfl hb; omega)
  obtain ⟨h1, -⟩ := ro.1.stored i (.slice D mv.length d)
  have e1 : (slv os).set i (.slice D mv.length d) = slv (os.set i ⟨D, d, mv⟩) := (slv_set os i ⟨D, d, mv⟩).symm
  rw [e1] at h1
  refine ⟨RA, rc, some ⟨g, 0, none⟩, c, TA, tc, os.set i ⟨D, d, mv⟩, ⟨rfl, rfl, rfl, rfl, rfl, ?_, rfl⟩, (kp pr).wider (Nat.le_refl _) hh, ⟨?_, fun s hs => ?_, ?_⟩, (kp pt).wider (Nat.le_refl _) hh⟩
  · show Value.slice _ _ _ = .slice _ (S.o.set i mv).length _
    rw [List.length_set]
  · show OwnR _ lo hi' ES (.slice _ (S.o.set i mv).length _) (S.o.set i mv).length _
    rw [List.length_set]
    exact ⟨h1, fun k hk => Nat.lt_of_lt_of_le (ro.2 k hk) hh⟩
  · rcases List.mem_or_eq_of_mem_set hs with hs | rfl
    · exact (kp (eo s hs)).wider (Nat.le_refl _) hh
    · exact (kp om).wider hl (Nat.le_refl _)
  · show cont _ = S.o.set i mv
    rw [cont_set, ce]
theorem put_fit {S : Scn} {i : Nat} {mv : List V2} (f : SFit S ∧ wf4 S) (hw : wfV mv) (hl : mv.length ≤ 1048576) (hs : S.r.length ≤ 5 ∧ S.o.length ≤ 4 ∧ (∀ l ∈ S.o, l.length ≤ 5) ∧ S.t.length ≤ 3) : SFit (withO S (S.o.set i mv)) ∧ wf4 (withO S (S.o.set i mv)) ∧ SShort (withO S (S.o.set i mv)) := by
  obtain ⟨⟨f1, f2, f3, f4, f5, f6⟩, x⟩ := f
  obtain ⟨s1, s2, s3, s4⟩ := hs
  have el : (withO S (S.o.set i mv)).o.length = S.o.length := by show (S.o.set i mv).length = _; rw [List.length_set]
  have hm : ∀ y ∈ (withO S (S.o.set i mv)).o, y.length ≤ 1048576 ∧ wfV y := fun y hy => by
    rcases List.mem_or_eq_of_mem_set hy with hy | rfl
    · exact ⟨by have := s3 y hy; omega, (f5 y hy).2⟩
    · exact ⟨hl, hw⟩
  refine ⟨⟨f1, by rw [el]; omega, f3, f4, fun y hy => ⟨by have := (hm y hy).1; omega, (hm y hy).2⟩, f6⟩, x, ?_, by rw [el]; omega, ?_, fun y hy => (hm y hy).1⟩
  · show S.r.length ≤ _; omega
  · show S.t.length ≤ _; omega
theorem cell_setv {w : World} {p : Addr} {v u : Value} {g j : Nat} (hp : p.block ≠ g) (hl : p.block < w.heap.size) (h : w.cell? p = some v) : (w.setCell ⟨g, j, none⟩ u).cell? p = some v := by
  have hb := ((Aside.refl w (lo := g) (hi := g + 1)).setCell (a := ⟨g, j, none⟩) (Nat.le_refl _) (Nat.lt_succ_self _) u).block p.block hl (by omega)
  rw [← h]
  unfold World.cell?
  rw [hb]
theorem scn_sizes {S : Scn} (h : scnB S = true) : S.r.length ≤ 5 ∧ S.o.length ≤ 4 ∧ (∀ l ∈ S.o, l.length ≤ 5) ∧ S.t.length ≤ 3 := by
  unfold scnB at h
  simp only [Bool.and_eq_true] at h
  have h2 := h.2.2.1
  unfold obsB at h2
  simp only [Bool.and_eq_true, decide_eq_true_eq] at h2
  have h4 := h.2.2.2
  unfold tabB at h4
  simp only [Bool.and_eq_true, decide_eq_true_eq] at h4
  have h1 := h.2.1
  unfold solB at h1
  simp only [Bool.and_eq_true, decide_eq_true_eq] at h1
  refine ⟨h1.1, h2.1, fun l hl => ?_, h4.1⟩
  have h3 := List.all_eq_true.1 h2.2 _ hl
  unfold solB at h3
  simp only [Bool.and_eq_true, decide_eq_true_eq] at h3
  exact h3.1
set_option maxHeartbeats 1600000 in
theorem spec_MovePolygonV (w : World) (B : Nat) (hB : B ≤ w.heap.size) (A : Option Addr) (n c : Nat) (l : List V2) (R : RdV w B A n l) (hV : allV l = true) (x y : Int) (hx : (Lit.int .i64 x).wf = true) (hy : (Lit.int .i64 y).wf = true) :
    Calls Try.prog 48 #[.slice A n c, .agg #[.int .i64 x, .int .i64 y]] w fun e w' => ∃ r, e = .returned r ∧ OwnV w' w.heap.size w'.heap.size 29 r (mvL l (x, y)).length (mvL l (x, y)) ∧ Below w.heap.size w w' := by
  by_cases hv : vecB x y = true
  · exact spec_MovePolygon w B hB A n c l R hV x y hv
  have hv : vecB x y = false := by simpa using hv
  have HN : Hid (mvL l (x, y) = []) := by show _ = _; unfold mvL; rw [if_neg (fun h => by have h1 := h.1; unfold vecV at h1; simp only at h1; rw [hv] at h1; cases h1)]
  obtain ⟨W0, hW0⟩ : ∃ W0, W0 = (w.alloc (.cells #[.int .i64 x, .int .i64 y] 29)).alloc (.cells #[] 29) := ⟨_, rfl⟩
  have hT0 : Below w.heap.size w W0 := by rw [hW0]; exact below_alloc (below_new _ _) _
  have kv : Box W0 w.heap.size 29 #[.int .i64 x, .int .i64 y] := by rw [hW0]; exact (Box.last _ _ _ rfl).alloc _
  have HI := hide (spec_IsValidVec W0 x y hx hy)
  rw [hv] at HI
  obtain ⟨v0, v1⟩ := kv.cells2
  clear R hV hx hy hv kv
  go_enter Try.func48, Try.ntmps48
  go_upto_region 2 with fail
  rw [← hW0]
  clear hW0
  go_wp2_with fail
  refine HI.out.mono ?_
  rintro e w1 ⟨rfl, hb1⟩
  go_wp2_with fail
  go_ret
  exact ⟨_, rfl, by rw [HN.out]; exact OwnV.nil _ _ _ _, below_then hT0 hb1⟩
set_option maxRecDepth 100000 in
set_option maxHeartbeats 12800000 in
theorem spec_ShiftObstacle (w : World) (B : Nat) (hB : B ≤ w.heap.size) {v0 v1 v2 v3 v4 v5 v6 : Value} {S : Scn} (h : SIn w B v0 v1 v2 v3 v4 v5 v6 S) (k : Int) (fk : (Lit.int .i64 k).wf = true) (x y : Int) (hx : (Lit.int .i64 x).wf = true) (hy : (Lit.int .i64 y).wf = true) :
    Calls Try.prog 19 #[.agg #[v0, v1, v2, v3, v4, v5, v6], .int .i64 k, .agg #[.int .i64 x, .int .i64 y]] w fun e w' => SResB0 30 29 w w' e (shS S k (x, y)) (shB S k (x, y)) := by
  have h' := h
  have hfit := h.fit
  obtain ⟨RA, rc, OA, oc, TA, tc, os, ⟨rfl, rfl, rfl, rfl, rfl, rfl, rfl⟩, hR, ⟨hO, hc⟩, hT, hwf⟩ := h
  clear hR hT hwf
  have hol := hO.1
  have hol2 := hO.2.2.1
  obtain ⟨k1, k2⟩ := bounds_i64 fk
  have V1 := hide (fun (W : World) (hb : Below w.heap.size w W) => spec_IsValidScene W B (Nat.le_trans hB hb.size) (h'.below (hb.mono hB)))
  have C1 := hide (fun (W : World) (hb : Below w.heap.size w W) => spec_l10Copy W B (Nat.le_trans hB hb.size) (h'.below (hb.mono hB)))
  unfold SRes0 at C1
  have HIN := hide (fun (W : World) => l01In_all k 0 ((S.o.length : Int) - 1) W (hasB S k) (by unfold hasB; show _ = _; rw [← Bool.decide_and]; congr 1; apply propext; omega))
  obtain ⟨b1, hb1'⟩ : ∃ b, b = scnB S := ⟨_, rfl⟩
  rw [← hb1'] at V1
  obtain ⟨b2, hb2'⟩ : ∃ b, b = hasB S k := ⟨_, rfl⟩
  rw [← hb2'] at HIN
  obtain ⟨W0, hW0⟩ : ∃ W0, W0 = ((w.alloc (.cells #[.int .i64 S.lx, .int .i64 S.ly, .int .i64 S.hx, .int .i64 S.hy, .slice RA S.r.length rc, .slice OA S.o.length oc, .slice TA S.t.length tc] 33)).alloc (.cells #[.int .i64 x, .int .i64 y] 29)).alloc (.cells #[.int .i64 0, .int .i64 0, .int .i64 0, .int .i64 0, .slice none 0 0, .slice none 0 0, .slice none 0 0] 33) := ⟨_, rfl⟩
  have hT0 : Below w.heap.size w W0 := by rw [hW0]; exact below_alloc (below_alloc (below_new _ _) _) _
  have kp : Box W0 w.heap.size 33 #[.int .i64 S.lx, .int .i64 S.ly, .int .i64 S.hx, .int .i64 S.hy, .slice RA S.r.length rc, .slice OA S.o.length oc, .slice TA S.t.length tc] := by rw [hW0]; exact ((Box.last _ _ _ rfl).alloc _).alloc _
  have kv : Box W0 (w.heap.size + 1) 29 #[.int .i64 x, .int .i64 y] := by rw [hW0]; exact (Box.last _ _ _ (alloc_size _ _).symm).alloc _
  have kr : Box W0 (w.heap.size + 2) 33 #[.int .i64 0, .int .i64 0, .int .i64 0, .int .i64 0, .slice none 0 0, .slice none 0 0, .slice none 0 0] := by rw [hW0]; exact Box.last _ _ _ (by rw [alloc_size, alloc_size])
  have hs0 : w.heap.size + 3 ≤ W0.heap.size := by rw [hW0, alloc_size, alloc_size, alloc_size]; omega
  clear h'
  obtain ⟨bb, hbb⟩ : ∃ b, b = shB S k (x, y) := ⟨_, rfl⟩
  obtain ⟨Z, hZ⟩ : ∃ Z, Z = shS S k (x, y) := ⟨_, rfl⟩
  rw [← hbb, ← hZ]
  have HBB := hide hbb
  have HZZ := hide hZ
  clear hbb hZ
  obtain ⟨yp0, yp1, yp2, yp3, yp4, yp5, yp6⟩ := kp.cells7
  go_enter Try.func19, Try.ntmps19
  go_upto_region 1 with fail
  rw [← hW0]
  clear hW0
  go_wp2_with fail
  refine (C1.out _ hT0).mono ?_
  rintro e w1 ⟨q0, q1, q2, q3, q4, q5, q6, rfl, o1, hb1⟩
  obtain ⟨QA, qa, QB, qb, QC, qc, ⟨rfl, rfl, rfl, rfl, rfl, rfl, rfl⟩⟩ := o1.form
  clear yp0 yp1 yp2 yp3 yp4 yp5 yp6
  have hs1 := hb1.size
  have hT1 := below_then hT0 hb1
  have kp := kp.below hb1 kp.lt
  have kv := kv.below hb1 kv.lt
  have kr := kr.below hb1 kr.lt
  obtain ⟨W2, hW2⟩ : ∃ W2, W2 = w1.alloc (.cells #[.int .i64 S.lx, .int .i64 S.ly, .int .i64 S.hx, .int .i64 S.hy, .slice QA S.r.length qa, .slice QB S.o.length qb, .slice QC S.t.length qc] 33) := ⟨_, rfl⟩
  have hb2 : Below w1.heap.size w1 W2 := by rw [hW2]; exact below_new _ _
  have kn : Box W2 w1.heap.size 33 #[.int .i64 S.lx, .int .i64 S.ly, .int .i64 S.hx, .int .i64 S.hy, .slice QA S.r.length qa, .slice QB S.o.length qb, .slice QC S.t.length qc] := by rw [hW2]; exact Box.last _ _ _ rfl
  have hq2 : w1.heap.size + 1 ≤ W2.heap.size := by rw [hW2, alloc_size]; omega
  have hT2 := below_then hT1 hb2
  have kp := kp.below hb2 kp.lt
  have kv := kv.below hb2 kv.lt
  have kr := kr.below hb2 kr.lt
  have oN := o1.below hb2 (Nat.le_refl _)
  clear hb1 hb2 hT0 hT1 o1
  go_upto_region 2 with fail
  rw [← hW2]
  clear hW2
  obtain ⟨yp0, yp1, yp2, yp3, yp4, yp5, yp6⟩ := kp.cells7
  go_wp2_with fail
  refine (V1.out _ hT2).mono ?_
  rintro e w3 ⟨rfl, hb3⟩
  clear yp0 yp1 yp2 yp3 yp4 yp5 yp6
  have hT3 := below_then hT2 hb3
  have hs3 := hb3.size
  have kp := kp.below hb3 kp.lt
  have kv := kv.below hb3 kv.lt
  have kn := kn.below hb3 kn.lt
  have kr := kr.below hb3 kr.lt
  have oN := oN.below hb3 (by omega)
  clear hb3 hT2
  cases b1 with
  | false =>
    have HRR := shB_bad (S := S) (k := k) (v := (x, y)) hb1'.symm
    obtain rfl : bb = false := HBB.out.trans HRR.1
    have eZ : S = Z := (HZZ.out.trans HRR.2).symm
    subst eZ
    clear hO hc hol HIN hb2' hb1' kv HRR hfit HBB HZZ
    obtain ⟨yn0, yn1, yn2, yn3, yn4, yn5, yn6⟩ := kn.cells7
    have HKR := hide kr
    have HOQ := hide oN
    have HTQ := hide hT3
    clear kp kn kr oN hT3
    obtain ⟨yr0, yr1, yr2, yr3, yr4, yr5, yr6⟩ := HKR.out.cells7
    obtain ⟨zr0, zr1, zr2, zr3, zr4, zr5, zr6⟩ := HKR.out.frz7
    go_wp2_with fail
    obtain ⟨r1, r2, r3⟩ := ret_scn0 HKR.out HOQ.out HTQ.out (by omega) (by omega) (by omega) (.inl (by omega))
    refine bodyPost_ret (results_cell_tmp rfl _ _ (w.heap.size + 2) _ #[.int .i64 S.lx, .int .i64 S.ly, .int .i64 S.hx, .int .i64 S.hy, .slice QA S.r.length qa, .slice QB S.o.length qb, .slice QC S.t.length qc] (0, 0) _ rfl r1 Try.underlying33 rfl Try.sizeScn) rfl ?_
    exact ⟨_, _, _, _, _, _, _, rfl, r2, r3⟩
  | true =>
  cases b2 with
  | false =>
    have HRR := shB_no (S := S) (k := k) (v := (x, y)) hb2'.symm
    obtain rfl : bb = false := HBB.out.trans HRR.1
    have eZ : S = Z := (HZZ.out.trans HRR.2).symm
    subst eZ
    clear hO hc hol hb2' hb1' kv HRR hfit HBB HZZ
    obtain ⟨yp0, yp1, yp2, yp3, yp4, yp5, yp6⟩ := kp.cells7
    go_wp2_with fail
    refine (HIN.out _).mono ?_
    rintro e w4 ⟨rfl, rfl⟩
    clear yp0 yp1 yp2 yp3 yp4 yp5 yp6
    obtain ⟨yn0, yn1, yn2, yn3, yn4, yn5, yn6⟩ := kn.cells7
    have HKR := hide kr
    have HOQ := hide oN
    have HTQ := hide hT3
    clear kp kn kr oN hT3
    obtain ⟨yr0, yr1, yr2, yr3, yr4, yr5, yr6⟩ := HKR.out.cells7
    obtain ⟨zr0, zr1, zr2, zr3, zr4, zr5, zr6⟩ := HKR.out.frz7
    go_wp2_with fail
    obtain ⟨r1, r2, r3⟩ := ret_scn0 HKR.out HOQ.out HTQ.out (by omega) (by omega) (by omega) (.inl (by omega))
    refine bodyPost_ret (results_cell_tmp rfl _ _ (w.heap.size + 2) _ #[.int .i64 S.lx, .int .i64 S.ly, .int .i64 S.hx, .int .i64 S.hy, .slice QA S.r.length qa, .slice QB S.o.length qb, .slice QC S.t.length qc] (0, 0) _ rfl r1 Try.underlying33 rfl Try.sizeScn) rfl ?_
    exact ⟨_, _, _, _, _, _, _, rfl, r2, r3⟩
  | true =>
    have hkr : 0 ≤ k ∧ k < (S.o.length : Int) := by unfold hasB at hb2'; simpa using hb2'.symm
    obtain ⟨i, rfl⟩ : ∃ i : Nat, k = (i : Int) := ⟨k.toNat, by omega⟩
    have hin : i < S.o.length := by omega
    have hinl : i < os.length := by omega
    have hsz := scn_sizes hb1'.symm
    obtain ⟨hV5, hl5, _⟩ := scn_at hb1'.symm hin
    have eos : S.o[i] = os[i].vs := by have := cont_at hinl; simp only [hc] at this; exact this
    obtain ⟨mv, hmv⟩ : ∃ m, m = mvG S.o[i] (x, y) := ⟨_, rfl⟩
    have hmL : mv = mvL os[i].vs (x, y) := by rw [hmv, mvG_valid hV5, eos]
    obtain ⟨b3, hb3'⟩ : ∃ b, b = scnB (withO S (S.o.set i mv)) := ⟨_, rfl⟩
    have HRR := shB_yes hb1'.symm hin hmv hb3'
    have eb : b3 = bb := (HBB.out.trans HRR.1).symm
    subst eb
    have HZ3 : Hid (Z = if b3 = true then withO S (S.o.set i mv) else S) := HZZ.out.trans HRR.2
    have hmw : wfV mv := by rw [hmv]; exact mvG_wf _ _
    have hml : mv.length ≤ 1048576 := by rw [hmv]; have := mvG_len S.o[i] (x, y); omega
    have HFT := hide (put_fit (i := i) hfit hmw hml hsz)
    have RSi := hO.2.2.2 os[i] (List.getElem_mem hinl)
    rw [eos] at hV5
    have HMv := hide (fun (W : World) (hb : Below w.heap.size w W) => spec_MovePolygonV W B (Nat.le_trans hB hb.size) os[i].a os[i].vs.length os[i].c os[i].vs (RSi.below (hb.mono hB)) hV5 x y hx hy)
    rw [← hmL] at HMv
    obtain ⟨ad, hA, hb8, hc8, -⟩ := hO.at_ hinl
    subst hA
    have hc8w := hc8
    obtain ⟨ea, hea⟩ : ∃ z, z = os[i].a := ⟨_, rfl⟩
    obtain ⟨el, hel⟩ : ∃ z, z = os[i].vs.length := ⟨_, rfl⟩
    obtain ⟨ec, hec⟩ : ∃ z, z = os[i].c := ⟨_, rfl⟩
    rw [← hea, ← hel, ← hec] at HMv hc8w
    clear hea hel hec
    have HB3 := hide hb3'
    clear hb3'
    obtain ⟨gB, gc, hQB, hgB1, hgB2⟩ : ∃ g c, (Value.slice QB S.o.length qb) = .slice (some ⟨g, 0, none⟩) S.o.length c ∧ W0.heap.size ≤ g ∧ g < w1.heap.size := by
      obtain ⟨_, _, _, _, _, _, ts, ⟨_, _, _, _, _, e5, _⟩, _, ⟨ro, _⟩, _⟩ := oN
      rw [e5]
      rcases own_form ro.1 with ⟨_, h0, _⟩ | ⟨g, c, hv, h1, _⟩
      · omega
      · exact ⟨g, c, hv, h1, ro.2 g (by rw [hv]; rfl)⟩
    injection hQB with hQB1 _ hQB2
    subst hQB1 hQB2
    have hcapB : S.o.length ≤ qb ∧ qb ≤ maxLen := by
      obtain ⟨_, _, _, _, _, _, ts, ⟨_, _, _, _, _, e5, _⟩, _, ⟨ro, _⟩, _⟩ := oN
      injection e5 with e5a _ e5c
      subst e5a e5c
      exact ro.cap
    unfold maxLen at hcapB
    clear hkr hb2' hO hc hmv hmL hb1' hsz hl5 hV5 hmw eos RSi hx hy hfit HRR HBB HZZ
    obtain ⟨yp0, yp1, yp2, yp3, yp4, yp5, yp6⟩ := kp.cells7
    go_wp2_with fail
    refine (HIN.out _).mono ?_
    rintro e w4 ⟨rfl, rfl⟩
    clear yp0 yp1 yp2 yp3 yp4 yp5 yp6 HIN
    have HT3 := hide hT3
    have HB := hide kp
    have HV := hide kv
    have HKN := hide kn
    have HR := hide kr
    have HON := hide oN
    have yA : w3.cell? (ad.add i) = some (.slice ea el ec) := (hT3.cell (by rw [add_block]; omega)).trans hc8w
    obtain ⟨uB, huB⟩ : ∃ u, w3.cell? ⟨gB, i, none⟩ = some u := by
      obtain ⟨_, _, _, _, _, _, ts, ⟨_, _, _, _, _, e5, _⟩, _, ⟨ro, _⟩, _⟩ := oN
      injection e5 with e5a _ e5c
      subst e5a e5c
      exact ⟨_, (ro.1.cellAt i (by rw [Nat.mul_one]; exact hin)).trans (List.getElem?_eq_getElem (by rw [slv_len, ro.len]; exact hin))⟩
    have ufB : ∀ W, Below w3.heap.size w3 W → W.frozen? ⟨gB, i, none⟩ = false := fun W hq => by
      obtain ⟨_, _, _, _, _, _, ts, ⟨_, _, _, _, _, e5, _⟩, _, ⟨ro, _⟩, _⟩ := oN.below hq (by omega)
      injection e5 with e5a _ e5c
      subst e5a e5c
      exact ro.1.frozenAt i
    have HUF := hide ufB
    have hadl : ad.block < w3.heap.size := by omega
    have hgBl : gB < w3.heap.size := by omega
    have hgne : (ad.add i).block ≠ gB := by rw [add_block]; omega
    have HLT := hide (And.intro kp.lt (And.intro kv.lt kn.lt))
    have HS0 : Hid (Below w3.heap.size w3 w3.drew) := (Below.refl _ _).drew
    have HKS := hide (fun (W : World) (hq : Below w3.heap.size w3 W) => (⟨(HKN.out.below hq HKN.out.lt).cell 5, (HB.out.below hq HB.out.lt).cell 5, (hq.cell (by rw [add_block]; exact hadl)).trans yA, (HV.out.below hq HV.out.lt).cell 0, (HV.out.below hq HV.out.lt).cell 1⟩ : W.cell? ⟨w1.heap.size, 5, none⟩ = some (.slice (some ⟨gB, 0, none⟩) S.o.length qb) ∧ W.cell? ⟨w.heap.size, 5, none⟩ = some (.slice (some ad) S.o.length oc) ∧ W.cell? (ad.add i) = some (.slice ea el ec) ∧ W.cell? ⟨w.heap.size + 1, 0, none⟩ = some (.int .i64 x) ∧ W.cell? ⟨w.heap.size + 1, 1, none⟩ = some (.int .i64 y)))
    have HKT := hide (fun (W : World) (hq : Below w3.heap.size w3 W) (u : Value) => (⟨((HKN.out.below hq HKN.out.lt).setv (show w1.heap.size ≠ gB by omega) i u).cell 5, ((HB.out.below hq HB.out.lt).setv (show w.heap.size ≠ gB by omega) i u).cell 5, cell_setv hgne (by rw [add_block]; have := hq.size; omega) ((hq.cell (by rw [add_block]; exact hadl)).trans yA), ((HV.out.below hq HV.out.lt).setv (show w.heap.size + 1 ≠ gB by omega) i u).cell 0, ((HV.out.below hq HV.out.lt).setv (show w.heap.size + 1 ≠ gB by omega) i u).cell 1⟩ : (W.setCell ⟨gB, i, none⟩ u).cell? ⟨w1.heap.size, 5, none⟩ = some (.slice (some ⟨gB, 0, none⟩) S.o.length qb) ∧ (W.setCell ⟨gB, i, none⟩ u).cell? ⟨w.heap.size, 5, none⟩ = some (.slice (some ad) S.o.length oc) ∧ (W.setCell ⟨gB, i, none⟩ u).cell? (ad.add i) = some (.slice ea el ec) ∧ (W.setCell ⟨gB, i, none⟩ u).cell? ⟨w.heap.size + 1, 0, none⟩ = some (.int .i64 x) ∧ (W.setCell ⟨gB, i, none⟩ u).cell? ⟨w.heap.size + 1, 1, none⟩ = some (.int .i64 y)))
    have HUB := hide huB
    have hii : (0 : Int) ≤ (i : Int) := Int.natCast_nonneg _
    have hii2 : (i : Int) < (S.o.length : Int) := by omega
    clear kp kv kn kr oN yA huB hc8 hc8w hol hol2 k1 k2 hb8 ufB hml fk
    go_upto_region 4 with fail
    go_region_held3 (fun w' => w'.cell? ⟨w1.heap.size, 5, none⟩ = some (.slice (some ⟨gB, 0, none⟩) S.o.length qb) ∧ w'.cell? ⟨w.heap.size, 5, none⟩ = some (.slice (some ad) S.o.length oc) ∧ w'.cell? (ad.add i) = some (.slice ea el ec) ∧ w'.cell? ⟨w.heap.size + 1, 0, none⟩ = some (.int .i64 x) ∧ w'.cell? ⟨w.heap.size + 1, 1, none⟩ = some (.int .i64 y))
      (first | (with_reducible exact HKT.out _ HS1.out _) | (with_reducible exact HKS.out _ HS1.out) | (with_reducible exact HKS.out _ HS0.out))
      (first | (go_at_call 48; refine (HMv.out _ (below_then HT3.out HS0.out)).mono ?_; rintro e u4 ⟨vm, rfl, om, hb4⟩; obtain ⟨D, d, rfl⟩ := om.form; have HS1 := hide (below_then HS0.out hb4); have uf4 := HUF.out _ HS1.out; obtain ⟨uC, huC⟩ : ∃ u, u4.cell? ⟨gB, i, none⟩ = some u := ⟨uB, (HS1.out.cell (show gB < w3.heap.size from hgBl)).trans HUB.out⟩))
    have hz4 : w3.heap.size ≤ u4.heap.size := HS1.out.size
    obtain ⟨W5, hW5⟩ : ∃ W5, W5 = u4.setCell ⟨gB, i, none⟩ (.slice D mv.length d) := ⟨_, rfl⟩
    have hz5 : W5.heap.size = u4.heap.size := by rw [hW5, setCell_size]
    have oN5 : SOwn0 W5 W0.heap.size u4.heap.size 30 29 (.int .i64 S.lx) (.int .i64 S.ly) (.int .i64 S.hx) (.int .i64 S.hy) (.slice QA S.r.length qa) (.slice (some ⟨gB, 0, none⟩) S.o.length qb) (.slice QC S.t.length qc) (withO S (S.o.set i mv)) := by
      rw [hW5]
      exact SOwn0.put (hi := w1.heap.size) Try.types_ne (HON.out.below HS1.out (by omega)) (OwnV.wider (show OwnV u4 w3.heap.size u4.heap.size 29 (.slice D mv.length d) mv.length mv from om) (by omega) (Nat.le_refl _)) (by omega) (by omega)
    have kn5 : Box W5 w1.heap.size 33 #[.int .i64 S.lx, .int .i64 S.ly, .int .i64 S.hx, .int .i64 S.hy, .slice QA S.r.length qa, .slice (some ⟨gB, 0, none⟩) S.o.length qb, .slice QC S.t.length qc] := by rw [hW5]; exact (HKN.out.below HS1.out HKN.out.lt).setv (by omega) _ _
    have kp5 : Box W5 w.heap.size 33 #[.int .i64 S.lx, .int .i64 S.ly, .int .i64 S.hx, .int .i64 S.hy, .slice RA S.r.length rc, .slice (some ad) S.o.length oc, .slice TA S.t.length tc] := by rw [hW5]; exact (HB.out.below HS1.out HB.out.lt).setv (by omega) _ _
    have kr5 : Box W5 (w.heap.size + 2) 33 #[.int .i64 0, .int .i64 0, .int .i64 0, .int .i64 0, .slice none 0 0, .slice none 0 0, .slice none 0 0] := by rw [hW5]; exact (HR.out.below HS1.out HR.out.lt).setv (by omega) _ _
    have hT5 : Below w.heap.size w W5 := by rw [hW5]; exact (below_then HT3.out HS1.out).setCell (p := ⟨gB, i, none⟩) (by show w.heap.size ≤ gB; omega) _
    have HV5 := hide (spec_IsValidScene W5 W5.heap.size (Nat.le_refl _) (oN5.in_ HFT.out.1 HFT.out.2.1 HFT.out.2.2 (by omega)))
    rw [← HB3.out] at HV5
    rw [← hW5]
    clear hW5 HKS HKT HMv HON HKN HB HV HR HT3 HS0 HS1 HUF HUB om hb4 uf4 huC HFT HB3 HLT
    obtain ⟨yn0, yn1, yn2, yn3, yn4, yn5, yn6⟩ := kn5.cells7
    go_wp2_with fail
    refine HV5.out.mono ?_
    rintro e w6 ⟨rfl, hb6⟩
    clear yn0 yn1 yn2 yn3 yn4 yn5 yn6 HV5
    have hs6 := hb6.size
    have kn := kn5.below hb6 kn5.lt
    have kp := kp5.below hb6 kp5.lt
    have kr := kr5.below hb6 kr5.lt
    have oN := oN5.below hb6 (by omega)
    have hT6 := below_then hT5 hb6
    clear kn5 kp5 kr5 oN5 hT5 hb6
    cases b3 with
    | true =>
      have eZ : withO S (S.o.set i mv) = Z := by have h9 := HZ3.out; rw [if_pos rfl] at h9; exact h9.symm
      subst eZ
      obtain ⟨yn0, yn1, yn2, yn3, yn4, yn5, yn6⟩ := kn.cells7
      have HKR := hide kr
      have HOQ := hide oN
      have HTQ := hide hT6
      clear kp kn kr oN hT6 HZ3 C1
      obtain ⟨yr0, yr1, yr2, yr3, yr4, yr5, yr6⟩ := HKR.out.cells7
      obtain ⟨zr0, zr1, zr2, zr3, zr4, zr5, zr6⟩ := HKR.out.frz7
      go_wp2_with fail
      obtain ⟨r1, r2, r3⟩ := ret_scn0 HKR.out HOQ.out HTQ.out (by omega) (by omega) (by omega) (.inl (by omega))
      refine bodyPost_ret (results_cell_tmp rfl _ _ (w.heap.size + 2) _ #[.int .i64 S.lx, .int .i64 S.ly, .int .i64 S.hx, .int .i64 S.hy, .slice QA S.r.length qa, .slice (some ⟨gB, 0, none⟩) S.o.length qb, .slice QC S.t.length qc] (0, 0) _ rfl r1 Try.underlying33 rfl Try.sizeScn) rfl ?_
      exact ⟨_, _, _, _, _, _, _, rfl, r2, r3⟩
    | false =>
      have eZ : S = Z := by have h9 := HZ3.out; rw [if_neg (by simp)] at h9; exact h9.symm
      subst eZ
      obtain ⟨yp0, yp1, yp2, yp3, yp4, yp5, yp6⟩ := kp.cells7
      go_wp2_with fail
      refine (C1.out _ hT6).mono ?_
      rintro e w7 ⟨q0, q1, q2, q3, q4, q5, q6, rfl, o7, hb7⟩
      obtain ⟨PA, pa, PB, pb, PC, pc, ⟨rfl, rfl, rfl, rfl, rfl, rfl, rfl⟩⟩ := o7.form
      clear yp0 yp1 yp2 yp3 yp4 yp5 yp6
      have hs7 := hb7.size
      have HKR := hide (kr.below hb7 kr.lt)
      have HOQ := hide o7
      have HTQ := hide (below_then hT6 hb7)
      clear kp kn kr oN hT6 HZ3 C1 hb7 o7
      obtain ⟨yr0, yr1, yr2, yr3, yr4, yr5, yr6⟩ := HKR.out.cells7
      obtain ⟨zr0, zr1, zr2, zr3, zr4, zr5, zr6⟩ := HKR.out.frz7
      go_wp2_with fail
      obtain ⟨r1, r2, r3⟩ := ret_scn0 HKR.out HOQ.out HTQ.out (by omega) (by omega) (by omega) (.inl (by omega))
      refine bodyPost_ret (results_cell_tmp rfl _ _ (w.heap.size + 2) _ #[.int .i64 S.lx, .int .i64 S.ly, .int .i64 S.hx, .int .i64 S.hy, .slice PA S.r.length pa, .slice PB S.o.length pb, .slice PC S.t.length pc] (0, 0) _ rfl r1 Try.underlying33 rfl Try.sizeScn) rfl ?_
      exact ⟨_, _, _, _, _, _, _, rfl, r2, r3⟩
end Go.Proofs.Ytocllmaikngoaaa
