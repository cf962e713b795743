/-
  The program's scenes: contracts: ShiftObstacle.
-/
import Derived.Test.YtocllmaikngoaaaSE
import Derived.Test.YtocllmaikngoaaaScnY
namespace Go.Proofs.Ytocllmaikngoaaa
open Go.RowKit
set_option linter.unusedVariables false
set_option maxRecDepth 100000 in
set_option maxHeartbeats 6400000 in
theorem impl_ShiftObstacle (w : World) (B : Nat) (hB : B ≤ w.heap.size) {v0 v1 v2 v3 v4 v5 v6 : Value} {S : Scn} (h : SIn w B v0 v1 v2 v3 v4 v5 v6 S) (k : Int) (fk : (Lit.int .i64 k).wf = true) (x y : Int) (hx : (Lit.int .i64 x).wf = true) (hy : (Lit.int .i64 y).wf = true) :
    Calls Try.prog 21 #[.agg #[v0, v1, v2, v3, v4, v5, v6], .int .i64 k, .agg #[.int .i64 x, .int .i64 y]] w fun e w' => SResB 30 29 w w' e (shS S k (x, y)) (shB S k (x, y)) := by
  have h' := h
  obtain ⟨RA, rc, OA, oc, TA, tc, os, ⟨rfl, rfl, rfl, rfl, rfl, rfl, rfl⟩, hR, ⟨hO, hc⟩, hT, hwf⟩ := h
  clear hR hT hwf
  have hol := hO.1
  have hol2 := hO.2.2.1
  obtain ⟨k1, k2⟩ := bounds_i64 fk
  have HH := hide (fun (W : World) (hb : Below w.heap.size w W) => impl_hasObstacle W (h'.below (hb.mono hB)) k fk)
  have HCo := hide (fun (W : World) (hb : Below w.heap.size w W) => impl_scnCopied W B (Nat.le_trans hB hb.size) (h'.below (hb.mono hB)))
  unfold SRes at HCo
  obtain ⟨W0, hW0⟩ : ∃ W0, W0 = ((w.alloc (.cells #[.int .i64 S.lx, .int .i64 S.ly, .int .i64 S.hx, .int .i64 S.hy, .slice RA S.r.length rc, .slice OA S.o.length oc, .slice TA S.t.length tc] 33)).alloc (.cells #[.int .i64 x, .int .i64 y] 29)).alloc (.cells #[.int .i64 0, .int .i64 0, .int .i64 0, .int .i64 0, .slice none 0 0, .slice none 0 0, .slice none 0 0] 33) := ⟨_, rfl⟩
  have hT0 : Below w.heap.size w W0 := by rw [hW0]; exact below_alloc (below_alloc (below_new _ _) _) _
  have kp : Box W0 w.heap.size 33 #[.int .i64 S.lx, .int .i64 S.ly, .int .i64 S.hx, .int .i64 S.hy, .slice RA S.r.length rc, .slice OA S.o.length oc, .slice TA S.t.length tc] := by rw [hW0]; exact ((Box.last _ _ _ rfl).alloc _).alloc _
  have kv : Box W0 (w.heap.size + 1) 29 #[.int .i64 x, .int .i64 y] := by rw [hW0]; exact (Box.last _ _ _ (alloc_size _ _).symm).alloc _
  have kr : Box W0 (w.heap.size + 2) 33 #[.int .i64 0, .int .i64 0, .int .i64 0, .int .i64 0, .slice none 0 0, .slice none 0 0, .slice none 0 0] := by rw [hW0]; exact Box.last _ _ _ (by rw [alloc_size, alloc_size])
  have hs0 : w.heap.size + 3 ≤ W0.heap.size := by rw [hW0, alloc_size, alloc_size, alloc_size]; omega
  cases hk : hasB S k with
  | false =>
    have HR1 : Hid (shB S k (x, y) = false ∧ shS S k (x, y) = S) := shB_no hk
    rw [HR1.out.1, HR1.out.2]
    rw [hk] at HH
    clear HR1 hO hc h' hol kv hx hy
    go_enter Try.func21, Try.ntmps21
    go_upto_region 1 with fail
    rw [← hW0]
    clear hW0
    obtain ⟨yp0, yp1, yp2, yp3, yp4, yp5, yp6⟩ := kp.cells7
    go_wp2_with fail
    refine (HH.out _ hT0).mono ?_
    rintro e w1 ⟨rfl, hb1⟩
    clear yp0 yp1 yp2 yp3 yp4 yp5 yp6
    have hT1 := below_then hT0 hb1
    have hs1 := hb1.size
    have kp := kp.below hb1 kp.lt
    have kr := kr.below hb1 kr.lt
    clear hb1 hT0
    obtain ⟨yp0, yp1, yp2, yp3, yp4, yp5, yp6⟩ := kp.cells7
    go_wp2_with fail
    refine (HCo.out _ hT1).mono ?_
    rintro e w2 ⟨q0, q1, q2, q3, q4, q5, q6, rfl, oq, hb2⟩
    obtain ⟨QA, qa, QB, qb, QC, qc, ⟨rfl, rfl, rfl, rfl, rfl, rfl, rfl⟩⟩ := oq.form
    clear yp0 yp1 yp2 yp3 yp4 yp5 yp6
    have hT2 := below_then hT1 hb2
    have hs2 := hb2.size
    have HKR := hide (kr.below hb2 kr.lt)
    obtain ⟨yr0, yr1, yr2, yr3, yr4, yr5, yr6⟩ := HKR.out.cells7
    obtain ⟨zr0, zr1, zr2, zr3, zr4, zr5, zr6⟩ := HKR.out.frz7
    have HOQ := hide oq
    have HTQ := hide hT2
    clear kp kr oq hT2 hb2
    go_wp2_with fail
    obtain ⟨r1, r2, r3⟩ := ret_scn HKR.out HOQ.out HTQ.out (by omega) (by omega) (Nat.le_refl _) (.inl (by omega))
    refine bodyPost_ret (results_cell_tmp rfl _ _ (w.heap.size + 2) _ #[.int .i64 S.lx, .int .i64 S.ly, .int .i64 S.hx, .int .i64 S.hy, .slice QA S.r.length qa, .slice QB S.o.length qb, .slice QC S.t.length qc] (0, 0) _ rfl r1 Try.underlying33 rfl Try.sizeScn) rfl ?_
    exact ⟨_, _, _, _, _, _, _, rfl, r2, r3⟩
  | true =>
    have hkr : 0 ≤ k ∧ k < (S.o.length : Int) := by unfold hasB at hk; simpa using hk
    obtain ⟨i, rfl⟩ : ∃ i : Nat, k = (i : Int) := ⟨k.toNat, by omega⟩
    have hin : i < S.o.length := by omega
    have hinl : i < os.length := by omega
    rw [hk] at HH
    obtain ⟨mv, hmv⟩ : ∃ m, m = mvG os[i].vs (x, y) := ⟨_, rfl⟩
    have hshO : shO S (i : Int) (x, y) = S.o.set i mv := by
      rw [shO_at hin, hmv]
      congr 2
      have := cont_at hinl
      simp only [hc] at this
      exact this
    have HR1 : Hid (shB S (i : Int) (x, y) = chgB S (S.o.set i mv) ∧ shS S (i : Int) (x, y) = chgS S (S.o.set i mv)) := by rw [← hshO]; exact shB_is hk
    rw [HR1.out.1, HR1.out.2]
    have HCl := hide (fun (W : World) (hb : Below w.heap.size w W) => impl_CloneS W B (Nat.le_trans hB hb.size) OA S.o.length oc os (hO.below (hb.mono hB)))
    have RSi := hO.2.2.2 os[i] (List.getElem_mem hinl)
    have hmvw : wfV mv := by rw [hmv]; exact mvG_wf _ _
    have hmvl : mv.length ≤ 1048576 := by rw [hmv]; have h1 := mvG_len os[i].vs (x, y); have h2 := RSi.2.2.1; omega
    have HMv := hide (fun (W : World) (hb : Below w.heap.size w W) => impl_MovePolygonG W B (Nat.le_trans hB hb.size) os[i].a os[i].vs.length os[i].c os[i].vs (RSi.below (hb.mono hB)) x y hx hy)
    rw [← hmv] at HMv
    have hset : ∀ (D : Option Addr) (d : Nat), cont (os.set i ⟨D, d, mv⟩) = S.o.set i mv := fun D d => by rw [cont_set, hc]
    have HW := hide (fun (W : World) (hb : Below w.heap.size w W) (NA : Option Addr) (nc : Nat) (D : Option Addr) (d : Nat) (r : Rd W W.heap.size NA (slv (os.set i ⟨D, d, mv⟩))) (rm : Rd W W.heap.size D (fl mv)) => impl_scnWith W W.heap.size (Nat.le_refl _) ((h'.below (hb.mono hB)).wider (Nat.le_trans hB hb.size)) NA S.o.length nc (os.set i ⟨D, d, mv⟩) ⟨by rw [List.length_set]; exact hol, r, by omega, fun s hs => by
      rcases List.mem_or_eq_of_mem_set hs with hs | rfl
      · exact ((hO.2.2.2 s hs).below (hb.mono hB)).wider (Nat.le_trans hB hb.size)
      · exact ⟨rfl, rm, hmvl, hmvw⟩⟩)
    simp only [hset] at HW
    unfold SResB at HW
    obtain ⟨Z, hZ⟩ : ∃ Z, Z = chgS S (S.o.set i mv) := ⟨_, rfl⟩
    obtain ⟨b, hbb⟩ : ∃ b, b = chgB S (S.o.set i mv) := ⟨_, rfl⟩
    rw [← hZ, ← hbb] at HW ⊢
    have hsvi : (slv os)[i]? = some (.slice os[i].a os[i].vs.length os[i].c) := by rw [List.getElem?_eq_getElem (by rw [slv_len]; exact hinl), slv_at hinl]; rfl
    obtain ⟨ea, hea⟩ : ∃ z, z = os[i].a := ⟨_, rfl⟩
    obtain ⟨el, hel⟩ : ∃ z, z = os[i].vs.length := ⟨_, rfl⟩
    obtain ⟨ec, hec⟩ : ∃ z, z = os[i].c := ⟨_, rfl⟩
    rw [← hea, ← hel, ← hec] at HMv hsvi
    have HSV := hide hsvi
    have HSH := hide (fun (W : World) (lo hi : Nat) (v : Value) (o : OwnR W lo hi 30 v S.o.length os) => (show ∃ g c, v = .slice (some ⟨g, 0, none⟩) S.o.length c ∧ lo ≤ g ∧ g < hi from by
      rcases own_form o.1 with ⟨_, h0, _⟩ | ⟨g, c, hv, h1, _⟩
      · omega
      · exact ⟨g, c, hv, h1, o.2 g (by rw [hv]; rfl)⟩))
    clear h' hO hc hZ hbb HR1 hk hkr HCo hmv hshO RSi hset hx hy hea hel hec hsvi hmvw
    have HB := hide kp
    have HV := hide kv
    have HR := hide kr
    have HT0 := hide hT0
    go_enter Try.func21, Try.ntmps21
    go_upto_region 1 with fail
    rw [← hW0]
    clear hW0
    obtain ⟨yp0, yp1, yp2, yp3, yp4, yp5, yp6⟩ := kp.cells7
    clear kp kv kr
    go_wp2_with fail
    refine (HH.out _ hT0).mono ?_
    rintro e w1 ⟨rfl, hb1⟩
    clear yp0 yp1 yp2 yp3 yp4 yp5 yp6 HH hT0
    have HS1 := hide hb1
    have hs1 := hb1.size
    clear hb1
    obtain ⟨yp0, yp1, yp2, yp3, yp4, yp5, yp6⟩ := (HB.out.below HS1.out HB.out.lt).cells7
    go_wp2_with fail
    refine (HCl.out _ (below_then HT0.out HS1.out)).mono ?_
    rintro e w2 ⟨v2, rfl, oR, hb2⟩
    obtain ⟨g, c, rfl, hg1, hg2⟩ := HSH.out _ _ _ _ oR
    have hz2 := hb2.size
    have HS2 := hide (below_then HS1.out hb2)
    clear yp0 yp1 yp2 yp3 yp4 yp5 yp6 HCl HSH hb2 HS1
    have HOR := hide oR
    obtain ⟨vv0, vv1⟩ := (HV.out.below HS2.out HV.out.lt).cells2
    have yi : w2.cell? ⟨g, i, none⟩ = some (.slice ea el ec) := by
      rw [oR.1.cellAt i (by rw [Nat.mul_one]; exact hin)]; exact HSV.out
    have yf : w2.frozen? ⟨g, i, none⟩ = false := oR.1.frozenAt i
    have hcap := oR.cap
    have hnc := hcap.1
    have hcm := hcap.2
    unfold maxLen at hcm
    clear oR hcap
    have HKS := hide (fun (W : World) (hq : Below w2.heap.size w2 W) => (⟨by rw [hq.cell (show g < w2.heap.size by omega)]; exact yi, by rw [hq.cell (show w.heap.size + 1 < w2.heap.size by omega)]; exact vv0, by rw [hq.cell (show w.heap.size + 1 < w2.heap.size by omega)]; exact vv1⟩ : W.cell? ⟨g, i, none⟩ = some (.slice ea el ec) ∧ W.cell? ⟨w.heap.size + 1, 0, none⟩ = some (.int .i64 x) ∧ W.cell? ⟨w.heap.size + 1, 1, none⟩ = some (.int .i64 y)))
    have HS3 : Hid (Below w2.heap.size w2 w2.drew) := (Below.refl _ _).drew
    have hii : (0 : Int) ≤ (i : Int) := Int.natCast_nonneg _
    have hii2 : (i : Int) < (S.o.length : Int) := by omega
    go_upto_region 4 with fail
    go_region_with (go_at_call 49; refine (HMv.out _ (below_then HT0.out (HS2.out.trans (HS3.out.mono (by omega))))).mono ?_; rintro e u4 ⟨vm, rfl, om, hb4⟩; obtain ⟨D, d, rfl⟩ := om.form; have HS4 := hide (below_then HS3.out hb4); have oR4 := HOR.out.below HS4.out (by omega); have yi4 := (HKS.out _ HS4.out).1; have yf4 : u4.frozen? ⟨g, i, none⟩ = false := oR4.1.frozenAt i)
    all_goals
      have hz4 : w2.heap.size ≤ u4.heap.size := HS4.out.size
      obtain ⟨h1, -⟩ := oR4.1.stored i (.slice D mv.length d)
      obtain ⟨W5, hW5⟩ : ∃ W5, W5 = u4.setCell ⟨g, i, none⟩ (.slice D mv.length d) := ⟨_, rfl⟩
      have ha5 : Aside w1.heap.size w2.heap.size u4 W5 := by rw [hW5]; exact (Aside.refl _).setCell (a := ⟨g, i, none⟩) hg1 hg2 _
      have hT4 : Below w.heap.size w u4 := below_then HT0.out (HS2.out.trans (HS4.out.mono (by omega)))
      have hT5 : Below w.heap.size w W5 := hT4.trans (ha5.below (by omega) (by omega))
      rw [← hW5] at h1
      have e5 : slv (os.set i ⟨D, d, mv⟩) = (slv os).set i (.slice D mv.length d) := slv_set os i ⟨D, d, mv⟩
      have RD : Rd W5 W5.heap.size (some ⟨g, 0, none⟩) (slv (os.set i ⟨D, d, mv⟩)) := by rw [e5]; exact own_rd h1
      have om5 : OwnV W5 w2.heap.size u4.heap.size 29 (.slice D mv.length d) mv.length mv := (show OwnV u4 w2.heap.size u4.heap.size 29 (.slice D mv.length d) mv.length mv from om).aside ha5 (.inr (Nat.le_refl _))
      have HC5 := hide (HW.out W5 hT5 _ c D d RD om5.rd)
      have hz5 : u4.heap.size ≤ W5.heap.size := ha5.size
      have kp5 := ((HB.out.below HS2.out HB.out.lt).below HS4.out (by have := HB.out.lt; have := HS2.out.size; omega)).aside ha5 (by have := HB.out.lt; omega)
      have kr5 := ((HR.out.below HS2.out HR.out.lt).below HS4.out (by have := HR.out.lt; have := HS2.out.size; omega)).aside ha5 (by have := HR.out.lt; omega)
      rw [← hW5]
      clear hW5 h1 ha5 e5 RD om5 om hT4 oR4 yi yf yi4 yf4 vv0 vv1 HKS HS3 HMv HW HOR hb4
      obtain ⟨yp0, yp1, yp2, yp3, yp4, yp5, yp6⟩ := kp5.cells7
      clear kp5
      go_wp2_with fail
      refine HC5.out.mono ?_
      rintro e u6 ⟨q0, q1, q2, q3, q4, q5, q6, rfl, oq, hb6⟩
      obtain ⟨QA, qa, QB, qb, QC, qc, ⟨rfl, rfl, rfl, rfl, rfl, rfl, rfl⟩⟩ := oq.form
      have hz6 := hb6.size
      have HT := hide (below_then hT5 hb6)
      have kr6 := kr5.below hb6 kr5.lt
      obtain ⟨t0, t1, t2, t3, t4, t5, t6⟩ := kr6.cells7
      obtain ⟨f0, f1, f2, f3, f4, f5, f6⟩ := kr6.frz7
      obtain ⟨r1, r2, r3⟩ := ret_scn kr6 oq HT.out (by omega) (by have := hT5.size; omega) (Nat.le_refl _) (.inl (by have := kr5.lt; omega))
      clear kr5 hb6 hT5 HC5 yp0 yp1 yp2 yp3 yp4 yp5 yp6
      go_wp2_with fail
      refine bodyPost_ret (results_cell_tmp rfl _ _ (w.heap.size + 2) _ #[.int .i64 Z.lx, .int .i64 Z.ly, .int .i64 Z.hx, .int .i64 Z.hy, .slice QA Z.r.length qa, .slice QB Z.o.length qb, .slice QC Z.t.length qc] (0, 0) _ rfl r1 Try.underlying33 rfl Try.sizeScn) rfl ?_
      exact ⟨_, _, _, _, _, _, _, rfl, r2, r3⟩
end Go.Proofs.Ytocllmaikngoaaa
