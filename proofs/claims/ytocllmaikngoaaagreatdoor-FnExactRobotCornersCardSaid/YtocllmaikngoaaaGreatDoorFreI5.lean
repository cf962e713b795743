/-
  The program's free placements: contracts: RobotCorners.
-/
import Derived.Test.YtocllmaikngoaaaGreatDoorFreI
import Derived.Test.YtocllmaikngoaaaGreatDoorFC
import Derived.Test.YtocllmaikngoaaaGreatDoorPtI4
import Derived.Test.YtocllmaikngoaaaGreatDoorPN
namespace Go.Proofs.YtocllmaikngoaaaGreatDoor
open Go.RowKit
set_option linter.unusedVariables false
set_option maxRecDepth 100000 in
set_option maxHeartbeats 12800000 in
theorem impl_RobotCorners (w : World) (B : Nat) (hB : B ≤ w.heap.size) {v0 v1 v2 v3 v4 v5 v6 : Value} {S : Scn} (h : SIn w B v0 v1 v2 v3 v4 v5 v6 S) (k : Int) (fk : (Lit.int .i64 k).wf = true) {p0 p1 p2 p3 p4 p5 : Value} {P : PQ} (hP : PIn w B p0 p1 p2 p3 p4 p5 P) (hQ : QTab w) :
    Calls Tryz.prog 11 #[.agg #[v0, v1, v2, v3, v4, v5, v6], .int .i64 k, .agg #[p0, p1, p2, p3, p4, p5]] w fun e w' => ∃ v ps, e = .returned v ∧ OwnPS w' w.heap.size w'.heap.size 49 3 v (corL S k P).length ps ∧ pts ps = corL S k P ∧ Below w.heap.size w w' := by
  have h' := h
  obtain ⟨RA, rc, OA, oc, TA, tc, os, ⟨rfl, rfl, rfl, rfl, rfl, rfl, rfl⟩, hR, hO, hT, hwf⟩ := h
  clear hR hO hT hwf
  have HR := hide (fun (W : World) (hb : Below w.heap.size w W) => impl_RobotAt W B (Nat.le_trans hB hb.size) (h'.below (hb.mono hB)) k fk (hQ.below hb (Nat.le_refl _)))
  have HMV := hide (fun (W : World) (hb : Below w.heap.size w W) (x y : Int) (hx : (Lit.int .i64 x).wf = true) (hy : (Lit.int .i64 y).wf = true) => impl_MovePoint W B (Nat.le_trans hB hb.size) (hP.below (hb.mono hB)) x y hx hy)
  obtain ⟨pb, pA, pn, pc, pD, pm, pk, qb, qA, qn, qc, qD, qm, qk, rfl, rfl, rfl, rfl, rfl, rfl⟩ := hP.cut
  clear hP
  obtain ⟨W0, hW0⟩ : ∃ W0, W0 = (w.alloc (.cells #[.int .i64 S.lx, .int .i64 S.ly, .int .i64 S.hx, .int .i64 S.hy, .slice RA S.r.length rc, .slice OA S.o.length oc, .slice TA S.t.length tc] 43)).alloc (.cells #[.bool pb, .slice pA pn pc, .slice pD pm pk, .bool qb, .slice qA qn qc, .slice qD qm qk] 49) := ⟨_, rfl⟩
  have hT0 : Below w.heap.size w W0 := by rw [hW0]; exact below_alloc (below_new _ _) _
  have k0 : Box W0 w.heap.size 43 #[.int .i64 S.lx, .int .i64 S.ly, .int .i64 S.hx, .int .i64 S.hy, .slice RA S.r.length rc, .slice OA S.o.length oc, .slice TA S.t.length tc] := by rw [hW0]; exact (Box.last _ _ _ rfl).alloc _
  have kp : Box W0 (w.heap.size + 1) 49 #[.bool pb, .slice pA pn pc, .slice pD pm pk, .bool qb, .slice qA qn qc, .slice qD qm qk] := by rw [hW0]; exact Box.last _ _ _ (alloc_size _ _).symm
  have hs0 : w.heap.size + 2 ≤ W0.heap.size := by rw [hW0, alloc_size, alloc_size]; omega
  have HNO : Hid ((((robL S k).map fun v => moveP P v.1 v.2).all validP) = false → corL S k P = []) := fun h => by unfold corL; rw [if_neg (by rw [h]; simp)]
  have HIS : Hid ((((robL S k).map fun v => moveP P v.1 v.2).all validP) = true → corL S k P = (robL S k).map fun v => moveP P v.1 v.2) := fun h => by unfold corL; rw [if_pos h]
  have hrl := robL_len S k
  have HRW := hide (robL_wf S k)
  generalize robL S k = rl at *
  generalize corL S k P = cl at *
  clear h' fk hQ
  go_enter Tryz.func11, Tryz.ntmps11
  go_upto_region 1 with fail
  rw [← hW0]
  clear hW0
  have hown0 : W0.ownsRow W0.heap.size 49 6 (.slice none 0 0) 0 [] := World.ownsRow_nil _ _ _ _
  obtain ⟨y0, y1, y2, y3, y4, y5, y6⟩ := k0.cells7
  go_wp2_with fail
  refine (HR.out _ hT0).mono ?_
  rintro e w1 ⟨v, rfl, o, hb1, -⟩
  obtain ⟨RV, rv, rfl⟩ := o.form
  clear y0 y1 y2 y3 y4 y5 y6 HR
  have kp := kp.below hb1 kp.lt
  have hT1 := below_then hT0 hb1
  have hs1 := hT1.size
  have hs1w := hb1.size
  have hW0w : W0.heap.size ≤ w1.heap.size := by omega
  have hown1 := own_grown hown0 hb1
  have orob := o.wider (lo' := w.heap.size) (hi' := w1.heap.size) hT0.size (Nat.le_refl _)
  clear o hb1 hT0 hown0 k0
  obtain ⟨rn, hrn⟩ : ∃ rn, rn = rl.length := ⟨_, rfl⟩
  rw [← hrn] at orob hrl ⊢
  have HRN := hide hrn
  clear hrn
  go_wp2_with fail
  go_loopw [7, 15] (fun v i wr => ∃ (j : Nat) (ps : List Pr), j ≤ rn ∧ i = .int .i64 j ∧ ps.length = j ∧ pts ps = (rl.take j).map (fun v => moveP P v.1 v.2) ∧ Hid (∀ Q ∈ pts ps, validP Q = true) ∧ wr.ownsRow W0.heap.size 49 6 v j (prc ps) ∧ Ivs wr W0.heap.size wr.heap.size 3 (sls ps) ∧ OwnV wr w.heap.size w1.heap.size 39 (.slice RV rn rv) rn rl ∧ Box wr (w.heap.size + 1) 49 #[.bool pb, .slice pA pn pc, .slice pD pm pk, .bool qb, .slice qA qn qc, .slice qD qm qk] ∧ Below w.heap.size w wr ∧ w1.heap.size ≤ wr.heap.size) (fun _ i _ => rn - (intOf i).toNat)
  case atStart => exact ⟨0, [], Nat.zero_le _, rfl, rfl, by simp [pts], fun Q hq => by simp [pts] at hq, hown1, Ivs.nil _ _ _ _, orob, kp, hT1, Nat.le_refl _⟩
  case round =>
    clear hown1 orob hT1 kp
    obtain ⟨j, ps, hj, rfl, hpl, hpp, hval, hown, hI, orob, kp, hbel, hws⟩ := hrel
    obtain ⟨VA, vc, rfl⟩ := own_shape hown
    by_cases hlt : j < rn
    · have hjl : j < rl.length := by have := HRN.out; omega
      obtain ⟨ad, hA, hbk, hc1, hc2⟩ := orob.rd.vec (k := j) hjl
      have hbs := hbel.size
      obtain ⟨f1, f2⟩ := wfV_at HRW.out (k := j) hjl
      have HC : Hid ((rl.take (j + 1)).map (fun v => moveP P v.1 v.2) = (rl.take j).map (fun v => moveP P v.1 v.2) ++ [moveP P rl[j].1 rl[j].2]) := by show _ = _; rw [List.take_succ_eq_append_getElem hjl, List.map_append]; rfl
      have HBAD : Hid (validP (moveP P rl[j].1 rl[j].2) = false → (rl.map fun v => moveP P v.1 v.2).all validP = false) := fun h => by
        rw [List.all_eq_false]
        exact ⟨_, List.mem_map.2 ⟨rl[j], List.getElem_mem hjl, rfl⟩, by rw [h]; simp⟩
      generalize rl[j].1 = x at *
      generalize rl[j].2 = y at *
      have HMC := hide (fun (W : World) (hb : Below w.heap.size w W) => HMV.out W hb x y f1 f2)
      have hMF := moveP_fit P x y
      generalize moveP P x y = M at *
      obtain ⟨W1, hW1⟩ : ∃ W1, W1 = wr.alloc (.cells #[.int .i64 x, .int .i64 y] 39) := ⟨_, rfl⟩
      have kc : Box W1 wr.heap.size 39 #[.int .i64 x, .int .i64 y] := by rw [hW1]; exact Box.last _ _ _ rfl
      have hb1 : Below wr.heap.size wr W1 := by rw [hW1]; exact below_new _ _
      have hT1 := hbel.trans (hb1.mono hbs)
      have kp1 := kp.below hb1 kp.lt
      subst hA
      go_upto_region 5 with fail
      rw [← hW1]
      clear hW1 hc1 hc2
      obtain ⟨c0, c1⟩ := kc.cells2
      obtain ⟨y0, y1, y2, y3, y4, y5⟩ := kp1.cells6
      go_wp2_with fail
      refine (HMC.out _ hT1).mono ?_
      rintro e w2 ⟨q0, q1, q2, q3, q4, q5, rfl, oM, hb2⟩
      clear c0 c1 y0 y1 y2 y3 y4 y5 HMC
      obtain ⟨a1, e1, a2, e2, a4, e4, a5, e5, ⟨rfl, rfl, rfl⟩, rfl, rfl, rfl⟩ := oM.form
      have kp2 := kp1.below hb2 kp1.lt
      have hT2 := below_then hT1 hb2
      have hs2 := hb2.size
      obtain ⟨W3, hW3⟩ : ∃ W3, W3 = w2.alloc (.cells #[.bool M.1.1.1, .slice a1 M.1.1.2.length e1, .slice a2 M.1.2.length e2, .bool M.2.1.1, .slice a4 M.2.1.2.length e4, .slice a5 M.2.2.length e5] 49) := ⟨_, rfl⟩
      have kM : Box W3 w2.heap.size 49 #[.bool M.1.1.1, .slice a1 M.1.1.2.length e1, .slice a2 M.1.2.length e2, .bool M.2.1.1, .slice a4 M.2.1.2.length e4, .slice a5 M.2.2.length e5] := by rw [hW3]; exact Box.last _ _ _ rfl
      have hb3 : Below w2.heap.size w2 W3 := by rw [hW3]; exact below_new _ _
      have hT3 := below_then hT2 hb3
      have kp3 := kp2.below hb3 kp2.lt
      have oM3 := oM.below hb3 (Nat.le_refl _)
      have hs3 := hb3.size
      have hB13 : Below wr.heap.size wr W3 := below_then (below_then hb1 hb2) hb3
      go_upto_region 6 with fail
      rw [← hW3]
      clear hW3
      have hs1w := hb1.size
      have HV := hide (impl_IsValidPoint W3 W3.heap.size (Nat.le_refl _) (oM3.in_ hMF (by omega)))
      have HVV : Hid (validP M = (ratQ M.1 && ratQ M.2)) := rfl
      rw [← HVV.out] at HV
      obtain ⟨m0, m1, m2, m3, m4, m5⟩ := kM.cells6
      go_wp2_with fail
      refine HV.out.mono ?_
      rintro e w4 ⟨rfl, hb4⟩
      clear m0 m1 m2 m3 m4 m5 HV HVV
      have kM4 := kM.below hb4 kM.lt
      have kp4 := kp3.below hb4 kp3.lt
      have hT4 := below_then hT3 hb4
      have oM4 := oM3.below hb4 (by omega)
      have hs4 := hb4.size
      have hB14 : Below wr.heap.size wr w4 := below_then hB13 hb4
      have hown4 := own_grown hown hB14
      have hI4 := hI.below hB14 (Nat.le_refl _)
      have orob4 := orob.below hB14 (by omega)
      clear hB13 hB14 hT1 hT2 hT3 oM oM3 kp kp1 kp2 kp3 kM kc hb1 hb2 hb3 hb4 hown hI orob hbel
      cases hv : validP M with
      | false =>
        have HN := hide (HNO.out (HBAD.out hv))
        clear HNO HIS HBAD hown4 hI4 orob4 oM4 kM4 kp4
        go_wp2_with fail
        go_ret
        exact ⟨_, [], rfl, by rw [HN.out]; exact OwnPS.nil _ _ _ _ _, by rw [HN.out]; rfl, hT4⟩
      | true =>
        have HSN : Hid (∀ (w5 : World) (v5 : Value), w5.ownsRow W0.heap.size 49 6 v5 (j + 1) (prc ps ++ (#[Value.bool M.1.1.1, .slice a1 M.1.1.2.length e1, .slice a2 M.1.2.length e2, .bool M.2.1.1, .slice a4 M.2.1.2.length e4, .slice a5 M.2.2.length e5] : Array Value).toList) → Below W0.heap.size w4 w5 → w4.grownBy w5 (Value.slice VA j vc).ownBlock →
            (w5.ownsRow W0.heap.size 49 6 v5 (j + 1) (prc (ps ++ [⟨a1, e1, a2, e2, a4, e4, a5, e5, M⟩])) ∧ Ivs w5 W0.heap.size w5.heap.size 3 (sls (ps ++ [⟨a1, e1, a2, e2, a4, e4, a5, e5, M⟩]))) ∧ OwnV w5 w.heap.size w1.heap.size 39 (.slice (some ad) rn rv) rn rl ∧ Box w5 (w.heap.size + 1) 49 #[.bool pb, .slice pA pn pc, .slice pD pm pk, .bool qb, .slice qA qn qc, .slice qD qm qk] ∧ Below w.heap.size w w5 ∧ w1.heap.size ≤ w5.heap.size) := by
          intro w5 v5 r5 hb5 hg5
          have z5 := hb5.size
          have sI := POwn.ivs (s := ⟨a1, e1, a2, e2, a4, e4, a5, e5, M⟩) oM4
          refine ⟨OwnPS.snoc (l := wr.heap.size) (u := w2.heap.size) hI4 (sI.wider (by omega) (Nat.le_refl _)) hown4 r5 hg5 Tryz.types_pt (by omega) (by omega) (by omega), ?_, ?_, hT4.trans (hb5.mono (by omega)), by omega⟩
          · exact orob4.kept fun g hg => hg5.block g (orob4.1.lt g hg).2 fun e => own_types hown4 orob4.1 Tryz.types_pv e.symm hg rfl
          · show w5.heap[w.heap.size + 1]? = _
            rw [hg5.block (w.heap.size + 1) kp4.lt (fun e => by have h9 := (hown4.lt _ e.symm).1; omega)]
            exact kp4
        obtain ⟨m0, m1, m2, m3, m4, m5⟩ := kM4.cells6
        have hz4 : W0.heap.size ≤ w4.heap.size := by omega
        clear hI4 orob4 oM4 kM4 kp4 HBAD hT4
        go_wp2_with (at_builtin; refine wpList_append1K Tryz.slicePoint rfl _ _ rfl w4 W0.heap.size _ _ _ hown4 rfl #[.bool M.1.1.1, .slice a1 M.1.1.2.length e1, .slice a2 M.1.2.length e2, .bool M.2.1.1, .slice a4 M.2.1.2.length e4, .slice a5 M.2.2.length e5] 1 rfl rfl (by simp [Value.oneCell']) (by omega) (by omega) hz4 ?_; intro v5 w5 hown5 hb5 hg5; have HEE := hide (HSN.out w5 v5 hown5 hb5 hg5))
        have HVL : Hid (∀ Q ∈ pts (ps ++ [⟨a1, e1, a2, e2, a4, e4, a5, e5, M⟩]), validP Q = true) := fun Q hQ => by
          rw [pts_append] at hQ
          rcases List.mem_append.1 hQ with hQ | hQ
          · exact hval.out Q hQ
          · have e9 : Q = M := by simpa [pts] using hQ
            rw [e9]; exact hv
        go_roundw
        case rel =>
          exact ⟨j + 1, ps ++ [⟨a1, e1, a2, e2, a4, e4, a5, e5, M⟩], by omega, by go_num, by simp [hpl], by rw [HC.out, ← hpp, pts_append]; rfl, HVL, HEE.out.1.1, HEE.out.1.2, HEE.out.2.1, HEE.out.2.2.1, HEE.out.2.2.2.1, HEE.out.2.2.2.2⟩
        case measure => simp [intOf]; omega
    · obtain rfl : j = rn := by omega
      have e1 : rl.take j = rl := List.take_of_length_le (by have := HRN.out; omega)
      rw [e1] at hpp
      have hall : (rl.map fun v => moveP P v.1 v.2).all validP = true := by rw [← hpp]; exact List.all_eq_true.2 hval.out
      have HN := hide (HIS.out hall)
      have hcl : Hid (cl.length = j) := by show _ = _; rw [HN.out, List.length_map]; exact HRN.out.symm
      have HO : Hid (OwnPS wr w.heap.size wr.heap.size 49 3 (.slice VA j vc) j ps) := OwnPS.wider ⟨hown, fun g hg => (hown.lt g hg).2, hI⟩ (by omega) (Nat.le_refl _)
      clear hown hI orob kp hall HNO HIS e1 hval
      go_wp2_with fail
      go_ret
      exact ⟨_, ps, rfl, by rw [hcl.out]; exact HO.out, by rw [HN.out, hpp], hbel⟩
end Go.Proofs.YtocllmaikngoaaaGreatDoor
