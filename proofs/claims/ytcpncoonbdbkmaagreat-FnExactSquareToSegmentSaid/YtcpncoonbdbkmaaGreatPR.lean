/-
  The texts PtR2, put together; each has its own heading below. No condition of ours.
-/
import Derived.Test.YtcpncoonbdbkmaaGreatPJ
import Derived.Deep.RegionHeld3
import Derived.Deep.CutRange
import Derived.Sort.AtCall
import Derived.Test.YtcpncoonbdbkmaaGreatPV
/-
  The reference's points: contracts (2): Side, SquareDistance, MovePoint.
-/





namespace Go.Proofs.YtcpncoonbdbkmaaGreat
open Go.RowKit
set_option linter.unusedVariables false
set_option maxRecDepth 100000 in
set_option maxHeartbeats 3200000 in
theorem spec_SquareDistance (w : World) (B : Nat) (hB : B ≤ w.heap.size) {p0 p1 p2 p3 p4 p5 : Value} {pZ : PQ} (hp : PIn w B p0 p1 p2 p3 p4 p5 pZ) {q0 q1 q2 q3 q4 q5 : Value} {qZ : PQ} (hq : PIn w B q0 q1 q2 q3 q4 q5 qZ) :
    Calls Tryz.prog 62 #[.agg #[p0, p1, p2, p3, p4, p5], .agg #[q0, q1, q2, q3, q4, q5]] w fun e w' => QRes 3 w w' e (distP pZ qZ) := by
  obtain ⟨W0, hW0⟩ : ∃ W0, W0 = (((w.alloc (.cells #[p0, p1, p2, p3, p4, p5] 29)).alloc (.cells #[q0, q1, q2, q3, q4, q5] 29)).alloc (.cells #[.bool false, .slice none 0 0, .slice none 0 0] 27)) := ⟨_, rfl⟩
  have hT0 : Below w.heap.size w W0 := by rw [hW0]; exact below_alloc (below_alloc (below_new _ _) _) _
  have kp : Box W0 (w.heap.size) 29 #[p0, p1, p2, p3, p4, p5] := by rw [hW0]; exact ((Box.last _ _ _ rfl).alloc _).alloc _
  have kq : Box W0 (w.heap.size + 1) 29 #[q0, q1, q2, q3, q4, q5] := by rw [hW0]; exact (Box.last _ _ _ (alloc_size _ _).symm).alloc _
  have kr : Box W0 (w.heap.size + 2) 27 #[.bool false, .slice none 0 0, .slice none 0 0] := by rw [hW0]; exact Box.last _ _ _ (by rw [alloc_size, alloc_size])
  have hs0 : W0.heap.size = w.heap.size + 3 := by rw [hW0, alloc_size, alloc_size, alloc_size]
  have hp := hp.below (hT0.mono hB)
  have hq := hq.below (hT0.mono hB)
  go_enter Tryz.func62, Tryz.ntmps62
  go_upto_region 1 with fail
  rw [← hW0]
  clear hW0
  obtain ⟨yp0, yp1, yp2, yp3, yp4, yp5⟩ := kp.cells6
  obtain ⟨yq0, yq1, yq2, yq3, yq4, yq5⟩ := kq.cells6
  go_wp2_with fail
  refine (spec_subQ W0 B (by omega) hq.1 hp.1).mono ?_
  rintro e w1 ⟨fx0, fx1, fx2, rfl, ofx, hb1⟩
  clear yp0 yp1 yp2 yp3 yp4 yp5 yq0 yq1 yq2 yq3 yq4 yq5
  obtain ⟨fxb, fxA, fxn, fxc, fxD, fxm, fxk, rfl, rfl, rfl⟩ := ofx.cut
  have hs1 := hb1.size
  have hT1 := below_then hT0 hb1
  have kp := kp.below hb1 kp.lt
  have kq := kq.below hb1 kq.lt
  have kr := kr.below hb1 kr.lt
  have hp := hp.below (hb1.mono (by omega))
  have hq := hq.below (hb1.mono (by omega))
  clear hT0
  clear hb1
  obtain ⟨w2, hw2⟩ : ∃ xw, xw = (w1.alloc (.cells #[.bool fxb, .slice fxA fxn fxc, .slice fxD fxm fxk] 27)) := ⟨_, rfl⟩
  have hb2 : Below w1.heap.size w1 w2 := by rw [hw2]; exact below_new _ _
  have hq2 : w2.heap.size = w1.heap.size + 1 := by rw [hw2, alloc_size]
  have kfx : Box w2 (w1.heap.size) 27 #[.bool fxb, .slice fxA fxn fxc, .slice fxD fxm fxk] := by rw [hw2]; exact Box.last _ _ _ (by omega)
  have hs2 := hb2.size
  have hT2 := below_then hT1 hb2
  have kp := kp.below hb2 kp.lt
  have kq := kq.below hb2 kq.lt
  have kr := kr.below hb2 kr.lt
  have hp := hp.below (hb2.mono (by omega))
  have hq := hq.below (hb2.mono (by omega))
  have ofx := ofx.below hb2 (by omega)
  clear hT1
  go_upto_region 2 with fail
  rw [← hw2]
  clear hw2 hb2
  obtain ⟨yp0, yp1, yp2, yp3, yp4, yp5⟩ := kp.cells6
  obtain ⟨yq0, yq1, yq2, yq3, yq4, yq5⟩ := kq.cells6
  go_wp2_with fail
  refine (spec_subQ w2 B (by omega) hq.2 hp.2).mono ?_
  rintro e w3 ⟨fy0, fy1, fy2, rfl, ofy, hb3⟩
  clear yp0 yp1 yp2 yp3 yp4 yp5 yq0 yq1 yq2 yq3 yq4 yq5
  obtain ⟨fyb, fyA, fyn, fyc, fyD, fym, fyk, rfl, rfl, rfl⟩ := ofy.cut
  have hs3 := hb3.size
  have hT3 := below_then hT2 hb3
  have kp := kp.below hb3 kp.lt
  have kq := kq.below hb3 kq.lt
  have kr := kr.below hb3 kr.lt
  have kfx := kfx.below hb3 kfx.lt
  have hp := hp.below (hb3.mono (by omega))
  have hq := hq.below (hb3.mono (by omega))
  have ofx := ofx.below hb3 (by omega)
  clear hT2
  clear hb3
  obtain ⟨w4, hw4⟩ : ∃ xw, xw = (w3.alloc (.cells #[.bool fyb, .slice fyA fyn fyc, .slice fyD fym fyk] 27)) := ⟨_, rfl⟩
  have hb4 : Below w3.heap.size w3 w4 := by rw [hw4]; exact below_new _ _
  have hq4 : w4.heap.size = w3.heap.size + 1 := by rw [hw4, alloc_size]
  have kfy : Box w4 (w3.heap.size) 27 #[.bool fyb, .slice fyA fyn fyc, .slice fyD fym fyk] := by rw [hw4]; exact Box.last _ _ _ (by omega)
  have hs4 := hb4.size
  have hT4 := below_then hT3 hb4
  have kp := kp.below hb4 kp.lt
  have kq := kq.below hb4 kq.lt
  have kr := kr.below hb4 kr.lt
  have kfx := kfx.below hb4 kfx.lt
  have hp := hp.below (hb4.mono (by omega))
  have hq := hq.below (hb4.mono (by omega))
  have ofx := ofx.below hb4 (by omega)
  have ofy := ofy.below hb4 (by omega)
  clear hT3
  go_upto_region 3 with fail
  rw [← hw4]
  clear hw4 hb4
  have hfx : QIn w4 w4.heap.size (.bool fxb) (.slice fxA fxn fxc) (.slice fxD fxm fxk) _ := ofx.in_ (subQ_fit _ _) (by omega)
  have hfy : QIn w4 w4.heap.size (.bool fyb) (.slice fyA fyn fyc) (.slice fyD fym fyk) _ := ofy.in_ (subQ_fit _ _) (by omega)
  have HC1 := hide (fun (W : World) (h : Below w4.heap.size w4 W) => spec_mulQ W w4.heap.size h.size (hfx.below h) (hfx.below h))
  have HC2 := hide (fun (W : World) (h : Below w4.heap.size w4 W) => spec_mulQ W w4.heap.size h.size (hfy.below h) (hfy.below h))
  clear hp hq kp kq hfx ofx hfy ofy
  have HBfx := hide kfx
  have HBfy := hide kfy
  have HS0 : Hid (Below w4.heap.size w4 w4.drew) := (Below.refl _ _).drew
  have HKS := hide (fun (W : World) (hq : Below w4.heap.size w4 W) => (⟨(HBfx.out.below hq HBfx.out.lt).cell 0, (HBfx.out.below hq HBfx.out.lt).cell 1, (HBfx.out.below hq HBfx.out.lt).cell 2, (HBfy.out.below hq HBfy.out.lt).cell 0, (HBfy.out.below hq HBfy.out.lt).cell 1, (HBfy.out.below hq HBfy.out.lt).cell 2⟩ : W.cell? ⟨w1.heap.size, 0, none⟩ = some (.bool fxb) ∧ W.cell? ⟨w1.heap.size, 1, none⟩ = some (.slice fxA fxn fxc) ∧ W.cell? ⟨w1.heap.size, 2, none⟩ = some (.slice fxD fxm fxk) ∧ W.cell? ⟨w3.heap.size, 0, none⟩ = some (.bool fyb) ∧ W.cell? ⟨w3.heap.size, 1, none⟩ = some (.slice fyA fyn fyc) ∧ W.cell? ⟨w3.heap.size, 2, none⟩ = some (.slice fyD fym fyk)))
  have HRr := hide kr
  have HKT0 := hide (fun (W : World) (hq : Below w4.heap.size w4 W) (x0 x1 x2 : Value) => (⟨((((HBfx.out.below hq HBfx.out.lt).setv (show w1.heap.size ≠ w.heap.size + 2 by omega) 0 x0).setv (show w1.heap.size ≠ w.heap.size + 2 by omega) 1 x1).setv (show w1.heap.size ≠ w.heap.size + 2 by omega) 2 x2).cell 0, ((((HBfx.out.below hq HBfx.out.lt).setv (show w1.heap.size ≠ w.heap.size + 2 by omega) 0 x0).setv (show w1.heap.size ≠ w.heap.size + 2 by omega) 1 x1).setv (show w1.heap.size ≠ w.heap.size + 2 by omega) 2 x2).cell 1, ((((HBfx.out.below hq HBfx.out.lt).setv (show w1.heap.size ≠ w.heap.size + 2 by omega) 0 x0).setv (show w1.heap.size ≠ w.heap.size + 2 by omega) 1 x1).setv (show w1.heap.size ≠ w.heap.size + 2 by omega) 2 x2).cell 2, ((((HBfy.out.below hq HBfy.out.lt).setv (show w3.heap.size ≠ w.heap.size + 2 by omega) 0 x0).setv (show w3.heap.size ≠ w.heap.size + 2 by omega) 1 x1).setv (show w3.heap.size ≠ w.heap.size + 2 by omega) 2 x2).cell 0, ((((HBfy.out.below hq HBfy.out.lt).setv (show w3.heap.size ≠ w.heap.size + 2 by omega) 0 x0).setv (show w3.heap.size ≠ w.heap.size + 2 by omega) 1 x1).setv (show w3.heap.size ≠ w.heap.size + 2 by omega) 2 x2).cell 1, ((((HBfy.out.below hq HBfy.out.lt).setv (show w3.heap.size ≠ w.heap.size + 2 by omega) 0 x0).setv (show w3.heap.size ≠ w.heap.size + 2 by omega) 1 x1).setv (show w3.heap.size ≠ w.heap.size + 2 by omega) 2 x2).cell 2⟩ : (((W.setCell ⟨w.heap.size + 2, 0, none⟩ x0).setCell ⟨w.heap.size + 2, 1, none⟩ x1).setCell ⟨w.heap.size + 2, 2, none⟩ x2).cell? ⟨w1.heap.size, 0, none⟩ = some (.bool fxb) ∧ (((W.setCell ⟨w.heap.size + 2, 0, none⟩ x0).setCell ⟨w.heap.size + 2, 1, none⟩ x1).setCell ⟨w.heap.size + 2, 2, none⟩ x2).cell? ⟨w1.heap.size, 1, none⟩ = some (.slice fxA fxn fxc) ∧ (((W.setCell ⟨w.heap.size + 2, 0, none⟩ x0).setCell ⟨w.heap.size + 2, 1, none⟩ x1).setCell ⟨w.heap.size + 2, 2, none⟩ x2).cell? ⟨w1.heap.size, 2, none⟩ = some (.slice fxD fxm fxk) ∧ (((W.setCell ⟨w.heap.size + 2, 0, none⟩ x0).setCell ⟨w.heap.size + 2, 1, none⟩ x1).setCell ⟨w.heap.size + 2, 2, none⟩ x2).cell? ⟨w3.heap.size, 0, none⟩ = some (.bool fyb) ∧ (((W.setCell ⟨w.heap.size + 2, 0, none⟩ x0).setCell ⟨w.heap.size + 2, 1, none⟩ x1).setCell ⟨w.heap.size + 2, 2, none⟩ x2).cell? ⟨w3.heap.size, 1, none⟩ = some (.slice fyA fyn fyc) ∧ (((W.setCell ⟨w.heap.size + 2, 0, none⟩ x0).setCell ⟨w.heap.size + 2, 1, none⟩ x1).setCell ⟨w.heap.size + 2, 2, none⟩ x2).cell? ⟨w3.heap.size, 2, none⟩ = some (.slice fyD fym fyk)))
  obtain ⟨yfx0, yfx1, yfx2⟩ := kfx.cells3
  obtain ⟨yfy0, yfy1, yfy2⟩ := kfy.cells3
  go_region_held3 (fun w' => w'.cell? ⟨w1.heap.size, 0, none⟩ = some (.bool fxb) ∧ w'.cell? ⟨w1.heap.size, 1, none⟩ = some (.slice fxA fxn fxc) ∧ w'.cell? ⟨w1.heap.size, 2, none⟩ = some (.slice fxD fxm fxk) ∧ w'.cell? ⟨w3.heap.size, 0, none⟩ = some (.bool fyb) ∧ w'.cell? ⟨w3.heap.size, 1, none⟩ = some (.slice fyA fyn fyc) ∧ w'.cell? ⟨w3.heap.size, 2, none⟩ = some (.slice fyD fym fyk))
      (first | (with_reducible exact HKT0.out _ HS3.out _ _ _) | (with_reducible exact HKS.out _ HS3.out) | (with_reducible exact HKS.out _ HS2.out) | (with_reducible exact HKS.out _ HS1.out) | (with_reducible exact HKS.out _ HS0.out))
      (first
        | (go_at_call 64; have HX := HS2.out; refine (spec_addQ u2 u2.heap.size (Nat.le_refl _) qx qy).mono ?_; rintro e u3 ⟨z0, z1, z2, rfl, oz, hb3⟩; obtain ⟨zb, zA, zn, zc, zD, zm, zk, rfl, rfl, rfl⟩ := oz.cut; have oz : QOwn u3 u2.heap.size u3.heap.size 3 (.bool zb) (.slice zA zn zc) (.slice zD zm zk) (addQ (mulQ (subQ qZ.1 pZ.1) (subQ qZ.1 pZ.1)) (mulQ (subQ qZ.2 pZ.2) (subQ qZ.2 pZ.2))) := oz; have qz := oz.in_ (addQ_fit _ _) (Nat.le_refl _); have qx := qx.up hb3; have ox := ox.below hb3 (by omega); have qy := qy.up hb3; have oy := oy.below hb3 (by omega); have hz3 : u2.heap.size ≤ u3.heap.size := hb3.size; have HS3 := hide (below_then HX hb3); clear HX; have hTT := below_then hT4 HS3.out; have kR := HRr.out.below HS3.out HRr.out.lt; obtain ⟨tr0, tr1, tr2, fr0, fr1, fr2⟩ := kR.facts3)
        | (go_at_call 65; have HX := HS1.out; refine (HC2.out _ HS1.out).mono ?_; rintro e u2 ⟨y0, y1, y2, rfl, oy, hb2⟩; obtain ⟨yb, yA, yn, yc, yD, ym, yk, rfl, rfl, rfl⟩ := oy.cut; have oy : QOwn u2 u1.heap.size u2.heap.size 3 (.bool yb) (.slice yA yn yc) (.slice yD ym yk) (mulQ (subQ qZ.2 pZ.2) (subQ qZ.2 pZ.2)) := oy; have qy := oy.in_ (mulQ_fit _ _) (Nat.le_refl _); have qx := qx.up hb2; have ox := ox.below hb2 (by omega); have hz2 : u1.heap.size ≤ u2.heap.size := hb2.size; have HS2 := hide (below_then HX hb2); clear HX)
        | (go_at_call 65; have HX := HS0.out; refine (HC1.out _ HS0.out).mono ?_; rintro e u1 ⟨x0, x1, x2, rfl, ox, hb1⟩; obtain ⟨xb, xA, xn, xc, xD, xm, xk, rfl, rfl, rfl⟩ := ox.cut; have ox : QOwn u1 w4.heap.size u1.heap.size 3 (.bool xb) (.slice xA xn xc) (.slice xD xm xk) (mulQ (subQ qZ.1 pZ.1) (subQ qZ.1 pZ.1)) := ox; have qx := ox.in_ (mulQ_fit _ _) (Nat.le_refl _); have hz1 : w4.heap.size ≤ u1.heap.size := hb1.size; have HS1 := hide (below_then HX hb1); clear HX))
  have HO := hide (ret_q kR oz hTT (by omega) (by omega) (Nat.le_refl _) (.inl (by omega)))
  clear kR ox oy oz qx qy qz hTT hb1 hb2 hb3
  go_wp2_with fail
  refine bodyPost_ret (results_cell_row rfl _ _ (w.heap.size + 2) _ #[.bool zb, .slice zA zn zc, .slice zD zm zk] (0, 0) _ rfl HO.out.1 Tryz.underlying27 rfl Tryz.sizeRat) rfl ?_
  exact ⟨_, _, _, rfl, HO.out.2.1, HO.out.2.2⟩
end Go.Proofs.YtcpncoonbdbkmaaGreat
