/-
  The program's points: contracts (4): validPoint, MovePoint.
-/
import Derived.Test.YtocllmaikngoaaaGreatDoorPI
import Derived.Deep.RegionHeld3
import Derived.Deep.CutRange
import Derived.Sort.AtCall
namespace Go.Proofs.YtocllmaikngoaaaGreatDoor
open Go.RowKit
set_option linter.unusedVariables false
set_option maxRecDepth 100000 in
set_option maxHeartbeats 1600000 in
theorem impl_validPoint (w : World) (lo hi : Nat) {x0 x1 x2 y0 y1 y2 : Value} {P : PQ} (o : POwn w lo hi 3 x0 x1 x2 y0 y1 y2 P) (hf : PFit P) (hl : lo ≤ hi) (hh : hi ≤ w.heap.size) :
    Calls Tryz.prog 69 #[.agg #[x0, x1, x2], .agg #[y0, y1, y2]] w fun e w' => ∃ v0 v1 v2 v3 v4 v5, e = .returned (.agg #[v0, v1, v2, v3, v4, v5]) ∧ POwn w' lo hi 3 v0 v1 v2 v3 v4 v5 (sureP P) ∧ Below w.heap.size w w' := by
  obtain ⟨xb, xA, xn, xc, xD, xm, xk, yb, yA, yn, yc, yD, ym, yk, rfl, rfl, rfl, rfl, rfl, rfl⟩ := o.cut
  have hB : w.heap.size ≤ w.heap.size := Nat.le_refl _
  have HSV : Hid (sureP P = if ratQ P.1 && ratQ P.2 then P else (noR, noR)) := rfl
  generalize sureP P = SP at HSV ⊢
  obtain ⟨W0, hW0⟩ : ∃ W0, W0 = (((w.alloc (.cells #[.bool xb, .slice xA xn xc, .slice xD xm xk] 47)).alloc (.cells #[.bool yb, .slice yA yn yc, .slice yD ym yk] 47)).alloc (.cells #[.bool false, .slice none 0 0, .slice none 0 0, .bool false, .slice none 0 0, .slice none 0 0] 49)) := ⟨_, rfl⟩
  have hT0 : Below w.heap.size w W0 := by rw [hW0]; exact below_alloc (below_alloc (below_new _ _) _) _
  have kx : Box W0 (w.heap.size) 47 #[.bool xb, .slice xA xn xc, .slice xD xm xk] := by rw [hW0]; exact ((Box.last _ _ _ rfl).alloc _).alloc _
  have ky : Box W0 (w.heap.size + 1) 47 #[.bool yb, .slice yA yn yc, .slice yD ym yk] := by rw [hW0]; exact (Box.last _ _ _ (alloc_size _ _).symm).alloc _
  have kr : Box W0 (w.heap.size + 2) 49 #[.bool false, .slice none 0 0, .slice none 0 0, .bool false, .slice none 0 0, .slice none 0 0] := by rw [hW0]; exact Box.last _ _ _ (by rw [alloc_size, alloc_size])
  have hs0 : W0.heap.size = w.heap.size + 3 := by rw [hW0, alloc_size, alloc_size, alloc_size]
  have o := o.below hT0 hh
  go_enter Tryz.func69, Tryz.ntmps69
  go_upto_region 1 with fail
  rw [← hW0]
  clear hW0
  obtain ⟨yx0, yx1, yx2⟩ := kx.cells3
  obtain ⟨yy0, yy1, yy2⟩ := ky.cells3
  obtain ⟨w1, hw1⟩ : ∃ x, x = (W0.alloc (.cells #[.bool xb, .slice xA xn xc, .slice xD xm xk, .bool yb, .slice yA yn yc, .slice yD ym yk] 49)) := ⟨_, rfl⟩
  have hb1 : Below W0.heap.size W0 w1 := by rw [hw1]; exact below_new _ _
  have hq1 : w1.heap.size = W0.heap.size + 1 := by rw [hw1, alloc_size]
  have kv : Box w1 (w.heap.size + 3) 49 #[.bool xb, .slice xA xn xc, .slice xD xm xk, .bool yb, .slice yA yn yc, .slice yD ym yk] := by rw [hw1]; exact Box.last _ _ _ (by omega)
  have hs1 := hb1.size
  have hT1 := below_then hT0 hb1
  have kx := kx.below hb1 kx.lt
  have ky := ky.below hb1 ky.lt
  have kr := kr.below hb1 kr.lt
  clear hT0
  go_upto_region 2 with fail
  rw [← hw1]
  clear hw1
  clear yx0 yx1 yx2 yy0 yy1 yy2
  have o := o.below hb1 (by omega)
  clear hb1
  have hI : PIn w1 w1.heap.size (.bool xb) (.slice xA xn xc) (.slice xD xm xk) (.bool yb) (.slice yA yn yc) (.slice yD ym yk) P := o.in_ hf (by omega)
  obtain ⟨yv0, yv1, yv2, yv3, yv4, yv5⟩ := kv.cells6
  go_wp2_with fail
  refine (impl_IsValidPoint w1 w1.heap.size (Nat.le_refl _) hI).mono ?_
  rintro e w2 ⟨rfl, hb2⟩
  clear yv0 yv1 yv2 yv3 yv4 yv5
  clear hI
  have hs2 := hb2.size
  have hT2 := below_then hT1 hb2
  have kx := kx.below hb2 kx.lt
  have ky := ky.below hb2 ky.lt
  have kr := kr.below hb2 kr.lt
  have kv := kv.below hb2 kv.lt
  clear hT1
  have o := o.below hb2 (by omega)
  clear hb2
  by_cases hv : (ratQ P.1 && ratQ P.2) = true
  · rw [hv]
    have hz : SP = P := by rw [HSV.out, hv]; rfl
    subst hz
    obtain ⟨⟨yr0, yr1, yr2, yr3, yr4, yr5⟩, zr0, zr1, zr2, zr3, zr4, zr5⟩ := kr.facts6
    obtain ⟨yv0, yv1, yv2, yv3, yv4, yv5⟩ := kv.cells6
    clear HSV hv
    have HO := hide (⟨((((((kr.set 0 _).set 1 _).set 2 _).set 3 _).set 4 _).set 5 _), ((((((o.setv (.inr (by omega)) 0 _).setv (.inr (by omega)) 1 _).setv (.inr (by omega)) 2 _).setv (.inr (by omega)) 3 _).setv (.inr (by omega)) 4 _).setv (.inr (by omega)) 5 _), ((((((hT2.setCell (p := ⟨w.heap.size + 2, 0, none⟩) (show w.heap.size ≤ w.heap.size + 2 by omega) _).setCell (p := ⟨w.heap.size + 2, 1, none⟩) (show w.heap.size ≤ w.heap.size + 2 by omega) _).setCell (p := ⟨w.heap.size + 2, 2, none⟩) (show w.heap.size ≤ w.heap.size + 2 by omega) _).setCell (p := ⟨w.heap.size + 2, 3, none⟩) (show w.heap.size ≤ w.heap.size + 2 by omega) _).setCell (p := ⟨w.heap.size + 2, 4, none⟩) (show w.heap.size ≤ w.heap.size + 2 by omega) _).setCell (p := ⟨w.heap.size + 2, 5, none⟩) (show w.heap.size ≤ w.heap.size + 2 by omega) _)⟩ : Box ((((((w2.setCell ⟨w.heap.size + 2, 0, none⟩ (.bool xb)).setCell ⟨w.heap.size + 2, 1, none⟩ (.slice xA xn xc)).setCell ⟨w.heap.size + 2, 2, none⟩ (.slice xD xm xk)).setCell ⟨w.heap.size + 2, 3, none⟩ (.bool yb)).setCell ⟨w.heap.size + 2, 4, none⟩ (.slice yA yn yc)).setCell ⟨w.heap.size + 2, 5, none⟩ (.slice yD ym yk)) (w.heap.size + 2) 49 #[.bool xb, .slice xA xn xc, .slice xD xm xk, .bool yb, .slice yA yn yc, .slice yD ym yk] ∧ POwn ((((((w2.setCell ⟨w.heap.size + 2, 0, none⟩ (.bool xb)).setCell ⟨w.heap.size + 2, 1, none⟩ (.slice xA xn xc)).setCell ⟨w.heap.size + 2, 2, none⟩ (.slice xD xm xk)).setCell ⟨w.heap.size + 2, 3, none⟩ (.bool yb)).setCell ⟨w.heap.size + 2, 4, none⟩ (.slice yA yn yc)).setCell ⟨w.heap.size + 2, 5, none⟩ (.slice yD ym yk)) lo hi 3 (.bool xb) (.slice xA xn xc) (.slice xD xm xk) (.bool yb) (.slice yA yn yc) (.slice yD ym yk) SP ∧ Below w.heap.size w ((((((w2.setCell ⟨w.heap.size + 2, 0, none⟩ (.bool xb)).setCell ⟨w.heap.size + 2, 1, none⟩ (.slice xA xn xc)).setCell ⟨w.heap.size + 2, 2, none⟩ (.slice xD xm xk)).setCell ⟨w.heap.size + 2, 3, none⟩ (.bool yb)).setCell ⟨w.heap.size + 2, 4, none⟩ (.slice yA yn yc)).setCell ⟨w.heap.size + 2, 5, none⟩ (.slice yD ym yk)))
    clear o hf
    go_wp2_with fail
    refine bodyPost_ret (results_cell_row rfl _ _ (w.heap.size + 2) _ #[.bool xb, .slice xA xn xc, .slice xD xm xk, .bool yb, .slice yA yn yc, .slice yD ym yk] (0, 0) _ rfl HO.out.1 Tryz.underlying49 rfl Tryz.sizePoint) rfl ?_
    exact ⟨_, _, _, _, _, _, rfl, HO.out.2.1, HO.out.2.2⟩
  · have hv : (ratQ P.1 && ratQ P.2) = false := by simpa using hv
    rw [hv]
    have hz : SP = (noR, noR) := by rw [HSV.out, hv]; rfl
    subst hz
    have oz := POwn.zero w2 lo hi 3 hl
    obtain ⟨⟨yr0, yr1, yr2, yr3, yr4, yr5⟩, zr0, zr1, zr2, zr3, zr4, zr5⟩ := kr.facts6
    clear HSV hv
    have HO := hide (⟨((((((kr.set 0 _).set 1 _).set 2 _).set 3 _).set 4 _).set 5 _), ((((((oz.setv (.inr (by omega)) 0 _).setv (.inr (by omega)) 1 _).setv (.inr (by omega)) 2 _).setv (.inr (by omega)) 3 _).setv (.inr (by omega)) 4 _).setv (.inr (by omega)) 5 _), ((((((hT2.setCell (p := ⟨w.heap.size + 2, 0, none⟩) (show w.heap.size ≤ w.heap.size + 2 by omega) _).setCell (p := ⟨w.heap.size + 2, 1, none⟩) (show w.heap.size ≤ w.heap.size + 2 by omega) _).setCell (p := ⟨w.heap.size + 2, 2, none⟩) (show w.heap.size ≤ w.heap.size + 2 by omega) _).setCell (p := ⟨w.heap.size + 2, 3, none⟩) (show w.heap.size ≤ w.heap.size + 2 by omega) _).setCell (p := ⟨w.heap.size + 2, 4, none⟩) (show w.heap.size ≤ w.heap.size + 2 by omega) _).setCell (p := ⟨w.heap.size + 2, 5, none⟩) (show w.heap.size ≤ w.heap.size + 2 by omega) _)⟩ : Box ((((((w2.setCell ⟨w.heap.size + 2, 0, none⟩ (.bool false)).setCell ⟨w.heap.size + 2, 1, none⟩ (.slice none 0 0)).setCell ⟨w.heap.size + 2, 2, none⟩ (.slice none 0 0)).setCell ⟨w.heap.size + 2, 3, none⟩ (.bool false)).setCell ⟨w.heap.size + 2, 4, none⟩ (.slice none 0 0)).setCell ⟨w.heap.size + 2, 5, none⟩ (.slice none 0 0)) (w.heap.size + 2) 49 #[.bool false, .slice none 0 0, .slice none 0 0, .bool false, .slice none 0 0, .slice none 0 0] ∧ POwn ((((((w2.setCell ⟨w.heap.size + 2, 0, none⟩ (.bool false)).setCell ⟨w.heap.size + 2, 1, none⟩ (.slice none 0 0)).setCell ⟨w.heap.size + 2, 2, none⟩ (.slice none 0 0)).setCell ⟨w.heap.size + 2, 3, none⟩ (.bool false)).setCell ⟨w.heap.size + 2, 4, none⟩ (.slice none 0 0)).setCell ⟨w.heap.size + 2, 5, none⟩ (.slice none 0 0)) lo hi 3 (.bool false) (.slice none 0 0) (.slice none 0 0) (.bool false) (.slice none 0 0) (.slice none 0 0) (noR, noR) ∧ Below w.heap.size w ((((((w2.setCell ⟨w.heap.size + 2, 0, none⟩ (.bool false)).setCell ⟨w.heap.size + 2, 1, none⟩ (.slice none 0 0)).setCell ⟨w.heap.size + 2, 2, none⟩ (.slice none 0 0)).setCell ⟨w.heap.size + 2, 3, none⟩ (.bool false)).setCell ⟨w.heap.size + 2, 4, none⟩ (.slice none 0 0)).setCell ⟨w.heap.size + 2, 5, none⟩ (.slice none 0 0)))
    clear o hf oz
    go_wp2_with fail
    refine bodyPost_ret (results_cell_row rfl _ _ (w.heap.size + 2) _ #[.bool false, .slice none 0 0, .slice none 0 0, .bool false, .slice none 0 0, .slice none 0 0] (0, 0) _ rfl HO.out.1 Tryz.underlying49 rfl Tryz.sizePoint) rfl ?_
    exact ⟨_, _, _, _, _, _, rfl, HO.out.2.1, HO.out.2.2⟩
set_option maxRecDepth 100000 in
set_option maxHeartbeats 3200000 in
theorem impl_MovePoint (w : World) (B : Nat) (hB : B ≤ w.heap.size) {p0 p1 p2 p3 p4 p5 : Value} {pZ : PQ} (hp : PIn w B p0 p1 p2 p3 p4 p5 pZ) (mx my : Int) (hmx : (Lit.int .i64 mx).wf = true) (hmy : (Lit.int .i64 my).wf = true) :
    Calls Tryz.prog 40 #[.agg #[p0, p1, p2, p3, p4, p5], .agg #[.int .i64 mx, .int .i64 my]] w fun e w' => PRes 3 w w' e (moveP pZ mx my) := by
  rw [show moveP pZ mx my = sureP (addQ pZ.1 (intQ mx), addQ pZ.2 (intQ my)) from rfl]
  obtain ⟨W0, hW0⟩ : ∃ W0, W0 = (((w.alloc (.cells #[p0, p1, p2, p3, p4, p5] 49)).alloc (.cells #[.int .i64 mx, .int .i64 my] 39)).alloc (.cells #[.bool false, .slice none 0 0, .slice none 0 0, .bool false, .slice none 0 0, .slice none 0 0] 49)) := ⟨_, rfl⟩
  have hT0 : Below w.heap.size w W0 := by rw [hW0]; exact below_alloc (below_alloc (below_new _ _) _) _
  have kp : Box W0 (w.heap.size) 49 #[p0, p1, p2, p3, p4, p5] := by rw [hW0]; exact ((Box.last _ _ _ rfl).alloc _).alloc _
  have km : Box W0 (w.heap.size + 1) 39 #[.int .i64 mx, .int .i64 my] := by rw [hW0]; exact (Box.last _ _ _ (alloc_size _ _).symm).alloc _
  have kr : Box W0 (w.heap.size + 2) 49 #[.bool false, .slice none 0 0, .slice none 0 0, .bool false, .slice none 0 0, .slice none 0 0] := by rw [hW0]; exact Box.last _ _ _ (by rw [alloc_size, alloc_size])
  have hs0 : W0.heap.size = w.heap.size + 3 := by rw [hW0, alloc_size, alloc_size, alloc_size]
  have hp := hp.below (hT0.mono hB)
  go_enter Tryz.func40, Tryz.ntmps40
  go_upto_region 1 with fail
  rw [← hW0]
  clear hW0
  obtain ⟨ym0, ym1⟩ := km.cells2
  go_wp2_with fail
  refine (impl_PointOf W0 mx my hmx hmy).mono ?_
  rintro e w1 ⟨b0, b1, b2, b3, b4, b5, rfl, ob, hb1⟩
  clear ym0 ym1
  obtain ⟨bb, bA, bn, bc, bD, bm, bk, byb, byA, byn, byc, byD, bym, byk, rfl, rfl, rfl, rfl, rfl, rfl⟩ := ob.cut
  have hs1 := hb1.size
  have hT1 := below_then hT0 hb1
  have kp := kp.below hb1 kp.lt
  have km := km.below hb1 km.lt
  have kr := kr.below hb1 kr.lt
  have hp := hp.below (hb1.mono (by omega))
  clear hT0
  clear hb1
  obtain ⟨w2, hw2⟩ : ∃ x, x = (w1.alloc (.cells #[.bool bb, .slice bA bn bc, .slice bD bm bk, .bool byb, .slice byA byn byc, .slice byD bym byk] 49)) := ⟨_, rfl⟩
  have hb2 : Below w1.heap.size w1 w2 := by rw [hw2]; exact below_new _ _
  have hq2 : w2.heap.size = w1.heap.size + 1 := by rw [hw2, alloc_size]
  have kb : Box w2 (w1.heap.size) 49 #[.bool bb, .slice bA bn bc, .slice bD bm bk, .bool byb, .slice byA byn byc, .slice byD bym byk] := by rw [hw2]; exact Box.last _ _ _ (by omega)
  have hs2 := hb2.size
  have hT2 := below_then hT1 hb2
  have kp := kp.below hb2 kp.lt
  have km := km.below hb2 km.lt
  have kr := kr.below hb2 kr.lt
  have hp := hp.below (hb2.mono (by omega))
  have ob := ob.below hb2 (by omega)
  clear hT1
  go_upto_region 2 with fail
  rw [← hw2]
  clear hw2 hb2
  have hb : PIn w2 w2.heap.size (.bool bb) (.slice bA bn bc) (.slice bD bm bk) (.bool byb) (.slice byA byn byc) (.slice byD bym byk) (vecP mx my) := ob.in_ (vecP_fit _ _) (by omega)
  have HC1 := hide (fun (W : World) (h : Below w2.heap.size w2 W) => impl_addQ W w2.heap.size h.size ((hp.1.wider (by omega)).below h) (hb.1.below h))
  have HC2 := hide (fun (W : World) (h : Below w2.heap.size w2 W) => impl_addQ W w2.heap.size h.size ((hp.2.wider (by omega)).below h) (hb.2.below h))
  clear hp hb ob km
  have HBp := hide kp
  have HBb := hide kb
  have HS0 : Hid (Below w2.heap.size w2 w2.drew) := (Below.refl _ _).drew
  have HKS := hide (fun (W : World) (hq : Below w2.heap.size w2 W) => (⟨(HBp.out.below hq HBp.out.lt).cell 0, (HBp.out.below hq HBp.out.lt).cell 1, (HBp.out.below hq HBp.out.lt).cell 2, (HBp.out.below hq HBp.out.lt).cell 3, (HBp.out.below hq HBp.out.lt).cell 4, (HBp.out.below hq HBp.out.lt).cell 5, (HBb.out.below hq HBb.out.lt).cell 0, (HBb.out.below hq HBb.out.lt).cell 1, (HBb.out.below hq HBb.out.lt).cell 2, (HBb.out.below hq HBb.out.lt).cell 3, (HBb.out.below hq HBb.out.lt).cell 4, (HBb.out.below hq HBb.out.lt).cell 5⟩ : W.cell? ⟨w.heap.size, 0, none⟩ = some (p0) ∧ W.cell? ⟨w.heap.size, 1, none⟩ = some (p1) ∧ W.cell? ⟨w.heap.size, 2, none⟩ = some (p2) ∧ W.cell? ⟨w.heap.size, 3, none⟩ = some (p3) ∧ W.cell? ⟨w.heap.size, 4, none⟩ = some (p4) ∧ W.cell? ⟨w.heap.size, 5, none⟩ = some (p5) ∧ W.cell? ⟨w1.heap.size, 0, none⟩ = some (.bool bb) ∧ W.cell? ⟨w1.heap.size, 1, none⟩ = some (.slice bA bn bc) ∧ W.cell? ⟨w1.heap.size, 2, none⟩ = some (.slice bD bm bk) ∧ W.cell? ⟨w1.heap.size, 3, none⟩ = some (.bool byb) ∧ W.cell? ⟨w1.heap.size, 4, none⟩ = some (.slice byA byn byc) ∧ W.cell? ⟨w1.heap.size, 5, none⟩ = some (.slice byD bym byk)))
  have HRr := hide kr
  have HKT0 := hide (fun (W : World) (hq : Below w2.heap.size w2 W) (x0 x1 x2 x3 x4 x5 : Value) => (⟨(((((((HBp.out.below hq HBp.out.lt).setv (show w.heap.size ≠ w.heap.size + 2 by omega) 0 x0).setv (show w.heap.size ≠ w.heap.size + 2 by omega) 1 x1).setv (show w.heap.size ≠ w.heap.size + 2 by omega) 2 x2).setv (show w.heap.size ≠ w.heap.size + 2 by omega) 3 x3).setv (show w.heap.size ≠ w.heap.size + 2 by omega) 4 x4).setv (show w.heap.size ≠ w.heap.size + 2 by omega) 5 x5).cell 0, (((((((HBp.out.below hq HBp.out.lt).setv (show w.heap.size ≠ w.heap.size + 2 by omega) 0 x0).setv (show w.heap.size ≠ w.heap.size + 2 by omega) 1 x1).setv (show w.heap.size ≠ w.heap.size + 2 by omega) 2 x2).setv (show w.heap.size ≠ w.heap.size + 2 by omega) 3 x3).setv (show w.heap.size ≠ w.heap.size + 2 by omega) 4 x4).setv (show w.heap.size ≠ w.heap.size + 2 by omega) 5 x5).cell 1, (((((((HBp.out.below hq HBp.out.lt).setv (show w.heap.size ≠ w.heap.size + 2 by omega) 0 x0).setv (show w.heap.size ≠ w.heap.size + 2 by omega) 1 x1).setv (show w.heap.size ≠ w.heap.size + 2 by omega) 2 x2).setv (show w.heap.size ≠ w.heap.size + 2 by omega) 3 x3).setv (show w.heap.size ≠ w.heap.size + 2 by omega) 4 x4).setv (show w.heap.size ≠ w.heap.size + 2 by omega) 5 x5).cell 2, (((((((HBp.out.below hq HBp.out.lt).setv (show w.heap.size ≠ w.heap.size + 2 by omega) 0 x0).setv (show w.heap.size ≠ w.heap.size + 2 by omega) 1 x1).setv (show w.heap.size ≠ w.heap.size + 2 by omega) 2 x2).setv (show w.heap.size ≠ w.heap.size + 2 by omega) 3 x3).setv (show w.heap.size ≠ w.heap.size + 2 by omega) 4 x4).setv (show w.heap.size ≠ w.heap.size + 2 by omega) 5 x5).cell 3, (((((((HBp.out.below hq HBp.out.lt).setv (show w.heap.size ≠ w.heap.size + 2 by omega) 0 x0).setv (show w.heap.size ≠ w.heap.size + 2 by omega) 1 x1).setv (show w.heap.size ≠ w.heap.size + 2 by omega) 2 x2).setv (show w.heap.size ≠ w.heap.size + 2 by omega) 3 x3).setv (show w.heap.size ≠ w.heap.size + 2 by omega) 4 x4).setv (show w.heap.size ≠ w.heap.size + 2 by omega) 5 x5).cell 4, (((((((HBp.out.below hq HBp.out.lt).setv (show w.heap.size ≠ w.heap.size + 2 by omega) 0 x0).setv (show w.heap.size ≠ w.heap.size + 2 by omega) 1 x1).setv (show w.heap.size ≠ w.heap.size + 2 by omega) 2 x2).setv (show w.heap.size ≠ w.heap.size + 2 by omega) 3 x3).setv (show w.heap.size ≠ w.heap.size + 2 by omega) 4 x4).setv (show w.heap.size ≠ w.heap.size + 2 by omega) 5 x5).cell 5, (((((((HBb.out.below hq HBb.out.lt).setv (show w1.heap.size ≠ w.heap.size + 2 by omega) 0 x0).setv (show w1.heap.size ≠ w.heap.size + 2 by omega) 1 x1).setv (show w1.heap.size ≠ w.heap.size + 2 by omega) 2 x2).setv (show w1.heap.size ≠ w.heap.size + 2 by omega) 3 x3).setv (show w1.heap.size ≠ w.heap.size + 2 by omega) 4 x4).setv (show w1.heap.size ≠ w.heap.size + 2 by omega) 5 x5).cell 0, (((((((HBb.out.below hq HBb.out.lt).setv (show w1.heap.size ≠ w.heap.size + 2 by omega) 0 x0).setv (show w1.heap.size ≠ w.heap.size + 2 by omega) 1 x1).setv (show w1.heap.size ≠ w.heap.size + 2 by omega) 2 x2).setv (show w1.heap.size ≠ w.heap.size + 2 by omega) 3 x3).setv (show w1.heap.size ≠ w.heap.size + 2 by omega) 4 x4).setv (show w1.heap.size ≠ w.heap.size + 2 by omega) 5 x5).cell 1, (((((((HBb.out.below hq HBb.out.lt).setv (show w1.heap.size ≠ w.heap.size + 2 by omega) 0 x0).setv (show w1.heap.size ≠ w.heap.size + 2 by omega) 1 x1).setv (show w1.heap.size ≠ w.heap.size + 2 by omega) 2 x2).setv (show w1.heap.size ≠ w.heap.size + 2 by omega) 3 x3).setv (show w1.heap.size ≠ w.heap.size + 2 by omega) 4 x4).setv (show w1.heap.size ≠ w.heap.size + 2 by omega) 5 x5).cell 2, (((((((HBb.out.below hq HBb.out.lt).setv (show w1.heap.size ≠ w.heap.size + 2 by omega) 0 x0).setv (show w1.heap.size ≠ w.heap.size + 2 by omega) 1 x1).setv (show w1.heap.size ≠ w.heap.size + 2 by omega) 2 x2).setv (show w1.heap.size ≠ w.heap.size + 2 by omega) 3 x3).setv (show w1.heap.size ≠ w.heap.size + 2 by omega) 4 x4).setv (show w1.heap.size ≠ w.heap.size + 2 by omega) 5 x5).cell 3, (((((((HBb.out.below hq HBb.out.lt).setv (show w1.heap.size ≠ w.heap.size + 2 by omega) 0 x0).setv (show w1.heap.size ≠ w.heap.size + 2 by omega) 1 x1).setv (show w1.heap.size ≠ w.heap.size + 2 by omega) 2 x2).setv (show w1.heap.size ≠ w.heap.size + 2 by omega) 3 x3).setv (show w1.heap.size ≠ w.heap.size + 2 by omega) 4 x4).setv (show w1.heap.size ≠ w.heap.size + 2 by omega) 5 x5).cell 4, (((((((HBb.out.below hq HBb.out.lt).setv (show w1.heap.size ≠ w.heap.size + 2 by omega) 0 x0).setv (show w1.heap.size ≠ w.heap.size + 2 by omega) 1 x1).setv (show w1.heap.size ≠ w.heap.size + 2 by omega) 2 x2).setv (show w1.heap.size ≠ w.heap.size + 2 by omega) 3 x3).setv (show w1.heap.size ≠ w.heap.size + 2 by omega) 4 x4).setv (show w1.heap.size ≠ w.heap.size + 2 by omega) 5 x5).cell 5⟩ : ((((((W.setCell ⟨w.heap.size + 2, 0, none⟩ x0).setCell ⟨w.heap.size + 2, 1, none⟩ x1).setCell ⟨w.heap.size + 2, 2, none⟩ x2).setCell ⟨w.heap.size + 2, 3, none⟩ x3).setCell ⟨w.heap.size + 2, 4, none⟩ x4).setCell ⟨w.heap.size + 2, 5, none⟩ x5).cell? ⟨w.heap.size, 0, none⟩ = some (p0) ∧ ((((((W.setCell ⟨w.heap.size + 2, 0, none⟩ x0).setCell ⟨w.heap.size + 2, 1, none⟩ x1).setCell ⟨w.heap.size + 2, 2, none⟩ x2).setCell ⟨w.heap.size + 2, 3, none⟩ x3).setCell ⟨w.heap.size + 2, 4, none⟩ x4).setCell ⟨w.heap.size + 2, 5, none⟩ x5).cell? ⟨w.heap.size, 1, none⟩ = some (p1) ∧ ((((((W.setCell ⟨w.heap.size + 2, 0, none⟩ x0).setCell ⟨w.heap.size + 2, 1, none⟩ x1).setCell ⟨w.heap.size + 2, 2, none⟩ x2).setCell ⟨w.heap.size + 2, 3, none⟩ x3).setCell ⟨w.heap.size + 2, 4, none⟩ x4).setCell ⟨w.heap.size + 2, 5, none⟩ x5).cell? ⟨w.heap.size, 2, none⟩ = some (p2) ∧ ((((((W.setCell ⟨w.heap.size + 2, 0, none⟩ x0).setCell ⟨w.heap.size + 2, 1, none⟩ x1).setCell ⟨w.heap.size + 2, 2, none⟩ x2).setCell ⟨w.heap.size + 2, 3, none⟩ x3).setCell ⟨w.heap.size + 2, 4, none⟩ x4).setCell ⟨w.heap.size + 2, 5, none⟩ x5).cell? ⟨w.heap.size, 3, none⟩ = some (p3) ∧ ((((((W.setCell ⟨w.heap.size + 2, 0, none⟩ x0).setCell ⟨w.heap.size + 2, 1, none⟩ x1).setCell ⟨w.heap.size + 2, 2, none⟩ x2).setCell ⟨w.heap.size + 2, 3, none⟩ x3).setCell ⟨w.heap.size + 2, 4, none⟩ x4).setCell ⟨w.heap.size + 2, 5, none⟩ x5).cell? ⟨w.heap.size, 4, none⟩ = some (p4) ∧ ((((((W.setCell ⟨w.heap.size + 2, 0, none⟩ x0).setCell ⟨w.heap.size + 2, 1, none⟩ x1).setCell ⟨w.heap.size + 2, 2, none⟩ x2).setCell ⟨w.heap.size + 2, 3, none⟩ x3).setCell ⟨w.heap.size + 2, 4, none⟩ x4).setCell ⟨w.heap.size + 2, 5, none⟩ x5).cell? ⟨w.heap.size, 5, none⟩ = some (p5) ∧ ((((((W.setCell ⟨w.heap.size + 2, 0, none⟩ x0).setCell ⟨w.heap.size + 2, 1, none⟩ x1).setCell ⟨w.heap.size + 2, 2, none⟩ x2).setCell ⟨w.heap.size + 2, 3, none⟩ x3).setCell ⟨w.heap.size + 2, 4, none⟩ x4).setCell ⟨w.heap.size + 2, 5, none⟩ x5).cell? ⟨w1.heap.size, 0, none⟩ = some (.bool bb) ∧ ((((((W.setCell ⟨w.heap.size + 2, 0, none⟩ x0).setCell ⟨w.heap.size + 2, 1, none⟩ x1).setCell ⟨w.heap.size + 2, 2, none⟩ x2).setCell ⟨w.heap.size + 2, 3, none⟩ x3).setCell ⟨w.heap.size + 2, 4, none⟩ x4).setCell ⟨w.heap.size + 2, 5, none⟩ x5).cell? ⟨w1.heap.size, 1, none⟩ = some (.slice bA bn bc) ∧ ((((((W.setCell ⟨w.heap.size + 2, 0, none⟩ x0).setCell ⟨w.heap.size + 2, 1, none⟩ x1).setCell ⟨w.heap.size + 2, 2, none⟩ x2).setCell ⟨w.heap.size + 2, 3, none⟩ x3).setCell ⟨w.heap.size + 2, 4, none⟩ x4).setCell ⟨w.heap.size + 2, 5, none⟩ x5).cell? ⟨w1.heap.size, 2, none⟩ = some (.slice bD bm bk) ∧ ((((((W.setCell ⟨w.heap.size + 2, 0, none⟩ x0).setCell ⟨w.heap.size + 2, 1, none⟩ x1).setCell ⟨w.heap.size + 2, 2, none⟩ x2).setCell ⟨w.heap.size + 2, 3, none⟩ x3).setCell ⟨w.heap.size + 2, 4, none⟩ x4).setCell ⟨w.heap.size + 2, 5, none⟩ x5).cell? ⟨w1.heap.size, 3, none⟩ = some (.bool byb) ∧ ((((((W.setCell ⟨w.heap.size + 2, 0, none⟩ x0).setCell ⟨w.heap.size + 2, 1, none⟩ x1).setCell ⟨w.heap.size + 2, 2, none⟩ x2).setCell ⟨w.heap.size + 2, 3, none⟩ x3).setCell ⟨w.heap.size + 2, 4, none⟩ x4).setCell ⟨w.heap.size + 2, 5, none⟩ x5).cell? ⟨w1.heap.size, 4, none⟩ = some (.slice byA byn byc) ∧ ((((((W.setCell ⟨w.heap.size + 2, 0, none⟩ x0).setCell ⟨w.heap.size + 2, 1, none⟩ x1).setCell ⟨w.heap.size + 2, 2, none⟩ x2).setCell ⟨w.heap.size + 2, 3, none⟩ x3).setCell ⟨w.heap.size + 2, 4, none⟩ x4).setCell ⟨w.heap.size + 2, 5, none⟩ x5).cell? ⟨w1.heap.size, 5, none⟩ = some (.slice byD bym byk)))
  obtain ⟨yp0, yp1, yp2, yp3, yp4, yp5⟩ := kp.cells6
  obtain ⟨yb0, yb1, yb2, yb3, yb4, yb5⟩ := kb.cells6
  go_region_held3 (fun w' => w'.cell? ⟨w.heap.size, 0, none⟩ = some (p0) ∧ w'.cell? ⟨w.heap.size, 1, none⟩ = some (p1) ∧ w'.cell? ⟨w.heap.size, 2, none⟩ = some (p2) ∧ w'.cell? ⟨w.heap.size, 3, none⟩ = some (p3) ∧ w'.cell? ⟨w.heap.size, 4, none⟩ = some (p4) ∧ w'.cell? ⟨w.heap.size, 5, none⟩ = some (p5) ∧ w'.cell? ⟨w1.heap.size, 0, none⟩ = some (.bool bb) ∧ w'.cell? ⟨w1.heap.size, 1, none⟩ = some (.slice bA bn bc) ∧ w'.cell? ⟨w1.heap.size, 2, none⟩ = some (.slice bD bm bk) ∧ w'.cell? ⟨w1.heap.size, 3, none⟩ = some (.bool byb) ∧ w'.cell? ⟨w1.heap.size, 4, none⟩ = some (.slice byA byn byc) ∧ w'.cell? ⟨w1.heap.size, 5, none⟩ = some (.slice byD bym byk))
      (first | (with_reducible exact HKT0.out _ HS3.out _ _ _ _ _ _) | (with_reducible exact HKS.out _ HS3.out) | (with_reducible exact HKS.out _ HS2.out) | (with_reducible exact HKS.out _ HS1.out) | (with_reducible exact HKS.out _ HS0.out))
      (first
        | (go_at_call 69; have HX := HS2.out; have OP : POwn u2 w2.heap.size u2.heap.size 3 (.bool xb) (.slice xA xn xc) (.slice xD xm xk) (.bool yb) (.slice yA yn yc) (.slice yD ym yk) (addQ pZ.1 (intQ mx), addQ pZ.2 (intQ my)) := ⟨_, _, _, _, ox, oy, by omega, by omega, by omega, by omega, .inl (by omega)⟩; refine (impl_validPoint u2 w2.heap.size u2.heap.size OP ⟨addQ_fit _ _, addQ_fit _ _⟩ (by omega) (Nat.le_refl _)).mono ?_; rintro e u3 ⟨z0, z1, z2, z3, z4, z5, rfl, oz, hb3⟩; obtain ⟨zb, zA, zn, zc, zD, zm, zk, zyb, zyA, zyn, zyc, zyD, zym, zyk, rfl, rfl, rfl, rfl, rfl, rfl⟩ := oz.cut; have oz : POwn u3 w2.heap.size u2.heap.size 3 (.bool zb) (.slice zA zn zc) (.slice zD zm zk) (.bool zyb) (.slice zyA zyn zyc) (.slice zyD zym zyk) (sureP (addQ pZ.1 (intQ mx), addQ pZ.2 (intQ my))) := oz; have qx := qx.up hb3; have ox := ox.below hb3 (by omega); have qy := qy.up hb3; have oy := oy.below hb3 (by omega); have hz3 : u2.heap.size ≤ u3.heap.size := hb3.size; have HS3 := hide (below_then HX hb3); clear HX; have hTT := below_then hT2 HS3.out; have kR := HRr.out.below HS3.out HRr.out.lt; obtain ⟨⟨tr0, tr1, tr2, tr3, tr4, tr5⟩, fr0, fr1, fr2, fr3, fr4, fr5⟩ := kR.facts6)
        | (go_at_call 71; have HX := HS1.out; refine (HC2.out _ HS1.out).mono ?_; rintro e u2 ⟨y0, y1, y2, rfl, oy, hb2⟩; obtain ⟨yb, yA, yn, yc, yD, ym, yk, rfl, rfl, rfl⟩ := oy.cut; have oy : QOwn u2 u1.heap.size u2.heap.size 3 (.bool yb) (.slice yA yn yc) (.slice yD ym yk) (addQ pZ.2 (intQ my)) := oy; have qy := oy.in_ (addQ_fit _ _) (Nat.le_refl _); have qx := qx.up hb2; have ox := ox.below hb2 (by omega); have hz2 : u1.heap.size ≤ u2.heap.size := hb2.size; have HS2 := hide (below_then HX hb2); clear HX)
        | (go_at_call 71; have HX := HS0.out; refine (HC1.out _ HS0.out).mono ?_; rintro e u1 ⟨x0, x1, x2, rfl, ox, hb1⟩; obtain ⟨xb, xA, xn, xc, xD, xm, xk, rfl, rfl, rfl⟩ := ox.cut; have ox : QOwn u1 w2.heap.size u1.heap.size 3 (.bool xb) (.slice xA xn xc) (.slice xD xm xk) (addQ pZ.1 (intQ mx)) := ox; have qx := ox.in_ (addQ_fit _ _) (Nat.le_refl _); have hz1 : w2.heap.size ≤ u1.heap.size := hb1.size; have HS1 := hide (below_then HX hb1); clear HX))
  have HO := hide (ret_pt kR oz hTT (by omega) (by omega) (by omega) (.inl (by omega)))
  clear kR ox oy oz qx qy hTT hb1 hb2 hb3
  go_wp2_with fail
  refine bodyPost_ret (results_cell_row rfl _ _ (w.heap.size + 2) _ #[.bool zb, .slice zA zn zc, .slice zD zm zk, .bool zyb, .slice zyA zyn zyc, .slice zyD zym zyk] (0, 0) _ rfl HO.out.1 Tryz.underlying49 rfl Tryz.sizePoint) rfl ?_
  exact ⟨_, _, _, _, _, _, rfl, HO.out.2.1, HO.out.2.2⟩
end Go.Proofs.YtocllmaikngoaaaGreatDoor
