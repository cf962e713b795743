/-
  The reference's points: contracts (1): IsValidVec, IsValidPoint, Turn, SamePoint, PointOf, l05Valid.
-/
import Derived.Test.YtnbaookdeijhhaaGreatPtI4
import Derived.Deep.RegionHeld3
import Derived.Deep.CutRange
import Derived.Sort.AtCall
namespace Go.Proofs.YtnbaookdeijhhaaGreat
open Go.RowKit
set_option linter.unusedVariables false
set_option maxRecDepth 100000 in
set_option maxHeartbeats 1600000 in
theorem spec_IsValidPoint (w : World) (B : Nat) (hB : B ≤ w.heap.size) {p0 p1 p2 p3 p4 p5 : Value} {pZ : PQ} (hp : PIn w B p0 p1 p2 p3 p4 p5 pZ) :
    Calls Tryz.prog 28 #[.agg #[p0, p1, p2, p3, p4, p5]] w fun e w' => e = .returned (.bool (ratQ pZ.1 && ratQ pZ.2)) ∧ Below w.heap.size w w' := by
  obtain ⟨W0, hW0⟩ : ∃ W0, W0 = (w.alloc (.cells #[p0, p1, p2, p3, p4, p5] 34)) := ⟨_, rfl⟩
  have hT0 : Below w.heap.size w W0 := by rw [hW0]; exact below_new _ _
  have kp : Box W0 (w.heap.size) 34 #[p0, p1, p2, p3, p4, p5] := by rw [hW0]; exact Box.last _ _ _ rfl
  have hs0 : W0.heap.size = w.heap.size + 1 := by rw [hW0, alloc_size]
  have hp := hp.below (hT0.mono hB)
  go_enter Tryz.func28, Tryz.ntmps28
  go_upto_region 1 with fail
  rw [← hW0]
  clear hW0
  obtain ⟨yp0, yp1, yp2, yp3, yp4, yp5⟩ := kp.cells6
  go_wp2_with fail
  refine (spec_ratQ W0 B (by omega) hp.1).mono ?_
  rintro e w1 ⟨rfl, hb1⟩
  clear yp0 yp1 yp2 yp3 yp4 yp5
  have hs1 := hb1.size
  have hT1 := below_then hT0 hb1
  have kp := kp.below hb1 kp.lt
  have hp := hp.below (hb1.mono (by omega))
  clear hT0
  clear hb1
  by_cases hr : ratQ pZ.1 = true
  · rw [hr]
    obtain ⟨yp0, yp1, yp2, yp3, yp4, yp5⟩ := kp.cells6
    go_wp2_with fail
    refine (spec_ratQ w1 B (by omega) hp.2).mono ?_
    rintro e w2 ⟨rfl, hb2⟩
    clear yp0 yp1 yp2 yp3 yp4 yp5
    have hs2 := hb2.size
    have hT2 := below_then hT1 hb2
    have kp := kp.below hb2 kp.lt
    have hp := hp.below (hb2.mono (by omega))
    clear hT1
    clear hb2
    go_wp2_with fail
    go_ret
    exact ⟨ret_bool (a := ratQ pZ.2) (by rw [hr]; rfl), hT2⟩
  · have hr : ratQ pZ.1 = false := by simpa using hr
    rw [hr]
    go_wp2_with fail
    go_ret
    exact ⟨ret_bool (a := false) (by rw [hr]; rfl), hT1⟩
set_option maxRecDepth 100000 in
set_option maxHeartbeats 1600000 in
theorem spec_l05Valid (w : World) (lo hi : Nat) {x0 x1 x2 y0 y1 y2 : Value} {P : PQ} (o : POwn w lo hi 3 x0 x1 x2 y0 y1 y2 P) (hf : PFit P) (hl : lo ≤ hi) (hh : hi ≤ w.heap.size) :
    Calls Tryz.prog 13 #[.agg #[x0, x1, x2, y0, y1, y2]] w fun e w' => ∃ v0 v1 v2 v3 v4 v5, e = .returned (.agg #[v0, v1, v2, v3, v4, v5]) ∧ POwn w' lo hi 3 v0 v1 v2 v3 v4 v5 (sureP P) ∧ Below w.heap.size w w' := by
  obtain ⟨xb, xA, xn, xc, xD, xm, xk, yb, yA, yn, yc, yD, ym, yk, rfl, rfl, rfl, rfl, rfl, rfl⟩ := o.cut
  have hB : w.heap.size ≤ w.heap.size := Nat.le_refl _
  have HSV : Hid (sureP P = if ratQ P.1 && ratQ P.2 then P else (noR, noR)) := rfl
  generalize sureP P = SP at HSV ⊢
  obtain ⟨W0, hW0⟩ : ∃ W0, W0 = ((w.alloc (.cells #[.bool xb, .slice xA xn xc, .slice xD xm xk, .bool yb, .slice yA yn yc, .slice yD ym yk] 34)).alloc (.cells #[.bool false, .slice none 0 0, .slice none 0 0, .bool false, .slice none 0 0, .slice none 0 0] 34)) := ⟨_, rfl⟩
  have hT0 : Below w.heap.size w W0 := by rw [hW0]; exact below_alloc (below_new _ _) _
  have kx : Box W0 (w.heap.size) 34 #[.bool xb, .slice xA xn xc, .slice xD xm xk, .bool yb, .slice yA yn yc, .slice yD ym yk] := by rw [hW0]; exact (Box.last _ _ _ rfl).alloc _
  have kr : Box W0 (w.heap.size + 1) 34 #[.bool false, .slice none 0 0, .slice none 0 0, .bool false, .slice none 0 0, .slice none 0 0] := by rw [hW0]; exact Box.last _ _ _ (alloc_size _ _).symm
  have hs0 : W0.heap.size = w.heap.size + 2 := by rw [hW0, alloc_size, alloc_size]
  have o := o.below hT0 hh
  go_enter Tryz.func13, Tryz.ntmps13
  go_upto_region 1 with fail
  rw [← hW0]
  clear hW0
  have hI : PIn W0 W0.heap.size (.bool xb) (.slice xA xn xc) (.slice xD xm xk) (.bool yb) (.slice yA yn yc) (.slice yD ym yk) P := o.in_ hf (by omega)
  obtain ⟨yx0, yx1, yx2, yx3, yx4, yx5⟩ := kx.cells6
  go_wp2_with fail
  refine (spec_IsValidPoint W0 W0.heap.size (Nat.le_refl _) hI).mono ?_
  rintro e w1 ⟨rfl, hb1⟩
  clear yx0 yx1 yx2 yx3 yx4 yx5
  clear hI
  have hs1 := hb1.size
  have hT1 := below_then hT0 hb1
  have kx := kx.below hb1 kx.lt
  have kr := kr.below hb1 kr.lt
  clear hT0
  have o := o.below hb1 (by omega)
  clear hb1
  by_cases hv : (ratQ P.1 && ratQ P.2) = true
  · rw [hv]
    have hz : SP = P := by rw [HSV.out, hv]; rfl
    subst hz
    obtain ⟨⟨yr0, yr1, yr2, yr3, yr4, yr5⟩, zr0, zr1, zr2, zr3, zr4, zr5⟩ := kr.facts6
    obtain ⟨yx0, yx1, yx2, yx3, yx4, yx5⟩ := kx.cells6
    clear HSV hv
    have HO := hide (⟨((((((kr.set 0 _).set 1 _).set 2 _).set 3 _).set 4 _).set 5 _), ((((((o.setv (.inr (by omega)) 0 _).setv (.inr (by omega)) 1 _).setv (.inr (by omega)) 2 _).setv (.inr (by omega)) 3 _).setv (.inr (by omega)) 4 _).setv (.inr (by omega)) 5 _), ((((((hT1.setCell (p := ⟨w.heap.size + 1, 0, none⟩) (show w.heap.size ≤ w.heap.size + 1 by omega) _).setCell (p := ⟨w.heap.size + 1, 1, none⟩) (show w.heap.size ≤ w.heap.size + 1 by omega) _).setCell (p := ⟨w.heap.size + 1, 2, none⟩) (show w.heap.size ≤ w.heap.size + 1 by omega) _).setCell (p := ⟨w.heap.size + 1, 3, none⟩) (show w.heap.size ≤ w.heap.size + 1 by omega) _).setCell (p := ⟨w.heap.size + 1, 4, none⟩) (show w.heap.size ≤ w.heap.size + 1 by omega) _).setCell (p := ⟨w.heap.size + 1, 5, none⟩) (show w.heap.size ≤ w.heap.size + 1 by omega) _)⟩ : Box ((((((w1.setCell ⟨w.heap.size + 1, 0, none⟩ (.bool xb)).setCell ⟨w.heap.size + 1, 1, none⟩ (.slice xA xn xc)).setCell ⟨w.heap.size + 1, 2, none⟩ (.slice xD xm xk)).setCell ⟨w.heap.size + 1, 3, none⟩ (.bool yb)).setCell ⟨w.heap.size + 1, 4, none⟩ (.slice yA yn yc)).setCell ⟨w.heap.size + 1, 5, none⟩ (.slice yD ym yk)) (w.heap.size + 1) 34 #[.bool xb, .slice xA xn xc, .slice xD xm xk, .bool yb, .slice yA yn yc, .slice yD ym yk] ∧ POwn ((((((w1.setCell ⟨w.heap.size + 1, 0, none⟩ (.bool xb)).setCell ⟨w.heap.size + 1, 1, none⟩ (.slice xA xn xc)).setCell ⟨w.heap.size + 1, 2, none⟩ (.slice xD xm xk)).setCell ⟨w.heap.size + 1, 3, none⟩ (.bool yb)).setCell ⟨w.heap.size + 1, 4, none⟩ (.slice yA yn yc)).setCell ⟨w.heap.size + 1, 5, none⟩ (.slice yD ym yk)) lo hi 3 (.bool xb) (.slice xA xn xc) (.slice xD xm xk) (.bool yb) (.slice yA yn yc) (.slice yD ym yk) SP ∧ Below w.heap.size w ((((((w1.setCell ⟨w.heap.size + 1, 0, none⟩ (.bool xb)).setCell ⟨w.heap.size + 1, 1, none⟩ (.slice xA xn xc)).setCell ⟨w.heap.size + 1, 2, none⟩ (.slice xD xm xk)).setCell ⟨w.heap.size + 1, 3, none⟩ (.bool yb)).setCell ⟨w.heap.size + 1, 4, none⟩ (.slice yA yn yc)).setCell ⟨w.heap.size + 1, 5, none⟩ (.slice yD ym yk)))
    clear o hf
    go_wp2_with fail
    refine bodyPost_ret (results_cell_row rfl _ _ (w.heap.size + 1) _ #[.bool xb, .slice xA xn xc, .slice xD xm xk, .bool yb, .slice yA yn yc, .slice yD ym yk] (0, 0) _ rfl HO.out.1 Tryz.underlying34 rfl Tryz.sizePoint) rfl ?_
    exact ⟨_, _, _, _, _, _, rfl, HO.out.2.1, HO.out.2.2⟩
  · have hv : (ratQ P.1 && ratQ P.2) = false := by simpa using hv
    rw [hv]
    have hz : SP = (noR, noR) := by rw [HSV.out, hv]; rfl
    subst hz
    have oz := POwn.zero w1 lo hi 3 hl
    obtain ⟨⟨yr0, yr1, yr2, yr3, yr4, yr5⟩, zr0, zr1, zr2, zr3, zr4, zr5⟩ := kr.facts6
    clear HSV hv
    have HO := hide (⟨((((((kr.set 0 _).set 1 _).set 2 _).set 3 _).set 4 _).set 5 _), ((((((oz.setv (.inr (by omega)) 0 _).setv (.inr (by omega)) 1 _).setv (.inr (by omega)) 2 _).setv (.inr (by omega)) 3 _).setv (.inr (by omega)) 4 _).setv (.inr (by omega)) 5 _), ((((((hT1.setCell (p := ⟨w.heap.size + 1, 0, none⟩) (show w.heap.size ≤ w.heap.size + 1 by omega) _).setCell (p := ⟨w.heap.size + 1, 1, none⟩) (show w.heap.size ≤ w.heap.size + 1 by omega) _).setCell (p := ⟨w.heap.size + 1, 2, none⟩) (show w.heap.size ≤ w.heap.size + 1 by omega) _).setCell (p := ⟨w.heap.size + 1, 3, none⟩) (show w.heap.size ≤ w.heap.size + 1 by omega) _).setCell (p := ⟨w.heap.size + 1, 4, none⟩) (show w.heap.size ≤ w.heap.size + 1 by omega) _).setCell (p := ⟨w.heap.size + 1, 5, none⟩) (show w.heap.size ≤ w.heap.size + 1 by omega) _)⟩ : Box ((((((w1.setCell ⟨w.heap.size + 1, 0, none⟩ (.bool false)).setCell ⟨w.heap.size + 1, 1, none⟩ (.slice none 0 0)).setCell ⟨w.heap.size + 1, 2, none⟩ (.slice none 0 0)).setCell ⟨w.heap.size + 1, 3, none⟩ (.bool false)).setCell ⟨w.heap.size + 1, 4, none⟩ (.slice none 0 0)).setCell ⟨w.heap.size + 1, 5, none⟩ (.slice none 0 0)) (w.heap.size + 1) 34 #[.bool false, .slice none 0 0, .slice none 0 0, .bool false, .slice none 0 0, .slice none 0 0] ∧ POwn ((((((w1.setCell ⟨w.heap.size + 1, 0, none⟩ (.bool false)).setCell ⟨w.heap.size + 1, 1, none⟩ (.slice none 0 0)).setCell ⟨w.heap.size + 1, 2, none⟩ (.slice none 0 0)).setCell ⟨w.heap.size + 1, 3, none⟩ (.bool false)).setCell ⟨w.heap.size + 1, 4, none⟩ (.slice none 0 0)).setCell ⟨w.heap.size + 1, 5, none⟩ (.slice none 0 0)) lo hi 3 (.bool false) (.slice none 0 0) (.slice none 0 0) (.bool false) (.slice none 0 0) (.slice none 0 0) (noR, noR) ∧ Below w.heap.size w ((((((w1.setCell ⟨w.heap.size + 1, 0, none⟩ (.bool false)).setCell ⟨w.heap.size + 1, 1, none⟩ (.slice none 0 0)).setCell ⟨w.heap.size + 1, 2, none⟩ (.slice none 0 0)).setCell ⟨w.heap.size + 1, 3, none⟩ (.bool false)).setCell ⟨w.heap.size + 1, 4, none⟩ (.slice none 0 0)).setCell ⟨w.heap.size + 1, 5, none⟩ (.slice none 0 0)))
    clear o hf oz
    go_wp2_with fail
    refine bodyPost_ret (results_cell_row rfl _ _ (w.heap.size + 1) _ #[.bool false, .slice none 0 0, .slice none 0 0, .bool false, .slice none 0 0, .slice none 0 0] (0, 0) _ rfl HO.out.1 Tryz.underlying34 rfl Tryz.sizePoint) rfl ?_
    exact ⟨_, _, _, _, _, _, rfl, HO.out.2.1, HO.out.2.2⟩
end Go.Proofs.YtnbaookdeijhhaaGreat
