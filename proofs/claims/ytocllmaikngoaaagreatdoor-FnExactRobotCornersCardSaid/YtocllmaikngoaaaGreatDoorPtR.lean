/-
  The reference's points: contracts (1): IsValidVec, IsValidPoint, Turn, SamePoint, PointOf, l05Valid.
-/
import Derived.Test.YtocllmaikngoaaaGreatDoorPtI4
import Derived.Deep.RegionHeld3
import Derived.Deep.CutRange
import Derived.Sort.AtCall
namespace Go.Proofs.YtocllmaikngoaaaGreatDoor
open Go.RowKit
set_option linter.unusedVariables false
set_option maxRecDepth 100000 in
set_option maxHeartbeats 1600000 in
theorem spec_IsValidVec (w : World) (px py : Int) (hpx : (Lit.int .i64 px).wf = true) (hpy : (Lit.int .i64 py).wf = true) :
    Calls Tryz.prog 123 #[.agg #[.int .i64 px, .int .i64 py]] w fun e w' => e = .returned (.bool (vecB px py)) ∧ Below w.heap.size w w' := by
  have HC1 := hide (fun (W : World) (b : Bool) (h : Hid (b = decide (-1000 ≤ px ∧ px ≤ 1000))) => l01In_all px (-1000) 1000 W b h)
  have HC2 := hide (fun (W : World) (b : Bool) (h : Hid (b = decide (-1000 ≤ py ∧ py ≤ 1000))) => l01In_all py (-1000) 1000 W b h)
  have HV : Hid (vecB px py = (decide (-1000 ≤ px ∧ px ≤ 1000) && decide (-1000 ≤ py ∧ py ≤ 1000))) := rfl
  generalize vecB px py = V at HV ⊢
  obtain ⟨b1, hb1⟩ : ∃ b, b = decide (-1000 ≤ px ∧ px ≤ 1000) := ⟨_, rfl⟩
  obtain ⟨b2, hb2⟩ : ∃ b, b = decide (-1000 ≤ py ∧ py ≤ 1000) := ⟨_, rfl⟩
  have hV : V = (b1 && b2) := by rw [HV.out, hb1, hb2]
  clear HV
  have D1 := hide (hide hb1)
  have D2 := hide (hide hb2)
  clear hb1 hb2
  obtain ⟨W0, hW0⟩ : ∃ W0, W0 = (w.alloc (.cells #[.int .i64 px, .int .i64 py] 39)) := ⟨_, rfl⟩
  have hT0 : Below w.heap.size w W0 := by rw [hW0]; exact below_new _ _
  have kp : Box W0 (w.heap.size) 39 #[.int .i64 px, .int .i64 py] := by rw [hW0]; exact Box.last _ _ _ rfl
  have hs0 : W0.heap.size = w.heap.size + 1 := by rw [hW0, alloc_size]
  go_enter Tryz.func123, Tryz.ntmps123
  cases b1
  · subst hV
    obtain ⟨yp0, yp1⟩ := kp.cells2
    rw [hW0] at yp0 yp1 hT0
    go_wp2_with fail
    refine (HC1.out _ _ D1.out).mono ?_
    rintro e w1 ⟨rfl, rfl⟩
    go_wp2_with fail
    go_ret
    exact ⟨ret_bool (by first | rfl | cases b2 <;> rfl), hT0⟩
  · subst hV
    obtain ⟨yp0, yp1⟩ := kp.cells2
    rw [hW0] at yp0 yp1 hT0
    go_wp2_with fail
    refine (HC1.out _ _ D1.out).mono ?_
    rintro e w1 ⟨rfl, rfl⟩
    go_wp2_with fail
    refine (HC2.out _ _ D2.out).mono ?_
    rintro e w2 ⟨rfl, rfl⟩
    go_wp2_with fail
    go_ret
    exact ⟨ret_bool (by first | rfl | cases b2 <;> rfl), hT0⟩
set_option maxRecDepth 100000 in
set_option maxHeartbeats 1600000 in
theorem spec_IsValidPoint (w : World) (B : Nat) (hB : B ≤ w.heap.size) {p0 p1 p2 p3 p4 p5 : Value} {pZ : PQ} (hp : PIn w B p0 p1 p2 p3 p4 p5 pZ) :
    Calls Tryz.prog 35 #[.agg #[p0, p1, p2, p3, p4, p5]] w fun e w' => e = .returned (.bool (ratQ pZ.1 && ratQ pZ.2)) ∧ Below w.heap.size w w' := by
  obtain ⟨W0, hW0⟩ : ∃ W0, W0 = (w.alloc (.cells #[p0, p1, p2, p3, p4, p5] 49)) := ⟨_, rfl⟩
  have hT0 : Below w.heap.size w W0 := by rw [hW0]; exact below_new _ _
  have kp : Box W0 (w.heap.size) 49 #[p0, p1, p2, p3, p4, p5] := by rw [hW0]; exact Box.last _ _ _ rfl
  have hs0 : W0.heap.size = w.heap.size + 1 := by rw [hW0, alloc_size]
  have hp := hp.below (hT0.mono hB)
  go_enter Tryz.func35, Tryz.ntmps35
  go_upto_region 1 with fail
  rw [← hW0]
  clear hW0
  obtain ⟨yp0, yp1, yp2, yp3, yp4, yp5⟩ := kp.cells6
  go_wp2_with fail
  refine (spec_ratQ W0 B (by omega) hp.1).mono ?_
  rintro e w1 ⟨rfl, hb1⟩
  clear yp0 yp1 yp2 yp3 yp4 yp5
  have hs1 := hb1.size
  have hT1 := below_then hT0 hb1
  have kp := kp.below hb1 kp.lt
  have hp := hp.below (hb1.mono (by omega))
  clear hT0
  clear hb1
  by_cases hr : ratQ pZ.1 = true
  · rw [hr]
    obtain ⟨yp0, yp1, yp2, yp3, yp4, yp5⟩ := kp.cells6
    go_wp2_with fail
    refine (spec_ratQ w1 B (by omega) hp.2).mono ?_
    rintro e w2 ⟨rfl, hb2⟩
    clear yp0 yp1 yp2 yp3 yp4 yp5
    have hs2 := hb2.size
    have hT2 := below_then hT1 hb2
    have kp := kp.below hb2 kp.lt
    have hp := hp.below (hb2.mono (by omega))
    clear hT1
    clear hb2
    go_wp2_with fail
    go_ret
    exact ⟨ret_bool (a := ratQ pZ.2) (by rw [hr]; rfl), hT2⟩
  · have hr : ratQ pZ.1 = false := by simpa using hr
    rw [hr]
    go_wp2_with fail
    go_ret
    exact ⟨ret_bool (a := false) (by rw [hr]; rfl), hT1⟩
set_option maxRecDepth 100000 in
set_option maxHeartbeats 1600000 in
theorem spec_Turn (w : World) (ax ay : Int) (hax : (Lit.int .i64 ax).wf = true) (hay : (Lit.int .i64 ay).wf = true) (bx b_y : Int) (hbx : (Lit.int .i64 bx).wf = true) (hb_y : (Lit.int .i64 b_y).wf = true) (cx cy : Int) (hcx : (Lit.int .i64 cx).wf = true) (hcy : (Lit.int .i64 cy).wf = true) :
    Calls Tryz.prog 180 #[.agg #[.int .i64 ax, .int .i64 ay], .agg #[.int .i64 bx, .int .i64 b_y], .agg #[.int .i64 cx, .int .i64 cy]] w fun e w' => e = .returned (.int .i64 (turnI ax ay bx b_y cx cy)) ∧ Below w.heap.size w w' := by
  have HCA := hide (fun (W : World) => spec_IsValidVec W ax ay hax hay)
  have HCB := hide (fun (W : World) => spec_IsValidVec W bx b_y hbx hb_y)
  have HCC := hide (fun (W : World) => spec_IsValidVec W cx cy hcx hcy)
  have HT : Hid (turnI ax ay bx b_y cx cy = if vecB ax ay && (vecB bx b_y && vecB cx cy) then (bx - ax) * (cy - ay) - (b_y - ay) * (cx - ax) else 0) := rfl
  generalize turnI ax ay bx b_y cx cy = T at HT ⊢
  obtain ⟨ma1, ma2⟩ := bounds_i64 hax
  obtain ⟨ma3, ma4⟩ := bounds_i64 hay
  obtain ⟨mb1, mb2⟩ := bounds_i64 hbx
  obtain ⟨mb3, mb4⟩ := bounds_i64 hb_y
  obtain ⟨mc1, mc2⟩ := bounds_i64 hcx
  obtain ⟨mc3, mc4⟩ := bounds_i64 hcy
  obtain ⟨W0, hW0⟩ : ∃ W0, W0 = (((w.alloc (.cells #[.int .i64 ax, .int .i64 ay] 39)).alloc (.cells #[.int .i64 bx, .int .i64 b_y] 39)).alloc (.cells #[.int .i64 cx, .int .i64 cy] 39)) := ⟨_, rfl⟩
  have hT0 : Below w.heap.size w W0 := by rw [hW0]; exact below_alloc (below_alloc (below_new _ _) _) _
  have ka : Box W0 (w.heap.size) 39 #[.int .i64 ax, .int .i64 ay] := by rw [hW0]; exact ((Box.last _ _ _ rfl).alloc _).alloc _
  have kb : Box W0 (w.heap.size + 1) 39 #[.int .i64 bx, .int .i64 b_y] := by rw [hW0]; exact (Box.last _ _ _ (alloc_size _ _).symm).alloc _
  have kc : Box W0 (w.heap.size + 2) 39 #[.int .i64 cx, .int .i64 cy] := by rw [hW0]; exact Box.last _ _ _ (by rw [alloc_size, alloc_size])
  have hs0 : W0.heap.size = w.heap.size + 3 := by rw [hW0, alloc_size, alloc_size, alloc_size]
  go_enter Tryz.func180, Tryz.ntmps180
  go_upto_region 1 with fail
  rw [← hW0]
  clear hW0
  obtain ⟨ya0, ya1⟩ := ka.cells2
  go_wp2_with fail
  refine (HCA.out _).mono ?_
  rintro e w1 ⟨rfl, hb1⟩
  clear ya0 ya1
  have hs1 := hb1.size
  have hT1 := below_then hT0 hb1
  have ka := ka.below hb1 ka.lt
  have kb := kb.below hb1 kb.lt
  have kc := kc.below hb1 kc.lt
  clear hT0
  clear hb1
  by_cases ea : vecB ax ay = true
  · rw [ea]
    obtain ⟨yb0, yb1⟩ := kb.cells2
    go_wp2_with fail
    refine (HCB.out _).mono ?_
    rintro e w2 ⟨rfl, hb2⟩
    clear yb0 yb1
    have hs2 := hb2.size
    have hT2 := below_then hT1 hb2
    have ka := ka.below hb2 ka.lt
    have kb := kb.below hb2 kb.lt
    have kc := kc.below hb2 kc.lt
    clear hT1
    clear hb2
    by_cases eb : vecB bx b_y = true
    · rw [eb]
      obtain ⟨yc0, yc1⟩ := kc.cells2
      go_wp2_with fail
      refine (HCC.out _).mono ?_
      rintro e w3 ⟨rfl, hb3⟩
      clear yc0 yc1
      have hs3 := hb3.size
      have hT3 := below_then hT2 hb3
      have ka := ka.below hb3 ka.lt
      have kb := kb.below hb3 kb.lt
      have kc := kc.below hb3 kc.lt
      clear hT2
      clear hb3
      by_cases ec : vecB cx cy = true
      · rw [ec]
        have ga := vecB_bounds ea
        have gb := vecB_bounds eb
        have gc := vecB_bounds ec
        have hm1 := mul_bounds (a := bx - ax) (b := cy - ay) (by omega) (by omega)
        have hm2 := mul_bounds (a := b_y - ay) (b := cx - ax) (by omega) (by omega)
        obtain ⟨ya0, ya1⟩ := ka.cells2
        obtain ⟨yb0, yb1⟩ := kb.cells2
        obtain ⟨yc0, yc1⟩ := kc.cells2
        go_wp2_with fail
        go_ret
        exact ⟨ret_int (by rw [HT.out, ea, eb, ec]; rfl), hT3⟩
      · have ec : vecB cx cy = false := by simpa using ec
        rw [ec]
        go_wp2_with fail
        go_ret
        exact ⟨ret_int (a := 0) (by rw [HT.out, ec]; simp), hT3⟩
    · have eb : vecB bx b_y = false := by simpa using eb
      rw [eb]
      go_wp2_with fail
      go_ret
      exact ⟨ret_int (a := 0) (by rw [HT.out, eb]; simp), hT2⟩
  · have ea : vecB ax ay = false := by simpa using ea
    rw [ea]
    go_wp2_with fail
    go_ret
    exact ⟨ret_int (a := 0) (by rw [HT.out, ea]; simp), hT1⟩
set_option maxRecDepth 100000 in
set_option maxHeartbeats 1600000 in
theorem spec_l05Valid (w : World) (lo hi : Nat) {x0 x1 x2 y0 y1 y2 : Value} {P : PQ} (o : POwn w lo hi 3 x0 x1 x2 y0 y1 y2 P) (hf : PFit P) (hl : lo ≤ hi) (hh : hi ≤ w.heap.size) :
    Calls Tryz.prog 81 #[.agg #[x0, x1, x2, y0, y1, y2]] w fun e w' => ∃ v0 v1 v2 v3 v4 v5, e = .returned (.agg #[v0, v1, v2, v3, v4, v5]) ∧ POwn w' lo hi 3 v0 v1 v2 v3 v4 v5 (sureP P) ∧ Below w.heap.size w w' := by
  obtain ⟨xb, xA, xn, xc, xD, xm, xk, yb, yA, yn, yc, yD, ym, yk, rfl, rfl, rfl, rfl, rfl, rfl⟩ := o.cut
  have hB : w.heap.size ≤ w.heap.size := Nat.le_refl _
  have HSV : Hid (sureP P = if ratQ P.1 && ratQ P.2 then P else (noR, noR)) := rfl
  generalize sureP P = SP at HSV ⊢
  obtain ⟨W0, hW0⟩ : ∃ W0, W0 = ((w.alloc (.cells #[.bool xb, .slice xA xn xc, .slice xD xm xk, .bool yb, .slice yA yn yc, .slice yD ym yk] 49)).alloc (.cells #[.bool false, .slice none 0 0, .slice none 0 0, .bool false, .slice none 0 0, .slice none 0 0] 49)) := ⟨_, rfl⟩
  have hT0 : Below w.heap.size w W0 := by rw [hW0]; exact below_alloc (below_new _ _) _
  have kx : Box W0 (w.heap.size) 49 #[.bool xb, .slice xA xn xc, .slice xD xm xk, .bool yb, .slice yA yn yc, .slice yD ym yk] := by rw [hW0]; exact (Box.last _ _ _ rfl).alloc _
  have kr : Box W0 (w.heap.size + 1) 49 #[.bool false, .slice none 0 0, .slice none 0 0, .bool false, .slice none 0 0, .slice none 0 0] := by rw [hW0]; exact Box.last _ _ _ (alloc_size _ _).symm
  have hs0 : W0.heap.size = w.heap.size + 2 := by rw [hW0, alloc_size, alloc_size]
  have o := o.below hT0 hh
  go_enter Tryz.func81, Tryz.ntmps81
  go_upto_region 1 with fail
  rw [← hW0]
  clear hW0
  have hI : PIn W0 W0.heap.size (.bool xb) (.slice xA xn xc) (.slice xD xm xk) (.bool yb) (.slice yA yn yc) (.slice yD ym yk) P := o.in_ hf (by omega)
  obtain ⟨yx0, yx1, yx2, yx3, yx4, yx5⟩ := kx.cells6
  go_wp2_with fail
  refine (spec_IsValidPoint W0 W0.heap.size (Nat.le_refl _) hI).mono ?_
  rintro e w1 ⟨rfl, hb1⟩
  clear yx0 yx1 yx2 yx3 yx4 yx5
  clear hI
  have hs1 := hb1.size
  have hT1 := below_then hT0 hb1
  have kx := kx.below hb1 kx.lt
  have kr := kr.below hb1 kr.lt
  clear hT0
  have o := o.below hb1 (by omega)
  clear hb1
  by_cases hv : (ratQ P.1 && ratQ P.2) = true
  · rw [hv]
    have hz : SP = P := by rw [HSV.out, hv]; rfl
    subst hz
    obtain ⟨⟨yr0, yr1, yr2, yr3, yr4, yr5⟩, zr0, zr1, zr2, zr3, zr4, zr5⟩ := kr.facts6
    obtain ⟨yx0, yx1, yx2, yx3, yx4, yx5⟩ := kx.cells6
    clear HSV hv
    have HO := hide (⟨((((((kr.set 0 _).set 1 _).set 2 _).set 3 _).set 4 _).set 5 _), ((((((o.setv (.inr (by omega)) 0 _).setv (.inr (by omega)) 1 _).setv (.inr (by omega)) 2 _).setv (.inr (by omega)) 3 _).setv (.inr (by omega)) 4 _).setv (.inr (by omega)) 5 _), ((((((hT1.setCell (p := ⟨w.heap.size + 1, 0, none⟩) (show w.heap.size ≤ w.heap.size + 1 by omega) _).setCell (p := ⟨w.heap.size + 1, 1, none⟩) (show w.heap.size ≤ w.heap.size + 1 by omega) _).setCell (p := ⟨w.heap.size + 1, 2, none⟩) (show w.heap.size ≤ w.heap.size + 1 by omega) _).setCell (p := ⟨w.heap.size + 1, 3, none⟩) (show w.heap.size ≤ w.heap.size + 1 by omega) _).setCell (p := ⟨w.heap.size + 1, 4, none⟩) (show w.heap.size ≤ w.heap.size + 1 by omega) _).setCell (p := ⟨w.heap.size + 1, 5, none⟩) (show w.heap.size ≤ w.heap.size + 1 by omega) _)⟩ : Box ((((((w1.setCell ⟨w.heap.size + 1, 0, none⟩ (.bool xb)).setCell ⟨w.heap.size + 1, 1, none⟩ (.slice xA xn xc)).setCell ⟨w.heap.size + 1, 2, none⟩ (.slice xD xm xk)).setCell ⟨w.heap.size + 1, 3, none⟩ (.bool yb)).setCell ⟨w.heap.size + 1, 4, none⟩ (.slice yA yn yc)).setCell ⟨w.heap.size + 1, 5, none⟩ (.slice yD ym yk)) (w.heap.size + 1) 49 #[.bool xb, .slice xA xn xc, .slice xD xm xk, .bool yb, .slice yA yn yc, .slice yD ym yk] ∧ POwn ((((((w1.setCell ⟨w.heap.size + 1, 0, none⟩ (.bool xb)).setCell ⟨w.heap.size + 1, 1, none⟩ (.slice xA xn xc)).setCell ⟨w.heap.size + 1, 2, none⟩ (.slice xD xm xk)).setCell ⟨w.heap.size + 1, 3, none⟩ (.bool yb)).setCell ⟨w.heap.size + 1, 4, none⟩ (.slice yA yn yc)).setCell ⟨w.heap.size + 1, 5, none⟩ (.slice yD ym yk)) lo hi 3 (.bool xb) (.slice xA xn xc) (.slice xD xm xk) (.bool yb) (.slice yA yn yc) (.slice yD ym yk) SP ∧ Below w.heap.size w ((((((w1.setCell ⟨w.heap.size + 1, 0, none⟩ (.bool xb)).setCell ⟨w.heap.size + 1, 1, none⟩ (.slice xA xn xc)).setCell ⟨w.heap.size + 1, 2, none⟩ (.slice xD xm xk)).setCell ⟨w.heap.size + 1, 3, none⟩ (.bool yb)).setCell ⟨w.heap.size + 1, 4, none⟩ (.slice yA yn yc)).setCell ⟨w.heap.size + 1, 5, none⟩ (.slice yD ym yk)))
    clear o hf
    go_wp2_with fail
    refine bodyPost_ret (results_cell_row rfl _ _ (w.heap.size + 1) _ #[.bool xb, .slice xA xn xc, .slice xD xm xk, .bool yb, .slice yA yn yc, .slice yD ym yk] (0, 0) _ rfl HO.out.1 Tryz.underlying49 rfl Tryz.sizePoint) rfl ?_
    exact ⟨_, _, _, _, _, _, rfl, HO.out.2.1, HO.out.2.2⟩
  · have hv : (ratQ P.1 && ratQ P.2) = false := by simpa using hv
    rw [hv]
    have hz : SP = (noR, noR) := by rw [HSV.out, hv]; rfl
    subst hz
    have oz := POwn.zero w1 lo hi 3 hl
    obtain ⟨⟨yr0, yr1, yr2, yr3, yr4, yr5⟩, zr0, zr1, zr2, zr3, zr4, zr5⟩ := kr.facts6
    clear HSV hv
    have HO := hide (⟨((((((kr.set 0 _).set 1 _).set 2 _).set 3 _).set 4 _).set 5 _), ((((((oz.setv (.inr (by omega)) 0 _).setv (.inr (by omega)) 1 _).setv (.inr (by omega)) 2 _).setv (.inr (by omega)) 3 _).setv (.inr (by omega)) 4 _).setv (.inr (by omega)) 5 _), ((((((hT1.setCell (p := ⟨w.heap.size + 1, 0, none⟩) (show w.heap.size ≤ w.heap.size + 1 by omega) _).setCell (p := ⟨w.heap.size + 1, 1, none⟩) (show w.heap.size ≤ w.heap.size + 1 by omega) _).setCell (p := ⟨w.heap.size + 1, 2, none⟩) (show w.heap.size ≤ w.heap.size + 1 by omega) _).setCell (p := ⟨w.heap.size + 1, 3, none⟩) (show w.heap.size ≤ w.heap.size + 1 by omega) _).setCell (p := ⟨w.heap.size + 1, 4, none⟩) (show w.heap.size ≤ w.heap.size + 1 by omega) _).setCell (p := ⟨w.heap.size + 1, 5, none⟩) (show w.heap.size ≤ w.heap.size + 1 by omega) _)⟩ : Box ((((((w1.setCell ⟨w.heap.size + 1, 0, none⟩ (.bool false)).setCell ⟨w.heap.size + 1, 1, none⟩ (.slice none 0 0)).setCell ⟨w.heap.size + 1, 2, none⟩ (.slice none 0 0)).setCell ⟨w.heap.size + 1, 3, none⟩ (.bool false)).setCell ⟨w.heap.size + 1, 4, none⟩ (.slice none 0 0)).setCell ⟨w.heap.size + 1, 5, none⟩ (.slice none 0 0)) (w.heap.size + 1) 49 #[.bool false, .slice none 0 0, .slice none 0 0, .bool false, .slice none 0 0, .slice none 0 0] ∧ POwn ((((((w1.setCell ⟨w.heap.size + 1, 0, none⟩ (.bool false)).setCell ⟨w.heap.size + 1, 1, none⟩ (.slice none 0 0)).setCell ⟨w.heap.size + 1, 2, none⟩ (.slice none 0 0)).setCell ⟨w.heap.size + 1, 3, none⟩ (.bool false)).setCell ⟨w.heap.size + 1, 4, none⟩ (.slice none 0 0)).setCell ⟨w.heap.size + 1, 5, none⟩ (.slice none 0 0)) lo hi 3 (.bool false) (.slice none 0 0) (.slice none 0 0) (.bool false) (.slice none 0 0) (.slice none 0 0) (noR, noR) ∧ Below w.heap.size w ((((((w1.setCell ⟨w.heap.size + 1, 0, none⟩ (.bool false)).setCell ⟨w.heap.size + 1, 1, none⟩ (.slice none 0 0)).setCell ⟨w.heap.size + 1, 2, none⟩ (.slice none 0 0)).setCell ⟨w.heap.size + 1, 3, none⟩ (.bool false)).setCell ⟨w.heap.size + 1, 4, none⟩ (.slice none 0 0)).setCell ⟨w.heap.size + 1, 5, none⟩ (.slice none 0 0)))
    clear o hf oz
    go_wp2_with fail
    refine bodyPost_ret (results_cell_row rfl _ _ (w.heap.size + 1) _ #[.bool false, .slice none 0 0, .slice none 0 0, .bool false, .slice none 0 0, .slice none 0 0] (0, 0) _ rfl HO.out.1 Tryz.underlying49 rfl Tryz.sizePoint) rfl ?_
    exact ⟨_, _, _, _, _, _, rfl, HO.out.2.1, HO.out.2.2⟩
end Go.Proofs.YtocllmaikngoaaaGreatDoor
