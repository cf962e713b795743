/-
  The walk of the exact law of FormatPoint.
-/
import Derived.Test.YtnbaookdeijhhaaGreatDoorPtF
import Derived.Test.YtnbaookdeijhhaaGreatDoorPtL
import Derived.Test.YtnbaookdeijhhaaGreatDoorPtS
import Derived.Deep.RegionHeld3
import Derived.Deep.CutRange
import Derived.Sort.AtCall
namespace Go.Proofs.YtnbaookdeijhhaaGreatDoor
open Go.RowKit
set_option linter.unusedVariables false
set_option maxRecDepth 100000 in
set_option maxHeartbeats 16000000 in
theorem FnExactFormatPoint_walk (w : World) {p0 p1 p2 p3 p4 p5 : Value} (fp : PRow w p0 p1 p2 p3 p4 p5) (hPT : PowTab w) :
    Calls Tryz.prog 5 #[.agg #[p0, p1, p2, p3, p4, p5]] w fun e w' => e = .returned (.bool true) ∧ Below w.heap.size w w' := by
  obtain ⟨Lp, gp, Jp⟩ := fp.len
  obtain ⟨W0, hW0⟩ : ∃ W0, W0 = (w.alloc (.cells #[p0, p1, p2, p3, p4, p5] 58)) := ⟨_, rfl⟩
  have hT0 : Below w.heap.size w W0 := by rw [hW0]; exact below_new _ _
  have kp : Box W0 (w.heap.size) 58 #[p0, p1, p2, p3, p4, p5] := by rw [hW0]; exact Box.last _ _ _ rfl
  have hs0 : W0.heap.size = w.heap.size + 1 := by rw [hW0, alloc_size]
  go_enter Tryz.func5, Tryz.ntmps5
  go_upto_region 1 with fail
  rw [← hW0]
  clear hW0
  obtain ⟨yp0, yp1, yp2, yp3, yp4, yp5⟩ := kp.cells6
  go_wp2_with fail
  refine (szP_any W0 gp 1048576 (by omega)).mono ?_
  rintro e w1 ⟨rfl, hb1⟩
  clear yp0 yp1 yp2 yp3 yp4 yp5
  have hs1 := hb1.size
  have hT1 := below_then hT0 hb1
  have kp := kp.below hb1 kp.lt
  clear hT0
  clear hb1
  by_cases czp : ¬ Lp ≤ 1048576
  · have hle : leftI 1048576 Lp = -1 := if_neg czp
    rw [hle]
    clear hle
    go_wp2_with fail
    go_ret
    exact ⟨rfl, hT1⟩
  have czp := Decidable.not_not.1 czp
  obtain ⟨Mp, hLp⟩ : ∃ L : Nat, L + Lp = 1048576 := ⟨1048576 - Lp, by omega⟩
  have hle : leftI 1048576 Lp = (Mp : Int) := by rw [leftI, if_pos czp]; omega
  rw [hle]
  clear hle
  have hngp : ¬ (Mp : Int) < 0 := by omega
  obtain ⟨pZ, J0⟩ := Jp (by omega)
  have hpF := J0.fit
  have hp := J0.below hT1
  have HLep := hide hLp
  clear hLp czp J0 Jp gp
  have hq := str_eq (rfl : fmtP pZ = fmtP pZ)
  obtain ⟨yp0, yp1, yp2, yp3, yp4, yp5⟩ := kp.cells6
  go_wp2_with fail
  refine (toP_any w1 w.heap.size hT1.size hp).mono ?_
  rintro e w2 ⟨tc0, tc1, tc2, tc3, tc4, tc5, rfl, otc, hb2⟩
  clear yp0 yp1 yp2 yp3 yp4 yp5
  obtain ⟨tcb, tcA, tcn, tcc, tcD, tcm, tck, tcyb, tcyA, tcyn, tcyc, tcyD, tcym, tcyk, rfl, rfl, rfl, rfl, rfl, rfl⟩ := otc.cut
  have hs2 := hb2.size
  have hT2 := below_then hT1 hb2
  have kp := kp.below hb2 kp.lt
  have hp := hp.below (hb2.mono (by omega))
  clear hT1
  clear hb2
  go_wp2_with fail
  refine (spec_FormatPoint w2 w2.heap.size (Nat.le_refl _) (otc.in_ hpF (Nat.le_refl _))).mono ?_
  rintro e w3 ⟨rfl, hb3⟩
  have hs3 := hb3.size
  have hT3 := below_then hT2 hb3
  have kp := kp.below hb3 kp.lt
  have hp := hp.below (hb3.mono (by omega))
  have otc := otc.below hb3 (by omega)
  clear hT2
  clear hb3
  clear otc
  obtain ⟨yp0, yp1, yp2, yp3, yp4, yp5⟩ := kp.cells6
  go_wp2_with fail
  refine (toP_any w3 w.heap.size hT3.size hp).mono ?_
  rintro e w4 ⟨xp0, xp1, xp2, xp3, xp4, xp5, rfl, oxp, hb4⟩
  clear yp0 yp1 yp2 yp3 yp4 yp5
  obtain ⟨xpb, xpA, xpn, xpc, xpD, xpm, xpk, xpyb, xpyA, xpyn, xpyc, xpyD, xpym, xpyk, rfl, rfl, rfl, rfl, rfl, rfl⟩ := oxp.cut
  have hs4 := hb4.size
  have hT4 := below_then hT3 hb4
  have kp := kp.below hb4 kp.lt
  have hp := hp.below (hb4.mono (by omega))
  clear hT3
  clear hb4
  obtain ⟨w5, hw5⟩ : ∃ xw, xw = (w4.alloc (.cells #[.bool xpb, .slice xpA xpn xpc, .slice xpD xpm xpk, .bool xpyb, .slice xpyA xpyn xpyc, .slice xpyD xpym xpyk] 38)) := ⟨_, rfl⟩
  have hb5 : Below w4.heap.size w4 w5 := by rw [hw5]; exact below_new _ _
  have hq5 : w5.heap.size = w4.heap.size + 1 := by rw [hw5, alloc_size]
  have kxp : Box w5 (w4.heap.size) 38 #[.bool xpb, .slice xpA xpn xpc, .slice xpD xpm xpk, .bool xpyb, .slice xpyA xpyn xpyc, .slice xpyD xpym xpyk] := by rw [hw5]; exact Box.last _ _ _ (by omega)
  have hs5 := hb5.size
  have hT5 := below_then hT4 hb5
  have kp := kp.below hb5 kp.lt
  have hp := hp.below (hb5.mono (by omega))
  have oxp := oxp.below hb5 (by omega)
  clear hT4
  go_upto_region 7 with fail
  rw [← hw5]
  clear hw5 hb5
  obtain ⟨yxp0, yxp1, yxp2, yxp3, yxp4, yxp5⟩ := kxp.cells6
  go_wp2_with fail
  refine (impl_FormatPoint w5 w5.heap.size (Nat.le_refl _) (oxp.in_ hpF (by omega)) (hPT.below hT5 hPT.lt)).mono ?_
  rintro e w6 ⟨rfl, hb6⟩
  clear yxp0 yxp1 yxp2 yxp3 yxp4 yxp5
  have hs6 := hb6.size
  have hT6 := below_then hT5 hb6
  have kp := kp.below hb6 kp.lt
  have kxp := kxp.below hb6 kxp.lt
  have hp := hp.below (hb6.mono (by omega))
  have oxp := oxp.below hb6 (by omega)
  clear hT5
  clear hb6
  have HQ := hide hq
  go_upto_region 10 with fail
  have HCp := hide (fun (W : World) (h : Below w6.heap.size w6 W) => toP_any W w.heap.size (by have := h.size; omega) (hp.below (h.mono (by omega))))
  have HE := hide (fun (W : World) (h : Below w6.heap.size w6 W) => ((oxp.in_ hpF (show _ ≤ w6.heap.size by omega)).below h).wider h.size)
  have HBxp := hide kxp
  have HBp := hide kp
  have HS0 : Hid (Below w6.heap.size w6 w6.drew) := (Below.refl _ _).drew
  have HKS := hide (fun (W : World) (hq : Below w6.heap.size w6 W) => (⟨(HBxp.out.below hq HBxp.out.lt).cell 0, (HBxp.out.below hq HBxp.out.lt).cell 1, (HBxp.out.below hq HBxp.out.lt).cell 2, (HBxp.out.below hq HBxp.out.lt).cell 3, (HBxp.out.below hq HBxp.out.lt).cell 4, (HBxp.out.below hq HBxp.out.lt).cell 5, (HBp.out.below hq HBp.out.lt).cell 0, (HBp.out.below hq HBp.out.lt).cell 1, (HBp.out.below hq HBp.out.lt).cell 2, (HBp.out.below hq HBp.out.lt).cell 3, (HBp.out.below hq HBp.out.lt).cell 4, (HBp.out.below hq HBp.out.lt).cell 5⟩ : W.cell? ⟨w4.heap.size, 0, none⟩ = some (.bool xpb) ∧ W.cell? ⟨w4.heap.size, 1, none⟩ = some (.slice xpA xpn xpc) ∧ W.cell? ⟨w4.heap.size, 2, none⟩ = some (.slice xpD xpm xpk) ∧ W.cell? ⟨w4.heap.size, 3, none⟩ = some (.bool xpyb) ∧ W.cell? ⟨w4.heap.size, 4, none⟩ = some (.slice xpyA xpyn xpyc) ∧ W.cell? ⟨w4.heap.size, 5, none⟩ = some (.slice xpyD xpym xpyk) ∧ W.cell? ⟨w.heap.size, 0, none⟩ = some (p0) ∧ W.cell? ⟨w.heap.size, 1, none⟩ = some (p1) ∧ W.cell? ⟨w.heap.size, 2, none⟩ = some (p2) ∧ W.cell? ⟨w.heap.size, 3, none⟩ = some (p3) ∧ W.cell? ⟨w.heap.size, 4, none⟩ = some (p4) ∧ W.cell? ⟨w.heap.size, 5, none⟩ = some (p5)))
  have HIp := hide hp
  obtain ⟨yxp0, yxp1, yxp2, yxp3, yxp4, yxp5⟩ := kxp.cells6
  obtain ⟨yp0, yp1, yp2, yp3, yp4, yp5⟩ := kp.cells6
  go_region_held3 (fun w' => w'.cell? ⟨w4.heap.size, 0, none⟩ = some (.bool xpb) ∧ w'.cell? ⟨w4.heap.size, 1, none⟩ = some (.slice xpA xpn xpc) ∧ w'.cell? ⟨w4.heap.size, 2, none⟩ = some (.slice xpD xpm xpk) ∧ w'.cell? ⟨w4.heap.size, 3, none⟩ = some (.bool xpyb) ∧ w'.cell? ⟨w4.heap.size, 4, none⟩ = some (.slice xpyA xpyn xpyc) ∧ w'.cell? ⟨w4.heap.size, 5, none⟩ = some (.slice xpyD xpym xpyk) ∧ w'.cell? ⟨w.heap.size, 0, none⟩ = some (p0) ∧ w'.cell? ⟨w.heap.size, 1, none⟩ = some (p1) ∧ w'.cell? ⟨w.heap.size, 2, none⟩ = some (p2) ∧ w'.cell? ⟨w.heap.size, 3, none⟩ = some (p3) ∧ w'.cell? ⟨w.heap.size, 4, none⟩ = some (p4) ∧ w'.cell? ⟨w.heap.size, 5, none⟩ = some (p5))
      (first | (with_reducible exact HKS.out _ HS2.out) | (with_reducible exact HKS.out _ HS1.out) | (with_reducible exact HKS.out _ HS0.out))
      (first
        | (go_at_call 33; have HX := HS1.out; refine (eqP_any u1 u1.heap.size (Nat.le_refl _) (HE.out _ HS1.out) qtt).mono ?_; rintro e u2 ⟨rfl, hb2⟩; have qtt := qtt.up hb2; have ott := ott.below hb2 (by omega); have hz2 : u1.heap.size ≤ u2.heap.size := hb2.size; have HS2 := hide (below_then HX hb2); clear HX)
        | (go_at_call 32; have HX := HS0.out; refine (HCp.out _ HS0.out).mono ?_; rintro e u1 ⟨tt0, tt1, tt2, tt3, tt4, tt5, rfl, ott, hb1⟩; obtain ⟨ttb, ttA, ttn, ttc, ttD, ttm, ttk, ttyb, ttyA, ttyn, ttyc, ttyD, ttym, ttyk, rfl, rfl, rfl, rfl, rfl, rfl⟩ := ott.cut; have ott : POwn u1 w6.heap.size u1.heap.size 3 (.bool ttb) (.slice ttA ttn ttc) (.slice ttD ttm ttk) (.bool ttyb) (.slice ttyA ttyn ttyc) (.slice ttyD ttym ttyk) (pZ) := ott; have qtt := ott.in_ (hpF) (Nat.le_refl _); have hz1 : w6.heap.size ≤ u1.heap.size := hb1.size; have HS1 := hide (below_then HX hb1); clear HX))
  have hb7z := HS2.out
  obtain ⟨w7, hw7⟩ : ∃ x, x = u2 := ⟨_, rfl⟩
  subst hw7
  clear HKS HS0 HS1 HS2 hb1 hb2 hz1 hz2 HBxp HBp HIp ott qtt HCp HE
  clear yxp0 yxp1 yxp2 yxp3 yxp4 yxp5 yp0 yp1 yp2 yp3 yp4 yp5
  have hs7 := hb7z.size
  have hT7 := below_then hT6 hb7z
  have kp := kp.below hb7z kp.lt
  have kxp := kxp.below hb7z kxp.lt
  have hp := hp.below (hb7z.mono (by omega))
  have oxp := oxp.below hb7z (by omega)
  clear hT6
  clear hb7z
  go_wp2
  go_ret
  exact ⟨rfl, hT7⟩
end Go.Proofs.YtnbaookdeijhhaaGreatDoor
