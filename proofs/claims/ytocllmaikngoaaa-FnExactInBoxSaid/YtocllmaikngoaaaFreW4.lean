/-
  The walk of the exact law of InBox.
-/
import Derived.Test.YtocllmaikngoaaaLB
import Derived.Test.YtocllmaikngoaaaPT
import Derived.Test.YtocllmaikngoaaaFreI4
import Derived.Test.YtocllmaikngoaaaFreR4
import Derived.Test.YtocllmaikngoaaaFreB
import Derived.Deep.RegionHeld3
import Derived.Deep.CutRange
import Derived.Sort.AtCall
namespace Go.Proofs.Ytocllmaikngoaaa
open Go.RowKit
set_option linter.unusedVariables false
set_option maxRecDepth 100000 in
set_option maxHeartbeats 16000000 in
theorem FnExactInBox_walk (w : World) (rx ry ru rv : Int) (hrx : (Lit.int .i64 rx).wf = true) (hry : (Lit.int .i64 ry).wf = true) (hru : (Lit.int .i64 ru).wf = true) (hrv : (Lit.int .i64 rv).wf = true) {p0 p1 p2 p3 p4 p5 : Value} (fp : PRow w p0 p1 p2 p3 p4 p5) :
    Calls Try.prog 4 #[.agg #[.int .i64 rx, .int .i64 ry, .int .i64 ru, .int .i64 rv], .agg #[p0, p1, p2, p3, p4, p5]] w fun e w' => e = .returned (.bool true) ∧ Below w.heap.size w w' := by
  obtain ⟨Lp, gp, Jp⟩ := fp.len
  obtain ⟨W0, hW0⟩ : ∃ W0, W0 = ((w.alloc (.cells #[.int .i64 rx, .int .i64 ry, .int .i64 ru, .int .i64 rv] 41)).alloc (.cells #[p0, p1, p2, p3, p4, p5] 48)) := ⟨_, rfl⟩
  have hT0 : Below w.heap.size w W0 := by rw [hW0]; exact below_alloc (below_new _ _) _
  have kr : Box W0 (w.heap.size) 41 #[.int .i64 rx, .int .i64 ry, .int .i64 ru, .int .i64 rv] := by rw [hW0]; exact (Box.last _ _ _ rfl).alloc _
  have kp : Box W0 (w.heap.size + 1) 48 #[p0, p1, p2, p3, p4, p5] := by rw [hW0]; exact Box.last _ _ _ (alloc_size _ _).symm
  have hs0 : W0.heap.size = w.heap.size + 2 := by rw [hW0, alloc_size, alloc_size]
  go_enter Try.func4, Try.ntmps4
  go_upto_region 1 with fail
  rw [← hW0]
  clear hW0
  obtain ⟨yp0, yp1, yp2, yp3, yp4, yp5⟩ := kp.cells6
  go_wp2_with fail
  refine (szP_any W0 gp 1048576 (by omega)).mono ?_
  rintro e w1 ⟨rfl, hb1⟩
  clear yp0 yp1 yp2 yp3 yp4 yp5
  have hs1 := hb1.size
  have hT1 := below_then hT0 hb1
  have kr := kr.below hb1 kr.lt
  have kp := kp.below hb1 kp.lt
  clear hT0
  clear hb1
  by_cases czp : ¬ Lp ≤ 1048576
  · have hle : leftI 1048576 Lp = -1 := if_neg czp
    rw [hle]
    clear hle
    go_wp2_with fail
    go_ret
    exact ⟨rfl, hT1⟩
  have czp := Decidable.not_not.1 czp
  obtain ⟨Mp, hLp⟩ : ∃ L : Nat, L + Lp = 1048576 := ⟨1048576 - Lp, by omega⟩
  have hle : leftI 1048576 Lp = (Mp : Int) := by rw [leftI, if_pos czp]; omega
  rw [hle]
  clear hle
  have hngp : ¬ (Mp : Int) < 0 := by omega
  obtain ⟨pZ, J0⟩ := Jp (by omega)
  have hpF := J0.fit
  have hp := J0.below hT1
  have HLep := hide hLp
  have hLbp : Mp ≤ 1048576 := by omega
  clear hLp czp J0 Jp gp
  go_upto_region 5 with fail
  have HCr := hide (fun (W : World) => toBox_any W rx ry ru rv hrx hry hru hrv)
  have HCp := hide (fun (W : World) (h : Below w1.heap.size w1 W) => toP_any W w.heap.size (by have := h.size; omega) (hp.below (h.mono (by omega))))
  have HBr := hide kr
  have HBp := hide kp
  have HS0 : Hid (Below w1.heap.size w1 w1.drew) := (Below.refl _ _).drew
  have HKS := hide (fun (W : World) (hq : Below w1.heap.size w1 W) => (⟨(HBr.out.below hq HBr.out.lt).cell 0, (HBr.out.below hq HBr.out.lt).cell 1, (HBr.out.below hq HBr.out.lt).cell 2, (HBr.out.below hq HBr.out.lt).cell 3, (HBp.out.below hq HBp.out.lt).cell 0, (HBp.out.below hq HBp.out.lt).cell 1, (HBp.out.below hq HBp.out.lt).cell 2, (HBp.out.below hq HBp.out.lt).cell 3, (HBp.out.below hq HBp.out.lt).cell 4, (HBp.out.below hq HBp.out.lt).cell 5⟩ : W.cell? ⟨w.heap.size, 0, none⟩ = some (.int .i64 rx) ∧ W.cell? ⟨w.heap.size, 1, none⟩ = some (.int .i64 ry) ∧ W.cell? ⟨w.heap.size, 2, none⟩ = some (.int .i64 ru) ∧ W.cell? ⟨w.heap.size, 3, none⟩ = some (.int .i64 rv) ∧ W.cell? ⟨w.heap.size + 1, 0, none⟩ = some (p0) ∧ W.cell? ⟨w.heap.size + 1, 1, none⟩ = some (p1) ∧ W.cell? ⟨w.heap.size + 1, 2, none⟩ = some (p2) ∧ W.cell? ⟨w.heap.size + 1, 3, none⟩ = some (p3) ∧ W.cell? ⟨w.heap.size + 1, 4, none⟩ = some (p4) ∧ W.cell? ⟨w.heap.size + 1, 5, none⟩ = some (p5)))
  have HIp := hide hp
  obtain ⟨yr0, yr1, yr2, yr3⟩ := kr.cells4
  obtain ⟨yp0, yp1, yp2, yp3, yp4, yp5⟩ := kp.cells6
  go_region_held3 (fun w' => w'.cell? ⟨w.heap.size, 0, none⟩ = some (.int .i64 rx) ∧ w'.cell? ⟨w.heap.size, 1, none⟩ = some (.int .i64 ry) ∧ w'.cell? ⟨w.heap.size, 2, none⟩ = some (.int .i64 ru) ∧ w'.cell? ⟨w.heap.size, 3, none⟩ = some (.int .i64 rv) ∧ w'.cell? ⟨w.heap.size + 1, 0, none⟩ = some (p0) ∧ w'.cell? ⟨w.heap.size + 1, 1, none⟩ = some (p1) ∧ w'.cell? ⟨w.heap.size + 1, 2, none⟩ = some (p2) ∧ w'.cell? ⟨w.heap.size + 1, 3, none⟩ = some (p3) ∧ w'.cell? ⟨w.heap.size + 1, 4, none⟩ = some (p4) ∧ w'.cell? ⟨w.heap.size + 1, 5, none⟩ = some (p5))
      (first | (with_reducible exact HKS.out _ HS3.out) | (with_reducible exact HKS.out _ HS2.out) | (with_reducible exact HKS.out _ HS1.out) | (with_reducible exact HKS.out _ HS0.out))
      (first
        | (go_at_call 14; have HX := HS2.out; refine (spec_InBox u2 u2.heap.size (Nat.le_refl _) rx ry ru rv hrx hry hru hrv qtp).mono ?_; rintro e u3 ⟨rfl, hb3⟩; have qtp := qtp.up hb3; have otp := otp.below hb3 (by omega); have hz3 : u2.heap.size ≤ u3.heap.size := hb3.size; have HS3 := hide (below_then HX hb3); clear HX)
        | (go_at_call 16; have HX := HS1.out; refine (HCp.out _ HS1.out).mono ?_; rintro e u2 ⟨tp0, tp1, tp2, tp3, tp4, tp5, rfl, otp, hb2⟩; obtain ⟨tpb, tpA, tpn, tpc, tpD, tpm, tpk, tpyb, tpyA, tpyn, tpyc, tpyD, tpym, tpyk, rfl, rfl, rfl, rfl, rfl, rfl⟩ := otp.cut; have otp : POwn u2 u1.heap.size u2.heap.size 3 (.bool tpb) (.slice tpA tpn tpc) (.slice tpD tpm tpk) (.bool tpyb) (.slice tpyA tpyn tpyc) (.slice tpyD tpym tpyk) (pZ) := otp; have qtp := otp.in_ (hpF) (Nat.le_refl _); have hz2 : u1.heap.size ≤ u2.heap.size := hb2.size; have HS2 := hide (below_then HX hb2); clear HX)
        | (go_at_call 15; have HX := HS0.out; refine (HCr.out _).mono ?_; rintro e u1 ⟨rfl, hb1⟩; have hz1 : w1.heap.size ≤ u1.heap.size := hb1.size; have HS1 := hide (below_then HX hb1); clear HX))
  have hb2z := HS3.out
  obtain ⟨w2, hw2⟩ : ∃ x, x = u3 := ⟨_, rfl⟩
  subst hw2
  clear HKS HS0 HS1 HS2 HS3 hb1 hb2 hb3 hz1 hz2 hz3 HBr HBp HIp otp qtp HCr HCp
  clear yr0 yr1 yr2 yr3 yp0 yp1 yp2 yp3 yp4 yp5
  have hs2 := hb2z.size
  have hT2 := below_then hT1 hb2z
  have kr := kr.below hb2z kr.lt
  have kp := kp.below hb2z kp.lt
  have hp := hp.below (hb2z.mono (by omega))
  clear hT1
  clear hb2z
  obtain ⟨yp0, yp1, yp2, yp3, yp4, yp5⟩ := kp.cells6
  go_wp2_with fail
  refine (toP_any w2 w.heap.size hT2.size hp).mono ?_
  rintro e w3 ⟨xp0, xp1, xp2, xp3, xp4, xp5, rfl, oxp, hb3⟩
  clear yp0 yp1 yp2 yp3 yp4 yp5
  obtain ⟨xpb, xpA, xpn, xpc, xpD, xpm, xpk, xpyb, xpyA, xpyn, xpyc, xpyD, xpym, xpyk, rfl, rfl, rfl, rfl, rfl, rfl⟩ := oxp.cut
  have hs3 := hb3.size
  have hT3 := below_then hT2 hb3
  have kr := kr.below hb3 kr.lt
  have kp := kp.below hb3 kp.lt
  have hp := hp.below (hb3.mono (by omega))
  clear hT2
  clear hb3
  obtain ⟨w4, hw4⟩ : ∃ xw, xw = (w3.alloc (.cells #[.bool xpb, .slice xpA xpn xpc, .slice xpD xpm xpk, .bool xpyb, .slice xpyA xpyn xpyc, .slice xpyD xpym xpyk] 58)) := ⟨_, rfl⟩
  have hb4 : Below w3.heap.size w3 w4 := by rw [hw4]; exact below_new _ _
  have hq4 : w4.heap.size = w3.heap.size + 1 := by rw [hw4, alloc_size]
  have kxp : Box w4 (w3.heap.size) 58 #[.bool xpb, .slice xpA xpn xpc, .slice xpD xpm xpk, .bool xpyb, .slice xpyA xpyn xpyc, .slice xpyD xpym xpyk] := by rw [hw4]; exact Box.last _ _ _ (by omega)
  have hs4 := hb4.size
  have hT4 := below_then hT3 hb4
  have kr := kr.below hb4 kr.lt
  have kp := kp.below hb4 kp.lt
  have hp := hp.below (hb4.mono (by omega))
  have oxp := oxp.below hb4 (by omega)
  clear hT3
  go_upto_region 7 with fail
  rw [← hw4]
  clear hw4 hb4
  go_upto_region 7 with fail
  have HCr := hide (fun (W : World) => toBox_any W rx ry ru rv hrx hry hru hrv)
  have HXp := hide (fun (W : World) (h : Below w4.heap.size w4 W) => (oxp.in_ hpF (show _ ≤ w4.heap.size by omega)).below h |>.wider h.size)
  have HBr := hide kr
  have HBxp := hide kxp
  have HS0 : Hid (Below w4.heap.size w4 w4.drew) := (Below.refl _ _).drew
  have HKS := hide (fun (W : World) (hq : Below w4.heap.size w4 W) => (⟨(HBr.out.below hq HBr.out.lt).cell 0, (HBr.out.below hq HBr.out.lt).cell 1, (HBr.out.below hq HBr.out.lt).cell 2, (HBr.out.below hq HBr.out.lt).cell 3, (HBxp.out.below hq HBxp.out.lt).cell 0, (HBxp.out.below hq HBxp.out.lt).cell 1, (HBxp.out.below hq HBxp.out.lt).cell 2, (HBxp.out.below hq HBxp.out.lt).cell 3, (HBxp.out.below hq HBxp.out.lt).cell 4, (HBxp.out.below hq HBxp.out.lt).cell 5⟩ : W.cell? ⟨w.heap.size, 0, none⟩ = some (.int .i64 rx) ∧ W.cell? ⟨w.heap.size, 1, none⟩ = some (.int .i64 ry) ∧ W.cell? ⟨w.heap.size, 2, none⟩ = some (.int .i64 ru) ∧ W.cell? ⟨w.heap.size, 3, none⟩ = some (.int .i64 rv) ∧ W.cell? ⟨w3.heap.size, 0, none⟩ = some (.bool xpb) ∧ W.cell? ⟨w3.heap.size, 1, none⟩ = some (.slice xpA xpn xpc) ∧ W.cell? ⟨w3.heap.size, 2, none⟩ = some (.slice xpD xpm xpk) ∧ W.cell? ⟨w3.heap.size, 3, none⟩ = some (.bool xpyb) ∧ W.cell? ⟨w3.heap.size, 4, none⟩ = some (.slice xpyA xpyn xpyc) ∧ W.cell? ⟨w3.heap.size, 5, none⟩ = some (.slice xpyD xpym xpyk)))
  have HIp := hide hp
  obtain ⟨yr0, yr1, yr2, yr3⟩ := kr.cells4
  obtain ⟨yxp0, yxp1, yxp2, yxp3, yxp4, yxp5⟩ := kxp.cells6
  go_region_held3 (fun w' => w'.cell? ⟨w.heap.size, 0, none⟩ = some (.int .i64 rx) ∧ w'.cell? ⟨w.heap.size, 1, none⟩ = some (.int .i64 ry) ∧ w'.cell? ⟨w.heap.size, 2, none⟩ = some (.int .i64 ru) ∧ w'.cell? ⟨w.heap.size, 3, none⟩ = some (.int .i64 rv) ∧ w'.cell? ⟨w3.heap.size, 0, none⟩ = some (.bool xpb) ∧ w'.cell? ⟨w3.heap.size, 1, none⟩ = some (.slice xpA xpn xpc) ∧ w'.cell? ⟨w3.heap.size, 2, none⟩ = some (.slice xpD xpm xpk) ∧ w'.cell? ⟨w3.heap.size, 3, none⟩ = some (.bool xpyb) ∧ w'.cell? ⟨w3.heap.size, 4, none⟩ = some (.slice xpyA xpyn xpyc) ∧ w'.cell? ⟨w3.heap.size, 5, none⟩ = some (.slice xpyD xpym xpyk))
      (first | (with_reducible exact HKS.out _ HS2.out) | (with_reducible exact HKS.out _ HS1.out) | (with_reducible exact HKS.out _ HS0.out))
      (first
        | (go_at_call 17; have HX := HS1.out; refine (impl_InBox u1 u1.heap.size (Nat.le_refl _) rx ry ru rv hrx hry hru hrv (HXp.out _ HS1.out)).mono ?_; rintro e u2 ⟨rfl, hb2⟩; have hz2 : u1.heap.size ≤ u2.heap.size := hb2.size; have HS2 := hide (below_then HX hb2); clear HX)
        | (go_at_call 15; have HX := HS0.out; refine (HCr.out _).mono ?_; rintro e u1 ⟨rfl, hb1⟩; have hz1 : w4.heap.size ≤ u1.heap.size := hb1.size; have HS1 := hide (below_then HX hb1); clear HX))
  have hb5z := HS2.out
  obtain ⟨w5, hw5⟩ : ∃ x, x = u2 := ⟨_, rfl⟩
  subst hw5
  clear HKS HS0 HS1 HS2 hb1 hb2 hz1 hz2 HBr HBxp HIp HCr HXp
  clear yr0 yr1 yr2 yr3 yxp0 yxp1 yxp2 yxp3 yxp4 yxp5
  have hs5 := hb5z.size
  have hT5 := below_then hT4 hb5z
  have kr := kr.below hb5z kr.lt
  have kp := kp.below hb5z kp.lt
  have kxp := kxp.below hb5z kxp.lt
  have hp := hp.below (hb5z.mono (by omega))
  have oxp := oxp.below hb5z (by omega)
  clear hT4
  clear hb5z
  go_upto_region 10 with fail
  have HCp := hide (fun (W : World) (h : Below w5.heap.size w5 W) => toP_any W w.heap.size (by have := h.size; omega) (hp.below (h.mono (by omega))))
  have HE := hide (fun (W : World) (h : Below w5.heap.size w5 W) => ((oxp.in_ hpF (show _ ≤ w5.heap.size by omega)).below h).wider h.size)
  have HBxp := hide kxp
  have HBp := hide kp
  have HS0 : Hid (Below w5.heap.size w5 w5.drew) := (Below.refl _ _).drew
  have HKS := hide (fun (W : World) (hq : Below w5.heap.size w5 W) => (⟨(HBxp.out.below hq HBxp.out.lt).cell 0, (HBxp.out.below hq HBxp.out.lt).cell 1, (HBxp.out.below hq HBxp.out.lt).cell 2, (HBxp.out.below hq HBxp.out.lt).cell 3, (HBxp.out.below hq HBxp.out.lt).cell 4, (HBxp.out.below hq HBxp.out.lt).cell 5, (HBp.out.below hq HBp.out.lt).cell 0, (HBp.out.below hq HBp.out.lt).cell 1, (HBp.out.below hq HBp.out.lt).cell 2, (HBp.out.below hq HBp.out.lt).cell 3, (HBp.out.below hq HBp.out.lt).cell 4, (HBp.out.below hq HBp.out.lt).cell 5⟩ : W.cell? ⟨w3.heap.size, 0, none⟩ = some (.bool xpb) ∧ W.cell? ⟨w3.heap.size, 1, none⟩ = some (.slice xpA xpn xpc) ∧ W.cell? ⟨w3.heap.size, 2, none⟩ = some (.slice xpD xpm xpk) ∧ W.cell? ⟨w3.heap.size, 3, none⟩ = some (.bool xpyb) ∧ W.cell? ⟨w3.heap.size, 4, none⟩ = some (.slice xpyA xpyn xpyc) ∧ W.cell? ⟨w3.heap.size, 5, none⟩ = some (.slice xpyD xpym xpyk) ∧ W.cell? ⟨w.heap.size + 1, 0, none⟩ = some (p0) ∧ W.cell? ⟨w.heap.size + 1, 1, none⟩ = some (p1) ∧ W.cell? ⟨w.heap.size + 1, 2, none⟩ = some (p2) ∧ W.cell? ⟨w.heap.size + 1, 3, none⟩ = some (p3) ∧ W.cell? ⟨w.heap.size + 1, 4, none⟩ = some (p4) ∧ W.cell? ⟨w.heap.size + 1, 5, none⟩ = some (p5)))
  have HIp := hide hp
  obtain ⟨yxp0, yxp1, yxp2, yxp3, yxp4, yxp5⟩ := kxp.cells6
  obtain ⟨yp0, yp1, yp2, yp3, yp4, yp5⟩ := kp.cells6
  go_region_held3 (fun w' => w'.cell? ⟨w3.heap.size, 0, none⟩ = some (.bool xpb) ∧ w'.cell? ⟨w3.heap.size, 1, none⟩ = some (.slice xpA xpn xpc) ∧ w'.cell? ⟨w3.heap.size, 2, none⟩ = some (.slice xpD xpm xpk) ∧ w'.cell? ⟨w3.heap.size, 3, none⟩ = some (.bool xpyb) ∧ w'.cell? ⟨w3.heap.size, 4, none⟩ = some (.slice xpyA xpyn xpyc) ∧ w'.cell? ⟨w3.heap.size, 5, none⟩ = some (.slice xpyD xpym xpyk) ∧ w'.cell? ⟨w.heap.size + 1, 0, none⟩ = some (p0) ∧ w'.cell? ⟨w.heap.size + 1, 1, none⟩ = some (p1) ∧ w'.cell? ⟨w.heap.size + 1, 2, none⟩ = some (p2) ∧ w'.cell? ⟨w.heap.size + 1, 3, none⟩ = some (p3) ∧ w'.cell? ⟨w.heap.size + 1, 4, none⟩ = some (p4) ∧ w'.cell? ⟨w.heap.size + 1, 5, none⟩ = some (p5))
      (first | (with_reducible exact HKS.out _ HS2.out) | (with_reducible exact HKS.out _ HS1.out) | (with_reducible exact HKS.out _ HS0.out))
      (first
        | (go_at_call 18; have HX := HS1.out; refine (eqP_any u1 u1.heap.size (Nat.le_refl _) (HE.out _ HS1.out) qtt).mono ?_; rintro e u2 ⟨rfl, hb2⟩; have qtt := qtt.up hb2; have ott := ott.below hb2 (by omega); have hz2 : u1.heap.size ≤ u2.heap.size := hb2.size; have HS2 := hide (below_then HX hb2); clear HX)
        | (go_at_call 16; have HX := HS0.out; refine (HCp.out _ HS0.out).mono ?_; rintro e u1 ⟨tt0, tt1, tt2, tt3, tt4, tt5, rfl, ott, hb1⟩; obtain ⟨ttb, ttA, ttn, ttc, ttD, ttm, ttk, ttyb, ttyA, ttyn, ttyc, ttyD, ttym, ttyk, rfl, rfl, rfl, rfl, rfl, rfl⟩ := ott.cut; have ott : POwn u1 w5.heap.size u1.heap.size 3 (.bool ttb) (.slice ttA ttn ttc) (.slice ttD ttm ttk) (.bool ttyb) (.slice ttyA ttyn ttyc) (.slice ttyD ttym ttyk) (pZ) := ott; have qtt := ott.in_ (hpF) (Nat.le_refl _); have hz1 : w5.heap.size ≤ u1.heap.size := hb1.size; have HS1 := hide (below_then HX hb1); clear HX))
  have hb6z := HS2.out
  obtain ⟨w6, hw6⟩ : ∃ x, x = u2 := ⟨_, rfl⟩
  subst hw6
  clear HKS HS0 HS1 HS2 hb1 hb2 hz1 hz2 HBxp HBp HIp ott qtt HCp HE
  clear yxp0 yxp1 yxp2 yxp3 yxp4 yxp5 yp0 yp1 yp2 yp3 yp4 yp5
  have hs6 := hb6z.size
  have hT6 := below_then hT5 hb6z
  have kr := kr.below hb6z kr.lt
  have kp := kp.below hb6z kp.lt
  have kxp := kxp.below hb6z kxp.lt
  have hp := hp.below (hb6z.mono (by omega))
  have oxp := oxp.below hb6z (by omega)
  clear hT5
  clear hb6z
  go_wp2
  go_ret
  exact ⟨rfl, hT6⟩
end Go.Proofs.Ytocllmaikngoaaa
