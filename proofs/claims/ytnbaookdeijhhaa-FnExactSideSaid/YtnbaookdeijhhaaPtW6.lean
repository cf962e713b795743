/-
  The walk of the exact law of Side.
-/
import Derived.Test.YtnbaookdeijhhaaPtS
import Derived.Test.YtnbaookdeijhhaaPtR2
import Derived.Test.YtnbaookdeijhhaaPtI3
import Derived.Deep.RegionHeld3
import Derived.Deep.CutRange
import Derived.Sort.AtCall
namespace Go.Proofs.Ytnbaookdeijhhaa
open Go.RowKit
set_option linter.unusedVariables false
set_option maxRecDepth 100000 in
set_option maxHeartbeats 16000000 in
theorem FnExactSide_walk (w : World) {p0 p1 p2 p3 p4 p5 : Value} (fp : PRow w p0 p1 p2 p3 p4 p5) {q0 q1 q2 q3 q4 q5 : Value} (fq : PRow w q0 q1 q2 q3 q4 q5) {r0 r1 r2 r3 r4 r5 : Value} (fr : PRow w r0 r1 r2 r3 r4 r5) :
    Calls Try.prog 8 #[.agg #[p0, p1, p2, p3, p4, p5], .agg #[q0, q1, q2, q3, q4, q5], .agg #[r0, r1, r2, r3, r4, r5]] w fun e w' => e = .returned (.bool true) ∧ Below w.heap.size w w' := by
  obtain ⟨Lp, gp, Jp⟩ := fp.len
  obtain ⟨Lq, gq, Jq⟩ := fq.len
  obtain ⟨Lr, gr, Jr⟩ := fr.len
  obtain ⟨W0, hW0⟩ : ∃ W0, W0 = (((w.alloc (.cells #[p0, p1, p2, p3, p4, p5] 34)).alloc (.cells #[q0, q1, q2, q3, q4, q5] 34)).alloc (.cells #[r0, r1, r2, r3, r4, r5] 34)) := ⟨_, rfl⟩
  have hT0 : Below w.heap.size w W0 := by rw [hW0]; exact below_alloc (below_alloc (below_new _ _) _) _
  have kp : Box W0 (w.heap.size) 34 #[p0, p1, p2, p3, p4, p5] := by rw [hW0]; exact ((Box.last _ _ _ rfl).alloc _).alloc _
  have kq : Box W0 (w.heap.size + 1) 34 #[q0, q1, q2, q3, q4, q5] := by rw [hW0]; exact (Box.last _ _ _ (alloc_size _ _).symm).alloc _
  have kr : Box W0 (w.heap.size + 2) 34 #[r0, r1, r2, r3, r4, r5] := by rw [hW0]; exact Box.last _ _ _ (by rw [alloc_size, alloc_size])
  have hs0 : W0.heap.size = w.heap.size + 3 := by rw [hW0, alloc_size, alloc_size, alloc_size]
  go_enter Try.func8, Try.ntmps8
  go_upto_region 1 with fail
  rw [← hW0]
  clear hW0
  obtain ⟨yp0, yp1, yp2, yp3, yp4, yp5⟩ := kp.cells6
  go_wp2_with fail
  refine (szP_any W0 gp 1048576 (by omega)).mono ?_
  rintro e w1 ⟨rfl, hb1⟩
  clear yp0 yp1 yp2 yp3 yp4 yp5
  have hs1 := hb1.size
  have hT1 := below_then hT0 hb1
  have kp := kp.below hb1 kp.lt
  have kq := kq.below hb1 kq.lt
  have kr := kr.below hb1 kr.lt
  clear hT0
  clear hb1
  by_cases czp : ¬ Lp ≤ 1048576
  · have hle : leftI 1048576 Lp = -1 := if_neg czp
    rw [hle]
    clear hle
    go_wp2_with fail
    go_ret
    exact ⟨rfl, hT1⟩
  have czp := Decidable.not_not.1 czp
  obtain ⟨Mp, hLp⟩ : ∃ L : Nat, L + Lp = 1048576 := ⟨1048576 - Lp, by omega⟩
  have hle : leftI 1048576 Lp = (Mp : Int) := by rw [leftI, if_pos czp]; omega
  rw [hle]
  clear hle
  have hngp : ¬ (Mp : Int) < 0 := by omega
  obtain ⟨pZ, J0⟩ := Jp (by omega)
  have hpF := J0.fit
  have hp := J0.below hT1
  have HLep := hide hLp
  have hLbp : Mp ≤ 1048576 := by omega
  clear hLp czp J0 Jp gp
  obtain ⟨yq0, yq1, yq2, yq3, yq4, yq5⟩ := kq.cells6
  go_wp2_with fail
  refine (szP_any w1 gq Mp (by omega)).mono ?_
  rintro e w2 ⟨rfl, hb2⟩
  clear yq0 yq1 yq2 yq3 yq4 yq5
  have hs2 := hb2.size
  have hT2 := below_then hT1 hb2
  have kp := kp.below hb2 kp.lt
  have kq := kq.below hb2 kq.lt
  have kr := kr.below hb2 kr.lt
  have hp := hp.below (hb2.mono (by omega))
  clear hT1
  clear hb2
  by_cases czq : ¬ Lq ≤ Mp
  · have hle : leftI Mp Lq = -1 := if_neg czq
    rw [hle]
    clear hle
    go_wp2_with fail
    go_ret
    exact ⟨rfl, hT2⟩
  have czq := Decidable.not_not.1 czq
  obtain ⟨Mq, hLq⟩ : ∃ L : Nat, L + Lq = Mp := ⟨Mp - Lq, by omega⟩
  have hle : leftI Mp Lq = (Mq : Int) := by rw [leftI, if_pos czq]; omega
  rw [hle]
  clear hle
  have hngq : ¬ (Mq : Int) < 0 := by omega
  obtain ⟨qZ, J0⟩ := Jq (by omega)
  have hqF := J0.fit
  have hq := J0.below hT2
  have HLeq := hide hLq
  have hLbq : Mq ≤ 1048576 := by omega
  clear hLq czq J0 Jq gq
  obtain ⟨yr0, yr1, yr2, yr3, yr4, yr5⟩ := kr.cells6
  go_wp2_with fail
  refine (szP_any w2 gr Mq (by omega)).mono ?_
  rintro e w3 ⟨rfl, hb3⟩
  clear yr0 yr1 yr2 yr3 yr4 yr5
  have hs3 := hb3.size
  have hT3 := below_then hT2 hb3
  have kp := kp.below hb3 kp.lt
  have kq := kq.below hb3 kq.lt
  have kr := kr.below hb3 kr.lt
  have hp := hp.below (hb3.mono (by omega))
  have hq := hq.below (hb3.mono (by omega))
  clear hT2
  clear hb3
  by_cases czr : ¬ Lr ≤ Mq
  · have hle : leftI Mq Lr = -1 := if_neg czr
    rw [hle]
    clear hle
    go_wp2_with fail
    go_ret
    exact ⟨rfl, hT3⟩
  have czr := Decidable.not_not.1 czr
  obtain ⟨Mr, hLr⟩ : ∃ L : Nat, L + Lr = Mq := ⟨Mq - Lr, by omega⟩
  have hle : leftI Mq Lr = (Mr : Int) := by rw [leftI, if_pos czr]; omega
  rw [hle]
  clear hle
  have hngr : ¬ (Mr : Int) < 0 := by omega
  obtain ⟨rZ, J0⟩ := Jr (by omega)
  have hrF := J0.fit
  have hr := J0.below hT3
  have HLer := hide hLr
  have hLbr : Mr ≤ 1048576 := by omega
  clear hLr czr J0 Jr gr
  go_upto_region 11 with fail
  have HCp := hide (fun (W : World) (h : Below w3.heap.size w3 W) => toP_any W w.heap.size (by have := h.size; omega) (hp.below (h.mono (by omega))))
  have HCq := hide (fun (W : World) (h : Below w3.heap.size w3 W) => toP_any W w.heap.size (by have := h.size; omega) (hq.below (h.mono (by omega))))
  have HCr := hide (fun (W : World) (h : Below w3.heap.size w3 W) => toP_any W w.heap.size (by have := h.size; omega) (hr.below (h.mono (by omega))))
  have HBp := hide kp
  have HBq := hide kq
  have HBr := hide kr
  have HS0 : Hid (Below w3.heap.size w3 w3.drew) := (Below.refl _ _).drew
  have HKS := hide (fun (W : World) (hq : Below w3.heap.size w3 W) => (⟨(HBp.out.below hq HBp.out.lt).cell 0, (HBp.out.below hq HBp.out.lt).cell 1, (HBp.out.below hq HBp.out.lt).cell 2, (HBp.out.below hq HBp.out.lt).cell 3, (HBp.out.below hq HBp.out.lt).cell 4, (HBp.out.below hq HBp.out.lt).cell 5, (HBq.out.below hq HBq.out.lt).cell 0, (HBq.out.below hq HBq.out.lt).cell 1, (HBq.out.below hq HBq.out.lt).cell 2, (HBq.out.below hq HBq.out.lt).cell 3, (HBq.out.below hq HBq.out.lt).cell 4, (HBq.out.below hq HBq.out.lt).cell 5, (HBr.out.below hq HBr.out.lt).cell 0, (HBr.out.below hq HBr.out.lt).cell 1, (HBr.out.below hq HBr.out.lt).cell 2, (HBr.out.below hq HBr.out.lt).cell 3, (HBr.out.below hq HBr.out.lt).cell 4, (HBr.out.below hq HBr.out.lt).cell 5⟩ : W.cell? ⟨w.heap.size, 0, none⟩ = some (p0) ∧ W.cell? ⟨w.heap.size, 1, none⟩ = some (p1) ∧ W.cell? ⟨w.heap.size, 2, none⟩ = some (p2) ∧ W.cell? ⟨w.heap.size, 3, none⟩ = some (p3) ∧ W.cell? ⟨w.heap.size, 4, none⟩ = some (p4) ∧ W.cell? ⟨w.heap.size, 5, none⟩ = some (p5) ∧ W.cell? ⟨w.heap.size + 1, 0, none⟩ = some (q0) ∧ W.cell? ⟨w.heap.size + 1, 1, none⟩ = some (q1) ∧ W.cell? ⟨w.heap.size + 1, 2, none⟩ = some (q2) ∧ W.cell? ⟨w.heap.size + 1, 3, none⟩ = some (q3) ∧ W.cell? ⟨w.heap.size + 1, 4, none⟩ = some (q4) ∧ W.cell? ⟨w.heap.size + 1, 5, none⟩ = some (q5) ∧ W.cell? ⟨w.heap.size + 2, 0, none⟩ = some (r0) ∧ W.cell? ⟨w.heap.size + 2, 1, none⟩ = some (r1) ∧ W.cell? ⟨w.heap.size + 2, 2, none⟩ = some (r2) ∧ W.cell? ⟨w.heap.size + 2, 3, none⟩ = some (r3) ∧ W.cell? ⟨w.heap.size + 2, 4, none⟩ = some (r4) ∧ W.cell? ⟨w.heap.size + 2, 5, none⟩ = some (r5)))
  have HIp := hide hp
  have HIq := hide hq
  have HIr := hide hr
  obtain ⟨yp0, yp1, yp2, yp3, yp4, yp5⟩ := kp.cells6
  obtain ⟨yq0, yq1, yq2, yq3, yq4, yq5⟩ := kq.cells6
  obtain ⟨yr0, yr1, yr2, yr3, yr4, yr5⟩ := kr.cells6
  go_region_held3 (fun w' => w'.cell? ⟨w.heap.size, 0, none⟩ = some (p0) ∧ w'.cell? ⟨w.heap.size, 1, none⟩ = some (p1) ∧ w'.cell? ⟨w.heap.size, 2, none⟩ = some (p2) ∧ w'.cell? ⟨w.heap.size, 3, none⟩ = some (p3) ∧ w'.cell? ⟨w.heap.size, 4, none⟩ = some (p4) ∧ w'.cell? ⟨w.heap.size, 5, none⟩ = some (p5) ∧ w'.cell? ⟨w.heap.size + 1, 0, none⟩ = some (q0) ∧ w'.cell? ⟨w.heap.size + 1, 1, none⟩ = some (q1) ∧ w'.cell? ⟨w.heap.size + 1, 2, none⟩ = some (q2) ∧ w'.cell? ⟨w.heap.size + 1, 3, none⟩ = some (q3) ∧ w'.cell? ⟨w.heap.size + 1, 4, none⟩ = some (q4) ∧ w'.cell? ⟨w.heap.size + 1, 5, none⟩ = some (q5) ∧ w'.cell? ⟨w.heap.size + 2, 0, none⟩ = some (r0) ∧ w'.cell? ⟨w.heap.size + 2, 1, none⟩ = some (r1) ∧ w'.cell? ⟨w.heap.size + 2, 2, none⟩ = some (r2) ∧ w'.cell? ⟨w.heap.size + 2, 3, none⟩ = some (r3) ∧ w'.cell? ⟨w.heap.size + 2, 4, none⟩ = some (r4) ∧ w'.cell? ⟨w.heap.size + 2, 5, none⟩ = some (r5))
      (first | (with_reducible exact HKS.out _ HS4.out) | (with_reducible exact HKS.out _ HS3.out) | (with_reducible exact HKS.out _ HS2.out) | (with_reducible exact HKS.out _ HS1.out) | (with_reducible exact HKS.out _ HS0.out))
      (first
        | (go_at_call 27; have HX := HS3.out; refine (spec_Side u3 u3.heap.size (Nat.le_refl _) qtp qtq qtr).mono ?_; rintro e u4 ⟨rfl, hb4⟩; have qtp := qtp.up hb4; have otp := otp.below hb4 (by omega); have qtq := qtq.up hb4; have otq := otq.below hb4 (by omega); have qtr := qtr.up hb4; have otr := otr.below hb4 (by omega); have hz4 : u3.heap.size ≤ u4.heap.size := hb4.size; have HS4 := hide (below_then HX hb4); clear HX)
        | (go_at_call 16; have HX := HS2.out; refine (HCr.out _ HS2.out).mono ?_; rintro e u3 ⟨tr0, tr1, tr2, tr3, tr4, tr5, rfl, otr, hb3⟩; obtain ⟨trb, trA, trn, trc, trD, trm, trk, tryb, tryA, tryn, tryc, tryD, trym, tryk, rfl, rfl, rfl, rfl, rfl, rfl⟩ := otr.cut; have otr : POwn u3 u2.heap.size u3.heap.size 3 (.bool trb) (.slice trA trn trc) (.slice trD trm trk) (.bool tryb) (.slice tryA tryn tryc) (.slice tryD trym tryk) (rZ) := otr; have qtr := otr.in_ (hrF) (Nat.le_refl _); have qtp := qtp.up hb3; have otp := otp.below hb3 (by omega); have qtq := qtq.up hb3; have otq := otq.below hb3 (by omega); have hz3 : u2.heap.size ≤ u3.heap.size := hb3.size; have HS3 := hide (below_then HX hb3); clear HX)
        | (go_at_call 16; have HX := HS1.out; refine (HCq.out _ HS1.out).mono ?_; rintro e u2 ⟨tq0, tq1, tq2, tq3, tq4, tq5, rfl, otq, hb2⟩; obtain ⟨tqb, tqA, tqn, tqc, tqD, tqm, tqk, tqyb, tqyA, tqyn, tqyc, tqyD, tqym, tqyk, rfl, rfl, rfl, rfl, rfl, rfl⟩ := otq.cut; have otq : POwn u2 u1.heap.size u2.heap.size 3 (.bool tqb) (.slice tqA tqn tqc) (.slice tqD tqm tqk) (.bool tqyb) (.slice tqyA tqyn tqyc) (.slice tqyD tqym tqyk) (qZ) := otq; have qtq := otq.in_ (hqF) (Nat.le_refl _); have qtp := qtp.up hb2; have otp := otp.below hb2 (by omega); have hz2 : u1.heap.size ≤ u2.heap.size := hb2.size; have HS2 := hide (below_then HX hb2); clear HX)
        | (go_at_call 16; have HX := HS0.out; refine (HCp.out _ HS0.out).mono ?_; rintro e u1 ⟨tp0, tp1, tp2, tp3, tp4, tp5, rfl, otp, hb1⟩; obtain ⟨tpb, tpA, tpn, tpc, tpD, tpm, tpk, tpyb, tpyA, tpyn, tpyc, tpyD, tpym, tpyk, rfl, rfl, rfl, rfl, rfl, rfl⟩ := otp.cut; have otp : POwn u1 w3.heap.size u1.heap.size 3 (.bool tpb) (.slice tpA tpn tpc) (.slice tpD tpm tpk) (.bool tpyb) (.slice tpyA tpyn tpyc) (.slice tpyD tpym tpyk) (pZ) := otp; have qtp := otp.in_ (hpF) (Nat.le_refl _); have hz1 : w3.heap.size ≤ u1.heap.size := hb1.size; have HS1 := hide (below_then HX hb1); clear HX))
  have hb4z := HS4.out
  obtain ⟨w4, hw4⟩ : ∃ x, x = u4 := ⟨_, rfl⟩
  subst hw4
  clear HKS HS0 HS1 HS2 HS3 HS4 hb1 hb2 hb3 hb4 hz1 hz2 hz3 hz4 HBp HBq HBr HIp HIq HIr otp qtp otq qtq otr qtr HCp HCq HCr
  clear yp0 yp1 yp2 yp3 yp4 yp5 yq0 yq1 yq2 yq3 yq4 yq5 yr0 yr1 yr2 yr3 yr4 yr5
  have hs4 := hb4z.size
  have hT4 := below_then hT3 hb4z
  have kp := kp.below hb4z kp.lt
  have kq := kq.below hb4z kq.lt
  have kr := kr.below hb4z kr.lt
  have hp := hp.below (hb4z.mono (by omega))
  have hq := hq.below (hb4z.mono (by omega))
  have hr := hr.below (hb4z.mono (by omega))
  clear hT3
  clear hb4z
  obtain ⟨yp0, yp1, yp2, yp3, yp4, yp5⟩ := kp.cells6
  go_wp2_with fail
  refine (toP_any w4 w.heap.size hT4.size hp).mono ?_
  rintro e w5 ⟨xp0, xp1, xp2, xp3, xp4, xp5, rfl, oxp, hb5⟩
  clear yp0 yp1 yp2 yp3 yp4 yp5
  obtain ⟨xpb, xpA, xpn, xpc, xpD, xpm, xpk, xpyb, xpyA, xpyn, xpyc, xpyD, xpym, xpyk, rfl, rfl, rfl, rfl, rfl, rfl⟩ := oxp.cut
  have hs5 := hb5.size
  have hT5 := below_then hT4 hb5
  have kp := kp.below hb5 kp.lt
  have kq := kq.below hb5 kq.lt
  have kr := kr.below hb5 kr.lt
  have hp := hp.below (hb5.mono (by omega))
  have hq := hq.below (hb5.mono (by omega))
  have hr := hr.below (hb5.mono (by omega))
  clear hT4
  clear hb5
  obtain ⟨w6, hw6⟩ : ∃ xw, xw = (w5.alloc (.cells #[.bool xpb, .slice xpA xpn xpc, .slice xpD xpm xpk, .bool xpyb, .slice xpyA xpyn xpyc, .slice xpyD xpym xpyk] 41)) := ⟨_, rfl⟩
  have hb6 : Below w5.heap.size w5 w6 := by rw [hw6]; exact below_new _ _
  have hq6 : w6.heap.size = w5.heap.size + 1 := by rw [hw6, alloc_size]
  have kxp : Box w6 (w5.heap.size) 41 #[.bool xpb, .slice xpA xpn xpc, .slice xpD xpm xpk, .bool xpyb, .slice xpyA xpyn xpyc, .slice xpyD xpym xpyk] := by rw [hw6]; exact Box.last _ _ _ (by omega)
  have hs6 := hb6.size
  have hT6 := below_then hT5 hb6
  have kp := kp.below hb6 kp.lt
  have kq := kq.below hb6 kq.lt
  have kr := kr.below hb6 kr.lt
  have hp := hp.below (hb6.mono (by omega))
  have hq := hq.below (hb6.mono (by omega))
  have hr := hr.below (hb6.mono (by omega))
  have oxp := oxp.below hb6 (by omega)
  clear hT5
  go_upto_region 13 with fail
  rw [← hw6]
  clear hw6 hb6
  obtain ⟨yq0, yq1, yq2, yq3, yq4, yq5⟩ := kq.cells6
  go_wp2_with fail
  refine (toP_any w6 w.heap.size hT6.size hq).mono ?_
  rintro e w7 ⟨xq0, xq1, xq2, xq3, xq4, xq5, rfl, oxq, hb7⟩
  clear yq0 yq1 yq2 yq3 yq4 yq5
  obtain ⟨xqb, xqA, xqn, xqc, xqD, xqm, xqk, xqyb, xqyA, xqyn, xqyc, xqyD, xqym, xqyk, rfl, rfl, rfl, rfl, rfl, rfl⟩ := oxq.cut
  have hs7 := hb7.size
  have hT7 := below_then hT6 hb7
  have kp := kp.below hb7 kp.lt
  have kq := kq.below hb7 kq.lt
  have kr := kr.below hb7 kr.lt
  have kxp := kxp.below hb7 kxp.lt
  have hp := hp.below (hb7.mono (by omega))
  have hq := hq.below (hb7.mono (by omega))
  have hr := hr.below (hb7.mono (by omega))
  have oxp := oxp.below hb7 (by omega)
  clear hT6
  clear hb7
  obtain ⟨w8, hw8⟩ : ∃ xw, xw = (w7.alloc (.cells #[.bool xqb, .slice xqA xqn xqc, .slice xqD xqm xqk, .bool xqyb, .slice xqyA xqyn xqyc, .slice xqyD xqym xqyk] 41)) := ⟨_, rfl⟩
  have hb8 : Below w7.heap.size w7 w8 := by rw [hw8]; exact below_new _ _
  have hq8 : w8.heap.size = w7.heap.size + 1 := by rw [hw8, alloc_size]
  have kxq : Box w8 (w7.heap.size) 41 #[.bool xqb, .slice xqA xqn xqc, .slice xqD xqm xqk, .bool xqyb, .slice xqyA xqyn xqyc, .slice xqyD xqym xqyk] := by rw [hw8]; exact Box.last _ _ _ (by omega)
  have hs8 := hb8.size
  have hT8 := below_then hT7 hb8
  have kp := kp.below hb8 kp.lt
  have kq := kq.below hb8 kq.lt
  have kr := kr.below hb8 kr.lt
  have kxp := kxp.below hb8 kxp.lt
  have hp := hp.below (hb8.mono (by omega))
  have hq := hq.below (hb8.mono (by omega))
  have hr := hr.below (hb8.mono (by omega))
  have oxp := oxp.below hb8 (by omega)
  have oxq := oxq.below hb8 (by omega)
  clear hT7
  go_upto_region 14 with fail
  rw [← hw8]
  clear hw8 hb8
  obtain ⟨yr0, yr1, yr2, yr3, yr4, yr5⟩ := kr.cells6
  go_wp2_with fail
  refine (toP_any w8 w.heap.size hT8.size hr).mono ?_
  rintro e w9 ⟨xr0, xr1, xr2, xr3, xr4, xr5, rfl, oxr, hb9⟩
  clear yr0 yr1 yr2 yr3 yr4 yr5
  obtain ⟨xrb, xrA, xrn, xrc, xrD, xrm, xrk, xryb, xryA, xryn, xryc, xryD, xrym, xryk, rfl, rfl, rfl, rfl, rfl, rfl⟩ := oxr.cut
  have hs9 := hb9.size
  have hT9 := below_then hT8 hb9
  have kp := kp.below hb9 kp.lt
  have kq := kq.below hb9 kq.lt
  have kr := kr.below hb9 kr.lt
  have kxp := kxp.below hb9 kxp.lt
  have kxq := kxq.below hb9 kxq.lt
  have hp := hp.below (hb9.mono (by omega))
  have hq := hq.below (hb9.mono (by omega))
  have hr := hr.below (hb9.mono (by omega))
  have oxp := oxp.below hb9 (by omega)
  have oxq := oxq.below hb9 (by omega)
  clear hT8
  clear hb9
  obtain ⟨w10, hw10⟩ : ∃ xw, xw = (w9.alloc (.cells #[.bool xrb, .slice xrA xrn xrc, .slice xrD xrm xrk, .bool xryb, .slice xryA xryn xryc, .slice xryD xrym xryk] 41)) := ⟨_, rfl⟩
  have hb10 : Below w9.heap.size w9 w10 := by rw [hw10]; exact below_new _ _
  have hq10 : w10.heap.size = w9.heap.size + 1 := by rw [hw10, alloc_size]
  have kxr : Box w10 (w9.heap.size) 41 #[.bool xrb, .slice xrA xrn xrc, .slice xrD xrm xrk, .bool xryb, .slice xryA xryn xryc, .slice xryD xrym xryk] := by rw [hw10]; exact Box.last _ _ _ (by omega)
  have hs10 := hb10.size
  have hT10 := below_then hT9 hb10
  have kp := kp.below hb10 kp.lt
  have kq := kq.below hb10 kq.lt
  have kr := kr.below hb10 kr.lt
  have kxp := kxp.below hb10 kxp.lt
  have kxq := kxq.below hb10 kxq.lt
  have hp := hp.below (hb10.mono (by omega))
  have hq := hq.below (hb10.mono (by omega))
  have hr := hr.below (hb10.mono (by omega))
  have oxp := oxp.below hb10 (by omega)
  have oxq := oxq.below hb10 (by omega)
  have oxr := oxr.below hb10 (by omega)
  clear hT9
  go_upto_region 15 with fail
  rw [← hw10]
  clear hw10 hb10
  obtain ⟨yxp0, yxp1, yxp2, yxp3, yxp4, yxp5⟩ := kxp.cells6
  obtain ⟨yxq0, yxq1, yxq2, yxq3, yxq4, yxq5⟩ := kxq.cells6
  obtain ⟨yxr0, yxr1, yxr2, yxr3, yxr4, yxr5⟩ := kxr.cells6
  go_wp2_with fail
  refine (impl_Side w10 w10.heap.size (Nat.le_refl _) (oxp.in_ hpF (by omega)) (oxq.in_ hqF (by omega)) (oxr.in_ hrF (by omega))).mono ?_
  rintro e w11 ⟨rfl, hb11⟩
  clear yxp0 yxp1 yxp2 yxp3 yxp4 yxp5 yxq0 yxq1 yxq2 yxq3 yxq4 yxq5 yxr0 yxr1 yxr2 yxr3 yxr4 yxr5
  have hs11 := hb11.size
  have hT11 := below_then hT10 hb11
  have kp := kp.below hb11 kp.lt
  have kq := kq.below hb11 kq.lt
  have kr := kr.below hb11 kr.lt
  have kxp := kxp.below hb11 kxp.lt
  have kxq := kxq.below hb11 kxq.lt
  have kxr := kxr.below hb11 kxr.lt
  have hp := hp.below (hb11.mono (by omega))
  have hq := hq.below (hb11.mono (by omega))
  have hr := hr.below (hb11.mono (by omega))
  have oxp := oxp.below hb11 (by omega)
  have oxq := oxq.below hb11 (by omega)
  have oxr := oxr.below hb11 (by omega)
  clear hT10
  clear hb11
  go_upto_region 18 with fail
  have HCp := hide (fun (W : World) (h : Below w11.heap.size w11 W) => toP_any W w.heap.size (by have := h.size; omega) (hp.below (h.mono (by omega))))
  have HE := hide (fun (W : World) (h : Below w11.heap.size w11 W) => ((oxp.in_ hpF (show _ ≤ w11.heap.size by omega)).below h).wider h.size)
  have HBxp := hide kxp
  have HBp := hide kp
  have HS0 : Hid (Below w11.heap.size w11 w11.drew) := (Below.refl _ _).drew
  have HKS := hide (fun (W : World) (hq : Below w11.heap.size w11 W) => (⟨(HBxp.out.below hq HBxp.out.lt).cell 0, (HBxp.out.below hq HBxp.out.lt).cell 1, (HBxp.out.below hq HBxp.out.lt).cell 2, (HBxp.out.below hq HBxp.out.lt).cell 3, (HBxp.out.below hq HBxp.out.lt).cell 4, (HBxp.out.below hq HBxp.out.lt).cell 5, (HBp.out.below hq HBp.out.lt).cell 0, (HBp.out.below hq HBp.out.lt).cell 1, (HBp.out.below hq HBp.out.lt).cell 2, (HBp.out.below hq HBp.out.lt).cell 3, (HBp.out.below hq HBp.out.lt).cell 4, (HBp.out.below hq HBp.out.lt).cell 5⟩ : W.cell? ⟨w5.heap.size, 0, none⟩ = some (.bool xpb) ∧ W.cell? ⟨w5.heap.size, 1, none⟩ = some (.slice xpA xpn xpc) ∧ W.cell? ⟨w5.heap.size, 2, none⟩ = some (.slice xpD xpm xpk) ∧ W.cell? ⟨w5.heap.size, 3, none⟩ = some (.bool xpyb) ∧ W.cell? ⟨w5.heap.size, 4, none⟩ = some (.slice xpyA xpyn xpyc) ∧ W.cell? ⟨w5.heap.size, 5, none⟩ = some (.slice xpyD xpym xpyk) ∧ W.cell? ⟨w.heap.size, 0, none⟩ = some (p0) ∧ W.cell? ⟨w.heap.size, 1, none⟩ = some (p1) ∧ W.cell? ⟨w.heap.size, 2, none⟩ = some (p2) ∧ W.cell? ⟨w.heap.size, 3, none⟩ = some (p3) ∧ W.cell? ⟨w.heap.size, 4, none⟩ = some (p4) ∧ W.cell? ⟨w.heap.size, 5, none⟩ = some (p5)))
  have HIp := hide hp
  have HIq := hide hq
  have HIr := hide hr
  obtain ⟨yxp0, yxp1, yxp2, yxp3, yxp4, yxp5⟩ := kxp.cells6
  obtain ⟨yp0, yp1, yp2, yp3, yp4, yp5⟩ := kp.cells6
  go_region_held3 (fun w' => w'.cell? ⟨w5.heap.size, 0, none⟩ = some (.bool xpb) ∧ w'.cell? ⟨w5.heap.size, 1, none⟩ = some (.slice xpA xpn xpc) ∧ w'.cell? ⟨w5.heap.size, 2, none⟩ = some (.slice xpD xpm xpk) ∧ w'.cell? ⟨w5.heap.size, 3, none⟩ = some (.bool xpyb) ∧ w'.cell? ⟨w5.heap.size, 4, none⟩ = some (.slice xpyA xpyn xpyc) ∧ w'.cell? ⟨w5.heap.size, 5, none⟩ = some (.slice xpyD xpym xpyk) ∧ w'.cell? ⟨w.heap.size, 0, none⟩ = some (p0) ∧ w'.cell? ⟨w.heap.size, 1, none⟩ = some (p1) ∧ w'.cell? ⟨w.heap.size, 2, none⟩ = some (p2) ∧ w'.cell? ⟨w.heap.size, 3, none⟩ = some (p3) ∧ w'.cell? ⟨w.heap.size, 4, none⟩ = some (p4) ∧ w'.cell? ⟨w.heap.size, 5, none⟩ = some (p5))
      (first | (with_reducible exact HKS.out _ HS2.out) | (with_reducible exact HKS.out _ HS1.out) | (with_reducible exact HKS.out _ HS0.out))
      (first
        | (go_at_call 18; have HX := HS1.out; refine (eqP_any u1 u1.heap.size (Nat.le_refl _) (HE.out _ HS1.out) qtt).mono ?_; rintro e u2 ⟨rfl, hb2⟩; have qtt := qtt.up hb2; have ott := ott.below hb2 (by omega); have hz2 : u1.heap.size ≤ u2.heap.size := hb2.size; have HS2 := hide (below_then HX hb2); clear HX)
        | (go_at_call 16; have HX := HS0.out; refine (HCp.out _ HS0.out).mono ?_; rintro e u1 ⟨tt0, tt1, tt2, tt3, tt4, tt5, rfl, ott, hb1⟩; obtain ⟨ttb, ttA, ttn, ttc, ttD, ttm, ttk, ttyb, ttyA, ttyn, ttyc, ttyD, ttym, ttyk, rfl, rfl, rfl, rfl, rfl, rfl⟩ := ott.cut; have ott : POwn u1 w11.heap.size u1.heap.size 3 (.bool ttb) (.slice ttA ttn ttc) (.slice ttD ttm ttk) (.bool ttyb) (.slice ttyA ttyn ttyc) (.slice ttyD ttym ttyk) (pZ) := ott; have qtt := ott.in_ (hpF) (Nat.le_refl _); have hz1 : w11.heap.size ≤ u1.heap.size := hb1.size; have HS1 := hide (below_then HX hb1); clear HX))
  have hb12z := HS2.out
  obtain ⟨w12, hw12⟩ : ∃ x, x = u2 := ⟨_, rfl⟩
  subst hw12
  clear HKS HS0 HS1 HS2 hb1 hb2 hz1 hz2 HBxp HBp HIp HIq HIr ott qtt HCp HE
  clear yxp0 yxp1 yxp2 yxp3 yxp4 yxp5 yp0 yp1 yp2 yp3 yp4 yp5
  have hs12 := hb12z.size
  have hT12 := below_then hT11 hb12z
  have kp := kp.below hb12z kp.lt
  have kq := kq.below hb12z kq.lt
  have kr := kr.below hb12z kr.lt
  have kxp := kxp.below hb12z kxp.lt
  have kxq := kxq.below hb12z kxq.lt
  have kxr := kxr.below hb12z kxr.lt
  have hp := hp.below (hb12z.mono (by omega))
  have hq := hq.below (hb12z.mono (by omega))
  have hr := hr.below (hb12z.mono (by omega))
  have oxp := oxp.below hb12z (by omega)
  have oxq := oxq.below hb12z (by omega)
  have oxr := oxr.below hb12z (by omega)
  clear hT11
  clear hb12z
  go_upto_region 20 with fail
  have HCq := hide (fun (W : World) (h : Below w12.heap.size w12 W) => toP_any W w.heap.size (by have := h.size; omega) (hq.below (h.mono (by omega))))
  have HE := hide (fun (W : World) (h : Below w12.heap.size w12 W) => ((oxq.in_ hqF (show _ ≤ w12.heap.size by omega)).below h).wider h.size)
  have HBxq := hide kxq
  have HBq := hide kq
  have HS0 : Hid (Below w12.heap.size w12 w12.drew) := (Below.refl _ _).drew
  have HKS := hide (fun (W : World) (hq : Below w12.heap.size w12 W) => (⟨(HBxq.out.below hq HBxq.out.lt).cell 0, (HBxq.out.below hq HBxq.out.lt).cell 1, (HBxq.out.below hq HBxq.out.lt).cell 2, (HBxq.out.below hq HBxq.out.lt).cell 3, (HBxq.out.below hq HBxq.out.lt).cell 4, (HBxq.out.below hq HBxq.out.lt).cell 5, (HBq.out.below hq HBq.out.lt).cell 0, (HBq.out.below hq HBq.out.lt).cell 1, (HBq.out.below hq HBq.out.lt).cell 2, (HBq.out.below hq HBq.out.lt).cell 3, (HBq.out.below hq HBq.out.lt).cell 4, (HBq.out.below hq HBq.out.lt).cell 5⟩ : W.cell? ⟨w7.heap.size, 0, none⟩ = some (.bool xqb) ∧ W.cell? ⟨w7.heap.size, 1, none⟩ = some (.slice xqA xqn xqc) ∧ W.cell? ⟨w7.heap.size, 2, none⟩ = some (.slice xqD xqm xqk) ∧ W.cell? ⟨w7.heap.size, 3, none⟩ = some (.bool xqyb) ∧ W.cell? ⟨w7.heap.size, 4, none⟩ = some (.slice xqyA xqyn xqyc) ∧ W.cell? ⟨w7.heap.size, 5, none⟩ = some (.slice xqyD xqym xqyk) ∧ W.cell? ⟨w.heap.size + 1, 0, none⟩ = some (q0) ∧ W.cell? ⟨w.heap.size + 1, 1, none⟩ = some (q1) ∧ W.cell? ⟨w.heap.size + 1, 2, none⟩ = some (q2) ∧ W.cell? ⟨w.heap.size + 1, 3, none⟩ = some (q3) ∧ W.cell? ⟨w.heap.size + 1, 4, none⟩ = some (q4) ∧ W.cell? ⟨w.heap.size + 1, 5, none⟩ = some (q5)))
  have HIp := hide hp
  have HIq := hide hq
  have HIr := hide hr
  obtain ⟨yxq0, yxq1, yxq2, yxq3, yxq4, yxq5⟩ := kxq.cells6
  obtain ⟨yq0, yq1, yq2, yq3, yq4, yq5⟩ := kq.cells6
  go_region_held3 (fun w' => w'.cell? ⟨w7.heap.size, 0, none⟩ = some (.bool xqb) ∧ w'.cell? ⟨w7.heap.size, 1, none⟩ = some (.slice xqA xqn xqc) ∧ w'.cell? ⟨w7.heap.size, 2, none⟩ = some (.slice xqD xqm xqk) ∧ w'.cell? ⟨w7.heap.size, 3, none⟩ = some (.bool xqyb) ∧ w'.cell? ⟨w7.heap.size, 4, none⟩ = some (.slice xqyA xqyn xqyc) ∧ w'.cell? ⟨w7.heap.size, 5, none⟩ = some (.slice xqyD xqym xqyk) ∧ w'.cell? ⟨w.heap.size + 1, 0, none⟩ = some (q0) ∧ w'.cell? ⟨w.heap.size + 1, 1, none⟩ = some (q1) ∧ w'.cell? ⟨w.heap.size + 1, 2, none⟩ = some (q2) ∧ w'.cell? ⟨w.heap.size + 1, 3, none⟩ = some (q3) ∧ w'.cell? ⟨w.heap.size + 1, 4, none⟩ = some (q4) ∧ w'.cell? ⟨w.heap.size + 1, 5, none⟩ = some (q5))
      (first | (with_reducible exact HKS.out _ HS2.out) | (with_reducible exact HKS.out _ HS1.out) | (with_reducible exact HKS.out _ HS0.out))
      (first
        | (go_at_call 18; have HX := HS1.out; refine (eqP_any u1 u1.heap.size (Nat.le_refl _) (HE.out _ HS1.out) qtt).mono ?_; rintro e u2 ⟨rfl, hb2⟩; have qtt := qtt.up hb2; have ott := ott.below hb2 (by omega); have hz2 : u1.heap.size ≤ u2.heap.size := hb2.size; have HS2 := hide (below_then HX hb2); clear HX)
        | (go_at_call 16; have HX := HS0.out; refine (HCq.out _ HS0.out).mono ?_; rintro e u1 ⟨tt0, tt1, tt2, tt3, tt4, tt5, rfl, ott, hb1⟩; obtain ⟨ttb, ttA, ttn, ttc, ttD, ttm, ttk, ttyb, ttyA, ttyn, ttyc, ttyD, ttym, ttyk, rfl, rfl, rfl, rfl, rfl, rfl⟩ := ott.cut; have ott : POwn u1 w12.heap.size u1.heap.size 3 (.bool ttb) (.slice ttA ttn ttc) (.slice ttD ttm ttk) (.bool ttyb) (.slice ttyA ttyn ttyc) (.slice ttyD ttym ttyk) (qZ) := ott; have qtt := ott.in_ (hqF) (Nat.le_refl _); have hz1 : w12.heap.size ≤ u1.heap.size := hb1.size; have HS1 := hide (below_then HX hb1); clear HX))
  have hb13z := HS2.out
  obtain ⟨w13, hw13⟩ : ∃ x, x = u2 := ⟨_, rfl⟩
  subst hw13
  clear HKS HS0 HS1 HS2 hb1 hb2 hz1 hz2 HBxq HBq HIp HIq HIr ott qtt HCq HE
  clear yxq0 yxq1 yxq2 yxq3 yxq4 yxq5 yq0 yq1 yq2 yq3 yq4 yq5
  have hs13 := hb13z.size
  have hT13 := below_then hT12 hb13z
  have kp := kp.below hb13z kp.lt
  have kq := kq.below hb13z kq.lt
  have kr := kr.below hb13z kr.lt
  have kxp := kxp.below hb13z kxp.lt
  have kxq := kxq.below hb13z kxq.lt
  have kxr := kxr.below hb13z kxr.lt
  have hp := hp.below (hb13z.mono (by omega))
  have hq := hq.below (hb13z.mono (by omega))
  have hr := hr.below (hb13z.mono (by omega))
  have oxp := oxp.below hb13z (by omega)
  have oxq := oxq.below hb13z (by omega)
  have oxr := oxr.below hb13z (by omega)
  clear hT12
  clear hb13z
  go_upto_region 22 with fail
  have HCr := hide (fun (W : World) (h : Below w13.heap.size w13 W) => toP_any W w.heap.size (by have := h.size; omega) (hr.below (h.mono (by omega))))
  have HE := hide (fun (W : World) (h : Below w13.heap.size w13 W) => ((oxr.in_ hrF (show _ ≤ w13.heap.size by omega)).below h).wider h.size)
  have HBxr := hide kxr
  have HBr := hide kr
  have HS0 : Hid (Below w13.heap.size w13 w13.drew) := (Below.refl _ _).drew
  have HKS := hide (fun (W : World) (hq : Below w13.heap.size w13 W) => (⟨(HBxr.out.below hq HBxr.out.lt).cell 0, (HBxr.out.below hq HBxr.out.lt).cell 1, (HBxr.out.below hq HBxr.out.lt).cell 2, (HBxr.out.below hq HBxr.out.lt).cell 3, (HBxr.out.below hq HBxr.out.lt).cell 4, (HBxr.out.below hq HBxr.out.lt).cell 5, (HBr.out.below hq HBr.out.lt).cell 0, (HBr.out.below hq HBr.out.lt).cell 1, (HBr.out.below hq HBr.out.lt).cell 2, (HBr.out.below hq HBr.out.lt).cell 3, (HBr.out.below hq HBr.out.lt).cell 4, (HBr.out.below hq HBr.out.lt).cell 5⟩ : W.cell? ⟨w9.heap.size, 0, none⟩ = some (.bool xrb) ∧ W.cell? ⟨w9.heap.size, 1, none⟩ = some (.slice xrA xrn xrc) ∧ W.cell? ⟨w9.heap.size, 2, none⟩ = some (.slice xrD xrm xrk) ∧ W.cell? ⟨w9.heap.size, 3, none⟩ = some (.bool xryb) ∧ W.cell? ⟨w9.heap.size, 4, none⟩ = some (.slice xryA xryn xryc) ∧ W.cell? ⟨w9.heap.size, 5, none⟩ = some (.slice xryD xrym xryk) ∧ W.cell? ⟨w.heap.size + 2, 0, none⟩ = some (r0) ∧ W.cell? ⟨w.heap.size + 2, 1, none⟩ = some (r1) ∧ W.cell? ⟨w.heap.size + 2, 2, none⟩ = some (r2) ∧ W.cell? ⟨w.heap.size + 2, 3, none⟩ = some (r3) ∧ W.cell? ⟨w.heap.size + 2, 4, none⟩ = some (r4) ∧ W.cell? ⟨w.heap.size + 2, 5, none⟩ = some (r5)))
  have HIp := hide hp
  have HIq := hide hq
  have HIr := hide hr
  obtain ⟨yxr0, yxr1, yxr2, yxr3, yxr4, yxr5⟩ := kxr.cells6
  obtain ⟨yr0, yr1, yr2, yr3, yr4, yr5⟩ := kr.cells6
  go_region_held3 (fun w' => w'.cell? ⟨w9.heap.size, 0, none⟩ = some (.bool xrb) ∧ w'.cell? ⟨w9.heap.size, 1, none⟩ = some (.slice xrA xrn xrc) ∧ w'.cell? ⟨w9.heap.size, 2, none⟩ = some (.slice xrD xrm xrk) ∧ w'.cell? ⟨w9.heap.size, 3, none⟩ = some (.bool xryb) ∧ w'.cell? ⟨w9.heap.size, 4, none⟩ = some (.slice xryA xryn xryc) ∧ w'.cell? ⟨w9.heap.size, 5, none⟩ = some (.slice xryD xrym xryk) ∧ w'.cell? ⟨w.heap.size + 2, 0, none⟩ = some (r0) ∧ w'.cell? ⟨w.heap.size + 2, 1, none⟩ = some (r1) ∧ w'.cell? ⟨w.heap.size + 2, 2, none⟩ = some (r2) ∧ w'.cell? ⟨w.heap.size + 2, 3, none⟩ = some (r3) ∧ w'.cell? ⟨w.heap.size + 2, 4, none⟩ = some (r4) ∧ w'.cell? ⟨w.heap.size + 2, 5, none⟩ = some (r5))
      (first | (with_reducible exact HKS.out _ HS2.out) | (with_reducible exact HKS.out _ HS1.out) | (with_reducible exact HKS.out _ HS0.out))
      (first
        | (go_at_call 18; have HX := HS1.out; refine (eqP_any u1 u1.heap.size (Nat.le_refl _) (HE.out _ HS1.out) qtt).mono ?_; rintro e u2 ⟨rfl, hb2⟩; have qtt := qtt.up hb2; have ott := ott.below hb2 (by omega); have hz2 : u1.heap.size ≤ u2.heap.size := hb2.size; have HS2 := hide (below_then HX hb2); clear HX)
        | (go_at_call 16; have HX := HS0.out; refine (HCr.out _ HS0.out).mono ?_; rintro e u1 ⟨tt0, tt1, tt2, tt3, tt4, tt5, rfl, ott, hb1⟩; obtain ⟨ttb, ttA, ttn, ttc, ttD, ttm, ttk, ttyb, ttyA, ttyn, ttyc, ttyD, ttym, ttyk, rfl, rfl, rfl, rfl, rfl, rfl⟩ := ott.cut; have ott : POwn u1 w13.heap.size u1.heap.size 3 (.bool ttb) (.slice ttA ttn ttc) (.slice ttD ttm ttk) (.bool ttyb) (.slice ttyA ttyn ttyc) (.slice ttyD ttym ttyk) (rZ) := ott; have qtt := ott.in_ (hrF) (Nat.le_refl _); have hz1 : w13.heap.size ≤ u1.heap.size := hb1.size; have HS1 := hide (below_then HX hb1); clear HX))
  have hb14z := HS2.out
  obtain ⟨w14, hw14⟩ : ∃ x, x = u2 := ⟨_, rfl⟩
  subst hw14
  clear HKS HS0 HS1 HS2 hb1 hb2 hz1 hz2 HBxr HBr HIp HIq HIr ott qtt HCr HE
  clear yxr0 yxr1 yxr2 yxr3 yxr4 yxr5 yr0 yr1 yr2 yr3 yr4 yr5
  have hs14 := hb14z.size
  have hT14 := below_then hT13 hb14z
  have kp := kp.below hb14z kp.lt
  have kq := kq.below hb14z kq.lt
  have kr := kr.below hb14z kr.lt
  have kxp := kxp.below hb14z kxp.lt
  have kxq := kxq.below hb14z kxq.lt
  have kxr := kxr.below hb14z kxr.lt
  have hp := hp.below (hb14z.mono (by omega))
  have hq := hq.below (hb14z.mono (by omega))
  have hr := hr.below (hb14z.mono (by omega))
  have oxp := oxp.below hb14z (by omega)
  have oxq := oxq.below hb14z (by omega)
  have oxr := oxr.below hb14z (by omega)
  clear hT13
  clear hb14z
  go_wp2
  go_ret
  exact ⟨rfl, hT14⟩
end Go.Proofs.Ytnbaookdeijhhaa
