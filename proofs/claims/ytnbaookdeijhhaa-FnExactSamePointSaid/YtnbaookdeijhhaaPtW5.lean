/-
  The walk of the exact law of SamePoint.
-/
import Derived.Test.YtnbaookdeijhhaaPtS
import Derived.Test.YtnbaookdeijhhaaPtR
import Derived.Deep.RegionHeld3
import Derived.Deep.CutRange
import Derived.Sort.AtCall
namespace Go.Proofs.Ytnbaookdeijhhaa
open Go.RowKit
set_option linter.unusedVariables false
set_option maxRecDepth 100000 in
set_option maxHeartbeats 16000000 in
theorem FnExactSamePoint_walk (w : World) {p0 p1 p2 p3 p4 p5 : Value} (fp : PRow w p0 p1 p2 p3 p4 p5) {q0 q1 q2 q3 q4 q5 : Value} (fq : PRow w q0 q1 q2 q3 q4 q5) :
    Calls Try.prog 7 #[.agg #[p0, p1, p2, p3, p4, p5], .agg #[q0, q1, q2, q3, q4, q5]] w fun e w' => e = .returned (.bool true) ∧ Below w.heap.size w w' := by
  obtain ⟨Lp, gp, Jp⟩ := fp.len
  obtain ⟨Lq, gq, Jq⟩ := fq.len
  obtain ⟨W0, hW0⟩ : ∃ W0, W0 = ((w.alloc (.cells #[p0, p1, p2, p3, p4, p5] 34)).alloc (.cells #[q0, q1, q2, q3, q4, q5] 34)) := ⟨_, rfl⟩
  have hT0 : Below w.heap.size w W0 := by rw [hW0]; exact below_alloc (below_new _ _) _
  have kp : Box W0 (w.heap.size) 34 #[p0, p1, p2, p3, p4, p5] := by rw [hW0]; exact (Box.last _ _ _ rfl).alloc _
  have kq : Box W0 (w.heap.size + 1) 34 #[q0, q1, q2, q3, q4, q5] := by rw [hW0]; exact Box.last _ _ _ (alloc_size _ _).symm
  have hs0 : W0.heap.size = w.heap.size + 2 := by rw [hW0, alloc_size, alloc_size]
  go_enter Try.func7, Try.ntmps7
  go_upto_region 1 with fail
  rw [← hW0]
  clear hW0
  obtain ⟨yp0, yp1, yp2, yp3, yp4, yp5⟩ := kp.cells6
  go_wp2_with fail
  refine (szP_any W0 gp 1048576 (by omega)).mono ?_
  rintro e w1 ⟨rfl, hb1⟩
  clear yp0 yp1 yp2 yp3 yp4 yp5
  have hs1 := hb1.size
  have hT1 := below_then hT0 hb1
  have kp := kp.below hb1 kp.lt
  have kq := kq.below hb1 kq.lt
  clear hT0
  clear hb1
  by_cases czp : ¬ Lp ≤ 1048576
  · have hle : leftI 1048576 Lp = -1 := if_neg czp
    rw [hle]
    clear hle
    go_wp2_with fail
    go_ret
    exact ⟨rfl, hT1⟩
  have czp := Decidable.not_not.1 czp
  obtain ⟨Mp, hLp⟩ : ∃ L : Nat, L + Lp = 1048576 := ⟨1048576 - Lp, by omega⟩
  have hle : leftI 1048576 Lp = (Mp : Int) := by rw [leftI, if_pos czp]; omega
  rw [hle]
  clear hle
  have hngp : ¬ (Mp : Int) < 0 := by omega
  obtain ⟨pZ, J0⟩ := Jp (by omega)
  have hpF := J0.fit
  have hp := J0.below hT1
  have HLep := hide hLp
  have hLbp : Mp ≤ 1048576 := by omega
  clear hLp czp J0 Jp gp
  obtain ⟨yq0, yq1, yq2, yq3, yq4, yq5⟩ := kq.cells6
  go_wp2_with fail
  refine (szP_any w1 gq Mp (by omega)).mono ?_
  rintro e w2 ⟨rfl, hb2⟩
  clear yq0 yq1 yq2 yq3 yq4 yq5
  have hs2 := hb2.size
  have hT2 := below_then hT1 hb2
  have kp := kp.below hb2 kp.lt
  have kq := kq.below hb2 kq.lt
  have hp := hp.below (hb2.mono (by omega))
  clear hT1
  clear hb2
  by_cases czq : ¬ Lq ≤ Mp
  · have hle : leftI Mp Lq = -1 := if_neg czq
    rw [hle]
    clear hle
    go_wp2_with fail
    go_ret
    exact ⟨rfl, hT2⟩
  have czq := Decidable.not_not.1 czq
  obtain ⟨Mq, hLq⟩ : ∃ L : Nat, L + Lq = Mp := ⟨Mp - Lq, by omega⟩
  have hle : leftI Mp Lq = (Mq : Int) := by rw [leftI, if_pos czq]; omega
  rw [hle]
  clear hle
  have hngq : ¬ (Mq : Int) < 0 := by omega
  obtain ⟨qZ, J0⟩ := Jq (by omega)
  have hqF := J0.fit
  have hq := J0.below hT2
  have HLeq := hide hLq
  have hLbq : Mq ≤ 1048576 := by omega
  clear hLq czq J0 Jq gq
  go_upto_region 8 with fail
  have HCp := hide (fun (W : World) (h : Below w2.heap.size w2 W) => toP_any W w.heap.size (by have := h.size; omega) (hp.below (h.mono (by omega))))
  have HCq := hide (fun (W : World) (h : Below w2.heap.size w2 W) => toP_any W w.heap.size (by have := h.size; omega) (hq.below (h.mono (by omega))))
  have HBp := hide kp
  have HBq := hide kq
  have HS0 : Hid (Below w2.heap.size w2 w2.drew) := (Below.refl _ _).drew
  have HKS := hide (fun (W : World) (hq : Below w2.heap.size w2 W) => (⟨(HBp.out.below hq HBp.out.lt).cell 0, (HBp.out.below hq HBp.out.lt).cell 1, (HBp.out.below hq HBp.out.lt).cell 2, (HBp.out.below hq HBp.out.lt).cell 3, (HBp.out.below hq HBp.out.lt).cell 4, (HBp.out.below hq HBp.out.lt).cell 5, (HBq.out.below hq HBq.out.lt).cell 0, (HBq.out.below hq HBq.out.lt).cell 1, (HBq.out.below hq HBq.out.lt).cell 2, (HBq.out.below hq HBq.out.lt).cell 3, (HBq.out.below hq HBq.out.lt).cell 4, (HBq.out.below hq HBq.out.lt).cell 5⟩ : W.cell? ⟨w.heap.size, 0, none⟩ = some (p0) ∧ W.cell? ⟨w.heap.size, 1, none⟩ = some (p1) ∧ W.cell? ⟨w.heap.size, 2, none⟩ = some (p2) ∧ W.cell? ⟨w.heap.size, 3, none⟩ = some (p3) ∧ W.cell? ⟨w.heap.size, 4, none⟩ = some (p4) ∧ W.cell? ⟨w.heap.size, 5, none⟩ = some (p5) ∧ W.cell? ⟨w.heap.size + 1, 0, none⟩ = some (q0) ∧ W.cell? ⟨w.heap.size + 1, 1, none⟩ = some (q1) ∧ W.cell? ⟨w.heap.size + 1, 2, none⟩ = some (q2) ∧ W.cell? ⟨w.heap.size + 1, 3, none⟩ = some (q3) ∧ W.cell? ⟨w.heap.size + 1, 4, none⟩ = some (q4) ∧ W.cell? ⟨w.heap.size + 1, 5, none⟩ = some (q5)))
  have HIp := hide hp
  have HIq := hide hq
  obtain ⟨yp0, yp1, yp2, yp3, yp4, yp5⟩ := kp.cells6
  obtain ⟨yq0, yq1, yq2, yq3, yq4, yq5⟩ := kq.cells6
  go_region_held3 (fun w' => w'.cell? ⟨w.heap.size, 0, none⟩ = some (p0) ∧ w'.cell? ⟨w.heap.size, 1, none⟩ = some (p1) ∧ w'.cell? ⟨w.heap.size, 2, none⟩ = some (p2) ∧ w'.cell? ⟨w.heap.size, 3, none⟩ = some (p3) ∧ w'.cell? ⟨w.heap.size, 4, none⟩ = some (p4) ∧ w'.cell? ⟨w.heap.size, 5, none⟩ = some (p5) ∧ w'.cell? ⟨w.heap.size + 1, 0, none⟩ = some (q0) ∧ w'.cell? ⟨w.heap.size + 1, 1, none⟩ = some (q1) ∧ w'.cell? ⟨w.heap.size + 1, 2, none⟩ = some (q2) ∧ w'.cell? ⟨w.heap.size + 1, 3, none⟩ = some (q3) ∧ w'.cell? ⟨w.heap.size + 1, 4, none⟩ = some (q4) ∧ w'.cell? ⟨w.heap.size + 1, 5, none⟩ = some (q5))
      (first | (with_reducible exact HKS.out _ HS3.out) | (with_reducible exact HKS.out _ HS2.out) | (with_reducible exact HKS.out _ HS1.out) | (with_reducible exact HKS.out _ HS0.out))
      (first
        | (go_at_call 25; have HX := HS2.out; refine (spec_SamePoint u2 u2.heap.size (Nat.le_refl _) qtp qtq).mono ?_; rintro e u3 ⟨rfl, hb3⟩; have qtp := qtp.up hb3; have otp := otp.below hb3 (by omega); have qtq := qtq.up hb3; have otq := otq.below hb3 (by omega); have hz3 : u2.heap.size ≤ u3.heap.size := hb3.size; have HS3 := hide (below_then HX hb3); clear HX)
        | (go_at_call 16; have HX := HS1.out; refine (HCq.out _ HS1.out).mono ?_; rintro e u2 ⟨tq0, tq1, tq2, tq3, tq4, tq5, rfl, otq, hb2⟩; obtain ⟨tqb, tqA, tqn, tqc, tqD, tqm, tqk, tqyb, tqyA, tqyn, tqyc, tqyD, tqym, tqyk, rfl, rfl, rfl, rfl, rfl, rfl⟩ := otq.cut; have otq : POwn u2 u1.heap.size u2.heap.size 3 (.bool tqb) (.slice tqA tqn tqc) (.slice tqD tqm tqk) (.bool tqyb) (.slice tqyA tqyn tqyc) (.slice tqyD tqym tqyk) (qZ) := otq; have qtq := otq.in_ (hqF) (Nat.le_refl _); have qtp := qtp.up hb2; have otp := otp.below hb2 (by omega); have hz2 : u1.heap.size ≤ u2.heap.size := hb2.size; have HS2 := hide (below_then HX hb2); clear HX)
        | (go_at_call 16; have HX := HS0.out; refine (HCp.out _ HS0.out).mono ?_; rintro e u1 ⟨tp0, tp1, tp2, tp3, tp4, tp5, rfl, otp, hb1⟩; obtain ⟨tpb, tpA, tpn, tpc, tpD, tpm, tpk, tpyb, tpyA, tpyn, tpyc, tpyD, tpym, tpyk, rfl, rfl, rfl, rfl, rfl, rfl⟩ := otp.cut; have otp : POwn u1 w2.heap.size u1.heap.size 3 (.bool tpb) (.slice tpA tpn tpc) (.slice tpD tpm tpk) (.bool tpyb) (.slice tpyA tpyn tpyc) (.slice tpyD tpym tpyk) (pZ) := otp; have qtp := otp.in_ (hpF) (Nat.le_refl _); have hz1 : w2.heap.size ≤ u1.heap.size := hb1.size; have HS1 := hide (below_then HX hb1); clear HX))
  have hb3z := HS3.out
  obtain ⟨w3, hw3⟩ : ∃ x, x = u3 := ⟨_, rfl⟩
  subst hw3
  clear HKS HS0 HS1 HS2 HS3 hb1 hb2 hb3 hz1 hz2 hz3 HBp HBq HIp HIq otp qtp otq qtq HCp HCq
  clear yp0 yp1 yp2 yp3 yp4 yp5 yq0 yq1 yq2 yq3 yq4 yq5
  have hs3 := hb3z.size
  have hT3 := below_then hT2 hb3z
  have kp := kp.below hb3z kp.lt
  have kq := kq.below hb3z kq.lt
  have hp := hp.below (hb3z.mono (by omega))
  have hq := hq.below (hb3z.mono (by omega))
  clear hT2
  clear hb3z
  obtain ⟨yp0, yp1, yp2, yp3, yp4, yp5⟩ := kp.cells6
  go_wp2_with fail
  refine (toP_any w3 w.heap.size hT3.size hp).mono ?_
  rintro e w4 ⟨xp0, xp1, xp2, xp3, xp4, xp5, rfl, oxp, hb4⟩
  clear yp0 yp1 yp2 yp3 yp4 yp5
  obtain ⟨xpb, xpA, xpn, xpc, xpD, xpm, xpk, xpyb, xpyA, xpyn, xpyc, xpyD, xpym, xpyk, rfl, rfl, rfl, rfl, rfl, rfl⟩ := oxp.cut
  have hs4 := hb4.size
  have hT4 := below_then hT3 hb4
  have kp := kp.below hb4 kp.lt
  have kq := kq.below hb4 kq.lt
  have hp := hp.below (hb4.mono (by omega))
  have hq := hq.below (hb4.mono (by omega))
  clear hT3
  clear hb4
  obtain ⟨w5, hw5⟩ : ∃ x, x = (w4.alloc (.cells #[.bool xpb, .slice xpA xpn xpc, .slice xpD xpm xpk, .bool xpyb, .slice xpyA xpyn xpyc, .slice xpyD xpym xpyk] 41)) := ⟨_, rfl⟩
  have hb5 : Below w4.heap.size w4 w5 := by rw [hw5]; exact below_new _ _
  have hq5 : w5.heap.size = w4.heap.size + 1 := by rw [hw5, alloc_size]
  have kxp : Box w5 (w4.heap.size) 41 #[.bool xpb, .slice xpA xpn xpc, .slice xpD xpm xpk, .bool xpyb, .slice xpyA xpyn xpyc, .slice xpyD xpym xpyk] := by rw [hw5]; exact Box.last _ _ _ (by omega)
  have hs5 := hb5.size
  have hT5 := below_then hT4 hb5
  have kp := kp.below hb5 kp.lt
  have kq := kq.below hb5 kq.lt
  have hp := hp.below (hb5.mono (by omega))
  have hq := hq.below (hb5.mono (by omega))
  have oxp := oxp.below hb5 (by omega)
  clear hT4
  go_upto_region 10 with fail
  rw [← hw5]
  clear hw5 hb5
  obtain ⟨yq0, yq1, yq2, yq3, yq4, yq5⟩ := kq.cells6
  go_wp2_with fail
  refine (toP_any w5 w.heap.size hT5.size hq).mono ?_
  rintro e w6 ⟨xq0, xq1, xq2, xq3, xq4, xq5, rfl, oxq, hb6⟩
  clear yq0 yq1 yq2 yq3 yq4 yq5
  obtain ⟨xqb, xqA, xqn, xqc, xqD, xqm, xqk, xqyb, xqyA, xqyn, xqyc, xqyD, xqym, xqyk, rfl, rfl, rfl, rfl, rfl, rfl⟩ := oxq.cut
  have hs6 := hb6.size
  have hT6 := below_then hT5 hb6
  have kp := kp.below hb6 kp.lt
  have kq := kq.below hb6 kq.lt
  have kxp := kxp.below hb6 kxp.lt
  have hp := hp.below (hb6.mono (by omega))
  have hq := hq.below (hb6.mono (by omega))
  have oxp := oxp.below hb6 (by omega)
  clear hT5
  clear hb6
  obtain ⟨w7, hw7⟩ : ∃ x, x = (w6.alloc (.cells #[.bool xqb, .slice xqA xqn xqc, .slice xqD xqm xqk, .bool xqyb, .slice xqyA xqyn xqyc, .slice xqyD xqym xqyk] 41)) := ⟨_, rfl⟩
  have hb7 : Below w6.heap.size w6 w7 := by rw [hw7]; exact below_new _ _
  have hq7 : w7.heap.size = w6.heap.size + 1 := by rw [hw7, alloc_size]
  have kxq : Box w7 (w6.heap.size) 41 #[.bool xqb, .slice xqA xqn xqc, .slice xqD xqm xqk, .bool xqyb, .slice xqyA xqyn xqyc, .slice xqyD xqym xqyk] := by rw [hw7]; exact Box.last _ _ _ (by omega)
  have hs7 := hb7.size
  have hT7 := below_then hT6 hb7
  have kp := kp.below hb7 kp.lt
  have kq := kq.below hb7 kq.lt
  have kxp := kxp.below hb7 kxp.lt
  have hp := hp.below (hb7.mono (by omega))
  have hq := hq.below (hb7.mono (by omega))
  have oxp := oxp.below hb7 (by omega)
  have oxq := oxq.below hb7 (by omega)
  clear hT6
  go_upto_region 11 with fail
  rw [← hw7]
  clear hw7 hb7
  obtain ⟨yxp0, yxp1, yxp2, yxp3, yxp4, yxp5⟩ := kxp.cells6
  obtain ⟨yxq0, yxq1, yxq2, yxq3, yxq4, yxq5⟩ := kxq.cells6
  go_wp2_with fail
  refine (impl_SamePoint w7 w7.heap.size (Nat.le_refl _) (oxp.in_ hpF (by omega)) (oxq.in_ hqF (by omega))).mono ?_
  rintro e w8 ⟨rfl, hb8⟩
  clear yxp0 yxp1 yxp2 yxp3 yxp4 yxp5 yxq0 yxq1 yxq2 yxq3 yxq4 yxq5
  have hs8 := hb8.size
  have hT8 := below_then hT7 hb8
  have kp := kp.below hb8 kp.lt
  have kq := kq.below hb8 kq.lt
  have kxp := kxp.below hb8 kxp.lt
  have kxq := kxq.below hb8 kxq.lt
  have hp := hp.below (hb8.mono (by omega))
  have hq := hq.below (hb8.mono (by omega))
  have oxp := oxp.below hb8 (by omega)
  have oxq := oxq.below hb8 (by omega)
  clear hT7
  clear hb8
  go_upto_region 14 with fail
  have HCp := hide (fun (W : World) (h : Below w8.heap.size w8 W) => toP_any W w.heap.size (by have := h.size; omega) (hp.below (h.mono (by omega))))
  have HE := hide (fun (W : World) (h : Below w8.heap.size w8 W) => ((oxp.in_ hpF (show _ ≤ w8.heap.size by omega)).below h).wider h.size)
  have HBxp := hide kxp
  have HBp := hide kp
  have HS0 : Hid (Below w8.heap.size w8 w8.drew) := (Below.refl _ _).drew
  have HKS := hide (fun (W : World) (hq : Below w8.heap.size w8 W) => (⟨(HBxp.out.below hq HBxp.out.lt).cell 0, (HBxp.out.below hq HBxp.out.lt).cell 1, (HBxp.out.below hq HBxp.out.lt).cell 2, (HBxp.out.below hq HBxp.out.lt).cell 3, (HBxp.out.below hq HBxp.out.lt).cell 4, (HBxp.out.below hq HBxp.out.lt).cell 5, (HBp.out.below hq HBp.out.lt).cell 0, (HBp.out.below hq HBp.out.lt).cell 1, (HBp.out.below hq HBp.out.lt).cell 2, (HBp.out.below hq HBp.out.lt).cell 3, (HBp.out.below hq HBp.out.lt).cell 4, (HBp.out.below hq HBp.out.lt).cell 5⟩ : W.cell? ⟨w4.heap.size, 0, none⟩ = some (.bool xpb) ∧ W.cell? ⟨w4.heap.size, 1, none⟩ = some (.slice xpA xpn xpc) ∧ W.cell? ⟨w4.heap.size, 2, none⟩ = some (.slice xpD xpm xpk) ∧ W.cell? ⟨w4.heap.size, 3, none⟩ = some (.bool xpyb) ∧ W.cell? ⟨w4.heap.size, 4, none⟩ = some (.slice xpyA xpyn xpyc) ∧ W.cell? ⟨w4.heap.size, 5, none⟩ = some (.slice xpyD xpym xpyk) ∧ W.cell? ⟨w.heap.size, 0, none⟩ = some (p0) ∧ W.cell? ⟨w.heap.size, 1, none⟩ = some (p1) ∧ W.cell? ⟨w.heap.size, 2, none⟩ = some (p2) ∧ W.cell? ⟨w.heap.size, 3, none⟩ = some (p3) ∧ W.cell? ⟨w.heap.size, 4, none⟩ = some (p4) ∧ W.cell? ⟨w.heap.size, 5, none⟩ = some (p5)))
  have HIp := hide hp
  have HIq := hide hq
  obtain ⟨yxp0, yxp1, yxp2, yxp3, yxp4, yxp5⟩ := kxp.cells6
  obtain ⟨yp0, yp1, yp2, yp3, yp4, yp5⟩ := kp.cells6
  go_region_held3 (fun w' => w'.cell? ⟨w4.heap.size, 0, none⟩ = some (.bool xpb) ∧ w'.cell? ⟨w4.heap.size, 1, none⟩ = some (.slice xpA xpn xpc) ∧ w'.cell? ⟨w4.heap.size, 2, none⟩ = some (.slice xpD xpm xpk) ∧ w'.cell? ⟨w4.heap.size, 3, none⟩ = some (.bool xpyb) ∧ w'.cell? ⟨w4.heap.size, 4, none⟩ = some (.slice xpyA xpyn xpyc) ∧ w'.cell? ⟨w4.heap.size, 5, none⟩ = some (.slice xpyD xpym xpyk) ∧ w'.cell? ⟨w.heap.size, 0, none⟩ = some (p0) ∧ w'.cell? ⟨w.heap.size, 1, none⟩ = some (p1) ∧ w'.cell? ⟨w.heap.size, 2, none⟩ = some (p2) ∧ w'.cell? ⟨w.heap.size, 3, none⟩ = some (p3) ∧ w'.cell? ⟨w.heap.size, 4, none⟩ = some (p4) ∧ w'.cell? ⟨w.heap.size, 5, none⟩ = some (p5))
      (first | (with_reducible exact HKS.out _ HS2.out) | (with_reducible exact HKS.out _ HS1.out) | (with_reducible exact HKS.out _ HS0.out))
      (first
        | (go_at_call 18; have HX := HS1.out; refine (eqP_any u1 u1.heap.size (Nat.le_refl _) (HE.out _ HS1.out) qtt).mono ?_; rintro e u2 ⟨rfl, hb2⟩; have qtt := qtt.up hb2; have ott := ott.below hb2 (by omega); have hz2 : u1.heap.size ≤ u2.heap.size := hb2.size; have HS2 := hide (below_then HX hb2); clear HX)
        | (go_at_call 16; have HX := HS0.out; refine (HCp.out _ HS0.out).mono ?_; rintro e u1 ⟨tt0, tt1, tt2, tt3, tt4, tt5, rfl, ott, hb1⟩; obtain ⟨ttb, ttA, ttn, ttc, ttD, ttm, ttk, ttyb, ttyA, ttyn, ttyc, ttyD, ttym, ttyk, rfl, rfl, rfl, rfl, rfl, rfl⟩ := ott.cut; have ott : POwn u1 w8.heap.size u1.heap.size 3 (.bool ttb) (.slice ttA ttn ttc) (.slice ttD ttm ttk) (.bool ttyb) (.slice ttyA ttyn ttyc) (.slice ttyD ttym ttyk) (pZ) := ott; have qtt := ott.in_ (hpF) (Nat.le_refl _); have hz1 : w8.heap.size ≤ u1.heap.size := hb1.size; have HS1 := hide (below_then HX hb1); clear HX))
  have hb9z := HS2.out
  obtain ⟨w9, hw9⟩ : ∃ x, x = u2 := ⟨_, rfl⟩
  subst hw9
  clear HKS HS0 HS1 HS2 hb1 hb2 hz1 hz2 HBxp HBp HIp HIq ott qtt HCp HE
  clear yxp0 yxp1 yxp2 yxp3 yxp4 yxp5 yp0 yp1 yp2 yp3 yp4 yp5
  have hs9 := hb9z.size
  have hT9 := below_then hT8 hb9z
  have kp := kp.below hb9z kp.lt
  have kq := kq.below hb9z kq.lt
  have kxp := kxp.below hb9z kxp.lt
  have kxq := kxq.below hb9z kxq.lt
  have hp := hp.below (hb9z.mono (by omega))
  have hq := hq.below (hb9z.mono (by omega))
  have oxp := oxp.below hb9z (by omega)
  have oxq := oxq.below hb9z (by omega)
  clear hT8
  clear hb9z
  go_upto_region 16 with fail
  have HCq := hide (fun (W : World) (h : Below w9.heap.size w9 W) => toP_any W w.heap.size (by have := h.size; omega) (hq.below (h.mono (by omega))))
  have HE := hide (fun (W : World) (h : Below w9.heap.size w9 W) => ((oxq.in_ hqF (show _ ≤ w9.heap.size by omega)).below h).wider h.size)
  have HBxq := hide kxq
  have HBq := hide kq
  have HS0 : Hid (Below w9.heap.size w9 w9.drew) := (Below.refl _ _).drew
  have HKS := hide (fun (W : World) (hq : Below w9.heap.size w9 W) => (⟨(HBxq.out.below hq HBxq.out.lt).cell 0, (HBxq.out.below hq HBxq.out.lt).cell 1, (HBxq.out.below hq HBxq.out.lt).cell 2, (HBxq.out.below hq HBxq.out.lt).cell 3, (HBxq.out.below hq HBxq.out.lt).cell 4, (HBxq.out.below hq HBxq.out.lt).cell 5, (HBq.out.below hq HBq.out.lt).cell 0, (HBq.out.below hq HBq.out.lt).cell 1, (HBq.out.below hq HBq.out.lt).cell 2, (HBq.out.below hq HBq.out.lt).cell 3, (HBq.out.below hq HBq.out.lt).cell 4, (HBq.out.below hq HBq.out.lt).cell 5⟩ : W.cell? ⟨w6.heap.size, 0, none⟩ = some (.bool xqb) ∧ W.cell? ⟨w6.heap.size, 1, none⟩ = some (.slice xqA xqn xqc) ∧ W.cell? ⟨w6.heap.size, 2, none⟩ = some (.slice xqD xqm xqk) ∧ W.cell? ⟨w6.heap.size, 3, none⟩ = some (.bool xqyb) ∧ W.cell? ⟨w6.heap.size, 4, none⟩ = some (.slice xqyA xqyn xqyc) ∧ W.cell? ⟨w6.heap.size, 5, none⟩ = some (.slice xqyD xqym xqyk) ∧ W.cell? ⟨w.heap.size + 1, 0, none⟩ = some (q0) ∧ W.cell? ⟨w.heap.size + 1, 1, none⟩ = some (q1) ∧ W.cell? ⟨w.heap.size + 1, 2, none⟩ = some (q2) ∧ W.cell? ⟨w.heap.size + 1, 3, none⟩ = some (q3) ∧ W.cell? ⟨w.heap.size + 1, 4, none⟩ = some (q4) ∧ W.cell? ⟨w.heap.size + 1, 5, none⟩ = some (q5)))
  have HIp := hide hp
  have HIq := hide hq
  obtain ⟨yxq0, yxq1, yxq2, yxq3, yxq4, yxq5⟩ := kxq.cells6
  obtain ⟨yq0, yq1, yq2, yq3, yq4, yq5⟩ := kq.cells6
  go_region_held3 (fun w' => w'.cell? ⟨w6.heap.size, 0, none⟩ = some (.bool xqb) ∧ w'.cell? ⟨w6.heap.size, 1, none⟩ = some (.slice xqA xqn xqc) ∧ w'.cell? ⟨w6.heap.size, 2, none⟩ = some (.slice xqD xqm xqk) ∧ w'.cell? ⟨w6.heap.size, 3, none⟩ = some (.bool xqyb) ∧ w'.cell? ⟨w6.heap.size, 4, none⟩ = some (.slice xqyA xqyn xqyc) ∧ w'.cell? ⟨w6.heap.size, 5, none⟩ = some (.slice xqyD xqym xqyk) ∧ w'.cell? ⟨w.heap.size + 1, 0, none⟩ = some (q0) ∧ w'.cell? ⟨w.heap.size + 1, 1, none⟩ = some (q1) ∧ w'.cell? ⟨w.heap.size + 1, 2, none⟩ = some (q2) ∧ w'.cell? ⟨w.heap.size + 1, 3, none⟩ = some (q3) ∧ w'.cell? ⟨w.heap.size + 1, 4, none⟩ = some (q4) ∧ w'.cell? ⟨w.heap.size + 1, 5, none⟩ = some (q5))
      (first | (with_reducible exact HKS.out _ HS2.out) | (with_reducible exact HKS.out _ HS1.out) | (with_reducible exact HKS.out _ HS0.out))
      (first
        | (go_at_call 18; have HX := HS1.out; refine (eqP_any u1 u1.heap.size (Nat.le_refl _) (HE.out _ HS1.out) qtt).mono ?_; rintro e u2 ⟨rfl, hb2⟩; have qtt := qtt.up hb2; have ott := ott.below hb2 (by omega); have hz2 : u1.heap.size ≤ u2.heap.size := hb2.size; have HS2 := hide (below_then HX hb2); clear HX)
        | (go_at_call 16; have HX := HS0.out; refine (HCq.out _ HS0.out).mono ?_; rintro e u1 ⟨tt0, tt1, tt2, tt3, tt4, tt5, rfl, ott, hb1⟩; obtain ⟨ttb, ttA, ttn, ttc, ttD, ttm, ttk, ttyb, ttyA, ttyn, ttyc, ttyD, ttym, ttyk, rfl, rfl, rfl, rfl, rfl, rfl⟩ := ott.cut; have ott : POwn u1 w9.heap.size u1.heap.size 3 (.bool ttb) (.slice ttA ttn ttc) (.slice ttD ttm ttk) (.bool ttyb) (.slice ttyA ttyn ttyc) (.slice ttyD ttym ttyk) (qZ) := ott; have qtt := ott.in_ (hqF) (Nat.le_refl _); have hz1 : w9.heap.size ≤ u1.heap.size := hb1.size; have HS1 := hide (below_then HX hb1); clear HX))
  have hb10z := HS2.out
  obtain ⟨w10, hw10⟩ : ∃ x, x = u2 := ⟨_, rfl⟩
  subst hw10
  clear HKS HS0 HS1 HS2 hb1 hb2 hz1 hz2 HBxq HBq HIp HIq ott qtt HCq HE
  clear yxq0 yxq1 yxq2 yxq3 yxq4 yxq5 yq0 yq1 yq2 yq3 yq4 yq5
  have hs10 := hb10z.size
  have hT10 := below_then hT9 hb10z
  have kp := kp.below hb10z kp.lt
  have kq := kq.below hb10z kq.lt
  have kxp := kxp.below hb10z kxp.lt
  have kxq := kxq.below hb10z kxq.lt
  have hp := hp.below (hb10z.mono (by omega))
  have hq := hq.below (hb10z.mono (by omega))
  have oxp := oxp.below hb10z (by omega)
  have oxq := oxq.below hb10z (by omega)
  clear hT9
  clear hb10z
  go_wp2
  go_ret
  exact ⟨rfl, hT10⟩
end Go.Proofs.Ytnbaookdeijhhaa
