/-
  The walk of the exact law of SquareDistance.
-/
import Derived.Test.YtnbaookdeijhhaaPtS
import Derived.Test.YtnbaookdeijhhaaPtR2
import Derived.Test.YtnbaookdeijhhaaPtI3
import Derived.Deep.RegionHeld3
import Derived.Deep.CutRange
import Derived.Sort.AtCall
namespace Go.Proofs.Ytnbaookdeijhhaa
open Go.RowKit
set_option linter.unusedVariables false
set_option maxRecDepth 100000 in
set_option maxHeartbeats 16000000 in
theorem FnExactSquareDistance_walk (w : World) {p0 p1 p2 p3 p4 p5 : Value} (fp : PRow w p0 p1 p2 p3 p4 p5) {q0 q1 q2 q3 q4 q5 : Value} (fq : PRow w q0 q1 q2 q3 q4 q5) :
    Calls Try.prog 10 #[.agg #[p0, p1, p2, p3, p4, p5], .agg #[q0, q1, q2, q3, q4, q5]] w fun e w' => e = .returned (.bool true) ∧ Below w.heap.size w w' := by
  obtain ⟨Lp, gp, Jp⟩ := fp.len
  obtain ⟨Lq, gq, Jq⟩ := fq.len
  obtain ⟨W0, hW0⟩ : ∃ W0, W0 = ((w.alloc (.cells #[p0, p1, p2, p3, p4, p5] 34)).alloc (.cells #[q0, q1, q2, q3, q4, q5] 34)) := ⟨_, rfl⟩
  have hT0 : Below w.heap.size w W0 := by rw [hW0]; exact below_alloc (below_new _ _) _
  have kp : Box W0 (w.heap.size) 34 #[p0, p1, p2, p3, p4, p5] := by rw [hW0]; exact (Box.last _ _ _ rfl).alloc _
  have kq : Box W0 (w.heap.size + 1) 34 #[q0, q1, q2, q3, q4, q5] := by rw [hW0]; exact Box.last _ _ _ (alloc_size _ _).symm
  have hs0 : W0.heap.size = w.heap.size + 2 := by rw [hW0, alloc_size, alloc_size]
  go_enter Try.func10, Try.ntmps10
  go_upto_region 1 with fail
  rw [← hW0]
  clear hW0
  obtain ⟨yp0, yp1, yp2, yp3, yp4, yp5⟩ := kp.cells6
  go_wp2_with fail
  refine (szP_any W0 gp 1048576 (by omega)).mono ?_
  rintro e w1 ⟨rfl, hb1⟩
  clear yp0 yp1 yp2 yp3 yp4 yp5
  have hs1 := hb1.size
  have hT1 := below_then hT0 hb1
  have kp := kp.below hb1 kp.lt
  have kq := kq.below hb1 kq.lt
  clear hT0
  clear hb1
  by_cases czp : ¬ Lp ≤ 1048576
  · have hle : leftI 1048576 Lp = -1 := if_neg czp
    rw [hle]
    clear hle
    go_wp2_with fail
    go_ret
    exact ⟨rfl, hT1⟩
  have czp := Decidable.not_not.1 czp
  obtain ⟨Mp, hLp⟩ : ∃ L : Nat, L + Lp = 1048576 := ⟨1048576 - Lp, by omega⟩
  have hle : leftI 1048576 Lp = (Mp : Int) := by rw [leftI, if_pos czp]; omega
  rw [hle]
  clear hle
  have hngp : ¬ (Mp : Int) < 0 := by omega
  obtain ⟨pZ, J0⟩ := Jp (by omega)
  have hpF := J0.fit
  have hp := J0.below hT1
  have HLep := hide hLp
  have hLbp : Mp ≤ 1048576 := by omega
  clear hLp czp J0 Jp gp
  obtain ⟨yq0, yq1, yq2, yq3, yq4, yq5⟩ := kq.cells6
  go_wp2_with fail
  refine (szP_any w1 gq Mp (by omega)).mono ?_
  rintro e w2 ⟨rfl, hb2⟩
  clear yq0 yq1 yq2 yq3 yq4 yq5
  have hs2 := hb2.size
  have hT2 := below_then hT1 hb2
  have kp := kp.below hb2 kp.lt
  have kq := kq.below hb2 kq.lt
  have hp := hp.below (hb2.mono (by omega))
  clear hT1
  clear hb2
  by_cases czq : ¬ Lq ≤ Mp
  · have hle : leftI Mp Lq = -1 := if_neg czq
    rw [hle]
    clear hle
    go_wp2_with fail
    go_ret
    exact ⟨rfl, hT2⟩
  have czq := Decidable.not_not.1 czq
  obtain ⟨Mq, hLq⟩ : ∃ L : Nat, L + Lq = Mp := ⟨Mp - Lq, by omega⟩
  have hle : leftI Mp Lq = (Mq : Int) := by rw [leftI, if_pos czq]; omega
  rw [hle]
  clear hle
  have hngq : ¬ (Mq : Int) < 0 := by omega
  obtain ⟨qZ, J0⟩ := Jq (by omega)
  have hqF := J0.fit
  have hq := J0.below hT2
  have HLeq := hide hLq
  have hLbq : Mq ≤ 1048576 := by omega
  clear hLq czq J0 Jq gq
  go_upto_region 8 with fail
  have HCp := hide (fun (W : World) (h : Below w2.heap.size w2 W) => toP_any W w.heap.size (by have := h.size; omega) (hp.below (h.mono (by omega))))
  have HCq := hide (fun (W : World) (h : Below w2.heap.size w2 W) => toP_any W w.heap.size (by have := h.size; omega) (hq.below (h.mono (by omega))))
  have Ehs0 := hide hs0
  clear hs0
  have HBp := hide kp
  have HBq := hide kq
  have HS0 : Hid (Below w2.heap.size w2 w2.drew) := (Below.refl _ _).drew
  have HS0a : Hid (Below w2.heap.size w2 (w2.alloc (.cells #[.bool false, .slice none 0 0, .slice none 0 0] 39)).drew) := (below_new _ _).drew
  have HKS := hide (fun (W : World) (hq : Below w2.heap.size w2 W) => (⟨(HBp.out.below hq HBp.out.lt).cell 0, (HBp.out.below hq HBp.out.lt).cell 1, (HBp.out.below hq HBp.out.lt).cell 2, (HBp.out.below hq HBp.out.lt).cell 3, (HBp.out.below hq HBp.out.lt).cell 4, (HBp.out.below hq HBp.out.lt).cell 5, (HBq.out.below hq HBq.out.lt).cell 0, (HBq.out.below hq HBq.out.lt).cell 1, (HBq.out.below hq HBq.out.lt).cell 2, (HBq.out.below hq HBq.out.lt).cell 3, (HBq.out.below hq HBq.out.lt).cell 4, (HBq.out.below hq HBq.out.lt).cell 5⟩ : W.cell? ⟨w.heap.size, 0, none⟩ = some (p0) ∧ W.cell? ⟨w.heap.size, 1, none⟩ = some (p1) ∧ W.cell? ⟨w.heap.size, 2, none⟩ = some (p2) ∧ W.cell? ⟨w.heap.size, 3, none⟩ = some (p3) ∧ W.cell? ⟨w.heap.size, 4, none⟩ = some (p4) ∧ W.cell? ⟨w.heap.size, 5, none⟩ = some (p5) ∧ W.cell? ⟨w.heap.size + 1, 0, none⟩ = some (q0) ∧ W.cell? ⟨w.heap.size + 1, 1, none⟩ = some (q1) ∧ W.cell? ⟨w.heap.size + 1, 2, none⟩ = some (q2) ∧ W.cell? ⟨w.heap.size + 1, 3, none⟩ = some (q3) ∧ W.cell? ⟨w.heap.size + 1, 4, none⟩ = some (q4) ∧ W.cell? ⟨w.heap.size + 1, 5, none⟩ = some (q5)))
  obtain ⟨yp0, yp1, yp2, yp3, yp4, yp5⟩ := kp.cells6
  obtain ⟨yq0, yq1, yq2, yq3, yq4, yq5⟩ := kq.cells6
  go_cut [6] from 24 to 91 (fun sx wx => VarQ w2 wx sx (distP pZ qZ) 39 3)
  case first =>
    go_region_held3 (fun w' => w'.cell? ⟨w.heap.size, 0, none⟩ = some (p0) ∧ w'.cell? ⟨w.heap.size, 1, none⟩ = some (p1) ∧ w'.cell? ⟨w.heap.size, 2, none⟩ = some (p2) ∧ w'.cell? ⟨w.heap.size, 3, none⟩ = some (p3) ∧ w'.cell? ⟨w.heap.size, 4, none⟩ = some (p4) ∧ w'.cell? ⟨w.heap.size, 5, none⟩ = some (p5) ∧ w'.cell? ⟨w.heap.size + 1, 0, none⟩ = some (q0) ∧ w'.cell? ⟨w.heap.size + 1, 1, none⟩ = some (q1) ∧ w'.cell? ⟨w.heap.size + 1, 2, none⟩ = some (q2) ∧ w'.cell? ⟨w.heap.size + 1, 3, none⟩ = some (q3) ∧ w'.cell? ⟨w.heap.size + 1, 4, none⟩ = some (q4) ∧ w'.cell? ⟨w.heap.size + 1, 5, none⟩ = some (q5))
        (first | (with_reducible exact HKS.out _ (below_set3 HS3.out HS2.out.size _ _ _)) | (with_reducible exact HKS.out _ (below_set3 HS3.out HS1.out.size _ _ _)) | (with_reducible exact HKS.out _ (below_set3 HS3.out (Nat.le_refl _) _ _ _)) | (with_reducible exact HKS.out _ HS3.out) | (with_reducible exact HKS.out _ (below_alloc HS3.out _)) | (with_reducible exact HKS.out _ HS2.out) | (with_reducible exact HKS.out _ (below_alloc HS2.out _)) | (with_reducible exact HKS.out _ HS1.out) | (with_reducible exact HKS.out _ (below_alloc HS1.out _)) | (with_reducible exact HKS.out _ HS0.out) | (with_reducible exact HKS.out _ HS0a.out))
        (first
          | (go_at_call 31; have HX := HS2.out; (first | (with_reducible refine Calls.mono (spec_SquareDistance _ _ (Nat.le_refl _) qtp qtq) ?_) | (with_reducible refine Calls.mono (spec_SquareDistance _ _ (Nat.le_refl _) (qtp.up (below_new _ _)) (qtq.up (below_new _ _))) ?_)); rintro e u3 ⟨z0, z1, z2, rfl, oz, hb3⟩; obtain ⟨zb, zA, zn, zc, zD, zm, zk, rfl, rfl, rfl⟩ := oz.cut; (first | (have hu3 := (show Below u2.heap.size u2 u3 from hb3)) | (have hu3 := (below_then (below_new u2 _) hb3))); have hz3 : u2.heap.size ≤ u3.heap.size := hu3.size; have qtp := qtp.up hu3; have qtq := qtq.up hu3; have HS3 := hide (below_then HX hu3); clear HX; have hy3 := hb3.size; (first | (have kz := kz_new hb3) | (have kz := kz.below hu3 kz.lt) | skip); (first | (obtain ⟨t0, t1, t2, f0, f1, f2⟩ := kz.facts3) | skip))
          | (go_at_call 16; have HX := HS1.out; (first | (with_reducible refine Calls.mono (HCq.out _ HX) ?_) | (with_reducible refine Calls.mono (HCq.out _ (below_alloc HX _)) ?_)); rintro e u2 ⟨tq0, tq1, tq2, tq3, tq4, tq5, rfl, otq, hb2⟩; obtain ⟨tqb, tqA, tqn, tqc, tqD, tqm, tqk, tqyb, tqyA, tqyn, tqyc, tqyD, tqym, tqyk, rfl, rfl, rfl, rfl, rfl, rfl⟩ := otq.cut; have qtq := otq.in_ (hqF) (Nat.le_refl _); (first | (have hu2 := (show Below u1.heap.size u1 u2 from hb2)) | (have hu2 := (below_then (below_new u1 _) hb2))); have hz2 : u1.heap.size ≤ u2.heap.size := hu2.size; have qtp := qtp.up hu2; have HS2 := hide (below_then HX hu2); clear HX; have hy2 := hb2.size; (first | (have kz := kz_new hb2) | (have kz := kz.below hu2 kz.lt) | skip))
          | (go_at_call 16; have HX := HS0.out; (first | (with_reducible refine Calls.mono (HCp.out _ HS0.out) ?_) | (with_reducible refine Calls.mono (HCp.out _ HS0a.out) ?_)); rintro e u1 ⟨tp0, tp1, tp2, tp3, tp4, tp5, rfl, otp, hb1⟩; obtain ⟨tpb, tpA, tpn, tpc, tpD, tpm, tpk, tpyb, tpyA, tpyn, tpyc, tpyD, tpym, tpyk, rfl, rfl, rfl, rfl, rfl, rfl⟩ := otp.cut; have qtp := otp.in_ (hpF) (Nat.le_refl _); (first | (have HS1 := hide (below_then HS0.out hb1)) | (have HS1 := hide (below_then HS0a.out hb1))); have hz1 : w2.heap.size ≤ u1.heap.size := HS1.out.size; clear HX; have hy1 := hb1.size; (first | (have kz := kz_drew hb1) | skip)))
    all_goals
      go_wp2_with fail
      go_meet
      case rel =>
        try simp only [drew_size, alloc_size] at hy1 hy2 hy3
        have HL := HS3.out
        first
          | ((with_reducible refine varq_set kz HL oz ?_ (Nat.le_refl _) ?_ ?_) <;> ((try simp only [alloc_size]); omega))
          | ((with_reducible refine varq_last HL oz ?_ (Nat.le_refl _)) <;> ((try simp only [alloc_size]); omega))
  case rest =>
    have hs0 := Ehs0.out
    clear Ehs0
    obtain ⟨gw0, w00, w01, w02, low0, hiw0, rfl, bn, on, hlow0, hhiw0, hggw0, hglw0, hb3⟩ := hcut
    obtain ⟨w0b, w0A, w0n, w0c, w0D, w0m, w0k, rfl, rfl, rfl⟩ := on.cut
    obtain ⟨w3, hw3⟩ : ∃ xw, xw = wc := ⟨_, rfl⟩
    subst hw3
    clear HKS HS0 HS0a HBp HBq
    clear yp0 yp1 yp2 yp3 yp4 yp5 yq0 yq1 yq2 yq3 yq4 yq5
    have hs3 := hb3.size
    have hT3 := below_then hT2 hb3
    have kp := kp.below hb3 kp.lt
    have kq := kq.below hb3 kq.lt
    have hp := hp.below (hb3.mono (by omega))
    have hq := hq.below (hb3.mono (by omega))
    clear hT2
    clear hb3
    have kw0 := bn
    have lw0 := bn.lt
    have ow0 := on
    clear bn on
    clear HCp HCq
    obtain ⟨yp0, yp1, yp2, yp3, yp4, yp5⟩ := kp.cells6
    go_wp2_with fail
    refine (toP_any w3 w.heap.size hT3.size hp).mono ?_
    rintro e w4 ⟨xp0, xp1, xp2, xp3, xp4, xp5, rfl, oxp, hb4⟩
    clear yp0 yp1 yp2 yp3 yp4 yp5
    obtain ⟨xpb, xpA, xpn, xpc, xpD, xpm, xpk, xpyb, xpyA, xpyn, xpyc, xpyD, xpym, xpyk, rfl, rfl, rfl, rfl, rfl, rfl⟩ := oxp.cut
    have hs4 := hb4.size
    have hT4 := below_then hT3 hb4
    have kp := kp.below hb4 kp.lt
    have kq := kq.below hb4 kq.lt
    have kw0 := kw0.below hb4 kw0.lt
    have hp := hp.below (hb4.mono (by omega))
    have hq := hq.below (hb4.mono (by omega))
    have ow0 := ow0.below hb4 (by omega)
    clear hT3
    clear hb4
    obtain ⟨w5, hw5⟩ : ∃ xw, xw = (w4.alloc (.cells #[.bool xpb, .slice xpA xpn xpc, .slice xpD xpm xpk, .bool xpyb, .slice xpyA xpyn xpyc, .slice xpyD xpym xpyk] 41)) := ⟨_, rfl⟩
    have hb5 : Below w4.heap.size w4 w5 := by rw [hw5]; exact below_new _ _
    have hq5 : w5.heap.size = w4.heap.size + 1 := by rw [hw5, alloc_size]
    have kxp : Box w5 (w4.heap.size) 41 #[.bool xpb, .slice xpA xpn xpc, .slice xpD xpm xpk, .bool xpyb, .slice xpyA xpyn xpyc, .slice xpyD xpym xpyk] := by rw [hw5]; exact Box.last _ _ _ (by omega)
    have hs5 := hb5.size
    have hT5 := below_then hT4 hb5
    have kp := kp.below hb5 kp.lt
    have kq := kq.below hb5 kq.lt
    have kw0 := kw0.below hb5 kw0.lt
    have hp := hp.below (hb5.mono (by omega))
    have hq := hq.below (hb5.mono (by omega))
    have ow0 := ow0.below hb5 (by omega)
    have oxp := oxp.below hb5 (by omega)
    clear hT4
    go_upto_region 10 with fail
    rw [← hw5]
    clear hw5 hb5
    obtain ⟨yq0, yq1, yq2, yq3, yq4, yq5⟩ := kq.cells6
    go_wp2_with fail
    refine (toP_any w5 w.heap.size hT5.size hq).mono ?_
    rintro e w6 ⟨xq0, xq1, xq2, xq3, xq4, xq5, rfl, oxq, hb6⟩
    clear yq0 yq1 yq2 yq3 yq4 yq5
    obtain ⟨xqb, xqA, xqn, xqc, xqD, xqm, xqk, xqyb, xqyA, xqyn, xqyc, xqyD, xqym, xqyk, rfl, rfl, rfl, rfl, rfl, rfl⟩ := oxq.cut
    have hs6 := hb6.size
    have hT6 := below_then hT5 hb6
    have kp := kp.below hb6 kp.lt
    have kq := kq.below hb6 kq.lt
    have kw0 := kw0.below hb6 kw0.lt
    have kxp := kxp.below hb6 kxp.lt
    have hp := hp.below (hb6.mono (by omega))
    have hq := hq.below (hb6.mono (by omega))
    have ow0 := ow0.below hb6 (by omega)
    have oxp := oxp.below hb6 (by omega)
    clear hT5
    clear hb6
    obtain ⟨w7, hw7⟩ : ∃ xw, xw = (w6.alloc (.cells #[.bool xqb, .slice xqA xqn xqc, .slice xqD xqm xqk, .bool xqyb, .slice xqyA xqyn xqyc, .slice xqyD xqym xqyk] 41)) := ⟨_, rfl⟩
    have hb7 : Below w6.heap.size w6 w7 := by rw [hw7]; exact below_new _ _
    have hq7 : w7.heap.size = w6.heap.size + 1 := by rw [hw7, alloc_size]
    have kxq : Box w7 (w6.heap.size) 41 #[.bool xqb, .slice xqA xqn xqc, .slice xqD xqm xqk, .bool xqyb, .slice xqyA xqyn xqyc, .slice xqyD xqym xqyk] := by rw [hw7]; exact Box.last _ _ _ (by omega)
    have hs7 := hb7.size
    have hT7 := below_then hT6 hb7
    have kp := kp.below hb7 kp.lt
    have kq := kq.below hb7 kq.lt
    have kw0 := kw0.below hb7 kw0.lt
    have kxp := kxp.below hb7 kxp.lt
    have hp := hp.below (hb7.mono (by omega))
    have hq := hq.below (hb7.mono (by omega))
    have ow0 := ow0.below hb7 (by omega)
    have oxp := oxp.below hb7 (by omega)
    have oxq := oxq.below hb7 (by omega)
    clear hT6
    go_upto_region 11 with fail
    rw [← hw7]
    clear hw7 hb7
    obtain ⟨yxp0, yxp1, yxp2, yxp3, yxp4, yxp5⟩ := kxp.cells6
    obtain ⟨yxq0, yxq1, yxq2, yxq3, yxq4, yxq5⟩ := kxq.cells6
    go_wp2_with fail
    refine (impl_SquareDistance w7 w7.heap.size (Nat.le_refl _) (oxp.in_ hpF (by omega)) (oxq.in_ hqF (by omega))).mono ?_
    rintro e w8 ⟨g00, g01, g02, rfl, og0, hb8⟩
    clear yxp0 yxp1 yxp2 yxp3 yxp4 yxp5 yxq0 yxq1 yxq2 yxq3 yxq4 yxq5
    obtain ⟨g0b, g0A, g0n, g0c, g0D, g0m, g0k, rfl, rfl, rfl⟩ := og0.cut
    have hs8 := hb8.size
    have hT8 := below_then hT7 hb8
    have kp := kp.below hb8 kp.lt
    have kq := kq.below hb8 kq.lt
    have kw0 := kw0.below hb8 kw0.lt
    have kxp := kxp.below hb8 kxp.lt
    have kxq := kxq.below hb8 kxq.lt
    have hp := hp.below (hb8.mono (by omega))
    have hq := hq.below (hb8.mono (by omega))
    have ow0 := ow0.below hb8 (by omega)
    have oxp := oxp.below hb8 (by omega)
    have oxq := oxq.below hb8 (by omega)
    clear hT7
    clear hb8
    obtain ⟨w9, hw9⟩ : ∃ xw, xw = (w8.alloc (.cells #[.bool g0b, .slice g0A g0n g0c, .slice g0D g0m g0k] 39)) := ⟨_, rfl⟩
    have hb9 : Below w8.heap.size w8 w9 := by rw [hw9]; exact below_new _ _
    have hq9 : w9.heap.size = w8.heap.size + 1 := by rw [hw9, alloc_size]
    have kg0 : Box w9 (w8.heap.size) 39 #[.bool g0b, .slice g0A g0n g0c, .slice g0D g0m g0k] := by rw [hw9]; exact Box.last _ _ _ (by omega)
    have hs9 := hb9.size
    have hT9 := below_then hT8 hb9
    have kp := kp.below hb9 kp.lt
    have kq := kq.below hb9 kq.lt
    have kw0 := kw0.below hb9 kw0.lt
    have kxp := kxp.below hb9 kxp.lt
    have kxq := kxq.below hb9 kxq.lt
    have hp := hp.below (hb9.mono (by omega))
    have hq := hq.below (hb9.mono (by omega))
    have ow0 := ow0.below hb9 (by omega)
    have oxp := oxp.below hb9 (by omega)
    have oxq := oxq.below hb9 (by omega)
    have og0 := og0.below hb9 (by omega)
    clear hT8
    go_upto_region 12 with fail
    rw [← hw9]
    clear hw9 hb9
    obtain ⟨yg00, yg01, yg02⟩ := kg0.cells3
    obtain ⟨yw00, yw01, yw02⟩ := kw0.cells3
    go_wp2_with fail
    refine (eqQ_any w9 w9.heap.size (Nat.le_refl _) (og0.in_ (distP_fit pZ qZ) (by omega)) (ow0.in_ (distP_fit pZ qZ) (by omega))).mono ?_
    rintro e w10 ⟨rfl, hb10⟩
    clear yg00 yg01 yg02 yw00 yw01 yw02
    have hs10 := hb10.size
    have hT10 := below_then hT9 hb10
    have kp := kp.below hb10 kp.lt
    have kq := kq.below hb10 kq.lt
    have kw0 := kw0.below hb10 kw0.lt
    have kxp := kxp.below hb10 kxp.lt
    have kxq := kxq.below hb10 kxq.lt
    have kg0 := kg0.below hb10 kg0.lt
    have hp := hp.below (hb10.mono (by omega))
    have hq := hq.below (hb10.mono (by omega))
    have ow0 := ow0.below hb10 (by omega)
    have oxp := oxp.below hb10 (by omega)
    have oxq := oxq.below hb10 (by omega)
    have og0 := og0.below hb10 (by omega)
    clear hT9
    clear hb10
    go_upto_region 14 with fail
    have HCp := hide (fun (W : World) (h : Below w10.heap.size w10 W) => toP_any W w.heap.size (by have := h.size; omega) (hp.below (h.mono (by omega))))
    have HE := hide (fun (W : World) (h : Below w10.heap.size w10 W) => ((oxp.in_ hpF (show _ ≤ w10.heap.size by omega)).below h).wider h.size)
    have HBxp := hide kxp
    have HBp := hide kp
    have HS0 : Hid (Below w10.heap.size w10 w10.drew) := (Below.refl _ _).drew
    have HKS := hide (fun (W : World) (hq : Below w10.heap.size w10 W) => (⟨(HBxp.out.below hq HBxp.out.lt).cell 0, (HBxp.out.below hq HBxp.out.lt).cell 1, (HBxp.out.below hq HBxp.out.lt).cell 2, (HBxp.out.below hq HBxp.out.lt).cell 3, (HBxp.out.below hq HBxp.out.lt).cell 4, (HBxp.out.below hq HBxp.out.lt).cell 5, (HBp.out.below hq HBp.out.lt).cell 0, (HBp.out.below hq HBp.out.lt).cell 1, (HBp.out.below hq HBp.out.lt).cell 2, (HBp.out.below hq HBp.out.lt).cell 3, (HBp.out.below hq HBp.out.lt).cell 4, (HBp.out.below hq HBp.out.lt).cell 5⟩ : W.cell? ⟨w4.heap.size, 0, none⟩ = some (.bool xpb) ∧ W.cell? ⟨w4.heap.size, 1, none⟩ = some (.slice xpA xpn xpc) ∧ W.cell? ⟨w4.heap.size, 2, none⟩ = some (.slice xpD xpm xpk) ∧ W.cell? ⟨w4.heap.size, 3, none⟩ = some (.bool xpyb) ∧ W.cell? ⟨w4.heap.size, 4, none⟩ = some (.slice xpyA xpyn xpyc) ∧ W.cell? ⟨w4.heap.size, 5, none⟩ = some (.slice xpyD xpym xpyk) ∧ W.cell? ⟨w.heap.size, 0, none⟩ = some (p0) ∧ W.cell? ⟨w.heap.size, 1, none⟩ = some (p1) ∧ W.cell? ⟨w.heap.size, 2, none⟩ = some (p2) ∧ W.cell? ⟨w.heap.size, 3, none⟩ = some (p3) ∧ W.cell? ⟨w.heap.size, 4, none⟩ = some (p4) ∧ W.cell? ⟨w.heap.size, 5, none⟩ = some (p5)))
    have HIp := hide hp
    have HIq := hide hq
    obtain ⟨yxp0, yxp1, yxp2, yxp3, yxp4, yxp5⟩ := kxp.cells6
    obtain ⟨yp0, yp1, yp2, yp3, yp4, yp5⟩ := kp.cells6
    go_region_held3 (fun w' => w'.cell? ⟨w4.heap.size, 0, none⟩ = some (.bool xpb) ∧ w'.cell? ⟨w4.heap.size, 1, none⟩ = some (.slice xpA xpn xpc) ∧ w'.cell? ⟨w4.heap.size, 2, none⟩ = some (.slice xpD xpm xpk) ∧ w'.cell? ⟨w4.heap.size, 3, none⟩ = some (.bool xpyb) ∧ w'.cell? ⟨w4.heap.size, 4, none⟩ = some (.slice xpyA xpyn xpyc) ∧ w'.cell? ⟨w4.heap.size, 5, none⟩ = some (.slice xpyD xpym xpyk) ∧ w'.cell? ⟨w.heap.size, 0, none⟩ = some (p0) ∧ w'.cell? ⟨w.heap.size, 1, none⟩ = some (p1) ∧ w'.cell? ⟨w.heap.size, 2, none⟩ = some (p2) ∧ w'.cell? ⟨w.heap.size, 3, none⟩ = some (p3) ∧ w'.cell? ⟨w.heap.size, 4, none⟩ = some (p4) ∧ w'.cell? ⟨w.heap.size, 5, none⟩ = some (p5))
        (first | (with_reducible exact HKS.out _ HS2.out) | (with_reducible exact HKS.out _ HS1.out) | (with_reducible exact HKS.out _ HS0.out))
        (first
          | (go_at_call 18; have HX := HS1.out; refine (eqP_any u1 u1.heap.size (Nat.le_refl _) (HE.out _ HS1.out) qtt).mono ?_; rintro e u2 ⟨rfl, hb2⟩; have qtt := qtt.up hb2; have ott := ott.below hb2 (by omega); have hz2 : u1.heap.size ≤ u2.heap.size := hb2.size; have HS2 := hide (below_then HX hb2); clear HX)
          | (go_at_call 16; have HX := HS0.out; refine (HCp.out _ HS0.out).mono ?_; rintro e u1 ⟨tt0, tt1, tt2, tt3, tt4, tt5, rfl, ott, hb1⟩; obtain ⟨ttb, ttA, ttn, ttc, ttD, ttm, ttk, ttyb, ttyA, ttyn, ttyc, ttyD, ttym, ttyk, rfl, rfl, rfl, rfl, rfl, rfl⟩ := ott.cut; have ott : POwn u1 w10.heap.size u1.heap.size 3 (.bool ttb) (.slice ttA ttn ttc) (.slice ttD ttm ttk) (.bool ttyb) (.slice ttyA ttyn ttyc) (.slice ttyD ttym ttyk) (pZ) := ott; have qtt := ott.in_ (hpF) (Nat.le_refl _); have hz1 : w10.heap.size ≤ u1.heap.size := hb1.size; have HS1 := hide (below_then HX hb1); clear HX))
    have hb11z := HS2.out
    obtain ⟨w11, hw11⟩ : ∃ x, x = u2 := ⟨_, rfl⟩
    subst hw11
    clear HKS HS0 HS1 HS2 hb1 hb2 hz1 hz2 HBxp HBp HIp HIq ott qtt HCp HE
    clear yxp0 yxp1 yxp2 yxp3 yxp4 yxp5 yp0 yp1 yp2 yp3 yp4 yp5
    have hs11 := hb11z.size
    have hT11 := below_then hT10 hb11z
    have kp := kp.below hb11z kp.lt
    have kq := kq.below hb11z kq.lt
    have kw0 := kw0.below hb11z kw0.lt
    have kxp := kxp.below hb11z kxp.lt
    have kxq := kxq.below hb11z kxq.lt
    have kg0 := kg0.below hb11z kg0.lt
    have hp := hp.below (hb11z.mono (by omega))
    have hq := hq.below (hb11z.mono (by omega))
    have ow0 := ow0.below hb11z (by omega)
    have oxp := oxp.below hb11z (by omega)
    have oxq := oxq.below hb11z (by omega)
    have og0 := og0.below hb11z (by omega)
    clear hT10
    clear hb11z
    go_upto_region 16 with fail
    have HCq := hide (fun (W : World) (h : Below w11.heap.size w11 W) => toP_any W w.heap.size (by have := h.size; omega) (hq.below (h.mono (by omega))))
    have HE := hide (fun (W : World) (h : Below w11.heap.size w11 W) => ((oxq.in_ hqF (show _ ≤ w11.heap.size by omega)).below h).wider h.size)
    have HBxq := hide kxq
    have HBq := hide kq
    have HS0 : Hid (Below w11.heap.size w11 w11.drew) := (Below.refl _ _).drew
    have HKS := hide (fun (W : World) (hq : Below w11.heap.size w11 W) => (⟨(HBxq.out.below hq HBxq.out.lt).cell 0, (HBxq.out.below hq HBxq.out.lt).cell 1, (HBxq.out.below hq HBxq.out.lt).cell 2, (HBxq.out.below hq HBxq.out.lt).cell 3, (HBxq.out.below hq HBxq.out.lt).cell 4, (HBxq.out.below hq HBxq.out.lt).cell 5, (HBq.out.below hq HBq.out.lt).cell 0, (HBq.out.below hq HBq.out.lt).cell 1, (HBq.out.below hq HBq.out.lt).cell 2, (HBq.out.below hq HBq.out.lt).cell 3, (HBq.out.below hq HBq.out.lt).cell 4, (HBq.out.below hq HBq.out.lt).cell 5⟩ : W.cell? ⟨w6.heap.size, 0, none⟩ = some (.bool xqb) ∧ W.cell? ⟨w6.heap.size, 1, none⟩ = some (.slice xqA xqn xqc) ∧ W.cell? ⟨w6.heap.size, 2, none⟩ = some (.slice xqD xqm xqk) ∧ W.cell? ⟨w6.heap.size, 3, none⟩ = some (.bool xqyb) ∧ W.cell? ⟨w6.heap.size, 4, none⟩ = some (.slice xqyA xqyn xqyc) ∧ W.cell? ⟨w6.heap.size, 5, none⟩ = some (.slice xqyD xqym xqyk) ∧ W.cell? ⟨w.heap.size + 1, 0, none⟩ = some (q0) ∧ W.cell? ⟨w.heap.size + 1, 1, none⟩ = some (q1) ∧ W.cell? ⟨w.heap.size + 1, 2, none⟩ = some (q2) ∧ W.cell? ⟨w.heap.size + 1, 3, none⟩ = some (q3) ∧ W.cell? ⟨w.heap.size + 1, 4, none⟩ = some (q4) ∧ W.cell? ⟨w.heap.size + 1, 5, none⟩ = some (q5)))
    have HIp := hide hp
    have HIq := hide hq
    obtain ⟨yxq0, yxq1, yxq2, yxq3, yxq4, yxq5⟩ := kxq.cells6
    obtain ⟨yq0, yq1, yq2, yq3, yq4, yq5⟩ := kq.cells6
    go_region_held3 (fun w' => w'.cell? ⟨w6.heap.size, 0, none⟩ = some (.bool xqb) ∧ w'.cell? ⟨w6.heap.size, 1, none⟩ = some (.slice xqA xqn xqc) ∧ w'.cell? ⟨w6.heap.size, 2, none⟩ = some (.slice xqD xqm xqk) ∧ w'.cell? ⟨w6.heap.size, 3, none⟩ = some (.bool xqyb) ∧ w'.cell? ⟨w6.heap.size, 4, none⟩ = some (.slice xqyA xqyn xqyc) ∧ w'.cell? ⟨w6.heap.size, 5, none⟩ = some (.slice xqyD xqym xqyk) ∧ w'.cell? ⟨w.heap.size + 1, 0, none⟩ = some (q0) ∧ w'.cell? ⟨w.heap.size + 1, 1, none⟩ = some (q1) ∧ w'.cell? ⟨w.heap.size + 1, 2, none⟩ = some (q2) ∧ w'.cell? ⟨w.heap.size + 1, 3, none⟩ = some (q3) ∧ w'.cell? ⟨w.heap.size + 1, 4, none⟩ = some (q4) ∧ w'.cell? ⟨w.heap.size + 1, 5, none⟩ = some (q5))
        (first | (with_reducible exact HKS.out _ HS2.out) | (with_reducible exact HKS.out _ HS1.out) | (with_reducible exact HKS.out _ HS0.out))
        (first
          | (go_at_call 18; have HX := HS1.out; refine (eqP_any u1 u1.heap.size (Nat.le_refl _) (HE.out _ HS1.out) qtt).mono ?_; rintro e u2 ⟨rfl, hb2⟩; have qtt := qtt.up hb2; have ott := ott.below hb2 (by omega); have hz2 : u1.heap.size ≤ u2.heap.size := hb2.size; have HS2 := hide (below_then HX hb2); clear HX)
          | (go_at_call 16; have HX := HS0.out; refine (HCq.out _ HS0.out).mono ?_; rintro e u1 ⟨tt0, tt1, tt2, tt3, tt4, tt5, rfl, ott, hb1⟩; obtain ⟨ttb, ttA, ttn, ttc, ttD, ttm, ttk, ttyb, ttyA, ttyn, ttyc, ttyD, ttym, ttyk, rfl, rfl, rfl, rfl, rfl, rfl⟩ := ott.cut; have ott : POwn u1 w11.heap.size u1.heap.size 3 (.bool ttb) (.slice ttA ttn ttc) (.slice ttD ttm ttk) (.bool ttyb) (.slice ttyA ttyn ttyc) (.slice ttyD ttym ttyk) (qZ) := ott; have qtt := ott.in_ (hqF) (Nat.le_refl _); have hz1 : w11.heap.size ≤ u1.heap.size := hb1.size; have HS1 := hide (below_then HX hb1); clear HX))
    have hb12z := HS2.out
    obtain ⟨w12, hw12⟩ : ∃ x, x = u2 := ⟨_, rfl⟩
    subst hw12
    clear HKS HS0 HS1 HS2 hb1 hb2 hz1 hz2 HBxq HBq HIp HIq ott qtt HCq HE
    clear yxq0 yxq1 yxq2 yxq3 yxq4 yxq5 yq0 yq1 yq2 yq3 yq4 yq5
    have hs12 := hb12z.size
    have hT12 := below_then hT11 hb12z
    have kp := kp.below hb12z kp.lt
    have kq := kq.below hb12z kq.lt
    have kw0 := kw0.below hb12z kw0.lt
    have kxp := kxp.below hb12z kxp.lt
    have kxq := kxq.below hb12z kxq.lt
    have kg0 := kg0.below hb12z kg0.lt
    have hp := hp.below (hb12z.mono (by omega))
    have hq := hq.below (hb12z.mono (by omega))
    have ow0 := ow0.below hb12z (by omega)
    have oxp := oxp.below hb12z (by omega)
    have oxq := oxq.below hb12z (by omega)
    have og0 := og0.below hb12z (by omega)
    clear hT11
    clear hb12z
    obtain ⟨yxp0, yxp1, yxp2, yxp3, yxp4, yxp5⟩ := kxp.cells6
    go_wp2_with fail
    refine (markP_own w12 (w3.heap.size) (w4.heap.size) 3 1 oxp (by omega) (hpF) (by omega)).mono ?_
    rintro e w13 ⟨he, pxp, ha13⟩
    have hcz := sizP_le (hpF)
    obtain ⟨K1, hK1⟩ : ∃ K : Nat, K = 1 + sizP (pZ) := ⟨_, rfl⟩
    have bK1 : K1 ≤ 4200010 := by omega
    rw [← hK1] at he
    subst he
    have HK1 := hide hK1
    clear hK1 hcz
    clear yxp0 yxp1 yxp2 yxp3 yxp4 yxp5
    have hs13 := ha13.size
    have hT13 := hT12.trans (Aside.below ha13 (by omega) (by omega))
    have kp := kp.aside ha13 (by omega)
    have kq := kq.aside ha13 (by omega)
    have kw0 := kw0.aside ha13 (by omega)
    have kxp := kxp.aside ha13 (by omega)
    have kxq := kxq.aside ha13 (by omega)
    have kg0 := kg0.aside ha13 (by omega)
    have hp := hp.below (Aside.below ha13 (by omega) (by omega))
    have hq := hq.below (Aside.below ha13 (by omega) (by omega))
    have ow0 := ow0.aside ha13 (by omega)
    have oxq := oxq.aside ha13 (by omega)
    have og0 := og0.aside ha13 (by omega)
    clear hT12
    have oxp := pxp
    clear pxp ha13
    obtain ⟨yxq0, yxq1, yxq2, yxq3, yxq4, yxq5⟩ := kxq.cells6
    go_wp2_with fail
    refine (markP_own w13 (w5.heap.size) (w6.heap.size) 3 K1 oxq (by omega) (hqF) (by omega)).mono ?_
    rintro e w14 ⟨he, pxq, ha14⟩
    have hcz := sizP_le (hqF)
    obtain ⟨K2, hK2⟩ : ∃ K : Nat, K = K1 + sizP (qZ) := ⟨_, rfl⟩
    have bK2 : K2 ≤ 8400010 := by omega
    rw [← hK2] at he
    subst he
    have HK2 := hide hK2
    clear hK2 hcz
    clear yxq0 yxq1 yxq2 yxq3 yxq4 yxq5
    have hs14 := ha14.size
    have hT14 := hT13.trans (Aside.below ha14 (by omega) (by omega))
    have kp := kp.aside ha14 (by omega)
    have kq := kq.aside ha14 (by omega)
    have kw0 := kw0.aside ha14 (by omega)
    have kxp := kxp.aside ha14 (by omega)
    have kxq := kxq.aside ha14 (by omega)
    have kg0 := kg0.aside ha14 (by omega)
    have hp := hp.below (Aside.below ha14 (by omega) (by omega))
    have hq := hq.below (Aside.below ha14 (by omega) (by omega))
    have ow0 := ow0.aside ha14 (by omega)
    have oxp := oxp.aside ha14 (by omega)
    have og0 := og0.aside ha14 (by omega)
    clear hT13
    have oxq := pxq
    clear pxq ha14
    have hnk : ¬ (K2 : Int) < 0 := by omega
    obtain ⟨yg00, yg01, yg02⟩ := kg0.cells3
    obtain ⟨yw00, yw01, yw02⟩ := kw0.cells3
    go_wp2_with fail
    refine (eqQ_any w14 w14.heap.size (Nat.le_refl _) (og0.in_ (distP_fit pZ qZ) (by omega)) (ow0.in_ (distP_fit pZ qZ) (by omega))).mono ?_
    rintro e w15 ⟨rfl, hb15⟩
    clear yg00 yg01 yg02 yw00 yw01 yw02
    have hs15 := hb15.size
    have hT15 := below_then hT14 hb15
    have kp := kp.below hb15 kp.lt
    have kq := kq.below hb15 kq.lt
    have kw0 := kw0.below hb15 kw0.lt
    have kxp := kxp.below hb15 kxp.lt
    have kxq := kxq.below hb15 kxq.lt
    have kg0 := kg0.below hb15 kg0.lt
    have hp := hp.below (hb15.mono (by omega))
    have hq := hq.below (hb15.mono (by omega))
    have ow0 := ow0.below hb15 (by omega)
    have oxp := oxp.below hb15 (by omega)
    have oxq := oxq.below hb15 (by omega)
    have og0 := og0.below hb15 (by omega)
    clear hT14
    clear hb15
    obtain ⟨yg00, yg01, yg02⟩ := kg0.cells3
    go_wp2_with fail
    refine (markQ_own w15 (w7.heap.size) (w8.heap.size) 3 1 og0 (by omega) ⟨by have := (distP_fit pZ qZ).1; omega, by have := (distP_fit pZ qZ).2.1; omega⟩ (by omega)).mono ?_
    rintro e w16 ⟨he, pg0, ha16⟩
    have hcz := sizQ_le (distP_fit pZ qZ)
    obtain ⟨K3, hK3⟩ : ∃ K : Nat, K = 1 + sizQ (distP pZ qZ) := ⟨_, rfl⟩
    have bK3 : K3 ≤ 12600010 := by omega
    rw [← hK3] at he
    subst he
    have HK3 := hide hK3
    clear hK3 hcz
    clear yg00 yg01 yg02
    have hs16 := ha16.size
    have hT16 := hT15.trans (Aside.below ha16 (by omega) (by omega))
    have kp := kp.aside ha16 (by omega)
    have kq := kq.aside ha16 (by omega)
    have kw0 := kw0.aside ha16 (by omega)
    have kxp := kxp.aside ha16 (by omega)
    have kxq := kxq.aside ha16 (by omega)
    have kg0 := kg0.aside ha16 (by omega)
    have hp := hp.below (Aside.below ha16 (by omega) (by omega))
    have hq := hq.below (Aside.below ha16 (by omega) (by omega))
    have ow0 := ow0.aside ha16 (by omega)
    have oxp := oxp.aside ha16 (by omega)
    have oxq := oxq.aside ha16 (by omega)
    clear hT15
    have og0 := pg0
    clear pg0 ha16
    obtain ⟨yg00, yg01, yg02⟩ := kg0.cells3
    have hNK3 : ¬ (K3 : Int) < 0 := by omega
    go_wp2_with fail
    refine (heldQ_any w16 (w7.heap.size) (w8.heap.size) 3 1 og0 (by omega) ⟨by have := (distP_fit pZ qZ).1; omega, by have := (distP_fit pZ qZ).2.1; omega⟩ (by omega)).mono ?_
    rintro e w17 ⟨he, hb17⟩
    rw [← HK3.out] at he
    subst he
    clear yg00 yg01 yg02
    have hs17 := hb17.size
    have hT17 := below_then hT16 hb17
    have kp := kp.below hb17 kp.lt
    have kq := kq.below hb17 kq.lt
    have kw0 := kw0.below hb17 kw0.lt
    have kxp := kxp.below hb17 kxp.lt
    have kxq := kxq.below hb17 kxq.lt
    have kg0 := kg0.below hb17 kg0.lt
    have hp := hp.below (hb17.mono (by omega))
    have hq := hq.below (hb17.mono (by omega))
    have ow0 := ow0.below hb17 (by omega)
    have oxp := oxp.below hb17 (by omega)
    have oxq := oxq.below hb17 (by omega)
    have og0 := og0.below hb17 (by omega)
    clear hT16
    clear hb17
    go_upto_region 31 with fail
    have HCp := hide (fun (W : World) (h : Below w17.heap.size w17 W) => toP_any W w.heap.size (by have := h.size; omega) (hp.below (h.mono (by omega))))
    have HCq := hide (fun (W : World) (h : Below w17.heap.size w17 W) => toP_any W w.heap.size (by have := h.size; omega) (hq.below (h.mono (by omega))))
    have Ehs0 := hide hs0
    clear hs0
    have Ehq5 := hide hq5
    clear hq5
    have Ehq7 := hide hq7
    clear hq7
    have Ehq9 := hide hq9
    clear hq9
    have HBp := hide kp
    have HBq := hide kq
    have HS0 : Hid (Below w17.heap.size w17 w17.drew) := (Below.refl _ _).drew
    have HS0a : Hid (Below w17.heap.size w17 (w17.alloc (.cells #[.bool false, .slice none 0 0, .slice none 0 0] 39)).drew) := (below_new _ _).drew
    have HKS := hide (fun (W : World) (hq : Below w17.heap.size w17 W) => (⟨(HBp.out.below hq HBp.out.lt).cell 0, (HBp.out.below hq HBp.out.lt).cell 1, (HBp.out.below hq HBp.out.lt).cell 2, (HBp.out.below hq HBp.out.lt).cell 3, (HBp.out.below hq HBp.out.lt).cell 4, (HBp.out.below hq HBp.out.lt).cell 5, (HBq.out.below hq HBq.out.lt).cell 0, (HBq.out.below hq HBq.out.lt).cell 1, (HBq.out.below hq HBq.out.lt).cell 2, (HBq.out.below hq HBq.out.lt).cell 3, (HBq.out.below hq HBq.out.lt).cell 4, (HBq.out.below hq HBq.out.lt).cell 5⟩ : W.cell? ⟨w.heap.size, 0, none⟩ = some (p0) ∧ W.cell? ⟨w.heap.size, 1, none⟩ = some (p1) ∧ W.cell? ⟨w.heap.size, 2, none⟩ = some (p2) ∧ W.cell? ⟨w.heap.size, 3, none⟩ = some (p3) ∧ W.cell? ⟨w.heap.size, 4, none⟩ = some (p4) ∧ W.cell? ⟨w.heap.size, 5, none⟩ = some (p5) ∧ W.cell? ⟨w.heap.size + 1, 0, none⟩ = some (q0) ∧ W.cell? ⟨w.heap.size + 1, 1, none⟩ = some (q1) ∧ W.cell? ⟨w.heap.size + 1, 2, none⟩ = some (q2) ∧ W.cell? ⟨w.heap.size + 1, 3, none⟩ = some (q3) ∧ W.cell? ⟨w.heap.size + 1, 4, none⟩ = some (q4) ∧ W.cell? ⟨w.heap.size + 1, 5, none⟩ = some (q5)))
    obtain ⟨yp0, yp1, yp2, yp3, yp4, yp5⟩ := kp.cells6
    obtain ⟨yq0, yq1, yq2, yq3, yq4, yq5⟩ := kq.cells6
    go_cut [13] from 75 to 91 (fun sx wx => VarQ w17 wx sx (distP pZ qZ) 39 3)
    case first =>
      go_region_held3 (fun w' => w'.cell? ⟨w.heap.size, 0, none⟩ = some (p0) ∧ w'.cell? ⟨w.heap.size, 1, none⟩ = some (p1) ∧ w'.cell? ⟨w.heap.size, 2, none⟩ = some (p2) ∧ w'.cell? ⟨w.heap.size, 3, none⟩ = some (p3) ∧ w'.cell? ⟨w.heap.size, 4, none⟩ = some (p4) ∧ w'.cell? ⟨w.heap.size, 5, none⟩ = some (p5) ∧ w'.cell? ⟨w.heap.size + 1, 0, none⟩ = some (q0) ∧ w'.cell? ⟨w.heap.size + 1, 1, none⟩ = some (q1) ∧ w'.cell? ⟨w.heap.size + 1, 2, none⟩ = some (q2) ∧ w'.cell? ⟨w.heap.size + 1, 3, none⟩ = some (q3) ∧ w'.cell? ⟨w.heap.size + 1, 4, none⟩ = some (q4) ∧ w'.cell? ⟨w.heap.size + 1, 5, none⟩ = some (q5))
          (first | (with_reducible exact HKS.out _ (below_set3 HS3.out HS2.out.size _ _ _)) | (with_reducible exact HKS.out _ (below_set3 HS3.out HS1.out.size _ _ _)) | (with_reducible exact HKS.out _ (below_set3 HS3.out (Nat.le_refl _) _ _ _)) | (with_reducible exact HKS.out _ HS3.out) | (with_reducible exact HKS.out _ (below_alloc HS3.out _)) | (with_reducible exact HKS.out _ HS2.out) | (with_reducible exact HKS.out _ (below_alloc HS2.out _)) | (with_reducible exact HKS.out _ HS1.out) | (with_reducible exact HKS.out _ (below_alloc HS1.out _)) | (with_reducible exact HKS.out _ HS0.out) | (with_reducible exact HKS.out _ HS0a.out))
          (first
            | (go_at_call 32; have HX := HS2.out; (first | (with_reducible refine Calls.mono (impl_SquareDistance _ _ (Nat.le_refl _) qtp qtq) ?_) | (with_reducible refine Calls.mono (impl_SquareDistance _ _ (Nat.le_refl _) (qtp.up (below_new _ _)) (qtq.up (below_new _ _))) ?_)); rintro e u3 ⟨z0, z1, z2, rfl, oz, hb3⟩; obtain ⟨zb, zA, zn, zc, zD, zm, zk, rfl, rfl, rfl⟩ := oz.cut; (first | (have hu3 := (show Below u2.heap.size u2 u3 from hb3)) | (have hu3 := (below_then (below_new u2 _) hb3))); have hz3 : u2.heap.size ≤ u3.heap.size := hu3.size; have qtp := qtp.up hu3; have qtq := qtq.up hu3; have HS3 := hide (below_then HX hu3); clear HX; have hy3 := hb3.size; (first | (have kz := kz_new hb3) | (have kz := kz.below hu3 kz.lt) | skip); (first | (obtain ⟨t0, t1, t2, f0, f1, f2⟩ := kz.facts3) | skip))
            | (go_at_call 16; have HX := HS1.out; (first | (with_reducible refine Calls.mono (HCq.out _ HX) ?_) | (with_reducible refine Calls.mono (HCq.out _ (below_alloc HX _)) ?_)); rintro e u2 ⟨tq0, tq1, tq2, tq3, tq4, tq5, rfl, otq, hb2⟩; obtain ⟨tqb, tqA, tqn, tqc, tqD, tqm, tqk, tqyb, tqyA, tqyn, tqyc, tqyD, tqym, tqyk, rfl, rfl, rfl, rfl, rfl, rfl⟩ := otq.cut; have qtq := otq.in_ (hqF) (Nat.le_refl _); (first | (have hu2 := (show Below u1.heap.size u1 u2 from hb2)) | (have hu2 := (below_then (below_new u1 _) hb2))); have hz2 : u1.heap.size ≤ u2.heap.size := hu2.size; have qtp := qtp.up hu2; have HS2 := hide (below_then HX hu2); clear HX; have hy2 := hb2.size; (first | (have kz := kz_new hb2) | (have kz := kz.below hu2 kz.lt) | skip))
            | (go_at_call 16; have HX := HS0.out; (first | (with_reducible refine Calls.mono (HCp.out _ HS0.out) ?_) | (with_reducible refine Calls.mono (HCp.out _ HS0a.out) ?_)); rintro e u1 ⟨tp0, tp1, tp2, tp3, tp4, tp5, rfl, otp, hb1⟩; obtain ⟨tpb, tpA, tpn, tpc, tpD, tpm, tpk, tpyb, tpyA, tpyn, tpyc, tpyD, tpym, tpyk, rfl, rfl, rfl, rfl, rfl, rfl⟩ := otp.cut; have qtp := otp.in_ (hpF) (Nat.le_refl _); (first | (have HS1 := hide (below_then HS0.out hb1)) | (have HS1 := hide (below_then HS0a.out hb1))); have hz1 : w17.heap.size ≤ u1.heap.size := HS1.out.size; clear HX; have hy1 := hb1.size; (first | (have kz := kz_drew hb1) | skip)))
      all_goals
        go_wp2_with fail
        go_meet
        case rel =>
          try simp only [drew_size, alloc_size] at hy1 hy2 hy3
          have HL := HS3.out
          first
            | ((with_reducible refine varq_set kz HL oz ?_ (Nat.le_refl _) ?_ ?_) <;> ((try simp only [alloc_size]); omega))
            | ((with_reducible refine varq_last HL oz ?_ (Nat.le_refl _)) <;> ((try simp only [alloc_size]); omega))
    case rest =>
      have hs0 := Ehs0.out
      clear Ehs0
      have hq5 := Ehq5.out
      clear Ehq5
      have hq7 := Ehq7.out
      clear Ehq7
      have hq9 := Ehq9.out
      clear Ehq9
      obtain ⟨gh0, h00, h01, h02, loh0, hih0, rfl, bn, on, hloh0, hhih0, hggh0, hglh0, hb18⟩ := hcut
      obtain ⟨h0b, h0A, h0n, h0c, h0D, h0m, h0k, rfl, rfl, rfl⟩ := on.cut
      obtain ⟨w18, hw18⟩ : ∃ xw, xw = wc := ⟨_, rfl⟩
      subst hw18
      clear HKS HS0 HS0a HBp HBq
      clear yp0 yp1 yp2 yp3 yp4 yp5 yq0 yq1 yq2 yq3 yq4 yq5
      have hs18 := hb18.size
      have hT18 := below_then hT17 hb18
      have kp := kp.below hb18 kp.lt
      have kq := kq.below hb18 kq.lt
      have kw0 := kw0.below hb18 kw0.lt
      have kxp := kxp.below hb18 kxp.lt
      have kxq := kxq.below hb18 kxq.lt
      have kg0 := kg0.below hb18 kg0.lt
      have hp := hp.below (hb18.mono (by omega))
      have hq := hq.below (hb18.mono (by omega))
      have ow0 := ow0.below hb18 (by omega)
      have oxp := oxp.below hb18 (by omega)
      have oxq := oxq.below hb18 (by omega)
      have og0 := og0.below hb18 (by omega)
      clear hT17
      clear hb18
      have kh0 := bn
      have lh0 := bn.lt
      have oh0 := on
      clear bn on
      clear HCp HCq
      obtain ⟨yh00, yh01, yh02⟩ := kh0.cells3
      obtain ⟨yw00, yw01, yw02⟩ := kw0.cells3
      go_wp2_with fail
      refine (eqQ_any w18 w18.heap.size (Nat.le_refl _) (oh0.in_ (distP_fit pZ qZ) (by omega)) (ow0.in_ (distP_fit pZ qZ) (by omega))).mono ?_
      rintro e w19 ⟨rfl, hb19⟩
      clear yh00 yh01 yh02 yw00 yw01 yw02
      have hs19 := hb19.size
      have hT19 := below_then hT18 hb19
      have kp := kp.below hb19 kp.lt
      have kq := kq.below hb19 kq.lt
      have kw0 := kw0.below hb19 kw0.lt
      have kxp := kxp.below hb19 kxp.lt
      have kxq := kxq.below hb19 kxq.lt
      have kg0 := kg0.below hb19 kg0.lt
      have kh0 := kh0.below hb19 kh0.lt
      have hp := hp.below (hb19.mono (by omega))
      have hq := hq.below (hb19.mono (by omega))
      have ow0 := ow0.below hb19 (by omega)
      have oxp := oxp.below hb19 (by omega)
      have oxq := oxq.below hb19 (by omega)
      have og0 := og0.below hb19 (by omega)
      have oh0 := oh0.below hb19 (by omega)
      clear hT18
      clear hb19
      obtain ⟨yg00, yg01, yg02⟩ := kg0.cells3
      have hNK3 : ¬ (K3 : Int) < 0 := by omega
      go_wp2_with fail
      refine (heldQ_any w19 (w7.heap.size) (w8.heap.size) 3 1 og0 (by omega) ⟨by have := (distP_fit pZ qZ).1; omega, by have := (distP_fit pZ qZ).2.1; omega⟩ (by omega)).mono ?_
      rintro e w20 ⟨he, hb20⟩
      rw [← HK3.out] at he
      subst he
      clear yg00 yg01 yg02
      have hs20 := hb20.size
      have hT20 := below_then hT19 hb20
      have kp := kp.below hb20 kp.lt
      have kq := kq.below hb20 kq.lt
      have kw0 := kw0.below hb20 kw0.lt
      have kxp := kxp.below hb20 kxp.lt
      have kxq := kxq.below hb20 kxq.lt
      have kg0 := kg0.below hb20 kg0.lt
      have kh0 := kh0.below hb20 kh0.lt
      have hp := hp.below (hb20.mono (by omega))
      have hq := hq.below (hb20.mono (by omega))
      have ow0 := ow0.below hb20 (by omega)
      have oxp := oxp.below hb20 (by omega)
      have oxq := oxq.below hb20 (by omega)
      have og0 := og0.below hb20 (by omega)
      have oh0 := oh0.below hb20 (by omega)
      clear hT19
      clear hb20
      go_wp2
      go_ret
      exact ⟨rfl, hT20⟩
end Go.Proofs.Ytnbaookdeijhhaa
