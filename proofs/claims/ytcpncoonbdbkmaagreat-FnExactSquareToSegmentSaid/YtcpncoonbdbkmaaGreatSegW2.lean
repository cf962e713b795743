/-
  The walk of the exact law of SquareToSegment.
-/
import Derived.Test.YtcpncoonbdbkmaaGreatPtS
import Derived.Test.YtcpncoonbdbkmaaGreatSegR2
import Derived.Test.YtcpncoonbdbkmaaGreatSegI2
import Derived.Deep.RegionHeld3
import Derived.Deep.CutRange
import Derived.Sort.AtCall
namespace Go.Proofs.YtcpncoonbdbkmaaGreat
open Go.RowKit
set_option linter.unusedVariables false
set_option maxRecDepth 100000 in
set_option maxHeartbeats 16000000 in
theorem FnExactSquareToSegment_walk (w : World) {p0 p1 p2 p3 p4 p5 : Value} (fp : PRow w p0 p1 p2 p3 p4 p5) {q0 q1 q2 q3 q4 q5 : Value} (fq : PRow w q0 q1 q2 q3 q4 q5) {m0 m1 m2 m3 m4 m5 : Value} (fm : PRow w m0 m1 m2 m3 m4 m5) :
    Calls Tryz.prog 5 #[.agg #[p0, p1, p2, p3, p4, p5], .agg #[q0, q1, q2, q3, q4, q5], .agg #[m0, m1, m2, m3, m4, m5]] w fun e w' => e = .returned (.bool true) ∧ Below w.heap.size w w' := by
  obtain ⟨Lp, gp, Jp⟩ := fp.len
  obtain ⟨Lq, gq, Jq⟩ := fq.len
  obtain ⟨Lm, gm, Jm⟩ := fm.len
  obtain ⟨W0, hW0⟩ : ∃ W0, W0 = (((w.alloc (.cells #[p0, p1, p2, p3, p4, p5] 53)).alloc (.cells #[q0, q1, q2, q3, q4, q5] 53)).alloc (.cells #[m0, m1, m2, m3, m4, m5] 53)) := ⟨_, rfl⟩
  have hT0 : Below w.heap.size w W0 := by rw [hW0]; exact below_alloc (below_alloc (below_new _ _) _) _
  have kp : Box W0 (w.heap.size) 53 #[p0, p1, p2, p3, p4, p5] := by rw [hW0]; exact ((Box.last _ _ _ rfl).alloc _).alloc _
  have kq : Box W0 (w.heap.size + 1) 53 #[q0, q1, q2, q3, q4, q5] := by rw [hW0]; exact (Box.last _ _ _ (alloc_size _ _).symm).alloc _
  have km : Box W0 (w.heap.size + 2) 53 #[m0, m1, m2, m3, m4, m5] := by rw [hW0]; exact Box.last _ _ _ (by rw [alloc_size, alloc_size])
  have hs0 : W0.heap.size = w.heap.size + 3 := by rw [hW0, alloc_size, alloc_size, alloc_size]
  go_enter Tryz.func5, Tryz.ntmps5
  go_upto_region 1 with fail
  rw [← hW0]
  clear hW0
  obtain ⟨yp0, yp1, yp2, yp3, yp4, yp5⟩ := kp.cells6
  go_wp2_with fail
  refine (szP_any W0 gp 1048576 (by omega)).mono ?_
  rintro e w1 ⟨rfl, hb1⟩
  clear yp0 yp1 yp2 yp3 yp4 yp5
  have hs1 := hb1.size
  have hT1 := below_then hT0 hb1
  have kp := kp.below hb1 kp.lt
  have kq := kq.below hb1 kq.lt
  have km := km.below hb1 km.lt
  clear hT0
  clear hb1
  by_cases czp : ¬ Lp ≤ 1048576
  · have hle : leftI 1048576 Lp = -1 := if_neg czp
    rw [hle]
    clear hle
    go_wp2_with fail
    go_ret
    exact ⟨rfl, hT1⟩
  have czp := Decidable.not_not.1 czp
  obtain ⟨Mp, hLp⟩ : ∃ L : Nat, L + Lp = 1048576 := ⟨1048576 - Lp, by omega⟩
  have hle : leftI 1048576 Lp = (Mp : Int) := by rw [leftI, if_pos czp]; omega
  rw [hle]
  clear hle
  have hngp : ¬ (Mp : Int) < 0 := by omega
  obtain ⟨pZ, J0⟩ := Jp (by omega)
  have hpF := J0.fit
  have hp := J0.below hT1
  have HLep := hide hLp
  have hLbp : Mp ≤ 1048576 := by omega
  clear hLp czp J0 Jp gp
  obtain ⟨yq0, yq1, yq2, yq3, yq4, yq5⟩ := kq.cells6
  go_wp2_with fail
  refine (szP_any w1 gq Mp (by omega)).mono ?_
  rintro e w2 ⟨rfl, hb2⟩
  clear yq0 yq1 yq2 yq3 yq4 yq5
  have hs2 := hb2.size
  have hT2 := below_then hT1 hb2
  have kp := kp.below hb2 kp.lt
  have kq := kq.below hb2 kq.lt
  have km := km.below hb2 km.lt
  have hp := hp.below (hb2.mono (by omega))
  clear hT1
  clear hb2
  by_cases czq : ¬ Lq ≤ Mp
  · have hle : leftI Mp Lq = -1 := if_neg czq
    rw [hle]
    clear hle
    go_wp2_with fail
    go_ret
    exact ⟨rfl, hT2⟩
  have czq := Decidable.not_not.1 czq
  obtain ⟨Mq, hLq⟩ : ∃ L : Nat, L + Lq = Mp := ⟨Mp - Lq, by omega⟩
  have hle : leftI Mp Lq = (Mq : Int) := by rw [leftI, if_pos czq]; omega
  rw [hle]
  clear hle
  have hngq : ¬ (Mq : Int) < 0 := by omega
  obtain ⟨qZ, J0⟩ := Jq (by omega)
  have hqF := J0.fit
  have hq := J0.below hT2
  have HLeq := hide hLq
  have hLbq : Mq ≤ 1048576 := by omega
  clear hLq czq J0 Jq gq
  obtain ⟨ym0, ym1, ym2, ym3, ym4, ym5⟩ := km.cells6
  go_wp2_with fail
  refine (szP_any w2 gm Mq (by omega)).mono ?_
  rintro e w3 ⟨rfl, hb3⟩
  clear ym0 ym1 ym2 ym3 ym4 ym5
  have hs3 := hb3.size
  have hT3 := below_then hT2 hb3
  have kp := kp.below hb3 kp.lt
  have kq := kq.below hb3 kq.lt
  have km := km.below hb3 km.lt
  have hp := hp.below (hb3.mono (by omega))
  have hq := hq.below (hb3.mono (by omega))
  clear hT2
  clear hb3
  by_cases czm : ¬ Lm ≤ Mq
  · have hle : leftI Mq Lm = -1 := if_neg czm
    rw [hle]
    clear hle
    go_wp2_with fail
    go_ret
    exact ⟨rfl, hT3⟩
  have czm := Decidable.not_not.1 czm
  obtain ⟨Mm, hLm⟩ : ∃ L : Nat, L + Lm = Mq := ⟨Mq - Lm, by omega⟩
  have hle : leftI Mq Lm = (Mm : Int) := by rw [leftI, if_pos czm]; omega
  rw [hle]
  clear hle
  have hngm : ¬ (Mm : Int) < 0 := by omega
  obtain ⟨mZ, J0⟩ := Jm (by omega)
  have hmF := J0.fit
  have hm := J0.below hT3
  have HLem := hide hLm
  have hLbm : Mm ≤ 1048576 := by omega
  clear hLm czm J0 Jm gm
  go_upto_region 11 with fail
  have HCp := hide (fun (W : World) (h : Below w3.heap.size w3 W) => toP_any W w.heap.size (by have := h.size; omega) (hp.below (h.mono (by omega))))
  have HCq := hide (fun (W : World) (h : Below w3.heap.size w3 W) => toP_any W w.heap.size (by have := h.size; omega) (hq.below (h.mono (by omega))))
  have HCm := hide (fun (W : World) (h : Below w3.heap.size w3 W) => toP_any W w.heap.size (by have := h.size; omega) (hm.below (h.mono (by omega))))
  have Ehs0 := hide hs0
  clear hs0
  have HBp := hide kp
  have HBq := hide kq
  have HBm := hide km
  have HS0 : Hid (Below w3.heap.size w3 w3.drew) := (Below.refl _ _).drew
  have HS0a : Hid (Below w3.heap.size w3 (w3.alloc (.cells #[.bool false, .slice none 0 0, .slice none 0 0] 27)).drew) := (below_new _ _).drew
  have HKS := hide (fun (W : World) (hq : Below w3.heap.size w3 W) => (⟨(HBp.out.below hq HBp.out.lt).cell 0, (HBp.out.below hq HBp.out.lt).cell 1, (HBp.out.below hq HBp.out.lt).cell 2, (HBp.out.below hq HBp.out.lt).cell 3, (HBp.out.below hq HBp.out.lt).cell 4, (HBp.out.below hq HBp.out.lt).cell 5, (HBq.out.below hq HBq.out.lt).cell 0, (HBq.out.below hq HBq.out.lt).cell 1, (HBq.out.below hq HBq.out.lt).cell 2, (HBq.out.below hq HBq.out.lt).cell 3, (HBq.out.below hq HBq.out.lt).cell 4, (HBq.out.below hq HBq.out.lt).cell 5, (HBm.out.below hq HBm.out.lt).cell 0, (HBm.out.below hq HBm.out.lt).cell 1, (HBm.out.below hq HBm.out.lt).cell 2, (HBm.out.below hq HBm.out.lt).cell 3, (HBm.out.below hq HBm.out.lt).cell 4, (HBm.out.below hq HBm.out.lt).cell 5⟩ : W.cell? ⟨w.heap.size, 0, none⟩ = some (p0) ∧ W.cell? ⟨w.heap.size, 1, none⟩ = some (p1) ∧ W.cell? ⟨w.heap.size, 2, none⟩ = some (p2) ∧ W.cell? ⟨w.heap.size, 3, none⟩ = some (p3) ∧ W.cell? ⟨w.heap.size, 4, none⟩ = some (p4) ∧ W.cell? ⟨w.heap.size, 5, none⟩ = some (p5) ∧ W.cell? ⟨w.heap.size + 1, 0, none⟩ = some (q0) ∧ W.cell? ⟨w.heap.size + 1, 1, none⟩ = some (q1) ∧ W.cell? ⟨w.heap.size + 1, 2, none⟩ = some (q2) ∧ W.cell? ⟨w.heap.size + 1, 3, none⟩ = some (q3) ∧ W.cell? ⟨w.heap.size + 1, 4, none⟩ = some (q4) ∧ W.cell? ⟨w.heap.size + 1, 5, none⟩ = some (q5) ∧ W.cell? ⟨w.heap.size + 2, 0, none⟩ = some (m0) ∧ W.cell? ⟨w.heap.size + 2, 1, none⟩ = some (m1) ∧ W.cell? ⟨w.heap.size + 2, 2, none⟩ = some (m2) ∧ W.cell? ⟨w.heap.size + 2, 3, none⟩ = some (m3) ∧ W.cell? ⟨w.heap.size + 2, 4, none⟩ = some (m4) ∧ W.cell? ⟨w.heap.size + 2, 5, none⟩ = some (m5)))
  obtain ⟨yp0, yp1, yp2, yp3, yp4, yp5⟩ := kp.cells6
  obtain ⟨yq0, yq1, yq2, yq3, yq4, yq5⟩ := kq.cells6
  obtain ⟨ym0, ym1, ym2, ym3, ym4, ym5⟩ := km.cells6
  go_cut [8] from 32 to 114 (fun sx wx => VarQ w3 wx sx (sqP pZ qZ mZ) 27 3)
  case first =>
    go_region_held3 (fun w' => w'.cell? ⟨w.heap.size, 0, none⟩ = some (p0) ∧ w'.cell? ⟨w.heap.size, 1, none⟩ = some (p1) ∧ w'.cell? ⟨w.heap.size, 2, none⟩ = some (p2) ∧ w'.cell? ⟨w.heap.size, 3, none⟩ = some (p3) ∧ w'.cell? ⟨w.heap.size, 4, none⟩ = some (p4) ∧ w'.cell? ⟨w.heap.size, 5, none⟩ = some (p5) ∧ w'.cell? ⟨w.heap.size + 1, 0, none⟩ = some (q0) ∧ w'.cell? ⟨w.heap.size + 1, 1, none⟩ = some (q1) ∧ w'.cell? ⟨w.heap.size + 1, 2, none⟩ = some (q2) ∧ w'.cell? ⟨w.heap.size + 1, 3, none⟩ = some (q3) ∧ w'.cell? ⟨w.heap.size + 1, 4, none⟩ = some (q4) ∧ w'.cell? ⟨w.heap.size + 1, 5, none⟩ = some (q5) ∧ w'.cell? ⟨w.heap.size + 2, 0, none⟩ = some (m0) ∧ w'.cell? ⟨w.heap.size + 2, 1, none⟩ = some (m1) ∧ w'.cell? ⟨w.heap.size + 2, 2, none⟩ = some (m2) ∧ w'.cell? ⟨w.heap.size + 2, 3, none⟩ = some (m3) ∧ w'.cell? ⟨w.heap.size + 2, 4, none⟩ = some (m4) ∧ w'.cell? ⟨w.heap.size + 2, 5, none⟩ = some (m5))
        (first | (with_reducible exact HKS.out _ (below_set3 HS4.out HS3.out.size _ _ _)) | (with_reducible exact HKS.out _ (below_set3 HS4.out HS2.out.size _ _ _)) | (with_reducible exact HKS.out _ (below_set3 HS4.out HS1.out.size _ _ _)) | (with_reducible exact HKS.out _ (below_set3 HS4.out (Nat.le_refl _) _ _ _)) | (with_reducible exact HKS.out _ HS4.out) | (with_reducible exact HKS.out _ (below_alloc HS4.out _)) | (with_reducible exact HKS.out _ HS3.out) | (with_reducible exact HKS.out _ (below_alloc HS3.out _)) | (with_reducible exact HKS.out _ HS2.out) | (with_reducible exact HKS.out _ (below_alloc HS2.out _)) | (with_reducible exact HKS.out _ HS1.out) | (with_reducible exact HKS.out _ (below_alloc HS1.out _)) | (with_reducible exact HKS.out _ HS0.out) | (with_reducible exact HKS.out _ HS0a.out))
        (first
          | (go_at_call 23; have HX := HS3.out; (first | (with_reducible refine Calls.mono (spec_SquareToSegment _ _ (Nat.le_refl _) qtp qtq qtm) ?_) | (with_reducible refine Calls.mono (spec_SquareToSegment _ _ (Nat.le_refl _) (qtp.up (below_new _ _)) (qtq.up (below_new _ _)) (qtm.up (below_new _ _))) ?_)); rintro e u4 ⟨z0, z1, z2, rfl, oz, hb4⟩; obtain ⟨zb, zA, zn, zc, zD, zm, zk, rfl, rfl, rfl⟩ := oz.cut; (first | (have hu4 := (show Below u3.heap.size u3 u4 from hb4)) | (have hu4 := (below_then (below_new u3 _) hb4))); have hz4 : u3.heap.size ≤ u4.heap.size := hu4.size; have qtp := qtp.up hu4; have qtq := qtq.up hu4; have qtm := qtm.up hu4; have HS4 := hide (below_then HX hu4); clear HX; have hy4 := hb4.size; (first | (have kz := kz_new hb4) | (have kz := kz.below hu4 kz.lt) | skip); (first | (obtain ⟨t0, t1, t2, f0, f1, f2⟩ := kz.facts3) | skip))
          | (go_at_call 24; have HX := HS2.out; (first | (with_reducible refine Calls.mono (HCm.out _ HX) ?_) | (with_reducible refine Calls.mono (HCm.out _ (below_alloc HX _)) ?_)); rintro e u3 ⟨tm0, tm1, tm2, tm3, tm4, tm5, rfl, otm, hb3⟩; obtain ⟨tmb, tmA, tmn, tmc, tmD, tmm, tmk, tmyb, tmyA, tmyn, tmyc, tmyD, tmym, tmyk, rfl, rfl, rfl, rfl, rfl, rfl⟩ := otm.cut; have qtm := otm.in_ (hmF) (Nat.le_refl _); (first | (have hu3 := (show Below u2.heap.size u2 u3 from hb3)) | (have hu3 := (below_then (below_new u2 _) hb3))); have hz3 : u2.heap.size ≤ u3.heap.size := hu3.size; have qtp := qtp.up hu3; have qtq := qtq.up hu3; have HS3 := hide (below_then HX hu3); clear HX; have hy3 := hb3.size; (first | (have kz := kz_new hb3) | (have kz := kz.below hu3 kz.lt) | skip))
          | (go_at_call 24; have HX := HS1.out; (first | (with_reducible refine Calls.mono (HCq.out _ HX) ?_) | (with_reducible refine Calls.mono (HCq.out _ (below_alloc HX _)) ?_)); rintro e u2 ⟨tq0, tq1, tq2, tq3, tq4, tq5, rfl, otq, hb2⟩; obtain ⟨tqb, tqA, tqn, tqc, tqD, tqm, tqk, tqyb, tqyA, tqyn, tqyc, tqyD, tqym, tqyk, rfl, rfl, rfl, rfl, rfl, rfl⟩ := otq.cut; have qtq := otq.in_ (hqF) (Nat.le_refl _); (first | (have hu2 := (show Below u1.heap.size u1 u2 from hb2)) | (have hu2 := (below_then (below_new u1 _) hb2))); have hz2 : u1.heap.size ≤ u2.heap.size := hu2.size; have qtp := qtp.up hu2; have HS2 := hide (below_then HX hu2); clear HX; have hy2 := hb2.size; (first | (have kz := kz_new hb2) | (have kz := kz.below hu2 kz.lt) | skip))
          | (go_at_call 24; have HX := HS0.out; (first | (with_reducible refine Calls.mono (HCp.out _ HS0.out) ?_) | (with_reducible refine Calls.mono (HCp.out _ HS0a.out) ?_)); rintro e u1 ⟨tp0, tp1, tp2, tp3, tp4, tp5, rfl, otp, hb1⟩; obtain ⟨tpb, tpA, tpn, tpc, tpD, tpm, tpk, tpyb, tpyA, tpyn, tpyc, tpyD, tpym, tpyk, rfl, rfl, rfl, rfl, rfl, rfl⟩ := otp.cut; have qtp := otp.in_ (hpF) (Nat.le_refl _); (first | (have HS1 := hide (below_then HS0.out hb1)) | (have HS1 := hide (below_then HS0a.out hb1))); have hz1 : w3.heap.size ≤ u1.heap.size := HS1.out.size; clear HX; have hy1 := hb1.size; (first | (have kz := kz_drew hb1) | skip)))
    all_goals
      go_wp2_with fail
      go_meet
      case rel =>
        try simp only [drew_size, alloc_size] at hy1 hy2 hy3 hy4
        have HL := HS4.out
        first
          | ((with_reducible refine varq_set kz HL oz ?_ (Nat.le_refl _) ?_ ?_) <;> ((try simp only [alloc_size]); omega))
          | ((with_reducible refine varq_last HL oz ?_ (Nat.le_refl _)) <;> ((try simp only [alloc_size]); omega))
  case rest =>
    have hs0 := Ehs0.out
    clear Ehs0
    obtain ⟨gw0, w00, w01, w02, low0, hiw0, rfl, bn, on, hlow0, hhiw0, hggw0, hglw0, hb4⟩ := hcut
    obtain ⟨w0b, w0A, w0n, w0c, w0D, w0m, w0k, rfl, rfl, rfl⟩ := on.cut
    obtain ⟨w4, hw4⟩ : ∃ xw, xw = wc := ⟨_, rfl⟩
    subst hw4
    clear HKS HS0 HS0a HBp HBq HBm
    clear yp0 yp1 yp2 yp3 yp4 yp5 yq0 yq1 yq2 yq3 yq4 yq5 ym0 ym1 ym2 ym3 ym4 ym5
    have hs4 := hb4.size
    have hT4 := below_then hT3 hb4
    have kp := kp.below hb4 kp.lt
    have kq := kq.below hb4 kq.lt
    have km := km.below hb4 km.lt
    have hp := hp.below (hb4.mono (by omega))
    have hq := hq.below (hb4.mono (by omega))
    have hm := hm.below (hb4.mono (by omega))
    clear hT3
    clear hb4
    have kw0 := bn
    have lw0 := bn.lt
    have ow0 := on
    clear bn on
    clear HCp HCq HCm
    obtain ⟨yp0, yp1, yp2, yp3, yp4, yp5⟩ := kp.cells6
    go_wp2_with fail
    refine (toP_any w4 w.heap.size hT4.size hp).mono ?_
    rintro e w5 ⟨xp0, xp1, xp2, xp3, xp4, xp5, rfl, oxp, hb5⟩
    clear yp0 yp1 yp2 yp3 yp4 yp5
    obtain ⟨xpb, xpA, xpn, xpc, xpD, xpm, xpk, xpyb, xpyA, xpyn, xpyc, xpyD, xpym, xpyk, rfl, rfl, rfl, rfl, rfl, rfl⟩ := oxp.cut
    have hs5 := hb5.size
    have hT5 := below_then hT4 hb5
    have kp := kp.below hb5 kp.lt
    have kq := kq.below hb5 kq.lt
    have km := km.below hb5 km.lt
    have kw0 := kw0.below hb5 kw0.lt
    have hp := hp.below (hb5.mono (by omega))
    have hq := hq.below (hb5.mono (by omega))
    have hm := hm.below (hb5.mono (by omega))
    have ow0 := ow0.below hb5 (by omega)
    clear hT4
    clear hb5
    obtain ⟨w6, hw6⟩ : ∃ xw, xw = (w5.alloc (.cells #[.bool xpb, .slice xpA xpn xpc, .slice xpD xpm xpk, .bool xpyb, .slice xpyA xpyn xpyc, .slice xpyD xpym xpyk] 29)) := ⟨_, rfl⟩
    have hb6 : Below w5.heap.size w5 w6 := by rw [hw6]; exact below_new _ _
    have hq6 : w6.heap.size = w5.heap.size + 1 := by rw [hw6, alloc_size]
    have kxp : Box w6 (w5.heap.size) 29 #[.bool xpb, .slice xpA xpn xpc, .slice xpD xpm xpk, .bool xpyb, .slice xpyA xpyn xpyc, .slice xpyD xpym xpyk] := by rw [hw6]; exact Box.last _ _ _ (by omega)
    have hs6 := hb6.size
    have hT6 := below_then hT5 hb6
    have kp := kp.below hb6 kp.lt
    have kq := kq.below hb6 kq.lt
    have km := km.below hb6 km.lt
    have kw0 := kw0.below hb6 kw0.lt
    have hp := hp.below (hb6.mono (by omega))
    have hq := hq.below (hb6.mono (by omega))
    have hm := hm.below (hb6.mono (by omega))
    have ow0 := ow0.below hb6 (by omega)
    have oxp := oxp.below hb6 (by omega)
    clear hT5
    go_upto_region 13 with fail
    rw [← hw6]
    clear hw6 hb6
    obtain ⟨yq0, yq1, yq2, yq3, yq4, yq5⟩ := kq.cells6
    go_wp2_with fail
    refine (toP_any w6 w.heap.size hT6.size hq).mono ?_
    rintro e w7 ⟨xq0, xq1, xq2, xq3, xq4, xq5, rfl, oxq, hb7⟩
    clear yq0 yq1 yq2 yq3 yq4 yq5
    obtain ⟨xqb, xqA, xqn, xqc, xqD, xqm, xqk, xqyb, xqyA, xqyn, xqyc, xqyD, xqym, xqyk, rfl, rfl, rfl, rfl, rfl, rfl⟩ := oxq.cut
    have hs7 := hb7.size
    have hT7 := below_then hT6 hb7
    have kp := kp.below hb7 kp.lt
    have kq := kq.below hb7 kq.lt
    have km := km.below hb7 km.lt
    have kw0 := kw0.below hb7 kw0.lt
    have kxp := kxp.below hb7 kxp.lt
    have hp := hp.below (hb7.mono (by omega))
    have hq := hq.below (hb7.mono (by omega))
    have hm := hm.below (hb7.mono (by omega))
    have ow0 := ow0.below hb7 (by omega)
    have oxp := oxp.below hb7 (by omega)
    clear hT6
    clear hb7
    obtain ⟨w8, hw8⟩ : ∃ xw, xw = (w7.alloc (.cells #[.bool xqb, .slice xqA xqn xqc, .slice xqD xqm xqk, .bool xqyb, .slice xqyA xqyn xqyc, .slice xqyD xqym xqyk] 29)) := ⟨_, rfl⟩
    have hb8 : Below w7.heap.size w7 w8 := by rw [hw8]; exact below_new _ _
    have hq8 : w8.heap.size = w7.heap.size + 1 := by rw [hw8, alloc_size]
    have kxq : Box w8 (w7.heap.size) 29 #[.bool xqb, .slice xqA xqn xqc, .slice xqD xqm xqk, .bool xqyb, .slice xqyA xqyn xqyc, .slice xqyD xqym xqyk] := by rw [hw8]; exact Box.last _ _ _ (by omega)
    have hs8 := hb8.size
    have hT8 := below_then hT7 hb8
    have kp := kp.below hb8 kp.lt
    have kq := kq.below hb8 kq.lt
    have km := km.below hb8 km.lt
    have kw0 := kw0.below hb8 kw0.lt
    have kxp := kxp.below hb8 kxp.lt
    have hp := hp.below (hb8.mono (by omega))
    have hq := hq.below (hb8.mono (by omega))
    have hm := hm.below (hb8.mono (by omega))
    have ow0 := ow0.below hb8 (by omega)
    have oxp := oxp.below hb8 (by omega)
    have oxq := oxq.below hb8 (by omega)
    clear hT7
    go_upto_region 14 with fail
    rw [← hw8]
    clear hw8 hb8
    obtain ⟨ym0, ym1, ym2, ym3, ym4, ym5⟩ := km.cells6
    go_wp2_with fail
    refine (toP_any w8 w.heap.size hT8.size hm).mono ?_
    rintro e w9 ⟨xm0, xm1, xm2, xm3, xm4, xm5, rfl, oxm, hb9⟩
    clear ym0 ym1 ym2 ym3 ym4 ym5
    obtain ⟨xmb, xmA, xmn, xmc, xmD, xmm, xmk, xmyb, xmyA, xmyn, xmyc, xmyD, xmym, xmyk, rfl, rfl, rfl, rfl, rfl, rfl⟩ := oxm.cut
    have hs9 := hb9.size
    have hT9 := below_then hT8 hb9
    have kp := kp.below hb9 kp.lt
    have kq := kq.below hb9 kq.lt
    have km := km.below hb9 km.lt
    have kw0 := kw0.below hb9 kw0.lt
    have kxp := kxp.below hb9 kxp.lt
    have kxq := kxq.below hb9 kxq.lt
    have hp := hp.below (hb9.mono (by omega))
    have hq := hq.below (hb9.mono (by omega))
    have hm := hm.below (hb9.mono (by omega))
    have ow0 := ow0.below hb9 (by omega)
    have oxp := oxp.below hb9 (by omega)
    have oxq := oxq.below hb9 (by omega)
    clear hT8
    clear hb9
    obtain ⟨w10, hw10⟩ : ∃ xw, xw = (w9.alloc (.cells #[.bool xmb, .slice xmA xmn xmc, .slice xmD xmm xmk, .bool xmyb, .slice xmyA xmyn xmyc, .slice xmyD xmym xmyk] 29)) := ⟨_, rfl⟩
    have hb10 : Below w9.heap.size w9 w10 := by rw [hw10]; exact below_new _ _
    have hq10 : w10.heap.size = w9.heap.size + 1 := by rw [hw10, alloc_size]
    have kxm : Box w10 (w9.heap.size) 29 #[.bool xmb, .slice xmA xmn xmc, .slice xmD xmm xmk, .bool xmyb, .slice xmyA xmyn xmyc, .slice xmyD xmym xmyk] := by rw [hw10]; exact Box.last _ _ _ (by omega)
    have hs10 := hb10.size
    have hT10 := below_then hT9 hb10
    have kp := kp.below hb10 kp.lt
    have kq := kq.below hb10 kq.lt
    have km := km.below hb10 km.lt
    have kw0 := kw0.below hb10 kw0.lt
    have kxp := kxp.below hb10 kxp.lt
    have kxq := kxq.below hb10 kxq.lt
    have hp := hp.below (hb10.mono (by omega))
    have hq := hq.below (hb10.mono (by omega))
    have hm := hm.below (hb10.mono (by omega))
    have ow0 := ow0.below hb10 (by omega)
    have oxp := oxp.below hb10 (by omega)
    have oxq := oxq.below hb10 (by omega)
    have oxm := oxm.below hb10 (by omega)
    clear hT9
    go_upto_region 15 with fail
    rw [← hw10]
    clear hw10 hb10
    obtain ⟨yxp0, yxp1, yxp2, yxp3, yxp4, yxp5⟩ := kxp.cells6
    obtain ⟨yxq0, yxq1, yxq2, yxq3, yxq4, yxq5⟩ := kxq.cells6
    obtain ⟨yxm0, yxm1, yxm2, yxm3, yxm4, yxm5⟩ := kxm.cells6
    go_wp2_with fail
    refine (impl_SquareToSegment w10 w10.heap.size (Nat.le_refl _) (oxp.in_ hpF (by omega)) (oxq.in_ hqF (by omega)) (oxm.in_ hmF (by omega))).mono ?_
    rintro e w11 ⟨g00, g01, g02, rfl, og0, hb11⟩
    clear yxp0 yxp1 yxp2 yxp3 yxp4 yxp5 yxq0 yxq1 yxq2 yxq3 yxq4 yxq5 yxm0 yxm1 yxm2 yxm3 yxm4 yxm5
    obtain ⟨g0b, g0A, g0n, g0c, g0D, g0m, g0k, rfl, rfl, rfl⟩ := og0.cut
    have hs11 := hb11.size
    have hT11 := below_then hT10 hb11
    have kp := kp.below hb11 kp.lt
    have kq := kq.below hb11 kq.lt
    have km := km.below hb11 km.lt
    have kw0 := kw0.below hb11 kw0.lt
    have kxp := kxp.below hb11 kxp.lt
    have kxq := kxq.below hb11 kxq.lt
    have kxm := kxm.below hb11 kxm.lt
    have hp := hp.below (hb11.mono (by omega))
    have hq := hq.below (hb11.mono (by omega))
    have hm := hm.below (hb11.mono (by omega))
    have ow0 := ow0.below hb11 (by omega)
    have oxp := oxp.below hb11 (by omega)
    have oxq := oxq.below hb11 (by omega)
    have oxm := oxm.below hb11 (by omega)
    clear hT10
    clear hb11
    obtain ⟨w12, hw12⟩ : ∃ xw, xw = (w11.alloc (.cells #[.bool g0b, .slice g0A g0n g0c, .slice g0D g0m g0k] 27)) := ⟨_, rfl⟩
    have hb12 : Below w11.heap.size w11 w12 := by rw [hw12]; exact below_new _ _
    have hq12 : w12.heap.size = w11.heap.size + 1 := by rw [hw12, alloc_size]
    have kg0 : Box w12 (w11.heap.size) 27 #[.bool g0b, .slice g0A g0n g0c, .slice g0D g0m g0k] := by rw [hw12]; exact Box.last _ _ _ (by omega)
    have hs12 := hb12.size
    have hT12 := below_then hT11 hb12
    have kp := kp.below hb12 kp.lt
    have kq := kq.below hb12 kq.lt
    have km := km.below hb12 km.lt
    have kw0 := kw0.below hb12 kw0.lt
    have kxp := kxp.below hb12 kxp.lt
    have kxq := kxq.below hb12 kxq.lt
    have kxm := kxm.below hb12 kxm.lt
    have hp := hp.below (hb12.mono (by omega))
    have hq := hq.below (hb12.mono (by omega))
    have hm := hm.below (hb12.mono (by omega))
    have ow0 := ow0.below hb12 (by omega)
    have oxp := oxp.below hb12 (by omega)
    have oxq := oxq.below hb12 (by omega)
    have oxm := oxm.below hb12 (by omega)
    have og0 := og0.below hb12 (by omega)
    clear hT11
    go_upto_region 16 with fail
    rw [← hw12]
    clear hw12 hb12
    obtain ⟨yg00, yg01, yg02⟩ := kg0.cells3
    obtain ⟨yw00, yw01, yw02⟩ := kw0.cells3
    go_wp2_with fail
    refine (eqQ_any w12 w12.heap.size (Nat.le_refl _) (og0.in_ (sqP_fit pZ qZ mZ) (by omega)) (ow0.in_ (sqP_fit pZ qZ mZ) (by omega))).mono ?_
    rintro e w13 ⟨rfl, hb13⟩
    clear yg00 yg01 yg02 yw00 yw01 yw02
    have hs13 := hb13.size
    have hT13 := below_then hT12 hb13
    have kp := kp.below hb13 kp.lt
    have kq := kq.below hb13 kq.lt
    have km := km.below hb13 km.lt
    have kw0 := kw0.below hb13 kw0.lt
    have kxp := kxp.below hb13 kxp.lt
    have kxq := kxq.below hb13 kxq.lt
    have kxm := kxm.below hb13 kxm.lt
    have kg0 := kg0.below hb13 kg0.lt
    have hp := hp.below (hb13.mono (by omega))
    have hq := hq.below (hb13.mono (by omega))
    have hm := hm.below (hb13.mono (by omega))
    have ow0 := ow0.below hb13 (by omega)
    have oxp := oxp.below hb13 (by omega)
    have oxq := oxq.below hb13 (by omega)
    have oxm := oxm.below hb13 (by omega)
    have og0 := og0.below hb13 (by omega)
    clear hT12
    clear hb13
    go_upto_region 18 with fail
    have HCp := hide (fun (W : World) (h : Below w13.heap.size w13 W) => toP_any W w.heap.size (by have := h.size; omega) (hp.below (h.mono (by omega))))
    have HE := hide (fun (W : World) (h : Below w13.heap.size w13 W) => ((oxp.in_ hpF (show _ ≤ w13.heap.size by omega)).below h).wider h.size)
    have HBxp := hide kxp
    have HBp := hide kp
    have HS0 : Hid (Below w13.heap.size w13 w13.drew) := (Below.refl _ _).drew
    have HKS := hide (fun (W : World) (hq : Below w13.heap.size w13 W) => (⟨(HBxp.out.below hq HBxp.out.lt).cell 0, (HBxp.out.below hq HBxp.out.lt).cell 1, (HBxp.out.below hq HBxp.out.lt).cell 2, (HBxp.out.below hq HBxp.out.lt).cell 3, (HBxp.out.below hq HBxp.out.lt).cell 4, (HBxp.out.below hq HBxp.out.lt).cell 5, (HBp.out.below hq HBp.out.lt).cell 0, (HBp.out.below hq HBp.out.lt).cell 1, (HBp.out.below hq HBp.out.lt).cell 2, (HBp.out.below hq HBp.out.lt).cell 3, (HBp.out.below hq HBp.out.lt).cell 4, (HBp.out.below hq HBp.out.lt).cell 5⟩ : W.cell? ⟨w5.heap.size, 0, none⟩ = some (.bool xpb) ∧ W.cell? ⟨w5.heap.size, 1, none⟩ = some (.slice xpA xpn xpc) ∧ W.cell? ⟨w5.heap.size, 2, none⟩ = some (.slice xpD xpm xpk) ∧ W.cell? ⟨w5.heap.size, 3, none⟩ = some (.bool xpyb) ∧ W.cell? ⟨w5.heap.size, 4, none⟩ = some (.slice xpyA xpyn xpyc) ∧ W.cell? ⟨w5.heap.size, 5, none⟩ = some (.slice xpyD xpym xpyk) ∧ W.cell? ⟨w.heap.size, 0, none⟩ = some (p0) ∧ W.cell? ⟨w.heap.size, 1, none⟩ = some (p1) ∧ W.cell? ⟨w.heap.size, 2, none⟩ = some (p2) ∧ W.cell? ⟨w.heap.size, 3, none⟩ = some (p3) ∧ W.cell? ⟨w.heap.size, 4, none⟩ = some (p4) ∧ W.cell? ⟨w.heap.size, 5, none⟩ = some (p5)))
    have HIp := hide hp
    have HIq := hide hq
    have HIm := hide hm
    obtain ⟨yxp0, yxp1, yxp2, yxp3, yxp4, yxp5⟩ := kxp.cells6
    obtain ⟨yp0, yp1, yp2, yp3, yp4, yp5⟩ := kp.cells6
    go_region_held3 (fun w' => w'.cell? ⟨w5.heap.size, 0, none⟩ = some (.bool xpb) ∧ w'.cell? ⟨w5.heap.size, 1, none⟩ = some (.slice xpA xpn xpc) ∧ w'.cell? ⟨w5.heap.size, 2, none⟩ = some (.slice xpD xpm xpk) ∧ w'.cell? ⟨w5.heap.size, 3, none⟩ = some (.bool xpyb) ∧ w'.cell? ⟨w5.heap.size, 4, none⟩ = some (.slice xpyA xpyn xpyc) ∧ w'.cell? ⟨w5.heap.size, 5, none⟩ = some (.slice xpyD xpym xpyk) ∧ w'.cell? ⟨w.heap.size, 0, none⟩ = some (p0) ∧ w'.cell? ⟨w.heap.size, 1, none⟩ = some (p1) ∧ w'.cell? ⟨w.heap.size, 2, none⟩ = some (p2) ∧ w'.cell? ⟨w.heap.size, 3, none⟩ = some (p3) ∧ w'.cell? ⟨w.heap.size, 4, none⟩ = some (p4) ∧ w'.cell? ⟨w.heap.size, 5, none⟩ = some (p5))
        (first | (with_reducible exact HKS.out _ HS2.out) | (with_reducible exact HKS.out _ HS1.out) | (with_reducible exact HKS.out _ HS0.out))
        (first
          | (go_at_call 26; have HX := HS1.out; refine (eqP_any u1 u1.heap.size (Nat.le_refl _) (HE.out _ HS1.out) qtt).mono ?_; rintro e u2 ⟨rfl, hb2⟩; have qtt := qtt.up hb2; have ott := ott.below hb2 (by omega); have hz2 : u1.heap.size ≤ u2.heap.size := hb2.size; have HS2 := hide (below_then HX hb2); clear HX)
          | (go_at_call 24; have HX := HS0.out; refine (HCp.out _ HS0.out).mono ?_; rintro e u1 ⟨tt0, tt1, tt2, tt3, tt4, tt5, rfl, ott, hb1⟩; obtain ⟨ttb, ttA, ttn, ttc, ttD, ttm, ttk, ttyb, ttyA, ttyn, ttyc, ttyD, ttym, ttyk, rfl, rfl, rfl, rfl, rfl, rfl⟩ := ott.cut; have ott : POwn u1 w13.heap.size u1.heap.size 3 (.bool ttb) (.slice ttA ttn ttc) (.slice ttD ttm ttk) (.bool ttyb) (.slice ttyA ttyn ttyc) (.slice ttyD ttym ttyk) (pZ) := ott; have qtt := ott.in_ (hpF) (Nat.le_refl _); have hz1 : w13.heap.size ≤ u1.heap.size := hb1.size; have HS1 := hide (below_then HX hb1); clear HX))
    have hb14z := HS2.out
    obtain ⟨w14, hw14⟩ : ∃ x, x = u2 := ⟨_, rfl⟩
    subst hw14
    clear HKS HS0 HS1 HS2 hb1 hb2 hz1 hz2 HBxp HBp HIp HIq HIm ott qtt HCp HE
    clear yxp0 yxp1 yxp2 yxp3 yxp4 yxp5 yp0 yp1 yp2 yp3 yp4 yp5
    have hs14 := hb14z.size
    have hT14 := below_then hT13 hb14z
    have kp := kp.below hb14z kp.lt
    have kq := kq.below hb14z kq.lt
    have km := km.below hb14z km.lt
    have kw0 := kw0.below hb14z kw0.lt
    have kxp := kxp.below hb14z kxp.lt
    have kxq := kxq.below hb14z kxq.lt
    have kxm := kxm.below hb14z kxm.lt
    have kg0 := kg0.below hb14z kg0.lt
    have hp := hp.below (hb14z.mono (by omega))
    have hq := hq.below (hb14z.mono (by omega))
    have hm := hm.below (hb14z.mono (by omega))
    have ow0 := ow0.below hb14z (by omega)
    have oxp := oxp.below hb14z (by omega)
    have oxq := oxq.below hb14z (by omega)
    have oxm := oxm.below hb14z (by omega)
    have og0 := og0.below hb14z (by omega)
    clear hT13
    clear hb14z
    go_upto_region 20 with fail
    have HCq := hide (fun (W : World) (h : Below w14.heap.size w14 W) => toP_any W w.heap.size (by have := h.size; omega) (hq.below (h.mono (by omega))))
    have HE := hide (fun (W : World) (h : Below w14.heap.size w14 W) => ((oxq.in_ hqF (show _ ≤ w14.heap.size by omega)).below h).wider h.size)
    have HBxq := hide kxq
    have HBq := hide kq
    have HS0 : Hid (Below w14.heap.size w14 w14.drew) := (Below.refl _ _).drew
    have HKS := hide (fun (W : World) (hq : Below w14.heap.size w14 W) => (⟨(HBxq.out.below hq HBxq.out.lt).cell 0, (HBxq.out.below hq HBxq.out.lt).cell 1, (HBxq.out.below hq HBxq.out.lt).cell 2, (HBxq.out.below hq HBxq.out.lt).cell 3, (HBxq.out.below hq HBxq.out.lt).cell 4, (HBxq.out.below hq HBxq.out.lt).cell 5, (HBq.out.below hq HBq.out.lt).cell 0, (HBq.out.below hq HBq.out.lt).cell 1, (HBq.out.below hq HBq.out.lt).cell 2, (HBq.out.below hq HBq.out.lt).cell 3, (HBq.out.below hq HBq.out.lt).cell 4, (HBq.out.below hq HBq.out.lt).cell 5⟩ : W.cell? ⟨w7.heap.size, 0, none⟩ = some (.bool xqb) ∧ W.cell? ⟨w7.heap.size, 1, none⟩ = some (.slice xqA xqn xqc) ∧ W.cell? ⟨w7.heap.size, 2, none⟩ = some (.slice xqD xqm xqk) ∧ W.cell? ⟨w7.heap.size, 3, none⟩ = some (.bool xqyb) ∧ W.cell? ⟨w7.heap.size, 4, none⟩ = some (.slice xqyA xqyn xqyc) ∧ W.cell? ⟨w7.heap.size, 5, none⟩ = some (.slice xqyD xqym xqyk) ∧ W.cell? ⟨w.heap.size + 1, 0, none⟩ = some (q0) ∧ W.cell? ⟨w.heap.size + 1, 1, none⟩ = some (q1) ∧ W.cell? ⟨w.heap.size + 1, 2, none⟩ = some (q2) ∧ W.cell? ⟨w.heap.size + 1, 3, none⟩ = some (q3) ∧ W.cell? ⟨w.heap.size + 1, 4, none⟩ = some (q4) ∧ W.cell? ⟨w.heap.size + 1, 5, none⟩ = some (q5)))
    have HIp := hide hp
    have HIq := hide hq
    have HIm := hide hm
    obtain ⟨yxq0, yxq1, yxq2, yxq3, yxq4, yxq5⟩ := kxq.cells6
    obtain ⟨yq0, yq1, yq2, yq3, yq4, yq5⟩ := kq.cells6
    go_region_held3 (fun w' => w'.cell? ⟨w7.heap.size, 0, none⟩ = some (.bool xqb) ∧ w'.cell? ⟨w7.heap.size, 1, none⟩ = some (.slice xqA xqn xqc) ∧ w'.cell? ⟨w7.heap.size, 2, none⟩ = some (.slice xqD xqm xqk) ∧ w'.cell? ⟨w7.heap.size, 3, none⟩ = some (.bool xqyb) ∧ w'.cell? ⟨w7.heap.size, 4, none⟩ = some (.slice xqyA xqyn xqyc) ∧ w'.cell? ⟨w7.heap.size, 5, none⟩ = some (.slice xqyD xqym xqyk) ∧ w'.cell? ⟨w.heap.size + 1, 0, none⟩ = some (q0) ∧ w'.cell? ⟨w.heap.size + 1, 1, none⟩ = some (q1) ∧ w'.cell? ⟨w.heap.size + 1, 2, none⟩ = some (q2) ∧ w'.cell? ⟨w.heap.size + 1, 3, none⟩ = some (q3) ∧ w'.cell? ⟨w.heap.size + 1, 4, none⟩ = some (q4) ∧ w'.cell? ⟨w.heap.size + 1, 5, none⟩ = some (q5))
        (first | (with_reducible exact HKS.out _ HS2.out) | (with_reducible exact HKS.out _ HS1.out) | (with_reducible exact HKS.out _ HS0.out))
        (first
          | (go_at_call 26; have HX := HS1.out; refine (eqP_any u1 u1.heap.size (Nat.le_refl _) (HE.out _ HS1.out) qtt).mono ?_; rintro e u2 ⟨rfl, hb2⟩; have qtt := qtt.up hb2; have ott := ott.below hb2 (by omega); have hz2 : u1.heap.size ≤ u2.heap.size := hb2.size; have HS2 := hide (below_then HX hb2); clear HX)
          | (go_at_call 24; have HX := HS0.out; refine (HCq.out _ HS0.out).mono ?_; rintro e u1 ⟨tt0, tt1, tt2, tt3, tt4, tt5, rfl, ott, hb1⟩; obtain ⟨ttb, ttA, ttn, ttc, ttD, ttm, ttk, ttyb, ttyA, ttyn, ttyc, ttyD, ttym, ttyk, rfl, rfl, rfl, rfl, rfl, rfl⟩ := ott.cut; have ott : POwn u1 w14.heap.size u1.heap.size 3 (.bool ttb) (.slice ttA ttn ttc) (.slice ttD ttm ttk) (.bool ttyb) (.slice ttyA ttyn ttyc) (.slice ttyD ttym ttyk) (qZ) := ott; have qtt := ott.in_ (hqF) (Nat.le_refl _); have hz1 : w14.heap.size ≤ u1.heap.size := hb1.size; have HS1 := hide (below_then HX hb1); clear HX))
    have hb15z := HS2.out
    obtain ⟨w15, hw15⟩ : ∃ x, x = u2 := ⟨_, rfl⟩
    subst hw15
    clear HKS HS0 HS1 HS2 hb1 hb2 hz1 hz2 HBxq HBq HIp HIq HIm ott qtt HCq HE
    clear yxq0 yxq1 yxq2 yxq3 yxq4 yxq5 yq0 yq1 yq2 yq3 yq4 yq5
    have hs15 := hb15z.size
    have hT15 := below_then hT14 hb15z
    have kp := kp.below hb15z kp.lt
    have kq := kq.below hb15z kq.lt
    have km := km.below hb15z km.lt
    have kw0 := kw0.below hb15z kw0.lt
    have kxp := kxp.below hb15z kxp.lt
    have kxq := kxq.below hb15z kxq.lt
    have kxm := kxm.below hb15z kxm.lt
    have kg0 := kg0.below hb15z kg0.lt
    have hp := hp.below (hb15z.mono (by omega))
    have hq := hq.below (hb15z.mono (by omega))
    have hm := hm.below (hb15z.mono (by omega))
    have ow0 := ow0.below hb15z (by omega)
    have oxp := oxp.below hb15z (by omega)
    have oxq := oxq.below hb15z (by omega)
    have oxm := oxm.below hb15z (by omega)
    have og0 := og0.below hb15z (by omega)
    clear hT14
    clear hb15z
    go_upto_region 22 with fail
    have HCm := hide (fun (W : World) (h : Below w15.heap.size w15 W) => toP_any W w.heap.size (by have := h.size; omega) (hm.below (h.mono (by omega))))
    have HE := hide (fun (W : World) (h : Below w15.heap.size w15 W) => ((oxm.in_ hmF (show _ ≤ w15.heap.size by omega)).below h).wider h.size)
    have HBxm := hide kxm
    have HBm := hide km
    have HS0 : Hid (Below w15.heap.size w15 w15.drew) := (Below.refl _ _).drew
    have HKS := hide (fun (W : World) (hq : Below w15.heap.size w15 W) => (⟨(HBxm.out.below hq HBxm.out.lt).cell 0, (HBxm.out.below hq HBxm.out.lt).cell 1, (HBxm.out.below hq HBxm.out.lt).cell 2, (HBxm.out.below hq HBxm.out.lt).cell 3, (HBxm.out.below hq HBxm.out.lt).cell 4, (HBxm.out.below hq HBxm.out.lt).cell 5, (HBm.out.below hq HBm.out.lt).cell 0, (HBm.out.below hq HBm.out.lt).cell 1, (HBm.out.below hq HBm.out.lt).cell 2, (HBm.out.below hq HBm.out.lt).cell 3, (HBm.out.below hq HBm.out.lt).cell 4, (HBm.out.below hq HBm.out.lt).cell 5⟩ : W.cell? ⟨w9.heap.size, 0, none⟩ = some (.bool xmb) ∧ W.cell? ⟨w9.heap.size, 1, none⟩ = some (.slice xmA xmn xmc) ∧ W.cell? ⟨w9.heap.size, 2, none⟩ = some (.slice xmD xmm xmk) ∧ W.cell? ⟨w9.heap.size, 3, none⟩ = some (.bool xmyb) ∧ W.cell? ⟨w9.heap.size, 4, none⟩ = some (.slice xmyA xmyn xmyc) ∧ W.cell? ⟨w9.heap.size, 5, none⟩ = some (.slice xmyD xmym xmyk) ∧ W.cell? ⟨w.heap.size + 2, 0, none⟩ = some (m0) ∧ W.cell? ⟨w.heap.size + 2, 1, none⟩ = some (m1) ∧ W.cell? ⟨w.heap.size + 2, 2, none⟩ = some (m2) ∧ W.cell? ⟨w.heap.size + 2, 3, none⟩ = some (m3) ∧ W.cell? ⟨w.heap.size + 2, 4, none⟩ = some (m4) ∧ W.cell? ⟨w.heap.size + 2, 5, none⟩ = some (m5)))
    have HIp := hide hp
    have HIq := hide hq
    have HIm := hide hm
    obtain ⟨yxm0, yxm1, yxm2, yxm3, yxm4, yxm5⟩ := kxm.cells6
    obtain ⟨ym0, ym1, ym2, ym3, ym4, ym5⟩ := km.cells6
    go_region_held3 (fun w' => w'.cell? ⟨w9.heap.size, 0, none⟩ = some (.bool xmb) ∧ w'.cell? ⟨w9.heap.size, 1, none⟩ = some (.slice xmA xmn xmc) ∧ w'.cell? ⟨w9.heap.size, 2, none⟩ = some (.slice xmD xmm xmk) ∧ w'.cell? ⟨w9.heap.size, 3, none⟩ = some (.bool xmyb) ∧ w'.cell? ⟨w9.heap.size, 4, none⟩ = some (.slice xmyA xmyn xmyc) ∧ w'.cell? ⟨w9.heap.size, 5, none⟩ = some (.slice xmyD xmym xmyk) ∧ w'.cell? ⟨w.heap.size + 2, 0, none⟩ = some (m0) ∧ w'.cell? ⟨w.heap.size + 2, 1, none⟩ = some (m1) ∧ w'.cell? ⟨w.heap.size + 2, 2, none⟩ = some (m2) ∧ w'.cell? ⟨w.heap.size + 2, 3, none⟩ = some (m3) ∧ w'.cell? ⟨w.heap.size + 2, 4, none⟩ = some (m4) ∧ w'.cell? ⟨w.heap.size + 2, 5, none⟩ = some (m5))
        (first | (with_reducible exact HKS.out _ HS2.out) | (with_reducible exact HKS.out _ HS1.out) | (with_reducible exact HKS.out _ HS0.out))
        (first
          | (go_at_call 26; have HX := HS1.out; refine (eqP_any u1 u1.heap.size (Nat.le_refl _) (HE.out _ HS1.out) qtt).mono ?_; rintro e u2 ⟨rfl, hb2⟩; have qtt := qtt.up hb2; have ott := ott.below hb2 (by omega); have hz2 : u1.heap.size ≤ u2.heap.size := hb2.size; have HS2 := hide (below_then HX hb2); clear HX)
          | (go_at_call 24; have HX := HS0.out; refine (HCm.out _ HS0.out).mono ?_; rintro e u1 ⟨tt0, tt1, tt2, tt3, tt4, tt5, rfl, ott, hb1⟩; obtain ⟨ttb, ttA, ttn, ttc, ttD, ttm, ttk, ttyb, ttyA, ttyn, ttyc, ttyD, ttym, ttyk, rfl, rfl, rfl, rfl, rfl, rfl⟩ := ott.cut; have ott : POwn u1 w15.heap.size u1.heap.size 3 (.bool ttb) (.slice ttA ttn ttc) (.slice ttD ttm ttk) (.bool ttyb) (.slice ttyA ttyn ttyc) (.slice ttyD ttym ttyk) (mZ) := ott; have qtt := ott.in_ (hmF) (Nat.le_refl _); have hz1 : w15.heap.size ≤ u1.heap.size := hb1.size; have HS1 := hide (below_then HX hb1); clear HX))
    have hb16z := HS2.out
    obtain ⟨w16, hw16⟩ : ∃ x, x = u2 := ⟨_, rfl⟩
    subst hw16
    clear HKS HS0 HS1 HS2 hb1 hb2 hz1 hz2 HBxm HBm HIp HIq HIm ott qtt HCm HE
    clear yxm0 yxm1 yxm2 yxm3 yxm4 yxm5 ym0 ym1 ym2 ym3 ym4 ym5
    have hs16 := hb16z.size
    have hT16 := below_then hT15 hb16z
    have kp := kp.below hb16z kp.lt
    have kq := kq.below hb16z kq.lt
    have km := km.below hb16z km.lt
    have kw0 := kw0.below hb16z kw0.lt
    have kxp := kxp.below hb16z kxp.lt
    have kxq := kxq.below hb16z kxq.lt
    have kxm := kxm.below hb16z kxm.lt
    have kg0 := kg0.below hb16z kg0.lt
    have hp := hp.below (hb16z.mono (by omega))
    have hq := hq.below (hb16z.mono (by omega))
    have hm := hm.below (hb16z.mono (by omega))
    have ow0 := ow0.below hb16z (by omega)
    have oxp := oxp.below hb16z (by omega)
    have oxq := oxq.below hb16z (by omega)
    have oxm := oxm.below hb16z (by omega)
    have og0 := og0.below hb16z (by omega)
    clear hT15
    clear hb16z
    obtain ⟨yxp0, yxp1, yxp2, yxp3, yxp4, yxp5⟩ := kxp.cells6
    go_wp2_with fail
    refine (markP_own w16 (w4.heap.size) (w5.heap.size) 3 1 oxp (by omega) (hpF) (by omega)).mono ?_
    rintro e w17 ⟨he, pxp, ha17⟩
    have hcz := sizP_le (hpF)
    obtain ⟨K1, hK1⟩ : ∃ K : Nat, K = 1 + sizP (pZ) := ⟨_, rfl⟩
    have bK1 : K1 ≤ 4200010 := by omega
    rw [← hK1] at he
    subst he
    have HK1 := hide hK1
    clear hK1 hcz
    clear yxp0 yxp1 yxp2 yxp3 yxp4 yxp5
    have hs17 := ha17.size
    have hT17 := hT16.trans (Aside.below ha17 (by omega) (by omega))
    have kp := kp.aside ha17 (by omega)
    have kq := kq.aside ha17 (by omega)
    have km := km.aside ha17 (by omega)
    have kw0 := kw0.aside ha17 (by omega)
    have kxp := kxp.aside ha17 (by omega)
    have kxq := kxq.aside ha17 (by omega)
    have kxm := kxm.aside ha17 (by omega)
    have kg0 := kg0.aside ha17 (by omega)
    have hp := hp.below (Aside.below ha17 (by omega) (by omega))
    have hq := hq.below (Aside.below ha17 (by omega) (by omega))
    have hm := hm.below (Aside.below ha17 (by omega) (by omega))
    have ow0 := ow0.aside ha17 (by omega)
    have oxq := oxq.aside ha17 (by omega)
    have oxm := oxm.aside ha17 (by omega)
    have og0 := og0.aside ha17 (by omega)
    clear hT16
    have oxp := pxp
    clear pxp ha17
    obtain ⟨yxq0, yxq1, yxq2, yxq3, yxq4, yxq5⟩ := kxq.cells6
    go_wp2_with fail
    refine (markP_own w17 (w6.heap.size) (w7.heap.size) 3 K1 oxq (by omega) (hqF) (by omega)).mono ?_
    rintro e w18 ⟨he, pxq, ha18⟩
    have hcz := sizP_le (hqF)
    obtain ⟨K2, hK2⟩ : ∃ K : Nat, K = K1 + sizP (qZ) := ⟨_, rfl⟩
    have bK2 : K2 ≤ 8400010 := by omega
    rw [← hK2] at he
    subst he
    have HK2 := hide hK2
    clear hK2 hcz
    clear yxq0 yxq1 yxq2 yxq3 yxq4 yxq5
    have hs18 := ha18.size
    have hT18 := hT17.trans (Aside.below ha18 (by omega) (by omega))
    have kp := kp.aside ha18 (by omega)
    have kq := kq.aside ha18 (by omega)
    have km := km.aside ha18 (by omega)
    have kw0 := kw0.aside ha18 (by omega)
    have kxp := kxp.aside ha18 (by omega)
    have kxq := kxq.aside ha18 (by omega)
    have kxm := kxm.aside ha18 (by omega)
    have kg0 := kg0.aside ha18 (by omega)
    have hp := hp.below (Aside.below ha18 (by omega) (by omega))
    have hq := hq.below (Aside.below ha18 (by omega) (by omega))
    have hm := hm.below (Aside.below ha18 (by omega) (by omega))
    have ow0 := ow0.aside ha18 (by omega)
    have oxp := oxp.aside ha18 (by omega)
    have oxm := oxm.aside ha18 (by omega)
    have og0 := og0.aside ha18 (by omega)
    clear hT17
    have oxq := pxq
    clear pxq ha18
    obtain ⟨yxm0, yxm1, yxm2, yxm3, yxm4, yxm5⟩ := kxm.cells6
    go_wp2_with fail
    refine (markP_own w18 (w8.heap.size) (w9.heap.size) 3 K2 oxm (by omega) (hmF) (by omega)).mono ?_
    rintro e w19 ⟨he, pxm, ha19⟩
    have hcz := sizP_le (hmF)
    obtain ⟨K3, hK3⟩ : ∃ K : Nat, K = K2 + sizP (mZ) := ⟨_, rfl⟩
    have bK3 : K3 ≤ 12600010 := by omega
    rw [← hK3] at he
    subst he
    have HK3 := hide hK3
    clear hK3 hcz
    clear yxm0 yxm1 yxm2 yxm3 yxm4 yxm5
    have hs19 := ha19.size
    have hT19 := hT18.trans (Aside.below ha19 (by omega) (by omega))
    have kp := kp.aside ha19 (by omega)
    have kq := kq.aside ha19 (by omega)
    have km := km.aside ha19 (by omega)
    have kw0 := kw0.aside ha19 (by omega)
    have kxp := kxp.aside ha19 (by omega)
    have kxq := kxq.aside ha19 (by omega)
    have kxm := kxm.aside ha19 (by omega)
    have kg0 := kg0.aside ha19 (by omega)
    have hp := hp.below (Aside.below ha19 (by omega) (by omega))
    have hq := hq.below (Aside.below ha19 (by omega) (by omega))
    have hm := hm.below (Aside.below ha19 (by omega) (by omega))
    have ow0 := ow0.aside ha19 (by omega)
    have oxp := oxp.aside ha19 (by omega)
    have oxq := oxq.aside ha19 (by omega)
    have og0 := og0.aside ha19 (by omega)
    clear hT18
    have oxm := pxm
    clear pxm ha19
    have hnk : ¬ (K3 : Int) < 0 := by omega
    obtain ⟨yg00, yg01, yg02⟩ := kg0.cells3
    obtain ⟨yw00, yw01, yw02⟩ := kw0.cells3
    go_wp2_with fail
    refine (eqQ_any w19 w19.heap.size (Nat.le_refl _) (og0.in_ (sqP_fit pZ qZ mZ) (by omega)) (ow0.in_ (sqP_fit pZ qZ mZ) (by omega))).mono ?_
    rintro e w20 ⟨rfl, hb20⟩
    clear yg00 yg01 yg02 yw00 yw01 yw02
    have hs20 := hb20.size
    have hT20 := below_then hT19 hb20
    have kp := kp.below hb20 kp.lt
    have kq := kq.below hb20 kq.lt
    have km := km.below hb20 km.lt
    have kw0 := kw0.below hb20 kw0.lt
    have kxp := kxp.below hb20 kxp.lt
    have kxq := kxq.below hb20 kxq.lt
    have kxm := kxm.below hb20 kxm.lt
    have kg0 := kg0.below hb20 kg0.lt
    have hp := hp.below (hb20.mono (by omega))
    have hq := hq.below (hb20.mono (by omega))
    have hm := hm.below (hb20.mono (by omega))
    have ow0 := ow0.below hb20 (by omega)
    have oxp := oxp.below hb20 (by omega)
    have oxq := oxq.below hb20 (by omega)
    have oxm := oxm.below hb20 (by omega)
    have og0 := og0.below hb20 (by omega)
    clear hT19
    clear hb20
    obtain ⟨yg00, yg01, yg02⟩ := kg0.cells3
    go_wp2_with fail
    refine (markQ_own w20 (w10.heap.size) (w11.heap.size) 3 1 og0 (by omega) ⟨by have := (sqP_fit pZ qZ mZ).1; omega, by have := (sqP_fit pZ qZ mZ).2.1; omega⟩ (by omega)).mono ?_
    rintro e w21 ⟨he, pg0, ha21⟩
    have hcz := sizQ_le (sqP_fit pZ qZ mZ)
    obtain ⟨K4, hK4⟩ : ∃ K : Nat, K = 1 + sizQ (sqP pZ qZ mZ) := ⟨_, rfl⟩
    have bK4 : K4 ≤ 16800010 := by omega
    rw [← hK4] at he
    subst he
    have HK4 := hide hK4
    clear hK4 hcz
    clear yg00 yg01 yg02
    have hs21 := ha21.size
    have hT21 := hT20.trans (Aside.below ha21 (by omega) (by omega))
    have kp := kp.aside ha21 (by omega)
    have kq := kq.aside ha21 (by omega)
    have km := km.aside ha21 (by omega)
    have kw0 := kw0.aside ha21 (by omega)
    have kxp := kxp.aside ha21 (by omega)
    have kxq := kxq.aside ha21 (by omega)
    have kxm := kxm.aside ha21 (by omega)
    have kg0 := kg0.aside ha21 (by omega)
    have hp := hp.below (Aside.below ha21 (by omega) (by omega))
    have hq := hq.below (Aside.below ha21 (by omega) (by omega))
    have hm := hm.below (Aside.below ha21 (by omega) (by omega))
    have ow0 := ow0.aside ha21 (by omega)
    have oxp := oxp.aside ha21 (by omega)
    have oxq := oxq.aside ha21 (by omega)
    have oxm := oxm.aside ha21 (by omega)
    clear hT20
    have og0 := pg0
    clear pg0 ha21
    obtain ⟨yg00, yg01, yg02⟩ := kg0.cells3
    have hNK4 : ¬ (K4 : Int) < 0 := by omega
    go_wp2_with fail
    refine (heldQ_any w21 (w10.heap.size) (w11.heap.size) 3 1 og0 (by omega) ⟨by have := (sqP_fit pZ qZ mZ).1; omega, by have := (sqP_fit pZ qZ mZ).2.1; omega⟩ (by omega)).mono ?_
    rintro e w22 ⟨he, hb22⟩
    rw [← HK4.out] at he
    subst he
    clear yg00 yg01 yg02
    have hs22 := hb22.size
    have hT22 := below_then hT21 hb22
    have kp := kp.below hb22 kp.lt
    have kq := kq.below hb22 kq.lt
    have km := km.below hb22 km.lt
    have kw0 := kw0.below hb22 kw0.lt
    have kxp := kxp.below hb22 kxp.lt
    have kxq := kxq.below hb22 kxq.lt
    have kxm := kxm.below hb22 kxm.lt
    have kg0 := kg0.below hb22 kg0.lt
    have hp := hp.below (hb22.mono (by omega))
    have hq := hq.below (hb22.mono (by omega))
    have hm := hm.below (hb22.mono (by omega))
    have ow0 := ow0.below hb22 (by omega)
    have oxp := oxp.below hb22 (by omega)
    have oxq := oxq.below hb22 (by omega)
    have oxm := oxm.below hb22 (by omega)
    have og0 := og0.below hb22 (by omega)
    clear hT21
    clear hb22
    go_upto_region 38 with fail
    have HCp := hide (fun (W : World) (h : Below w22.heap.size w22 W) => toP_any W w.heap.size (by have := h.size; omega) (hp.below (h.mono (by omega))))
    have HCq := hide (fun (W : World) (h : Below w22.heap.size w22 W) => toP_any W w.heap.size (by have := h.size; omega) (hq.below (h.mono (by omega))))
    have HCm := hide (fun (W : World) (h : Below w22.heap.size w22 W) => toP_any W w.heap.size (by have := h.size; omega) (hm.below (h.mono (by omega))))
    have Ehs0 := hide hs0
    clear hs0
    have Ehq6 := hide hq6
    clear hq6
    have Ehq8 := hide hq8
    clear hq8
    have Ehq10 := hide hq10
    clear hq10
    have Ehq12 := hide hq12
    clear hq12
    have HBp := hide kp
    have HBq := hide kq
    have HBm := hide km
    have HS0 : Hid (Below w22.heap.size w22 w22.drew) := (Below.refl _ _).drew
    have HS0a : Hid (Below w22.heap.size w22 (w22.alloc (.cells #[.bool false, .slice none 0 0, .slice none 0 0] 27)).drew) := (below_new _ _).drew
    have HKS := hide (fun (W : World) (hq : Below w22.heap.size w22 W) => (⟨(HBp.out.below hq HBp.out.lt).cell 0, (HBp.out.below hq HBp.out.lt).cell 1, (HBp.out.below hq HBp.out.lt).cell 2, (HBp.out.below hq HBp.out.lt).cell 3, (HBp.out.below hq HBp.out.lt).cell 4, (HBp.out.below hq HBp.out.lt).cell 5, (HBq.out.below hq HBq.out.lt).cell 0, (HBq.out.below hq HBq.out.lt).cell 1, (HBq.out.below hq HBq.out.lt).cell 2, (HBq.out.below hq HBq.out.lt).cell 3, (HBq.out.below hq HBq.out.lt).cell 4, (HBq.out.below hq HBq.out.lt).cell 5, (HBm.out.below hq HBm.out.lt).cell 0, (HBm.out.below hq HBm.out.lt).cell 1, (HBm.out.below hq HBm.out.lt).cell 2, (HBm.out.below hq HBm.out.lt).cell 3, (HBm.out.below hq HBm.out.lt).cell 4, (HBm.out.below hq HBm.out.lt).cell 5⟩ : W.cell? ⟨w.heap.size, 0, none⟩ = some (p0) ∧ W.cell? ⟨w.heap.size, 1, none⟩ = some (p1) ∧ W.cell? ⟨w.heap.size, 2, none⟩ = some (p2) ∧ W.cell? ⟨w.heap.size, 3, none⟩ = some (p3) ∧ W.cell? ⟨w.heap.size, 4, none⟩ = some (p4) ∧ W.cell? ⟨w.heap.size, 5, none⟩ = some (p5) ∧ W.cell? ⟨w.heap.size + 1, 0, none⟩ = some (q0) ∧ W.cell? ⟨w.heap.size + 1, 1, none⟩ = some (q1) ∧ W.cell? ⟨w.heap.size + 1, 2, none⟩ = some (q2) ∧ W.cell? ⟨w.heap.size + 1, 3, none⟩ = some (q3) ∧ W.cell? ⟨w.heap.size + 1, 4, none⟩ = some (q4) ∧ W.cell? ⟨w.heap.size + 1, 5, none⟩ = some (q5) ∧ W.cell? ⟨w.heap.size + 2, 0, none⟩ = some (m0) ∧ W.cell? ⟨w.heap.size + 2, 1, none⟩ = some (m1) ∧ W.cell? ⟨w.heap.size + 2, 2, none⟩ = some (m2) ∧ W.cell? ⟨w.heap.size + 2, 3, none⟩ = some (m3) ∧ W.cell? ⟨w.heap.size + 2, 4, none⟩ = some (m4) ∧ W.cell? ⟨w.heap.size + 2, 5, none⟩ = some (m5)))
    obtain ⟨yp0, yp1, yp2, yp3, yp4, yp5⟩ := kp.cells6
    obtain ⟨yq0, yq1, yq2, yq3, yq4, yq5⟩ := kq.cells6
    obtain ⟨ym0, ym1, ym2, ym3, ym4, ym5⟩ := km.cells6
    go_cut [16] from 96 to 114 (fun sx wx => VarQ w22 wx sx (sqP pZ qZ mZ) 27 3)
    case first =>
      go_region_held3 (fun w' => w'.cell? ⟨w.heap.size, 0, none⟩ = some (p0) ∧ w'.cell? ⟨w.heap.size, 1, none⟩ = some (p1) ∧ w'.cell? ⟨w.heap.size, 2, none⟩ = some (p2) ∧ w'.cell? ⟨w.heap.size, 3, none⟩ = some (p3) ∧ w'.cell? ⟨w.heap.size, 4, none⟩ = some (p4) ∧ w'.cell? ⟨w.heap.size, 5, none⟩ = some (p5) ∧ w'.cell? ⟨w.heap.size + 1, 0, none⟩ = some (q0) ∧ w'.cell? ⟨w.heap.size + 1, 1, none⟩ = some (q1) ∧ w'.cell? ⟨w.heap.size + 1, 2, none⟩ = some (q2) ∧ w'.cell? ⟨w.heap.size + 1, 3, none⟩ = some (q3) ∧ w'.cell? ⟨w.heap.size + 1, 4, none⟩ = some (q4) ∧ w'.cell? ⟨w.heap.size + 1, 5, none⟩ = some (q5) ∧ w'.cell? ⟨w.heap.size + 2, 0, none⟩ = some (m0) ∧ w'.cell? ⟨w.heap.size + 2, 1, none⟩ = some (m1) ∧ w'.cell? ⟨w.heap.size + 2, 2, none⟩ = some (m2) ∧ w'.cell? ⟨w.heap.size + 2, 3, none⟩ = some (m3) ∧ w'.cell? ⟨w.heap.size + 2, 4, none⟩ = some (m4) ∧ w'.cell? ⟨w.heap.size + 2, 5, none⟩ = some (m5))
          (first | (with_reducible exact HKS.out _ (below_set3 HS4.out HS3.out.size _ _ _)) | (with_reducible exact HKS.out _ (below_set3 HS4.out HS2.out.size _ _ _)) | (with_reducible exact HKS.out _ (below_set3 HS4.out HS1.out.size _ _ _)) | (with_reducible exact HKS.out _ (below_set3 HS4.out (Nat.le_refl _) _ _ _)) | (with_reducible exact HKS.out _ HS4.out) | (with_reducible exact HKS.out _ (below_alloc HS4.out _)) | (with_reducible exact HKS.out _ HS3.out) | (with_reducible exact HKS.out _ (below_alloc HS3.out _)) | (with_reducible exact HKS.out _ HS2.out) | (with_reducible exact HKS.out _ (below_alloc HS2.out _)) | (with_reducible exact HKS.out _ HS1.out) | (with_reducible exact HKS.out _ (below_alloc HS1.out _)) | (with_reducible exact HKS.out _ HS0.out) | (with_reducible exact HKS.out _ HS0a.out))
          (first
            | (go_at_call 17; have HX := HS3.out; (first | (with_reducible refine Calls.mono (impl_SquareToSegment _ _ (Nat.le_refl _) qtp qtq qtm) ?_) | (with_reducible refine Calls.mono (impl_SquareToSegment _ _ (Nat.le_refl _) (qtp.up (below_new _ _)) (qtq.up (below_new _ _)) (qtm.up (below_new _ _))) ?_)); rintro e u4 ⟨z0, z1, z2, rfl, oz, hb4⟩; obtain ⟨zb, zA, zn, zc, zD, zm, zk, rfl, rfl, rfl⟩ := oz.cut; (first | (have hu4 := (show Below u3.heap.size u3 u4 from hb4)) | (have hu4 := (below_then (below_new u3 _) hb4))); have hz4 : u3.heap.size ≤ u4.heap.size := hu4.size; have qtp := qtp.up hu4; have qtq := qtq.up hu4; have qtm := qtm.up hu4; have HS4 := hide (below_then HX hu4); clear HX; have hy4 := hb4.size; (first | (have kz := kz_new hb4) | (have kz := kz.below hu4 kz.lt) | skip); (first | (obtain ⟨t0, t1, t2, f0, f1, f2⟩ := kz.facts3) | skip))
            | (go_at_call 24; have HX := HS2.out; (first | (with_reducible refine Calls.mono (HCm.out _ HX) ?_) | (with_reducible refine Calls.mono (HCm.out _ (below_alloc HX _)) ?_)); rintro e u3 ⟨tm0, tm1, tm2, tm3, tm4, tm5, rfl, otm, hb3⟩; obtain ⟨tmb, tmA, tmn, tmc, tmD, tmm, tmk, tmyb, tmyA, tmyn, tmyc, tmyD, tmym, tmyk, rfl, rfl, rfl, rfl, rfl, rfl⟩ := otm.cut; have qtm := otm.in_ (hmF) (Nat.le_refl _); (first | (have hu3 := (show Below u2.heap.size u2 u3 from hb3)) | (have hu3 := (below_then (below_new u2 _) hb3))); have hz3 : u2.heap.size ≤ u3.heap.size := hu3.size; have qtp := qtp.up hu3; have qtq := qtq.up hu3; have HS3 := hide (below_then HX hu3); clear HX; have hy3 := hb3.size; (first | (have kz := kz_new hb3) | (have kz := kz.below hu3 kz.lt) | skip))
            | (go_at_call 24; have HX := HS1.out; (first | (with_reducible refine Calls.mono (HCq.out _ HX) ?_) | (with_reducible refine Calls.mono (HCq.out _ (below_alloc HX _)) ?_)); rintro e u2 ⟨tq0, tq1, tq2, tq3, tq4, tq5, rfl, otq, hb2⟩; obtain ⟨tqb, tqA, tqn, tqc, tqD, tqm, tqk, tqyb, tqyA, tqyn, tqyc, tqyD, tqym, tqyk, rfl, rfl, rfl, rfl, rfl, rfl⟩ := otq.cut; have qtq := otq.in_ (hqF) (Nat.le_refl _); (first | (have hu2 := (show Below u1.heap.size u1 u2 from hb2)) | (have hu2 := (below_then (below_new u1 _) hb2))); have hz2 : u1.heap.size ≤ u2.heap.size := hu2.size; have qtp := qtp.up hu2; have HS2 := hide (below_then HX hu2); clear HX; have hy2 := hb2.size; (first | (have kz := kz_new hb2) | (have kz := kz.below hu2 kz.lt) | skip))
            | (go_at_call 24; have HX := HS0.out; (first | (with_reducible refine Calls.mono (HCp.out _ HS0.out) ?_) | (with_reducible refine Calls.mono (HCp.out _ HS0a.out) ?_)); rintro e u1 ⟨tp0, tp1, tp2, tp3, tp4, tp5, rfl, otp, hb1⟩; obtain ⟨tpb, tpA, tpn, tpc, tpD, tpm, tpk, tpyb, tpyA, tpyn, tpyc, tpyD, tpym, tpyk, rfl, rfl, rfl, rfl, rfl, rfl⟩ := otp.cut; have qtp := otp.in_ (hpF) (Nat.le_refl _); (first | (have HS1 := hide (below_then HS0.out hb1)) | (have HS1 := hide (below_then HS0a.out hb1))); have hz1 : w22.heap.size ≤ u1.heap.size := HS1.out.size; clear HX; have hy1 := hb1.size; (first | (have kz := kz_drew hb1) | skip)))
      all_goals
        go_wp2_with fail
        go_meet
        case rel =>
          try simp only [drew_size, alloc_size] at hy1 hy2 hy3 hy4
          have HL := HS4.out
          first
            | ((with_reducible refine varq_set kz HL oz ?_ (Nat.le_refl _) ?_ ?_) <;> ((try simp only [alloc_size]); omega))
            | ((with_reducible refine varq_last HL oz ?_ (Nat.le_refl _)) <;> ((try simp only [alloc_size]); omega))
    case rest =>
      have hs0 := Ehs0.out
      clear Ehs0
      have hq6 := Ehq6.out
      clear Ehq6
      have hq8 := Ehq8.out
      clear Ehq8
      have hq10 := Ehq10.out
      clear Ehq10
      have hq12 := Ehq12.out
      clear Ehq12
      obtain ⟨gh0, h00, h01, h02, loh0, hih0, rfl, bn, on, hloh0, hhih0, hggh0, hglh0, hb23⟩ := hcut
      obtain ⟨h0b, h0A, h0n, h0c, h0D, h0m, h0k, rfl, rfl, rfl⟩ := on.cut
      obtain ⟨w23, hw23⟩ : ∃ xw, xw = wc := ⟨_, rfl⟩
      subst hw23
      clear HKS HS0 HS0a HBp HBq HBm
      clear yp0 yp1 yp2 yp3 yp4 yp5 yq0 yq1 yq2 yq3 yq4 yq5 ym0 ym1 ym2 ym3 ym4 ym5
      have hs23 := hb23.size
      have hT23 := below_then hT22 hb23
      have kp := kp.below hb23 kp.lt
      have kq := kq.below hb23 kq.lt
      have km := km.below hb23 km.lt
      have kw0 := kw0.below hb23 kw0.lt
      have kxp := kxp.below hb23 kxp.lt
      have kxq := kxq.below hb23 kxq.lt
      have kxm := kxm.below hb23 kxm.lt
      have kg0 := kg0.below hb23 kg0.lt
      have hp := hp.below (hb23.mono (by omega))
      have hq := hq.below (hb23.mono (by omega))
      have hm := hm.below (hb23.mono (by omega))
      have ow0 := ow0.below hb23 (by omega)
      have oxp := oxp.below hb23 (by omega)
      have oxq := oxq.below hb23 (by omega)
      have oxm := oxm.below hb23 (by omega)
      have og0 := og0.below hb23 (by omega)
      clear hT22
      clear hb23
      have kh0 := bn
      have lh0 := bn.lt
      have oh0 := on
      clear bn on
      clear HCp HCq HCm
      obtain ⟨yh00, yh01, yh02⟩ := kh0.cells3
      obtain ⟨yw00, yw01, yw02⟩ := kw0.cells3
      go_wp2_with fail
      refine (eqQ_any w23 w23.heap.size (Nat.le_refl _) (oh0.in_ (sqP_fit pZ qZ mZ) (by omega)) (ow0.in_ (sqP_fit pZ qZ mZ) (by omega))).mono ?_
      rintro e w24 ⟨rfl, hb24⟩
      clear yh00 yh01 yh02 yw00 yw01 yw02
      have hs24 := hb24.size
      have hT24 := below_then hT23 hb24
      have kp := kp.below hb24 kp.lt
      have kq := kq.below hb24 kq.lt
      have km := km.below hb24 km.lt
      have kw0 := kw0.below hb24 kw0.lt
      have kxp := kxp.below hb24 kxp.lt
      have kxq := kxq.below hb24 kxq.lt
      have kxm := kxm.below hb24 kxm.lt
      have kg0 := kg0.below hb24 kg0.lt
      have kh0 := kh0.below hb24 kh0.lt
      have hp := hp.below (hb24.mono (by omega))
      have hq := hq.below (hb24.mono (by omega))
      have hm := hm.below (hb24.mono (by omega))
      have ow0 := ow0.below hb24 (by omega)
      have oxp := oxp.below hb24 (by omega)
      have oxq := oxq.below hb24 (by omega)
      have oxm := oxm.below hb24 (by omega)
      have og0 := og0.below hb24 (by omega)
      have oh0 := oh0.below hb24 (by omega)
      clear hT23
      clear hb24
      obtain ⟨yg00, yg01, yg02⟩ := kg0.cells3
      have hNK4 : ¬ (K4 : Int) < 0 := by omega
      go_wp2_with fail
      refine (heldQ_any w24 (w10.heap.size) (w11.heap.size) 3 1 og0 (by omega) ⟨by have := (sqP_fit pZ qZ mZ).1; omega, by have := (sqP_fit pZ qZ mZ).2.1; omega⟩ (by omega)).mono ?_
      rintro e w25 ⟨he, hb25⟩
      rw [← HK4.out] at he
      subst he
      clear yg00 yg01 yg02
      have hs25 := hb25.size
      have hT25 := below_then hT24 hb25
      have kp := kp.below hb25 kp.lt
      have kq := kq.below hb25 kq.lt
      have km := km.below hb25 km.lt
      have kw0 := kw0.below hb25 kw0.lt
      have kxp := kxp.below hb25 kxp.lt
      have kxq := kxq.below hb25 kxq.lt
      have kxm := kxm.below hb25 kxm.lt
      have kg0 := kg0.below hb25 kg0.lt
      have kh0 := kh0.below hb25 kh0.lt
      have hp := hp.below (hb25.mono (by omega))
      have hq := hq.below (hb25.mono (by omega))
      have hm := hm.below (hb25.mono (by omega))
      have ow0 := ow0.below hb25 (by omega)
      have oxp := oxp.below hb25 (by omega)
      have oxq := oxq.below hb25 (by omega)
      have oxm := oxm.below hb25 (by omega)
      have og0 := og0.below hb25 (by omega)
      have oh0 := oh0.below hb25 (by omega)
      clear hT24
      clear hb25
      go_wp2
      go_ret
      exact ⟨rfl, hT25⟩
end Go.Proofs.YtcpncoonbdbkmaaGreat
