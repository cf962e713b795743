/-
  The walk of the exact law of MovePoint.
-/
import Derived.Test.YtnbaookdeijhhaaPtS
import Derived.Test.YtnbaookdeijhhaaPtR2
import Derived.Test.YtnbaookdeijhhaaPtI4
import Derived.Deep.RegionHeld3
import Derived.Deep.CutRange
import Derived.Sort.AtCall
namespace Go.Proofs.Ytnbaookdeijhhaa
open Go.RowKit
set_option linter.unusedVariables false
set_option maxRecDepth 100000 in
set_option maxHeartbeats 16000000 in
theorem FnExactMovePoint_walk (w : World) {p0 p1 p2 p3 p4 p5 : Value} (fp : PRow w p0 p1 p2 p3 p4 p5) (ax ay : Int) (hax : (Lit.int .i64 ax).wf = true) (hay : (Lit.int .i64 ay).wf = true) :
    Calls Try.prog 9 #[.agg #[p0, p1, p2, p3, p4, p5], .agg #[.int .i64 ax, .int .i64 ay]] w fun e w' => e = .returned (.bool true) ∧ Below w.heap.size w w' := by
  obtain ⟨Lp, gp, Jp⟩ := fp.len
  obtain ⟨W0, hW0⟩ : ∃ W0, W0 = ((w.alloc (.cells #[p0, p1, p2, p3, p4, p5] 34)).alloc (.cells #[.int .i64 ax, .int .i64 ay] 23)) := ⟨_, rfl⟩
  have hT0 : Below w.heap.size w W0 := by rw [hW0]; exact below_alloc (below_new _ _) _
  have kp : Box W0 (w.heap.size) 34 #[p0, p1, p2, p3, p4, p5] := by rw [hW0]; exact (Box.last _ _ _ rfl).alloc _
  have ka : Box W0 (w.heap.size + 1) 23 #[.int .i64 ax, .int .i64 ay] := by rw [hW0]; exact Box.last _ _ _ (alloc_size _ _).symm
  have hs0 : W0.heap.size = w.heap.size + 2 := by rw [hW0, alloc_size, alloc_size]
  go_enter Try.func9, Try.ntmps9
  go_upto_region 1 with fail
  rw [← hW0]
  clear hW0
  obtain ⟨yp0, yp1, yp2, yp3, yp4, yp5⟩ := kp.cells6
  go_wp2_with fail
  refine (szP_any W0 gp 1048576 (by omega)).mono ?_
  rintro e w1 ⟨rfl, hb1⟩
  clear yp0 yp1 yp2 yp3 yp4 yp5
  have hs1 := hb1.size
  have hT1 := below_then hT0 hb1
  have kp := kp.below hb1 kp.lt
  have ka := ka.below hb1 ka.lt
  clear hT0
  clear hb1
  by_cases czp : ¬ Lp ≤ 1048576
  · have hle : leftI 1048576 Lp = -1 := if_neg czp
    rw [hle]
    clear hle
    go_wp2_with fail
    go_ret
    exact ⟨rfl, hT1⟩
  have czp := Decidable.not_not.1 czp
  obtain ⟨Mp, hLp⟩ : ∃ L : Nat, L + Lp = 1048576 := ⟨1048576 - Lp, by omega⟩
  have hle : leftI 1048576 Lp = (Mp : Int) := by rw [leftI, if_pos czp]; omega
  rw [hle]
  clear hle
  have hngp : ¬ (Mp : Int) < 0 := by omega
  obtain ⟨pZ, J0⟩ := Jp (by omega)
  have hpF := J0.fit
  have hp := J0.below hT1
  have HLep := hide hLp
  have hLbp : Mp ≤ 1048576 := by omega
  clear hLp czp J0 Jp gp
  go_upto_region 5 with fail
  have HCp := hide (fun (W : World) (h : Below w1.heap.size w1 W) => toP_any W w.heap.size (by have := h.size; omega) (hp.below (h.mono (by omega))))
  have HCa := hide (fun (W : World) => toVec_any W ax ay hax hay)
  have Ehs0 := hide hs0
  clear hs0
  have HBp := hide kp
  have HBa := hide ka
  have HS0 : Hid (Below w1.heap.size w1 w1.drew) := (Below.refl _ _).drew
  have HS0a : Hid (Below w1.heap.size w1 (w1.alloc (.cells #[.bool false, .slice none 0 0, .slice none 0 0, .bool false, .slice none 0 0, .slice none 0 0] 41)).drew) := (below_new _ _).drew
  have HKS := hide (fun (W : World) (hq : Below w1.heap.size w1 W) => (⟨(HBp.out.below hq HBp.out.lt).cell 0, (HBp.out.below hq HBp.out.lt).cell 1, (HBp.out.below hq HBp.out.lt).cell 2, (HBp.out.below hq HBp.out.lt).cell 3, (HBp.out.below hq HBp.out.lt).cell 4, (HBp.out.below hq HBp.out.lt).cell 5, (HBa.out.below hq HBa.out.lt).cell 0, (HBa.out.below hq HBa.out.lt).cell 1⟩ : W.cell? ⟨w.heap.size, 0, none⟩ = some (p0) ∧ W.cell? ⟨w.heap.size, 1, none⟩ = some (p1) ∧ W.cell? ⟨w.heap.size, 2, none⟩ = some (p2) ∧ W.cell? ⟨w.heap.size, 3, none⟩ = some (p3) ∧ W.cell? ⟨w.heap.size, 4, none⟩ = some (p4) ∧ W.cell? ⟨w.heap.size, 5, none⟩ = some (p5) ∧ W.cell? ⟨w.heap.size + 1, 0, none⟩ = some (.int .i64 ax) ∧ W.cell? ⟨w.heap.size + 1, 1, none⟩ = some (.int .i64 ay)))
  obtain ⟨yp0, yp1, yp2, yp3, yp4, yp5⟩ := kp.cells6
  obtain ⟨ya0, ya1⟩ := ka.cells2
  go_cut [6] from 18 to 76 (fun sx wx => VarP w1 wx sx (moveP pZ ax ay) 41 3)
  case first =>
    go_region_held3 (fun w' => w'.cell? ⟨w.heap.size, 0, none⟩ = some (p0) ∧ w'.cell? ⟨w.heap.size, 1, none⟩ = some (p1) ∧ w'.cell? ⟨w.heap.size, 2, none⟩ = some (p2) ∧ w'.cell? ⟨w.heap.size, 3, none⟩ = some (p3) ∧ w'.cell? ⟨w.heap.size, 4, none⟩ = some (p4) ∧ w'.cell? ⟨w.heap.size, 5, none⟩ = some (p5) ∧ w'.cell? ⟨w.heap.size + 1, 0, none⟩ = some (.int .i64 ax) ∧ w'.cell? ⟨w.heap.size + 1, 1, none⟩ = some (.int .i64 ay))
        (first | (with_reducible exact HKS.out _ (below_set6 HS3.out HS2.out.size _ _ _ _ _ _)) | (with_reducible exact HKS.out _ (below_set6 HS3.out HS1.out.size _ _ _ _ _ _)) | (with_reducible exact HKS.out _ (below_set6 HS3.out (Nat.le_refl _) _ _ _ _ _ _)) | (with_reducible exact HKS.out _ HS3.out) | (with_reducible exact HKS.out _ (below_alloc HS3.out _)) | (with_reducible exact HKS.out _ HS2.out) | (with_reducible exact HKS.out _ (below_alloc HS2.out _)) | (with_reducible exact HKS.out _ HS1.out) | (with_reducible exact HKS.out _ (below_alloc HS1.out _)) | (with_reducible exact HKS.out _ HS0.out) | (with_reducible exact HKS.out _ HS0a.out))
        (first
          | (go_at_call 29; have HX := HS2.out; (first | (with_reducible refine Calls.mono (spec_MovePoint _ _ (Nat.le_refl _) qtp ax ay hax hay) ?_) | (with_reducible refine Calls.mono (spec_MovePoint _ _ (Nat.le_refl _) (qtp.up (below_new _ _)) ax ay hax hay) ?_)); rintro e u3 ⟨z0, z1, z2, z3, z4, z5, rfl, oz, hb3⟩; obtain ⟨zb, zA, zn, zc, zD, zm, zk, zyb, zyA, zyn, zyc, zyD, zym, zyk, rfl, rfl, rfl, rfl, rfl, rfl⟩ := oz.cut; (first | (have hu3 := (show Below u2.heap.size u2 u3 from hb3)) | (have hu3 := (below_then (below_new u2 _) hb3))); have hz3 : u2.heap.size ≤ u3.heap.size := hu3.size; have qtp := qtp.up hu3; have HS3 := hide (below_then HX hu3); clear HX; have hy3 := hb3.size; (first | (have kz := kz_new hb3) | (have kz := kz.below hu3 kz.lt) | skip); (first | (obtain ⟨⟨t0, t1, t2, t3, t4, t5⟩, f0, f1, f2, f3, f4, f5⟩ := kz.facts6) | skip))
          | (go_at_call 12; have HX := HS1.out; (first | (with_reducible refine Calls.mono (HCa.out _) ?_) | (with_reducible refine Calls.mono (HCa.out _) ?_)); rintro e u2 ⟨rfl, hb2⟩; (first | (have hu2 := (show Below u1.heap.size u1 u2 from hb2)) | (have hu2 := (below_then (below_new u1 _) hb2))); have hz2 : u1.heap.size ≤ u2.heap.size := hu2.size; have qtp := qtp.up hu2; have HS2 := hide (below_then HX hu2); clear HX; have hy2 := hb2.size; (first | (have kz := kz_new hb2) | (have kz := kz.below hu2 kz.lt) | skip))
          | (go_at_call 16; have HX := HS0.out; (first | (with_reducible refine Calls.mono (HCp.out _ HS0.out) ?_) | (with_reducible refine Calls.mono (HCp.out _ HS0a.out) ?_)); rintro e u1 ⟨tp0, tp1, tp2, tp3, tp4, tp5, rfl, otp, hb1⟩; obtain ⟨tpb, tpA, tpn, tpc, tpD, tpm, tpk, tpyb, tpyA, tpyn, tpyc, tpyD, tpym, tpyk, rfl, rfl, rfl, rfl, rfl, rfl⟩ := otp.cut; have qtp := otp.in_ (hpF) (Nat.le_refl _); (first | (have HS1 := hide (below_then HS0.out hb1)) | (have HS1 := hide (below_then HS0a.out hb1))); have hz1 : w1.heap.size ≤ u1.heap.size := HS1.out.size; clear HX; have hy1 := hb1.size; (first | (have kz := kz_drew hb1) | skip)))
    all_goals
      go_wp2_with fail
      go_meet
      case rel =>
        try simp only [drew_size, alloc_size] at hy1 hy2 hy3
        have HL := HS3.out
        first
          | ((with_reducible refine varpt_set kz HL oz ?_ (Nat.le_refl _) ?_ ?_) <;> ((try simp only [alloc_size]); omega))
          | ((with_reducible refine varpt_last HL oz ?_ (Nat.le_refl _)) <;> ((try simp only [alloc_size]); omega))
  case rest =>
    have hs0 := Ehs0.out
    clear Ehs0
    obtain ⟨gw0, w00, w01, w02, w03, w04, w05, low0, hiw0, rfl, bn, on, hlow0, hhiw0, hggw0, hglw0, hb2⟩ := hcut
    obtain ⟨w0b, w0A, w0n, w0c, w0D, w0m, w0k, w0yb, w0yA, w0yn, w0yc, w0yD, w0ym, w0yk, rfl, rfl, rfl, rfl, rfl, rfl⟩ := on.cut
    obtain ⟨w2, hw2⟩ : ∃ xw, xw = wc := ⟨_, rfl⟩
    subst hw2
    clear HKS HS0 HS0a HBp HBa
    clear yp0 yp1 yp2 yp3 yp4 yp5 ya0 ya1
    have hs2 := hb2.size
    have hT2 := below_then hT1 hb2
    have kp := kp.below hb2 kp.lt
    have ka := ka.below hb2 ka.lt
    have hp := hp.below (hb2.mono (by omega))
    clear hT1
    clear hb2
    have kw0 := bn
    have lw0 := bn.lt
    have ow0 := on
    clear bn on
    clear HCp HCa
    obtain ⟨yp0, yp1, yp2, yp3, yp4, yp5⟩ := kp.cells6
    go_wp2_with fail
    refine (toP_any w2 w.heap.size hT2.size hp).mono ?_
    rintro e w3 ⟨xp0, xp1, xp2, xp3, xp4, xp5, rfl, oxp, hb3⟩
    clear yp0 yp1 yp2 yp3 yp4 yp5
    obtain ⟨xpb, xpA, xpn, xpc, xpD, xpm, xpk, xpyb, xpyA, xpyn, xpyc, xpyD, xpym, xpyk, rfl, rfl, rfl, rfl, rfl, rfl⟩ := oxp.cut
    have hs3 := hb3.size
    have hT3 := below_then hT2 hb3
    have kp := kp.below hb3 kp.lt
    have ka := ka.below hb3 ka.lt
    have kw0 := kw0.below hb3 kw0.lt
    have hp := hp.below (hb3.mono (by omega))
    have ow0 := ow0.below hb3 (by omega)
    clear hT2
    clear hb3
    obtain ⟨w4, hw4⟩ : ∃ xw, xw = (w3.alloc (.cells #[.bool xpb, .slice xpA xpn xpc, .slice xpD xpm xpk, .bool xpyb, .slice xpyA xpyn xpyc, .slice xpyD xpym xpyk] 41)) := ⟨_, rfl⟩
    have hb4 : Below w3.heap.size w3 w4 := by rw [hw4]; exact below_new _ _
    have hq4 : w4.heap.size = w3.heap.size + 1 := by rw [hw4, alloc_size]
    have kxp : Box w4 (w3.heap.size) 41 #[.bool xpb, .slice xpA xpn xpc, .slice xpD xpm xpk, .bool xpyb, .slice xpyA xpyn xpyc, .slice xpyD xpym xpyk] := by rw [hw4]; exact Box.last _ _ _ (by omega)
    have hs4 := hb4.size
    have hT4 := below_then hT3 hb4
    have kp := kp.below hb4 kp.lt
    have ka := ka.below hb4 ka.lt
    have kw0 := kw0.below hb4 kw0.lt
    have hp := hp.below (hb4.mono (by omega))
    have ow0 := ow0.below hb4 (by omega)
    have oxp := oxp.below hb4 (by omega)
    clear hT3
    go_upto_region 7 with fail
    rw [← hw4]
    clear hw4 hb4
    go_upto_region 7 with fail
    have HCa := hide (fun (W : World) => toVec_any W ax ay hax hay)
    have HXp := hide (fun (W : World) (h : Below w4.heap.size w4 W) => (oxp.in_ hpF (show _ ≤ w4.heap.size by omega)).below h |>.wider h.size)
    have Ehs0 := hide hs0
    clear hs0
    have Ehq4 := hide hq4
    clear hq4
    have HBxp := hide kxp
    have HBa := hide ka
    have HS0 : Hid (Below w4.heap.size w4 w4.drew) := (Below.refl _ _).drew
    have HS0a : Hid (Below w4.heap.size w4 (w4.alloc (.cells #[.bool false, .slice none 0 0, .slice none 0 0, .bool false, .slice none 0 0, .slice none 0 0] 41)).drew) := (below_new _ _).drew
    have HKS := hide (fun (W : World) (hq : Below w4.heap.size w4 W) => (⟨(HBxp.out.below hq HBxp.out.lt).cell 0, (HBxp.out.below hq HBxp.out.lt).cell 1, (HBxp.out.below hq HBxp.out.lt).cell 2, (HBxp.out.below hq HBxp.out.lt).cell 3, (HBxp.out.below hq HBxp.out.lt).cell 4, (HBxp.out.below hq HBxp.out.lt).cell 5, (HBa.out.below hq HBa.out.lt).cell 0, (HBa.out.below hq HBa.out.lt).cell 1⟩ : W.cell? ⟨w3.heap.size, 0, none⟩ = some (.bool xpb) ∧ W.cell? ⟨w3.heap.size, 1, none⟩ = some (.slice xpA xpn xpc) ∧ W.cell? ⟨w3.heap.size, 2, none⟩ = some (.slice xpD xpm xpk) ∧ W.cell? ⟨w3.heap.size, 3, none⟩ = some (.bool xpyb) ∧ W.cell? ⟨w3.heap.size, 4, none⟩ = some (.slice xpyA xpyn xpyc) ∧ W.cell? ⟨w3.heap.size, 5, none⟩ = some (.slice xpyD xpym xpyk) ∧ W.cell? ⟨w.heap.size + 1, 0, none⟩ = some (.int .i64 ax) ∧ W.cell? ⟨w.heap.size + 1, 1, none⟩ = some (.int .i64 ay)))
    obtain ⟨yxp0, yxp1, yxp2, yxp3, yxp4, yxp5⟩ := kxp.cells6
    obtain ⟨ya0, ya1⟩ := ka.cells2
    go_cut [8] from 25 to 76 (fun sx wx => VarP w4 wx sx (moveP pZ ax ay) 41 3)
    case first =>
      go_region_held3 (fun w' => w'.cell? ⟨w3.heap.size, 0, none⟩ = some (.bool xpb) ∧ w'.cell? ⟨w3.heap.size, 1, none⟩ = some (.slice xpA xpn xpc) ∧ w'.cell? ⟨w3.heap.size, 2, none⟩ = some (.slice xpD xpm xpk) ∧ w'.cell? ⟨w3.heap.size, 3, none⟩ = some (.bool xpyb) ∧ w'.cell? ⟨w3.heap.size, 4, none⟩ = some (.slice xpyA xpyn xpyc) ∧ w'.cell? ⟨w3.heap.size, 5, none⟩ = some (.slice xpyD xpym xpyk) ∧ w'.cell? ⟨w.heap.size + 1, 0, none⟩ = some (.int .i64 ax) ∧ w'.cell? ⟨w.heap.size + 1, 1, none⟩ = some (.int .i64 ay))
          (first | (with_reducible exact HKS.out _ (below_set6 HS2.out HS1.out.size _ _ _ _ _ _)) | (with_reducible exact HKS.out _ (below_set6 HS2.out (Nat.le_refl _) _ _ _ _ _ _)) | (with_reducible exact HKS.out _ HS2.out) | (with_reducible exact HKS.out _ (below_alloc HS2.out _)) | (with_reducible exact HKS.out _ HS1.out) | (with_reducible exact HKS.out _ (below_alloc HS1.out _)) | (with_reducible exact HKS.out _ HS0.out) | (with_reducible exact HKS.out _ HS0a.out))
          (first
            | (go_at_call 30; have HX := HS1.out; (first | (with_reducible refine Calls.mono (impl_MovePoint _ _ (Nat.le_refl _) (HXp.out _ HX) ax ay hax hay) ?_) | (with_reducible refine Calls.mono (impl_MovePoint _ _ (Nat.le_refl _) (HXp.out _ (below_alloc HX _)) ax ay hax hay) ?_)); rintro e u2 ⟨z0, z1, z2, z3, z4, z5, rfl, oz, hb2⟩; obtain ⟨zb, zA, zn, zc, zD, zm, zk, zyb, zyA, zyn, zyc, zyD, zym, zyk, rfl, rfl, rfl, rfl, rfl, rfl⟩ := oz.cut; (first | (have hu2 := (show Below u1.heap.size u1 u2 from hb2)) | (have hu2 := (below_then (below_new u1 _) hb2))); have hz2 : u1.heap.size ≤ u2.heap.size := hu2.size; have HS2 := hide (below_then HX hu2); clear HX; have hy2 := hb2.size; (first | (have kz := kz_new hb2) | (have kz := kz.below hu2 kz.lt) | skip); (first | (obtain ⟨⟨t0, t1, t2, t3, t4, t5⟩, f0, f1, f2, f3, f4, f5⟩ := kz.facts6) | skip))
            | (go_at_call 12; have HX := HS0.out; (first | (with_reducible refine Calls.mono (HCa.out _) ?_) | (with_reducible refine Calls.mono (HCa.out _) ?_)); rintro e u1 ⟨rfl, hb1⟩; (first | (have HS1 := hide (below_then HS0.out hb1)) | (have HS1 := hide (below_then HS0a.out hb1))); have hz1 : w4.heap.size ≤ u1.heap.size := HS1.out.size; clear HX; have hy1 := hb1.size; (first | (have kz := kz_drew hb1) | skip)))
      all_goals
        go_wp2_with fail
        go_meet
        case rel =>
          try simp only [drew_size, alloc_size] at hy1 hy2
          have HL := HS2.out
          first
            | ((with_reducible refine varpt_set kz HL oz ?_ (Nat.le_refl _) ?_ ?_) <;> ((try simp only [alloc_size]); omega))
            | ((with_reducible refine varpt_last HL oz ?_ (Nat.le_refl _)) <;> ((try simp only [alloc_size]); omega))
    case rest =>
      have hs0 := Ehs0.out
      clear Ehs0
      have hq4 := Ehq4.out
      clear Ehq4
      obtain ⟨gg0, g00, g01, g02, g03, g04, g05, log0, hig0, rfl, bn, on, hlog0, hhig0, hggg0, hglg0, hb5⟩ := hcut
      obtain ⟨g0b, g0A, g0n, g0c, g0D, g0m, g0k, g0yb, g0yA, g0yn, g0yc, g0yD, g0ym, g0yk, rfl, rfl, rfl, rfl, rfl, rfl⟩ := on.cut
      obtain ⟨w5, hw5⟩ : ∃ xw, xw = wc := ⟨_, rfl⟩
      subst hw5
      clear HKS HS0 HS0a HBxp HBa
      clear yxp0 yxp1 yxp2 yxp3 yxp4 yxp5 ya0 ya1
      have hs5 := hb5.size
      have hT5 := below_then hT4 hb5
      have kp := kp.below hb5 kp.lt
      have ka := ka.below hb5 ka.lt
      have kw0 := kw0.below hb5 kw0.lt
      have kxp := kxp.below hb5 kxp.lt
      have hp := hp.below (hb5.mono (by omega))
      have ow0 := ow0.below hb5 (by omega)
      have oxp := oxp.below hb5 (by omega)
      clear hT4
      clear hb5
      have kg0 := bn
      have lg0 := bn.lt
      have og0 := on
      clear bn on
      clear HCa HXp
      obtain ⟨yg00, yg01, yg02, yg03, yg04, yg05⟩ := kg0.cells6
      obtain ⟨yw00, yw01, yw02, yw03, yw04, yw05⟩ := kw0.cells6
      go_wp2_with fail
      refine (eqP_any w5 w5.heap.size (Nat.le_refl _) (og0.in_ (moveP_fit pZ ax ay) (by omega)) (ow0.in_ (moveP_fit pZ ax ay) (by omega))).mono ?_
      rintro e w6 ⟨rfl, hb6⟩
      clear yg00 yg01 yg02 yg03 yg04 yg05 yw00 yw01 yw02 yw03 yw04 yw05
      have hs6 := hb6.size
      have hT6 := below_then hT5 hb6
      have kp := kp.below hb6 kp.lt
      have ka := ka.below hb6 ka.lt
      have kw0 := kw0.below hb6 kw0.lt
      have kxp := kxp.below hb6 kxp.lt
      have kg0 := kg0.below hb6 kg0.lt
      have hp := hp.below (hb6.mono (by omega))
      have ow0 := ow0.below hb6 (by omega)
      have oxp := oxp.below hb6 (by omega)
      have og0 := og0.below hb6 (by omega)
      clear hT5
      clear hb6
      go_upto_region 10 with fail
      have HCp := hide (fun (W : World) (h : Below w6.heap.size w6 W) => toP_any W w.heap.size (by have := h.size; omega) (hp.below (h.mono (by omega))))
      have HE := hide (fun (W : World) (h : Below w6.heap.size w6 W) => ((oxp.in_ hpF (show _ ≤ w6.heap.size by omega)).below h).wider h.size)
      have HBxp := hide kxp
      have HBp := hide kp
      have HS0 : Hid (Below w6.heap.size w6 w6.drew) := (Below.refl _ _).drew
      have HKS := hide (fun (W : World) (hq : Below w6.heap.size w6 W) => (⟨(HBxp.out.below hq HBxp.out.lt).cell 0, (HBxp.out.below hq HBxp.out.lt).cell 1, (HBxp.out.below hq HBxp.out.lt).cell 2, (HBxp.out.below hq HBxp.out.lt).cell 3, (HBxp.out.below hq HBxp.out.lt).cell 4, (HBxp.out.below hq HBxp.out.lt).cell 5, (HBp.out.below hq HBp.out.lt).cell 0, (HBp.out.below hq HBp.out.lt).cell 1, (HBp.out.below hq HBp.out.lt).cell 2, (HBp.out.below hq HBp.out.lt).cell 3, (HBp.out.below hq HBp.out.lt).cell 4, (HBp.out.below hq HBp.out.lt).cell 5⟩ : W.cell? ⟨w3.heap.size, 0, none⟩ = some (.bool xpb) ∧ W.cell? ⟨w3.heap.size, 1, none⟩ = some (.slice xpA xpn xpc) ∧ W.cell? ⟨w3.heap.size, 2, none⟩ = some (.slice xpD xpm xpk) ∧ W.cell? ⟨w3.heap.size, 3, none⟩ = some (.bool xpyb) ∧ W.cell? ⟨w3.heap.size, 4, none⟩ = some (.slice xpyA xpyn xpyc) ∧ W.cell? ⟨w3.heap.size, 5, none⟩ = some (.slice xpyD xpym xpyk) ∧ W.cell? ⟨w.heap.size, 0, none⟩ = some (p0) ∧ W.cell? ⟨w.heap.size, 1, none⟩ = some (p1) ∧ W.cell? ⟨w.heap.size, 2, none⟩ = some (p2) ∧ W.cell? ⟨w.heap.size, 3, none⟩ = some (p3) ∧ W.cell? ⟨w.heap.size, 4, none⟩ = some (p4) ∧ W.cell? ⟨w.heap.size, 5, none⟩ = some (p5)))
      have HIp := hide hp
      obtain ⟨yxp0, yxp1, yxp2, yxp3, yxp4, yxp5⟩ := kxp.cells6
      obtain ⟨yp0, yp1, yp2, yp3, yp4, yp5⟩ := kp.cells6
      go_region_held3 (fun w' => w'.cell? ⟨w3.heap.size, 0, none⟩ = some (.bool xpb) ∧ w'.cell? ⟨w3.heap.size, 1, none⟩ = some (.slice xpA xpn xpc) ∧ w'.cell? ⟨w3.heap.size, 2, none⟩ = some (.slice xpD xpm xpk) ∧ w'.cell? ⟨w3.heap.size, 3, none⟩ = some (.bool xpyb) ∧ w'.cell? ⟨w3.heap.size, 4, none⟩ = some (.slice xpyA xpyn xpyc) ∧ w'.cell? ⟨w3.heap.size, 5, none⟩ = some (.slice xpyD xpym xpyk) ∧ w'.cell? ⟨w.heap.size, 0, none⟩ = some (p0) ∧ w'.cell? ⟨w.heap.size, 1, none⟩ = some (p1) ∧ w'.cell? ⟨w.heap.size, 2, none⟩ = some (p2) ∧ w'.cell? ⟨w.heap.size, 3, none⟩ = some (p3) ∧ w'.cell? ⟨w.heap.size, 4, none⟩ = some (p4) ∧ w'.cell? ⟨w.heap.size, 5, none⟩ = some (p5))
          (first | (with_reducible exact HKS.out _ HS2.out) | (with_reducible exact HKS.out _ HS1.out) | (with_reducible exact HKS.out _ HS0.out))
          (first
            | (go_at_call 18; have HX := HS1.out; refine (eqP_any u1 u1.heap.size (Nat.le_refl _) (HE.out _ HS1.out) qtt).mono ?_; rintro e u2 ⟨rfl, hb2⟩; have qtt := qtt.up hb2; have ott := ott.below hb2 (by omega); have hz2 : u1.heap.size ≤ u2.heap.size := hb2.size; have HS2 := hide (below_then HX hb2); clear HX)
            | (go_at_call 16; have HX := HS0.out; refine (HCp.out _ HS0.out).mono ?_; rintro e u1 ⟨tt0, tt1, tt2, tt3, tt4, tt5, rfl, ott, hb1⟩; obtain ⟨ttb, ttA, ttn, ttc, ttD, ttm, ttk, ttyb, ttyA, ttyn, ttyc, ttyD, ttym, ttyk, rfl, rfl, rfl, rfl, rfl, rfl⟩ := ott.cut; have ott : POwn u1 w6.heap.size u1.heap.size 3 (.bool ttb) (.slice ttA ttn ttc) (.slice ttD ttm ttk) (.bool ttyb) (.slice ttyA ttyn ttyc) (.slice ttyD ttym ttyk) (pZ) := ott; have qtt := ott.in_ (hpF) (Nat.le_refl _); have hz1 : w6.heap.size ≤ u1.heap.size := hb1.size; have HS1 := hide (below_then HX hb1); clear HX))
      have hb7z := HS2.out
      obtain ⟨w7, hw7⟩ : ∃ x, x = u2 := ⟨_, rfl⟩
      subst hw7
      clear HKS HS0 HS1 HS2 hb1 hb2 hz1 hz2 HBxp HBp HIp ott qtt HCp HE
      clear yxp0 yxp1 yxp2 yxp3 yxp4 yxp5 yp0 yp1 yp2 yp3 yp4 yp5
      have hs7 := hb7z.size
      have hT7 := below_then hT6 hb7z
      have kp := kp.below hb7z kp.lt
      have ka := ka.below hb7z ka.lt
      have kw0 := kw0.below hb7z kw0.lt
      have kxp := kxp.below hb7z kxp.lt
      have kg0 := kg0.below hb7z kg0.lt
      have hp := hp.below (hb7z.mono (by omega))
      have ow0 := ow0.below hb7z (by omega)
      have oxp := oxp.below hb7z (by omega)
      have og0 := og0.below hb7z (by omega)
      clear hT6
      clear hb7z
      obtain ⟨yxp0, yxp1, yxp2, yxp3, yxp4, yxp5⟩ := kxp.cells6
      go_wp2_with fail
      refine (markP_own w7 (w2.heap.size) (w3.heap.size) 3 1 oxp (by omega) (hpF) (by omega)).mono ?_
      rintro e w8 ⟨he, pxp, ha8⟩
      have hcz := sizP_le (hpF)
      obtain ⟨K1, hK1⟩ : ∃ K : Nat, K = 1 + sizP (pZ) := ⟨_, rfl⟩
      have bK1 : K1 ≤ 4200010 := by omega
      rw [← hK1] at he
      subst he
      have HK1 := hide hK1
      clear hK1 hcz
      clear yxp0 yxp1 yxp2 yxp3 yxp4 yxp5
      have hs8 := ha8.size
      have hT8 := hT7.trans (Aside.below ha8 (by omega) (by omega))
      have kp := kp.aside ha8 (by omega)
      have ka := ka.aside ha8 (by omega)
      have kw0 := kw0.aside ha8 (by omega)
      have kxp := kxp.aside ha8 (by omega)
      have kg0 := kg0.aside ha8 (by omega)
      have hp := hp.below (Aside.below ha8 (by omega) (by omega))
      have ow0 := ow0.aside ha8 (by omega)
      have og0 := og0.aside ha8 (by omega)
      clear hT7
      have oxp := pxp
      clear pxp ha8
      have hnk : ¬ (K1 : Int) < 0 := by omega
      obtain ⟨yg00, yg01, yg02, yg03, yg04, yg05⟩ := kg0.cells6
      obtain ⟨yw00, yw01, yw02, yw03, yw04, yw05⟩ := kw0.cells6
      go_wp2_with fail
      refine (eqP_any w8 w8.heap.size (Nat.le_refl _) (og0.in_ (moveP_fit pZ ax ay) (by omega)) (ow0.in_ (moveP_fit pZ ax ay) (by omega))).mono ?_
      rintro e w9 ⟨rfl, hb9⟩
      clear yg00 yg01 yg02 yg03 yg04 yg05 yw00 yw01 yw02 yw03 yw04 yw05
      have hs9 := hb9.size
      have hT9 := below_then hT8 hb9
      have kp := kp.below hb9 kp.lt
      have ka := ka.below hb9 ka.lt
      have kw0 := kw0.below hb9 kw0.lt
      have kxp := kxp.below hb9 kxp.lt
      have kg0 := kg0.below hb9 kg0.lt
      have hp := hp.below (hb9.mono (by omega))
      have ow0 := ow0.below hb9 (by omega)
      have oxp := oxp.below hb9 (by omega)
      have og0 := og0.below hb9 (by omega)
      clear hT8
      clear hb9
      obtain ⟨yg00, yg01, yg02, yg03, yg04, yg05⟩ := kg0.cells6
      go_wp2_with fail
      refine (markP_own w9 (log0) (hig0) 3 1 og0 (by omega) (moveP_fit pZ ax ay) (by omega)).mono ?_
      rintro e w10 ⟨he, pg0, ha10⟩
      have hcz := sizP_le (moveP_fit pZ ax ay)
      obtain ⟨K2, hK2⟩ : ∃ K : Nat, K = 1 + sizP (moveP pZ ax ay) := ⟨_, rfl⟩
      have bK2 : K2 ≤ 8400010 := by omega
      rw [← hK2] at he
      subst he
      have HK2 := hide hK2
      clear hK2 hcz
      clear yg00 yg01 yg02 yg03 yg04 yg05
      have hs10 := ha10.size
      have hT10 := hT9.trans (Aside.below ha10 (by omega) (by omega))
      have kp := kp.aside ha10 (by omega)
      have ka := ka.aside ha10 (by omega)
      have kw0 := kw0.aside ha10 (by omega)
      have kxp := kxp.aside ha10 (by omega)
      have kg0 := kg0.aside ha10 (by omega)
      have hp := hp.below (Aside.below ha10 (by omega) (by omega))
      have ow0 := ow0.aside ha10 (by omega)
      have oxp := oxp.aside ha10 (by omega)
      clear hT9
      have og0 := pg0
      clear pg0 ha10
      obtain ⟨yg00, yg01, yg02, yg03, yg04, yg05⟩ := kg0.cells6
      have hNK2 : ¬ (K2 : Int) < 0 := by omega
      go_wp2_with fail
      refine (heldP_any w10 (log0) (hig0) 3 1 og0 (by omega) (moveP_fit pZ ax ay) (by omega)).mono ?_
      rintro e w11 ⟨he, hb11⟩
      rw [← HK2.out] at he
      subst he
      clear yg00 yg01 yg02 yg03 yg04 yg05
      have hs11 := hb11.size
      have hT11 := below_then hT10 hb11
      have kp := kp.below hb11 kp.lt
      have ka := ka.below hb11 ka.lt
      have kw0 := kw0.below hb11 kw0.lt
      have kxp := kxp.below hb11 kxp.lt
      have kg0 := kg0.below hb11 kg0.lt
      have hp := hp.below (hb11.mono (by omega))
      have ow0 := ow0.below hb11 (by omega)
      have oxp := oxp.below hb11 (by omega)
      have og0 := og0.below hb11 (by omega)
      clear hT10
      clear hb11
      go_upto_region 24 with fail
      have HCp := hide (fun (W : World) (h : Below w11.heap.size w11 W) => toP_any W w.heap.size (by have := h.size; omega) (hp.below (h.mono (by omega))))
      have HCa := hide (fun (W : World) => toVec_any W ax ay hax hay)
      have Ehs0 := hide hs0
      clear hs0
      have Ehq4 := hide hq4
      clear hq4
      have HBp := hide kp
      have HBa := hide ka
      have HS0 : Hid (Below w11.heap.size w11 w11.drew) := (Below.refl _ _).drew
      have HS0a : Hid (Below w11.heap.size w11 (w11.alloc (.cells #[.bool false, .slice none 0 0, .slice none 0 0, .bool false, .slice none 0 0, .slice none 0 0] 41)).drew) := (below_new _ _).drew
      have HKS := hide (fun (W : World) (hq : Below w11.heap.size w11 W) => (⟨(HBp.out.below hq HBp.out.lt).cell 0, (HBp.out.below hq HBp.out.lt).cell 1, (HBp.out.below hq HBp.out.lt).cell 2, (HBp.out.below hq HBp.out.lt).cell 3, (HBp.out.below hq HBp.out.lt).cell 4, (HBp.out.below hq HBp.out.lt).cell 5, (HBa.out.below hq HBa.out.lt).cell 0, (HBa.out.below hq HBa.out.lt).cell 1⟩ : W.cell? ⟨w.heap.size, 0, none⟩ = some (p0) ∧ W.cell? ⟨w.heap.size, 1, none⟩ = some (p1) ∧ W.cell? ⟨w.heap.size, 2, none⟩ = some (p2) ∧ W.cell? ⟨w.heap.size, 3, none⟩ = some (p3) ∧ W.cell? ⟨w.heap.size, 4, none⟩ = some (p4) ∧ W.cell? ⟨w.heap.size, 5, none⟩ = some (p5) ∧ W.cell? ⟨w.heap.size + 1, 0, none⟩ = some (.int .i64 ax) ∧ W.cell? ⟨w.heap.size + 1, 1, none⟩ = some (.int .i64 ay)))
      obtain ⟨yp0, yp1, yp2, yp3, yp4, yp5⟩ := kp.cells6
      obtain ⟨ya0, ya1⟩ := ka.cells2
      go_cut [12] from 60 to 76 (fun sx wx => VarP w11 wx sx (moveP pZ ax ay) 41 3)
      case first =>
        go_region_held3 (fun w' => w'.cell? ⟨w.heap.size, 0, none⟩ = some (p0) ∧ w'.cell? ⟨w.heap.size, 1, none⟩ = some (p1) ∧ w'.cell? ⟨w.heap.size, 2, none⟩ = some (p2) ∧ w'.cell? ⟨w.heap.size, 3, none⟩ = some (p3) ∧ w'.cell? ⟨w.heap.size, 4, none⟩ = some (p4) ∧ w'.cell? ⟨w.heap.size, 5, none⟩ = some (p5) ∧ w'.cell? ⟨w.heap.size + 1, 0, none⟩ = some (.int .i64 ax) ∧ w'.cell? ⟨w.heap.size + 1, 1, none⟩ = some (.int .i64 ay))
            (first | (with_reducible exact HKS.out _ (below_set6 HS3.out HS2.out.size _ _ _ _ _ _)) | (with_reducible exact HKS.out _ (below_set6 HS3.out HS1.out.size _ _ _ _ _ _)) | (with_reducible exact HKS.out _ (below_set6 HS3.out (Nat.le_refl _) _ _ _ _ _ _)) | (with_reducible exact HKS.out _ HS3.out) | (with_reducible exact HKS.out _ (below_alloc HS3.out _)) | (with_reducible exact HKS.out _ HS2.out) | (with_reducible exact HKS.out _ (below_alloc HS2.out _)) | (with_reducible exact HKS.out _ HS1.out) | (with_reducible exact HKS.out _ (below_alloc HS1.out _)) | (with_reducible exact HKS.out _ HS0.out) | (with_reducible exact HKS.out _ HS0a.out))
            (first
              | (go_at_call 30; have HX := HS2.out; (first | (with_reducible refine Calls.mono (impl_MovePoint _ _ (Nat.le_refl _) qtp ax ay hax hay) ?_) | (with_reducible refine Calls.mono (impl_MovePoint _ _ (Nat.le_refl _) (qtp.up (below_new _ _)) ax ay hax hay) ?_)); rintro e u3 ⟨z0, z1, z2, z3, z4, z5, rfl, oz, hb3⟩; obtain ⟨zb, zA, zn, zc, zD, zm, zk, zyb, zyA, zyn, zyc, zyD, zym, zyk, rfl, rfl, rfl, rfl, rfl, rfl⟩ := oz.cut; (first | (have hu3 := (show Below u2.heap.size u2 u3 from hb3)) | (have hu3 := (below_then (below_new u2 _) hb3))); have hz3 : u2.heap.size ≤ u3.heap.size := hu3.size; have qtp := qtp.up hu3; have HS3 := hide (below_then HX hu3); clear HX; have hy3 := hb3.size; (first | (have kz := kz_new hb3) | (have kz := kz.below hu3 kz.lt) | skip); (first | (obtain ⟨⟨t0, t1, t2, t3, t4, t5⟩, f0, f1, f2, f3, f4, f5⟩ := kz.facts6) | skip))
              | (go_at_call 12; have HX := HS1.out; (first | (with_reducible refine Calls.mono (HCa.out _) ?_) | (with_reducible refine Calls.mono (HCa.out _) ?_)); rintro e u2 ⟨rfl, hb2⟩; (first | (have hu2 := (show Below u1.heap.size u1 u2 from hb2)) | (have hu2 := (below_then (below_new u1 _) hb2))); have hz2 : u1.heap.size ≤ u2.heap.size := hu2.size; have qtp := qtp.up hu2; have HS2 := hide (below_then HX hu2); clear HX; have hy2 := hb2.size; (first | (have kz := kz_new hb2) | (have kz := kz.below hu2 kz.lt) | skip))
              | (go_at_call 16; have HX := HS0.out; (first | (with_reducible refine Calls.mono (HCp.out _ HS0.out) ?_) | (with_reducible refine Calls.mono (HCp.out _ HS0a.out) ?_)); rintro e u1 ⟨tp0, tp1, tp2, tp3, tp4, tp5, rfl, otp, hb1⟩; obtain ⟨tpb, tpA, tpn, tpc, tpD, tpm, tpk, tpyb, tpyA, tpyn, tpyc, tpyD, tpym, tpyk, rfl, rfl, rfl, rfl, rfl, rfl⟩ := otp.cut; have qtp := otp.in_ (hpF) (Nat.le_refl _); (first | (have HS1 := hide (below_then HS0.out hb1)) | (have HS1 := hide (below_then HS0a.out hb1))); have hz1 : w11.heap.size ≤ u1.heap.size := HS1.out.size; clear HX; have hy1 := hb1.size; (first | (have kz := kz_drew hb1) | skip)))
        all_goals
          go_wp2_with fail
          go_meet
          case rel =>
            try simp only [drew_size, alloc_size] at hy1 hy2 hy3
            have HL := HS3.out
            first
              | ((with_reducible refine varpt_set kz HL oz ?_ (Nat.le_refl _) ?_ ?_) <;> ((try simp only [alloc_size]); omega))
              | ((with_reducible refine varpt_last HL oz ?_ (Nat.le_refl _)) <;> ((try simp only [alloc_size]); omega))
      case rest =>
        have hs0 := Ehs0.out
        clear Ehs0
        have hq4 := Ehq4.out
        clear Ehq4
        obtain ⟨gh0, h00, h01, h02, h03, h04, h05, loh0, hih0, rfl, bn, on, hloh0, hhih0, hggh0, hglh0, hb12⟩ := hcut
        obtain ⟨h0b, h0A, h0n, h0c, h0D, h0m, h0k, h0yb, h0yA, h0yn, h0yc, h0yD, h0ym, h0yk, rfl, rfl, rfl, rfl, rfl, rfl⟩ := on.cut
        obtain ⟨w12, hw12⟩ : ∃ xw, xw = wc := ⟨_, rfl⟩
        subst hw12
        clear HKS HS0 HS0a HBp HBa
        clear yp0 yp1 yp2 yp3 yp4 yp5 ya0 ya1
        have hs12 := hb12.size
        have hT12 := below_then hT11 hb12
        have kp := kp.below hb12 kp.lt
        have ka := ka.below hb12 ka.lt
        have kw0 := kw0.below hb12 kw0.lt
        have kxp := kxp.below hb12 kxp.lt
        have kg0 := kg0.below hb12 kg0.lt
        have hp := hp.below (hb12.mono (by omega))
        have ow0 := ow0.below hb12 (by omega)
        have oxp := oxp.below hb12 (by omega)
        have og0 := og0.below hb12 (by omega)
        clear hT11
        clear hb12
        have kh0 := bn
        have lh0 := bn.lt
        have oh0 := on
        clear bn on
        clear HCp HCa
        obtain ⟨yh00, yh01, yh02, yh03, yh04, yh05⟩ := kh0.cells6
        obtain ⟨yw00, yw01, yw02, yw03, yw04, yw05⟩ := kw0.cells6
        go_wp2_with fail
        refine (eqP_any w12 w12.heap.size (Nat.le_refl _) (oh0.in_ (moveP_fit pZ ax ay) (by omega)) (ow0.in_ (moveP_fit pZ ax ay) (by omega))).mono ?_
        rintro e w13 ⟨rfl, hb13⟩
        clear yh00 yh01 yh02 yh03 yh04 yh05 yw00 yw01 yw02 yw03 yw04 yw05
        have hs13 := hb13.size
        have hT13 := below_then hT12 hb13
        have kp := kp.below hb13 kp.lt
        have ka := ka.below hb13 ka.lt
        have kw0 := kw0.below hb13 kw0.lt
        have kxp := kxp.below hb13 kxp.lt
        have kg0 := kg0.below hb13 kg0.lt
        have kh0 := kh0.below hb13 kh0.lt
        have hp := hp.below (hb13.mono (by omega))
        have ow0 := ow0.below hb13 (by omega)
        have oxp := oxp.below hb13 (by omega)
        have og0 := og0.below hb13 (by omega)
        have oh0 := oh0.below hb13 (by omega)
        clear hT12
        clear hb13
        obtain ⟨yg00, yg01, yg02, yg03, yg04, yg05⟩ := kg0.cells6
        have hNK2 : ¬ (K2 : Int) < 0 := by omega
        go_wp2_with fail
        refine (heldP_any w13 (log0) (hig0) 3 1 og0 (by omega) (moveP_fit pZ ax ay) (by omega)).mono ?_
        rintro e w14 ⟨he, hb14⟩
        rw [← HK2.out] at he
        subst he
        clear yg00 yg01 yg02 yg03 yg04 yg05
        have hs14 := hb14.size
        have hT14 := below_then hT13 hb14
        have kp := kp.below hb14 kp.lt
        have ka := ka.below hb14 ka.lt
        have kw0 := kw0.below hb14 kw0.lt
        have kxp := kxp.below hb14 kxp.lt
        have kg0 := kg0.below hb14 kg0.lt
        have kh0 := kh0.below hb14 kh0.lt
        have hp := hp.below (hb14.mono (by omega))
        have ow0 := ow0.below hb14 (by omega)
        have oxp := oxp.below hb14 (by omega)
        have og0 := og0.below hb14 (by omega)
        have oh0 := oh0.below hb14 (by omega)
        clear hT13
        clear hb14
        go_wp2
        go_ret
        exact ⟨rfl, hT14⟩
end Go.Proofs.Ytnbaookdeijhhaa
