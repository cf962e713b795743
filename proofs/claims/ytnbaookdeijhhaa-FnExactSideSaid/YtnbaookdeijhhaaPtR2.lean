/-
  The reference's points: contracts (2): Side, SquareDistance, MovePoint.
-/
import Derived.Test.YtnbaookdeijhhaaPtR
import Derived.Test.YtnbaookdeijhhaaPtV
import Derived.Deep.RegionHeld3
import Derived.Deep.CutRange
import Derived.Sort.AtCall
namespace Go.Proofs.Ytnbaookdeijhhaa
open Go.RowKit
set_option linter.unusedVariables false
set_option maxRecDepth 100000 in
set_option maxHeartbeats 3200000 in
theorem spec_Side (w : World) (B : Nat) (hB : B ≤ w.heap.size) {p0 p1 p2 p3 p4 p5 : Value} {pZ : PQ} (hp : PIn w B p0 p1 p2 p3 p4 p5 pZ) {q0 q1 q2 q3 q4 q5 : Value} {qZ : PQ} (hq : PIn w B q0 q1 q2 q3 q4 q5 qZ) {r0 r1 r2 r3 r4 r5 : Value} {rZ : PQ} (hr : PIn w B r0 r1 r2 r3 r4 r5 rZ) :
    Calls Try.prog 27 #[.agg #[p0, p1, p2, p3, p4, p5], .agg #[q0, q1, q2, q3, q4, q5], .agg #[r0, r1, r2, r3, r4, r5]] w fun e w' => e = .returned (.int .i64 (sideP pZ qZ rZ)) ∧ Below w.heap.size w w' := by
  obtain ⟨W0, hW0⟩ : ∃ W0, W0 = (((w.alloc (.cells #[p0, p1, p2, p3, p4, p5] 41)).alloc (.cells #[q0, q1, q2, q3, q4, q5] 41)).alloc (.cells #[r0, r1, r2, r3, r4, r5] 41)) := ⟨_, rfl⟩
  have hT0 : Below w.heap.size w W0 := by rw [hW0]; exact below_alloc (below_alloc (below_new _ _) _) _
  have kp : Box W0 (w.heap.size) 41 #[p0, p1, p2, p3, p4, p5] := by rw [hW0]; exact ((Box.last _ _ _ rfl).alloc _).alloc _
  have kq : Box W0 (w.heap.size + 1) 41 #[q0, q1, q2, q3, q4, q5] := by rw [hW0]; exact (Box.last _ _ _ (alloc_size _ _).symm).alloc _
  have kr : Box W0 (w.heap.size + 2) 41 #[r0, r1, r2, r3, r4, r5] := by rw [hW0]; exact Box.last _ _ _ (by rw [alloc_size, alloc_size])
  have hs0 : W0.heap.size = w.heap.size + 3 := by rw [hW0, alloc_size, alloc_size, alloc_size]
  have hp := hp.below (hT0.mono hB)
  have hq := hq.below (hT0.mono hB)
  have hr := hr.below (hT0.mono hB)
  go_enter Try.func27, Try.ntmps27
  go_upto_region 1 with fail
  rw [← hW0]
  clear hW0
  have HC1 := hide (fun (W : World) (h : Below W0.heap.size W0 W) => spec_subQ W B (by have := h.size; omega) (hq.1.below (h.mono (by omega))) (hp.1.below (h.mono (by omega))))
  have HC2 := hide (fun (W : World) (h : Below W0.heap.size W0 W) => spec_subQ W B (by have := h.size; omega) (hr.2.below (h.mono (by omega))) (hp.2.below (h.mono (by omega))))
  have Ehs0 := hide hs0
  clear hs0
  have HBp := hide kp
  have HBq := hide kq
  have HBr := hide kr
  have HS0 : Hid (Below W0.heap.size W0 W0.drew) := (Below.refl _ _).drew
  have HS0a : Hid (Below W0.heap.size W0 (W0.alloc (.cells #[.bool false, .slice none 0 0, .slice none 0 0] 39)).drew) := (below_new _ _).drew
  have HKS := hide (fun (W : World) (hq : Below W0.heap.size W0 W) => (⟨(HBp.out.below hq HBp.out.lt).cell 0, (HBp.out.below hq HBp.out.lt).cell 1, (HBp.out.below hq HBp.out.lt).cell 2, (HBp.out.below hq HBp.out.lt).cell 3, (HBp.out.below hq HBp.out.lt).cell 4, (HBp.out.below hq HBp.out.lt).cell 5, (HBq.out.below hq HBq.out.lt).cell 0, (HBq.out.below hq HBq.out.lt).cell 1, (HBq.out.below hq HBq.out.lt).cell 2, (HBq.out.below hq HBq.out.lt).cell 3, (HBq.out.below hq HBq.out.lt).cell 4, (HBq.out.below hq HBq.out.lt).cell 5, (HBr.out.below hq HBr.out.lt).cell 0, (HBr.out.below hq HBr.out.lt).cell 1, (HBr.out.below hq HBr.out.lt).cell 2, (HBr.out.below hq HBr.out.lt).cell 3, (HBr.out.below hq HBr.out.lt).cell 4, (HBr.out.below hq HBr.out.lt).cell 5⟩ : W.cell? ⟨w.heap.size, 0, none⟩ = some (p0) ∧ W.cell? ⟨w.heap.size, 1, none⟩ = some (p1) ∧ W.cell? ⟨w.heap.size, 2, none⟩ = some (p2) ∧ W.cell? ⟨w.heap.size, 3, none⟩ = some (p3) ∧ W.cell? ⟨w.heap.size, 4, none⟩ = some (p4) ∧ W.cell? ⟨w.heap.size, 5, none⟩ = some (p5) ∧ W.cell? ⟨w.heap.size + 1, 0, none⟩ = some (q0) ∧ W.cell? ⟨w.heap.size + 1, 1, none⟩ = some (q1) ∧ W.cell? ⟨w.heap.size + 1, 2, none⟩ = some (q2) ∧ W.cell? ⟨w.heap.size + 1, 3, none⟩ = some (q3) ∧ W.cell? ⟨w.heap.size + 1, 4, none⟩ = some (q4) ∧ W.cell? ⟨w.heap.size + 1, 5, none⟩ = some (q5) ∧ W.cell? ⟨w.heap.size + 2, 0, none⟩ = some (r0) ∧ W.cell? ⟨w.heap.size + 2, 1, none⟩ = some (r1) ∧ W.cell? ⟨w.heap.size + 2, 2, none⟩ = some (r2) ∧ W.cell? ⟨w.heap.size + 2, 3, none⟩ = some (r3) ∧ W.cell? ⟨w.heap.size + 2, 4, none⟩ = some (r4) ∧ W.cell? ⟨w.heap.size + 2, 5, none⟩ = some (r5)))
  obtain ⟨yp0, yp1, yp2, yp3, yp4, yp5⟩ := kp.cells6
  obtain ⟨yq0, yq1, yq2, yq3, yq4, yq5⟩ := kq.cells6
  obtain ⟨yr0, yr1, yr2, yr3, yr4, yr5⟩ := kr.cells6
  go_cut [7] from 9 to 35 (fun sx wx => VarQ W0 wx sx (mulQ (subQ qZ.1 pZ.1) (subQ rZ.2 pZ.2)) 39 3)
  case first =>
    go_region_held3 (fun w' => w'.cell? ⟨w.heap.size, 0, none⟩ = some (p0) ∧ w'.cell? ⟨w.heap.size, 1, none⟩ = some (p1) ∧ w'.cell? ⟨w.heap.size, 2, none⟩ = some (p2) ∧ w'.cell? ⟨w.heap.size, 3, none⟩ = some (p3) ∧ w'.cell? ⟨w.heap.size, 4, none⟩ = some (p4) ∧ w'.cell? ⟨w.heap.size, 5, none⟩ = some (p5) ∧ w'.cell? ⟨w.heap.size + 1, 0, none⟩ = some (q0) ∧ w'.cell? ⟨w.heap.size + 1, 1, none⟩ = some (q1) ∧ w'.cell? ⟨w.heap.size + 1, 2, none⟩ = some (q2) ∧ w'.cell? ⟨w.heap.size + 1, 3, none⟩ = some (q3) ∧ w'.cell? ⟨w.heap.size + 1, 4, none⟩ = some (q4) ∧ w'.cell? ⟨w.heap.size + 1, 5, none⟩ = some (q5) ∧ w'.cell? ⟨w.heap.size + 2, 0, none⟩ = some (r0) ∧ w'.cell? ⟨w.heap.size + 2, 1, none⟩ = some (r1) ∧ w'.cell? ⟨w.heap.size + 2, 2, none⟩ = some (r2) ∧ w'.cell? ⟨w.heap.size + 2, 3, none⟩ = some (r3) ∧ w'.cell? ⟨w.heap.size + 2, 4, none⟩ = some (r4) ∧ w'.cell? ⟨w.heap.size + 2, 5, none⟩ = some (r5))
        (first | (with_reducible exact HKS.out _ (below_set3 HS3.out HS2.out.size _ _ _)) | (with_reducible exact HKS.out _ (below_set3 HS3.out HS1.out.size _ _ _)) | (with_reducible exact HKS.out _ (below_set3 HS3.out (Nat.le_refl _) _ _ _)) | (with_reducible exact HKS.out _ HS3.out) | (with_reducible exact HKS.out _ (below_alloc HS3.out _)) | (with_reducible exact HKS.out _ HS2.out) | (with_reducible exact HKS.out _ (below_alloc HS2.out _)) | (with_reducible exact HKS.out _ HS1.out) | (with_reducible exact HKS.out _ (below_alloc HS1.out _)) | (with_reducible exact HKS.out _ HS0.out) | (with_reducible exact HKS.out _ HS0a.out))
        (first
          | (go_at_call 46; have HX := HS2.out; (first | (with_reducible refine Calls.mono (spec_mulQ _ _ (Nat.le_refl _) qx qy) ?_) | (with_reducible refine Calls.mono (spec_mulQ _ _ (Nat.le_refl _) (qx.up (below_new _ _)) (qy.up (below_new _ _))) ?_)); rintro e u3 ⟨z0, z1, z2, rfl, oz, hb3⟩; obtain ⟨zb, zA, zn, zc, zD, zm, zk, rfl, rfl, rfl⟩ := oz.cut; (first | (have hu3 := (show Below u2.heap.size u2 u3 from hb3)) | (have hu3 := (below_then (below_new u2 _) hb3))); have hz3 : u2.heap.size ≤ u3.heap.size := hu3.size; have qx := qx.up hu3; have qy := qy.up hu3; have HS3 := hide (below_then HX hu3); clear HX; have hy3 := hb3.size; (first | (have kz := kz_new hb3) | (have kz := kz.below hu3 kz.lt) | skip); (first | (obtain ⟨t0, t1, t2, f0, f1, f2⟩ := kz.facts3) | skip))
          | (go_at_call 47; have HX := HS1.out; (first | (with_reducible refine Calls.mono (HC2.out _ HX) ?_) | (with_reducible refine Calls.mono (HC2.out _ (below_alloc HX _)) ?_)); rintro e u2 ⟨y0, y1, y2, rfl, oy, hb2⟩; obtain ⟨yb, yA, yn, yc, yD, ym, yk, rfl, rfl, rfl⟩ := oy.cut; have qy := oy.in_ (subQ_fit _ _) (Nat.le_refl _); (first | (have hu2 := (show Below u1.heap.size u1 u2 from hb2)) | (have hu2 := (below_then (below_new u1 _) hb2))); have hz2 : u1.heap.size ≤ u2.heap.size := hu2.size; have qx := qx.up hu2; have HS2 := hide (below_then HX hu2); clear HX; have hy2 := hb2.size; (first | (have kz := kz_new hb2) | (have kz := kz.below hu2 kz.lt) | skip))
          | (go_at_call 47; have HX := HS0.out; (first | (with_reducible refine Calls.mono (HC1.out _ HS0.out) ?_) | (with_reducible refine Calls.mono (HC1.out _ HS0a.out) ?_)); rintro e u1 ⟨x0, x1, x2, rfl, ox, hb1⟩; obtain ⟨xb, xA, xn, xc, xD, xm, xk, rfl, rfl, rfl⟩ := ox.cut; have qx := ox.in_ (subQ_fit _ _) (Nat.le_refl _); (first | (have HS1 := hide (below_then HS0.out hb1)) | (have HS1 := hide (below_then HS0a.out hb1))); have hz1 : W0.heap.size ≤ u1.heap.size := HS1.out.size; clear HX; have hy1 := hb1.size; (first | (have kz := kz_drew hb1) | skip)))
    all_goals
      go_wp2_with fail
      go_meet
      case rel =>
        try simp only [drew_size, alloc_size] at hy1 hy2 hy3
        have HL := HS3.out
        first
          | ((with_reducible refine varq_set kz HL oz ?_ (Nat.le_refl _) ?_ ?_) <;> ((try simp only [alloc_size]); omega))
          | ((with_reducible refine varq_last HL oz ?_ (Nat.le_refl _)) <;> ((try simp only [alloc_size]); omega))
  case rest =>
    have hs0 := Ehs0.out
    clear Ehs0
    obtain ⟨ga, a0, a1, a2, loa, hia, rfl, bn, on, hloa, hhia, hgga, hgla, hb1⟩ := hcut
    obtain ⟨ab, aA, an, ac, aD, am, ak, rfl, rfl, rfl⟩ := on.cut
    obtain ⟨w1, hw1⟩ : ∃ xw, xw = wc := ⟨_, rfl⟩
    subst hw1
    clear HKS HS0 HS0a HBp HBq HBr
    clear yp0 yp1 yp2 yp3 yp4 yp5 yq0 yq1 yq2 yq3 yq4 yq5 yr0 yr1 yr2 yr3 yr4 yr5
    have hs1 := hb1.size
    have hT1 := below_then hT0 hb1
    have kp := kp.below hb1 kp.lt
    have kq := kq.below hb1 kq.lt
    have kr := kr.below hb1 kr.lt
    have hp := hp.below (hb1.mono (by omega))
    have hq := hq.below (hb1.mono (by omega))
    have hr := hr.below (hb1.mono (by omega))
    clear hT0
    clear hb1
    have ka := bn
    have la := bn.lt
    have oa := on
    clear bn on
    clear HC1 HC2
    go_upto_region 2 with fail
    have HC1 := hide (fun (W : World) (h : Below w1.heap.size w1 W) => spec_subQ W B (by have := h.size; omega) (hq.2.below (h.mono (by omega))) (hp.2.below (h.mono (by omega))))
    have HC2 := hide (fun (W : World) (h : Below w1.heap.size w1 W) => spec_subQ W B (by have := h.size; omega) (hr.1.below (h.mono (by omega))) (hp.1.below (h.mono (by omega))))
    have Ehs0 := hide hs0
    clear hs0
    have HBp := hide kp
    have HBq := hide kq
    have HBr := hide kr
    have HS0 : Hid (Below w1.heap.size w1 w1.drew) := (Below.refl _ _).drew
    have HS0a : Hid (Below w1.heap.size w1 (w1.alloc (.cells #[.bool false, .slice none 0 0, .slice none 0 0] 39)).drew) := (below_new _ _).drew
    have HKS := hide (fun (W : World) (hq : Below w1.heap.size w1 W) => (⟨(HBp.out.below hq HBp.out.lt).cell 0, (HBp.out.below hq HBp.out.lt).cell 1, (HBp.out.below hq HBp.out.lt).cell 2, (HBp.out.below hq HBp.out.lt).cell 3, (HBp.out.below hq HBp.out.lt).cell 4, (HBp.out.below hq HBp.out.lt).cell 5, (HBq.out.below hq HBq.out.lt).cell 0, (HBq.out.below hq HBq.out.lt).cell 1, (HBq.out.below hq HBq.out.lt).cell 2, (HBq.out.below hq HBq.out.lt).cell 3, (HBq.out.below hq HBq.out.lt).cell 4, (HBq.out.below hq HBq.out.lt).cell 5, (HBr.out.below hq HBr.out.lt).cell 0, (HBr.out.below hq HBr.out.lt).cell 1, (HBr.out.below hq HBr.out.lt).cell 2, (HBr.out.below hq HBr.out.lt).cell 3, (HBr.out.below hq HBr.out.lt).cell 4, (HBr.out.below hq HBr.out.lt).cell 5⟩ : W.cell? ⟨w.heap.size, 0, none⟩ = some (p0) ∧ W.cell? ⟨w.heap.size, 1, none⟩ = some (p1) ∧ W.cell? ⟨w.heap.size, 2, none⟩ = some (p2) ∧ W.cell? ⟨w.heap.size, 3, none⟩ = some (p3) ∧ W.cell? ⟨w.heap.size, 4, none⟩ = some (p4) ∧ W.cell? ⟨w.heap.size, 5, none⟩ = some (p5) ∧ W.cell? ⟨w.heap.size + 1, 0, none⟩ = some (q0) ∧ W.cell? ⟨w.heap.size + 1, 1, none⟩ = some (q1) ∧ W.cell? ⟨w.heap.size + 1, 2, none⟩ = some (q2) ∧ W.cell? ⟨w.heap.size + 1, 3, none⟩ = some (q3) ∧ W.cell? ⟨w.heap.size + 1, 4, none⟩ = some (q4) ∧ W.cell? ⟨w.heap.size + 1, 5, none⟩ = some (q5) ∧ W.cell? ⟨w.heap.size + 2, 0, none⟩ = some (r0) ∧ W.cell? ⟨w.heap.size + 2, 1, none⟩ = some (r1) ∧ W.cell? ⟨w.heap.size + 2, 2, none⟩ = some (r2) ∧ W.cell? ⟨w.heap.size + 2, 3, none⟩ = some (r3) ∧ W.cell? ⟨w.heap.size + 2, 4, none⟩ = some (r4) ∧ W.cell? ⟨w.heap.size + 2, 5, none⟩ = some (r5)))
    obtain ⟨yp0, yp1, yp2, yp3, yp4, yp5⟩ := kp.cells6
    obtain ⟨yq0, yq1, yq2, yq3, yq4, yq5⟩ := kq.cells6
    obtain ⟨yr0, yr1, yr2, yr3, yr4, yr5⟩ := kr.cells6
    go_cut [8] from 20 to 35 (fun sx wx => VarQ w1 wx sx (mulQ (subQ qZ.2 pZ.2) (subQ rZ.1 pZ.1)) 39 3)
    case first =>
      go_region_held3 (fun w' => w'.cell? ⟨w.heap.size, 0, none⟩ = some (p0) ∧ w'.cell? ⟨w.heap.size, 1, none⟩ = some (p1) ∧ w'.cell? ⟨w.heap.size, 2, none⟩ = some (p2) ∧ w'.cell? ⟨w.heap.size, 3, none⟩ = some (p3) ∧ w'.cell? ⟨w.heap.size, 4, none⟩ = some (p4) ∧ w'.cell? ⟨w.heap.size, 5, none⟩ = some (p5) ∧ w'.cell? ⟨w.heap.size + 1, 0, none⟩ = some (q0) ∧ w'.cell? ⟨w.heap.size + 1, 1, none⟩ = some (q1) ∧ w'.cell? ⟨w.heap.size + 1, 2, none⟩ = some (q2) ∧ w'.cell? ⟨w.heap.size + 1, 3, none⟩ = some (q3) ∧ w'.cell? ⟨w.heap.size + 1, 4, none⟩ = some (q4) ∧ w'.cell? ⟨w.heap.size + 1, 5, none⟩ = some (q5) ∧ w'.cell? ⟨w.heap.size + 2, 0, none⟩ = some (r0) ∧ w'.cell? ⟨w.heap.size + 2, 1, none⟩ = some (r1) ∧ w'.cell? ⟨w.heap.size + 2, 2, none⟩ = some (r2) ∧ w'.cell? ⟨w.heap.size + 2, 3, none⟩ = some (r3) ∧ w'.cell? ⟨w.heap.size + 2, 4, none⟩ = some (r4) ∧ w'.cell? ⟨w.heap.size + 2, 5, none⟩ = some (r5))
          (first | (with_reducible exact HKS.out _ (below_set3 HS3.out HS2.out.size _ _ _)) | (with_reducible exact HKS.out _ (below_set3 HS3.out HS1.out.size _ _ _)) | (with_reducible exact HKS.out _ (below_set3 HS3.out (Nat.le_refl _) _ _ _)) | (with_reducible exact HKS.out _ HS3.out) | (with_reducible exact HKS.out _ (below_alloc HS3.out _)) | (with_reducible exact HKS.out _ HS2.out) | (with_reducible exact HKS.out _ (below_alloc HS2.out _)) | (with_reducible exact HKS.out _ HS1.out) | (with_reducible exact HKS.out _ (below_alloc HS1.out _)) | (with_reducible exact HKS.out _ HS0.out) | (with_reducible exact HKS.out _ HS0a.out))
          (first
            | (go_at_call 46; have HX := HS2.out; (first | (with_reducible refine Calls.mono (spec_mulQ _ _ (Nat.le_refl _) qx qy) ?_) | (with_reducible refine Calls.mono (spec_mulQ _ _ (Nat.le_refl _) (qx.up (below_new _ _)) (qy.up (below_new _ _))) ?_)); rintro e u3 ⟨z0, z1, z2, rfl, oz, hb3⟩; obtain ⟨zb, zA, zn, zc, zD, zm, zk, rfl, rfl, rfl⟩ := oz.cut; (first | (have hu3 := (show Below u2.heap.size u2 u3 from hb3)) | (have hu3 := (below_then (below_new u2 _) hb3))); have hz3 : u2.heap.size ≤ u3.heap.size := hu3.size; have qx := qx.up hu3; have qy := qy.up hu3; have HS3 := hide (below_then HX hu3); clear HX; have hy3 := hb3.size; (first | (have kz := kz_new hb3) | (have kz := kz.below hu3 kz.lt) | skip); (first | (obtain ⟨t0, t1, t2, f0, f1, f2⟩ := kz.facts3) | skip))
            | (go_at_call 47; have HX := HS1.out; (first | (with_reducible refine Calls.mono (HC2.out _ HX) ?_) | (with_reducible refine Calls.mono (HC2.out _ (below_alloc HX _)) ?_)); rintro e u2 ⟨y0, y1, y2, rfl, oy, hb2⟩; obtain ⟨yb, yA, yn, yc, yD, ym, yk, rfl, rfl, rfl⟩ := oy.cut; have qy := oy.in_ (subQ_fit _ _) (Nat.le_refl _); (first | (have hu2 := (show Below u1.heap.size u1 u2 from hb2)) | (have hu2 := (below_then (below_new u1 _) hb2))); have hz2 : u1.heap.size ≤ u2.heap.size := hu2.size; have qx := qx.up hu2; have HS2 := hide (below_then HX hu2); clear HX; have hy2 := hb2.size; (first | (have kz := kz_new hb2) | (have kz := kz.below hu2 kz.lt) | skip))
            | (go_at_call 47; have HX := HS0.out; (first | (with_reducible refine Calls.mono (HC1.out _ HS0.out) ?_) | (with_reducible refine Calls.mono (HC1.out _ HS0a.out) ?_)); rintro e u1 ⟨x0, x1, x2, rfl, ox, hb1⟩; obtain ⟨xb, xA, xn, xc, xD, xm, xk, rfl, rfl, rfl⟩ := ox.cut; have qx := ox.in_ (subQ_fit _ _) (Nat.le_refl _); (first | (have HS1 := hide (below_then HS0.out hb1)) | (have HS1 := hide (below_then HS0a.out hb1))); have hz1 : w1.heap.size ≤ u1.heap.size := HS1.out.size; clear HX; have hy1 := hb1.size; (first | (have kz := kz_drew hb1) | skip)))
      all_goals
        go_wp2_with fail
        go_meet
        case rel =>
          try simp only [drew_size, alloc_size] at hy1 hy2 hy3
          have HL := HS3.out
          first
            | ((with_reducible refine varq_set kz HL oz ?_ (Nat.le_refl _) ?_ ?_) <;> ((try simp only [alloc_size]); omega))
            | ((with_reducible refine varq_last HL oz ?_ (Nat.le_refl _)) <;> ((try simp only [alloc_size]); omega))
    case rest =>
      have hs0 := Ehs0.out
      clear Ehs0
      obtain ⟨gb, b0, b1, b2, lob, hib, rfl, bn, on, hlob, hhib, hggb, hglb, hb2⟩ := hcut
      obtain ⟨bb, bA, bn, bc, bD, bm, bk, rfl, rfl, rfl⟩ := on.cut
      obtain ⟨w2, hw2⟩ : ∃ xw, xw = wc := ⟨_, rfl⟩
      subst hw2
      clear HKS HS0 HS0a HBp HBq HBr
      clear yp0 yp1 yp2 yp3 yp4 yp5 yq0 yq1 yq2 yq3 yq4 yq5 yr0 yr1 yr2 yr3 yr4 yr5
      have hs2 := hb2.size
      have hT2 := below_then hT1 hb2
      have kp := kp.below hb2 kp.lt
      have kq := kq.below hb2 kq.lt
      have kr := kr.below hb2 kr.lt
      have ka := ka.below hb2 ka.lt
      have hp := hp.below (hb2.mono (by omega))
      have hq := hq.below (hb2.mono (by omega))
      have hr := hr.below (hb2.mono (by omega))
      have oa := oa.below hb2 (by omega)
      clear hT1
      clear hb2
      have kb := bn
      have lb := bn.lt
      have ob := on
      clear bn on
      clear HC1 HC2
      clear hp hq hr kp kq kr
      obtain ⟨ya0, ya1, ya2⟩ := ka.cells3
      obtain ⟨yb0, yb1, yb2⟩ := kb.cells3
      have ha : QIn w2 w2.heap.size (.bool ab) (.slice aA an ac) (.slice aD am ak) _ := oa.in_ (mulQ_fit _ _) (by omega)
      have hbq : QIn w2 w2.heap.size (.bool bb) (.slice bA bn bc) (.slice bD bm bk) _ := ob.in_ (mulQ_fit _ _) (by omega)
      clear oa ob
      go_wp2_with fail
      refine (spec_subQ w2 w2.heap.size (Nat.le_refl _) ha hbq).mono ?_
      rintro e u1 ⟨x0, x1, x2, rfl, ox, hb1⟩
      obtain ⟨xb, xA, xn, xc, xD, xm, xk, rfl, rfl, rfl⟩ := ox.cut
      have qx := ox.in_ (subQ_fit _ _) (Nat.le_refl _)
      clear ya0 ya1 ya2 yb0 yb1 yb2
      go_wp2_with fail
      refine (spec_signQ u1 u1.heap.size (Nat.le_refl _) qx).mono ?_
      rintro e u2 ⟨rfl, hb2⟩
      go_wp2_with fail
      go_ret
      exact ⟨rfl, below_then (below_then hT2 hb1) hb2⟩
set_option maxRecDepth 100000 in
set_option maxHeartbeats 3200000 in
theorem spec_SquareDistance (w : World) (B : Nat) (hB : B ≤ w.heap.size) {p0 p1 p2 p3 p4 p5 : Value} {pZ : PQ} (hp : PIn w B p0 p1 p2 p3 p4 p5 pZ) {q0 q1 q2 q3 q4 q5 : Value} {qZ : PQ} (hq : PIn w B q0 q1 q2 q3 q4 q5 qZ) :
    Calls Try.prog 31 #[.agg #[p0, p1, p2, p3, p4, p5], .agg #[q0, q1, q2, q3, q4, q5]] w fun e w' => QRes 3 w w' e (distP pZ qZ) := by
  obtain ⟨W0, hW0⟩ : ∃ W0, W0 = (((w.alloc (.cells #[p0, p1, p2, p3, p4, p5] 41)).alloc (.cells #[q0, q1, q2, q3, q4, q5] 41)).alloc (.cells #[.bool false, .slice none 0 0, .slice none 0 0] 39)) := ⟨_, rfl⟩
  have hT0 : Below w.heap.size w W0 := by rw [hW0]; exact below_alloc (below_alloc (below_new _ _) _) _
  have kp : Box W0 (w.heap.size) 41 #[p0, p1, p2, p3, p4, p5] := by rw [hW0]; exact ((Box.last _ _ _ rfl).alloc _).alloc _
  have kq : Box W0 (w.heap.size + 1) 41 #[q0, q1, q2, q3, q4, q5] := by rw [hW0]; exact (Box.last _ _ _ (alloc_size _ _).symm).alloc _
  have kr : Box W0 (w.heap.size + 2) 39 #[.bool false, .slice none 0 0, .slice none 0 0] := by rw [hW0]; exact Box.last _ _ _ (by rw [alloc_size, alloc_size])
  have hs0 : W0.heap.size = w.heap.size + 3 := by rw [hW0, alloc_size, alloc_size, alloc_size]
  have hp := hp.below (hT0.mono hB)
  have hq := hq.below (hT0.mono hB)
  go_enter Try.func31, Try.ntmps31
  go_upto_region 1 with fail
  rw [← hW0]
  clear hW0
  obtain ⟨yp0, yp1, yp2, yp3, yp4, yp5⟩ := kp.cells6
  obtain ⟨yq0, yq1, yq2, yq3, yq4, yq5⟩ := kq.cells6
  go_wp2_with fail
  refine (spec_subQ W0 B (by omega) hq.1 hp.1).mono ?_
  rintro e w1 ⟨fx0, fx1, fx2, rfl, ofx, hb1⟩
  clear yp0 yp1 yp2 yp3 yp4 yp5 yq0 yq1 yq2 yq3 yq4 yq5
  obtain ⟨fxb, fxA, fxn, fxc, fxD, fxm, fxk, rfl, rfl, rfl⟩ := ofx.cut
  have hs1 := hb1.size
  have hT1 := below_then hT0 hb1
  have kp := kp.below hb1 kp.lt
  have kq := kq.below hb1 kq.lt
  have kr := kr.below hb1 kr.lt
  have hp := hp.below (hb1.mono (by omega))
  have hq := hq.below (hb1.mono (by omega))
  clear hT0
  clear hb1
  obtain ⟨w2, hw2⟩ : ∃ xw, xw = (w1.alloc (.cells #[.bool fxb, .slice fxA fxn fxc, .slice fxD fxm fxk] 39)) := ⟨_, rfl⟩
  have hb2 : Below w1.heap.size w1 w2 := by rw [hw2]; exact below_new _ _
  have hq2 : w2.heap.size = w1.heap.size + 1 := by rw [hw2, alloc_size]
  have kfx : Box w2 (w1.heap.size) 39 #[.bool fxb, .slice fxA fxn fxc, .slice fxD fxm fxk] := by rw [hw2]; exact Box.last _ _ _ (by omega)
  have hs2 := hb2.size
  have hT2 := below_then hT1 hb2
  have kp := kp.below hb2 kp.lt
  have kq := kq.below hb2 kq.lt
  have kr := kr.below hb2 kr.lt
  have hp := hp.below (hb2.mono (by omega))
  have hq := hq.below (hb2.mono (by omega))
  have ofx := ofx.below hb2 (by omega)
  clear hT1
  go_upto_region 2 with fail
  rw [← hw2]
  clear hw2 hb2
  obtain ⟨yp0, yp1, yp2, yp3, yp4, yp5⟩ := kp.cells6
  obtain ⟨yq0, yq1, yq2, yq3, yq4, yq5⟩ := kq.cells6
  go_wp2_with fail
  refine (spec_subQ w2 B (by omega) hq.2 hp.2).mono ?_
  rintro e w3 ⟨fy0, fy1, fy2, rfl, ofy, hb3⟩
  clear yp0 yp1 yp2 yp3 yp4 yp5 yq0 yq1 yq2 yq3 yq4 yq5
  obtain ⟨fyb, fyA, fyn, fyc, fyD, fym, fyk, rfl, rfl, rfl⟩ := ofy.cut
  have hs3 := hb3.size
  have hT3 := below_then hT2 hb3
  have kp := kp.below hb3 kp.lt
  have kq := kq.below hb3 kq.lt
  have kr := kr.below hb3 kr.lt
  have kfx := kfx.below hb3 kfx.lt
  have hp := hp.below (hb3.mono (by omega))
  have hq := hq.below (hb3.mono (by omega))
  have ofx := ofx.below hb3 (by omega)
  clear hT2
  clear hb3
  obtain ⟨w4, hw4⟩ : ∃ xw, xw = (w3.alloc (.cells #[.bool fyb, .slice fyA fyn fyc, .slice fyD fym fyk] 39)) := ⟨_, rfl⟩
  have hb4 : Below w3.heap.size w3 w4 := by rw [hw4]; exact below_new _ _
  have hq4 : w4.heap.size = w3.heap.size + 1 := by rw [hw4, alloc_size]
  have kfy : Box w4 (w3.heap.size) 39 #[.bool fyb, .slice fyA fyn fyc, .slice fyD fym fyk] := by rw [hw4]; exact Box.last _ _ _ (by omega)
  have hs4 := hb4.size
  have hT4 := below_then hT3 hb4
  have kp := kp.below hb4 kp.lt
  have kq := kq.below hb4 kq.lt
  have kr := kr.below hb4 kr.lt
  have kfx := kfx.below hb4 kfx.lt
  have hp := hp.below (hb4.mono (by omega))
  have hq := hq.below (hb4.mono (by omega))
  have ofx := ofx.below hb4 (by omega)
  have ofy := ofy.below hb4 (by omega)
  clear hT3
  go_upto_region 3 with fail
  rw [← hw4]
  clear hw4 hb4
  have hfx : QIn w4 w4.heap.size (.bool fxb) (.slice fxA fxn fxc) (.slice fxD fxm fxk) _ := ofx.in_ (subQ_fit _ _) (by omega)
  have hfy : QIn w4 w4.heap.size (.bool fyb) (.slice fyA fyn fyc) (.slice fyD fym fyk) _ := ofy.in_ (subQ_fit _ _) (by omega)
  have HC1 := hide (fun (W : World) (h : Below w4.heap.size w4 W) => spec_mulQ W w4.heap.size h.size (hfx.below h) (hfx.below h))
  have HC2 := hide (fun (W : World) (h : Below w4.heap.size w4 W) => spec_mulQ W w4.heap.size h.size (hfy.below h) (hfy.below h))
  clear hp hq kp kq hfx ofx hfy ofy
  have HBfx := hide kfx
  have HBfy := hide kfy
  have HS0 : Hid (Below w4.heap.size w4 w4.drew) := (Below.refl _ _).drew
  have HKS := hide (fun (W : World) (hq : Below w4.heap.size w4 W) => (⟨(HBfx.out.below hq HBfx.out.lt).cell 0, (HBfx.out.below hq HBfx.out.lt).cell 1, (HBfx.out.below hq HBfx.out.lt).cell 2, (HBfy.out.below hq HBfy.out.lt).cell 0, (HBfy.out.below hq HBfy.out.lt).cell 1, (HBfy.out.below hq HBfy.out.lt).cell 2⟩ : W.cell? ⟨w1.heap.size, 0, none⟩ = some (.bool fxb) ∧ W.cell? ⟨w1.heap.size, 1, none⟩ = some (.slice fxA fxn fxc) ∧ W.cell? ⟨w1.heap.size, 2, none⟩ = some (.slice fxD fxm fxk) ∧ W.cell? ⟨w3.heap.size, 0, none⟩ = some (.bool fyb) ∧ W.cell? ⟨w3.heap.size, 1, none⟩ = some (.slice fyA fyn fyc) ∧ W.cell? ⟨w3.heap.size, 2, none⟩ = some (.slice fyD fym fyk)))
  have HRr := hide kr
  have HKT0 := hide (fun (W : World) (hq : Below w4.heap.size w4 W) (x0 x1 x2 : Value) => (⟨((((HBfx.out.below hq HBfx.out.lt).setv (show w1.heap.size ≠ w.heap.size + 2 by omega) 0 x0).setv (show w1.heap.size ≠ w.heap.size + 2 by omega) 1 x1).setv (show w1.heap.size ≠ w.heap.size + 2 by omega) 2 x2).cell 0, ((((HBfx.out.below hq HBfx.out.lt).setv (show w1.heap.size ≠ w.heap.size + 2 by omega) 0 x0).setv (show w1.heap.size ≠ w.heap.size + 2 by omega) 1 x1).setv (show w1.heap.size ≠ w.heap.size + 2 by omega) 2 x2).cell 1, ((((HBfx.out.below hq HBfx.out.lt).setv (show w1.heap.size ≠ w.heap.size + 2 by omega) 0 x0).setv (show w1.heap.size ≠ w.heap.size + 2 by omega) 1 x1).setv (show w1.heap.size ≠ w.heap.size + 2 by omega) 2 x2).cell 2, ((((HBfy.out.below hq HBfy.out.lt).setv (show w3.heap.size ≠ w.heap.size + 2 by omega) 0 x0).setv (show w3.heap.size ≠ w.heap.size + 2 by omega) 1 x1).setv (show w3.heap.size ≠ w.heap.size + 2 by omega) 2 x2).cell 0, ((((HBfy.out.below hq HBfy.out.lt).setv (show w3.heap.size ≠ w.heap.size + 2 by omega) 0 x0).setv (show w3.heap.size ≠ w.heap.size + 2 by omega) 1 x1).setv (show w3.heap.size ≠ w.heap.size + 2 by omega) 2 x2).cell 1, ((((HBfy.out.below hq HBfy.out.lt).setv (show w3.heap.size ≠ w.heap.size + 2 by omega) 0 x0).setv (show w3.heap.size ≠ w.heap.size + 2 by omega) 1 x1).setv (show w3.heap.size ≠ w.heap.size + 2 by omega) 2 x2).cell 2⟩ : (((W.setCell ⟨w.heap.size + 2, 0, none⟩ x0).setCell ⟨w.heap.size + 2, 1, none⟩ x1).setCell ⟨w.heap.size + 2, 2, none⟩ x2).cell? ⟨w1.heap.size, 0, none⟩ = some (.bool fxb) ∧ (((W.setCell ⟨w.heap.size + 2, 0, none⟩ x0).setCell ⟨w.heap.size + 2, 1, none⟩ x1).setCell ⟨w.heap.size + 2, 2, none⟩ x2).cell? ⟨w1.heap.size, 1, none⟩ = some (.slice fxA fxn fxc) ∧ (((W.setCell ⟨w.heap.size + 2, 0, none⟩ x0).setCell ⟨w.heap.size + 2, 1, none⟩ x1).setCell ⟨w.heap.size + 2, 2, none⟩ x2).cell? ⟨w1.heap.size, 2, none⟩ = some (.slice fxD fxm fxk) ∧ (((W.setCell ⟨w.heap.size + 2, 0, none⟩ x0).setCell ⟨w.heap.size + 2, 1, none⟩ x1).setCell ⟨w.heap.size + 2, 2, none⟩ x2).cell? ⟨w3.heap.size, 0, none⟩ = some (.bool fyb) ∧ (((W.setCell ⟨w.heap.size + 2, 0, none⟩ x0).setCell ⟨w.heap.size + 2, 1, none⟩ x1).setCell ⟨w.heap.size + 2, 2, none⟩ x2).cell? ⟨w3.heap.size, 1, none⟩ = some (.slice fyA fyn fyc) ∧ (((W.setCell ⟨w.heap.size + 2, 0, none⟩ x0).setCell ⟨w.heap.size + 2, 1, none⟩ x1).setCell ⟨w.heap.size + 2, 2, none⟩ x2).cell? ⟨w3.heap.size, 2, none⟩ = some (.slice fyD fym fyk)))
  obtain ⟨yfx0, yfx1, yfx2⟩ := kfx.cells3
  obtain ⟨yfy0, yfy1, yfy2⟩ := kfy.cells3
  go_region_held3 (fun w' => w'.cell? ⟨w1.heap.size, 0, none⟩ = some (.bool fxb) ∧ w'.cell? ⟨w1.heap.size, 1, none⟩ = some (.slice fxA fxn fxc) ∧ w'.cell? ⟨w1.heap.size, 2, none⟩ = some (.slice fxD fxm fxk) ∧ w'.cell? ⟨w3.heap.size, 0, none⟩ = some (.bool fyb) ∧ w'.cell? ⟨w3.heap.size, 1, none⟩ = some (.slice fyA fyn fyc) ∧ w'.cell? ⟨w3.heap.size, 2, none⟩ = some (.slice fyD fym fyk))
      (first | (with_reducible exact HKT0.out _ HS3.out _ _ _) | (with_reducible exact HKS.out _ HS3.out) | (with_reducible exact HKS.out _ HS2.out) | (with_reducible exact HKS.out _ HS1.out) | (with_reducible exact HKS.out _ HS0.out))
      (first
        | (go_at_call 54; have HX := HS2.out; refine (spec_addQ u2 u2.heap.size (Nat.le_refl _) qx qy).mono ?_; rintro e u3 ⟨z0, z1, z2, rfl, oz, hb3⟩; obtain ⟨zb, zA, zn, zc, zD, zm, zk, rfl, rfl, rfl⟩ := oz.cut; have oz : QOwn u3 u2.heap.size u3.heap.size 3 (.bool zb) (.slice zA zn zc) (.slice zD zm zk) (addQ (mulQ (subQ qZ.1 pZ.1) (subQ qZ.1 pZ.1)) (mulQ (subQ qZ.2 pZ.2) (subQ qZ.2 pZ.2))) := oz; have qz := oz.in_ (addQ_fit _ _) (Nat.le_refl _); have qx := qx.up hb3; have ox := ox.below hb3 (by omega); have qy := qy.up hb3; have oy := oy.below hb3 (by omega); have hz3 : u2.heap.size ≤ u3.heap.size := hb3.size; have HS3 := hide (below_then HX hb3); clear HX; have hTT := below_then hT4 HS3.out; have kR := HRr.out.below HS3.out HRr.out.lt; obtain ⟨tr0, tr1, tr2, fr0, fr1, fr2⟩ := kR.facts3)
        | (go_at_call 46; have HX := HS1.out; refine (HC2.out _ HS1.out).mono ?_; rintro e u2 ⟨y0, y1, y2, rfl, oy, hb2⟩; obtain ⟨yb, yA, yn, yc, yD, ym, yk, rfl, rfl, rfl⟩ := oy.cut; have oy : QOwn u2 u1.heap.size u2.heap.size 3 (.bool yb) (.slice yA yn yc) (.slice yD ym yk) (mulQ (subQ qZ.2 pZ.2) (subQ qZ.2 pZ.2)) := oy; have qy := oy.in_ (mulQ_fit _ _) (Nat.le_refl _); have qx := qx.up hb2; have ox := ox.below hb2 (by omega); have hz2 : u1.heap.size ≤ u2.heap.size := hb2.size; have HS2 := hide (below_then HX hb2); clear HX)
        | (go_at_call 46; have HX := HS0.out; refine (HC1.out _ HS0.out).mono ?_; rintro e u1 ⟨x0, x1, x2, rfl, ox, hb1⟩; obtain ⟨xb, xA, xn, xc, xD, xm, xk, rfl, rfl, rfl⟩ := ox.cut; have ox : QOwn u1 w4.heap.size u1.heap.size 3 (.bool xb) (.slice xA xn xc) (.slice xD xm xk) (mulQ (subQ qZ.1 pZ.1) (subQ qZ.1 pZ.1)) := ox; have qx := ox.in_ (mulQ_fit _ _) (Nat.le_refl _); have hz1 : w4.heap.size ≤ u1.heap.size := hb1.size; have HS1 := hide (below_then HX hb1); clear HX))
  have HO := hide (ret_q kR oz hTT (by omega) (by omega) (Nat.le_refl _) (.inl (by omega)))
  clear kR ox oy oz qx qy qz hTT hb1 hb2 hb3
  go_wp2_with fail
  refine bodyPost_ret (results_cell_row rfl _ _ (w.heap.size + 2) _ #[.bool zb, .slice zA zn zc, .slice zD zm zk] (0, 0) _ rfl HO.out.1 Try.underlying39 rfl Try.sizeRat) rfl ?_
  exact ⟨_, _, _, rfl, HO.out.2.1, HO.out.2.2⟩
set_option maxRecDepth 100000 in
set_option maxHeartbeats 3200000 in
theorem spec_MovePoint (w : World) (B : Nat) (hB : B ≤ w.heap.size) {p0 p1 p2 p3 p4 p5 : Value} {pZ : PQ} (hp : PIn w B p0 p1 p2 p3 p4 p5 pZ) (mx my : Int) (hmx : (Lit.int .i64 mx).wf = true) (hmy : (Lit.int .i64 my).wf = true) :
    Calls Try.prog 29 #[.agg #[p0, p1, p2, p3, p4, p5], .agg #[.int .i64 mx, .int .i64 my]] w fun e w' => PRes 3 w w' e (moveP pZ mx my) := by
  rw [show moveP pZ mx my = sureP (addQ pZ.1 (intQ mx), addQ pZ.2 (intQ my)) from rfl]
  obtain ⟨W0, hW0⟩ : ∃ W0, W0 = (((w.alloc (.cells #[p0, p1, p2, p3, p4, p5] 41)).alloc (.cells #[.int .i64 mx, .int .i64 my] 25)).alloc (.cells #[.bool false, .slice none 0 0, .slice none 0 0, .bool false, .slice none 0 0, .slice none 0 0] 41)) := ⟨_, rfl⟩
  have hT0 : Below w.heap.size w W0 := by rw [hW0]; exact below_alloc (below_alloc (below_new _ _) _) _
  have kp : Box W0 (w.heap.size) 41 #[p0, p1, p2, p3, p4, p5] := by rw [hW0]; exact ((Box.last _ _ _ rfl).alloc _).alloc _
  have km : Box W0 (w.heap.size + 1) 25 #[.int .i64 mx, .int .i64 my] := by rw [hW0]; exact (Box.last _ _ _ (alloc_size _ _).symm).alloc _
  have kr : Box W0 (w.heap.size + 2) 41 #[.bool false, .slice none 0 0, .slice none 0 0, .bool false, .slice none 0 0, .slice none 0 0] := by rw [hW0]; exact Box.last _ _ _ (by rw [alloc_size, alloc_size])
  have hs0 : W0.heap.size = w.heap.size + 3 := by rw [hW0, alloc_size, alloc_size, alloc_size]
  have hp := hp.below (hT0.mono hB)
  go_enter Try.func29, Try.ntmps29
  go_upto_region 1 with fail
  rw [← hW0]
  clear hW0
  have HC1 := hide (fun (W : World) => spec_intQ W mx hmx)
  have HC3 := hide (fun (W : World) => spec_intQ W my hmy)
  have HC2 := hide (fun (W : World) (h : Below W0.heap.size W0 W) => (hp.1.wider (show B ≤ W0.heap.size by omega)).below h)
  have HC4 := hide (fun (W : World) (h : Below W0.heap.size W0 W) => (hp.2.wider (show B ≤ W0.heap.size by omega)).below h)
  clear hp
  have HBp := hide kp
  have HBm := hide km
  have HS0 : Hid (Below W0.heap.size W0 W0.drew) := (Below.refl _ _).drew
  have HKS := hide (fun (W : World) (hq : Below W0.heap.size W0 W) => (⟨(HBp.out.below hq HBp.out.lt).cell 0, (HBp.out.below hq HBp.out.lt).cell 1, (HBp.out.below hq HBp.out.lt).cell 2, (HBp.out.below hq HBp.out.lt).cell 3, (HBp.out.below hq HBp.out.lt).cell 4, (HBp.out.below hq HBp.out.lt).cell 5, (HBm.out.below hq HBm.out.lt).cell 0, (HBm.out.below hq HBm.out.lt).cell 1⟩ : W.cell? ⟨w.heap.size, 0, none⟩ = some (p0) ∧ W.cell? ⟨w.heap.size, 1, none⟩ = some (p1) ∧ W.cell? ⟨w.heap.size, 2, none⟩ = some (p2) ∧ W.cell? ⟨w.heap.size, 3, none⟩ = some (p3) ∧ W.cell? ⟨w.heap.size, 4, none⟩ = some (p4) ∧ W.cell? ⟨w.heap.size, 5, none⟩ = some (p5) ∧ W.cell? ⟨w.heap.size + 1, 0, none⟩ = some (.int .i64 mx) ∧ W.cell? ⟨w.heap.size + 1, 1, none⟩ = some (.int .i64 my)))
  have HRr := hide kr
  have HKT0 := hide (fun (W : World) (hq : Below W0.heap.size W0 W) (x0 x1 x2 x3 x4 x5 : Value) => (⟨(((((((HBp.out.below hq HBp.out.lt).setv (show w.heap.size ≠ w.heap.size + 2 by omega) 0 x0).setv (show w.heap.size ≠ w.heap.size + 2 by omega) 1 x1).setv (show w.heap.size ≠ w.heap.size + 2 by omega) 2 x2).setv (show w.heap.size ≠ w.heap.size + 2 by omega) 3 x3).setv (show w.heap.size ≠ w.heap.size + 2 by omega) 4 x4).setv (show w.heap.size ≠ w.heap.size + 2 by omega) 5 x5).cell 0, (((((((HBp.out.below hq HBp.out.lt).setv (show w.heap.size ≠ w.heap.size + 2 by omega) 0 x0).setv (show w.heap.size ≠ w.heap.size + 2 by omega) 1 x1).setv (show w.heap.size ≠ w.heap.size + 2 by omega) 2 x2).setv (show w.heap.size ≠ w.heap.size + 2 by omega) 3 x3).setv (show w.heap.size ≠ w.heap.size + 2 by omega) 4 x4).setv (show w.heap.size ≠ w.heap.size + 2 by omega) 5 x5).cell 1, (((((((HBp.out.below hq HBp.out.lt).setv (show w.heap.size ≠ w.heap.size + 2 by omega) 0 x0).setv (show w.heap.size ≠ w.heap.size + 2 by omega) 1 x1).setv (show w.heap.size ≠ w.heap.size + 2 by omega) 2 x2).setv (show w.heap.size ≠ w.heap.size + 2 by omega) 3 x3).setv (show w.heap.size ≠ w.heap.size + 2 by omega) 4 x4).setv (show w.heap.size ≠ w.heap.size + 2 by omega) 5 x5).cell 2, (((((((HBp.out.below hq HBp.out.lt).setv (show w.heap.size ≠ w.heap.size + 2 by omega) 0 x0).setv (show w.heap.size ≠ w.heap.size + 2 by omega) 1 x1).setv (show w.heap.size ≠ w.heap.size + 2 by omega) 2 x2).setv (show w.heap.size ≠ w.heap.size + 2 by omega) 3 x3).setv (show w.heap.size ≠ w.heap.size + 2 by omega) 4 x4).setv (show w.heap.size ≠ w.heap.size + 2 by omega) 5 x5).cell 3, (((((((HBp.out.below hq HBp.out.lt).setv (show w.heap.size ≠ w.heap.size + 2 by omega) 0 x0).setv (show w.heap.size ≠ w.heap.size + 2 by omega) 1 x1).setv (show w.heap.size ≠ w.heap.size + 2 by omega) 2 x2).setv (show w.heap.size ≠ w.heap.size + 2 by omega) 3 x3).setv (show w.heap.size ≠ w.heap.size + 2 by omega) 4 x4).setv (show w.heap.size ≠ w.heap.size + 2 by omega) 5 x5).cell 4, (((((((HBp.out.below hq HBp.out.lt).setv (show w.heap.size ≠ w.heap.size + 2 by omega) 0 x0).setv (show w.heap.size ≠ w.heap.size + 2 by omega) 1 x1).setv (show w.heap.size ≠ w.heap.size + 2 by omega) 2 x2).setv (show w.heap.size ≠ w.heap.size + 2 by omega) 3 x3).setv (show w.heap.size ≠ w.heap.size + 2 by omega) 4 x4).setv (show w.heap.size ≠ w.heap.size + 2 by omega) 5 x5).cell 5, (((((((HBm.out.below hq HBm.out.lt).setv (show w.heap.size + 1 ≠ w.heap.size + 2 by omega) 0 x0).setv (show w.heap.size + 1 ≠ w.heap.size + 2 by omega) 1 x1).setv (show w.heap.size + 1 ≠ w.heap.size + 2 by omega) 2 x2).setv (show w.heap.size + 1 ≠ w.heap.size + 2 by omega) 3 x3).setv (show w.heap.size + 1 ≠ w.heap.size + 2 by omega) 4 x4).setv (show w.heap.size + 1 ≠ w.heap.size + 2 by omega) 5 x5).cell 0, (((((((HBm.out.below hq HBm.out.lt).setv (show w.heap.size + 1 ≠ w.heap.size + 2 by omega) 0 x0).setv (show w.heap.size + 1 ≠ w.heap.size + 2 by omega) 1 x1).setv (show w.heap.size + 1 ≠ w.heap.size + 2 by omega) 2 x2).setv (show w.heap.size + 1 ≠ w.heap.size + 2 by omega) 3 x3).setv (show w.heap.size + 1 ≠ w.heap.size + 2 by omega) 4 x4).setv (show w.heap.size + 1 ≠ w.heap.size + 2 by omega) 5 x5).cell 1⟩ : ((((((W.setCell ⟨w.heap.size + 2, 0, none⟩ x0).setCell ⟨w.heap.size + 2, 1, none⟩ x1).setCell ⟨w.heap.size + 2, 2, none⟩ x2).setCell ⟨w.heap.size + 2, 3, none⟩ x3).setCell ⟨w.heap.size + 2, 4, none⟩ x4).setCell ⟨w.heap.size + 2, 5, none⟩ x5).cell? ⟨w.heap.size, 0, none⟩ = some (p0) ∧ ((((((W.setCell ⟨w.heap.size + 2, 0, none⟩ x0).setCell ⟨w.heap.size + 2, 1, none⟩ x1).setCell ⟨w.heap.size + 2, 2, none⟩ x2).setCell ⟨w.heap.size + 2, 3, none⟩ x3).setCell ⟨w.heap.size + 2, 4, none⟩ x4).setCell ⟨w.heap.size + 2, 5, none⟩ x5).cell? ⟨w.heap.size, 1, none⟩ = some (p1) ∧ ((((((W.setCell ⟨w.heap.size + 2, 0, none⟩ x0).setCell ⟨w.heap.size + 2, 1, none⟩ x1).setCell ⟨w.heap.size + 2, 2, none⟩ x2).setCell ⟨w.heap.size + 2, 3, none⟩ x3).setCell ⟨w.heap.size + 2, 4, none⟩ x4).setCell ⟨w.heap.size + 2, 5, none⟩ x5).cell? ⟨w.heap.size, 2, none⟩ = some (p2) ∧ ((((((W.setCell ⟨w.heap.size + 2, 0, none⟩ x0).setCell ⟨w.heap.size + 2, 1, none⟩ x1).setCell ⟨w.heap.size + 2, 2, none⟩ x2).setCell ⟨w.heap.size + 2, 3, none⟩ x3).setCell ⟨w.heap.size + 2, 4, none⟩ x4).setCell ⟨w.heap.size + 2, 5, none⟩ x5).cell? ⟨w.heap.size, 3, none⟩ = some (p3) ∧ ((((((W.setCell ⟨w.heap.size + 2, 0, none⟩ x0).setCell ⟨w.heap.size + 2, 1, none⟩ x1).setCell ⟨w.heap.size + 2, 2, none⟩ x2).setCell ⟨w.heap.size + 2, 3, none⟩ x3).setCell ⟨w.heap.size + 2, 4, none⟩ x4).setCell ⟨w.heap.size + 2, 5, none⟩ x5).cell? ⟨w.heap.size, 4, none⟩ = some (p4) ∧ ((((((W.setCell ⟨w.heap.size + 2, 0, none⟩ x0).setCell ⟨w.heap.size + 2, 1, none⟩ x1).setCell ⟨w.heap.size + 2, 2, none⟩ x2).setCell ⟨w.heap.size + 2, 3, none⟩ x3).setCell ⟨w.heap.size + 2, 4, none⟩ x4).setCell ⟨w.heap.size + 2, 5, none⟩ x5).cell? ⟨w.heap.size, 5, none⟩ = some (p5) ∧ ((((((W.setCell ⟨w.heap.size + 2, 0, none⟩ x0).setCell ⟨w.heap.size + 2, 1, none⟩ x1).setCell ⟨w.heap.size + 2, 2, none⟩ x2).setCell ⟨w.heap.size + 2, 3, none⟩ x3).setCell ⟨w.heap.size + 2, 4, none⟩ x4).setCell ⟨w.heap.size + 2, 5, none⟩ x5).cell? ⟨w.heap.size + 1, 0, none⟩ = some (.int .i64 mx) ∧ ((((((W.setCell ⟨w.heap.size + 2, 0, none⟩ x0).setCell ⟨w.heap.size + 2, 1, none⟩ x1).setCell ⟨w.heap.size + 2, 2, none⟩ x2).setCell ⟨w.heap.size + 2, 3, none⟩ x3).setCell ⟨w.heap.size + 2, 4, none⟩ x4).setCell ⟨w.heap.size + 2, 5, none⟩ x5).cell? ⟨w.heap.size + 1, 1, none⟩ = some (.int .i64 my)))
  obtain ⟨yp0, yp1, yp2, yp3, yp4, yp5⟩ := kp.cells6
  obtain ⟨ym0, ym1⟩ := km.cells2
  go_region_held3 (fun w' => w'.cell? ⟨w.heap.size, 0, none⟩ = some (p0) ∧ w'.cell? ⟨w.heap.size, 1, none⟩ = some (p1) ∧ w'.cell? ⟨w.heap.size, 2, none⟩ = some (p2) ∧ w'.cell? ⟨w.heap.size, 3, none⟩ = some (p3) ∧ w'.cell? ⟨w.heap.size, 4, none⟩ = some (p4) ∧ w'.cell? ⟨w.heap.size, 5, none⟩ = some (p5) ∧ w'.cell? ⟨w.heap.size + 1, 0, none⟩ = some (.int .i64 mx) ∧ w'.cell? ⟨w.heap.size + 1, 1, none⟩ = some (.int .i64 my))
      (first | (with_reducible exact HKT0.out _ HS5.out _ _ _ _ _ _) | (with_reducible exact HKS.out _ HS5.out) | (with_reducible exact HKS.out _ HS4.out) | (with_reducible exact HKS.out _ HS3.out) | (with_reducible exact HKS.out _ HS2.out) | (with_reducible exact HKS.out _ HS1.out) | (with_reducible exact HKS.out _ HS0.out))
      (first
        | (go_at_call 53; have HX := HS4.out; have OP : POwn u4 W0.heap.size u4.heap.size 3 (.bool xb) (.slice xA xn xc) (.slice xD xm xk) (.bool yb) (.slice yA yn yc) (.slice yD ym yk) (addQ pZ.1 (intQ mx), addQ pZ.2 (intQ my)) := ⟨_, _, _, _, ox, oy, by omega, by omega, by omega, by omega, .inl (by omega)⟩; refine (spec_l05Valid u4 W0.heap.size u4.heap.size OP ⟨addQ_fit _ _, addQ_fit _ _⟩ (by omega) (Nat.le_refl _)).mono ?_; rintro e u5 ⟨z0, z1, z2, z3, z4, z5, rfl, oz, hb5⟩; obtain ⟨zb, zA, zn, zc, zD, zm, zk, zyb, zyA, zyn, zyc, zyD, zym, zyk, rfl, rfl, rfl, rfl, rfl, rfl⟩ := oz.cut; have oz : POwn u5 W0.heap.size u4.heap.size 3 (.bool zb) (.slice zA zn zc) (.slice zD zm zk) (.bool zyb) (.slice zyA zyn zyc) (.slice zyD zym zyk) (sureP (addQ pZ.1 (intQ mx), addQ pZ.2 (intQ my))) := oz; have qs := qs.up hb5; have os := os.below hb5 (by omega); have qx := qx.up hb5; have ox := ox.below hb5 (by omega); have qg := qg.up hb5; have og := og.below hb5 (by omega); have qy := qy.up hb5; have oy := oy.below hb5 (by omega); have hz5 : u4.heap.size ≤ u5.heap.size := hb5.size; have HS5 := hide (below_then HX hb5); clear HX; have hTT := below_then hT0 HS5.out; have kR := HRr.out.below HS5.out HRr.out.lt; obtain ⟨⟨tr0, tr1, tr2, tr3, tr4, tr5⟩, fr0, fr1, fr2, fr3, fr4, fr5⟩ := kR.facts6)
        | (go_at_call 54; have HX := HS3.out; refine (spec_addQ u3 u3.heap.size (Nat.le_refl _) ((HC4.out _ HS3.out).wider (HS3.out).size) qg).mono ?_; rintro e u4 ⟨y0, y1, y2, rfl, oy, hb4⟩; obtain ⟨yb, yA, yn, yc, yD, ym, yk, rfl, rfl, rfl⟩ := oy.cut; have oy : QOwn u4 u3.heap.size u4.heap.size 3 (.bool yb) (.slice yA yn yc) (.slice yD ym yk) (addQ pZ.2 (intQ my)) := oy; have qy := oy.in_ (addQ_fit _ _) (Nat.le_refl _); have qs := qs.up hb4; have os := os.below hb4 (by omega); have qx := qx.up hb4; have ox := ox.below hb4 (by omega); have qg := qg.up hb4; have og := og.below hb4 (by omega); have hz4 : u3.heap.size ≤ u4.heap.size := hb4.size; have HS4 := hide (below_then HX hb4); clear HX)
        | (go_at_call 42; have HX := HS2.out; refine (HC3.out _).mono ?_; rintro e u3 ⟨g0, g1, g2, rfl, og, hb3⟩; obtain ⟨gb, gA, gn, gc, gD, gm, gk, rfl, rfl, rfl⟩ := og.cut; have og : QOwn u3 u2.heap.size u3.heap.size 3 (.bool gb) (.slice gA gn gc) (.slice gD gm gk) (intQ my) := og; have qg := og.in_ (intQ_fit _) (Nat.le_refl _); have qs := qs.up hb3; have os := os.below hb3 (by omega); have qx := qx.up hb3; have ox := ox.below hb3 (by omega); have hz3 : u2.heap.size ≤ u3.heap.size := hb3.size; have HS3 := hide (below_then HX hb3); clear HX)
        | (go_at_call 54; have HX := HS1.out; refine (spec_addQ u1 u1.heap.size (Nat.le_refl _) ((HC2.out _ HS1.out).wider (HS1.out).size) qs).mono ?_; rintro e u2 ⟨x0, x1, x2, rfl, ox, hb2⟩; obtain ⟨xb, xA, xn, xc, xD, xm, xk, rfl, rfl, rfl⟩ := ox.cut; have ox : QOwn u2 u1.heap.size u2.heap.size 3 (.bool xb) (.slice xA xn xc) (.slice xD xm xk) (addQ pZ.1 (intQ mx)) := ox; have qx := ox.in_ (addQ_fit _ _) (Nat.le_refl _); have qs := qs.up hb2; have os := os.below hb2 (by omega); have hz2 : u1.heap.size ≤ u2.heap.size := hb2.size; have HS2 := hide (below_then HX hb2); clear HX)
        | (go_at_call 42; have HX := HS0.out; refine (HC1.out _).mono ?_; rintro e u1 ⟨s0, s1, s2, rfl, os, hb1⟩; obtain ⟨sb, sA, sn, sc, sD, sm, sk, rfl, rfl, rfl⟩ := os.cut; have os : QOwn u1 W0.heap.size u1.heap.size 3 (.bool sb) (.slice sA sn sc) (.slice sD sm sk) (intQ mx) := os; have qs := os.in_ (intQ_fit _) (Nat.le_refl _); have hz1 : W0.heap.size ≤ u1.heap.size := hb1.size; have HS1 := hide (below_then HX hb1); clear HX))
  have HO := hide (ret_pt kR oz hTT (by omega) (by omega) (by omega) (.inl (by omega)))
  clear kR ox oy oz os og qx qy qs qg hTT hb1 hb2 hb3 hb4 hb5
  go_wp2_with fail
  refine bodyPost_ret (results_cell_row rfl _ _ (w.heap.size + 2) _ #[.bool zb, .slice zA zn zc, .slice zD zm zk, .bool zyb, .slice zyA zyn zyc, .slice zyD zym zyk] (0, 0) _ rfl HO.out.1 Try.underlying41 rfl Try.sizePoint) rfl ?_
  exact ⟨_, _, _, _, _, _, rfl, HO.out.2.1, HO.out.2.2⟩
end Go.Proofs.Ytnbaookdeijhhaa
