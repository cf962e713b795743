/-
  The exact laws' walks: RobotCorners.
-/
import Derived.Test.YtocllmaikngoaaaGreatDoorSB
import Derived.Test.YtocllmaikngoaaaGreatDoorFreI5
import Derived.Test.YtocllmaikngoaaaGreatDoorFreR5
import Derived.Test.YtocllmaikngoaaaGreatDoorPX2
import Derived.Deep.RegionHeld3
namespace Go.Proofs.YtocllmaikngoaaaGreatDoor
open Go.RowKit
set_option linter.unusedVariables false
theorem sizN_fit {P : PQ} (h : PFit P) : sizN P ≤ 4194306 := by
  obtain ⟨⟨h1, h2, _⟩, h3, h4, _⟩ := h
  unfold sizN; omega
theorem sizL_few : ∀ (l : List PQ), (∀ P ∈ l, sizN P ≤ 4194306) → sizL l ≤ l.length * 4194306
  | [], _ => by simp [sizL]
  | P :: l, h => by
    have h1 := h P (by simp)
    have h2 := sizL_few l fun x hx => h x (by simp [hx])
    have e : sizL (P :: l) = sizN P + sizL l := by simp [sizL]
    rw [e, List.length_cons]; omega
theorem corL_siz {S : Scn} {k : Int} {P : PQ} {ps : List Pr} (e : pts ps = corL S k P) : sizL (pts ps) ≤ 30000000 ∧ ∀ s ∈ ps, sizN s.p ≤ 5000000 := by
  have hf : ∀ Q ∈ pts ps, sizN Q ≤ 4194306 := fun Q hQ => sizN_fit (corL_fit S k P Q (by rw [← e]; exact hQ))
  refine ⟨?_, fun s hs => ?_⟩
  · have h1 := sizL_few _ hf
    have h2 := corL_len S k P
    rw [← e] at h2
    have h3 : (pts ps).length * 4194306 ≤ 5 * 4194306 := Nat.mul_le_mul_right _ h2
    omega
  · have := hf s.p (List.mem_map.2 ⟨s, hs, rfl⟩)
    omega
set_option maxHeartbeats 16000000 in
set_option maxRecDepth 100000 in
theorem FnExactRobotCorners_walk (w : World) {v00 v01 v02 v03 v04 v05 v06 : Value} (S0 : Scn) (f0 : SArg w v00 v01 v02 v03 v04 v05 v06 S0) (a1 : Int) (f1 : (Lit.int .i64 a1).wf = true) {p20 p21 p22 p23 p24 p25 : Value} (f2 : PRow w p20 p21 p22 p23 p24 p25) (hQ : QTab w) :
    Calls Tryz.prog 3 #[.agg #[v00, v01, v02, v03, v04, v05, v06], .int .i64 a1, .agg #[p20, p21, p22, p23, p24, p25]] w fun e w' => e = .returned (.bool true) ∧ Below w.heap.size w w' := by
  obtain ⟨RA0, rc0, OA0, oc0, TA0, tc0, ⟨rfl, rfl, rfl, rfl, rfl, rfl, rfl⟩⟩ := f0.form
  obtain ⟨hm1, hM1⟩ := bounds_i64 f1
  obtain ⟨LP, gP, JP⟩ := f2.len
  obtain ⟨w1, hw1⟩ : ∃ x, x = ((w.alloc (.cells #[.int .i64 S0.lx, .int .i64 S0.ly, .int .i64 S0.hx, .int .i64 S0.hy, .slice RA0 S0.r.length rc0, .slice OA0 S0.o.length oc0, .slice TA0 S0.t.length tc0] 27)).alloc (.cells #[p20, p21, p22, p23, p24, p25] 34)) := ⟨_, rfl⟩
  have hT1 : Below w.heap.size w w1 := by rw [hw1]; exact below_alloc (below_new _ _) _
  have hs1 := hT1.size
  have bP0 : Box w1 w.heap.size 27 #[.int .i64 S0.lx, .int .i64 S0.ly, .int .i64 S0.hx, .int .i64 S0.hy, .slice RA0 S0.r.length rc0, .slice OA0 S0.o.length oc0, .slice TA0 S0.t.length tc0] := by rw [hw1]; exact (Box.last _ _ _ rfl).alloc _
  have bP2 : Box w1 (w.heap.size + 1) 34 #[p20, p21, p22, p23, p24, p25] := by rw [hw1]; exact Box.last _ _ _ (alloc_size _ _).symm
  have hq1 : w.heap.size + 2 ≤ w1.heap.size := by rw [hw1, alloc_size, alloc_size]; omega
  obtain ⟨m0, hm0e⟩ : ∃ m, m = totS S0 := ⟨_, rfl⟩
  have D0 := hide (fun (W : World) (hb : Below w.heap.size w W) (k : Nat) (hk : k ≤ 1048576) => szScn_any W S0 (f0.below hb) k hk)
  rw [← hm0e] at D0
  have HME0 := hide hm0e
  clear hm0e
  have C0 := hide (fun (W : World) (hb : Below w.heap.size w W) => D0.out W hb (1048576) (by omega))
  clear D0
  by_cases c0 : m0 ≤ 1048576
  case neg =>
    rw [szR_no (by omega)] at C0
    go_enter Tryz.func3, Tryz.ntmps3
    go_upto_region 1 with fail
    rw [← hw1]
    clear hw1
    obtain ⟨yP00, yP01, yP02, yP03, yP04, yP05, yP06⟩ := bP0.cells7
    go_wp2_with fail
    refine (C0.out _ hT1).mono ?_
    rintro e w2 ⟨rfl, hb2⟩
    clear yP00 yP01 yP02 yP03 yP04 yP05 yP06
    have hs2 := hb2.size
    have bP0 := bP0.below hb2 bP0.lt
    have bP2 := bP2.below hb2 bP2.lt
    have hT2 := below_then hT1 hb2
    clear hT1 hb2
    go_wp2_with fail
    go_ret
    exact ⟨rfl, hT2⟩
  obtain ⟨lf0, hlf0⟩ : ∃ r : Nat, r + m0 = 1048576 := ⟨1048576 - m0, by omega⟩
  have hr0 : szR (1048576) m0 = (lf0 : Int) := by rw [szR_ok c0]; congr 1; omega
  rw [hr0] at C0
  have hnn0 : ¬ (lf0 : Int) < 0 := by omega
  have hlb0 : lf0 ≤ 1048576 := by omega
  clear hr0
  by_cases cP : LP ≤ lf0
  case neg =>
    have hle : leftI lf0 LP = -1 := if_neg cP
    go_enter Tryz.func3, Tryz.ntmps3
    go_upto_region 1 with fail
    rw [← hw1]
    clear hw1
    obtain ⟨yP00, yP01, yP02, yP03, yP04, yP05, yP06⟩ := bP0.cells7
    go_wp2_with fail
    refine (C0.out _ hT1).mono ?_
    rintro e w2 ⟨rfl, hb2⟩
    clear yP00 yP01 yP02 yP03 yP04 yP05 yP06
    have hs2 := hb2.size
    have bP0 := bP0.below hb2 bP0.lt
    have bP2 := bP2.below hb2 bP2.lt
    have hT2 := below_then hT1 hb2
    clear hT1 hb2
    obtain ⟨yP20, yP21, yP22, yP23, yP24, yP25⟩ := bP2.cells6
    go_wp2_with fail
    refine (szP_any w2 gP lf0 (by omega)).mono ?_
    rintro e w3 ⟨rfl, hb3⟩
    clear yP20 yP21 yP22 yP23 yP24 yP25
    have hs3 := hb3.size
    have bP0 := bP0.below hb3 bP0.lt
    have bP2 := bP2.below hb3 bP2.lt
    have hT3 := below_then hT2 hb3
    clear hT2 hb3
    rw [hle]
    clear hle
    go_wp2_with fail
    go_ret
    exact ⟨rfl, hT3⟩
  obtain ⟨lfP, hlfP⟩ : ∃ r : Nat, r + LP = lf0 := ⟨lf0 - LP, by omega⟩
  have hle : leftI lf0 LP = (lfP : Int) := by rw [leftI, if_pos cP]; omega
  have HLE := hide hle
  have hnnP : ¬ (lfP : Int) < 0 := by omega
  obtain ⟨PZ, J0⟩ := JP (by omega)
  have HPF := hide J0.fit
  have HM0 := HME0.out
  have hM0 : totS S0 ≤ 1048576 := by omega
  clear HM0
  clear HME0
  have I0 := f0.in_ hM0
  have HA0 : Hid (SFit S0 ∧ wf4 S0 ∧ SShort S0) := ⟨I0.fit.1, I0.fit.2, short_of hM0⟩
  have I2 := J0
  have HLF0 := hide hlf0
  have HLFP := hide hlfP
  clear hlf0 hlfP c0 cP hle J0 JP f0 f2
  have hCL := corL_len S0 a1 PZ
  have HFT : Hid (∀ ps : List Pr, pts ps = corL S0 a1 PZ → ∀ s ∈ ps, PFit s.p) := fun ps e s hs => corL_fit S0 a1 PZ s.p (by rw [← e]; exact List.mem_map.2 ⟨s, hs, rfl⟩)
  have HSZ : Hid (∀ ps : List Pr, pts ps = corL S0 a1 PZ → sizL (pts ps) ≤ 30000000 ∧ ∀ s ∈ ps, sizN s.p ≤ 5000000) := fun ps e => corL_siz e
  have I0 := I0.below hT1
  have I2 := I2.below hT1
  go_enter Tryz.func3, Tryz.ntmps3
  go_upto_region 1 with fail
  rw [← hw1]
  clear hw1
  obtain ⟨yP00, yP01, yP02, yP03, yP04, yP05, yP06⟩ := bP0.cells7
  go_wp2_with fail
  refine (C0.out _ hT1).mono ?_
  rintro e w2 ⟨rfl, hb2⟩
  clear yP00 yP01 yP02 yP03 yP04 yP05 yP06
  have hs2 := hb2.size
  have bP0 := bP0.below hb2 bP0.lt
  have bP2 := bP2.below hb2 bP2.lt
  have I0 := I0.below (Below.mono hb2 (by omega))
  have I2 := I2.below (Below.mono hb2 (by omega))
  have hT2 := below_then hT1 hb2
  clear hT1
  clear hb2
  obtain ⟨yP20, yP21, yP22, yP23, yP24, yP25⟩ := bP2.cells6
  go_wp2_with fail
  refine (szP_any w2 gP lf0 (by omega)).mono ?_
  rintro e w3 ⟨rfl, hb3⟩
  clear yP20 yP21 yP22 yP23 yP24 yP25
  have hs3 := hb3.size
  have bP0 := bP0.below hb3 bP0.lt
  have bP2 := bP2.below hb3 bP2.lt
  have I0 := I0.below (Below.mono hb3 (by omega))
  have I2 := I2.below (Below.mono hb3 (by omega))
  have hT3 := below_then hT2 hb3
  clear hT2
  clear hb3
  rw [HLE.out]
  clear C0 gP HLE
  go_upto_region 8 with fail
  obtain ⟨yP00, yP01, yP02, yP03, yP04, yP05, yP06⟩ := bP0.cells7
  obtain ⟨yP20, yP21, yP22, yP23, yP24, yP25⟩ := bP2.cells6
  have HPi := hide bP0
  have HPj := hide bP2
  have HKS := hide (fun (W : World) (hq : Below w3.heap.size w3 W) => (⟨(HPi.out.below hq HPi.out.lt).cell 0, (HPi.out.below hq HPi.out.lt).cell 1, (HPi.out.below hq HPi.out.lt).cell 2, (HPi.out.below hq HPi.out.lt).cell 3, (HPi.out.below hq HPi.out.lt).cell 4, (HPi.out.below hq HPi.out.lt).cell 5, (HPi.out.below hq HPi.out.lt).cell 6, (HPj.out.below hq HPj.out.lt).cell 0, (HPj.out.below hq HPj.out.lt).cell 1, (HPj.out.below hq HPj.out.lt).cell 2, (HPj.out.below hq HPj.out.lt).cell 3, (HPj.out.below hq HPj.out.lt).cell 4, (HPj.out.below hq HPj.out.lt).cell 5⟩ : W.cell? ⟨w.heap.size, 0, none⟩ = some (.int .i64 S0.lx) ∧ W.cell? ⟨w.heap.size, 1, none⟩ = some (.int .i64 S0.ly) ∧ W.cell? ⟨w.heap.size, 2, none⟩ = some (.int .i64 S0.hx) ∧ W.cell? ⟨w.heap.size, 3, none⟩ = some (.int .i64 S0.hy) ∧ W.cell? ⟨w.heap.size, 4, none⟩ = some (.slice RA0 S0.r.length rc0) ∧ W.cell? ⟨w.heap.size, 5, none⟩ = some (.slice OA0 S0.o.length oc0) ∧ W.cell? ⟨w.heap.size, 6, none⟩ = some (.slice TA0 S0.t.length tc0) ∧ W.cell? ⟨w.heap.size + 1, 0, none⟩ = some (p20) ∧ W.cell? ⟨w.heap.size + 1, 1, none⟩ = some (p21) ∧ W.cell? ⟨w.heap.size + 1, 2, none⟩ = some (p22) ∧ W.cell? ⟨w.heap.size + 1, 3, none⟩ = some (p23) ∧ W.cell? ⟨w.heap.size + 1, 4, none⟩ = some (p24) ∧ W.cell? ⟨w.heap.size + 1, 5, none⟩ = some (p25)))
  have HCi := hide (fun (W : World) (hq : Below w3.heap.size w3 W) => toScn_any W w.heap.size (by have := hT3.size; have := hq.size; omega) (I0.below (hq.mono hT3.size)))
  have HCj := hide (fun (W : World) (hq : Below w3.heap.size w3 W) => toP_any W w.heap.size (by have := hT3.size; have := hq.size; omega) (I2.below (hq.mono hT3.size)))
  have HF := hide (fun (W : World) (hq : Below w.heap.size w W) (p0 p1 p2 p3 p4 p5 p6 : Value) (r : SIn W W.heap.size p0 p1 p2 p3 p4 p5 p6 S0) (z0 z1 z2 z3 z4 z5 : Value) (rp : PIn W W.heap.size z0 z1 z2 z3 z4 z5 PZ) => spec_RobotCorners W W.heap.size (Nat.le_refl _) r a1 f1 rp)
  have HS0 : Hid (Below w3.heap.size w3 w3.drew) := (Below.refl _ _).drew
  have HTk := hide hT3
  go_region_held3 (fun w' => w'.cell? ⟨w.heap.size, 0, none⟩ = some (.int .i64 S0.lx) ∧ w'.cell? ⟨w.heap.size, 1, none⟩ = some (.int .i64 S0.ly) ∧ w'.cell? ⟨w.heap.size, 2, none⟩ = some (.int .i64 S0.hx) ∧ w'.cell? ⟨w.heap.size, 3, none⟩ = some (.int .i64 S0.hy) ∧ w'.cell? ⟨w.heap.size, 4, none⟩ = some (.slice RA0 S0.r.length rc0) ∧ w'.cell? ⟨w.heap.size, 5, none⟩ = some (.slice OA0 S0.o.length oc0) ∧ w'.cell? ⟨w.heap.size, 6, none⟩ = some (.slice TA0 S0.t.length tc0) ∧ w'.cell? ⟨w.heap.size + 1, 0, none⟩ = some (p20) ∧ w'.cell? ⟨w.heap.size + 1, 1, none⟩ = some (p21) ∧ w'.cell? ⟨w.heap.size + 1, 2, none⟩ = some (p22) ∧ w'.cell? ⟨w.heap.size + 1, 3, none⟩ = some (p23) ∧ w'.cell? ⟨w.heap.size + 1, 4, none⟩ = some (p24) ∧ w'.cell? ⟨w.heap.size + 1, 5, none⟩ = some (p25))
      (first | (with_reducible exact HKS.out _ HS3.out) | (with_reducible exact HKS.out _ HS2.out) | (with_reducible exact HKS.out _ HS1.out) | (with_reducible exact HKS.out _ HS0.out))
      (first
        | (go_at_call 8; have HX := HS2.out; refine (HF.out _ (below_then HTk.out HX) _ _ _ _ _ _ _ qs _ _ _ _ _ _ qp).mono ?_; rintro e u3 ⟨vr, ps0, rfl, o0, ct0, hb3⟩; obtain ⟨RV0, rv0, rfl⟩ := o0.form; have hz3 := hb3.size; have HS3 := hide (below_then HX hb3); clear HX)
        | (go_at_call 10; have HX := HS1.out; refine (HCj.out _ HX).mono ?_; rintro e u2 ⟨z0, z1, z2, z3, z4, z5, rfl, oz, hb2⟩; obtain ⟨zb, zA, zn, zc, zD, zm, zk, zyb, zyA, zyn, zyc, zyD, zym, zyk, rfl, rfl, rfl, rfl, rfl, rfl⟩ := oz.cut; have qp := oz.in_ HPF.out (Nat.le_refl _); have qs := qs.up hb2; have hz2 := hb2.size; have HS2 := hide (below_then HX hb2); clear HX)
        | (go_at_call 9; have HX := HS0.out; refine (HCi.out _ HX).mono ?_; rintro e u1 ⟨p0, p1, p2, p3, p4, p5, p6, rfl, e1, hb1⟩; obtain ⟨sA, sa, sB, sb, sC, sc, ⟨rfl, rfl, rfl, rfl, rfl, rfl, rfl⟩⟩ := e1.form; have qs := e1.in_ HA0.out.1 HA0.out.2.1 HA0.out.2.2 (Nat.le_refl _); have hz1 : w3.heap.size ≤ u1.heap.size := hb1.size; have HS1 := hide (below_then HX hb1); clear HX))
  have hb4 := HS3.out
  have o0 := o0.wider (show w3.heap.size ≤ u2.heap.size by omega) (Nat.le_refl _)
  obtain ⟨w4, hw4⟩ : ∃ x, x = u3 := ⟨_, rfl⟩
  subst hw4
  clear HKS HCi HCj HF HS0 HPi HPj HS1 HS2 HS3 HTk hb1 hb2 hb3 e1 qs qp oz
  clear yP00 yP01 yP02 yP03 yP04 yP05 yP06 yP20 yP21 yP22 yP23 yP24 yP25
  have hs4 := hb4.size
  have bP0 := bP0.below hb4 bP0.lt
  have bP2 := bP2.below hb4 bP2.lt
  have I0 := I0.below (Below.mono hb4 (by omega))
  have I2 := I2.below (Below.mono hb4 (by omega))
  have hT4 := below_then hT3 hb4
  clear hT3
  clear hb4
  obtain ⟨yP00, yP01, yP02, yP03, yP04, yP05, yP06⟩ := bP0.cells7
  go_wp2_with fail
  refine (toScn_any w4 w.heap.size hT4.size I0).mono ?_
  rintro e w5 ⟨q10, q11, q12, q13, q14, q15, q16, rfl, o1, hb5⟩
  obtain ⟨RQ1, rq1, OQ1, oq1, TQ1, tq1, ⟨rfl, rfl, rfl, rfl, rfl, rfl, rfl⟩⟩ := o1.form
  have hs5 := hb5.size
  have o0 := o0.below hb5 (by omega)
  have bP0 := bP0.below hb5 bP0.lt
  have bP2 := bP2.below hb5 bP2.lt
  have I0 := I0.below (Below.mono hb5 (by omega))
  have I2 := I2.below (Below.mono hb5 (by omega))
  have hT5 := below_then hT4 hb5
  clear hT4
  clear hb5
  clear yP00 yP01 yP02 yP03 yP04 yP05 yP06
  obtain ⟨w6, hw6⟩ : ∃ x, x = w5.alloc (.cells #[.int .i64 S0.lx, .int .i64 S0.ly, .int .i64 S0.hx, .int .i64 S0.hy, .slice RQ1 S0.r.length rq1, .slice OQ1 S0.o.length oq1, .slice TQ1 S0.t.length tq1] 43) := ⟨_, rfl⟩
  have hb6 : Below w5.heap.size w5 w6 := by rw [hw6]; exact below_new _ _
  have hq6 : w5.heap.size < w6.heap.size := by rw [hw6, alloc_size]; omega
  have bn : Box w6 w5.heap.size 43 #[.int .i64 S0.lx, .int .i64 S0.ly, .int .i64 S0.hx, .int .i64 S0.hy, .slice RQ1 S0.r.length rq1, .slice OQ1 S0.o.length oq1, .slice TQ1 S0.t.length tq1] := by rw [hw6]; exact Box.last _ _ _ rfl
  have hs6 := hb6.size
  have o0 := o0.below hb6 (by omega)
  have o1 := o1.below hb6 (by omega)
  have bP0 := bP0.below hb6 bP0.lt
  have bP2 := bP2.below hb6 bP2.lt
  have I0 := I0.below (Below.mono hb6 (by omega))
  have I2 := I2.below (Below.mono hb6 (by omega))
  have hT6 := below_then hT5 hb6
  clear hT5
  have bx0 := bn
  clear bn
  clear hb6
  go_upto_region 10 with fail
  rw [← hw6]
  clear hw6
  obtain ⟨yP20, yP21, yP22, yP23, yP24, yP25⟩ := bP2.cells6
  go_wp2_with fail
  refine (toP_any w6 w.heap.size hT6.size I2).mono ?_
  rintro e w7 ⟨z0, z1, z2, z3, z4, z5, rfl, o2, hb7⟩
  obtain ⟨xb, xA, xn, xc, xD, xm, xk, xyb, xyA, xyn, xyc, xyD, xym, xyk, rfl, rfl, rfl, rfl, rfl, rfl⟩ := o2.cut
  clear yP20 yP21 yP22 yP23 yP24 yP25
  have hs7 := hb7.size
  have o0 := o0.below hb7 (by omega)
  have o1 := o1.below hb7 (by omega)
  have bP0 := bP0.below hb7 bP0.lt
  have bP2 := bP2.below hb7 bP2.lt
  have bx0 := bx0.below hb7 bx0.lt
  have I0 := I0.below (Below.mono hb7 (by omega))
  have I2 := I2.below (Below.mono hb7 (by omega))
  have hT7 := below_then hT6 hb7
  clear hT6
  clear hb7
  obtain ⟨w8, hw8⟩ : ∃ x, x = w7.alloc (.cells #[.bool xb, .slice xA xn xc, .slice xD xm xk, .bool xyb, .slice xyA xyn xyc, .slice xyD xym xyk] 49) := ⟨_, rfl⟩
  have hb8 : Below w7.heap.size w7 w8 := by rw [hw8]; exact below_new _ _
  have hq8 : w7.heap.size < w8.heap.size := by rw [hw8, alloc_size]; omega
  have bn : Box w8 w7.heap.size 49 #[.bool xb, .slice xA xn xc, .slice xD xm xk, .bool xyb, .slice xyA xyn xyc, .slice xyD xym xyk] := by rw [hw8]; exact Box.last _ _ _ rfl
  have hs8 := hb8.size
  have o0 := o0.below hb8 (by omega)
  have o1 := o1.below hb8 (by omega)
  have o2 := o2.below hb8 (by omega)
  have bP0 := bP0.below hb8 bP0.lt
  have bP2 := bP2.below hb8 bP2.lt
  have bx0 := bx0.below hb8 bx0.lt
  have I0 := I0.below (Below.mono hb8 (by omega))
  have I2 := I2.below (Below.mono hb8 (by omega))
  have hT8 := below_then hT7 hb8
  clear hT7
  have bx2 := bn
  clear bn
  clear hb8
  go_upto_region 11 with fail
  rw [← hw8]
  clear hw8
  obtain ⟨yx00, yx01, yx02, yx03, yx04, yx05, yx06⟩ := bx0.cells7
  obtain ⟨yx20, yx21, yx22, yx23, yx24, yx25⟩ := bx2.cells6
  go_wp2_with fail
  refine (impl_RobotCorners w8 w8.heap.size (Nat.le_refl _) (o1.in_ HA0.out.1 HA0.out.2.1 HA0.out.2.2 (by omega)) a1 f1 (o2.in_ HPF.out (by omega)) (hQ.below hT8 (Nat.le_refl _))).mono ?_
  rintro e w9 ⟨vr, ps3, rfl, o3, ct3, hb9⟩
  obtain ⟨RV3, rv3, rfl⟩ := o3.form
  clear yx00 yx01 yx02 yx03 yx04 yx05 yx06 yx20 yx21 yx22 yx23 yx24 yx25
  have hs9 := hb9.size
  have o0 := o0.below hb9 (by omega)
  have o1 := o1.below hb9 (by omega)
  have o2 := o2.below hb9 (by omega)
  have bP0 := bP0.below hb9 bP0.lt
  have bP2 := bP2.below hb9 bP2.lt
  have bx0 := bx0.below hb9 bx0.lt
  have bx2 := bx2.below hb9 bx2.lt
  have I0 := I0.below (Below.mono hb9 (by omega))
  have I2 := I2.below (Below.mono hb9 (by omega))
  have hT9 := below_then hT8 hb9
  clear hT8
  clear hb9
  go_wp2_with fail
  refine (eqPS_any w9 w9.heap.size (Nat.le_refl _) RV3 (corL S0 a1 PZ).length rv3 ps3 (o3.rdPS (by omega) (HFT.out _ ct3)) RV0 rv0 ps0 (o0.rdPS (by omega) (HFT.out _ ct0)) (by rw [ct3, ct0]) (by omega)).mono ?_
  rintro e w10 ⟨rfl, hb10⟩
  have hs10 := hb10.size
  have o0 := o0.below hb10 (by omega)
  have o1 := o1.below hb10 (by omega)
  have o2 := o2.below hb10 (by omega)
  have o3 := o3.below hb10 (by omega)
  have bP0 := bP0.below hb10 bP0.lt
  have bP2 := bP2.below hb10 bP2.lt
  have bx0 := bx0.below hb10 bx0.lt
  have bx2 := bx2.below hb10 bx2.lt
  have I0 := I0.below (Below.mono hb10 (by omega))
  have I2 := I2.below (Below.mono hb10 (by omega))
  have hT10 := below_then hT9 hb10
  clear hT9
  clear hb10
  go_upto_region 14 with fail
  obtain ⟨yP00, yP01, yP02, yP03, yP04, yP05, yP06⟩ := bP0.cells7
  obtain ⟨yx00, yx01, yx02, yx03, yx04, yx05, yx06⟩ := bx0.cells7
  have HPi := hide bP0
  have HPj := hide bx0
  have HKS := hide (fun (W : World) (hq : Below w10.heap.size w10 W) => (⟨(HPj.out.below hq HPj.out.lt).cell 0, (HPj.out.below hq HPj.out.lt).cell 1, (HPj.out.below hq HPj.out.lt).cell 2, (HPj.out.below hq HPj.out.lt).cell 3, (HPj.out.below hq HPj.out.lt).cell 4, (HPj.out.below hq HPj.out.lt).cell 5, (HPj.out.below hq HPj.out.lt).cell 6, (HPi.out.below hq HPi.out.lt).cell 0, (HPi.out.below hq HPi.out.lt).cell 1, (HPi.out.below hq HPi.out.lt).cell 2, (HPi.out.below hq HPi.out.lt).cell 3, (HPi.out.below hq HPi.out.lt).cell 4, (HPi.out.below hq HPi.out.lt).cell 5, (HPi.out.below hq HPi.out.lt).cell 6⟩ : W.cell? ⟨w5.heap.size, 0, none⟩ = some (.int .i64 S0.lx) ∧ W.cell? ⟨w5.heap.size, 1, none⟩ = some (.int .i64 S0.ly) ∧ W.cell? ⟨w5.heap.size, 2, none⟩ = some (.int .i64 S0.hx) ∧ W.cell? ⟨w5.heap.size, 3, none⟩ = some (.int .i64 S0.hy) ∧ W.cell? ⟨w5.heap.size, 4, none⟩ = some (.slice RQ1 S0.r.length rq1) ∧ W.cell? ⟨w5.heap.size, 5, none⟩ = some (.slice OQ1 S0.o.length oq1) ∧ W.cell? ⟨w5.heap.size, 6, none⟩ = some (.slice TQ1 S0.t.length tq1) ∧ W.cell? ⟨w.heap.size, 0, none⟩ = some (.int .i64 S0.lx) ∧ W.cell? ⟨w.heap.size, 1, none⟩ = some (.int .i64 S0.ly) ∧ W.cell? ⟨w.heap.size, 2, none⟩ = some (.int .i64 S0.hx) ∧ W.cell? ⟨w.heap.size, 3, none⟩ = some (.int .i64 S0.hy) ∧ W.cell? ⟨w.heap.size, 4, none⟩ = some (.slice RA0 S0.r.length rc0) ∧ W.cell? ⟨w.heap.size, 5, none⟩ = some (.slice OA0 S0.o.length oc0) ∧ W.cell? ⟨w.heap.size, 6, none⟩ = some (.slice TA0 S0.t.length tc0)))
  have HCi := hide (fun (W : World) (hq : Below w10.heap.size w10 W) => toScn_any W w.heap.size (by have := hT10.size; have := hq.size; omega) (I0.below (hq.mono hT10.size)))
  have HOd := hide o1
  have HF := hide (fun (W W' : World) (hq : Below w10.heap.size w10 W) (hq' : Below W.heap.size W W') (p0 p1 p2 p3 p4 p5 p6 : Value) (r : SOwn W' W.heap.size W'.heap.size 40 39 p0 p1 p2 p3 p4 p5 p6 S0) => eqScn_any W' W'.heap.size (Nat.le_refl _) ((HOd.out.below hq (by omega)).below hq' (by have := hq.size; omega) |>.in_ HA0.out.1 HA0.out.2.1 HA0.out.2.2 (by have := hq.size; have := hq'.size; omega)) (r.in_ HA0.out.1 HA0.out.2.1 HA0.out.2.2 (Nat.le_refl _)))
  have HS0 : Hid (Below w10.heap.size w10 w10.drew) := (Below.refl _ _).drew
  go_region_held3 (fun w' => w'.cell? ⟨w5.heap.size, 0, none⟩ = some (.int .i64 S0.lx) ∧ w'.cell? ⟨w5.heap.size, 1, none⟩ = some (.int .i64 S0.ly) ∧ w'.cell? ⟨w5.heap.size, 2, none⟩ = some (.int .i64 S0.hx) ∧ w'.cell? ⟨w5.heap.size, 3, none⟩ = some (.int .i64 S0.hy) ∧ w'.cell? ⟨w5.heap.size, 4, none⟩ = some (.slice RQ1 S0.r.length rq1) ∧ w'.cell? ⟨w5.heap.size, 5, none⟩ = some (.slice OQ1 S0.o.length oq1) ∧ w'.cell? ⟨w5.heap.size, 6, none⟩ = some (.slice TQ1 S0.t.length tq1) ∧ w'.cell? ⟨w.heap.size, 0, none⟩ = some (.int .i64 S0.lx) ∧ w'.cell? ⟨w.heap.size, 1, none⟩ = some (.int .i64 S0.ly) ∧ w'.cell? ⟨w.heap.size, 2, none⟩ = some (.int .i64 S0.hx) ∧ w'.cell? ⟨w.heap.size, 3, none⟩ = some (.int .i64 S0.hy) ∧ w'.cell? ⟨w.heap.size, 4, none⟩ = some (.slice RA0 S0.r.length rc0) ∧ w'.cell? ⟨w.heap.size, 5, none⟩ = some (.slice OA0 S0.o.length oc0) ∧ w'.cell? ⟨w.heap.size, 6, none⟩ = some (.slice TA0 S0.t.length tc0))
      (first | (with_reducible exact HKS.out _ HS2.out) | (with_reducible exact HKS.out _ HS1.out) | (with_reducible exact HKS.out _ HS0.out))
      (first
        | (go_at_call 9; refine (HCi.out _ HS0.out).mono ?_; rintro e u1 ⟨p0, p1, p2, p3, p4, p5, p6, rfl, e1, hb1⟩; have HB1 := hide hb1; have HS1 := hide (below_then HS0.out hb1))
        | (go_at_call 13; refine (HF.out _ _ HS0.out HB1.out _ _ _ _ _ _ _ e1).mono ?_; rintro e u2 ⟨rfl, hb2⟩; have HS2 := hide (below_then HS1.out hb2)))
  have hb11 := HS2.out
  obtain ⟨w11, hw11⟩ : ∃ x, x = u2 := ⟨_, rfl⟩
  subst hw11
  clear HKS HCi HF HS0 HPi HPj HS1 HS2 HB1 HOd hb1 hb2 e1
  clear yP00 yP01 yP02 yP03 yP04 yP05 yP06 yx00 yx01 yx02 yx03 yx04 yx05 yx06
  have hs11 := hb11.size
  have o0 := o0.below hb11 (by omega)
  have o1 := o1.below hb11 (by omega)
  have o2 := o2.below hb11 (by omega)
  have o3 := o3.below hb11 (by omega)
  have bP0 := bP0.below hb11 bP0.lt
  have bP2 := bP2.below hb11 bP2.lt
  have bx0 := bx0.below hb11 bx0.lt
  have bx2 := bx2.below hb11 bx2.lt
  have I0 := I0.below (Below.mono hb11 (by omega))
  have I2 := I2.below (Below.mono hb11 (by omega))
  have hT11 := below_then hT10 hb11
  clear hT10
  clear hb11
  go_upto_region 16 with fail
  obtain ⟨yP20, yP21, yP22, yP23, yP24, yP25⟩ := bP2.cells6
  obtain ⟨yx20, yx21, yx22, yx23, yx24, yx25⟩ := bx2.cells6
  have HPi := hide bP2
  have HPj := hide bx2
  have HKS := hide (fun (W : World) (hq : Below w11.heap.size w11 W) => (⟨(HPj.out.below hq HPj.out.lt).cell 0, (HPj.out.below hq HPj.out.lt).cell 1, (HPj.out.below hq HPj.out.lt).cell 2, (HPj.out.below hq HPj.out.lt).cell 3, (HPj.out.below hq HPj.out.lt).cell 4, (HPj.out.below hq HPj.out.lt).cell 5, (HPi.out.below hq HPi.out.lt).cell 0, (HPi.out.below hq HPi.out.lt).cell 1, (HPi.out.below hq HPi.out.lt).cell 2, (HPi.out.below hq HPi.out.lt).cell 3, (HPi.out.below hq HPi.out.lt).cell 4, (HPi.out.below hq HPi.out.lt).cell 5⟩ : W.cell? ⟨w7.heap.size, 0, none⟩ = some (.bool xb) ∧ W.cell? ⟨w7.heap.size, 1, none⟩ = some (.slice xA xn xc) ∧ W.cell? ⟨w7.heap.size, 2, none⟩ = some (.slice xD xm xk) ∧ W.cell? ⟨w7.heap.size, 3, none⟩ = some (.bool xyb) ∧ W.cell? ⟨w7.heap.size, 4, none⟩ = some (.slice xyA xyn xyc) ∧ W.cell? ⟨w7.heap.size, 5, none⟩ = some (.slice xyD xym xyk) ∧ W.cell? ⟨w.heap.size + 1, 0, none⟩ = some (p20) ∧ W.cell? ⟨w.heap.size + 1, 1, none⟩ = some (p21) ∧ W.cell? ⟨w.heap.size + 1, 2, none⟩ = some (p22) ∧ W.cell? ⟨w.heap.size + 1, 3, none⟩ = some (p23) ∧ W.cell? ⟨w.heap.size + 1, 4, none⟩ = some (p24) ∧ W.cell? ⟨w.heap.size + 1, 5, none⟩ = some (p25)))
  have HCi := hide (fun (W : World) (hq : Below w11.heap.size w11 W) => toP_any W w.heap.size (by have := hT11.size; have := hq.size; omega) (I2.below (hq.mono hT11.size)))
  have HE := hide (fun (W : World) (hq : Below w11.heap.size w11 W) => ((o2.in_ HPF.out (show _ ≤ w11.heap.size by omega)).below hq).wider hq.size)
  have HS0 : Hid (Below w11.heap.size w11 w11.drew) := (Below.refl _ _).drew
  go_region_held3 (fun w' => w'.cell? ⟨w7.heap.size, 0, none⟩ = some (.bool xb) ∧ w'.cell? ⟨w7.heap.size, 1, none⟩ = some (.slice xA xn xc) ∧ w'.cell? ⟨w7.heap.size, 2, none⟩ = some (.slice xD xm xk) ∧ w'.cell? ⟨w7.heap.size, 3, none⟩ = some (.bool xyb) ∧ w'.cell? ⟨w7.heap.size, 4, none⟩ = some (.slice xyA xyn xyc) ∧ w'.cell? ⟨w7.heap.size, 5, none⟩ = some (.slice xyD xym xyk) ∧ w'.cell? ⟨w.heap.size + 1, 0, none⟩ = some (p20) ∧ w'.cell? ⟨w.heap.size + 1, 1, none⟩ = some (p21) ∧ w'.cell? ⟨w.heap.size + 1, 2, none⟩ = some (p22) ∧ w'.cell? ⟨w.heap.size + 1, 3, none⟩ = some (p23) ∧ w'.cell? ⟨w.heap.size + 1, 4, none⟩ = some (p24) ∧ w'.cell? ⟨w.heap.size + 1, 5, none⟩ = some (p25))
      (first | (with_reducible exact HKS.out _ HS2.out) | (with_reducible exact HKS.out _ HS1.out) | (with_reducible exact HKS.out _ HS0.out))
      (first
        | (go_at_call 14; have HX := HS1.out; refine (eqP_any u1 u1.heap.size (Nat.le_refl _) (HE.out _ HX) qp).mono ?_; rintro e u2 ⟨rfl, hb2⟩; have HS2 := hide (below_then HX hb2); clear HX)
        | (go_at_call 10; have HX := HS0.out; refine (HCi.out _ HX).mono ?_; rintro e u1 ⟨z0, z1, z2, z3, z4, z5, rfl, oz, hb1⟩; obtain ⟨zb, zA, zn, zc, zD, zm, zk, zyb, zyA, zyn, zyc, zyD, zym, zyk, rfl, rfl, rfl, rfl, rfl, rfl⟩ := oz.cut; have qp := oz.in_ HPF.out (Nat.le_refl _); have HS1 := hide (below_then HX hb1); clear HX))
  have hb12 := HS2.out
  obtain ⟨w12, hw12⟩ : ∃ x, x = u2 := ⟨_, rfl⟩
  subst hw12
  clear HKS HCi HE HS0 HPi HPj HS1 HS2 hb1 hb2 qp oz
  clear yP20 yP21 yP22 yP23 yP24 yP25 yx20 yx21 yx22 yx23 yx24 yx25
  have hs12 := hb12.size
  have o0 := o0.below hb12 (by omega)
  have o1 := o1.below hb12 (by omega)
  have o2 := o2.below hb12 (by omega)
  have o3 := o3.below hb12 (by omega)
  have bP0 := bP0.below hb12 bP0.lt
  have bP2 := bP2.below hb12 bP2.lt
  have bx0 := bx0.below hb12 bx0.lt
  have bx2 := bx2.below hb12 bx2.lt
  have I0 := I0.below (Below.mono hb12 (by omega))
  have I2 := I2.below (Below.mono hb12 (by omega))
  have hT12 := below_then hT11 hb12
  clear hT11
  clear hb12
  obtain ⟨yx00, yx01, yx02, yx03, yx04, yx05, yx06⟩ := bx0.cells7
  go_wp2_with fail
  refine (markScn_own w12 _ _ (1) o1 (by omega) (by omega) (by omega)).mono ?_
  rintro e w13 ⟨he, r1, ha13⟩
  clear yx00 yx01 yx02 yx03 yx04 yx05 yx06
  obtain ⟨K1, hK1⟩ : ∃ K : Nat, K = 1 + sizS S0 := ⟨_, rfl⟩
  have bK1 : K1 ≤ 3000000 := by have := sizS_le S0; omega
  rw [← hK1] at he
  subst he
  have HK1 := hide hK1
  clear hK1
  have hnnK1 : ¬ (K1 : Int) < 0 := by omega
  have hs13 := ha13.size
  have o0 := o0.aside ha13 (by omega)
  have o2 := o2.aside ha13 (by omega)
  have o3 := o3.aside ha13 (by omega)
  have bP0 := bP0.aside ha13 (by omega)
  have bP2 := bP2.aside ha13 (by omega)
  have bx0 := bx0.aside ha13 (by omega)
  have bx2 := bx2.aside ha13 (by omega)
  have I0 := I0.below (Aside.below ha13 (by omega) (by omega))
  have I2 := I2.below (Aside.below ha13 (by omega) (by omega))
  have hT13 := hT12.trans (Aside.below ha13 (by omega) (by omega))
  clear hT12
  have o1 := r1
  clear r1 ha13
  obtain ⟨yx20, yx21, yx22, yx23, yx24, yx25⟩ := bx2.cells6
  go_wp2_with fail
  refine (markP_own w13 (w6.heap.size) (w7.heap.size) 3 (K1) o2 (by omega) HPF.out (by omega)).mono ?_
  rintro e w14 ⟨he, r2, ha14⟩
  clear yx20 yx21 yx22 yx23 yx24 yx25
  have hcz := sizP_le HPF.out
  obtain ⟨K2, hK2⟩ : ∃ K : Nat, K = K1 + sizP PZ := ⟨_, rfl⟩
  have bK2 : K2 ≤ 8000000 := by omega
  rw [← hK2] at he
  subst he
  have HK2 := hide hK2
  clear hK2 hcz
  have hnnK2 : ¬ (K2 : Int) < 0 := by omega
  have hs14 := ha14.size
  have o0 := o0.aside ha14 (by omega)
  have o1 := o1.aside ha14 (by omega)
  have o3 := o3.aside ha14 (by omega)
  have bP0 := bP0.aside ha14 (by omega)
  have bP2 := bP2.aside ha14 (by omega)
  have bx0 := bx0.aside ha14 (by omega)
  have bx2 := bx2.aside ha14 (by omega)
  have I0 := I0.below (Aside.below ha14 (by omega) (by omega))
  have I2 := I2.below (Aside.below ha14 (by omega) (by omega))
  have hT14 := hT13.trans (Aside.below ha14 (by omega) (by omega))
  clear hT13
  have o2 := r2
  clear r2 ha14
  go_wp2_with fail
  refine (eqPS_any w14 w14.heap.size (Nat.le_refl _) RV3 (corL S0 a1 PZ).length rv3 ps3 (o3.rdPS (by omega) (HFT.out _ ct3)) RV0 rv0 ps0 (o0.rdPS (by omega) (HFT.out _ ct0)) (by rw [ct3, ct0]) (by omega)).mono ?_
  rintro e w15 ⟨rfl, hb15⟩
  have hs15 := hb15.size
  have o0 := o0.below hb15 (by omega)
  have o1 := o1.below hb15 (by omega)
  have o2 := o2.below hb15 (by omega)
  have o3 := o3.below hb15 (by omega)
  have bP0 := bP0.below hb15 bP0.lt
  have bP2 := bP2.below hb15 bP2.lt
  have bx0 := bx0.below hb15 bx0.lt
  have bx2 := bx2.below hb15 bx2.lt
  have I0 := I0.below (Below.mono hb15 (by omega))
  have I2 := I2.below (Below.mono hb15 (by omega))
  have hT15 := below_then hT14 hb15
  clear hT14
  clear hb15
  clear o1
  clear o2
  clear bx0
  clear bx2
  go_wp2_with fail
  refine (markPS_own w15 _ (corL S0 a1 PZ).length 1 _ _ ps3 o3 ⟨by omega, by have := (HSZ.out _ ct3).1; omega⟩ (fun s hs => by have := (HSZ.out _ ct3).2 s hs; omega) (by omega)).mono ?_
  rintro e w16 ⟨he, r3, ha16⟩
  obtain ⟨K3, hK3⟩ : ∃ K : Nat, K = 1 + sizL (pts ps3) := ⟨_, rfl⟩
  have bK3 : K3 ≤ 40000000 := by have := (HSZ.out _ ct3).1; omega
  rw [← hK3] at he
  subst he
  have HK3 := hide hK3
  clear hK3
  have hnnK3 : ¬ (K3 : Int) < 0 := by omega
  have hs16 := ha16.size
  have o0 := o0.aside ha16 (by omega)
  have bP0 := bP0.aside ha16 (by omega)
  have bP2 := bP2.aside ha16 (by omega)
  have I0 := I0.below (Aside.below ha16 (by omega) (by omega))
  have I2 := I2.below (Aside.below ha16 (by omega) (by omega))
  have hT16 := hT15.trans (Aside.below ha16 (by omega) (by omega))
  clear hT15
  have o3 := r3
  clear r3 ha16
  go_wp2_with fail
  refine (heldPS_own w16 RV3 (corL S0 a1 PZ).length rv3 1 _ _ ps3 o3 ⟨by omega, by have := (HSZ.out _ ct3).1; omega⟩ (fun s hs => by have := (HSZ.out _ ct3).2 s hs; omega) (by omega)).mono ?_
  rintro e w' ⟨he, rfl⟩
  rw [← HK3.out] at he
  subst he
  go_upto_region 31 with fail
  obtain ⟨yP00, yP01, yP02, yP03, yP04, yP05, yP06⟩ := bP0.cells7
  obtain ⟨yP20, yP21, yP22, yP23, yP24, yP25⟩ := bP2.cells6
  have HPi := hide bP0
  have HPj := hide bP2
  have HKS := hide (fun (W : World) (hq : Below w16.heap.size w16 W) => (⟨(HPi.out.below hq HPi.out.lt).cell 0, (HPi.out.below hq HPi.out.lt).cell 1, (HPi.out.below hq HPi.out.lt).cell 2, (HPi.out.below hq HPi.out.lt).cell 3, (HPi.out.below hq HPi.out.lt).cell 4, (HPi.out.below hq HPi.out.lt).cell 5, (HPi.out.below hq HPi.out.lt).cell 6, (HPj.out.below hq HPj.out.lt).cell 0, (HPj.out.below hq HPj.out.lt).cell 1, (HPj.out.below hq HPj.out.lt).cell 2, (HPj.out.below hq HPj.out.lt).cell 3, (HPj.out.below hq HPj.out.lt).cell 4, (HPj.out.below hq HPj.out.lt).cell 5⟩ : W.cell? ⟨w.heap.size, 0, none⟩ = some (.int .i64 S0.lx) ∧ W.cell? ⟨w.heap.size, 1, none⟩ = some (.int .i64 S0.ly) ∧ W.cell? ⟨w.heap.size, 2, none⟩ = some (.int .i64 S0.hx) ∧ W.cell? ⟨w.heap.size, 3, none⟩ = some (.int .i64 S0.hy) ∧ W.cell? ⟨w.heap.size, 4, none⟩ = some (.slice RA0 S0.r.length rc0) ∧ W.cell? ⟨w.heap.size, 5, none⟩ = some (.slice OA0 S0.o.length oc0) ∧ W.cell? ⟨w.heap.size, 6, none⟩ = some (.slice TA0 S0.t.length tc0) ∧ W.cell? ⟨w.heap.size + 1, 0, none⟩ = some (p20) ∧ W.cell? ⟨w.heap.size + 1, 1, none⟩ = some (p21) ∧ W.cell? ⟨w.heap.size + 1, 2, none⟩ = some (p22) ∧ W.cell? ⟨w.heap.size + 1, 3, none⟩ = some (p23) ∧ W.cell? ⟨w.heap.size + 1, 4, none⟩ = some (p24) ∧ W.cell? ⟨w.heap.size + 1, 5, none⟩ = some (p25)))
  have HCi := hide (fun (W : World) (hq : Below w16.heap.size w16 W) => toScn_any W w.heap.size (by have := hT16.size; have := hq.size; omega) (I0.below (hq.mono hT16.size)))
  have HCj := hide (fun (W : World) (hq : Below w16.heap.size w16 W) => toP_any W w.heap.size (by have := hT16.size; have := hq.size; omega) (I2.below (hq.mono hT16.size)))
  have HF := hide (fun (W : World) (hq : Below w.heap.size w W) (p0 p1 p2 p3 p4 p5 p6 : Value) (r : SIn W W.heap.size p0 p1 p2 p3 p4 p5 p6 S0) (z0 z1 z2 z3 z4 z5 : Value) (rp : PIn W W.heap.size z0 z1 z2 z3 z4 z5 PZ) => impl_RobotCorners W W.heap.size (Nat.le_refl _) r a1 f1 rp (hQ.below hq (Nat.le_refl _)))
  have HS0 : Hid (Below w16.heap.size w16 w16.drew) := (Below.refl _ _).drew
  have HTk := hide hT16
  go_region_held3 (fun w' => w'.cell? ⟨w.heap.size, 0, none⟩ = some (.int .i64 S0.lx) ∧ w'.cell? ⟨w.heap.size, 1, none⟩ = some (.int .i64 S0.ly) ∧ w'.cell? ⟨w.heap.size, 2, none⟩ = some (.int .i64 S0.hx) ∧ w'.cell? ⟨w.heap.size, 3, none⟩ = some (.int .i64 S0.hy) ∧ w'.cell? ⟨w.heap.size, 4, none⟩ = some (.slice RA0 S0.r.length rc0) ∧ w'.cell? ⟨w.heap.size, 5, none⟩ = some (.slice OA0 S0.o.length oc0) ∧ w'.cell? ⟨w.heap.size, 6, none⟩ = some (.slice TA0 S0.t.length tc0) ∧ w'.cell? ⟨w.heap.size + 1, 0, none⟩ = some (p20) ∧ w'.cell? ⟨w.heap.size + 1, 1, none⟩ = some (p21) ∧ w'.cell? ⟨w.heap.size + 1, 2, none⟩ = some (p22) ∧ w'.cell? ⟨w.heap.size + 1, 3, none⟩ = some (p23) ∧ w'.cell? ⟨w.heap.size + 1, 4, none⟩ = some (p24) ∧ w'.cell? ⟨w.heap.size + 1, 5, none⟩ = some (p25))
      (first | (with_reducible exact HKS.out _ HS3.out) | (with_reducible exact HKS.out _ HS2.out) | (with_reducible exact HKS.out _ HS1.out) | (with_reducible exact HKS.out _ HS0.out))
      (first
        | (go_at_call 11; have HX := HS2.out; refine (HF.out _ (below_then HTk.out HX) _ _ _ _ _ _ _ qs _ _ _ _ _ _ qp).mono ?_; rintro e u3 ⟨vr, ps4, rfl, o4, ct4, hb3⟩; obtain ⟨RV4, rv4, rfl⟩ := o4.form; have hz3 := hb3.size; have HS3 := hide (below_then HX hb3); clear HX)
        | (go_at_call 10; have HX := HS1.out; refine (HCj.out _ HX).mono ?_; rintro e u2 ⟨z0, z1, z2, z3, z4, z5, rfl, oz, hb2⟩; obtain ⟨zb, zA, zn, zc, zD, zm, zk, zyb, zyA, zyn, zyc, zyD, zym, zyk, rfl, rfl, rfl, rfl, rfl, rfl⟩ := oz.cut; have qp := oz.in_ HPF.out (Nat.le_refl _); have qs := qs.up hb2; have hz2 := hb2.size; have HS2 := hide (below_then HX hb2); clear HX)
        | (go_at_call 9; have HX := HS0.out; refine (HCi.out _ HX).mono ?_; rintro e u1 ⟨p0, p1, p2, p3, p4, p5, p6, rfl, e1, hb1⟩; obtain ⟨sA, sa, sB, sb, sC, sc, ⟨rfl, rfl, rfl, rfl, rfl, rfl, rfl⟩⟩ := e1.form; have qs := e1.in_ HA0.out.1 HA0.out.2.1 HA0.out.2.2 (Nat.le_refl _); have hz1 : w16.heap.size ≤ u1.heap.size := hb1.size; have HS1 := hide (below_then HX hb1); clear HX))
  have hb17 := HS3.out
  have o4 := o4.wider (show w16.heap.size ≤ u2.heap.size by omega) (Nat.le_refl _)
  obtain ⟨w17, hw17⟩ : ∃ x, x = u3 := ⟨_, rfl⟩
  subst hw17
  clear HKS HCi HCj HF HS0 HPi HPj HS1 HS2 HS3 HTk hb1 hb2 hb3 e1 qs qp oz
  clear yP00 yP01 yP02 yP03 yP04 yP05 yP06 yP20 yP21 yP22 yP23 yP24 yP25
  have hs17 := hb17.size
  have o0 := o0.below hb17 (by omega)
  have o3 := o3.below hb17 (by omega)
  have bP0 := bP0.below hb17 bP0.lt
  have bP2 := bP2.below hb17 bP2.lt
  have I0 := I0.below (Below.mono hb17 (by omega))
  have I2 := I2.below (Below.mono hb17 (by omega))
  have hT17 := below_then hT16 hb17
  clear hT16
  clear hb17
  go_wp2_with fail
  refine (eqPS_any w17 w17.heap.size (Nat.le_refl _) RV4 (corL S0 a1 PZ).length rv4 ps4 (o4.rdPS (by omega) (HFT.out _ ct4)) RV0 rv0 ps0 (o0.rdPS (by omega) (HFT.out _ ct0)) (by rw [ct4, ct0]) (by omega)).mono ?_
  rintro e w18 ⟨rfl, hb18⟩
  have hs18 := hb18.size
  have o0 := o0.below hb18 (by omega)
  have o3 := o3.below hb18 (by omega)
  have o4 := o4.below hb18 (by omega)
  have bP0 := bP0.below hb18 bP0.lt
  have bP2 := bP2.below hb18 bP2.lt
  have I0 := I0.below (Below.mono hb18 (by omega))
  have I2 := I2.below (Below.mono hb18 (by omega))
  have hT18 := below_then hT17 hb18
  clear hT17
  clear hb18
  go_wp2_with fail
  refine (heldPS_own w18 RV3 (corL S0 a1 PZ).length rv3 1 _ _ ps3 o3 ⟨by omega, by have := (HSZ.out _ ct3).1; omega⟩ (fun s hs => by have := (HSZ.out _ ct3).2 s hs; omega) (by omega)).mono ?_
  rintro e w' ⟨he, rfl⟩
  rw [← HK3.out] at he
  subst he
  clear o3
  clear o0
  clear o4
  go_wp2_with fail
  go_ret
  exact ⟨rfl, hT18⟩
end Go.Proofs.YtocllmaikngoaaaGreatDoor
