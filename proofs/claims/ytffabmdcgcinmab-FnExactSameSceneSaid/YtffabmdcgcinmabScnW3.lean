/-
  The exact laws' walks: SameScene.
-/
import Derived.Test.YtffabmdcgcinmabSB
import Derived.Test.YtffabmdcgcinmabScnJ
import Derived.Test.YtffabmdcgcinmabScnK
namespace Go.Proofs.Ytffabmdcgcinmab
open Go.RowKit
set_option linter.unusedVariables false
set_option maxHeartbeats 16000000 in
set_option maxRecDepth 100000 in
theorem FnExactSameScene_walk (w : World) {v00 v01 v02 v03 v04 v05 v06 : Value} (S0 : Scn) (f0 : SArg w v00 v01 v02 v03 v04 v05 v06 S0) {v10 v11 v12 v13 v14 v15 v16 : Value} (S1 : Scn) (f1 : SArg w v10 v11 v12 v13 v14 v15 v16 S1) :
    Calls Try.prog 5 #[.agg #[v00, v01, v02, v03, v04, v05, v06], .agg #[v10, v11, v12, v13, v14, v15, v16]] w fun e w' => e = .returned (.bool true) ∧ Below w.heap.size w w' := by
  obtain ⟨RA0, rc0, OA0, oc0, TA0, tc0, ⟨rfl, rfl, rfl, rfl, rfl, rfl, rfl⟩⟩ := f0.form
  obtain ⟨RA1, rc1, OA1, oc1, TA1, tc1, ⟨rfl, rfl, rfl, rfl, rfl, rfl, rfl⟩⟩ := f1.form
  obtain ⟨w1, hw1⟩ : ∃ x, x = ((w.alloc (.cells #[.int .i64 S0.lx, .int .i64 S0.ly, .int .i64 S0.hx, .int .i64 S0.hy, .slice RA0 S0.r.length rc0, .slice OA0 S0.o.length oc0, .slice TA0 S0.t.length tc0] 27)).alloc (.cells #[.int .i64 S1.lx, .int .i64 S1.ly, .int .i64 S1.hx, .int .i64 S1.hy, .slice RA1 S1.r.length rc1, .slice OA1 S1.o.length oc1, .slice TA1 S1.t.length tc1] 27)) := ⟨_, rfl⟩
  have hT1 : Below w.heap.size w w1 := by rw [hw1]; exact below_alloc (below_new _ _) _
  have hs1 := hT1.size
  have bP0 : Box w1 w.heap.size 27 #[.int .i64 S0.lx, .int .i64 S0.ly, .int .i64 S0.hx, .int .i64 S0.hy, .slice RA0 S0.r.length rc0, .slice OA0 S0.o.length oc0, .slice TA0 S0.t.length tc0] := by rw [hw1]; exact (Box.last _ _ _ rfl).alloc _
  have bP1 : Box w1 (w.heap.size + 1) 27 #[.int .i64 S1.lx, .int .i64 S1.ly, .int .i64 S1.hx, .int .i64 S1.hy, .slice RA1 S1.r.length rc1, .slice OA1 S1.o.length oc1, .slice TA1 S1.t.length tc1] := by rw [hw1]; exact Box.last _ _ _ (alloc_size _ _).symm
  have hq1 : w.heap.size + 2 ≤ w1.heap.size := by rw [hw1, alloc_size, alloc_size]; omega
  obtain ⟨m0, hm0e⟩ : ∃ m, m = totS S0 := ⟨_, rfl⟩
  have D0 := hide (fun (W : World) (hb : Below w.heap.size w W) (k : Nat) (hk : k ≤ 1048576) => szScn_any W S0 (f0.below hb) k hk)
  rw [← hm0e] at D0
  have HME0 := hide hm0e
  clear hm0e
  obtain ⟨m1, hm1e⟩ : ∃ m, m = totS S1 := ⟨_, rfl⟩
  have D1 := hide (fun (W : World) (hb : Below w.heap.size w W) (k : Nat) (hk : k ≤ 1048576) => szScn_any W S1 (f1.below hb) k hk)
  rw [← hm1e] at D1
  have HME1 := hide hm1e
  clear hm1e
  have C0 := hide (fun (W : World) (hb : Below w.heap.size w W) => D0.out W hb (1048576) (by omega))
  by_cases c0 : m0 ≤ 1048576
  case neg =>
    rw [szR_no (by omega)] at C0
    clear D0 D1
    go_enter Try.func5, Try.ntmps5
    go_upto_region 1 with fail
    rw [← hw1]
    clear hw1
    obtain ⟨yP00, yP01, yP02, yP03, yP04, yP05, yP06⟩ := bP0.cells7
    go_wp2_with fail
    refine (C0.out _ hT1).mono ?_
    rintro e w2 ⟨rfl, hb2⟩
    clear yP00 yP01 yP02 yP03 yP04 yP05 yP06
    have hs2 := hb2.size
    have bP0 := bP0.below hb2 bP0.lt
    have bP1 := bP1.below hb2 bP1.lt
    have hT2 := below_then hT1 hb2
    clear hT1 hb2
    go_wp2_with fail
    go_ret
    exact ⟨rfl, hT2⟩
  obtain ⟨lf0, hlf0⟩ : ∃ r : Nat, r + m0 = 1048576 := ⟨1048576 - m0, by omega⟩
  have hr0 : szR (1048576) m0 = (lf0 : Int) := by rw [szR_ok c0]; congr 1; omega
  rw [hr0] at C0
  have hnn0 : ¬ (lf0 : Int) < 0 := by omega
  have hlb0 : lf0 ≤ 1048576 := by omega
  clear hr0
  have C1 := hide (fun (W : World) (hb : Below w.heap.size w W) => D1.out W hb (lf0) (by omega))
  by_cases c1 : m1 ≤ lf0
  case neg =>
    rw [szR_no (by omega)] at C1
    clear D0 D1
    go_enter Try.func5, Try.ntmps5
    go_upto_region 1 with fail
    rw [← hw1]
    clear hw1
    obtain ⟨yP00, yP01, yP02, yP03, yP04, yP05, yP06⟩ := bP0.cells7
    go_wp2_with fail
    refine (C0.out _ hT1).mono ?_
    rintro e w2 ⟨rfl, hb2⟩
    clear yP00 yP01 yP02 yP03 yP04 yP05 yP06
    have hs2 := hb2.size
    have bP0 := bP0.below hb2 bP0.lt
    have bP1 := bP1.below hb2 bP1.lt
    have hT2 := below_then hT1 hb2
    clear hT1 hb2
    obtain ⟨yP10, yP11, yP12, yP13, yP14, yP15, yP16⟩ := bP1.cells7
    go_wp2_with fail
    refine (C1.out _ hT2).mono ?_
    rintro e w3 ⟨rfl, hb3⟩
    clear yP10 yP11 yP12 yP13 yP14 yP15 yP16
    have hs3 := hb3.size
    have bP0 := bP0.below hb3 bP0.lt
    have bP1 := bP1.below hb3 bP1.lt
    have hT3 := below_then hT2 hb3
    clear hT2 hb3
    go_wp2_with fail
    go_ret
    exact ⟨rfl, hT3⟩
  obtain ⟨lf1, hlf1⟩ : ∃ r : Nat, r + m1 = lf0 := ⟨lf0 - m1, by omega⟩
  have hr1 : szR (lf0) m1 = (lf1 : Int) := by rw [szR_ok c1]; congr 1; omega
  rw [hr1] at C1
  have hnn1 : ¬ (lf1 : Int) < 0 := by omega
  have hlb1 : lf1 ≤ 1048576 := by omega
  clear hr1
  clear D0 D1
  have HMB0 : m0 ≤ 1048576 := by omega
  rw [HME0.out] at HMB0
  have HMB1 : m1 ≤ 1048576 := by omega
  rw [HME1.out] at HMB1
  have hM0 := HMB0
  clear HMB0 HME0
  have I0 := f0.in_ hM0
  have HA0 : Hid (SFit S0 ∧ wf4 S0 ∧ SShort S0) := ⟨I0.fit.1, I0.fit.2, short_of hM0⟩
  clear f0
  have hM1 := HMB1
  clear HMB1 HME1
  have I1 := f1.in_ hM1
  have HA1 : Hid (SFit S1 ∧ wf4 S1 ∧ SShort S1) := ⟨I1.fit.1, I1.fit.2, short_of hM1⟩
  clear f1
  have HLF0 := hide hlf0
  clear hlf0 c0
  have HLF1 := hide hlf1
  clear hlf1 c1
  have I0 := I0.below hT1
  have I1 := I1.below hT1
  go_enter Try.func5, Try.ntmps5
  go_upto_region 1 with fail
  rw [← hw1]
  clear hw1
  obtain ⟨yP00, yP01, yP02, yP03, yP04, yP05, yP06⟩ := bP0.cells7
  go_wp2_with fail
  refine (C0.out _ hT1).mono ?_
  rintro e w2 ⟨rfl, hb2⟩
  clear yP00 yP01 yP02 yP03 yP04 yP05 yP06
  have hs2 := hb2.size
  have bP0 := bP0.below hb2 bP0.lt
  have bP1 := bP1.below hb2 bP1.lt
  have I0 := I0.below (Below.mono hb2 (by omega))
  have I1 := I1.below (Below.mono hb2 (by omega))
  have hT2 := below_then hT1 hb2
  clear hT1
  clear hb2
  obtain ⟨yP10, yP11, yP12, yP13, yP14, yP15, yP16⟩ := bP1.cells7
  go_wp2_with fail
  refine (C1.out _ hT2).mono ?_
  rintro e w3 ⟨rfl, hb3⟩
  clear yP10 yP11 yP12 yP13 yP14 yP15 yP16
  have hs3 := hb3.size
  have bP0 := bP0.below hb3 bP0.lt
  have bP1 := bP1.below hb3 bP1.lt
  have I0 := I0.below (Below.mono hb3 (by omega))
  have I1 := I1.below (Below.mono hb3 (by omega))
  have hT3 := below_then hT2 hb3
  clear hT2
  clear hb3
  clear C0 C1
  go_upto_region 8 with fail
  obtain ⟨yP00, yP01, yP02, yP03, yP04, yP05, yP06⟩ := bP0.cells7
  obtain ⟨yP10, yP11, yP12, yP13, yP14, yP15, yP16⟩ := bP1.cells7
  have HPi := hide bP0
  have HPj := hide bP1
  have HKS := hide (fun (W : World) (hq : Below w3.heap.size w3 W) => (⟨(HPi.out.below hq HPi.out.lt).cell 0, (HPi.out.below hq HPi.out.lt).cell 1, (HPi.out.below hq HPi.out.lt).cell 2, (HPi.out.below hq HPi.out.lt).cell 3, (HPi.out.below hq HPi.out.lt).cell 4, (HPi.out.below hq HPi.out.lt).cell 5, (HPi.out.below hq HPi.out.lt).cell 6, (HPj.out.below hq HPj.out.lt).cell 0, (HPj.out.below hq HPj.out.lt).cell 1, (HPj.out.below hq HPj.out.lt).cell 2, (HPj.out.below hq HPj.out.lt).cell 3, (HPj.out.below hq HPj.out.lt).cell 4, (HPj.out.below hq HPj.out.lt).cell 5, (HPj.out.below hq HPj.out.lt).cell 6⟩ : W.cell? ⟨w.heap.size, 0, none⟩ = some (.int .i64 S0.lx) ∧ W.cell? ⟨w.heap.size, 1, none⟩ = some (.int .i64 S0.ly) ∧ W.cell? ⟨w.heap.size, 2, none⟩ = some (.int .i64 S0.hx) ∧ W.cell? ⟨w.heap.size, 3, none⟩ = some (.int .i64 S0.hy) ∧ W.cell? ⟨w.heap.size, 4, none⟩ = some (.slice RA0 S0.r.length rc0) ∧ W.cell? ⟨w.heap.size, 5, none⟩ = some (.slice OA0 S0.o.length oc0) ∧ W.cell? ⟨w.heap.size, 6, none⟩ = some (.slice TA0 S0.t.length tc0) ∧ W.cell? ⟨(w.heap.size + 1), 0, none⟩ = some (.int .i64 S1.lx) ∧ W.cell? ⟨(w.heap.size + 1), 1, none⟩ = some (.int .i64 S1.ly) ∧ W.cell? ⟨(w.heap.size + 1), 2, none⟩ = some (.int .i64 S1.hx) ∧ W.cell? ⟨(w.heap.size + 1), 3, none⟩ = some (.int .i64 S1.hy) ∧ W.cell? ⟨(w.heap.size + 1), 4, none⟩ = some (.slice RA1 S1.r.length rc1) ∧ W.cell? ⟨(w.heap.size + 1), 5, none⟩ = some (.slice OA1 S1.o.length oc1) ∧ W.cell? ⟨(w.heap.size + 1), 6, none⟩ = some (.slice TA1 S1.t.length tc1)))
  have HCi := hide (fun (W : World) (hq : Below w3.heap.size w3 W) => toScn_any W w.heap.size (by have := hT3.size; have := hq.size; omega) (I0.below (hq.mono hT3.size)))
  have HCj := hide (fun (W : World) (hq : Below w3.heap.size w3 W) => toScn_any W w.heap.size (by have := hT3.size; have := hq.size; omega) (I1.below (hq.mono hT3.size)))
  have HF := hide (fun (W W' : World) (hq : Below W.heap.size W W') (lo lo' : Nat) (p0 p1 p2 p3 p4 p5 p6 r0 r1 r2 r3 r4 r5 r6 : Value) (r : SOwn W lo W.heap.size 30 29 p0 p1 p2 p3 p4 p5 p6 S0) (r' : SOwn W' lo' W'.heap.size 30 29 r0 r1 r2 r3 r4 r5 r6 S1) => spec_SameScene W' W'.heap.size (Nat.le_refl _) ((r.below hq (Nat.le_refl _)).in_ HA0.out.1 HA0.out.2.1 HA0.out.2.2 hq.size) (r'.in_ HA1.out.1 HA1.out.2.1 HA1.out.2.2 (Nat.le_refl _)))
  have HS0 : Hid (Below w3.heap.size w3 w3.drew) := (Below.refl _ _).drew
  go_region_held3 (fun w' => w'.cell? ⟨w.heap.size, 0, none⟩ = some (.int .i64 S0.lx) ∧ w'.cell? ⟨w.heap.size, 1, none⟩ = some (.int .i64 S0.ly) ∧ w'.cell? ⟨w.heap.size, 2, none⟩ = some (.int .i64 S0.hx) ∧ w'.cell? ⟨w.heap.size, 3, none⟩ = some (.int .i64 S0.hy) ∧ w'.cell? ⟨w.heap.size, 4, none⟩ = some (.slice RA0 S0.r.length rc0) ∧ w'.cell? ⟨w.heap.size, 5, none⟩ = some (.slice OA0 S0.o.length oc0) ∧ w'.cell? ⟨w.heap.size, 6, none⟩ = some (.slice TA0 S0.t.length tc0) ∧ w'.cell? ⟨(w.heap.size + 1), 0, none⟩ = some (.int .i64 S1.lx) ∧ w'.cell? ⟨(w.heap.size + 1), 1, none⟩ = some (.int .i64 S1.ly) ∧ w'.cell? ⟨(w.heap.size + 1), 2, none⟩ = some (.int .i64 S1.hx) ∧ w'.cell? ⟨(w.heap.size + 1), 3, none⟩ = some (.int .i64 S1.hy) ∧ w'.cell? ⟨(w.heap.size + 1), 4, none⟩ = some (.slice RA1 S1.r.length rc1) ∧ w'.cell? ⟨(w.heap.size + 1), 5, none⟩ = some (.slice OA1 S1.o.length oc1) ∧ w'.cell? ⟨(w.heap.size + 1), 6, none⟩ = some (.slice TA1 S1.t.length tc1))
      (first | (with_reducible exact HKS.out _ HS3.out) | (with_reducible exact HKS.out _ HS2.out) | (with_reducible exact HKS.out _ HS1.out) | (with_reducible exact HKS.out _ HS0.out))
      (first
        | (go_at_call 16; refine (HF.out _ _ HB2.out _ _ _ _ _ _ _ _ _ _ _ _ _ _ _ _ e1 e2).mono ?_; rintro e u3 ⟨rfl, hb3⟩; have HS3 := hide (below_then HS2.out hb3))
        | (go_at_call 8; have HX := HS1.out; refine (HCj.out _ HX).mono ?_; rintro e u2 ⟨r0, r1, r2, r3, r4, r5, r6, rfl, e2, hb2⟩; have HB2 := hide hb2; have HS2 := hide (below_then HX hb2); clear HX)
        | (go_at_call 8; have HX := HS0.out; refine (HCi.out _ HX).mono ?_; rintro e u1 ⟨p0, p1, p2, p3, p4, p5, p6, rfl, e1, hb1⟩; have HS1 := hide (below_then HX hb1); clear HX))
  have hb4 := HS3.out
  obtain ⟨w4, hw4⟩ : ∃ x, x = u3 := ⟨_, rfl⟩
  subst hw4
  clear HKS HCi HCj HF HS0 HPi HPj HS1 HS2 HS3 HB2 hb1 hb2 hb3 e1 e2
  clear yP00 yP01 yP02 yP03 yP04 yP05 yP06 yP10 yP11 yP12 yP13 yP14 yP15 yP16
  have hs4 := hb4.size
  have bP0 := bP0.below hb4 bP0.lt
  have bP1 := bP1.below hb4 bP1.lt
  have I0 := I0.below (Below.mono hb4 (by omega))
  have I1 := I1.below (Below.mono hb4 (by omega))
  have hT4 := below_then hT3 hb4
  clear hT3
  clear hb4
  obtain ⟨yP00, yP01, yP02, yP03, yP04, yP05, yP06⟩ := bP0.cells7
  go_wp2_with fail
  refine (toScn_any w4 w.heap.size hT4.size I0).mono ?_
  rintro e w5 ⟨q00, q01, q02, q03, q04, q05, q06, rfl, o0, hb5⟩
  obtain ⟨RQ0, rq0, OQ0, oq0, TQ0, tq0, ⟨rfl, rfl, rfl, rfl, rfl, rfl, rfl⟩⟩ := o0.form
  have hs5 := hb5.size
  have bP0 := bP0.below hb5 bP0.lt
  have bP1 := bP1.below hb5 bP1.lt
  have I0 := I0.below (Below.mono hb5 (by omega))
  have I1 := I1.below (Below.mono hb5 (by omega))
  have hT5 := below_then hT4 hb5
  clear hT4
  clear hb5
  clear yP00 yP01 yP02 yP03 yP04 yP05 yP06
  obtain ⟨w6, hw6⟩ : ∃ x, x = w5.alloc (.cells #[.int .i64 S0.lx, .int .i64 S0.ly, .int .i64 S0.hx, .int .i64 S0.hy, .slice RQ0 S0.r.length rq0, .slice OQ0 S0.o.length oq0, .slice TQ0 S0.t.length tq0] 33) := ⟨_, rfl⟩
  have hb6 : Below w5.heap.size w5 w6 := by rw [hw6]; exact below_new _ _
  have hq6 : w5.heap.size < w6.heap.size := by rw [hw6, alloc_size]; omega
  have bn : Box w6 w5.heap.size 33 #[.int .i64 S0.lx, .int .i64 S0.ly, .int .i64 S0.hx, .int .i64 S0.hy, .slice RQ0 S0.r.length rq0, .slice OQ0 S0.o.length oq0, .slice TQ0 S0.t.length tq0] := by rw [hw6]; exact Box.last _ _ _ rfl
  have hs6 := hb6.size
  have o0 := o0.below hb6 (by omega)
  have bP0 := bP0.below hb6 bP0.lt
  have bP1 := bP1.below hb6 bP1.lt
  have I0 := I0.below (Below.mono hb6 (by omega))
  have I1 := I1.below (Below.mono hb6 (by omega))
  have hT6 := below_then hT5 hb6
  clear hT5
  have bx0 := bn
  clear bn
  clear hb6
  go_upto_region 10 with fail
  rw [← hw6]
  clear hw6
  obtain ⟨yP10, yP11, yP12, yP13, yP14, yP15, yP16⟩ := bP1.cells7
  go_wp2_with fail
  refine (toScn_any w6 w.heap.size hT6.size I1).mono ?_
  rintro e w7 ⟨q10, q11, q12, q13, q14, q15, q16, rfl, o1, hb7⟩
  obtain ⟨RQ1, rq1, OQ1, oq1, TQ1, tq1, ⟨rfl, rfl, rfl, rfl, rfl, rfl, rfl⟩⟩ := o1.form
  have hs7 := hb7.size
  have o0 := o0.below hb7 (by omega)
  have bP0 := bP0.below hb7 bP0.lt
  have bP1 := bP1.below hb7 bP1.lt
  have bx0 := bx0.below hb7 bx0.lt
  have I0 := I0.below (Below.mono hb7 (by omega))
  have I1 := I1.below (Below.mono hb7 (by omega))
  have hT7 := below_then hT6 hb7
  clear hT6
  clear hb7
  clear yP10 yP11 yP12 yP13 yP14 yP15 yP16
  obtain ⟨w8, hw8⟩ : ∃ x, x = w7.alloc (.cells #[.int .i64 S1.lx, .int .i64 S1.ly, .int .i64 S1.hx, .int .i64 S1.hy, .slice RQ1 S1.r.length rq1, .slice OQ1 S1.o.length oq1, .slice TQ1 S1.t.length tq1] 33) := ⟨_, rfl⟩
  have hb8 : Below w7.heap.size w7 w8 := by rw [hw8]; exact below_new _ _
  have hq8 : w7.heap.size < w8.heap.size := by rw [hw8, alloc_size]; omega
  have bn : Box w8 w7.heap.size 33 #[.int .i64 S1.lx, .int .i64 S1.ly, .int .i64 S1.hx, .int .i64 S1.hy, .slice RQ1 S1.r.length rq1, .slice OQ1 S1.o.length oq1, .slice TQ1 S1.t.length tq1] := by rw [hw8]; exact Box.last _ _ _ rfl
  have hs8 := hb8.size
  have o0 := o0.below hb8 (by omega)
  have o1 := o1.below hb8 (by omega)
  have bP0 := bP0.below hb8 bP0.lt
  have bP1 := bP1.below hb8 bP1.lt
  have bx0 := bx0.below hb8 bx0.lt
  have I0 := I0.below (Below.mono hb8 (by omega))
  have I1 := I1.below (Below.mono hb8 (by omega))
  have hT8 := below_then hT7 hb8
  clear hT7
  have bx1 := bn
  clear bn
  clear hb8
  go_upto_region 11 with fail
  rw [← hw8]
  clear hw8
  obtain ⟨yx00, yx01, yx02, yx03, yx04, yx05, yx06⟩ := bx0.cells7
  obtain ⟨yx10, yx11, yx12, yx13, yx14, yx15, yx16⟩ := bx1.cells7
  go_wp2_with fail
  refine (impl_SameScene w8 w8.heap.size (Nat.le_refl _) (o0.in_ HA0.out.1 HA0.out.2.1 HA0.out.2.2 (by omega)) (o1.in_ HA1.out.1 HA1.out.2.1 HA1.out.2.2 (by omega))).mono ?_
  rintro e w9 ⟨rfl, hb9⟩
  have hs9 := hb9.size
  have o0 := o0.below hb9 (by omega)
  have o1 := o1.below hb9 (by omega)
  have bP0 := bP0.below hb9 bP0.lt
  have bP1 := bP1.below hb9 bP1.lt
  have bx0 := bx0.below hb9 bx0.lt
  have bx1 := bx1.below hb9 bx1.lt
  have I0 := I0.below (Below.mono hb9 (by omega))
  have I1 := I1.below (Below.mono hb9 (by omega))
  have hT9 := below_then hT8 hb9
  clear hT8
  clear hb9
  clear yx00 yx01 yx02 yx03 yx04 yx05 yx06 yx10 yx11 yx12 yx13 yx14 yx15 yx16
  go_upto_region 14 with fail
  obtain ⟨yP00, yP01, yP02, yP03, yP04, yP05, yP06⟩ := bP0.cells7
  obtain ⟨yx00, yx01, yx02, yx03, yx04, yx05, yx06⟩ := bx0.cells7
  have HPi := hide bP0
  have HPj := hide bx0
  have HKS := hide (fun (W : World) (hq : Below w9.heap.size w9 W) => (⟨(HPj.out.below hq HPj.out.lt).cell 0, (HPj.out.below hq HPj.out.lt).cell 1, (HPj.out.below hq HPj.out.lt).cell 2, (HPj.out.below hq HPj.out.lt).cell 3, (HPj.out.below hq HPj.out.lt).cell 4, (HPj.out.below hq HPj.out.lt).cell 5, (HPj.out.below hq HPj.out.lt).cell 6, (HPi.out.below hq HPi.out.lt).cell 0, (HPi.out.below hq HPi.out.lt).cell 1, (HPi.out.below hq HPi.out.lt).cell 2, (HPi.out.below hq HPi.out.lt).cell 3, (HPi.out.below hq HPi.out.lt).cell 4, (HPi.out.below hq HPi.out.lt).cell 5, (HPi.out.below hq HPi.out.lt).cell 6⟩ : W.cell? ⟨w5.heap.size, 0, none⟩ = some (.int .i64 S0.lx) ∧ W.cell? ⟨w5.heap.size, 1, none⟩ = some (.int .i64 S0.ly) ∧ W.cell? ⟨w5.heap.size, 2, none⟩ = some (.int .i64 S0.hx) ∧ W.cell? ⟨w5.heap.size, 3, none⟩ = some (.int .i64 S0.hy) ∧ W.cell? ⟨w5.heap.size, 4, none⟩ = some (.slice RQ0 S0.r.length rq0) ∧ W.cell? ⟨w5.heap.size, 5, none⟩ = some (.slice OQ0 S0.o.length oq0) ∧ W.cell? ⟨w5.heap.size, 6, none⟩ = some (.slice TQ0 S0.t.length tq0) ∧ W.cell? ⟨w.heap.size, 0, none⟩ = some (.int .i64 S0.lx) ∧ W.cell? ⟨w.heap.size, 1, none⟩ = some (.int .i64 S0.ly) ∧ W.cell? ⟨w.heap.size, 2, none⟩ = some (.int .i64 S0.hx) ∧ W.cell? ⟨w.heap.size, 3, none⟩ = some (.int .i64 S0.hy) ∧ W.cell? ⟨w.heap.size, 4, none⟩ = some (.slice RA0 S0.r.length rc0) ∧ W.cell? ⟨w.heap.size, 5, none⟩ = some (.slice OA0 S0.o.length oc0) ∧ W.cell? ⟨w.heap.size, 6, none⟩ = some (.slice TA0 S0.t.length tc0)))
  have HCi := hide (fun (W : World) (hq : Below w9.heap.size w9 W) => toScn_any W w.heap.size (by have := hT9.size; have := hq.size; omega) (I0.below (hq.mono hT9.size)))
  have HOd := hide o0
  have HF := hide (fun (W W' : World) (hq : Below w9.heap.size w9 W) (hq' : Below W.heap.size W W') (p0 p1 p2 p3 p4 p5 p6 : Value) (r : SOwn W' W.heap.size W'.heap.size 30 29 p0 p1 p2 p3 p4 p5 p6 S0) => eqScn_any W' W'.heap.size (Nat.le_refl _) ((HOd.out.below hq (by omega)).below hq' (by have := hq.size; omega) |>.in_ HA0.out.1 HA0.out.2.1 HA0.out.2.2 (by have := hq.size; have := hq'.size; omega)) (r.in_ HA0.out.1 HA0.out.2.1 HA0.out.2.2 (Nat.le_refl _)))
  have HS0 : Hid (Below w9.heap.size w9 w9.drew) := (Below.refl _ _).drew
  go_region_held3 (fun w' => w'.cell? ⟨w5.heap.size, 0, none⟩ = some (.int .i64 S0.lx) ∧ w'.cell? ⟨w5.heap.size, 1, none⟩ = some (.int .i64 S0.ly) ∧ w'.cell? ⟨w5.heap.size, 2, none⟩ = some (.int .i64 S0.hx) ∧ w'.cell? ⟨w5.heap.size, 3, none⟩ = some (.int .i64 S0.hy) ∧ w'.cell? ⟨w5.heap.size, 4, none⟩ = some (.slice RQ0 S0.r.length rq0) ∧ w'.cell? ⟨w5.heap.size, 5, none⟩ = some (.slice OQ0 S0.o.length oq0) ∧ w'.cell? ⟨w5.heap.size, 6, none⟩ = some (.slice TQ0 S0.t.length tq0) ∧ w'.cell? ⟨w.heap.size, 0, none⟩ = some (.int .i64 S0.lx) ∧ w'.cell? ⟨w.heap.size, 1, none⟩ = some (.int .i64 S0.ly) ∧ w'.cell? ⟨w.heap.size, 2, none⟩ = some (.int .i64 S0.hx) ∧ w'.cell? ⟨w.heap.size, 3, none⟩ = some (.int .i64 S0.hy) ∧ w'.cell? ⟨w.heap.size, 4, none⟩ = some (.slice RA0 S0.r.length rc0) ∧ w'.cell? ⟨w.heap.size, 5, none⟩ = some (.slice OA0 S0.o.length oc0) ∧ w'.cell? ⟨w.heap.size, 6, none⟩ = some (.slice TA0 S0.t.length tc0))
      (first | (with_reducible exact HKS.out _ HS2.out) | (with_reducible exact HKS.out _ HS1.out) | (with_reducible exact HKS.out _ HS0.out))
      (first
        | (go_at_call 8; refine (HCi.out _ HS0.out).mono ?_; rintro e u1 ⟨p0, p1, p2, p3, p4, p5, p6, rfl, e1, hb1⟩; have HB1 := hide hb1; have HS1 := hide (below_then HS0.out hb1))
        | (go_at_call 10; refine (HF.out _ _ HS0.out HB1.out _ _ _ _ _ _ _ e1).mono ?_; rintro e u2 ⟨rfl, hb2⟩; have HS2 := hide (below_then HS1.out hb2)))
  have hb10 := HS2.out
  obtain ⟨w10, hw10⟩ : ∃ x, x = u2 := ⟨_, rfl⟩
  subst hw10
  clear HKS HCi HF HS0 HPi HPj HS1 HS2 HB1 HOd hb1 hb2 e1
  clear yP00 yP01 yP02 yP03 yP04 yP05 yP06 yx00 yx01 yx02 yx03 yx04 yx05 yx06
  have hs10 := hb10.size
  have o0 := o0.below hb10 (by omega)
  have o1 := o1.below hb10 (by omega)
  have bP0 := bP0.below hb10 bP0.lt
  have bP1 := bP1.below hb10 bP1.lt
  have bx0 := bx0.below hb10 bx0.lt
  have bx1 := bx1.below hb10 bx1.lt
  have I0 := I0.below (Below.mono hb10 (by omega))
  have I1 := I1.below (Below.mono hb10 (by omega))
  have hT10 := below_then hT9 hb10
  clear hT9
  clear hb10
  go_upto_region 16 with fail
  obtain ⟨yP10, yP11, yP12, yP13, yP14, yP15, yP16⟩ := bP1.cells7
  obtain ⟨yx10, yx11, yx12, yx13, yx14, yx15, yx16⟩ := bx1.cells7
  have HPi := hide bP1
  have HPj := hide bx1
  have HKS := hide (fun (W : World) (hq : Below w10.heap.size w10 W) => (⟨(HPj.out.below hq HPj.out.lt).cell 0, (HPj.out.below hq HPj.out.lt).cell 1, (HPj.out.below hq HPj.out.lt).cell 2, (HPj.out.below hq HPj.out.lt).cell 3, (HPj.out.below hq HPj.out.lt).cell 4, (HPj.out.below hq HPj.out.lt).cell 5, (HPj.out.below hq HPj.out.lt).cell 6, (HPi.out.below hq HPi.out.lt).cell 0, (HPi.out.below hq HPi.out.lt).cell 1, (HPi.out.below hq HPi.out.lt).cell 2, (HPi.out.below hq HPi.out.lt).cell 3, (HPi.out.below hq HPi.out.lt).cell 4, (HPi.out.below hq HPi.out.lt).cell 5, (HPi.out.below hq HPi.out.lt).cell 6⟩ : W.cell? ⟨w7.heap.size, 0, none⟩ = some (.int .i64 S1.lx) ∧ W.cell? ⟨w7.heap.size, 1, none⟩ = some (.int .i64 S1.ly) ∧ W.cell? ⟨w7.heap.size, 2, none⟩ = some (.int .i64 S1.hx) ∧ W.cell? ⟨w7.heap.size, 3, none⟩ = some (.int .i64 S1.hy) ∧ W.cell? ⟨w7.heap.size, 4, none⟩ = some (.slice RQ1 S1.r.length rq1) ∧ W.cell? ⟨w7.heap.size, 5, none⟩ = some (.slice OQ1 S1.o.length oq1) ∧ W.cell? ⟨w7.heap.size, 6, none⟩ = some (.slice TQ1 S1.t.length tq1) ∧ W.cell? ⟨(w.heap.size + 1), 0, none⟩ = some (.int .i64 S1.lx) ∧ W.cell? ⟨(w.heap.size + 1), 1, none⟩ = some (.int .i64 S1.ly) ∧ W.cell? ⟨(w.heap.size + 1), 2, none⟩ = some (.int .i64 S1.hx) ∧ W.cell? ⟨(w.heap.size + 1), 3, none⟩ = some (.int .i64 S1.hy) ∧ W.cell? ⟨(w.heap.size + 1), 4, none⟩ = some (.slice RA1 S1.r.length rc1) ∧ W.cell? ⟨(w.heap.size + 1), 5, none⟩ = some (.slice OA1 S1.o.length oc1) ∧ W.cell? ⟨(w.heap.size + 1), 6, none⟩ = some (.slice TA1 S1.t.length tc1)))
  have HCi := hide (fun (W : World) (hq : Below w10.heap.size w10 W) => toScn_any W w.heap.size (by have := hT10.size; have := hq.size; omega) (I1.below (hq.mono hT10.size)))
  have HOd := hide o1
  have HF := hide (fun (W W' : World) (hq : Below w10.heap.size w10 W) (hq' : Below W.heap.size W W') (p0 p1 p2 p3 p4 p5 p6 : Value) (r : SOwn W' W.heap.size W'.heap.size 30 29 p0 p1 p2 p3 p4 p5 p6 S1) => eqScn_any W' W'.heap.size (Nat.le_refl _) ((HOd.out.below hq (by omega)).below hq' (by have := hq.size; omega) |>.in_ HA1.out.1 HA1.out.2.1 HA1.out.2.2 (by have := hq.size; have := hq'.size; omega)) (r.in_ HA1.out.1 HA1.out.2.1 HA1.out.2.2 (Nat.le_refl _)))
  have HS0 : Hid (Below w10.heap.size w10 w10.drew) := (Below.refl _ _).drew
  go_region_held3 (fun w' => w'.cell? ⟨w7.heap.size, 0, none⟩ = some (.int .i64 S1.lx) ∧ w'.cell? ⟨w7.heap.size, 1, none⟩ = some (.int .i64 S1.ly) ∧ w'.cell? ⟨w7.heap.size, 2, none⟩ = some (.int .i64 S1.hx) ∧ w'.cell? ⟨w7.heap.size, 3, none⟩ = some (.int .i64 S1.hy) ∧ w'.cell? ⟨w7.heap.size, 4, none⟩ = some (.slice RQ1 S1.r.length rq1) ∧ w'.cell? ⟨w7.heap.size, 5, none⟩ = some (.slice OQ1 S1.o.length oq1) ∧ w'.cell? ⟨w7.heap.size, 6, none⟩ = some (.slice TQ1 S1.t.length tq1) ∧ w'.cell? ⟨(w.heap.size + 1), 0, none⟩ = some (.int .i64 S1.lx) ∧ w'.cell? ⟨(w.heap.size + 1), 1, none⟩ = some (.int .i64 S1.ly) ∧ w'.cell? ⟨(w.heap.size + 1), 2, none⟩ = some (.int .i64 S1.hx) ∧ w'.cell? ⟨(w.heap.size + 1), 3, none⟩ = some (.int .i64 S1.hy) ∧ w'.cell? ⟨(w.heap.size + 1), 4, none⟩ = some (.slice RA1 S1.r.length rc1) ∧ w'.cell? ⟨(w.heap.size + 1), 5, none⟩ = some (.slice OA1 S1.o.length oc1) ∧ w'.cell? ⟨(w.heap.size + 1), 6, none⟩ = some (.slice TA1 S1.t.length tc1))
      (first | (with_reducible exact HKS.out _ HS2.out) | (with_reducible exact HKS.out _ HS1.out) | (with_reducible exact HKS.out _ HS0.out))
      (first
        | (go_at_call 8; refine (HCi.out _ HS0.out).mono ?_; rintro e u1 ⟨p0, p1, p2, p3, p4, p5, p6, rfl, e1, hb1⟩; have HB1 := hide hb1; have HS1 := hide (below_then HS0.out hb1))
        | (go_at_call 10; refine (HF.out _ _ HS0.out HB1.out _ _ _ _ _ _ _ e1).mono ?_; rintro e u2 ⟨rfl, hb2⟩; have HS2 := hide (below_then HS1.out hb2)))
  have hb11 := HS2.out
  obtain ⟨w11, hw11⟩ : ∃ x, x = u2 := ⟨_, rfl⟩
  subst hw11
  clear HKS HCi HF HS0 HPi HPj HS1 HS2 HB1 HOd hb1 hb2 e1
  clear yP10 yP11 yP12 yP13 yP14 yP15 yP16 yx10 yx11 yx12 yx13 yx14 yx15 yx16
  have hs11 := hb11.size
  have o0 := o0.below hb11 (by omega)
  have o1 := o1.below hb11 (by omega)
  have bP0 := bP0.below hb11 bP0.lt
  have bP1 := bP1.below hb11 bP1.lt
  have bx0 := bx0.below hb11 bx0.lt
  have bx1 := bx1.below hb11 bx1.lt
  have I0 := I0.below (Below.mono hb11 (by omega))
  have I1 := I1.below (Below.mono hb11 (by omega))
  have hT11 := below_then hT10 hb11
  clear hT10
  clear hb11
  clear o0
  clear o1
  go_wp2_with fail
  go_ret
  exact ⟨rfl, hT11⟩
end Go.Proofs.Ytffabmdcgcinmab
