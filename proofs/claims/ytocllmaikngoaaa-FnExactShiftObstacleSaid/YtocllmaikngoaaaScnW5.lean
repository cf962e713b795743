/-
  The exact laws' walks: ShiftObstacle.
-/
import Derived.Test.YtocllmaikngoaaaSE
import Derived.Test.YtocllmaikngoaaaScnT1
import Derived.Test.YtocllmaikngoaaaScnT2
import Derived.Deep.RegionHeld3
import Derived.Deep.CutRange
import Derived.Sort.AtCall
namespace Go.Proofs.Ytocllmaikngoaaa
open Go.RowKit
set_option linter.unusedVariables false
set_option maxHeartbeats 16000000 in
set_option maxRecDepth 100000 in
theorem FnExactShiftObstacle_walk (w : World) {v00 v01 v02 v03 v04 v05 v06 : Value} (S0 : Scn) (f0 : SArg w v00 v01 v02 v03 v04 v05 v06 S0) (a1 : Int) (f1 : (Lit.int .i64 a1).wf = true) (x2 y2 : Int) (hx2 : (Lit.int .i64 x2).wf = true) (hy2 : (Lit.int .i64 y2).wf = true) :
    Calls Try.prog 5 #[.agg #[v00, v01, v02, v03, v04, v05, v06], .int .i64 a1, .agg #[.int .i64 x2, .int .i64 y2]] w fun e w' => e = .returned (.bool true) ∧ Below w.heap.size w w' := by
  obtain ⟨RA0, rc0, OA0, oc0, TA0, tc0, ⟨rfl, rfl, rfl, rfl, rfl, rfl, rfl⟩⟩ := f0.form
  obtain ⟨hm1, hM1⟩ := bounds_i64 f1
  obtain ⟨w1, hw1⟩ : ∃ x, x = ((w.alloc (.cells #[.int .i64 S0.lx, .int .i64 S0.ly, .int .i64 S0.hx, .int .i64 S0.hy, .slice RA0 S0.r.length rc0, .slice OA0 S0.o.length oc0, .slice TA0 S0.t.length tc0] 27)).alloc (.cells #[.int .i64 x2, .int .i64 y2] 23)) := ⟨_, rfl⟩
  have hT1 : Below w.heap.size w w1 := by rw [hw1]; exact below_alloc (below_new _ _) _
  have hs1 := hT1.size
  have bP0 : Box w1 w.heap.size 27 #[.int .i64 S0.lx, .int .i64 S0.ly, .int .i64 S0.hx, .int .i64 S0.hy, .slice RA0 S0.r.length rc0, .slice OA0 S0.o.length oc0, .slice TA0 S0.t.length tc0] := by rw [hw1]; exact (Box.last _ _ _ rfl).alloc _
  have bP2 : Box w1 (w.heap.size + 1) 23 #[.int .i64 x2, .int .i64 y2] := by rw [hw1]; exact Box.last _ _ _ (alloc_size _ _).symm
  have hq1 : w.heap.size + 2 ≤ w1.heap.size := by rw [hw1, alloc_size, alloc_size]; omega
  obtain ⟨m0, hm0e⟩ : ∃ m, m = totS S0 := ⟨_, rfl⟩
  have D0 := hide (fun (W : World) (hb : Below w.heap.size w W) (k : Nat) (hk : k ≤ 1048576) => szScn_any W S0 (f0.below hb) k hk)
  rw [← hm0e] at D0
  have HME0 := hide hm0e
  clear hm0e
  have C0 := hide (fun (W : World) (hb : Below w.heap.size w W) => D0.out W hb (1048576) (by omega))
  by_cases c0 : m0 ≤ 1048576
  case neg =>
    rw [szR_no (by omega)] at C0
    clear D0
    go_enter Try.func5, Try.ntmps5
    go_upto_region 1 with fail
    rw [← hw1]
    clear hw1
    obtain ⟨yP00, yP01, yP02, yP03, yP04, yP05, yP06⟩ := bP0.cells7
    go_wp2_with fail
    refine (C0.out _ hT1).mono ?_
    rintro e w2 ⟨rfl, hb2⟩
    clear yP00 yP01 yP02 yP03 yP04 yP05 yP06
    have hs2 := hb2.size
    have bP0 := bP0.below hb2 bP0.lt
    have bP2 := bP2.below hb2 bP2.lt
    have hT2 := below_then hT1 hb2
    clear hT1 hb2
    go_wp2_with fail
    go_ret
    exact ⟨rfl, hT2⟩
  obtain ⟨lf0, hlf0⟩ : ∃ r : Nat, r + m0 = 1048576 := ⟨1048576 - m0, by omega⟩
  have hr0 : szR (1048576) m0 = (lf0 : Int) := by rw [szR_ok c0]; congr 1; omega
  rw [hr0] at C0
  have hnn0 : ¬ (lf0 : Int) < 0 := by omega
  have hlb0 : lf0 ≤ 1048576 := by omega
  clear hr0
  clear D0
  have HMB0 : m0 ≤ 1048576 := by omega
  rw [HME0.out] at HMB0
  have hM0 := HMB0
  clear HMB0 HME0
  have I0 := f0.in_ hM0
  have HA0 : Hid (SFit S0 ∧ wf4 S0 ∧ SShort S0) := ⟨I0.fit.1, I0.fit.2, short_of hM0⟩
  clear f0
  have HLF0 := hide hlf0
  clear hlf0 c0
  have HZ' := shS_fit (S := S0) (k := a1) (v := (x2, y2)) (by omega) HA0.out
  have hMZ := HZ'.2
  have HZ := hide HZ'.1
  clear HZ'
  have I0 := I0.below hT1
  go_enter Try.func5, Try.ntmps5
  go_upto_region 1 with fail
  rw [← hw1]
  clear hw1
  obtain ⟨yP00, yP01, yP02, yP03, yP04, yP05, yP06⟩ := bP0.cells7
  go_wp2_with fail
  refine (C0.out _ hT1).mono ?_
  rintro e w2 ⟨rfl, hb2⟩
  clear yP00 yP01 yP02 yP03 yP04 yP05 yP06
  have hs2 := hb2.size
  have bP0 := bP0.below hb2 bP0.lt
  have bP2 := bP2.below hb2 bP2.lt
  have I0 := I0.below (Below.mono hb2 (by omega))
  have hT2 := below_then hT1 hb2
  clear hT1
  clear hb2
  clear C0
  go_upto_region 5 with fail
  obtain ⟨yP00, yP01, yP02, yP03, yP04, yP05, yP06⟩ := bP0.cells7
  obtain ⟨yP20, yP21⟩ := bP2.cells2
  have HBa := hide bP0
  have HBv := hide bP2
  have HS0 : Hid (Below w2.heap.size w2 w2.drew) := (Below.refl _ _).drew
  have HS0a : Hid (Below w2.heap.size w2 (w2.alloc (.cells #[.int .i64 0, .int .i64 0, .int .i64 0, .int .i64 0, .slice none 0 0, .slice none 0 0, .slice none 0 0] 33)).drew) := (below_new _ _).drew
  have HKS := hide (fun (W : World) (hq : Below w2.heap.size w2 W) => (⟨(HBa.out.below hq HBa.out.lt).cell 0, (HBa.out.below hq HBa.out.lt).cell 1, (HBa.out.below hq HBa.out.lt).cell 2, (HBa.out.below hq HBa.out.lt).cell 3, (HBa.out.below hq HBa.out.lt).cell 4, (HBa.out.below hq HBa.out.lt).cell 5, (HBa.out.below hq HBa.out.lt).cell 6, (HBv.out.below hq HBv.out.lt).cell 0, (HBv.out.below hq HBv.out.lt).cell 1⟩ : W.cell? ⟨w.heap.size, 0, none⟩ = some (.int .i64 S0.lx) ∧ W.cell? ⟨w.heap.size, 1, none⟩ = some (.int .i64 S0.ly) ∧ W.cell? ⟨w.heap.size, 2, none⟩ = some (.int .i64 S0.hx) ∧ W.cell? ⟨w.heap.size, 3, none⟩ = some (.int .i64 S0.hy) ∧ W.cell? ⟨w.heap.size, 4, none⟩ = some (.slice RA0 S0.r.length rc0) ∧ W.cell? ⟨w.heap.size, 5, none⟩ = some (.slice OA0 S0.o.length oc0) ∧ W.cell? ⟨w.heap.size, 6, none⟩ = some (.slice TA0 S0.t.length tc0) ∧ W.cell? ⟨(w.heap.size + 1), 0, none⟩ = some (.int .i64 x2) ∧ W.cell? ⟨(w.heap.size + 1), 1, none⟩ = some (.int .i64 y2)))
  have HCs := hide (fun (W : World) (hq : Below w2.heap.size w2 W) => toScn_any W w.heap.size (by have := hT2.size; have := hq.size; omega) (I0.below (hq.mono hT2.size)))
  have HCv := hide (fun (W : World) => toVec_any W x2 y2 hx2 hy2)
  have HF := hide (fun (W : World) (p0 p1 p2 p3 p4 p5 p6 : Value) (r : SIn W W.heap.size p0 p1 p2 p3 p4 p5 p6 S0) => spec_ShiftObstacle W W.heap.size (Nat.le_refl _) r a1 f1 x2 y2 hx2 hy2)
  go_cut [8, 9] from 24 to 31 (fun sx sb wx => sb = .bool ((shB S0 a1 (x2, y2))) ∧ VarS0 w2 wx sx ((shS S0 a1 (x2, y2))) 33 30 29)
  case first =>
    go_region_held3 (fun w' => w'.cell? ⟨w.heap.size, 0, none⟩ = some (.int .i64 S0.lx) ∧ w'.cell? ⟨w.heap.size, 1, none⟩ = some (.int .i64 S0.ly) ∧ w'.cell? ⟨w.heap.size, 2, none⟩ = some (.int .i64 S0.hx) ∧ w'.cell? ⟨w.heap.size, 3, none⟩ = some (.int .i64 S0.hy) ∧ w'.cell? ⟨w.heap.size, 4, none⟩ = some (.slice RA0 S0.r.length rc0) ∧ w'.cell? ⟨w.heap.size, 5, none⟩ = some (.slice OA0 S0.o.length oc0) ∧ w'.cell? ⟨w.heap.size, 6, none⟩ = some (.slice TA0 S0.t.length tc0) ∧ w'.cell? ⟨(w.heap.size + 1), 0, none⟩ = some (.int .i64 x2) ∧ w'.cell? ⟨(w.heap.size + 1), 1, none⟩ = some (.int .i64 y2))
        (first | (with_reducible exact HKS.out _ (set7_belowK HS3.out HS2.out.size _ _ _ _ _ _ _)) | (with_reducible exact HKS.out _ (set7_belowK HS3.out HS1.out.size _ _ _ _ _ _ _)) | (with_reducible exact HKS.out _ (set7_belowK HS3.out (Nat.le_refl _) _ _ _ _ _ _ _)) | (with_reducible exact HKS.out _ HS3.out) | (with_reducible exact HKS.out _ (below_alloc HS3.out _)) | (with_reducible exact HKS.out _ HS2.out) | (with_reducible exact HKS.out _ (below_alloc HS2.out _)) | (with_reducible exact HKS.out _ HS1.out) | (with_reducible exact HKS.out _ (below_alloc HS1.out _)) | (with_reducible exact HKS.out _ HS0.out) | (with_reducible exact HKS.out _ HS0a.out))
        (first
          | (go_at_call 19; have HX := HS2.out; (first | (with_reducible refine Calls.mono (HF.out _ _ _ _ _ _ _ _ qs) ?_) | (with_reducible refine Calls.mono (HF.out _ _ _ _ _ _ _ _ (qs.up (below_new _ _))) ?_)); rintro e u3 ⟨q0, q1, q2, q3, q4, q5, q6, rfl, oq, hb3⟩; obtain ⟨qA, qa, qB, qb, qC, qc, ⟨rfl, rfl, rfl, rfl, rfl, rfl, rfl⟩⟩ := oq.form; (first | (have hu3 := (show Below u2.heap.size u2 u3 from hb3)) | (have hu3 := (below_then (below_new u2 _) hb3))); have hz3 : u2.heap.size ≤ u3.heap.size := hu3.size; have HS3 := hide (below_then HX hu3); clear HX; have hy3 := hb3.size; (first | (have kz := kz_new hb3) | (have kz := kz.below hu3 kz.lt) | skip); (first | (obtain ⟨t0, t1, t2, t3, t4, t5, t6⟩ := kz.cells7; obtain ⟨f0', f1', f2', f3', f4', f5', f6'⟩ := kz.frz7) | skip))
          | (go_at_call 20; have HX := HS1.out; (first | (with_reducible refine Calls.mono (HCv.out _) ?_)); rintro e u2 ⟨rfl, hb2⟩; (first | (have hu2 := (show Below u1.heap.size u1 u2 from hb2)) | (have hu2 := (below_then (below_new u1 _) hb2))); have hz2 : u1.heap.size ≤ u2.heap.size := hu2.size; have qs := qs.up hu2; have HS2 := hide (below_then HX hu2); clear HX; have hy2 := hb2.size; (first | (have kz := kz_new hb2) | (have kz := kz.below hu2 kz.lt) | skip))
          | (go_at_call 8; have HX := HS0.out; (first | (with_reducible refine Calls.mono (HCs.out _ HS0.out) ?_) | (with_reducible refine Calls.mono (HCs.out _ HS0a.out) ?_)); rintro e u1 ⟨p0, p1, p2, p3, p4, p5, p6, rfl, e1, hb1⟩; obtain ⟨sA, sa, sB, sb, sC, sc, ⟨rfl, rfl, rfl, rfl, rfl, rfl, rfl⟩⟩ := e1.form; have qs := e1.in_ HA0.out.1 HA0.out.2.1 HA0.out.2.2 (Nat.le_refl _); (first | (have HS1 := hide (below_then HS0.out hb1)) | (have HS1 := hide (below_then HS0a.out hb1))); have hz1 : w2.heap.size ≤ u1.heap.size := HS1.out.size; clear HX; have hy1 := hb1.size; (first | (have kz := kz_drew hb1) | skip)))
    all_goals
      go_wp2_with fail
      go_meet
      case rel =>
        try simp only [drew_size, alloc_size] at hy1 hy2 hy3
        have HL := HS3.out
        refine ⟨rfl, ?_⟩
        first
          | ((with_reducible refine VarS0.put kz HL oq ?_ (Nat.le_refl _) ?_ ?_) <;> ((try simp only [alloc_size]); omega))
          | ((with_reducible refine VarS0.last HL oq ?_ (Nat.le_refl _)) <;> ((try simp only [alloc_size]); omega))
  case rest =>
    obtain ⟨rfl, gr, q00, q01, q02, q03, q04, q05, q06, lor, hir, rfl, bn, o0, hlor, hhir, hggr, hglr, hb3⟩ := hcut
    obtain ⟨RQ0, rq0, OQ0, oq0, TQ0, tq0, ⟨rfl, rfl, rfl, rfl, rfl, rfl, rfl⟩⟩ := o0.form
    obtain ⟨w3, hw3⟩ : ∃ xw, xw = wc := ⟨_, rfl⟩
    subst hw3
    clear HKS HS0 HS0a HBa HBv HCv HF HCs
    clear yP00 yP01 yP02 yP03 yP04 yP05 yP06 yP20 yP21
    have hs3 := hb3.size
    have bP0 := bP0.below hb3 bP0.lt
    have bP2 := bP2.below hb3 bP2.lt
    have I0 := I0.below (Below.mono hb3 (by omega))
    have hT3 := below_then hT2 hb3
    clear hT2
    clear hb3
    have br := bn
    have lr := bn.lt
    clear bn
    obtain ⟨yP00, yP01, yP02, yP03, yP04, yP05, yP06⟩ := bP0.cells7
    go_wp2_with fail
    refine (toScn_any w3 w.heap.size hT3.size I0).mono ?_
    rintro e w4 ⟨q10, q11, q12, q13, q14, q15, q16, rfl, o1, hb4⟩
    obtain ⟨RQ1, rq1, OQ1, oq1, TQ1, tq1, ⟨rfl, rfl, rfl, rfl, rfl, rfl, rfl⟩⟩ := o1.form
    have hs4 := hb4.size
    have o0 := o0.below hb4 (by omega)
    have bP0 := bP0.below hb4 bP0.lt
    have bP2 := bP2.below hb4 bP2.lt
    have br := br.below hb4 br.lt
    have I0 := I0.below (Below.mono hb4 (by omega))
    have hT4 := below_then hT3 hb4
    clear hT3
    clear hb4
    clear yP00 yP01 yP02 yP03 yP04 yP05 yP06
    obtain ⟨w5, hw5⟩ : ∃ x, x = w4.alloc (.cells #[.int .i64 S0.lx, .int .i64 S0.ly, .int .i64 S0.hx, .int .i64 S0.hy, .slice RQ1 S0.r.length rq1, .slice OQ1 S0.o.length oq1, .slice TQ1 S0.t.length tq1] 33) := ⟨_, rfl⟩
    have hb5 : Below w4.heap.size w4 w5 := by rw [hw5]; exact below_new _ _
    have hq5 : w4.heap.size < w5.heap.size := by rw [hw5, alloc_size]; omega
    have bn : Box w5 w4.heap.size 33 #[.int .i64 S0.lx, .int .i64 S0.ly, .int .i64 S0.hx, .int .i64 S0.hy, .slice RQ1 S0.r.length rq1, .slice OQ1 S0.o.length oq1, .slice TQ1 S0.t.length tq1] := by rw [hw5]; exact Box.last _ _ _ rfl
    have hs5 := hb5.size
    have o0 := o0.below hb5 (by omega)
    have o1 := o1.below hb5 (by omega)
    have bP0 := bP0.below hb5 bP0.lt
    have bP2 := bP2.below hb5 bP2.lt
    have br := br.below hb5 br.lt
    have I0 := I0.below (Below.mono hb5 (by omega))
    have hT5 := below_then hT4 hb5
    clear hT4
    have bx0 := bn
    clear bn
    clear hb5
    go_upto_region 7 with fail
    rw [← hw5]
    clear hw5
    go_upto_region 7 with fail
    obtain ⟨yx00, yx01, yx02, yx03, yx04, yx05, yx06⟩ := bx0.cells7
    obtain ⟨yP20, yP21⟩ := bP2.cells2
    have HBa := hide bx0
    have HBv := hide bP2
    have HS0 : Hid (Below w5.heap.size w5 w5.drew) := (Below.refl _ _).drew
    have HS0a : Hid (Below w5.heap.size w5 (w5.alloc (.cells #[.int .i64 0, .int .i64 0, .int .i64 0, .int .i64 0, .slice none 0 0, .slice none 0 0, .slice none 0 0] 33)).drew) := (below_new _ _).drew
    have HKS := hide (fun (W : World) (hq : Below w5.heap.size w5 W) => (⟨(HBa.out.below hq HBa.out.lt).cell 0, (HBa.out.below hq HBa.out.lt).cell 1, (HBa.out.below hq HBa.out.lt).cell 2, (HBa.out.below hq HBa.out.lt).cell 3, (HBa.out.below hq HBa.out.lt).cell 4, (HBa.out.below hq HBa.out.lt).cell 5, (HBa.out.below hq HBa.out.lt).cell 6, (HBv.out.below hq HBv.out.lt).cell 0, (HBv.out.below hq HBv.out.lt).cell 1⟩ : W.cell? ⟨w4.heap.size, 0, none⟩ = some (.int .i64 S0.lx) ∧ W.cell? ⟨w4.heap.size, 1, none⟩ = some (.int .i64 S0.ly) ∧ W.cell? ⟨w4.heap.size, 2, none⟩ = some (.int .i64 S0.hx) ∧ W.cell? ⟨w4.heap.size, 3, none⟩ = some (.int .i64 S0.hy) ∧ W.cell? ⟨w4.heap.size, 4, none⟩ = some (.slice RQ1 S0.r.length rq1) ∧ W.cell? ⟨w4.heap.size, 5, none⟩ = some (.slice OQ1 S0.o.length oq1) ∧ W.cell? ⟨w4.heap.size, 6, none⟩ = some (.slice TQ1 S0.t.length tq1) ∧ W.cell? ⟨(w.heap.size + 1), 0, none⟩ = some (.int .i64 x2) ∧ W.cell? ⟨(w.heap.size + 1), 1, none⟩ = some (.int .i64 y2)))
    have HIN := hide (fun (W : World) (hq : Below w5.heap.size w5 W) => (o1.in_ HA0.out.1 HA0.out.2.1 HA0.out.2.2 (show _ ≤ w5.heap.size by omega)).below hq |>.wider hq.size)
    have HCv := hide (fun (W : World) => toVec_any W x2 y2 hx2 hy2)
    have HF := hide (fun (W : World) (p0 p1 p2 p3 p4 p5 p6 : Value) (r : SIn W W.heap.size p0 p1 p2 p3 p4 p5 p6 S0) => impl_ShiftObstacle W W.heap.size (Nat.le_refl _) r a1 f1 x2 y2 hx2 hy2)
    go_cut [11, 12] from 35 to 41 (fun sx sb wx => sb = .bool ((shB S0 a1 (x2, y2))) ∧ VarS1 w5 wx sx ((shS S0 a1 (x2, y2))) 33 30 29)
    case first =>
      go_region_held3 (fun w' => w'.cell? ⟨w4.heap.size, 0, none⟩ = some (.int .i64 S0.lx) ∧ w'.cell? ⟨w4.heap.size, 1, none⟩ = some (.int .i64 S0.ly) ∧ w'.cell? ⟨w4.heap.size, 2, none⟩ = some (.int .i64 S0.hx) ∧ w'.cell? ⟨w4.heap.size, 3, none⟩ = some (.int .i64 S0.hy) ∧ w'.cell? ⟨w4.heap.size, 4, none⟩ = some (.slice RQ1 S0.r.length rq1) ∧ w'.cell? ⟨w4.heap.size, 5, none⟩ = some (.slice OQ1 S0.o.length oq1) ∧ w'.cell? ⟨w4.heap.size, 6, none⟩ = some (.slice TQ1 S0.t.length tq1) ∧ w'.cell? ⟨(w.heap.size + 1), 0, none⟩ = some (.int .i64 x2) ∧ w'.cell? ⟨(w.heap.size + 1), 1, none⟩ = some (.int .i64 y2))
          (first | (with_reducible exact HKS.out _ (set7_belowK HS2.out HS1.out.size _ _ _ _ _ _ _)) | (with_reducible exact HKS.out _ (set7_belowK HS2.out (Nat.le_refl _) _ _ _ _ _ _ _)) | (with_reducible exact HKS.out _ HS2.out) | (with_reducible exact HKS.out _ (below_alloc HS2.out _)) | (with_reducible exact HKS.out _ HS1.out) | (with_reducible exact HKS.out _ (below_alloc HS1.out _)) | (with_reducible exact HKS.out _ HS0.out) | (with_reducible exact HKS.out _ HS0a.out))
          (first
            | (go_at_call 21; have HX := HS1.out; (first | (with_reducible refine Calls.mono (HF.out _ _ _ _ _ _ _ _ (HIN.out _ HX)) ?_) | (with_reducible refine Calls.mono (HF.out _ _ _ _ _ _ _ _ (HIN.out _ (below_alloc HX _))) ?_)); rintro e u2 ⟨q0, q1, q2, q3, q4, q5, q6, rfl, oq, hb2⟩; obtain ⟨qA, qa, qB, qb, qC, qc, ⟨rfl, rfl, rfl, rfl, rfl, rfl, rfl⟩⟩ := oq.form; (first | (have hu2 := (show Below u1.heap.size u1 u2 from hb2)) | (have hu2 := (below_then (below_new u1 _) hb2))); have hz2 : u1.heap.size ≤ u2.heap.size := hu2.size; have HS2 := hide (below_then HX hu2); clear HX; have hy2 := hb2.size; (first | (have kz := kz_new hb2) | (have kz := kz.below hu2 kz.lt) | skip); (first | (obtain ⟨t0, t1, t2, t3, t4, t5, t6⟩ := kz.cells7; obtain ⟨f0', f1', f2', f3', f4', f5', f6'⟩ := kz.frz7) | skip))
            | (go_at_call 20; have HX := HS0.out; (first | (with_reducible refine Calls.mono (HCv.out _) ?_)); rintro e u1 ⟨rfl, hb1⟩; (first | (have HS1 := hide (below_then HS0.out hb1)) | (have HS1 := hide (below_then HS0a.out hb1))); have hz1 : w5.heap.size ≤ u1.heap.size := HS1.out.size; clear HX; have hy1 := hb1.size; (first | (have kz := kz_drew hb1) | skip)))
      all_goals
        go_wp2_with fail
        go_meet
        case rel =>
          try simp only [drew_size, alloc_size] at hy1 hy2
          have HL := HS2.out
          refine ⟨rfl, ?_⟩
          first
            | ((with_reducible refine VarS1.put kz HL oq ?_ (Nat.le_refl _) ?_ ?_) <;> ((try simp only [alloc_size]); omega))
            | ((with_reducible refine VarS1.last HL oq ?_ (Nat.le_refl _)) <;> ((try simp only [alloc_size]); omega))
    case rest =>
      obtain ⟨rfl, gg, q20, q21, q22, q23, q24, q25, q26, log, hig, rfl, bn, o2, hlog, hhig, hggg, hglg, hb6⟩ := hcut
      obtain ⟨RQ2, rq2, OQ2, oq2, TQ2, tq2, ⟨rfl, rfl, rfl, rfl, rfl, rfl, rfl⟩⟩ := o2.form
      obtain ⟨w6, hw6⟩ : ∃ xw, xw = wc := ⟨_, rfl⟩
      subst hw6
      clear HKS HS0 HS0a HBa HBv HCv HF HIN
      clear yx00 yx01 yx02 yx03 yx04 yx05 yx06 yP20 yP21
      have hs6 := hb6.size
      have o0 := o0.below hb6 (by omega)
      have o1 := o1.below hb6 (by omega)
      have bP0 := bP0.below hb6 bP0.lt
      have bP2 := bP2.below hb6 bP2.lt
      have br := br.below hb6 br.lt
      have bx0 := bx0.below hb6 bx0.lt
      have I0 := I0.below (Below.mono hb6 (by omega))
      have hT6 := below_then hT5 hb6
      clear hT5
      clear hb6
      have bg := bn
      have lg := bn.lt
      clear bn
      obtain ⟨yg0, yg1, yg2, yg3, yg4, yg5, yg6⟩ := bg.cells7
      obtain ⟨yr0, yr1, yr2, yr3, yr4, yr5, yr6⟩ := br.cells7
      go_wp2_with fail
      refine (eqScn_any w6 w6.heap.size (Nat.le_refl _) (o2.in_ HZ.out.1 HZ.out.2.1 HZ.out.2.2 (by omega)) (o0.in_ HZ.out.1 HZ.out.2.1 HZ.out.2.2 (by omega))).mono ?_
      rintro e w7 ⟨rfl, hb7⟩
      clear yg0 yg1 yg2 yg3 yg4 yg5 yg6 yr0 yr1 yr2 yr3 yr4 yr5 yr6
      have hs7 := hb7.size
      have o0 := o0.below hb7 (by omega)
      have o1 := o1.below hb7 (by omega)
      have o2 := o2.below hb7 (by omega)
      have bP0 := bP0.below hb7 bP0.lt
      have bP2 := bP2.below hb7 bP2.lt
      have br := br.below hb7 br.lt
      have bx0 := bx0.below hb7 bx0.lt
      have bg := bg.below hb7 bg.lt
      have I0 := I0.below (Below.mono hb7 (by omega))
      have hT7 := below_then hT6 hb7
      clear hT6
      clear hb7
      go_upto_region 10 with fail
      obtain ⟨yP00, yP01, yP02, yP03, yP04, yP05, yP06⟩ := bP0.cells7
      obtain ⟨yx00, yx01, yx02, yx03, yx04, yx05, yx06⟩ := bx0.cells7
      have HPi := hide bP0
      have HPj := hide bx0
      have HKS := hide (fun (W : World) (hq : Below w7.heap.size w7 W) => (⟨(HPj.out.below hq HPj.out.lt).cell 0, (HPj.out.below hq HPj.out.lt).cell 1, (HPj.out.below hq HPj.out.lt).cell 2, (HPj.out.below hq HPj.out.lt).cell 3, (HPj.out.below hq HPj.out.lt).cell 4, (HPj.out.below hq HPj.out.lt).cell 5, (HPj.out.below hq HPj.out.lt).cell 6, (HPi.out.below hq HPi.out.lt).cell 0, (HPi.out.below hq HPi.out.lt).cell 1, (HPi.out.below hq HPi.out.lt).cell 2, (HPi.out.below hq HPi.out.lt).cell 3, (HPi.out.below hq HPi.out.lt).cell 4, (HPi.out.below hq HPi.out.lt).cell 5, (HPi.out.below hq HPi.out.lt).cell 6⟩ : W.cell? ⟨w4.heap.size, 0, none⟩ = some (.int .i64 S0.lx) ∧ W.cell? ⟨w4.heap.size, 1, none⟩ = some (.int .i64 S0.ly) ∧ W.cell? ⟨w4.heap.size, 2, none⟩ = some (.int .i64 S0.hx) ∧ W.cell? ⟨w4.heap.size, 3, none⟩ = some (.int .i64 S0.hy) ∧ W.cell? ⟨w4.heap.size, 4, none⟩ = some (.slice RQ1 S0.r.length rq1) ∧ W.cell? ⟨w4.heap.size, 5, none⟩ = some (.slice OQ1 S0.o.length oq1) ∧ W.cell? ⟨w4.heap.size, 6, none⟩ = some (.slice TQ1 S0.t.length tq1) ∧ W.cell? ⟨w.heap.size, 0, none⟩ = some (.int .i64 S0.lx) ∧ W.cell? ⟨w.heap.size, 1, none⟩ = some (.int .i64 S0.ly) ∧ W.cell? ⟨w.heap.size, 2, none⟩ = some (.int .i64 S0.hx) ∧ W.cell? ⟨w.heap.size, 3, none⟩ = some (.int .i64 S0.hy) ∧ W.cell? ⟨w.heap.size, 4, none⟩ = some (.slice RA0 S0.r.length rc0) ∧ W.cell? ⟨w.heap.size, 5, none⟩ = some (.slice OA0 S0.o.length oc0) ∧ W.cell? ⟨w.heap.size, 6, none⟩ = some (.slice TA0 S0.t.length tc0)))
      have HCi := hide (fun (W : World) (hq : Below w7.heap.size w7 W) => toScn_any W w.heap.size (by have := hT7.size; have := hq.size; omega) (I0.below (hq.mono hT7.size)))
      have HOd := hide o1
      have HF := hide (fun (W W' : World) (hq : Below w7.heap.size w7 W) (hq' : Below W.heap.size W W') (p0 p1 p2 p3 p4 p5 p6 : Value) (r : SOwn W' W.heap.size W'.heap.size 30 29 p0 p1 p2 p3 p4 p5 p6 S0) => eqScn_any W' W'.heap.size (Nat.le_refl _) ((HOd.out.below hq (by omega)).below hq' (by have := hq.size; omega) |>.in_ HA0.out.1 HA0.out.2.1 HA0.out.2.2 (by have := hq.size; have := hq'.size; omega)) (r.in_ HA0.out.1 HA0.out.2.1 HA0.out.2.2 (Nat.le_refl _)))
      have HS0 : Hid (Below w7.heap.size w7 w7.drew) := (Below.refl _ _).drew
      go_region_held3 (fun w' => w'.cell? ⟨w4.heap.size, 0, none⟩ = some (.int .i64 S0.lx) ∧ w'.cell? ⟨w4.heap.size, 1, none⟩ = some (.int .i64 S0.ly) ∧ w'.cell? ⟨w4.heap.size, 2, none⟩ = some (.int .i64 S0.hx) ∧ w'.cell? ⟨w4.heap.size, 3, none⟩ = some (.int .i64 S0.hy) ∧ w'.cell? ⟨w4.heap.size, 4, none⟩ = some (.slice RQ1 S0.r.length rq1) ∧ w'.cell? ⟨w4.heap.size, 5, none⟩ = some (.slice OQ1 S0.o.length oq1) ∧ w'.cell? ⟨w4.heap.size, 6, none⟩ = some (.slice TQ1 S0.t.length tq1) ∧ w'.cell? ⟨w.heap.size, 0, none⟩ = some (.int .i64 S0.lx) ∧ w'.cell? ⟨w.heap.size, 1, none⟩ = some (.int .i64 S0.ly) ∧ w'.cell? ⟨w.heap.size, 2, none⟩ = some (.int .i64 S0.hx) ∧ w'.cell? ⟨w.heap.size, 3, none⟩ = some (.int .i64 S0.hy) ∧ w'.cell? ⟨w.heap.size, 4, none⟩ = some (.slice RA0 S0.r.length rc0) ∧ w'.cell? ⟨w.heap.size, 5, none⟩ = some (.slice OA0 S0.o.length oc0) ∧ w'.cell? ⟨w.heap.size, 6, none⟩ = some (.slice TA0 S0.t.length tc0))
          (first | (with_reducible exact HKS.out _ HS2.out) | (with_reducible exact HKS.out _ HS1.out) | (with_reducible exact HKS.out _ HS0.out))
          (first
            | (go_at_call 8; refine (HCi.out _ HS0.out).mono ?_; rintro e u1 ⟨p0, p1, p2, p3, p4, p5, p6, rfl, e1, hb1⟩; have HB1 := hide hb1; have HS1 := hide (below_then HS0.out hb1))
            | (go_at_call 10; refine (HF.out _ _ HS0.out HB1.out _ _ _ _ _ _ _ e1).mono ?_; rintro e u2 ⟨rfl, hb2⟩; have HS2 := hide (below_then HS1.out hb2)))
      have hb8 := HS2.out
      obtain ⟨w8, hw8⟩ : ∃ x, x = u2 := ⟨_, rfl⟩
      subst hw8
      clear HKS HCi HF HS0 HPi HPj HS1 HS2 HB1 HOd hb1 hb2 e1
      clear yP00 yP01 yP02 yP03 yP04 yP05 yP06 yx00 yx01 yx02 yx03 yx04 yx05 yx06
      have hs8 := hb8.size
      have o0 := o0.below hb8 (by omega)
      have o1 := o1.below hb8 (by omega)
      have o2 := o2.below hb8 (by omega)
      have bP0 := bP0.below hb8 bP0.lt
      have bP2 := bP2.below hb8 bP2.lt
      have br := br.below hb8 br.lt
      have bx0 := bx0.below hb8 bx0.lt
      have bg := bg.below hb8 bg.lt
      have I0 := I0.below (Below.mono hb8 (by omega))
      have hT8 := below_then hT7 hb8
      clear hT7
      clear hb8
      obtain ⟨yx00, yx01, yx02, yx03, yx04, yx05, yx06⟩ := bx0.cells7
      go_wp2_with fail
      refine (markScn_own w8 _ _ (1) o1 (by omega) (by omega) (by omega)).mono ?_
      rintro e w9 ⟨he, r1, ha9⟩
      clear yx00 yx01 yx02 yx03 yx04 yx05 yx06
      obtain ⟨K1, hK1⟩ : ∃ K : Nat, K = 1 + sizS S0 := ⟨_, rfl⟩
      have bK1 : K1 ≤ 3000000 := by have := sizS_le S0; omega
      rw [← hK1] at he
      subst he
      have HK1 := hide hK1
      clear hK1
      have hnnK1 : ¬ (K1 : Int) < 0 := by omega
      have hs9 := ha9.size
      have o0 := o0.aside ha9 (by omega)
      have o2 := o2.aside ha9 (by omega)
      have bP0 := bP0.aside ha9 (by omega)
      have bP2 := bP2.aside ha9 (by omega)
      have br := br.aside ha9 (by omega)
      have bx0 := bx0.aside ha9 (by omega)
      have bg := bg.aside ha9 (by omega)
      have I0 := I0.below (Aside.below ha9 (by omega) (by omega))
      have hT9 := hT8.trans (Aside.below ha9 (by omega) (by omega))
      clear hT8
      have o1 := r1
      clear r1 ha9
      obtain ⟨yg0, yg1, yg2, yg3, yg4, yg5, yg6⟩ := bg.cells7
      obtain ⟨yr0, yr1, yr2, yr3, yr4, yr5, yr6⟩ := br.cells7
      go_wp2_with fail
      refine (eqScn_any w9 w9.heap.size (Nat.le_refl _) (o2.in_ HZ.out.1 HZ.out.2.1 HZ.out.2.2 (by omega)) (o0.in_ HZ.out.1 HZ.out.2.1 HZ.out.2.2 (by omega))).mono ?_
      rintro e w10 ⟨rfl, hb10⟩
      clear yg0 yg1 yg2 yg3 yg4 yg5 yg6 yr0 yr1 yr2 yr3 yr4 yr5 yr6
      have hs10 := hb10.size
      have o0 := o0.below hb10 (by omega)
      have o1 := o1.below hb10 (by omega)
      have o2 := o2.below hb10 (by omega)
      have bP0 := bP0.below hb10 bP0.lt
      have bP2 := bP2.below hb10 bP2.lt
      have br := br.below hb10 br.lt
      have bx0 := bx0.below hb10 bx0.lt
      have bg := bg.below hb10 bg.lt
      have I0 := I0.below (Below.mono hb10 (by omega))
      have hT10 := below_then hT9 hb10
      clear hT9
      clear hb10
      clear o1
      clear bx0
      obtain ⟨yg0, yg1, yg2, yg3, yg4, yg5, yg6⟩ := bg.cells7
      go_wp2_with fail
      refine (markScn_own w10 _ _ (1) o2 (by omega) (by omega) (by omega)).mono ?_
      rintro e w11 ⟨he, r2, ha11⟩
      clear yg0 yg1 yg2 yg3 yg4 yg5 yg6
      obtain ⟨K2, hK2⟩ : ∃ K : Nat, K = 1 + sizS (shS S0 a1 (x2, y2)) := ⟨_, rfl⟩
      have bK2 : K2 ≤ 9000000 := by have := sizS_le (shS S0 a1 (x2, y2)); omega
      rw [← hK2] at he
      subst he
      have HK2 := hide hK2
      clear hK2
      have hnnK2 : ¬ (K2 : Int) < 0 := by omega
      have hs11 := ha11.size
      have o0 := o0.aside ha11 (by omega)
      have bP0 := bP0.aside ha11 (by omega)
      have bP2 := bP2.aside ha11 (by omega)
      have br := br.aside ha11 (by omega)
      have bg := bg.aside ha11 (by omega)
      have I0 := I0.below (Aside.below ha11 (by omega) (by omega))
      have hT11 := hT10.trans (Aside.below ha11 (by omega) (by omega))
      clear hT10
      have o2 := r2
      clear r2 ha11
      obtain ⟨yg0, yg1, yg2, yg3, yg4, yg5, yg6⟩ := bg.cells7
      go_wp2_with fail
      refine (heldScn_any w11 _ _ (1) o2 (by omega) (by omega) (by omega)).mono ?_
      rintro e w12 ⟨he, hb12⟩
      rw [← HK2.out] at he
      subst he
      clear yg0 yg1 yg2 yg3 yg4 yg5 yg6
      have hs12 := hb12.size
      have o0 := o0.below hb12 (by omega)
      have o2 := o2.below hb12 (by omega)
      have bP0 := bP0.below hb12 bP0.lt
      have bP2 := bP2.below hb12 bP2.lt
      have br := br.below hb12 br.lt
      have bg := bg.below hb12 bg.lt
      have I0 := I0.below (Below.mono hb12 (by omega))
      have hT12 := below_then hT11 hb12
      clear hT11
      clear hb12
      go_upto_region 24 with fail
      obtain ⟨yP00, yP01, yP02, yP03, yP04, yP05, yP06⟩ := bP0.cells7
      obtain ⟨yP20, yP21⟩ := bP2.cells2
      have HBa := hide bP0
      have HBv := hide bP2
      have HS0 : Hid (Below w12.heap.size w12 w12.drew) := (Below.refl _ _).drew
      have HS0a : Hid (Below w12.heap.size w12 (w12.alloc (.cells #[.int .i64 0, .int .i64 0, .int .i64 0, .int .i64 0, .slice none 0 0, .slice none 0 0, .slice none 0 0] 33)).drew) := (below_new _ _).drew
      have HKS := hide (fun (W : World) (hq : Below w12.heap.size w12 W) => (⟨(HBa.out.below hq HBa.out.lt).cell 0, (HBa.out.below hq HBa.out.lt).cell 1, (HBa.out.below hq HBa.out.lt).cell 2, (HBa.out.below hq HBa.out.lt).cell 3, (HBa.out.below hq HBa.out.lt).cell 4, (HBa.out.below hq HBa.out.lt).cell 5, (HBa.out.below hq HBa.out.lt).cell 6, (HBv.out.below hq HBv.out.lt).cell 0, (HBv.out.below hq HBv.out.lt).cell 1⟩ : W.cell? ⟨w.heap.size, 0, none⟩ = some (.int .i64 S0.lx) ∧ W.cell? ⟨w.heap.size, 1, none⟩ = some (.int .i64 S0.ly) ∧ W.cell? ⟨w.heap.size, 2, none⟩ = some (.int .i64 S0.hx) ∧ W.cell? ⟨w.heap.size, 3, none⟩ = some (.int .i64 S0.hy) ∧ W.cell? ⟨w.heap.size, 4, none⟩ = some (.slice RA0 S0.r.length rc0) ∧ W.cell? ⟨w.heap.size, 5, none⟩ = some (.slice OA0 S0.o.length oc0) ∧ W.cell? ⟨w.heap.size, 6, none⟩ = some (.slice TA0 S0.t.length tc0) ∧ W.cell? ⟨(w.heap.size + 1), 0, none⟩ = some (.int .i64 x2) ∧ W.cell? ⟨(w.heap.size + 1), 1, none⟩ = some (.int .i64 y2)))
      have HCs := hide (fun (W : World) (hq : Below w12.heap.size w12 W) => toScn_any W w.heap.size (by have := hT12.size; have := hq.size; omega) (I0.below (hq.mono hT12.size)))
      have HCv := hide (fun (W : World) => toVec_any W x2 y2 hx2 hy2)
      have HF := hide (fun (W : World) (p0 p1 p2 p3 p4 p5 p6 : Value) (r : SIn W W.heap.size p0 p1 p2 p3 p4 p5 p6 S0) => impl_ShiftObstacle W W.heap.size (Nat.le_refl _) r a1 f1 x2 y2 hx2 hy2)
      go_cut [16, 17] from 84 to 91 (fun sx sb wx => sb = .bool ((shB S0 a1 (x2, y2))) ∧ VarS1 w12 wx sx ((shS S0 a1 (x2, y2))) 33 30 29)
      case first =>
        go_region_held3 (fun w' => w'.cell? ⟨w.heap.size, 0, none⟩ = some (.int .i64 S0.lx) ∧ w'.cell? ⟨w.heap.size, 1, none⟩ = some (.int .i64 S0.ly) ∧ w'.cell? ⟨w.heap.size, 2, none⟩ = some (.int .i64 S0.hx) ∧ w'.cell? ⟨w.heap.size, 3, none⟩ = some (.int .i64 S0.hy) ∧ w'.cell? ⟨w.heap.size, 4, none⟩ = some (.slice RA0 S0.r.length rc0) ∧ w'.cell? ⟨w.heap.size, 5, none⟩ = some (.slice OA0 S0.o.length oc0) ∧ w'.cell? ⟨w.heap.size, 6, none⟩ = some (.slice TA0 S0.t.length tc0) ∧ w'.cell? ⟨(w.heap.size + 1), 0, none⟩ = some (.int .i64 x2) ∧ w'.cell? ⟨(w.heap.size + 1), 1, none⟩ = some (.int .i64 y2))
            (first | (with_reducible exact HKS.out _ (set7_belowK HS3.out HS2.out.size _ _ _ _ _ _ _)) | (with_reducible exact HKS.out _ (set7_belowK HS3.out HS1.out.size _ _ _ _ _ _ _)) | (with_reducible exact HKS.out _ (set7_belowK HS3.out (Nat.le_refl _) _ _ _ _ _ _ _)) | (with_reducible exact HKS.out _ HS3.out) | (with_reducible exact HKS.out _ (below_alloc HS3.out _)) | (with_reducible exact HKS.out _ HS2.out) | (with_reducible exact HKS.out _ (below_alloc HS2.out _)) | (with_reducible exact HKS.out _ HS1.out) | (with_reducible exact HKS.out _ (below_alloc HS1.out _)) | (with_reducible exact HKS.out _ HS0.out) | (with_reducible exact HKS.out _ HS0a.out))
            (first
              | (go_at_call 21; have HX := HS2.out; (first | (with_reducible refine Calls.mono (HF.out _ _ _ _ _ _ _ _ qs) ?_) | (with_reducible refine Calls.mono (HF.out _ _ _ _ _ _ _ _ (qs.up (below_new _ _))) ?_)); rintro e u3 ⟨q0, q1, q2, q3, q4, q5, q6, rfl, oq, hb3⟩; obtain ⟨qA, qa, qB, qb, qC, qc, ⟨rfl, rfl, rfl, rfl, rfl, rfl, rfl⟩⟩ := oq.form; (first | (have hu3 := (show Below u2.heap.size u2 u3 from hb3)) | (have hu3 := (below_then (below_new u2 _) hb3))); have hz3 : u2.heap.size ≤ u3.heap.size := hu3.size; have HS3 := hide (below_then HX hu3); clear HX; have hy3 := hb3.size; (first | (have kz := kz_new hb3) | (have kz := kz.below hu3 kz.lt) | skip); (first | (obtain ⟨t0, t1, t2, t3, t4, t5, t6⟩ := kz.cells7; obtain ⟨f0', f1', f2', f3', f4', f5', f6'⟩ := kz.frz7) | skip))
              | (go_at_call 20; have HX := HS1.out; (first | (with_reducible refine Calls.mono (HCv.out _) ?_)); rintro e u2 ⟨rfl, hb2⟩; (first | (have hu2 := (show Below u1.heap.size u1 u2 from hb2)) | (have hu2 := (below_then (below_new u1 _) hb2))); have hz2 : u1.heap.size ≤ u2.heap.size := hu2.size; have qs := qs.up hu2; have HS2 := hide (below_then HX hu2); clear HX; have hy2 := hb2.size; (first | (have kz := kz_new hb2) | (have kz := kz.below hu2 kz.lt) | skip))
              | (go_at_call 8; have HX := HS0.out; (first | (with_reducible refine Calls.mono (HCs.out _ HS0.out) ?_) | (with_reducible refine Calls.mono (HCs.out _ HS0a.out) ?_)); rintro e u1 ⟨p0, p1, p2, p3, p4, p5, p6, rfl, e1, hb1⟩; obtain ⟨sA, sa, sB, sb, sC, sc, ⟨rfl, rfl, rfl, rfl, rfl, rfl, rfl⟩⟩ := e1.form; have qs := e1.in_ HA0.out.1 HA0.out.2.1 HA0.out.2.2 (Nat.le_refl _); (first | (have HS1 := hide (below_then HS0.out hb1)) | (have HS1 := hide (below_then HS0a.out hb1))); have hz1 : w12.heap.size ≤ u1.heap.size := HS1.out.size; clear HX; have hy1 := hb1.size; (first | (have kz := kz_drew hb1) | skip)))
        all_goals
          go_wp2_with fail
          go_meet
          case rel =>
            try simp only [drew_size, alloc_size] at hy1 hy2 hy3
            have HL := HS3.out
            refine ⟨rfl, ?_⟩
            first
              | ((with_reducible refine VarS1.put kz HL oq ?_ (Nat.le_refl _) ?_ ?_) <;> ((try simp only [alloc_size]); omega))
              | ((with_reducible refine VarS1.last HL oq ?_ (Nat.le_refl _)) <;> ((try simp only [alloc_size]); omega))
      case rest =>
        obtain ⟨rfl, gh, q30, q31, q32, q33, q34, q35, q36, loh, hih, rfl, bn, o3, hloh, hhih, hggh, hglh, hb13⟩ := hcut
        obtain ⟨RQ3, rq3, OQ3, oq3, TQ3, tq3, ⟨rfl, rfl, rfl, rfl, rfl, rfl, rfl⟩⟩ := o3.form
        obtain ⟨w13, hw13⟩ : ∃ xw, xw = wc := ⟨_, rfl⟩
        subst hw13
        clear HKS HS0 HS0a HBa HBv HCv HF HCs
        clear yP00 yP01 yP02 yP03 yP04 yP05 yP06 yP20 yP21
        have hs13 := hb13.size
        have o0 := o0.below hb13 (by omega)
        have o2 := o2.below hb13 (by omega)
        have bP0 := bP0.below hb13 bP0.lt
        have bP2 := bP2.below hb13 bP2.lt
        have br := br.below hb13 br.lt
        have bg := bg.below hb13 bg.lt
        have I0 := I0.below (Below.mono hb13 (by omega))
        have hT13 := below_then hT12 hb13
        clear hT12
        clear hb13
        have bh := bn
        have lh := bn.lt
        clear bn
        obtain ⟨yh0, yh1, yh2, yh3, yh4, yh5, yh6⟩ := bh.cells7
        obtain ⟨yr0, yr1, yr2, yr3, yr4, yr5, yr6⟩ := br.cells7
        go_wp2_with fail
        refine (eqScn_any w13 w13.heap.size (Nat.le_refl _) (o3.in_ HZ.out.1 HZ.out.2.1 HZ.out.2.2 (by omega)) (o0.in_ HZ.out.1 HZ.out.2.1 HZ.out.2.2 (by omega))).mono ?_
        rintro e w14 ⟨rfl, hb14⟩
        clear yh0 yh1 yh2 yh3 yh4 yh5 yh6 yr0 yr1 yr2 yr3 yr4 yr5 yr6
        have hs14 := hb14.size
        have o0 := o0.below hb14 (by omega)
        have o2 := o2.below hb14 (by omega)
        have o3 := o3.below hb14 (by omega)
        have bP0 := bP0.below hb14 bP0.lt
        have bP2 := bP2.below hb14 bP2.lt
        have br := br.below hb14 br.lt
        have bg := bg.below hb14 bg.lt
        have bh := bh.below hb14 bh.lt
        have I0 := I0.below (Below.mono hb14 (by omega))
        have hT14 := below_then hT13 hb14
        clear hT13
        clear hb14
        obtain ⟨yg0, yg1, yg2, yg3, yg4, yg5, yg6⟩ := bg.cells7
        go_wp2_with fail
        refine (heldScn_any w14 _ _ (1) o2 (by omega) (by omega) (by omega)).mono ?_
        rintro e w15 ⟨he, hb15⟩
        rw [← HK2.out] at he
        subst he
        clear yg0 yg1 yg2 yg3 yg4 yg5 yg6
        have hs15 := hb15.size
        have o0 := o0.below hb15 (by omega)
        have o2 := o2.below hb15 (by omega)
        have o3 := o3.below hb15 (by omega)
        have bP0 := bP0.below hb15 bP0.lt
        have bP2 := bP2.below hb15 bP2.lt
        have br := br.below hb15 br.lt
        have bg := bg.below hb15 bg.lt
        have bh := bh.below hb15 bh.lt
        have I0 := I0.below (Below.mono hb15 (by omega))
        have hT15 := below_then hT14 hb15
        clear hT14
        clear hb15
        clear o2
        clear o0
        clear o3
        go_wp2_with fail
        go_ret
        exact ⟨rfl, hT15⟩
end Go.Proofs.Ytocllmaikngoaaa
