/-
  The exact laws' walks: LimitsOf.
-/
import Derived.Test.YtocllmaikngoaaaDoorSB
import Derived.Test.YtocllmaikngoaaaDoorFreI2
import Derived.Test.YtocllmaikngoaaaDoorFreR2
namespace Go.Proofs.YtocllmaikngoaaaDoor
open Go.RowKit
set_option linter.unusedVariables false
set_option maxHeartbeats 1600000 in
theorem eqBox_any (w : World) (a b c d : Int) (ha : (Lit.int .i64 a).wf = true) (hb : (Lit.int .i64 b).wf = true) (hc : (Lit.int .i64 c).wf = true) (hd : (Lit.int .i64 d).wf = true) :
    Calls Tryd.prog 17 #[.agg #[.int .i64 a, .int .i64 b, .int .i64 c, .int .i64 d], .agg #[.int .i64 a, .int .i64 b, .int .i64 c, .int .i64 d]] w fun e w' => e = .returned (.bool true) ∧ Below w.heap.size w w' := by
  have H1 := hide (fun (W : World) => eqVec_any W a b ha hb)
  have H2 := hide (fun (W : World) => eqVec_any W c d hc hd)
  clear ha hb hc hd
  obtain ⟨W0, hW0⟩ : ∃ W0, W0 = (w.alloc (.cells #[.int .i64 a, .int .i64 b, .int .i64 c, .int .i64 d] 42)).alloc (.cells #[.int .i64 a, .int .i64 b, .int .i64 c, .int .i64 d] 42) := ⟨_, rfl⟩
  have hT0 : Below w.heap.size w W0 := by rw [hW0]; exact below_alloc (below_new _ _) _
  have kp : Box W0 w.heap.size 42 #[.int .i64 a, .int .i64 b, .int .i64 c, .int .i64 d] := by rw [hW0]; exact (Box.last _ _ _ rfl).alloc _
  have kq : Box W0 (w.heap.size + 1) 42 #[.int .i64 a, .int .i64 b, .int .i64 c, .int .i64 d] := by rw [hW0]; exact Box.last _ _ _ (alloc_size _ _).symm
  go_enter Tryd.func17, Tryd.ntmps17
  go_upto_region 1 with fail
  rw [← hW0]
  clear hW0
  obtain ⟨p0, p1, p2, p3⟩ := kp.cells4
  obtain ⟨q0, q1, q2, q3⟩ := kq.cells4
  go_wp2_with fail
  refine (H1.out _).mono ?_
  rintro e w1 ⟨rfl, hb1⟩
  clear p0 p1 p2 p3 q0 q1 q2 q3
  have kp := kp.below hb1 kp.lt
  have kq := kq.below hb1 kq.lt
  have hT1 := below_then hT0 hb1
  clear hb1 hT0
  obtain ⟨p0, p1, p2, p3⟩ := kp.cells4
  obtain ⟨q0, q1, q2, q3⟩ := kq.cells4
  go_wp2_with fail
  refine (H2.out _).mono ?_
  rintro e w2 ⟨rfl, hb2⟩
  go_wp2_with fail
  go_ret
  exact ⟨rfl, below_then hT1 hb2⟩
theorem limX_wf {S : Scn} {k : Int} : (Lit.int .i64 (limX S k).lx).wf = true ∧ (Lit.int .i64 (limX S k).ly).wf = true ∧ (Lit.int .i64 (limX S k).hx).wf = true ∧ (Lit.int .i64 (limX S k).hy).wf = true := by
  have z : (Lit.int .i64 0).wf = true := WalkArith.wf_i64 ⟨by omega, by omega⟩
  unfold limX
  split
  · rename_i h
    have hp : polyB (robL S k) = true := by
      unfold limB at h
      simp only [Bool.and_eq_true] at h
      exact h.1
    have := lim_range hp
    exact ⟨WalkArith.wf_i64 ⟨by simp only; omega, by simp only; omega⟩, WalkArith.wf_i64 ⟨by simp only; omega, by simp only; omega⟩, WalkArith.wf_i64 ⟨by simp only; omega, by simp only; omega⟩, WalkArith.wf_i64 ⟨by simp only; omega, by simp only; omega⟩⟩
  · exact ⟨z, z, z, z⟩
set_option maxHeartbeats 16000000 in
set_option maxRecDepth 100000 in
theorem FnExactLimitsOf_walk (w : World) {v00 v01 v02 v03 v04 v05 v06 : Value} (S0 : Scn) (f0 : SArg w v00 v01 v02 v03 v04 v05 v06 S0) (a1 : Int) (f1 : (Lit.int .i64 a1).wf = true) (hQ : QTab w) :
    Calls Tryd.prog 4 #[.agg #[v00, v01, v02, v03, v04, v05, v06], .int .i64 a1] w fun e w' => e = .returned (.bool true) ∧ Below w.heap.size w w' := by
  obtain ⟨RA0, rc0, OA0, oc0, TA0, tc0, ⟨rfl, rfl, rfl, rfl, rfl, rfl, rfl⟩⟩ := f0.form
  obtain ⟨hm1, hM1⟩ := bounds_i64 f1
  obtain ⟨w1, hw1⟩ : ∃ x, x = (w.alloc (.cells #[.int .i64 S0.lx, .int .i64 S0.ly, .int .i64 S0.hx, .int .i64 S0.hy, .slice RA0 S0.r.length rc0, .slice OA0 S0.o.length oc0, .slice TA0 S0.t.length tc0] 27)) := ⟨_, rfl⟩
  have hT1 : Below w.heap.size w w1 := by rw [hw1]; exact below_new _ _
  have hs1 := hT1.size
  have bP0 : Box w1 w.heap.size 27 #[.int .i64 S0.lx, .int .i64 S0.ly, .int .i64 S0.hx, .int .i64 S0.hy, .slice RA0 S0.r.length rc0, .slice OA0 S0.o.length oc0, .slice TA0 S0.t.length tc0] := by rw [hw1]; exact Box.last _ _ _ rfl
  have hq1 : w.heap.size + 1 ≤ w1.heap.size := by rw [hw1, alloc_size]; omega
  obtain ⟨m0, hm0e⟩ : ∃ m, m = totS S0 := ⟨_, rfl⟩
  have D0 := hide (fun (W : World) (hb : Below w.heap.size w W) (k : Nat) (hk : k ≤ 1048576) => szScn_any W S0 (f0.below hb) k hk)
  rw [← hm0e] at D0
  have HME0 := hide hm0e
  clear hm0e
  have C0 := hide (fun (W : World) (hb : Below w.heap.size w W) => D0.out W hb (1048576) (by omega))
  by_cases c0 : m0 ≤ 1048576
  case neg =>
    rw [szR_no (by omega)] at C0
    clear D0
    go_enter Tryd.func4, Tryd.ntmps4
    go_upto_region 1 with fail
    rw [← hw1]
    clear hw1
    obtain ⟨yP00, yP01, yP02, yP03, yP04, yP05, yP06⟩ := bP0.cells7
    go_wp2_with fail
    refine (C0.out _ hT1).mono ?_
    rintro e w2 ⟨rfl, hb2⟩
    clear yP00 yP01 yP02 yP03 yP04 yP05 yP06
    have hs2 := hb2.size
    have bP0 := bP0.below hb2 bP0.lt
    have hT2 := below_then hT1 hb2
    clear hT1 hb2
    go_wp2_with fail
    go_ret
    exact ⟨rfl, hT2⟩
  obtain ⟨lf0, hlf0⟩ : ∃ r : Nat, r + m0 = 1048576 := ⟨1048576 - m0, by omega⟩
  have hr0 : szR (1048576) m0 = (lf0 : Int) := by rw [szR_ok c0]; congr 1; omega
  rw [hr0] at C0
  have hnn0 : ¬ (lf0 : Int) < 0 := by omega
  have hlb0 : lf0 ≤ 1048576 := by omega
  clear hr0
  clear D0
  have HMB0 : m0 ≤ 1048576 := by omega
  rw [HME0.out] at HMB0
  have hM0 := HMB0
  clear HMB0 HME0
  have I0 := f0.in_ hM0
  have HA0 : Hid (SFit S0 ∧ wf4 S0 ∧ SShort S0) := ⟨I0.fit.1, I0.fit.2, short_of hM0⟩
  clear f0
  have HLF0 := hide hlf0
  clear hlf0 c0
  have I0 := I0.below hT1
  go_enter Tryd.func4, Tryd.ntmps4
  go_upto_region 1 with fail
  rw [← hw1]
  clear hw1
  obtain ⟨yP00, yP01, yP02, yP03, yP04, yP05, yP06⟩ := bP0.cells7
  go_wp2_with fail
  refine (C0.out _ hT1).mono ?_
  rintro e w2 ⟨rfl, hb2⟩
  clear yP00 yP01 yP02 yP03 yP04 yP05 yP06
  have hs2 := hb2.size
  have bP0 := bP0.below hb2 bP0.lt
  have I0 := I0.below (Below.mono hb2 (by omega))
  have hT2 := below_then hT1 hb2
  clear hT1
  clear hb2
  clear C0
  obtain ⟨yP00, yP01, yP02, yP03, yP04, yP05, yP06⟩ := bP0.cells7
  go_wp2_with fail
  refine (toScn_any w2 w.heap.size hT2.size I0).mono ?_
  rintro e w3 ⟨q00, q01, q02, q03, q04, q05, q06, rfl, o0, hb3⟩
  obtain ⟨RQ0, rq0, OQ0, oq0, TQ0, tq0, ⟨rfl, rfl, rfl, rfl, rfl, rfl, rfl⟩⟩ := o0.form
  have hs3 := hb3.size
  have bP0 := bP0.below hb3 bP0.lt
  have I0 := I0.below (Below.mono hb3 (by omega))
  have hT3 := below_then hT2 hb3
  clear hT2
  clear hb3
  clear yP00 yP01 yP02 yP03 yP04 yP05 yP06
  go_wp2_with fail
  refine (spec_LimitsOf w3 w3.heap.size (Nat.le_refl _) (o0.in_ HA0.out.1 HA0.out.2.1 HA0.out.2.2 (by omega)) a1 f1).mono ?_
  rintro e w4 ⟨rfl, hb4⟩
  have hs4 := hb4.size
  have o0 := o0.below hb4 (by omega)
  have bP0 := bP0.below hb4 bP0.lt
  have I0 := I0.below (Below.mono hb4 (by omega))
  have hT4 := below_then hT3 hb4
  clear hT3
  clear hb4
  obtain ⟨w5, hw5⟩ : ∃ x, x = w4.alloc (.cells #[.int .i64 (limX S0 a1).lx, .int .i64 (limX S0 a1).ly, .int .i64 (limX S0 a1).hx, .int .i64 (limX S0 a1).hy] 42) := ⟨_, rfl⟩
  have hb5 : Below w4.heap.size w4 w5 := by rw [hw5]; exact below_new _ _
  have hq5 : w4.heap.size < w5.heap.size := by rw [hw5, alloc_size]; omega
  have bn : Box w5 w4.heap.size 42 #[.int .i64 (limX S0 a1).lx, .int .i64 (limX S0 a1).ly, .int .i64 (limX S0 a1).hx, .int .i64 (limX S0 a1).hy] := by rw [hw5]; exact Box.last _ _ _ rfl
  have hs5 := hb5.size
  have o0 := o0.below hb5 (by omega)
  have bP0 := bP0.below hb5 bP0.lt
  have I0 := I0.below (Below.mono hb5 (by omega))
  have hT5 := below_then hT4 hb5
  clear hT4
  have br := bn
  clear bn
  clear hb5
  clear o0
  go_upto_region 6 with fail
  rw [← hw5]
  clear hw5
  obtain ⟨yP00, yP01, yP02, yP03, yP04, yP05, yP06⟩ := bP0.cells7
  go_wp2_with fail
  refine (toScn_any w5 w.heap.size hT5.size I0).mono ?_
  rintro e w6 ⟨q10, q11, q12, q13, q14, q15, q16, rfl, o1, hb6⟩
  obtain ⟨RQ1, rq1, OQ1, oq1, TQ1, tq1, ⟨rfl, rfl, rfl, rfl, rfl, rfl, rfl⟩⟩ := o1.form
  have hs6 := hb6.size
  have bP0 := bP0.below hb6 bP0.lt
  have br := br.below hb6 br.lt
  have I0 := I0.below (Below.mono hb6 (by omega))
  have hT6 := below_then hT5 hb6
  clear hT5
  clear hb6
  clear yP00 yP01 yP02 yP03 yP04 yP05 yP06
  obtain ⟨w7, hw7⟩ : ∃ x, x = w6.alloc (.cells #[.int .i64 S0.lx, .int .i64 S0.ly, .int .i64 S0.hx, .int .i64 S0.hy, .slice RQ1 S0.r.length rq1, .slice OQ1 S0.o.length oq1, .slice TQ1 S0.t.length tq1] 34) := ⟨_, rfl⟩
  have hb7 : Below w6.heap.size w6 w7 := by rw [hw7]; exact below_new _ _
  have hq7 : w6.heap.size < w7.heap.size := by rw [hw7, alloc_size]; omega
  have bn : Box w7 w6.heap.size 34 #[.int .i64 S0.lx, .int .i64 S0.ly, .int .i64 S0.hx, .int .i64 S0.hy, .slice RQ1 S0.r.length rq1, .slice OQ1 S0.o.length oq1, .slice TQ1 S0.t.length tq1] := by rw [hw7]; exact Box.last _ _ _ rfl
  have hs7 := hb7.size
  have o1 := o1.below hb7 (by omega)
  have bP0 := bP0.below hb7 bP0.lt
  have br := br.below hb7 br.lt
  have I0 := I0.below (Below.mono hb7 (by omega))
  have hT7 := below_then hT6 hb7
  clear hT6
  have bx0 := bn
  clear bn
  clear hb7
  go_upto_region 7 with fail
  rw [← hw7]
  clear hw7
  obtain ⟨yx00, yx01, yx02, yx03, yx04, yx05, yx06⟩ := bx0.cells7
  go_wp2_with fail
  refine (impl_LimitsOf w7 w7.heap.size (Nat.le_refl _) (o1.in_ HA0.out.1 HA0.out.2.1 HA0.out.2.2 (by omega)) a1 f1 (hQ.below hT7 (Nat.le_refl _))).mono ?_
  rintro e w8 ⟨rfl, hb8⟩
  have hs8 := hb8.size
  have o1 := o1.below hb8 (by omega)
  have bP0 := bP0.below hb8 bP0.lt
  have br := br.below hb8 br.lt
  have bx0 := bx0.below hb8 bx0.lt
  have I0 := I0.below (Below.mono hb8 (by omega))
  have hT8 := below_then hT7 hb8
  clear hT7
  clear hb8
  obtain ⟨w9, hw9⟩ : ∃ x, x = w8.alloc (.cells #[.int .i64 (limX S0 a1).lx, .int .i64 (limX S0 a1).ly, .int .i64 (limX S0 a1).hx, .int .i64 (limX S0 a1).hy] 42) := ⟨_, rfl⟩
  have hb9 : Below w8.heap.size w8 w9 := by rw [hw9]; exact below_new _ _
  have hq9 : w8.heap.size < w9.heap.size := by rw [hw9, alloc_size]; omega
  have bn : Box w9 w8.heap.size 42 #[.int .i64 (limX S0 a1).lx, .int .i64 (limX S0 a1).ly, .int .i64 (limX S0 a1).hx, .int .i64 (limX S0 a1).hy] := by rw [hw9]; exact Box.last _ _ _ rfl
  have hs9 := hb9.size
  have o1 := o1.below hb9 (by omega)
  have bP0 := bP0.below hb9 bP0.lt
  have br := br.below hb9 br.lt
  have bx0 := bx0.below hb9 bx0.lt
  have I0 := I0.below (Below.mono hb9 (by omega))
  have hT9 := below_then hT8 hb9
  clear hT8
  have bg := bn
  clear bn
  clear hb9
  go_upto_region 8 with fail
  rw [← hw9]
  clear hw9
  clear yx00 yx01 yx02 yx03 yx04 yx05 yx06
  obtain ⟨yg0, yg1, yg2, yg3⟩ := bg.cells4
  obtain ⟨yr0, yr1, yr2, yr3⟩ := br.cells4
  go_wp2_with fail
  refine (eqBox_any w9 _ _ _ _ limX_wf.1 limX_wf.2.1 limX_wf.2.2.1 limX_wf.2.2.2).mono ?_
  rintro e w10 ⟨rfl, hb10⟩
  clear yg0 yg1 yg2 yg3 yr0 yr1 yr2 yr3
  have hs10 := hb10.size
  have o1 := o1.below hb10 (by omega)
  have bP0 := bP0.below hb10 bP0.lt
  have br := br.below hb10 br.lt
  have bx0 := bx0.below hb10 bx0.lt
  have bg := bg.below hb10 bg.lt
  have I0 := I0.below (Below.mono hb10 (by omega))
  have hT10 := below_then hT9 hb10
  clear hT9
  clear hb10
  clear bg
  clear br
  go_upto_region 10 with fail
  obtain ⟨yP00, yP01, yP02, yP03, yP04, yP05, yP06⟩ := bP0.cells7
  obtain ⟨yx00, yx01, yx02, yx03, yx04, yx05, yx06⟩ := bx0.cells7
  have HPi := hide bP0
  have HPj := hide bx0
  have HKS := hide (fun (W : World) (hq : Below w10.heap.size w10 W) => (⟨(HPj.out.below hq HPj.out.lt).cell 0, (HPj.out.below hq HPj.out.lt).cell 1, (HPj.out.below hq HPj.out.lt).cell 2, (HPj.out.below hq HPj.out.lt).cell 3, (HPj.out.below hq HPj.out.lt).cell 4, (HPj.out.below hq HPj.out.lt).cell 5, (HPj.out.below hq HPj.out.lt).cell 6, (HPi.out.below hq HPi.out.lt).cell 0, (HPi.out.below hq HPi.out.lt).cell 1, (HPi.out.below hq HPi.out.lt).cell 2, (HPi.out.below hq HPi.out.lt).cell 3, (HPi.out.below hq HPi.out.lt).cell 4, (HPi.out.below hq HPi.out.lt).cell 5, (HPi.out.below hq HPi.out.lt).cell 6⟩ : W.cell? ⟨w6.heap.size, 0, none⟩ = some (.int .i64 S0.lx) ∧ W.cell? ⟨w6.heap.size, 1, none⟩ = some (.int .i64 S0.ly) ∧ W.cell? ⟨w6.heap.size, 2, none⟩ = some (.int .i64 S0.hx) ∧ W.cell? ⟨w6.heap.size, 3, none⟩ = some (.int .i64 S0.hy) ∧ W.cell? ⟨w6.heap.size, 4, none⟩ = some (.slice RQ1 S0.r.length rq1) ∧ W.cell? ⟨w6.heap.size, 5, none⟩ = some (.slice OQ1 S0.o.length oq1) ∧ W.cell? ⟨w6.heap.size, 6, none⟩ = some (.slice TQ1 S0.t.length tq1) ∧ W.cell? ⟨w.heap.size, 0, none⟩ = some (.int .i64 S0.lx) ∧ W.cell? ⟨w.heap.size, 1, none⟩ = some (.int .i64 S0.ly) ∧ W.cell? ⟨w.heap.size, 2, none⟩ = some (.int .i64 S0.hx) ∧ W.cell? ⟨w.heap.size, 3, none⟩ = some (.int .i64 S0.hy) ∧ W.cell? ⟨w.heap.size, 4, none⟩ = some (.slice RA0 S0.r.length rc0) ∧ W.cell? ⟨w.heap.size, 5, none⟩ = some (.slice OA0 S0.o.length oc0) ∧ W.cell? ⟨w.heap.size, 6, none⟩ = some (.slice TA0 S0.t.length tc0)))
  have HCi := hide (fun (W : World) (hq : Below w10.heap.size w10 W) => toScn_any W w.heap.size (by have := hT10.size; have := hq.size; omega) (I0.below (hq.mono hT10.size)))
  have HOd := hide o1
  have HF := hide (fun (W W' : World) (hq : Below w10.heap.size w10 W) (hq' : Below W.heap.size W W') (p0 p1 p2 p3 p4 p5 p6 : Value) (r : SOwn W' W.heap.size W'.heap.size 29 31 p0 p1 p2 p3 p4 p5 p6 S0) => eqScn_any W' W'.heap.size (Nat.le_refl _) ((HOd.out.below hq (by omega)).below hq' (by have := hq.size; omega) |>.in_ HA0.out.1 HA0.out.2.1 HA0.out.2.2 (by have := hq.size; have := hq'.size; omega)) (r.in_ HA0.out.1 HA0.out.2.1 HA0.out.2.2 (Nat.le_refl _)))
  have HS0 : Hid (Below w10.heap.size w10 w10.drew) := (Below.refl _ _).drew
  go_region_held3 (fun w' => w'.cell? ⟨w6.heap.size, 0, none⟩ = some (.int .i64 S0.lx) ∧ w'.cell? ⟨w6.heap.size, 1, none⟩ = some (.int .i64 S0.ly) ∧ w'.cell? ⟨w6.heap.size, 2, none⟩ = some (.int .i64 S0.hx) ∧ w'.cell? ⟨w6.heap.size, 3, none⟩ = some (.int .i64 S0.hy) ∧ w'.cell? ⟨w6.heap.size, 4, none⟩ = some (.slice RQ1 S0.r.length rq1) ∧ w'.cell? ⟨w6.heap.size, 5, none⟩ = some (.slice OQ1 S0.o.length oq1) ∧ w'.cell? ⟨w6.heap.size, 6, none⟩ = some (.slice TQ1 S0.t.length tq1) ∧ w'.cell? ⟨w.heap.size, 0, none⟩ = some (.int .i64 S0.lx) ∧ w'.cell? ⟨w.heap.size, 1, none⟩ = some (.int .i64 S0.ly) ∧ w'.cell? ⟨w.heap.size, 2, none⟩ = some (.int .i64 S0.hx) ∧ w'.cell? ⟨w.heap.size, 3, none⟩ = some (.int .i64 S0.hy) ∧ w'.cell? ⟨w.heap.size, 4, none⟩ = some (.slice RA0 S0.r.length rc0) ∧ w'.cell? ⟨w.heap.size, 5, none⟩ = some (.slice OA0 S0.o.length oc0) ∧ w'.cell? ⟨w.heap.size, 6, none⟩ = some (.slice TA0 S0.t.length tc0))
      (first | (with_reducible exact HKS.out _ HS2.out) | (with_reducible exact HKS.out _ HS1.out) | (with_reducible exact HKS.out _ HS0.out))
      (first
        | (go_at_call 8; refine (HCi.out _ HS0.out).mono ?_; rintro e u1 ⟨p0, p1, p2, p3, p4, p5, p6, rfl, e1, hb1⟩; have HB1 := hide hb1; have HS1 := hide (below_then HS0.out hb1))
        | (go_at_call 11; refine (HF.out _ _ HS0.out HB1.out _ _ _ _ _ _ _ e1).mono ?_; rintro e u2 ⟨rfl, hb2⟩; have HS2 := hide (below_then HS1.out hb2)))
  have hb11 := HS2.out
  obtain ⟨w11, hw11⟩ : ∃ x, x = u2 := ⟨_, rfl⟩
  subst hw11
  clear HKS HCi HF HS0 HPi HPj HS1 HS2 HB1 HOd hb1 hb2 e1
  clear yP00 yP01 yP02 yP03 yP04 yP05 yP06 yx00 yx01 yx02 yx03 yx04 yx05 yx06
  have hs11 := hb11.size
  have o1 := o1.below hb11 (by omega)
  have bP0 := bP0.below hb11 bP0.lt
  have bx0 := bx0.below hb11 bx0.lt
  have I0 := I0.below (Below.mono hb11 (by omega))
  have hT11 := below_then hT10 hb11
  clear hT10
  clear hb11
  clear o1
  go_wp2_with fail
  go_ret
  exact ⟨rfl, hT11⟩
end Go.Proofs.YtocllmaikngoaaaDoor
