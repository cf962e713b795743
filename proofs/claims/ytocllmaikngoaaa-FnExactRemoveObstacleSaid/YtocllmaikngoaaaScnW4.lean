/-
  The exact laws' walks: RemoveObstacle.
-/
import Derived.Test.YtocllmaikngoaaaSB
import Derived.Test.YtocllmaikngoaaaScnY
import Derived.Test.YtocllmaikngoaaaScnZ
namespace Go.Proofs.Ytocllmaikngoaaa
open Go.RowKit
set_option linter.unusedVariables false
theorem totN_app4 (a b : List (List V2)) : totN (a ++ b) = totN a + totN b := by unfold totN; rw [List.map_append, List.sum_append]
theorem totN_dropLe (l : List (List V2)) (k : Nat) : totN (l.drop (k + 1)) ≤ totN (l.drop k) := by
  rw [← List.drop_drop]
  cases l.drop k with
  | nil => simp
  | cons x r => simp [totN]
theorem SOwn.capO {w : World} {lo hi : Nat} {ES EV : TypeId} {v0 v1 v2 v3 v4 v5 v6 : Value} {S : Scn} (h : SOwn w lo hi ES EV v0 v1 v2 v3 v4 v5 v6 S) : ∃ A c, v5 = .slice A S.o.length c ∧ S.o.length ≤ c ∧ c ≤ maxLen := by
  obtain ⟨RA, rc, OA, oc, TA, tc, os, r0, r1, o0, o1, t0, t1, ⟨rfl, rfl, rfl, rfl, rfl, rfl, rfl⟩, _, ⟨o, _⟩, _⟩ := h
  exact ⟨_, _, rfl, o.1.cap⟩
theorem remS_fit {S : Scn} {k : Int} (h : totS S ≤ 1048576) (f : SFit S ∧ wf4 S ∧ SShort S) : (SFit (remS S k) ∧ wf4 (remS S k) ∧ SShort (remS S k)) ∧ totS (remS S k) ≤ 1048577 := by
  unfold remS
  split
  · obtain ⟨⟨f1, f2, f3, f4, f5, f6⟩, x, g1, g2, g3, g4⟩ := f
    have hm : ∀ y ∈ (withO S (lessL S.o k.toNat)).o, y ∈ S.o := fun y hy => by
      rcases List.mem_append.1 hy with hy | hy
      · exact List.mem_of_mem_take hy
      · exact List.mem_of_mem_drop hy
    have el : (withO S (lessL S.o k.toNat)).o.length ≤ S.o.length := by
      show (S.o.take k.toNat ++ S.o.drop (k.toNat + 1)).length ≤ _
      rw [List.length_append, List.length_take, List.length_drop]; omega
    refine ⟨⟨⟨f1, by omega, f3, f4, fun y hy => f5 y (hm y hy), f6⟩, x, g1, by omega, g3, fun y hy => g4 y (hm y hy)⟩, ?_⟩
    have et : totN (withO S (lessL S.o k.toNat)).o ≤ totN S.o := by
      show totN (S.o.take k.toNat ++ S.o.drop (k.toNat + 1)) ≤ _
      have e : totN S.o = totN (S.o.take k.toNat) + totN (S.o.drop k.toNat) := by
        rw [← totN_app4, List.take_append_drop]
      rw [totN_app4, e]
      have e2 : totN (S.o.drop (k.toNat + 1)) ≤ totN (S.o.drop k.toNat) := totN_dropLe _ _
      omega
    unfold totS at h ⊢
    show S.r.length + ((withO S (lessL S.o k.toNat)).o.length + totN (withO S (lessL S.o k.toNat)).o) + S.t.length ≤ _
    omega
  · exact ⟨f, by omega⟩
set_option maxHeartbeats 16000000 in
set_option maxRecDepth 100000 in
theorem FnExactRemoveObstacle_walk (w : World) {v00 v01 v02 v03 v04 v05 v06 : Value} (S0 : Scn) (f0 : SArg w v00 v01 v02 v03 v04 v05 v06 S0) (a1 : Int) (f1 : (Lit.int .i64 a1).wf = true) :
    Calls Try.prog 3 #[.agg #[v00, v01, v02, v03, v04, v05, v06], .int .i64 a1] w fun e w' => e = .returned (.bool true) ∧ Below w.heap.size w w' := by
  obtain ⟨RA0, rc0, OA0, oc0, TA0, tc0, ⟨rfl, rfl, rfl, rfl, rfl, rfl, rfl⟩⟩ := f0.form
  obtain ⟨hm1, hM1⟩ := bounds_i64 f1
  obtain ⟨w1, hw1⟩ : ∃ x, x = (w.alloc (.cells #[.int .i64 S0.lx, .int .i64 S0.ly, .int .i64 S0.hx, .int .i64 S0.hy, .slice RA0 S0.r.length rc0, .slice OA0 S0.o.length oc0, .slice TA0 S0.t.length tc0] 27)) := ⟨_, rfl⟩
  have hT1 : Below w.heap.size w w1 := by rw [hw1]; exact below_new _ _
  have hs1 := hT1.size
  have bP0 : Box w1 w.heap.size 27 #[.int .i64 S0.lx, .int .i64 S0.ly, .int .i64 S0.hx, .int .i64 S0.hy, .slice RA0 S0.r.length rc0, .slice OA0 S0.o.length oc0, .slice TA0 S0.t.length tc0] := by rw [hw1]; exact Box.last _ _ _ rfl
  have hq1 : w.heap.size + 1 ≤ w1.heap.size := by rw [hw1, alloc_size]; omega
  obtain ⟨m0, hm0e⟩ : ∃ m, m = totS S0 := ⟨_, rfl⟩
  have D0 := hide (fun (W : World) (hb : Below w.heap.size w W) (k : Nat) (hk : k ≤ 1048576) => szScn_any W S0 (f0.below hb) k hk)
  rw [← hm0e] at D0
  have HME0 := hide hm0e
  clear hm0e
  have C0 := hide (fun (W : World) (hb : Below w.heap.size w W) => D0.out W hb (1048576) (by omega))
  by_cases c0 : m0 ≤ 1048576
  case neg =>
    rw [szR_no (by omega)] at C0
    clear D0
    go_enter Try.func3, Try.ntmps3
    go_upto_region 1 with fail
    rw [← hw1]
    clear hw1
    obtain ⟨yP00, yP01, yP02, yP03, yP04, yP05, yP06⟩ := bP0.cells7
    go_wp2_with fail
    refine (C0.out _ hT1).mono ?_
    rintro e w2 ⟨rfl, hb2⟩
    clear yP00 yP01 yP02 yP03 yP04 yP05 yP06
    have hs2 := hb2.size
    have bP0 := bP0.below hb2 bP0.lt
    have hT2 := below_then hT1 hb2
    clear hT1 hb2
    go_wp2_with fail
    go_ret
    exact ⟨rfl, hT2⟩
  obtain ⟨lf0, hlf0⟩ : ∃ r : Nat, r + m0 = 1048576 := ⟨1048576 - m0, by omega⟩
  have hr0 : szR (1048576) m0 = (lf0 : Int) := by rw [szR_ok c0]; congr 1; omega
  rw [hr0] at C0
  have hnn0 : ¬ (lf0 : Int) < 0 := by omega
  have hlb0 : lf0 ≤ 1048576 := by omega
  clear hr0
  clear D0
  have HMB0 : m0 ≤ 1048576 := by omega
  rw [HME0.out] at HMB0
  have hM0 := HMB0
  clear HMB0 HME0
  have I0 := f0.in_ hM0
  have HA0 : Hid (SFit S0 ∧ wf4 S0 ∧ SShort S0) := ⟨I0.fit.1, I0.fit.2, short_of hM0⟩
  clear f0
  have HLF0 := hide hlf0
  clear hlf0 c0
  have HZ' := remS_fit (S := S0) (k := a1) (by omega) HA0.out
  have hMZ := HZ'.2
  have HZ := hide HZ'.1
  clear HZ'
  have I0 := I0.below hT1
  go_enter Try.func3, Try.ntmps3
  go_upto_region 1 with fail
  rw [← hw1]
  clear hw1
  obtain ⟨yP00, yP01, yP02, yP03, yP04, yP05, yP06⟩ := bP0.cells7
  go_wp2_with fail
  refine (C0.out _ hT1).mono ?_
  rintro e w2 ⟨rfl, hb2⟩
  clear yP00 yP01 yP02 yP03 yP04 yP05 yP06
  have hs2 := hb2.size
  have bP0 := bP0.below hb2 bP0.lt
  have I0 := I0.below (Below.mono hb2 (by omega))
  have hT2 := below_then hT1 hb2
  clear hT1
  clear hb2
  clear C0
  obtain ⟨yP00, yP01, yP02, yP03, yP04, yP05, yP06⟩ := bP0.cells7
  go_wp2_with fail
  refine (toScn_any w2 w.heap.size hT2.size I0).mono ?_
  rintro e w3 ⟨q00, q01, q02, q03, q04, q05, q06, rfl, o0, hb3⟩
  obtain ⟨RQ0, rq0, OQ0, oq0, TQ0, tq0, ⟨rfl, rfl, rfl, rfl, rfl, rfl, rfl⟩⟩ := o0.form
  have hs3 := hb3.size
  have bP0 := bP0.below hb3 bP0.lt
  have I0 := I0.below (Below.mono hb3 (by omega))
  have hT3 := below_then hT2 hb3
  clear hT2
  clear hb3
  clear yP00 yP01 yP02 yP03 yP04 yP05 yP06
  go_wp2_with fail
  refine (spec_RemoveObstacle w3 w3.heap.size (Nat.le_refl _) (o0.in_ HA0.out.1 HA0.out.2.1 HA0.out.2.2 (by omega)) a1 f1 o0.capO).mono ?_
  rintro e w4 ⟨q10, q11, q12, q13, q14, q15, q16, rfl, o1, hb4⟩
  obtain ⟨RQ1, rq1, OQ1, oq1, TQ1, tq1, ⟨rfl, rfl, rfl, rfl, rfl, rfl, rfl⟩⟩ := o1.form
  have hs4 := hb4.size
  have o0 := o0.below hb4 (by omega)
  have bP0 := bP0.below hb4 bP0.lt
  have I0 := I0.below (Below.mono hb4 (by omega))
  have hT4 := below_then hT3 hb4
  clear hT3
  clear hb4
  obtain ⟨w5, hw5⟩ : ∃ x, x = w4.alloc (.cells #[.int .i64 (remS S0 a1).lx, .int .i64 (remS S0 a1).ly, .int .i64 (remS S0 a1).hx, .int .i64 (remS S0 a1).hy, .slice RQ1 (remS S0 a1).r.length rq1, .slice OQ1 (remS S0 a1).o.length oq1, .slice TQ1 (remS S0 a1).t.length tq1] 33) := ⟨_, rfl⟩
  have hb5 : Below w4.heap.size w4 w5 := by rw [hw5]; exact below_new _ _
  have hq5 : w4.heap.size < w5.heap.size := by rw [hw5, alloc_size]; omega
  have bn : Box w5 w4.heap.size 33 #[.int .i64 (remS S0 a1).lx, .int .i64 (remS S0 a1).ly, .int .i64 (remS S0 a1).hx, .int .i64 (remS S0 a1).hy, .slice RQ1 (remS S0 a1).r.length rq1, .slice OQ1 (remS S0 a1).o.length oq1, .slice TQ1 (remS S0 a1).t.length tq1] := by rw [hw5]; exact Box.last _ _ _ rfl
  have hs5 := hb5.size
  have o0 := o0.below hb5 (by omega)
  have o1 := o1.below hb5 (by omega)
  have bP0 := bP0.below hb5 bP0.lt
  have I0 := I0.below (Below.mono hb5 (by omega))
  have hT5 := below_then hT4 hb5
  clear hT4
  have br := bn
  clear bn
  clear hb5
  go_upto_region 6 with fail
  rw [← hw5]
  clear hw5
  clear o0
  obtain ⟨yP00, yP01, yP02, yP03, yP04, yP05, yP06⟩ := bP0.cells7
  go_wp2_with fail
  refine (toScn_any w5 w.heap.size hT5.size I0).mono ?_
  rintro e w6 ⟨q20, q21, q22, q23, q24, q25, q26, rfl, o2, hb6⟩
  obtain ⟨RQ2, rq2, OQ2, oq2, TQ2, tq2, ⟨rfl, rfl, rfl, rfl, rfl, rfl, rfl⟩⟩ := o2.form
  have hs6 := hb6.size
  have o1 := o1.below hb6 (by omega)
  have bP0 := bP0.below hb6 bP0.lt
  have br := br.below hb6 br.lt
  have I0 := I0.below (Below.mono hb6 (by omega))
  have hT6 := below_then hT5 hb6
  clear hT5
  clear hb6
  clear yP00 yP01 yP02 yP03 yP04 yP05 yP06
  obtain ⟨w7, hw7⟩ : ∃ x, x = w6.alloc (.cells #[.int .i64 S0.lx, .int .i64 S0.ly, .int .i64 S0.hx, .int .i64 S0.hy, .slice RQ2 S0.r.length rq2, .slice OQ2 S0.o.length oq2, .slice TQ2 S0.t.length tq2] 33) := ⟨_, rfl⟩
  have hb7 : Below w6.heap.size w6 w7 := by rw [hw7]; exact below_new _ _
  have hq7 : w6.heap.size < w7.heap.size := by rw [hw7, alloc_size]; omega
  have bn : Box w7 w6.heap.size 33 #[.int .i64 S0.lx, .int .i64 S0.ly, .int .i64 S0.hx, .int .i64 S0.hy, .slice RQ2 S0.r.length rq2, .slice OQ2 S0.o.length oq2, .slice TQ2 S0.t.length tq2] := by rw [hw7]; exact Box.last _ _ _ rfl
  have hs7 := hb7.size
  have o1 := o1.below hb7 (by omega)
  have o2 := o2.below hb7 (by omega)
  have bP0 := bP0.below hb7 bP0.lt
  have br := br.below hb7 br.lt
  have I0 := I0.below (Below.mono hb7 (by omega))
  have hT7 := below_then hT6 hb7
  clear hT6
  have bx0 := bn
  clear bn
  clear hb7
  go_upto_region 7 with fail
  rw [← hw7]
  clear hw7
  obtain ⟨yx00, yx01, yx02, yx03, yx04, yx05, yx06⟩ := bx0.cells7
  go_wp2_with fail
  refine (impl_RemoveObstacle w7 w7.heap.size (Nat.le_refl _) (o2.in_ HA0.out.1 HA0.out.2.1 HA0.out.2.2 (by omega)) a1 f1).mono ?_
  rintro e w8 ⟨q30, q31, q32, q33, q34, q35, q36, rfl, o3, hb8⟩
  obtain ⟨RQ3, rq3, OQ3, oq3, TQ3, tq3, ⟨rfl, rfl, rfl, rfl, rfl, rfl, rfl⟩⟩ := o3.form
  have hs8 := hb8.size
  have o1 := o1.below hb8 (by omega)
  have o2 := o2.below hb8 (by omega)
  have bP0 := bP0.below hb8 bP0.lt
  have br := br.below hb8 br.lt
  have bx0 := bx0.below hb8 bx0.lt
  have I0 := I0.below (Below.mono hb8 (by omega))
  have hT8 := below_then hT7 hb8
  clear hT7
  clear hb8
  obtain ⟨w9, hw9⟩ : ∃ x, x = w8.alloc (.cells #[.int .i64 (remS S0 a1).lx, .int .i64 (remS S0 a1).ly, .int .i64 (remS S0 a1).hx, .int .i64 (remS S0 a1).hy, .slice RQ3 (remS S0 a1).r.length rq3, .slice OQ3 (remS S0 a1).o.length oq3, .slice TQ3 (remS S0 a1).t.length tq3] 33) := ⟨_, rfl⟩
  have hb9 : Below w8.heap.size w8 w9 := by rw [hw9]; exact below_new _ _
  have hq9 : w8.heap.size < w9.heap.size := by rw [hw9, alloc_size]; omega
  have bn : Box w9 w8.heap.size 33 #[.int .i64 (remS S0 a1).lx, .int .i64 (remS S0 a1).ly, .int .i64 (remS S0 a1).hx, .int .i64 (remS S0 a1).hy, .slice RQ3 (remS S0 a1).r.length rq3, .slice OQ3 (remS S0 a1).o.length oq3, .slice TQ3 (remS S0 a1).t.length tq3] := by rw [hw9]; exact Box.last _ _ _ rfl
  have hs9 := hb9.size
  have o1 := o1.below hb9 (by omega)
  have o2 := o2.below hb9 (by omega)
  have o3 := o3.below hb9 (by omega)
  have bP0 := bP0.below hb9 bP0.lt
  have br := br.below hb9 br.lt
  have bx0 := bx0.below hb9 bx0.lt
  have I0 := I0.below (Below.mono hb9 (by omega))
  have hT9 := below_then hT8 hb9
  clear hT8
  have bg := bn
  clear bn
  clear hb9
  go_upto_region 8 with fail
  rw [← hw9]
  clear hw9
  clear yx00 yx01 yx02 yx03 yx04 yx05 yx06
  obtain ⟨yg0, yg1, yg2, yg3, yg4, yg5, yg6⟩ := bg.cells7
  obtain ⟨yr0, yr1, yr2, yr3, yr4, yr5, yr6⟩ := br.cells7
  go_wp2_with fail
  refine (eqScn_any w9 w9.heap.size (Nat.le_refl _) (o3.in_ HZ.out.1 HZ.out.2.1 HZ.out.2.2 (by omega)) (o1.in_ HZ.out.1 HZ.out.2.1 HZ.out.2.2 (by omega))).mono ?_
  rintro e w10 ⟨rfl, hb10⟩
  clear yg0 yg1 yg2 yg3 yg4 yg5 yg6 yr0 yr1 yr2 yr3 yr4 yr5 yr6
  have hs10 := hb10.size
  have o1 := o1.below hb10 (by omega)
  have o2 := o2.below hb10 (by omega)
  have o3 := o3.below hb10 (by omega)
  have bP0 := bP0.below hb10 bP0.lt
  have br := br.below hb10 br.lt
  have bx0 := bx0.below hb10 bx0.lt
  have bg := bg.below hb10 bg.lt
  have I0 := I0.below (Below.mono hb10 (by omega))
  have hT10 := below_then hT9 hb10
  clear hT9
  clear hb10
  go_upto_region 10 with fail
  obtain ⟨yP00, yP01, yP02, yP03, yP04, yP05, yP06⟩ := bP0.cells7
  obtain ⟨yx00, yx01, yx02, yx03, yx04, yx05, yx06⟩ := bx0.cells7
  have HPi := hide bP0
  have HPj := hide bx0
  have HKS := hide (fun (W : World) (hq : Below w10.heap.size w10 W) => (⟨(HPj.out.below hq HPj.out.lt).cell 0, (HPj.out.below hq HPj.out.lt).cell 1, (HPj.out.below hq HPj.out.lt).cell 2, (HPj.out.below hq HPj.out.lt).cell 3, (HPj.out.below hq HPj.out.lt).cell 4, (HPj.out.below hq HPj.out.lt).cell 5, (HPj.out.below hq HPj.out.lt).cell 6, (HPi.out.below hq HPi.out.lt).cell 0, (HPi.out.below hq HPi.out.lt).cell 1, (HPi.out.below hq HPi.out.lt).cell 2, (HPi.out.below hq HPi.out.lt).cell 3, (HPi.out.below hq HPi.out.lt).cell 4, (HPi.out.below hq HPi.out.lt).cell 5, (HPi.out.below hq HPi.out.lt).cell 6⟩ : W.cell? ⟨w6.heap.size, 0, none⟩ = some (.int .i64 S0.lx) ∧ W.cell? ⟨w6.heap.size, 1, none⟩ = some (.int .i64 S0.ly) ∧ W.cell? ⟨w6.heap.size, 2, none⟩ = some (.int .i64 S0.hx) ∧ W.cell? ⟨w6.heap.size, 3, none⟩ = some (.int .i64 S0.hy) ∧ W.cell? ⟨w6.heap.size, 4, none⟩ = some (.slice RQ2 S0.r.length rq2) ∧ W.cell? ⟨w6.heap.size, 5, none⟩ = some (.slice OQ2 S0.o.length oq2) ∧ W.cell? ⟨w6.heap.size, 6, none⟩ = some (.slice TQ2 S0.t.length tq2) ∧ W.cell? ⟨w.heap.size, 0, none⟩ = some (.int .i64 S0.lx) ∧ W.cell? ⟨w.heap.size, 1, none⟩ = some (.int .i64 S0.ly) ∧ W.cell? ⟨w.heap.size, 2, none⟩ = some (.int .i64 S0.hx) ∧ W.cell? ⟨w.heap.size, 3, none⟩ = some (.int .i64 S0.hy) ∧ W.cell? ⟨w.heap.size, 4, none⟩ = some (.slice RA0 S0.r.length rc0) ∧ W.cell? ⟨w.heap.size, 5, none⟩ = some (.slice OA0 S0.o.length oc0) ∧ W.cell? ⟨w.heap.size, 6, none⟩ = some (.slice TA0 S0.t.length tc0)))
  have HCi := hide (fun (W : World) (hq : Below w10.heap.size w10 W) => toScn_any W w.heap.size (by have := hT10.size; have := hq.size; omega) (I0.below (hq.mono hT10.size)))
  have HOd := hide o2
  have HF := hide (fun (W W' : World) (hq : Below w10.heap.size w10 W) (hq' : Below W.heap.size W W') (p0 p1 p2 p3 p4 p5 p6 : Value) (r : SOwn W' W.heap.size W'.heap.size 30 29 p0 p1 p2 p3 p4 p5 p6 S0) => eqScn_any W' W'.heap.size (Nat.le_refl _) ((HOd.out.below hq (by omega)).below hq' (by have := hq.size; omega) |>.in_ HA0.out.1 HA0.out.2.1 HA0.out.2.2 (by have := hq.size; have := hq'.size; omega)) (r.in_ HA0.out.1 HA0.out.2.1 HA0.out.2.2 (Nat.le_refl _)))
  have HS0 : Hid (Below w10.heap.size w10 w10.drew) := (Below.refl _ _).drew
  go_region_held3 (fun w' => w'.cell? ⟨w6.heap.size, 0, none⟩ = some (.int .i64 S0.lx) ∧ w'.cell? ⟨w6.heap.size, 1, none⟩ = some (.int .i64 S0.ly) ∧ w'.cell? ⟨w6.heap.size, 2, none⟩ = some (.int .i64 S0.hx) ∧ w'.cell? ⟨w6.heap.size, 3, none⟩ = some (.int .i64 S0.hy) ∧ w'.cell? ⟨w6.heap.size, 4, none⟩ = some (.slice RQ2 S0.r.length rq2) ∧ w'.cell? ⟨w6.heap.size, 5, none⟩ = some (.slice OQ2 S0.o.length oq2) ∧ w'.cell? ⟨w6.heap.size, 6, none⟩ = some (.slice TQ2 S0.t.length tq2) ∧ w'.cell? ⟨w.heap.size, 0, none⟩ = some (.int .i64 S0.lx) ∧ w'.cell? ⟨w.heap.size, 1, none⟩ = some (.int .i64 S0.ly) ∧ w'.cell? ⟨w.heap.size, 2, none⟩ = some (.int .i64 S0.hx) ∧ w'.cell? ⟨w.heap.size, 3, none⟩ = some (.int .i64 S0.hy) ∧ w'.cell? ⟨w.heap.size, 4, none⟩ = some (.slice RA0 S0.r.length rc0) ∧ w'.cell? ⟨w.heap.size, 5, none⟩ = some (.slice OA0 S0.o.length oc0) ∧ w'.cell? ⟨w.heap.size, 6, none⟩ = some (.slice TA0 S0.t.length tc0))
      (first | (with_reducible exact HKS.out _ HS2.out) | (with_reducible exact HKS.out _ HS1.out) | (with_reducible exact HKS.out _ HS0.out))
      (first
        | (go_at_call 8; refine (HCi.out _ HS0.out).mono ?_; rintro e u1 ⟨p0, p1, p2, p3, p4, p5, p6, rfl, e1, hb1⟩; have HB1 := hide hb1; have HS1 := hide (below_then HS0.out hb1))
        | (go_at_call 10; refine (HF.out _ _ HS0.out HB1.out _ _ _ _ _ _ _ e1).mono ?_; rintro e u2 ⟨rfl, hb2⟩; have HS2 := hide (below_then HS1.out hb2)))
  have hb11 := HS2.out
  obtain ⟨w11, hw11⟩ : ∃ x, x = u2 := ⟨_, rfl⟩
  subst hw11
  clear HKS HCi HF HS0 HPi HPj HS1 HS2 HB1 HOd hb1 hb2 e1
  clear yP00 yP01 yP02 yP03 yP04 yP05 yP06 yx00 yx01 yx02 yx03 yx04 yx05 yx06
  have hs11 := hb11.size
  have o1 := o1.below hb11 (by omega)
  have o2 := o2.below hb11 (by omega)
  have o3 := o3.below hb11 (by omega)
  have bP0 := bP0.below hb11 bP0.lt
  have br := br.below hb11 br.lt
  have bx0 := bx0.below hb11 bx0.lt
  have bg := bg.below hb11 bg.lt
  have I0 := I0.below (Below.mono hb11 (by omega))
  have hT11 := below_then hT10 hb11
  clear hT10
  clear hb11
  obtain ⟨yx00, yx01, yx02, yx03, yx04, yx05, yx06⟩ := bx0.cells7
  go_wp2_with fail
  refine (markScn_own w11 _ _ (1) o2 (by omega) (by omega) (by omega)).mono ?_
  rintro e w12 ⟨he, r2, ha12⟩
  clear yx00 yx01 yx02 yx03 yx04 yx05 yx06
  obtain ⟨K1, hK1⟩ : ∃ K : Nat, K = 1 + sizS S0 := ⟨_, rfl⟩
  have bK1 : K1 ≤ 3000000 := by have := sizS_le S0; omega
  rw [← hK1] at he
  subst he
  have HK1 := hide hK1
  clear hK1
  have hnnK1 : ¬ (K1 : Int) < 0 := by omega
  have hs12 := ha12.size
  have o1 := o1.aside ha12 (by omega)
  have o3 := o3.aside ha12 (by omega)
  have bP0 := bP0.aside ha12 (by omega)
  have br := br.aside ha12 (by omega)
  have bx0 := bx0.aside ha12 (by omega)
  have bg := bg.aside ha12 (by omega)
  have I0 := I0.below (Aside.below ha12 (by omega) (by omega))
  have hT12 := hT11.trans (Aside.below ha12 (by omega) (by omega))
  clear hT11
  have o2 := r2
  clear r2 ha12
  obtain ⟨yg0, yg1, yg2, yg3, yg4, yg5, yg6⟩ := bg.cells7
  obtain ⟨yr0, yr1, yr2, yr3, yr4, yr5, yr6⟩ := br.cells7
  go_wp2_with fail
  refine (eqScn_any w12 w12.heap.size (Nat.le_refl _) (o3.in_ HZ.out.1 HZ.out.2.1 HZ.out.2.2 (by omega)) (o1.in_ HZ.out.1 HZ.out.2.1 HZ.out.2.2 (by omega))).mono ?_
  rintro e w13 ⟨rfl, hb13⟩
  clear yg0 yg1 yg2 yg3 yg4 yg5 yg6 yr0 yr1 yr2 yr3 yr4 yr5 yr6
  have hs13 := hb13.size
  have o1 := o1.below hb13 (by omega)
  have o2 := o2.below hb13 (by omega)
  have o3 := o3.below hb13 (by omega)
  have bP0 := bP0.below hb13 bP0.lt
  have br := br.below hb13 br.lt
  have bx0 := bx0.below hb13 bx0.lt
  have bg := bg.below hb13 bg.lt
  have I0 := I0.below (Below.mono hb13 (by omega))
  have hT13 := below_then hT12 hb13
  clear hT12
  clear hb13
  clear o2
  clear bx0
  obtain ⟨yg0, yg1, yg2, yg3, yg4, yg5, yg6⟩ := bg.cells7
  go_wp2_with fail
  refine (markScn_own w13 _ _ (1) o3 (by omega) (by omega) (by omega)).mono ?_
  rintro e w14 ⟨he, r3, ha14⟩
  clear yg0 yg1 yg2 yg3 yg4 yg5 yg6
  obtain ⟨K2, hK2⟩ : ∃ K : Nat, K = 1 + sizS (remS S0 a1) := ⟨_, rfl⟩
  have bK2 : K2 ≤ 6000000 := by have := sizS_le (remS S0 a1); omega
  rw [← hK2] at he
  subst he
  have HK2 := hide hK2
  clear hK2
  have hnnK2 : ¬ (K2 : Int) < 0 := by omega
  have hs14 := ha14.size
  have o1 := o1.aside ha14 (by omega)
  have bP0 := bP0.aside ha14 (by omega)
  have br := br.aside ha14 (by omega)
  have bg := bg.aside ha14 (by omega)
  have I0 := I0.below (Aside.below ha14 (by omega) (by omega))
  have hT14 := hT13.trans (Aside.below ha14 (by omega) (by omega))
  clear hT13
  have o3 := r3
  clear r3 ha14
  obtain ⟨yg0, yg1, yg2, yg3, yg4, yg5, yg6⟩ := bg.cells7
  go_wp2_with fail
  refine (heldScn_any w14 _ _ (1) o3 (by omega) (by omega) (by omega)).mono ?_
  rintro e w15 ⟨he, hb15⟩
  rw [← HK2.out] at he
  subst he
  clear yg0 yg1 yg2 yg3 yg4 yg5 yg6
  have hs15 := hb15.size
  have o1 := o1.below hb15 (by omega)
  have o3 := o3.below hb15 (by omega)
  have bP0 := bP0.below hb15 bP0.lt
  have br := br.below hb15 br.lt
  have bg := bg.below hb15 bg.lt
  have I0 := I0.below (Below.mono hb15 (by omega))
  have hT15 := below_then hT14 hb15
  clear hT14
  clear hb15
  obtain ⟨yP00, yP01, yP02, yP03, yP04, yP05, yP06⟩ := bP0.cells7
  go_wp2_with fail
  refine (toScn_any w15 w.heap.size hT15.size I0).mono ?_
  rintro e w16 ⟨q40, q41, q42, q43, q44, q45, q46, rfl, o4, hb16⟩
  obtain ⟨RQ4, rq4, OQ4, oq4, TQ4, tq4, ⟨rfl, rfl, rfl, rfl, rfl, rfl, rfl⟩⟩ := o4.form
  have hs16 := hb16.size
  have o1 := o1.below hb16 (by omega)
  have o3 := o3.below hb16 (by omega)
  have bP0 := bP0.below hb16 bP0.lt
  have br := br.below hb16 br.lt
  have bg := bg.below hb16 bg.lt
  have I0 := I0.below (Below.mono hb16 (by omega))
  have hT16 := below_then hT15 hb16
  clear hT15
  clear hb16
  clear yP00 yP01 yP02 yP03 yP04 yP05 yP06
  go_wp2_with fail
  refine (impl_RemoveObstacle w16 w16.heap.size (Nat.le_refl _) (o4.in_ HA0.out.1 HA0.out.2.1 HA0.out.2.2 (by omega)) a1 f1).mono ?_
  rintro e w17 ⟨q50, q51, q52, q53, q54, q55, q56, rfl, o5, hb17⟩
  obtain ⟨RQ5, rq5, OQ5, oq5, TQ5, tq5, ⟨rfl, rfl, rfl, rfl, rfl, rfl, rfl⟩⟩ := o5.form
  have hs17 := hb17.size
  have o1 := o1.below hb17 (by omega)
  have o3 := o3.below hb17 (by omega)
  have o4 := o4.below hb17 (by omega)
  have bP0 := bP0.below hb17 bP0.lt
  have br := br.below hb17 br.lt
  have bg := bg.below hb17 bg.lt
  have I0 := I0.below (Below.mono hb17 (by omega))
  have hT17 := below_then hT16 hb17
  clear hT16
  clear hb17
  obtain ⟨w18, hw18⟩ : ∃ x, x = w17.alloc (.cells #[.int .i64 (remS S0 a1).lx, .int .i64 (remS S0 a1).ly, .int .i64 (remS S0 a1).hx, .int .i64 (remS S0 a1).hy, .slice RQ5 (remS S0 a1).r.length rq5, .slice OQ5 (remS S0 a1).o.length oq5, .slice TQ5 (remS S0 a1).t.length tq5] 33) := ⟨_, rfl⟩
  have hb18 : Below w17.heap.size w17 w18 := by rw [hw18]; exact below_new _ _
  have hq18 : w17.heap.size < w18.heap.size := by rw [hw18, alloc_size]; omega
  have bn : Box w18 w17.heap.size 33 #[.int .i64 (remS S0 a1).lx, .int .i64 (remS S0 a1).ly, .int .i64 (remS S0 a1).hx, .int .i64 (remS S0 a1).hy, .slice RQ5 (remS S0 a1).r.length rq5, .slice OQ5 (remS S0 a1).o.length oq5, .slice TQ5 (remS S0 a1).t.length tq5] := by rw [hw18]; exact Box.last _ _ _ rfl
  have hs18 := hb18.size
  have o1 := o1.below hb18 (by omega)
  have o3 := o3.below hb18 (by omega)
  have o4 := o4.below hb18 (by omega)
  have o5 := o5.below hb18 (by omega)
  have bP0 := bP0.below hb18 bP0.lt
  have br := br.below hb18 br.lt
  have bg := bg.below hb18 bg.lt
  have I0 := I0.below (Below.mono hb18 (by omega))
  have hT18 := below_then hT17 hb18
  clear hT17
  have bh := bn
  clear bn
  clear hb18
  go_upto_region 25 with fail
  rw [← hw18]
  clear hw18
  clear o4
  obtain ⟨yh0, yh1, yh2, yh3, yh4, yh5, yh6⟩ := bh.cells7
  obtain ⟨yr0, yr1, yr2, yr3, yr4, yr5, yr6⟩ := br.cells7
  go_wp2_with fail
  refine (eqScn_any w18 w18.heap.size (Nat.le_refl _) (o5.in_ HZ.out.1 HZ.out.2.1 HZ.out.2.2 (by omega)) (o1.in_ HZ.out.1 HZ.out.2.1 HZ.out.2.2 (by omega))).mono ?_
  rintro e w19 ⟨rfl, hb19⟩
  clear yh0 yh1 yh2 yh3 yh4 yh5 yh6 yr0 yr1 yr2 yr3 yr4 yr5 yr6
  have hs19 := hb19.size
  have o1 := o1.below hb19 (by omega)
  have o3 := o3.below hb19 (by omega)
  have o5 := o5.below hb19 (by omega)
  have bP0 := bP0.below hb19 bP0.lt
  have br := br.below hb19 br.lt
  have bg := bg.below hb19 bg.lt
  have bh := bh.below hb19 bh.lt
  have I0 := I0.below (Below.mono hb19 (by omega))
  have hT19 := below_then hT18 hb19
  clear hT18
  clear hb19
  obtain ⟨yg0, yg1, yg2, yg3, yg4, yg5, yg6⟩ := bg.cells7
  go_wp2_with fail
  refine (heldScn_any w19 _ _ (1) o3 (by omega) (by omega) (by omega)).mono ?_
  rintro e w20 ⟨he, hb20⟩
  rw [← HK2.out] at he
  subst he
  clear yg0 yg1 yg2 yg3 yg4 yg5 yg6
  have hs20 := hb20.size
  have o1 := o1.below hb20 (by omega)
  have o3 := o3.below hb20 (by omega)
  have o5 := o5.below hb20 (by omega)
  have bP0 := bP0.below hb20 bP0.lt
  have br := br.below hb20 br.lt
  have bg := bg.below hb20 bg.lt
  have bh := bh.below hb20 bh.lt
  have I0 := I0.below (Below.mono hb20 (by omega))
  have hT20 := below_then hT19 hb20
  clear hT19
  clear hb20
  clear o3
  clear o1
  clear o5
  go_wp2_with fail
  go_ret
  exact ⟨rfl, hT20⟩
end Go.Proofs.Ytocllmaikngoaaa
