/-
  The exact laws' walks: AddObstacle.
-/
import Derived.Test.YtffabmdcgcinmaaSB
import Derived.Test.YtffabmdcgcinmaaScnF
import Derived.Test.YtffabmdcgcinmaaScnH
namespace Go.Proofs.Ytffabmdcgcinmaa
open Go.RowKit
set_option linter.unusedVariables false
theorem addS_fit {S : Scn} {l : List V2} (h : totS S + l.length ≤ 1048576) (f : SFit S ∧ wf4 S ∧ SShort S) (hw : wfV l) : (SFit (addS S l) ∧ wf4 (addS S l) ∧ SShort (addS S l)) ∧ totS (addS S l) ≤ 1048577 := by
  unfold addS chgS
  split
  · obtain ⟨⟨f1, f2, f3, f4, f5, f6⟩, x, g1, g2, g3, g4⟩ := f
    have el : (withO S (S.o ++ [l])).o.length = S.o.length + 1 := by show (S.o ++ [l]).length = _; simp
    unfold totS at h
    have hm : ∀ y ∈ (withO S (S.o ++ [l])).o, y.length ≤ 1048576 ∧ wfV y := fun y hy => by
      rcases List.mem_append.1 hy with hy | hy
      · exact ⟨g4 y hy, (f5 y hy).2⟩
      · rw [List.mem_singleton.1 hy]; exact ⟨by omega, hw⟩
    refine ⟨⟨⟨f1, by rw [el]; omega, f3, f4, fun y hy => ⟨by have := (hm y hy).1; omega, (hm y hy).2⟩, f6⟩, x, g1, by rw [el]; omega, g3, fun y hy => (hm y hy).1⟩, ?_⟩
    have et : totN (withO S (S.o ++ [l])).o = totN S.o + l.length := by show totN (S.o ++ [l]) = _; simp [totN]
    unfold totS
    rw [el, et]
    show S.r.length + (S.o.length + 1 + (totN S.o + l.length)) + S.t.length ≤ _
    omega
  · exact ⟨f, by omega⟩
set_option maxHeartbeats 16000000 in
set_option maxRecDepth 100000 in
theorem FnExactAddObstacle_walk (w : World) {v00 v01 v02 v03 v04 v05 v06 : Value} (S0 : Scn) (f0 : SArg w v00 v01 v02 v03 v04 v05 v06 S0) (a1 : Option Addr) (len1 cap1 : Nat) (xs1 : List V2) (f1 : IsVecs w a1 len1 cap1 xs1) :
    Calls Try.prog 4 #[.agg #[v00, v01, v02, v03, v04, v05, v06], .slice a1 len1 cap1] w fun e w' => e = .returned (.bool true) ∧ Below w.heap.size w w' := by
  obtain ⟨RA0, rc0, OA0, oc0, TA0, tc0, ⟨rfl, rfl, rfl, rfl, rfl, rfl, rfl⟩⟩ := f0.form
  have hm1 := f1.rd.2.2.1
  unfold maxLen at hm1
  obtain ⟨w1, hw1⟩ : ∃ x, x = (w.alloc (.cells #[.int .i64 S0.lx, .int .i64 S0.ly, .int .i64 S0.hx, .int .i64 S0.hy, .slice RA0 S0.r.length rc0, .slice OA0 S0.o.length oc0, .slice TA0 S0.t.length tc0] 27)) := ⟨_, rfl⟩
  have hT1 : Below w.heap.size w w1 := by rw [hw1]; exact below_new _ _
  have hs1 := hT1.size
  have bP0 : Box w1 w.heap.size 27 #[.int .i64 S0.lx, .int .i64 S0.ly, .int .i64 S0.hx, .int .i64 S0.hy, .slice RA0 S0.r.length rc0, .slice OA0 S0.o.length oc0, .slice TA0 S0.t.length tc0] := by rw [hw1]; exact Box.last _ _ _ rfl
  have hq1 : w.heap.size + 1 ≤ w1.heap.size := by rw [hw1, alloc_size]; omega
  obtain ⟨m0, hm0e⟩ : ∃ m, m = totS S0 := ⟨_, rfl⟩
  have D0 := hide (fun (W : World) (hb : Below w.heap.size w W) (k : Nat) (hk : k ≤ 1048576) => szScn_any W S0 (f0.below hb) k hk)
  rw [← hm0e] at D0
  have HME0 := hide hm0e
  clear hm0e
  have D1 := hide (fun (W : World) (k : Nat) (hk : k ≤ 1048576) => szV_any W a1 len1 cap1 k hk (by unfold maxLen; omega))
  have C0 := hide (fun (W : World) (hb : Below w.heap.size w W) => D0.out W hb (1048576) (by omega))
  by_cases c0 : m0 ≤ 1048576
  case neg =>
    rw [szR_no (by omega)] at C0
    clear D0 D1
    go_enter Try.func4, Try.ntmps4
    go_upto_region 1 with fail
    rw [← hw1]
    clear hw1
    obtain ⟨yP00, yP01, yP02, yP03, yP04, yP05, yP06⟩ := bP0.cells7
    go_wp2_with fail
    refine (C0.out _ hT1).mono ?_
    rintro e w2 ⟨rfl, hb2⟩
    clear yP00 yP01 yP02 yP03 yP04 yP05 yP06
    have hs2 := hb2.size
    have bP0 := bP0.below hb2 bP0.lt
    have hT2 := below_then hT1 hb2
    clear hT1 hb2
    go_wp2_with fail
    go_ret
    exact ⟨rfl, hT2⟩
  obtain ⟨lf0, hlf0⟩ : ∃ r : Nat, r + m0 = 1048576 := ⟨1048576 - m0, by omega⟩
  have hr0 : szR (1048576) m0 = (lf0 : Int) := by rw [szR_ok c0]; congr 1; omega
  rw [hr0] at C0
  have hnn0 : ¬ (lf0 : Int) < 0 := by omega
  have hlb0 : lf0 ≤ 1048576 := by omega
  clear hr0
  have C1 := hide (fun (W : World) => D1.out W (lf0) (by omega))
  by_cases c1 : len1 ≤ lf0
  case neg =>
    rw [szR_no (by omega)] at C1
    clear D0 D1
    go_enter Try.func4, Try.ntmps4
    go_upto_region 1 with fail
    rw [← hw1]
    clear hw1
    obtain ⟨yP00, yP01, yP02, yP03, yP04, yP05, yP06⟩ := bP0.cells7
    go_wp2_with fail
    refine (C0.out _ hT1).mono ?_
    rintro e w2 ⟨rfl, hb2⟩
    clear yP00 yP01 yP02 yP03 yP04 yP05 yP06
    have hs2 := hb2.size
    have bP0 := bP0.below hb2 bP0.lt
    have hT2 := below_then hT1 hb2
    clear hT1 hb2
    go_wp2_with fail
    refine (C1.out _).mono ?_
    rintro e w' ⟨rfl, rfl⟩
    go_wp2_with fail
    go_ret
    exact ⟨rfl, hT2⟩
  obtain ⟨lf1, hlf1⟩ : ∃ r : Nat, r + len1 = lf0 := ⟨lf0 - len1, by omega⟩
  have hr1 : szR (lf0) len1 = (lf1 : Int) := by rw [szR_ok c1]; congr 1; omega
  rw [hr1] at C1
  have hnn1 : ¬ (lf1 : Int) < 0 := by omega
  have hlb1 : lf1 ≤ 1048576 := by omega
  clear hr1
  clear D0 D1
  have HMB0 : m0 ≤ 1048576 := by omega
  rw [HME0.out] at HMB0
  have HSUM : Hid (totS S0 + len1 ≤ 1048576) := by show _ ≤ _; rw [← HME0.out]; omega
  have hM0 := HMB0
  clear HMB0 HME0
  have I0 := f0.in_ hM0
  have HA0 : Hid (SFit S0 ∧ wf4 S0 ∧ SShort S0) := ⟨I0.fit.1, I0.fit.2, short_of hM0⟩
  clear f0
  have hn1 : len1 ≤ 1048576 := by omega
  have I1 := f1.rdV hn1
  have F1 := hide f1.rd.2.2.2
  clear f1
  have HLF0 := hide hlf0
  clear hlf0 c0
  have HLF1 := hide hlf1
  clear hlf1 c1
  have HZ' := addS_fit (S := S0) (l := xs1) (by rw [I1.1]; exact HSUM.out) HA0.out I1.2.2.2
  have hO0 : S0.o.length ≤ 1048576 := by have h9 := hM0; unfold totS at h9; omega
  have hMZ := HZ'.2
  have HZ := hide HZ'.1
  clear HZ'
  have I0 := I0.below hT1
  have I1 := I1.below hT1
  go_enter Try.func4, Try.ntmps4
  go_upto_region 1 with fail
  rw [← hw1]
  clear hw1
  obtain ⟨yP00, yP01, yP02, yP03, yP04, yP05, yP06⟩ := bP0.cells7
  go_wp2_with fail
  refine (C0.out _ hT1).mono ?_
  rintro e w2 ⟨rfl, hb2⟩
  clear yP00 yP01 yP02 yP03 yP04 yP05 yP06
  have hs2 := hb2.size
  have bP0 := bP0.below hb2 bP0.lt
  have I0 := I0.below (Below.mono hb2 (by omega))
  have I1 := I1.below (Below.mono hb2 (by omega))
  have hT2 := below_then hT1 hb2
  clear hT1
  clear hb2
  go_wp2_with fail
  refine (C1.out _).mono ?_
  rintro e w' ⟨rfl, rfl⟩
  clear C0 C1
  obtain ⟨yP00, yP01, yP02, yP03, yP04, yP05, yP06⟩ := bP0.cells7
  go_wp2_with fail
  refine (toScn_any w2 w.heap.size hT2.size I0).mono ?_
  rintro e w3 ⟨q00, q01, q02, q03, q04, q05, q06, rfl, o0, hb3⟩
  obtain ⟨RQ0, rq0, OQ0, oq0, TQ0, tq0, ⟨rfl, rfl, rfl, rfl, rfl, rfl, rfl⟩⟩ := o0.form
  have hs3 := hb3.size
  have bP0 := bP0.below hb3 bP0.lt
  have I0 := I0.below (Below.mono hb3 (by omega))
  have I1 := I1.below (Below.mono hb3 (by omega))
  have hT3 := below_then hT2 hb3
  clear hT2
  clear hb3
  clear yP00 yP01 yP02 yP03 yP04 yP05 yP06
  go_wp2_with fail
  refine (toVecS_any a1 len1 cap1 _ xs1 w3 I1.1 I1.2.1 hT3.size (by omega) F1.out).mono ?_
  rintro e w4 ⟨g1, rfl, z1, hb4⟩
  have hs4 := hb4.size
  have o0 := o0.below hb4 (by omega)
  have bP0 := bP0.below hb4 bP0.lt
  have I0 := I0.below (Below.mono hb4 (by omega))
  have I1 := I1.below (Below.mono hb4 (by omega))
  have hT4 := below_then hT3 hb4
  clear hT3
  have o1 := OwnV.of z1
  clear z1 hb4
  go_wp2_with fail
  refine (spec_AddObstacle w4 w4.heap.size (Nat.le_refl _) (o0.in_ HA0.out.1 HA0.out.2.1 HA0.out.2.2 (by omega)) (some ⟨g1, 0, none⟩) len1 len1 xs1 (I1.at_ o1.rd) (by omega)).mono ?_
  rintro e w5 ⟨q20, q21, q22, q23, q24, q25, q26, rfl, o2, hb5⟩
  obtain ⟨RQ2, rq2, OQ2, oq2, TQ2, tq2, ⟨rfl, rfl, rfl, rfl, rfl, rfl, rfl⟩⟩ := o2.form
  have hs5 := hb5.size
  have o0 := o0.below hb5 (by omega)
  have o1 := o1.below hb5 (by omega)
  have bP0 := bP0.below hb5 bP0.lt
  have I0 := I0.below (Below.mono hb5 (by omega))
  have I1 := I1.below (Below.mono hb5 (by omega))
  have hT5 := below_then hT4 hb5
  clear hT4
  clear hb5
  obtain ⟨w6, hw6⟩ : ∃ x, x = w5.alloc (.cells #[.int .i64 (addS S0 xs1).lx, .int .i64 (addS S0 xs1).ly, .int .i64 (addS S0 xs1).hx, .int .i64 (addS S0 xs1).hy, .slice RQ2 (addS S0 xs1).r.length rq2, .slice OQ2 (addS S0 xs1).o.length oq2, .slice TQ2 (addS S0 xs1).t.length tq2] 34) := ⟨_, rfl⟩
  have hb6 : Below w5.heap.size w5 w6 := by rw [hw6]; exact below_new _ _
  have hq6 : w5.heap.size < w6.heap.size := by rw [hw6, alloc_size]; omega
  have bn : Box w6 w5.heap.size 34 #[.int .i64 (addS S0 xs1).lx, .int .i64 (addS S0 xs1).ly, .int .i64 (addS S0 xs1).hx, .int .i64 (addS S0 xs1).hy, .slice RQ2 (addS S0 xs1).r.length rq2, .slice OQ2 (addS S0 xs1).o.length oq2, .slice TQ2 (addS S0 xs1).t.length tq2] := by rw [hw6]; exact Box.last _ _ _ rfl
  have hs6 := hb6.size
  have o0 := o0.below hb6 (by omega)
  have o1 := o1.below hb6 (by omega)
  have o2 := o2.below hb6 (by omega)
  have bP0 := bP0.below hb6 bP0.lt
  have I0 := I0.below (Below.mono hb6 (by omega))
  have I1 := I1.below (Below.mono hb6 (by omega))
  have hT6 := below_then hT5 hb6
  clear hT5
  have br := bn
  clear bn
  clear hb6
  go_upto_region 9 with fail
  rw [← hw6]
  clear hw6
  clear o0
  clear o1
  obtain ⟨yP00, yP01, yP02, yP03, yP04, yP05, yP06⟩ := bP0.cells7
  go_wp2_with fail
  refine (toScn_any w6 w.heap.size hT6.size I0).mono ?_
  rintro e w7 ⟨q30, q31, q32, q33, q34, q35, q36, rfl, o3, hb7⟩
  obtain ⟨RQ3, rq3, OQ3, oq3, TQ3, tq3, ⟨rfl, rfl, rfl, rfl, rfl, rfl, rfl⟩⟩ := o3.form
  have hs7 := hb7.size
  have o2 := o2.below hb7 (by omega)
  have bP0 := bP0.below hb7 bP0.lt
  have br := br.below hb7 br.lt
  have I0 := I0.below (Below.mono hb7 (by omega))
  have I1 := I1.below (Below.mono hb7 (by omega))
  have hT7 := below_then hT6 hb7
  clear hT6
  clear hb7
  clear yP00 yP01 yP02 yP03 yP04 yP05 yP06
  obtain ⟨w8, hw8⟩ : ∃ x, x = w7.alloc (.cells #[.int .i64 S0.lx, .int .i64 S0.ly, .int .i64 S0.hx, .int .i64 S0.hy, .slice RQ3 S0.r.length rq3, .slice OQ3 S0.o.length oq3, .slice TQ3 S0.t.length tq3] 34) := ⟨_, rfl⟩
  have hb8 : Below w7.heap.size w7 w8 := by rw [hw8]; exact below_new _ _
  have hq8 : w7.heap.size < w8.heap.size := by rw [hw8, alloc_size]; omega
  have bn : Box w8 w7.heap.size 34 #[.int .i64 S0.lx, .int .i64 S0.ly, .int .i64 S0.hx, .int .i64 S0.hy, .slice RQ3 S0.r.length rq3, .slice OQ3 S0.o.length oq3, .slice TQ3 S0.t.length tq3] := by rw [hw8]; exact Box.last _ _ _ rfl
  have hs8 := hb8.size
  have o2 := o2.below hb8 (by omega)
  have o3 := o3.below hb8 (by omega)
  have bP0 := bP0.below hb8 bP0.lt
  have br := br.below hb8 br.lt
  have I0 := I0.below (Below.mono hb8 (by omega))
  have I1 := I1.below (Below.mono hb8 (by omega))
  have hT8 := below_then hT7 hb8
  clear hT7
  have bx0 := bn
  clear bn
  clear hb8
  go_upto_region 10 with fail
  rw [← hw8]
  clear hw8
  go_wp2_with fail
  refine (toVecS_any a1 len1 cap1 _ xs1 w8 I1.1 I1.2.1 hT8.size (by omega) F1.out).mono ?_
  rintro e w9 ⟨g4, rfl, z4, hb9⟩
  have hs9 := hb9.size
  have o2 := o2.below hb9 (by omega)
  have o3 := o3.below hb9 (by omega)
  have bP0 := bP0.below hb9 bP0.lt
  have br := br.below hb9 br.lt
  have bx0 := bx0.below hb9 bx0.lt
  have I0 := I0.below (Below.mono hb9 (by omega))
  have I1 := I1.below (Below.mono hb9 (by omega))
  have hT9 := below_then hT8 hb9
  clear hT8
  have o4 := OwnV.of z4
  clear z4 hb9
  obtain ⟨yx00, yx01, yx02, yx03, yx04, yx05, yx06⟩ := bx0.cells7
  go_wp2_with fail
  refine (impl_AddObstacle w9 w9.heap.size (Nat.le_refl _) (o3.in_ HA0.out.1 HA0.out.2.1 HA0.out.2.2 (by omega)) (some ⟨g4, 0, none⟩) len1 len1 xs1 (I1.at_ o4.rd) (by omega)).mono ?_
  rintro e w10 ⟨q50, q51, q52, q53, q54, q55, q56, rfl, o5, hb10⟩
  obtain ⟨RQ5, rq5, OQ5, oq5, TQ5, tq5, ⟨rfl, rfl, rfl, rfl, rfl, rfl, rfl⟩⟩ := o5.form
  have hs10 := hb10.size
  have o2 := o2.below hb10 (by omega)
  have o3 := o3.below hb10 (by omega)
  have o4 := o4.below hb10 (by omega)
  have bP0 := bP0.below hb10 bP0.lt
  have br := br.below hb10 br.lt
  have bx0 := bx0.below hb10 bx0.lt
  have I0 := I0.below (Below.mono hb10 (by omega))
  have I1 := I1.below (Below.mono hb10 (by omega))
  have hT10 := below_then hT9 hb10
  clear hT9
  clear hb10
  obtain ⟨w11, hw11⟩ : ∃ x, x = w10.alloc (.cells #[.int .i64 (addS S0 xs1).lx, .int .i64 (addS S0 xs1).ly, .int .i64 (addS S0 xs1).hx, .int .i64 (addS S0 xs1).hy, .slice RQ5 (addS S0 xs1).r.length rq5, .slice OQ5 (addS S0 xs1).o.length oq5, .slice TQ5 (addS S0 xs1).t.length tq5] 34) := ⟨_, rfl⟩
  have hb11 : Below w10.heap.size w10 w11 := by rw [hw11]; exact below_new _ _
  have hq11 : w10.heap.size < w11.heap.size := by rw [hw11, alloc_size]; omega
  have bn : Box w11 w10.heap.size 34 #[.int .i64 (addS S0 xs1).lx, .int .i64 (addS S0 xs1).ly, .int .i64 (addS S0 xs1).hx, .int .i64 (addS S0 xs1).hy, .slice RQ5 (addS S0 xs1).r.length rq5, .slice OQ5 (addS S0 xs1).o.length oq5, .slice TQ5 (addS S0 xs1).t.length tq5] := by rw [hw11]; exact Box.last _ _ _ rfl
  have hs11 := hb11.size
  have o2 := o2.below hb11 (by omega)
  have o3 := o3.below hb11 (by omega)
  have o4 := o4.below hb11 (by omega)
  have o5 := o5.below hb11 (by omega)
  have bP0 := bP0.below hb11 bP0.lt
  have br := br.below hb11 br.lt
  have bx0 := bx0.below hb11 bx0.lt
  have I0 := I0.below (Below.mono hb11 (by omega))
  have I1 := I1.below (Below.mono hb11 (by omega))
  have hT11 := below_then hT10 hb11
  clear hT10
  have bg := bn
  clear bn
  clear hb11
  go_upto_region 12 with fail
  rw [← hw11]
  clear hw11
  clear yx00 yx01 yx02 yx03 yx04 yx05 yx06
  obtain ⟨yg0, yg1, yg2, yg3, yg4, yg5, yg6⟩ := bg.cells7
  obtain ⟨yr0, yr1, yr2, yr3, yr4, yr5, yr6⟩ := br.cells7
  go_wp2_with fail
  refine (eqScn_any w11 w11.heap.size (Nat.le_refl _) (o5.in_ HZ.out.1 HZ.out.2.1 HZ.out.2.2 (by omega)) (o2.in_ HZ.out.1 HZ.out.2.1 HZ.out.2.2 (by omega))).mono ?_
  rintro e w12 ⟨rfl, hb12⟩
  clear yg0 yg1 yg2 yg3 yg4 yg5 yg6 yr0 yr1 yr2 yr3 yr4 yr5 yr6
  have hs12 := hb12.size
  have o2 := o2.below hb12 (by omega)
  have o3 := o3.below hb12 (by omega)
  have o4 := o4.below hb12 (by omega)
  have o5 := o5.below hb12 (by omega)
  have bP0 := bP0.below hb12 bP0.lt
  have br := br.below hb12 br.lt
  have bx0 := bx0.below hb12 bx0.lt
  have bg := bg.below hb12 bg.lt
  have I0 := I0.below (Below.mono hb12 (by omega))
  have I1 := I1.below (Below.mono hb12 (by omega))
  have hT12 := below_then hT11 hb12
  clear hT11
  clear hb12
  go_upto_region 14 with fail
  obtain ⟨yP00, yP01, yP02, yP03, yP04, yP05, yP06⟩ := bP0.cells7
  obtain ⟨yx00, yx01, yx02, yx03, yx04, yx05, yx06⟩ := bx0.cells7
  have HPi := hide bP0
  have HPj := hide bx0
  have HKS := hide (fun (W : World) (hq : Below w12.heap.size w12 W) => (⟨(HPj.out.below hq HPj.out.lt).cell 0, (HPj.out.below hq HPj.out.lt).cell 1, (HPj.out.below hq HPj.out.lt).cell 2, (HPj.out.below hq HPj.out.lt).cell 3, (HPj.out.below hq HPj.out.lt).cell 4, (HPj.out.below hq HPj.out.lt).cell 5, (HPj.out.below hq HPj.out.lt).cell 6, (HPi.out.below hq HPi.out.lt).cell 0, (HPi.out.below hq HPi.out.lt).cell 1, (HPi.out.below hq HPi.out.lt).cell 2, (HPi.out.below hq HPi.out.lt).cell 3, (HPi.out.below hq HPi.out.lt).cell 4, (HPi.out.below hq HPi.out.lt).cell 5, (HPi.out.below hq HPi.out.lt).cell 6⟩ : W.cell? ⟨w7.heap.size, 0, none⟩ = some (.int .i64 S0.lx) ∧ W.cell? ⟨w7.heap.size, 1, none⟩ = some (.int .i64 S0.ly) ∧ W.cell? ⟨w7.heap.size, 2, none⟩ = some (.int .i64 S0.hx) ∧ W.cell? ⟨w7.heap.size, 3, none⟩ = some (.int .i64 S0.hy) ∧ W.cell? ⟨w7.heap.size, 4, none⟩ = some (.slice RQ3 S0.r.length rq3) ∧ W.cell? ⟨w7.heap.size, 5, none⟩ = some (.slice OQ3 S0.o.length oq3) ∧ W.cell? ⟨w7.heap.size, 6, none⟩ = some (.slice TQ3 S0.t.length tq3) ∧ W.cell? ⟨w.heap.size, 0, none⟩ = some (.int .i64 S0.lx) ∧ W.cell? ⟨w.heap.size, 1, none⟩ = some (.int .i64 S0.ly) ∧ W.cell? ⟨w.heap.size, 2, none⟩ = some (.int .i64 S0.hx) ∧ W.cell? ⟨w.heap.size, 3, none⟩ = some (.int .i64 S0.hy) ∧ W.cell? ⟨w.heap.size, 4, none⟩ = some (.slice RA0 S0.r.length rc0) ∧ W.cell? ⟨w.heap.size, 5, none⟩ = some (.slice OA0 S0.o.length oc0) ∧ W.cell? ⟨w.heap.size, 6, none⟩ = some (.slice TA0 S0.t.length tc0)))
  have HCi := hide (fun (W : World) (hq : Below w12.heap.size w12 W) => toScn_any W w.heap.size (by have := hT12.size; have := hq.size; omega) (I0.below (hq.mono hT12.size)))
  have HOd := hide o3
  have HF := hide (fun (W W' : World) (hq : Below w12.heap.size w12 W) (hq' : Below W.heap.size W W') (p0 p1 p2 p3 p4 p5 p6 : Value) (r : SOwn W' W.heap.size W'.heap.size 31 30 p0 p1 p2 p3 p4 p5 p6 S0) => eqScn_any W' W'.heap.size (Nat.le_refl _) ((HOd.out.below hq (by omega)).below hq' (by have := hq.size; omega) |>.in_ HA0.out.1 HA0.out.2.1 HA0.out.2.2 (by have := hq.size; have := hq'.size; omega)) (r.in_ HA0.out.1 HA0.out.2.1 HA0.out.2.2 (Nat.le_refl _)))
  have HS0 : Hid (Below w12.heap.size w12 w12.drew) := (Below.refl _ _).drew
  go_region_held3 (fun w' => w'.cell? ⟨w7.heap.size, 0, none⟩ = some (.int .i64 S0.lx) ∧ w'.cell? ⟨w7.heap.size, 1, none⟩ = some (.int .i64 S0.ly) ∧ w'.cell? ⟨w7.heap.size, 2, none⟩ = some (.int .i64 S0.hx) ∧ w'.cell? ⟨w7.heap.size, 3, none⟩ = some (.int .i64 S0.hy) ∧ w'.cell? ⟨w7.heap.size, 4, none⟩ = some (.slice RQ3 S0.r.length rq3) ∧ w'.cell? ⟨w7.heap.size, 5, none⟩ = some (.slice OQ3 S0.o.length oq3) ∧ w'.cell? ⟨w7.heap.size, 6, none⟩ = some (.slice TQ3 S0.t.length tq3) ∧ w'.cell? ⟨w.heap.size, 0, none⟩ = some (.int .i64 S0.lx) ∧ w'.cell? ⟨w.heap.size, 1, none⟩ = some (.int .i64 S0.ly) ∧ w'.cell? ⟨w.heap.size, 2, none⟩ = some (.int .i64 S0.hx) ∧ w'.cell? ⟨w.heap.size, 3, none⟩ = some (.int .i64 S0.hy) ∧ w'.cell? ⟨w.heap.size, 4, none⟩ = some (.slice RA0 S0.r.length rc0) ∧ w'.cell? ⟨w.heap.size, 5, none⟩ = some (.slice OA0 S0.o.length oc0) ∧ w'.cell? ⟨w.heap.size, 6, none⟩ = some (.slice TA0 S0.t.length tc0))
      (first | (with_reducible exact HKS.out _ HS2.out) | (with_reducible exact HKS.out _ HS1.out) | (with_reducible exact HKS.out _ HS0.out))
      (first
        | (go_at_call 7; refine (HCi.out _ HS0.out).mono ?_; rintro e u1 ⟨p0, p1, p2, p3, p4, p5, p6, rfl, e1, hb1⟩; have HB1 := hide hb1; have HS1 := hide (below_then HS0.out hb1))
        | (go_at_call 9; refine (HF.out _ _ HS0.out HB1.out _ _ _ _ _ _ _ e1).mono ?_; rintro e u2 ⟨rfl, hb2⟩; have HS2 := hide (below_then HS1.out hb2)))
  have hb13 := HS2.out
  obtain ⟨w13, hw13⟩ : ∃ x, x = u2 := ⟨_, rfl⟩
  subst hw13
  clear HKS HCi HF HS0 HPi HPj HS1 HS2 HB1 HOd hb1 hb2 e1
  clear yP00 yP01 yP02 yP03 yP04 yP05 yP06 yx00 yx01 yx02 yx03 yx04 yx05 yx06
  have hs13 := hb13.size
  have o2 := o2.below hb13 (by omega)
  have o3 := o3.below hb13 (by omega)
  have o4 := o4.below hb13 (by omega)
  have o5 := o5.below hb13 (by omega)
  have bP0 := bP0.below hb13 bP0.lt
  have br := br.below hb13 br.lt
  have bx0 := bx0.below hb13 bx0.lt
  have bg := bg.below hb13 bg.lt
  have I0 := I0.below (Below.mono hb13 (by omega))
  have I1 := I1.below (Below.mono hb13 (by omega))
  have hT13 := below_then hT12 hb13
  clear hT12
  clear hb13
  go_wp2_with fail
  refine (toVecS_any a1 len1 cap1 _ xs1 w13 I1.1 I1.2.1 hT13.size (by omega) F1.out).mono ?_
  rintro e w14 ⟨g6, rfl, z6, hb14⟩
  have hs14 := hb14.size
  have o2 := o2.below hb14 (by omega)
  have o3 := o3.below hb14 (by omega)
  have o4 := o4.below hb14 (by omega)
  have o5 := o5.below hb14 (by omega)
  have bP0 := bP0.below hb14 bP0.lt
  have br := br.below hb14 br.lt
  have bx0 := bx0.below hb14 bx0.lt
  have bg := bg.below hb14 bg.lt
  have I0 := I0.below (Below.mono hb14 (by omega))
  have I1 := I1.below (Below.mono hb14 (by omega))
  have hT14 := below_then hT13 hb14
  clear hT13
  have o6 := OwnV.of z6
  clear z6 hb14
  go_wp2_with fail
  refine (eqVecS_any (some ⟨g4, 0, none⟩) (some ⟨g6, 0, none⟩) len1 len1 len1 _ xs1 w14 I1.1 o4.rd o6.rd (Nat.le_refl _) (by omega) F1.out).mono ?_
  rintro e w15 ⟨rfl, hb15⟩
  have hs15 := hb15.size
  have o2 := o2.below hb15 (by omega)
  have o3 := o3.below hb15 (by omega)
  have o4 := o4.below hb15 (by omega)
  have o5 := o5.below hb15 (by omega)
  have o6 := o6.below hb15 (by omega)
  have bP0 := bP0.below hb15 bP0.lt
  have br := br.below hb15 br.lt
  have bx0 := bx0.below hb15 bx0.lt
  have bg := bg.below hb15 bg.lt
  have I0 := I0.below (Below.mono hb15 (by omega))
  have I1 := I1.below (Below.mono hb15 (by omega))
  have hT15 := below_then hT14 hb15
  clear hT14
  clear hb15
  clear o6
  obtain ⟨yx00, yx01, yx02, yx03, yx04, yx05, yx06⟩ := bx0.cells7
  go_wp2_with fail
  refine (markScn_own w15 _ _ (1) o3 (by omega) (by omega) (by omega)).mono ?_
  rintro e w16 ⟨he, r3, ha16⟩
  clear yx00 yx01 yx02 yx03 yx04 yx05 yx06
  obtain ⟨K1, hK1⟩ : ∃ K : Nat, K = 1 + sizS S0 := ⟨_, rfl⟩
  have bK1 : K1 ≤ 3000000 := by have := sizS_le S0; omega
  rw [← hK1] at he
  subst he
  have HK1 := hide hK1
  clear hK1
  have hnnK1 : ¬ (K1 : Int) < 0 := by omega
  have hs16 := ha16.size
  have o2 := o2.aside ha16 (by omega)
  have o4 := o4.aside ha16 (by omega)
  have o5 := o5.aside ha16 (by omega)
  have bP0 := bP0.aside ha16 (by omega)
  have br := br.aside ha16 (by omega)
  have bx0 := bx0.aside ha16 (by omega)
  have bg := bg.aside ha16 (by omega)
  have I0 := I0.below (Aside.below ha16 (by omega) (by omega))
  have I1 := I1.below (Aside.below ha16 (by omega) (by omega))
  have hT16 := hT15.trans (Aside.below ha16 (by omega) (by omega))
  clear hT15
  have o3 := r3
  clear r3 ha16
  go_wp2_with fail
  refine (markVecS_own (.slice (some ⟨g4, 0, none⟩) len1 len1) len1 (K1) _ _ _ _ w16 o4 (by omega) (by omega)).mono ?_
  rintro e w17 ⟨he, r4, ha17⟩
  obtain ⟨K2, hK2⟩ : ∃ K : Nat, K = K1 + len1 * 2 := ⟨_, rfl⟩
  have bK2 : K2 ≤ 6000000 := by omega
  rw [← hK2] at he
  subst he
  have HK2 := hide hK2
  clear hK2
  have hnnK2 : ¬ (K2 : Int) < 0 := by omega
  have hs17 := ha17.size
  have o2 := o2.aside ha17 (by omega)
  have o3 := o3.aside ha17 (by omega)
  have o5 := o5.aside ha17 (by omega)
  have bP0 := bP0.aside ha17 (by omega)
  have br := br.aside ha17 (by omega)
  have bx0 := bx0.aside ha17 (by omega)
  have bg := bg.aside ha17 (by omega)
  have I0 := I0.below (Aside.below ha17 (by omega) (by omega))
  have I1 := I1.below (Aside.below ha17 (by omega) (by omega))
  have hT17 := hT16.trans (Aside.below ha17 (by omega) (by omega))
  clear hT16
  have o4 := r4
  clear r4 ha17
  obtain ⟨yg0, yg1, yg2, yg3, yg4, yg5, yg6⟩ := bg.cells7
  obtain ⟨yr0, yr1, yr2, yr3, yr4, yr5, yr6⟩ := br.cells7
  go_wp2_with fail
  refine (eqScn_any w17 w17.heap.size (Nat.le_refl _) (o5.in_ HZ.out.1 HZ.out.2.1 HZ.out.2.2 (by omega)) (o2.in_ HZ.out.1 HZ.out.2.1 HZ.out.2.2 (by omega))).mono ?_
  rintro e w18 ⟨rfl, hb18⟩
  clear yg0 yg1 yg2 yg3 yg4 yg5 yg6 yr0 yr1 yr2 yr3 yr4 yr5 yr6
  have hs18 := hb18.size
  have o2 := o2.below hb18 (by omega)
  have o3 := o3.below hb18 (by omega)
  have o4 := o4.below hb18 (by omega)
  have o5 := o5.below hb18 (by omega)
  have bP0 := bP0.below hb18 bP0.lt
  have br := br.below hb18 br.lt
  have bx0 := bx0.below hb18 bx0.lt
  have bg := bg.below hb18 bg.lt
  have I0 := I0.below (Below.mono hb18 (by omega))
  have I1 := I1.below (Below.mono hb18 (by omega))
  have hT18 := below_then hT17 hb18
  clear hT17
  clear hb18
  clear o3
  clear o4
  clear bx0
  obtain ⟨yg0, yg1, yg2, yg3, yg4, yg5, yg6⟩ := bg.cells7
  go_wp2_with fail
  refine (markScn_own w18 _ _ (1) o5 (by omega) (by omega) (by omega)).mono ?_
  rintro e w19 ⟨he, r5, ha19⟩
  clear yg0 yg1 yg2 yg3 yg4 yg5 yg6
  obtain ⟨K3, hK3⟩ : ∃ K : Nat, K = 1 + sizS (addS S0 xs1) := ⟨_, rfl⟩
  have bK3 : K3 ≤ 9000000 := by have := sizS_le (addS S0 xs1); omega
  rw [← hK3] at he
  subst he
  have HK3 := hide hK3
  clear hK3
  have hnnK3 : ¬ (K3 : Int) < 0 := by omega
  have hs19 := ha19.size
  have o2 := o2.aside ha19 (by omega)
  have bP0 := bP0.aside ha19 (by omega)
  have br := br.aside ha19 (by omega)
  have bg := bg.aside ha19 (by omega)
  have I0 := I0.below (Aside.below ha19 (by omega) (by omega))
  have I1 := I1.below (Aside.below ha19 (by omega) (by omega))
  have hT19 := hT18.trans (Aside.below ha19 (by omega) (by omega))
  clear hT18
  have o5 := r5
  clear r5 ha19
  obtain ⟨yg0, yg1, yg2, yg3, yg4, yg5, yg6⟩ := bg.cells7
  go_wp2_with fail
  refine (heldScn_any w19 _ _ (1) o5 (by omega) (by omega) (by omega)).mono ?_
  rintro e w20 ⟨he, hb20⟩
  rw [← HK3.out] at he
  subst he
  clear yg0 yg1 yg2 yg3 yg4 yg5 yg6
  have hs20 := hb20.size
  have o2 := o2.below hb20 (by omega)
  have o5 := o5.below hb20 (by omega)
  have bP0 := bP0.below hb20 bP0.lt
  have br := br.below hb20 br.lt
  have bg := bg.below hb20 bg.lt
  have I0 := I0.below (Below.mono hb20 (by omega))
  have I1 := I1.below (Below.mono hb20 (by omega))
  have hT20 := below_then hT19 hb20
  clear hT19
  clear hb20
  obtain ⟨yP00, yP01, yP02, yP03, yP04, yP05, yP06⟩ := bP0.cells7
  go_wp2_with fail
  refine (toScn_any w20 w.heap.size hT20.size I0).mono ?_
  rintro e w21 ⟨q70, q71, q72, q73, q74, q75, q76, rfl, o7, hb21⟩
  obtain ⟨RQ7, rq7, OQ7, oq7, TQ7, tq7, ⟨rfl, rfl, rfl, rfl, rfl, rfl, rfl⟩⟩ := o7.form
  have hs21 := hb21.size
  have o2 := o2.below hb21 (by omega)
  have o5 := o5.below hb21 (by omega)
  have bP0 := bP0.below hb21 bP0.lt
  have br := br.below hb21 br.lt
  have bg := bg.below hb21 bg.lt
  have I0 := I0.below (Below.mono hb21 (by omega))
  have I1 := I1.below (Below.mono hb21 (by omega))
  have hT21 := below_then hT20 hb21
  clear hT20
  clear hb21
  clear yP00 yP01 yP02 yP03 yP04 yP05 yP06
  go_wp2_with fail
  refine (toVecS_any a1 len1 cap1 _ xs1 w21 I1.1 I1.2.1 hT21.size (by omega) F1.out).mono ?_
  rintro e w22 ⟨g8, rfl, z8, hb22⟩
  have hs22 := hb22.size
  have o2 := o2.below hb22 (by omega)
  have o5 := o5.below hb22 (by omega)
  have o7 := o7.below hb22 (by omega)
  have bP0 := bP0.below hb22 bP0.lt
  have br := br.below hb22 br.lt
  have bg := bg.below hb22 bg.lt
  have I0 := I0.below (Below.mono hb22 (by omega))
  have I1 := I1.below (Below.mono hb22 (by omega))
  have hT22 := below_then hT21 hb22
  clear hT21
  have o8 := OwnV.of z8
  clear z8 hb22
  go_wp2_with fail
  refine (impl_AddObstacle w22 w22.heap.size (Nat.le_refl _) (o7.in_ HA0.out.1 HA0.out.2.1 HA0.out.2.2 (by omega)) (some ⟨g8, 0, none⟩) len1 len1 xs1 (I1.at_ o8.rd) (by omega)).mono ?_
  rintro e w23 ⟨q90, q91, q92, q93, q94, q95, q96, rfl, o9, hb23⟩
  obtain ⟨RQ9, rq9, OQ9, oq9, TQ9, tq9, ⟨rfl, rfl, rfl, rfl, rfl, rfl, rfl⟩⟩ := o9.form
  have hs23 := hb23.size
  have o2 := o2.below hb23 (by omega)
  have o5 := o5.below hb23 (by omega)
  have o7 := o7.below hb23 (by omega)
  have o8 := o8.below hb23 (by omega)
  have bP0 := bP0.below hb23 bP0.lt
  have br := br.below hb23 br.lt
  have bg := bg.below hb23 bg.lt
  have I0 := I0.below (Below.mono hb23 (by omega))
  have I1 := I1.below (Below.mono hb23 (by omega))
  have hT23 := below_then hT22 hb23
  clear hT22
  clear hb23
  obtain ⟨w24, hw24⟩ : ∃ x, x = w23.alloc (.cells #[.int .i64 (addS S0 xs1).lx, .int .i64 (addS S0 xs1).ly, .int .i64 (addS S0 xs1).hx, .int .i64 (addS S0 xs1).hy, .slice RQ9 (addS S0 xs1).r.length rq9, .slice OQ9 (addS S0 xs1).o.length oq9, .slice TQ9 (addS S0 xs1).t.length tq9] 34) := ⟨_, rfl⟩
  have hb24 : Below w23.heap.size w23 w24 := by rw [hw24]; exact below_new _ _
  have hq24 : w23.heap.size < w24.heap.size := by rw [hw24, alloc_size]; omega
  have bn : Box w24 w23.heap.size 34 #[.int .i64 (addS S0 xs1).lx, .int .i64 (addS S0 xs1).ly, .int .i64 (addS S0 xs1).hx, .int .i64 (addS S0 xs1).hy, .slice RQ9 (addS S0 xs1).r.length rq9, .slice OQ9 (addS S0 xs1).o.length oq9, .slice TQ9 (addS S0 xs1).t.length tq9] := by rw [hw24]; exact Box.last _ _ _ rfl
  have hs24 := hb24.size
  have o2 := o2.below hb24 (by omega)
  have o5 := o5.below hb24 (by omega)
  have o7 := o7.below hb24 (by omega)
  have o8 := o8.below hb24 (by omega)
  have o9 := o9.below hb24 (by omega)
  have bP0 := bP0.below hb24 bP0.lt
  have br := br.below hb24 br.lt
  have bg := bg.below hb24 bg.lt
  have I0 := I0.below (Below.mono hb24 (by omega))
  have I1 := I1.below (Below.mono hb24 (by omega))
  have hT24 := below_then hT23 hb24
  clear hT23
  have bh := bn
  clear bn
  clear hb24
  go_upto_region 32 with fail
  rw [← hw24]
  clear hw24
  clear o7
  clear o8
  obtain ⟨yh0, yh1, yh2, yh3, yh4, yh5, yh6⟩ := bh.cells7
  obtain ⟨yr0, yr1, yr2, yr3, yr4, yr5, yr6⟩ := br.cells7
  go_wp2_with fail
  refine (eqScn_any w24 w24.heap.size (Nat.le_refl _) (o9.in_ HZ.out.1 HZ.out.2.1 HZ.out.2.2 (by omega)) (o2.in_ HZ.out.1 HZ.out.2.1 HZ.out.2.2 (by omega))).mono ?_
  rintro e w25 ⟨rfl, hb25⟩
  clear yh0 yh1 yh2 yh3 yh4 yh5 yh6 yr0 yr1 yr2 yr3 yr4 yr5 yr6
  have hs25 := hb25.size
  have o2 := o2.below hb25 (by omega)
  have o5 := o5.below hb25 (by omega)
  have o9 := o9.below hb25 (by omega)
  have bP0 := bP0.below hb25 bP0.lt
  have br := br.below hb25 br.lt
  have bg := bg.below hb25 bg.lt
  have bh := bh.below hb25 bh.lt
  have I0 := I0.below (Below.mono hb25 (by omega))
  have I1 := I1.below (Below.mono hb25 (by omega))
  have hT25 := below_then hT24 hb25
  clear hT24
  clear hb25
  obtain ⟨yg0, yg1, yg2, yg3, yg4, yg5, yg6⟩ := bg.cells7
  go_wp2_with fail
  refine (heldScn_any w25 _ _ (1) o5 (by omega) (by omega) (by omega)).mono ?_
  rintro e w26 ⟨he, hb26⟩
  rw [← HK3.out] at he
  subst he
  clear yg0 yg1 yg2 yg3 yg4 yg5 yg6
  have hs26 := hb26.size
  have o2 := o2.below hb26 (by omega)
  have o5 := o5.below hb26 (by omega)
  have o9 := o9.below hb26 (by omega)
  have bP0 := bP0.below hb26 bP0.lt
  have br := br.below hb26 br.lt
  have bg := bg.below hb26 bg.lt
  have bh := bh.below hb26 bh.lt
  have I0 := I0.below (Below.mono hb26 (by omega))
  have I1 := I1.below (Below.mono hb26 (by omega))
  have hT26 := below_then hT25 hb26
  clear hT25
  clear hb26
  clear o5
  clear o2
  clear o9
  go_wp2_with fail
  go_ret
  exact ⟨rfl, hT26⟩
end Go.Proofs.Ytffabmdcgcinmaa
