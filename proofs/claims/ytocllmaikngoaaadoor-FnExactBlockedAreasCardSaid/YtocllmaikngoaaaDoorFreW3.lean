/-
  The exact laws' walks: BlockedAreas.
-/
import Derived.Test.YtocllmaikngoaaaDoorSB
import Derived.Test.YtocllmaikngoaaaDoorFreI3
import Derived.Test.YtocllmaikngoaaaDoorFreR3
namespace Go.Proofs.YtocllmaikngoaaaDoor
open Go.RowKit
set_option linter.unusedVariables false
theorem heldSS_own (w : World) (lo hi : Nat) {ES EV : TypeId} (A : Option Addr) (n c k : Nat) (ss : List Sl) (o : OwnSS w lo hi ES EV (.slice A n c) n (mkS k ss)) (hhi : hi ≤ w.heap.size) (hl : n + totN (cont ss) ≤ 100000000) (hk : k ≤ 500000000) :
    Calls Tryd.prog 22 #[.slice A n c, .int .i64 k] w fun e w' => e = .returned (.int .i64 ((k + totN (cont ss) * 2 : Nat) : Int)) ∧ w = w' := by
  have hlen := o.len
  rw [mkS_len] at hlen
  refine heldSS_any w hi A n c k ss hlen (by have h := o.1.rdB (Nat.le_refl hi); rwa [mkS_slv] at h) (fun j h => ?_) hl hk
  have hj : j < (mkS k ss).length := by rw [mkS_len]; exact h
  have ov := o.2.1 _ (List.getElem_mem hj)
  rw [mkS_at ss k j h] at ov
  exact ov.rdB (Nat.le_refl _)
set_option maxHeartbeats 16000000 in
set_option maxRecDepth 100000 in
theorem FnExactBlockedAreas_walk (w : World) {v00 v01 v02 v03 v04 v05 v06 : Value} (S0 : Scn) (f0 : SArg w v00 v01 v02 v03 v04 v05 v06 S0) (a1 : Int) (f1 : (Lit.int .i64 a1).wf = true) (hQ : QTab w) :
    Calls Tryd.prog 5 #[.agg #[v00, v01, v02, v03, v04, v05, v06], .int .i64 a1] w fun e w' => e = .returned (.bool true) ∧ Below w.heap.size w w' := by
  obtain ⟨RA0, rc0, OA0, oc0, TA0, tc0, ⟨rfl, rfl, rfl, rfl, rfl, rfl, rfl⟩⟩ := f0.form
  obtain ⟨hm1, hM1⟩ := bounds_i64 f1
  obtain ⟨w1, hw1⟩ : ∃ x, x = (w.alloc (.cells #[.int .i64 S0.lx, .int .i64 S0.ly, .int .i64 S0.hx, .int .i64 S0.hy, .slice RA0 S0.r.length rc0, .slice OA0 S0.o.length oc0, .slice TA0 S0.t.length tc0] 27)) := ⟨_, rfl⟩
  have hT1 : Below w.heap.size w w1 := by rw [hw1]; exact below_new _ _
  have hs1 := hT1.size
  have bP0 : Box w1 w.heap.size 27 #[.int .i64 S0.lx, .int .i64 S0.ly, .int .i64 S0.hx, .int .i64 S0.hy, .slice RA0 S0.r.length rc0, .slice OA0 S0.o.length oc0, .slice TA0 S0.t.length tc0] := by rw [hw1]; exact Box.last _ _ _ rfl
  have hq1 : w.heap.size + 1 ≤ w1.heap.size := by rw [hw1, alloc_size]; omega
  obtain ⟨m0, hm0e⟩ : ∃ m, m = totS S0 := ⟨_, rfl⟩
  have D0 := hide (fun (W : World) (hb : Below w.heap.size w W) (k : Nat) (hk : k ≤ 1048576) => szScn_any W S0 (f0.below hb) k hk)
  rw [← hm0e] at D0
  have HME0 := hide hm0e
  clear hm0e
  have C0 := hide (fun (W : World) (hb : Below w.heap.size w W) => D0.out W hb (1048576) (by omega))
  by_cases c0 : m0 ≤ 1048576
  case neg =>
    rw [szR_no (by omega)] at C0
    clear D0
    go_enter Tryd.func5, Tryd.ntmps5
    go_upto_region 1 with fail
    rw [← hw1]
    clear hw1
    obtain ⟨yP00, yP01, yP02, yP03, yP04, yP05, yP06⟩ := bP0.cells7
    go_wp2_with fail
    refine (C0.out _ hT1).mono ?_
    rintro e w2 ⟨rfl, hb2⟩
    clear yP00 yP01 yP02 yP03 yP04 yP05 yP06
    have hs2 := hb2.size
    have bP0 := bP0.below hb2 bP0.lt
    have hT2 := below_then hT1 hb2
    clear hT1 hb2
    go_wp2_with fail
    go_ret
    exact ⟨rfl, hT2⟩
  obtain ⟨lf0, hlf0⟩ : ∃ r : Nat, r + m0 = 1048576 := ⟨1048576 - m0, by omega⟩
  have hr0 : szR (1048576) m0 = (lf0 : Int) := by rw [szR_ok c0]; congr 1; omega
  rw [hr0] at C0
  have hnn0 : ¬ (lf0 : Int) < 0 := by omega
  have hlb0 : lf0 ≤ 1048576 := by omega
  clear hr0
  clear D0
  have HMB0 : m0 ≤ 1048576 := by omega
  rw [HME0.out] at HMB0
  have hM0 := HMB0
  clear HMB0 HME0
  have I0 := f0.in_ hM0
  have HA0 : Hid (SFit S0 ∧ wf4 S0 ∧ SShort S0) := ⟨I0.fit.1, I0.fit.2, short_of hM0⟩
  clear f0
  have HLF0 := hide hlf0
  clear hlf0 c0
  have hAL := arsL_len S0 a1
  have HEL : Hid (∀ tt, cont tt = arsL S0 a1 → ∀ s ∈ tt, s.vs.length ≤ 1048576 ∧ wfV s.vs) := fun tt e s hs => by have h9 := arsL_at (S := S0) (k := a1) (l := s.vs) (by rw [← e]; exact List.mem_map.2 ⟨s, hs, rfl⟩); exact ⟨by omega, h9.2⟩
  have HTT : Hid (∀ tt, cont tt = arsL S0 a1 → totN (cont tt) ≤ 64) := fun tt e => by rw [e]; exact arsL_tot S0 a1
  have I0 := I0.below hT1
  go_enter Tryd.func5, Tryd.ntmps5
  go_upto_region 1 with fail
  rw [← hw1]
  clear hw1
  obtain ⟨yP00, yP01, yP02, yP03, yP04, yP05, yP06⟩ := bP0.cells7
  go_wp2_with fail
  refine (C0.out _ hT1).mono ?_
  rintro e w2 ⟨rfl, hb2⟩
  clear yP00 yP01 yP02 yP03 yP04 yP05 yP06
  have hs2 := hb2.size
  have bP0 := bP0.below hb2 bP0.lt
  have I0 := I0.below (Below.mono hb2 (by omega))
  have hT2 := below_then hT1 hb2
  clear hT1
  clear hb2
  clear C0
  obtain ⟨yP00, yP01, yP02, yP03, yP04, yP05, yP06⟩ := bP0.cells7
  go_wp2_with fail
  refine (toScn_any w2 w.heap.size hT2.size I0).mono ?_
  rintro e w3 ⟨q00, q01, q02, q03, q04, q05, q06, rfl, o0, hb3⟩
  obtain ⟨RQ0, rq0, OQ0, oq0, TQ0, tq0, ⟨rfl, rfl, rfl, rfl, rfl, rfl, rfl⟩⟩ := o0.form
  have hs3 := hb3.size
  have bP0 := bP0.below hb3 bP0.lt
  have I0 := I0.below (Below.mono hb3 (by omega))
  have hT3 := below_then hT2 hb3
  clear hT2
  clear hb3
  clear yP00 yP01 yP02 yP03 yP04 yP05 yP06
  go_wp2_with fail
  refine (spec_BlockedAreas w3 w3.heap.size (Nat.le_refl _) (o0.in_ HA0.out.1 HA0.out.2.1 HA0.out.2.2 (by omega)) a1 f1).mono ?_
  rintro e w4 ⟨v1r, tt1, rfl, o1, ct1, hb4⟩
  obtain ⟨RV1, rv1, rfl⟩ := o1.form
  have hs4 := hb4.size
  have o0 := o0.below hb4 (by omega)
  have bP0 := bP0.below hb4 bP0.lt
  have I0 := I0.below (Below.mono hb4 (by omega))
  have hT4 := below_then hT3 hb4
  clear hT3
  clear hb4
  clear o0
  obtain ⟨yP00, yP01, yP02, yP03, yP04, yP05, yP06⟩ := bP0.cells7
  go_wp2_with fail
  refine (toScn_any w4 w.heap.size hT4.size I0).mono ?_
  rintro e w5 ⟨q20, q21, q22, q23, q24, q25, q26, rfl, o2, hb5⟩
  obtain ⟨RQ2, rq2, OQ2, oq2, TQ2, tq2, ⟨rfl, rfl, rfl, rfl, rfl, rfl, rfl⟩⟩ := o2.form
  have hs5 := hb5.size
  have o1 := o1.below hb5 (by omega)
  have bP0 := bP0.below hb5 bP0.lt
  have I0 := I0.below (Below.mono hb5 (by omega))
  have hT5 := below_then hT4 hb5
  clear hT4
  clear hb5
  clear yP00 yP01 yP02 yP03 yP04 yP05 yP06
  obtain ⟨w6, hw6⟩ : ∃ x, x = w5.alloc (.cells #[.int .i64 S0.lx, .int .i64 S0.ly, .int .i64 S0.hx, .int .i64 S0.hy, .slice RQ2 S0.r.length rq2, .slice OQ2 S0.o.length oq2, .slice TQ2 S0.t.length tq2] 34) := ⟨_, rfl⟩
  have hb6 : Below w5.heap.size w5 w6 := by rw [hw6]; exact below_new _ _
  have hq6 : w5.heap.size < w6.heap.size := by rw [hw6, alloc_size]; omega
  have bn : Box w6 w5.heap.size 34 #[.int .i64 S0.lx, .int .i64 S0.ly, .int .i64 S0.hx, .int .i64 S0.hy, .slice RQ2 S0.r.length rq2, .slice OQ2 S0.o.length oq2, .slice TQ2 S0.t.length tq2] := by rw [hw6]; exact Box.last _ _ _ rfl
  have hs6 := hb6.size
  have o1 := o1.below hb6 (by omega)
  have o2 := o2.below hb6 (by omega)
  have bP0 := bP0.below hb6 bP0.lt
  have I0 := I0.below (Below.mono hb6 (by omega))
  have hT6 := below_then hT5 hb6
  clear hT5
  have bx0 := bn
  clear bn
  clear hb6
  go_upto_region 7 with fail
  rw [← hw6]
  clear hw6
  obtain ⟨yx00, yx01, yx02, yx03, yx04, yx05, yx06⟩ := bx0.cells7
  go_wp2_with fail
  refine (impl_BlockedAreas w6 w6.heap.size (Nat.le_refl _) (o2.in_ HA0.out.1 HA0.out.2.1 HA0.out.2.2 (by omega)) a1 f1 (hQ.below hT6 (Nat.le_refl _))).mono ?_
  rintro e w7 ⟨v3r, tt3, rfl, o3, ct3, hb7⟩
  obtain ⟨RV3, rv3, rfl⟩ := o3.form
  have hs7 := hb7.size
  have o1 := o1.below hb7 (by omega)
  have o2 := o2.below hb7 (by omega)
  have bP0 := bP0.below hb7 bP0.lt
  have bx0 := bx0.below hb7 bx0.lt
  have I0 := I0.below (Below.mono hb7 (by omega))
  have hT7 := below_then hT6 hb7
  clear hT6
  clear hb7
  clear yx00 yx01 yx02 yx03 yx04 yx05 yx06
  go_wp2_with fail
  refine (eqSS_any w7 w7.heap.size (Nat.le_refl _) RV3 ((arsL S0 a1)).length rv3 tt3 (o3.rdS (by omega) (by omega) (HEL.out _ ct3)) RV1 rv1 tt1 (o1.rdS (by omega) (by omega) (HEL.out _ ct1)) (by rw [ct3, ct1])).mono ?_
  rintro e w8 ⟨rfl, hb8⟩
  have hs8 := hb8.size
  have o1 := o1.below hb8 (by omega)
  have o2 := o2.below hb8 (by omega)
  have o3 := o3.below hb8 (by omega)
  have bP0 := bP0.below hb8 bP0.lt
  have bx0 := bx0.below hb8 bx0.lt
  have I0 := I0.below (Below.mono hb8 (by omega))
  have hT8 := below_then hT7 hb8
  clear hT7
  clear hb8
  go_upto_region 10 with fail
  obtain ⟨yP00, yP01, yP02, yP03, yP04, yP05, yP06⟩ := bP0.cells7
  obtain ⟨yx00, yx01, yx02, yx03, yx04, yx05, yx06⟩ := bx0.cells7
  have HPi := hide bP0
  have HPj := hide bx0
  have HKS := hide (fun (W : World) (hq : Below w8.heap.size w8 W) => (⟨(HPj.out.below hq HPj.out.lt).cell 0, (HPj.out.below hq HPj.out.lt).cell 1, (HPj.out.below hq HPj.out.lt).cell 2, (HPj.out.below hq HPj.out.lt).cell 3, (HPj.out.below hq HPj.out.lt).cell 4, (HPj.out.below hq HPj.out.lt).cell 5, (HPj.out.below hq HPj.out.lt).cell 6, (HPi.out.below hq HPi.out.lt).cell 0, (HPi.out.below hq HPi.out.lt).cell 1, (HPi.out.below hq HPi.out.lt).cell 2, (HPi.out.below hq HPi.out.lt).cell 3, (HPi.out.below hq HPi.out.lt).cell 4, (HPi.out.below hq HPi.out.lt).cell 5, (HPi.out.below hq HPi.out.lt).cell 6⟩ : W.cell? ⟨w5.heap.size, 0, none⟩ = some (.int .i64 S0.lx) ∧ W.cell? ⟨w5.heap.size, 1, none⟩ = some (.int .i64 S0.ly) ∧ W.cell? ⟨w5.heap.size, 2, none⟩ = some (.int .i64 S0.hx) ∧ W.cell? ⟨w5.heap.size, 3, none⟩ = some (.int .i64 S0.hy) ∧ W.cell? ⟨w5.heap.size, 4, none⟩ = some (.slice RQ2 S0.r.length rq2) ∧ W.cell? ⟨w5.heap.size, 5, none⟩ = some (.slice OQ2 S0.o.length oq2) ∧ W.cell? ⟨w5.heap.size, 6, none⟩ = some (.slice TQ2 S0.t.length tq2) ∧ W.cell? ⟨w.heap.size, 0, none⟩ = some (.int .i64 S0.lx) ∧ W.cell? ⟨w.heap.size, 1, none⟩ = some (.int .i64 S0.ly) ∧ W.cell? ⟨w.heap.size, 2, none⟩ = some (.int .i64 S0.hx) ∧ W.cell? ⟨w.heap.size, 3, none⟩ = some (.int .i64 S0.hy) ∧ W.cell? ⟨w.heap.size, 4, none⟩ = some (.slice RA0 S0.r.length rc0) ∧ W.cell? ⟨w.heap.size, 5, none⟩ = some (.slice OA0 S0.o.length oc0) ∧ W.cell? ⟨w.heap.size, 6, none⟩ = some (.slice TA0 S0.t.length tc0)))
  have HCi := hide (fun (W : World) (hq : Below w8.heap.size w8 W) => toScn_any W w.heap.size (by have := hT8.size; have := hq.size; omega) (I0.below (hq.mono hT8.size)))
  have HOd := hide o2
  have HF := hide (fun (W W' : World) (hq : Below w8.heap.size w8 W) (hq' : Below W.heap.size W W') (p0 p1 p2 p3 p4 p5 p6 : Value) (r : SOwn W' W.heap.size W'.heap.size 29 31 p0 p1 p2 p3 p4 p5 p6 S0) => eqScn_any W' W'.heap.size (Nat.le_refl _) ((HOd.out.below hq (by omega)).below hq' (by have := hq.size; omega) |>.in_ HA0.out.1 HA0.out.2.1 HA0.out.2.2 (by have := hq.size; have := hq'.size; omega)) (r.in_ HA0.out.1 HA0.out.2.1 HA0.out.2.2 (Nat.le_refl _)))
  have HS0 : Hid (Below w8.heap.size w8 w8.drew) := (Below.refl _ _).drew
  go_region_held3 (fun w' => w'.cell? ⟨w5.heap.size, 0, none⟩ = some (.int .i64 S0.lx) ∧ w'.cell? ⟨w5.heap.size, 1, none⟩ = some (.int .i64 S0.ly) ∧ w'.cell? ⟨w5.heap.size, 2, none⟩ = some (.int .i64 S0.hx) ∧ w'.cell? ⟨w5.heap.size, 3, none⟩ = some (.int .i64 S0.hy) ∧ w'.cell? ⟨w5.heap.size, 4, none⟩ = some (.slice RQ2 S0.r.length rq2) ∧ w'.cell? ⟨w5.heap.size, 5, none⟩ = some (.slice OQ2 S0.o.length oq2) ∧ w'.cell? ⟨w5.heap.size, 6, none⟩ = some (.slice TQ2 S0.t.length tq2) ∧ w'.cell? ⟨w.heap.size, 0, none⟩ = some (.int .i64 S0.lx) ∧ w'.cell? ⟨w.heap.size, 1, none⟩ = some (.int .i64 S0.ly) ∧ w'.cell? ⟨w.heap.size, 2, none⟩ = some (.int .i64 S0.hx) ∧ w'.cell? ⟨w.heap.size, 3, none⟩ = some (.int .i64 S0.hy) ∧ w'.cell? ⟨w.heap.size, 4, none⟩ = some (.slice RA0 S0.r.length rc0) ∧ w'.cell? ⟨w.heap.size, 5, none⟩ = some (.slice OA0 S0.o.length oc0) ∧ w'.cell? ⟨w.heap.size, 6, none⟩ = some (.slice TA0 S0.t.length tc0))
      (first | (with_reducible exact HKS.out _ HS2.out) | (with_reducible exact HKS.out _ HS1.out) | (with_reducible exact HKS.out _ HS0.out))
      (first
        | (go_at_call 8; refine (HCi.out _ HS0.out).mono ?_; rintro e u1 ⟨p0, p1, p2, p3, p4, p5, p6, rfl, e1, hb1⟩; have HB1 := hide hb1; have HS1 := hide (below_then HS0.out hb1))
        | (go_at_call 11; refine (HF.out _ _ HS0.out HB1.out _ _ _ _ _ _ _ e1).mono ?_; rintro e u2 ⟨rfl, hb2⟩; have HS2 := hide (below_then HS1.out hb2)))
  have hb9 := HS2.out
  obtain ⟨w9, hw9⟩ : ∃ x, x = u2 := ⟨_, rfl⟩
  subst hw9
  clear HKS HCi HF HS0 HPi HPj HS1 HS2 HB1 HOd hb1 hb2 e1
  clear yP00 yP01 yP02 yP03 yP04 yP05 yP06 yx00 yx01 yx02 yx03 yx04 yx05 yx06
  have hs9 := hb9.size
  have o1 := o1.below hb9 (by omega)
  have o2 := o2.below hb9 (by omega)
  have o3 := o3.below hb9 (by omega)
  have bP0 := bP0.below hb9 bP0.lt
  have bx0 := bx0.below hb9 bx0.lt
  have I0 := I0.below (Below.mono hb9 (by omega))
  have hT9 := below_then hT8 hb9
  clear hT8
  clear hb9
  obtain ⟨yx00, yx01, yx02, yx03, yx04, yx05, yx06⟩ := bx0.cells7
  go_wp2_with fail
  refine (markScn_own w9 _ _ (1) o2 (by omega) (by omega) (by omega)).mono ?_
  rintro e w10 ⟨he, r2, ha10⟩
  clear yx00 yx01 yx02 yx03 yx04 yx05 yx06
  obtain ⟨K1, hK1⟩ : ∃ K : Nat, K = 1 + sizS S0 := ⟨_, rfl⟩
  have bK1 : K1 ≤ 3000000 := by have := sizS_le S0; omega
  rw [← hK1] at he
  subst he
  have HK1 := hide hK1
  clear hK1
  have hnnK1 : ¬ (K1 : Int) < 0 := by omega
  have hs10 := ha10.size
  have o1 := o1.aside ha10 (by omega)
  have o3 := o3.aside ha10 (by omega)
  have bP0 := bP0.aside ha10 (by omega)
  have bx0 := bx0.aside ha10 (by omega)
  have I0 := I0.below (Aside.below ha10 (by omega) (by omega))
  have hT10 := hT9.trans (Aside.below ha10 (by omega) (by omega))
  clear hT9
  have o2 := r2
  clear r2 ha10
  go_wp2_with fail
  refine (eqSS_any w10 w10.heap.size (Nat.le_refl _) RV3 ((arsL S0 a1)).length rv3 tt3 (o3.rdS (by omega) (by omega) (HEL.out _ ct3)) RV1 rv1 tt1 (o1.rdS (by omega) (by omega) (HEL.out _ ct1)) (by rw [ct3, ct1])).mono ?_
  rintro e w11 ⟨rfl, hb11⟩
  have hs11 := hb11.size
  have o1 := o1.below hb11 (by omega)
  have o2 := o2.below hb11 (by omega)
  have o3 := o3.below hb11 (by omega)
  have bP0 := bP0.below hb11 bP0.lt
  have bx0 := bx0.below hb11 bx0.lt
  have I0 := I0.below (Below.mono hb11 (by omega))
  have hT11 := below_then hT10 hb11
  clear hT10
  clear hb11
  clear o2
  clear bx0
  go_wp2_with fail
  refine (markSS_own w11 _ ((arsL S0 a1)).length 1 _ _ _ _ tt3 o3 (by have := HTT.out _ ct3; omega) (by omega) (by omega)).mono ?_
  rintro e w12 ⟨he, r3, ha12⟩
  obtain ⟨K2, hK2⟩ : ∃ K : Nat, K = 1 + totN (cont tt3) * 2 := ⟨_, rfl⟩
  have bK2 : K2 ≤ 6000000 := by have := HTT.out _ ct3; omega
  rw [← hK2] at he
  subst he
  have HK2 := hide hK2
  clear hK2
  have hnnK2 : ¬ (K2 : Int) < 0 := by omega
  have hs12 := ha12.size
  have o1 := o1.aside ha12 (by omega)
  have bP0 := bP0.aside ha12 (by omega)
  have I0 := I0.below (Aside.below ha12 (by omega) (by omega))
  have hT12 := hT11.trans (Aside.below ha12 (by omega) (by omega))
  clear hT11
  have o3 := r3
  clear r3 ha12
  go_wp2_with fail
  refine (heldSS_own w12 _ _ RV3 ((arsL S0 a1)).length rv3 1 tt3 o3 (by omega) (by have := HTT.out _ ct3; omega) (by omega)).mono ?_
  rintro e w' ⟨he, rfl⟩
  rw [← HK2.out] at he
  subst he
  obtain ⟨yP00, yP01, yP02, yP03, yP04, yP05, yP06⟩ := bP0.cells7
  go_wp2_with fail
  refine (toScn_any w12 w.heap.size hT12.size I0).mono ?_
  rintro e w13 ⟨q40, q41, q42, q43, q44, q45, q46, rfl, o4, hb13⟩
  obtain ⟨RQ4, rq4, OQ4, oq4, TQ4, tq4, ⟨rfl, rfl, rfl, rfl, rfl, rfl, rfl⟩⟩ := o4.form
  have hs13 := hb13.size
  have o1 := o1.below hb13 (by omega)
  have o3 := o3.below hb13 (by omega)
  have bP0 := bP0.below hb13 bP0.lt
  have I0 := I0.below (Below.mono hb13 (by omega))
  have hT13 := below_then hT12 hb13
  clear hT12
  clear hb13
  clear yP00 yP01 yP02 yP03 yP04 yP05 yP06
  go_wp2_with fail
  refine (impl_BlockedAreas w13 w13.heap.size (Nat.le_refl _) (o4.in_ HA0.out.1 HA0.out.2.1 HA0.out.2.2 (by omega)) a1 f1 (hQ.below hT13 (Nat.le_refl _))).mono ?_
  rintro e w14 ⟨v5r, tt5, rfl, o5, ct5, hb14⟩
  obtain ⟨RV5, rv5, rfl⟩ := o5.form
  have hs14 := hb14.size
  have o1 := o1.below hb14 (by omega)
  have o3 := o3.below hb14 (by omega)
  have o4 := o4.below hb14 (by omega)
  have bP0 := bP0.below hb14 bP0.lt
  have I0 := I0.below (Below.mono hb14 (by omega))
  have hT14 := below_then hT13 hb14
  clear hT13
  clear hb14
  clear o4
  go_wp2_with fail
  refine (eqSS_any w14 w14.heap.size (Nat.le_refl _) RV5 ((arsL S0 a1)).length rv5 tt5 (o5.rdS (by omega) (by omega) (HEL.out _ ct5)) RV1 rv1 tt1 (o1.rdS (by omega) (by omega) (HEL.out _ ct1)) (by rw [ct5, ct1])).mono ?_
  rintro e w15 ⟨rfl, hb15⟩
  have hs15 := hb15.size
  have o1 := o1.below hb15 (by omega)
  have o3 := o3.below hb15 (by omega)
  have o5 := o5.below hb15 (by omega)
  have bP0 := bP0.below hb15 bP0.lt
  have I0 := I0.below (Below.mono hb15 (by omega))
  have hT15 := below_then hT14 hb15
  clear hT14
  clear hb15
  go_wp2_with fail
  refine (heldSS_own w15 _ _ RV3 ((arsL S0 a1)).length rv3 1 tt3 o3 (by omega) (by have := HTT.out _ ct3; omega) (by omega)).mono ?_
  rintro e w' ⟨he, rfl⟩
  rw [← HK2.out] at he
  subst he
  clear o3
  clear o1
  clear o5
  go_wp2_with fail
  go_ret
  exact ⟨rfl, hT15⟩
end Go.Proofs.YtocllmaikngoaaaDoor
