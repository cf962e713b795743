/-
  The law FnSegments: its walk.
-/
import Derived.Test.YtcpncoonbdbkmaaGreatSegL
import Derived.Test.YtcpncoonbdbkmaaGreatPtD0
import Derived.Test.YtcpncoonbdbkmaaGreatPtI5
import Derived.Test.YtcpncoonbdbkmaaGreatPD
import Derived.Test.YtcpncoonbdbkmaaGreatVD
import Derived.Deep.RegionHeld3
import Derived.Deep.RegionLaw
import Derived.Deep.CutRange
import Derived.Sort.AtCall
namespace Go.Proofs.YtcpncoonbdbkmaaGreat
open Go.RowKit
set_option linter.unusedVariables false
theorem segs_all {P Q R T : PQ} {l : List V2} (hp : DrawP P) (hq : DrawP Q) (hr : DrawP R) (ht : DrawP T) (hl : polyP l) :
    ∃ (M : PQ) (x y u v : Bool) (k : Int), (midP P Q = M ∧ segB P Q M R = true ∧ segB P Q R T = x ∧ segB T R Q P = x ∧ segM l P Q (scP P) = y ∧ segM l Q P (scP Q) = y ∧ segM l P M (scP P) = u ∧ segM l M Q (scP M) = v ∧ contS l (scP P) = k) ∧ ((u = true → y = true) ∧ (u = false → v = y) ∧ (0 ≤ k → y = true)) ∧ PFit M ∧ okP M ∧ SmallP M (scP M) := by
  obtain ⟨mo, mr, ms, m1, m2⟩ := draw_mid hp hq
  have hc := poly_conv hl
  have h1 := segM_iff hl hp.ok hq.ok
  have h2 := segM_iff hl hq.ok hp.ok
  have h3 := segM_iff hl hp.ok mo
  have h4 := segM_iff hl mo hq.ok
  have hv := segQ_halves hc (p := rp P) (q := rp Q)
  rw [mr] at h3 h4
  rw [← h3, ← h4, ← h1] at hv
  refine ⟨midP P Q, segB P Q R T, segM l P Q (scP P), segM l P (midP P Q) (scP P), segM l (midP P Q) Q (scP (midP P Q)), contS l (scP P), ⟨rfl, ?_, rfl, ?_, rfl, ?_, rfl, rfl, rfl⟩, ⟨?_, ?_, ?_⟩, ⟨m1.fit, m2.fit⟩, mo, ms⟩
  · rw [seg_iff hp.ok hq.ok mo hr.ok, mr]
    exact meet_mid _ _ _
  · refine bool_eq ?_
    rw [seg_iff ht.ok hr.ok hq.ok hp.ok, seg_iff hp.ok hq.ok hr.ok ht.ok]
    exact meet_rev.symm
  · refine bool_eq ?_
    rw [h1, h2]
    exact segQ_flip hc
  · exact fun h => hv.1 (.inl h)
  · intro h
    refine bool_eq ?_
    rw [← hv, h]
    simp
  · intro h
    unfold segM
    rw [decide_eq_true h]; rfl
theorem MakeSmall0 (n c B : Nat) (A : Option Addr) (w : World) (hn : n ≤ 1099511627776) (hb : Bytes w B A n) (hB : B ≤ w.heap.size) :
    Calls Tryz.prog 6 #[.slice A n c, .int .i64 0] w fun e w' => PtDrawS 3 w w' e ∧ Below w.heap.size w w' :=
  MakePoint_s n c B A 0 (by omega) w hn hb hB
theorem MakeSmall1 (n c B : Nat) (A : Option Addr) (w : World) (hn : n ≤ 1099511627776) (hb : Bytes w B A n) (hB : B ≤ w.heap.size) :
    Calls Tryz.prog 6 #[.slice A n c, .int .i64 1] w fun e w' => PtDrawS 3 w w' e ∧ Below w.heap.size w w' :=
  MakePoint_s n c B A 1 (by omega) w hn hb hB
theorem MakeSmall2 (n c B : Nat) (A : Option Addr) (w : World) (hn : n ≤ 1099511627776) (hb : Bytes w B A n) (hB : B ≤ w.heap.size) :
    Calls Tryz.prog 6 #[.slice A n c, .int .i64 2] w fun e w' => PtDrawS 3 w w' e ∧ Below w.heap.size w w' :=
  MakePoint_s n c B A 2 (by omega) w hn hb hB
theorem MakeSmall3 (n c B : Nat) (A : Option Addr) (w : World) (hn : n ≤ 1099511627776) (hb : Bytes w B A n) (hB : B ≤ w.heap.size) :
    Calls Tryz.prog 6 #[.slice A n c, .int .i64 3] w fun e w' => PtDrawS 3 w w' e ∧ Below w.heap.size w w' :=
  MakePoint_s n c B A 3 (by omega) w hn hb hB
set_option maxRecDepth 100000 in
set_option maxHeartbeats 8000000 in
theorem FnSegments_walk (w : World) (a0 : Option Addr) (len0 cap0 : Nat) (z0 : List Int) (h0 : IsRow .u8 w a0 len0 cap0 z0) :
    Calls Tryz.prog 3 #[.slice a0 len0 cap0] w fun e w' => e = .returned (.bool true) ∧ Below w.heap.size w w' := by
  obtain ⟨hby, hlm⟩ := h0.bytes
  obtain ⟨F, hL, hM⟩ := h0.bytesF
  clear h0 hM
  generalize z0.take len0 = bs at F hL
  subst hL
  unfold maxLen at hlm
  by_cases h : 1048576 < bs.length
  · clear hby F
    go_enter Tryz.func3, Tryz.ntmps3
    go_wp2_with fail
    go_ret
    exact ⟨rfl, Below.refl _ _⟩
  have hl : bs.length ≤ 1048576 := by omega
  clear h hlm
  have hT0 : Below w.heap.size w w := Below.refl _ _
  have HBY := hide hby
  have HF := hide F
  clear hby F
  go_enter Tryz.func3, Tryz.ntmps3
  go_wp2_with fail
  refine (MakeSmall0 bs.length cap0 w.heap.size a0 w (by omega) (HBY.out.below hT0) hT0.size).mono ?_
  rintro e w1 ⟨⟨P, pX, pD, pY, p0, p1, p2, p3, p4, p5, rfl, op, hpS⟩, hb1⟩
  have HpS : Hid (DrawP P) := hide ⟨pX, pD, pY, hpS⟩
  clear hpS
  obtain ⟨pb, pA, pn, pc, pD, pm, pk, pyb, pyA, pyn, pyc, pyD, pym, pyk, rfl, rfl, rfl, rfl, rfl, rfl⟩ := op.cut
  have hs1 := hb1.size
  have hT1 := below_then hT0 hb1
  clear hT0
  clear hb1
  obtain ⟨w2, hw2⟩ : ∃ xw, xw = (w1.alloc (.cells #[.bool pb, .slice pA pn pc, .slice pD pm pk, .bool pyb, .slice pyA pyn pyc, .slice pyD pym pyk] 29)) := ⟨_, rfl⟩
  have hb2 : Below w1.heap.size w1 w2 := by rw [hw2]; exact below_new _ _
  have hq2 : w2.heap.size = w1.heap.size + 1 := by rw [hw2, alloc_size]
  have kp : Box w2 (w1.heap.size) 29 #[.bool pb, .slice pA pn pc, .slice pD pm pk, .bool pyb, .slice pyA pyn pyc, .slice pyD pym pyk] := by rw [hw2]; exact Box.last _ _ _ (by omega)
  have hs2 := hb2.size
  have hT2 := below_then hT1 hb2
  have op := op.below hb2 (by omega)
  clear hT1
  go_upto_region 4 with fail
  rw [← hw2]
  clear hw2 hb2
  go_wp2_with fail
  refine (MakeSmall1 bs.length cap0 w.heap.size a0 w2 (by omega) (HBY.out.below hT2) hT2.size).mono ?_
  rintro e w3 ⟨⟨Q, qX, qD, qY, q0, q1, q2, q3, q4, q5, rfl, oq, hqS⟩, hb3⟩
  have HqS : Hid (DrawP Q) := hide ⟨qX, qD, qY, hqS⟩
  clear hqS
  obtain ⟨qb, qA, qn, qc, qD, qm, qk, qyb, qyA, qyn, qyc, qyD, qym, qyk, rfl, rfl, rfl, rfl, rfl, rfl⟩ := oq.cut
  have hs3 := hb3.size
  have hT3 := below_then hT2 hb3
  have kp := kp.below hb3 kp.lt
  have op := op.below hb3 (by omega)
  clear hT2
  clear hb3
  obtain ⟨w4, hw4⟩ : ∃ xw, xw = (w3.alloc (.cells #[.bool qb, .slice qA qn qc, .slice qD qm qk, .bool qyb, .slice qyA qyn qyc, .slice qyD qym qyk] 29)) := ⟨_, rfl⟩
  have hb4 : Below w3.heap.size w3 w4 := by rw [hw4]; exact below_new _ _
  have hq4 : w4.heap.size = w3.heap.size + 1 := by rw [hw4, alloc_size]
  have kq : Box w4 (w3.heap.size) 29 #[.bool qb, .slice qA qn qc, .slice qD qm qk, .bool qyb, .slice qyA qyn qyc, .slice qyD qym qyk] := by rw [hw4]; exact Box.last _ _ _ (by omega)
  have hs4 := hb4.size
  have hT4 := below_then hT3 hb4
  have kp := kp.below hb4 kp.lt
  have op := op.below hb4 (by omega)
  have oq := oq.below hb4 (by omega)
  clear hT3
  go_upto_region 5 with fail
  rw [← hw4]
  clear hw4 hb4
  go_wp2_with fail
  refine (MakeSmall2 bs.length cap0 w.heap.size a0 w4 (by omega) (HBY.out.below hT4) hT4.size).mono ?_
  rintro e w5 ⟨⟨R, rX, rD, rY, r0, r1, r2, r3, r4, r5, rfl, or, hrS⟩, hb5⟩
  have HrS : Hid (DrawP R) := hide ⟨rX, rD, rY, hrS⟩
  clear hrS
  obtain ⟨rb, rA, rn, rc, rD, rm, rk, ryb, ryA, ryn, ryc, ryD, rym, ryk, rfl, rfl, rfl, rfl, rfl, rfl⟩ := or.cut
  have hs5 := hb5.size
  have hT5 := below_then hT4 hb5
  have kp := kp.below hb5 kp.lt
  have kq := kq.below hb5 kq.lt
  have op := op.below hb5 (by omega)
  have oq := oq.below hb5 (by omega)
  clear hT4
  clear hb5
  obtain ⟨w6, hw6⟩ : ∃ xw, xw = (w5.alloc (.cells #[.bool rb, .slice rA rn rc, .slice rD rm rk, .bool ryb, .slice ryA ryn ryc, .slice ryD rym ryk] 29)) := ⟨_, rfl⟩
  have hb6 : Below w5.heap.size w5 w6 := by rw [hw6]; exact below_new _ _
  have hq6 : w6.heap.size = w5.heap.size + 1 := by rw [hw6, alloc_size]
  have kr : Box w6 (w5.heap.size) 29 #[.bool rb, .slice rA rn rc, .slice rD rm rk, .bool ryb, .slice ryA ryn ryc, .slice ryD rym ryk] := by rw [hw6]; exact Box.last _ _ _ (by omega)
  have hs6 := hb6.size
  have hT6 := below_then hT5 hb6
  have kp := kp.below hb6 kp.lt
  have kq := kq.below hb6 kq.lt
  have op := op.below hb6 (by omega)
  have oq := oq.below hb6 (by omega)
  have or := or.below hb6 (by omega)
  clear hT5
  go_upto_region 6 with fail
  rw [← hw6]
  clear hw6 hb6
  go_wp2_with fail
  refine (MakeSmall3 bs.length cap0 w.heap.size a0 w6 (by omega) (HBY.out.below hT6) hT6.size).mono ?_
  rintro e w7 ⟨⟨T, tX, tD, tY, t0, t1, t2, t3, t4, t5, rfl, ot, htS⟩, hb7⟩
  have HtS : Hid (DrawP T) := hide ⟨tX, tD, tY, htS⟩
  clear htS
  obtain ⟨tb, tA, tn, tc, tD, tm, tk, tyb, tyA, tyn, tyc, tyD, tym, tyk, rfl, rfl, rfl, rfl, rfl, rfl⟩ := ot.cut
  have hs7 := hb7.size
  have hT7 := below_then hT6 hb7
  have kp := kp.below hb7 kp.lt
  have kq := kq.below hb7 kq.lt
  have kr := kr.below hb7 kr.lt
  have op := op.below hb7 (by omega)
  have oq := oq.below hb7 (by omega)
  have or := or.below hb7 (by omega)
  clear hT6
  clear hb7
  obtain ⟨w8, hw8⟩ : ∃ xw, xw = (w7.alloc (.cells #[.bool tb, .slice tA tn tc, .slice tD tm tk, .bool tyb, .slice tyA tyn tyc, .slice tyD tym tyk] 29)) := ⟨_, rfl⟩
  have hb8 : Below w7.heap.size w7 w8 := by rw [hw8]; exact below_new _ _
  have hq8 : w8.heap.size = w7.heap.size + 1 := by rw [hw8, alloc_size]
  have kt : Box w8 (w7.heap.size) 29 #[.bool tb, .slice tA tn tc, .slice tD tm tk, .bool tyb, .slice tyA tyn tyc, .slice tyD tym tyk] := by rw [hw8]; exact Box.last _ _ _ (by omega)
  have hs8 := hb8.size
  have hT8 := below_then hT7 hb8
  have kp := kp.below hb8 kp.lt
  have kq := kq.below hb8 kq.lt
  have kr := kr.below hb8 kr.lt
  have op := op.below hb8 (by omega)
  have oq := oq.below hb8 (by omega)
  have or := or.below hb8 (by omega)
  have ot := ot.below hb8 (by omega)
  clear hT7
  go_upto_region 7 with fail
  rw [← hw8]
  clear hw8 hb8
  go_wp2_with fail
  refine (MakePolygon_f cap0 w.heap.size a0 bs 4 (by omega) w8 (by omega) (HF.out.below hT8) hT8.size).mono ?_
  rintro e w9 ⟨lv, rfl, oL, hb9⟩
  obtain ⟨d1, d2, d3⟩ := drawF_small bs 8 (skipF bs (newS bs) (7 * 4))
  generalize drawF bs 8 (skipF bs (newS bs) (7 * 4)) = LL at *
  obtain ⟨LA, Lc, rfl⟩ := oL.form
  have hL := oL.rdV (show LL.length ≤ 1048576 by omega) (fun v hv => (d1 v hv).wf)
  have HPL : Hid (polyP LL) := d3
  clear oL d1 d2 d3
  have hs9 := hb9.size
  have hT9 := below_then hT8 hb9
  have kp := kp.below hb9 kp.lt
  have kq := kq.below hb9 kq.lt
  have kr := kr.below hb9 kr.lt
  have kt := kt.below hb9 kt.lt
  have op := op.below hb9 (by omega)
  have oq := oq.below hb9 (by omega)
  have or := or.below hb9 (by omega)
  have ot := ot.below hb9 (by omega)
  clear hT8
  clear hb9
  obtain ⟨M, bx, by_, bu, bv, bk, ⟨e1, e2, e3, e4, e5, e6, e7, e8, e9⟩, ⟨i1, i2, i3⟩, fM, oM, sM⟩ := segs_all HpS.out HqS.out HrS.out HtS.out HPL.out
  have E1 := hide e1
  have E2 := hide e2
  have E3 := hide e3
  have E4 := hide e4
  have E5 := hide e5
  have E6 := hide e6
  have E7 := hide e7
  have E8 := hide e8
  have E9 := hide e9
  have I1 := hide i1
  have I2 := hide i2
  have I3 := hide i3
  have fP := HpS.out.fit
  have fQ := HqS.out.fit
  have fR := HrS.out.fit
  have fT := HtS.out.fit
  have OM := hide oM
  have SM := hide sM
  clear i1 i2 i3 oM sM e1 e2 e3 e4 e5 e6 e7 e8 e9
  have HMI := hide (impl_MiddleOf w9 w9.heap.size (Nat.le_refl _) (op.in_ fP (by omega)) (oq.in_ fQ (by omega)))
  rw [E1.out] at HMI
  obtain ⟨yp0, yp1, yp2, yp3, yp4, yp5⟩ := kp.cells6
  obtain ⟨yq0, yq1, yq2, yq3, yq4, yq5⟩ := kq.cells6
  go_wp2_with fail
  refine (HMI.out).mono ?_
  rintro e w10 ⟨m0, m1, m2, m3, m4, m5, rfl, om, hb10⟩
  clear yp0 yp1 yp2 yp3 yp4 yp5 yq0 yq1 yq2 yq3 yq4 yq5
  obtain ⟨mb, mA, mn, mc, mD, mm, mk, myb, myA, myn, myc, myD, mym, myk, rfl, rfl, rfl, rfl, rfl, rfl⟩ := om.cut
  have hs10 := hb10.size
  have hT10 := below_then hT9 hb10
  have kp := kp.below hb10 kp.lt
  have kq := kq.below hb10 kq.lt
  have kr := kr.below hb10 kr.lt
  have kt := kt.below hb10 kt.lt
  have hL := hL.below (hb10.mono (by omega))
  have op := op.below hb10 (by omega)
  have oq := oq.below hb10 (by omega)
  have or := or.below hb10 (by omega)
  have ot := ot.below hb10 (by omega)
  clear hT9
  clear hb10
  clear HMI
  obtain ⟨w11, hw11⟩ : ∃ xw, xw = (w10.alloc (.cells #[.bool mb, .slice mA mn mc, .slice mD mm mk, .bool myb, .slice myA myn myc, .slice myD mym myk] 29)) := ⟨_, rfl⟩
  have hb11 : Below w10.heap.size w10 w11 := by rw [hw11]; exact below_new _ _
  have hq11 : w11.heap.size = w10.heap.size + 1 := by rw [hw11, alloc_size]
  have km : Box w11 (w10.heap.size) 29 #[.bool mb, .slice mA mn mc, .slice mD mm mk, .bool myb, .slice myA myn myc, .slice myD mym myk] := by rw [hw11]; exact Box.last _ _ _ (by omega)
  have hs11 := hb11.size
  have hT11 := below_then hT10 hb11
  have kp := kp.below hb11 kp.lt
  have kq := kq.below hb11 kq.lt
  have kr := kr.below hb11 kr.lt
  have kt := kt.below hb11 kt.lt
  have hL := hL.below (hb11.mono (by omega))
  have op := op.below hb11 (by omega)
  have oq := oq.below hb11 (by omega)
  have or := or.below hb11 (by omega)
  have ot := ot.below hb11 (by omega)
  have om := om.below hb11 (by omega)
  clear hT10
  go_upto_region 9 with fail
  rw [← hw11]
  clear hw11 hb11
  have HQp := hide (fun (W : World) (h : Below w11.heap.size w11 W) => ((op.in_ fP (show _ ≤ w11.heap.size by omega)).below h).wider h.size)
  have HQq := hide (fun (W : World) (h : Below w11.heap.size w11 W) => ((oq.in_ fQ (show _ ≤ w11.heap.size by omega)).below h).wider h.size)
  have HQr := hide (fun (W : World) (h : Below w11.heap.size w11 W) => ((or.in_ fR (show _ ≤ w11.heap.size by omega)).below h).wider h.size)
  have HQt := hide (fun (W : World) (h : Below w11.heap.size w11 W) => ((ot.in_ fT (show _ ≤ w11.heap.size by omega)).below h).wider h.size)
  have HQm := hide (fun (W : World) (h : Below w11.heap.size w11 W) => ((om.in_ fM (show _ ≤ w11.heap.size by omega)).below h).wider h.size)
  have HR := hide (fun (W : World) (h : Below w11.heap.size w11 W) => (hL.below (h.mono (by omega))).wider (show _ ≤ W.heap.size by have := h.size; omega))
  have HBp := hide kp
  have HBq := hide kq
  have HBr := hide kr
  have HBt := hide kt
  have HBm := hide km
  have HC1 := hide (fun (W : World) (h : Below w11.heap.size w11 W) => impl_SegmentsMeet W W.heap.size (Nat.le_refl _) (HQp.out _ h) (HQq.out _ h) (HQm.out _ h) (HQr.out _ h))
  rw [E2.out] at HC1
  have HC2 := hide (fun (W : World) (h : Below w11.heap.size w11 W) => impl_SegmentsMeet W W.heap.size (Nat.le_refl _) (HQp.out _ h) (HQq.out _ h) (HQr.out _ h) (HQt.out _ h))
  rw [E3.out] at HC2
  have HC3 := hide (fun (W : World) (h : Below w11.heap.size w11 W) => impl_SegmentsMeet W W.heap.size (Nat.le_refl _) (HQt.out _ h) (HQr.out _ h) (HQq.out _ h) (HQp.out _ h))
  rw [E4.out] at HC3
  have HC4 := hide (fun (W : World) (h : Below w11.heap.size w11 W) => impl_SegmentMeets W W.heap.size (Nat.le_refl _) LA LL.length Lc LL (HR.out _ h) HPL.out (HQp.out _ h) (HQq.out _ h) HpS.out.small HqS.out.ok)
  rw [E5.out] at HC4
  have HC5 := hide (fun (W : World) (h : Below w11.heap.size w11 W) => impl_SegmentMeets W W.heap.size (Nat.le_refl _) LA LL.length Lc LL (HR.out _ h) HPL.out (HQq.out _ h) (HQp.out _ h) HqS.out.small HpS.out.ok)
  rw [E6.out] at HC5
  have HC6 := hide (fun (W : World) (h : Below w11.heap.size w11 W) => impl_SegmentMeets W W.heap.size (Nat.le_refl _) LA LL.length Lc LL (HR.out _ h) HPL.out (HQp.out _ h) (HQm.out _ h) HpS.out.small OM.out)
  rw [E7.out] at HC6
  have HC7 := hide (fun (W : World) (h : Below w11.heap.size w11 W) => impl_SegmentMeets W W.heap.size (Nat.le_refl _) LA LL.length Lc LL (HR.out _ h) HPL.out (HQm.out _ h) (HQq.out _ h) SM.out HqS.out.ok)
  rw [E8.out] at HC7
  have HC8 := hide (fun (W : World) (h : Below w11.heap.size w11 W) => contains_small W W.heap.size (Nat.le_refl _) LA LL.length Lc LL (HR.out _ h) (HQp.out _ h) HpS.out.small)
  rw [E9.out] at HC8
  have HS0 : Hid (Below w11.heap.size w11 w11.drew) := (Below.refl _ _).drew
  have HKS := hide (fun (W : World) (hq : Below w11.heap.size w11 W) => (⟨(HBp.out.below hq HBp.out.lt).cell 0, (HBp.out.below hq HBp.out.lt).cell 1, (HBp.out.below hq HBp.out.lt).cell 2, (HBp.out.below hq HBp.out.lt).cell 3, (HBp.out.below hq HBp.out.lt).cell 4, (HBp.out.below hq HBp.out.lt).cell 5, (HBq.out.below hq HBq.out.lt).cell 0, (HBq.out.below hq HBq.out.lt).cell 1, (HBq.out.below hq HBq.out.lt).cell 2, (HBq.out.below hq HBq.out.lt).cell 3, (HBq.out.below hq HBq.out.lt).cell 4, (HBq.out.below hq HBq.out.lt).cell 5, (HBr.out.below hq HBr.out.lt).cell 0, (HBr.out.below hq HBr.out.lt).cell 1, (HBr.out.below hq HBr.out.lt).cell 2, (HBr.out.below hq HBr.out.lt).cell 3, (HBr.out.below hq HBr.out.lt).cell 4, (HBr.out.below hq HBr.out.lt).cell 5, (HBt.out.below hq HBt.out.lt).cell 0, (HBt.out.below hq HBt.out.lt).cell 1, (HBt.out.below hq HBt.out.lt).cell 2, (HBt.out.below hq HBt.out.lt).cell 3, (HBt.out.below hq HBt.out.lt).cell 4, (HBt.out.below hq HBt.out.lt).cell 5, (HBm.out.below hq HBm.out.lt).cell 0, (HBm.out.below hq HBm.out.lt).cell 1, (HBm.out.below hq HBm.out.lt).cell 2, (HBm.out.below hq HBm.out.lt).cell 3, (HBm.out.below hq HBm.out.lt).cell 4, (HBm.out.below hq HBm.out.lt).cell 5⟩ : W.cell? ⟨w1.heap.size, 0, none⟩ = some (.bool pb) ∧ W.cell? ⟨w1.heap.size, 1, none⟩ = some (.slice pA pn pc) ∧ W.cell? ⟨w1.heap.size, 2, none⟩ = some (.slice pD pm pk) ∧ W.cell? ⟨w1.heap.size, 3, none⟩ = some (.bool pyb) ∧ W.cell? ⟨w1.heap.size, 4, none⟩ = some (.slice pyA pyn pyc) ∧ W.cell? ⟨w1.heap.size, 5, none⟩ = some (.slice pyD pym pyk) ∧ W.cell? ⟨w3.heap.size, 0, none⟩ = some (.bool qb) ∧ W.cell? ⟨w3.heap.size, 1, none⟩ = some (.slice qA qn qc) ∧ W.cell? ⟨w3.heap.size, 2, none⟩ = some (.slice qD qm qk) ∧ W.cell? ⟨w3.heap.size, 3, none⟩ = some (.bool qyb) ∧ W.cell? ⟨w3.heap.size, 4, none⟩ = some (.slice qyA qyn qyc) ∧ W.cell? ⟨w3.heap.size, 5, none⟩ = some (.slice qyD qym qyk) ∧ W.cell? ⟨w5.heap.size, 0, none⟩ = some (.bool rb) ∧ W.cell? ⟨w5.heap.size, 1, none⟩ = some (.slice rA rn rc) ∧ W.cell? ⟨w5.heap.size, 2, none⟩ = some (.slice rD rm rk) ∧ W.cell? ⟨w5.heap.size, 3, none⟩ = some (.bool ryb) ∧ W.cell? ⟨w5.heap.size, 4, none⟩ = some (.slice ryA ryn ryc) ∧ W.cell? ⟨w5.heap.size, 5, none⟩ = some (.slice ryD rym ryk) ∧ W.cell? ⟨w7.heap.size, 0, none⟩ = some (.bool tb) ∧ W.cell? ⟨w7.heap.size, 1, none⟩ = some (.slice tA tn tc) ∧ W.cell? ⟨w7.heap.size, 2, none⟩ = some (.slice tD tm tk) ∧ W.cell? ⟨w7.heap.size, 3, none⟩ = some (.bool tyb) ∧ W.cell? ⟨w7.heap.size, 4, none⟩ = some (.slice tyA tyn tyc) ∧ W.cell? ⟨w7.heap.size, 5, none⟩ = some (.slice tyD tym tyk) ∧ W.cell? ⟨w10.heap.size, 0, none⟩ = some (.bool mb) ∧ W.cell? ⟨w10.heap.size, 1, none⟩ = some (.slice mA mn mc) ∧ W.cell? ⟨w10.heap.size, 2, none⟩ = some (.slice mD mm mk) ∧ W.cell? ⟨w10.heap.size, 3, none⟩ = some (.bool myb) ∧ W.cell? ⟨w10.heap.size, 4, none⟩ = some (.slice myA myn myc) ∧ W.cell? ⟨w10.heap.size, 5, none⟩ = some (.slice myD mym myk)))
  have HTT := hide hT11
  have i1 := I1.out
  have i2 := I2.out
  have i3 := I3.out
  clear HBp kp HQp op HBq kq HQq oq HBr kr HQr or HBt kt HQt ot HBm km HQm om HR hL E1 E2 E3 E4 E5 E6 E7 E8 E9 OM SM HpS HqS HrS HtS fP fQ fR fT fM HPL HBY HF I1 I2 I3 hT11
  by_cases hu : bu = true
  · rw [hu] at HC6
    rw [i1 hu] at HC4 HC5
    by_cases hk : bk < 0
    · have hd : decide (bk < 0) = true := decide_eq_true hk
      have hk' : (bk < 0) = True := eq_true hk
      refine wp_region_held_drew (S := (fun w' => w'.cell? ⟨w1.heap.size, 0, none⟩ = some (.bool pb) ∧ w'.cell? ⟨w1.heap.size, 1, none⟩ = some (.slice pA pn pc) ∧ w'.cell? ⟨w1.heap.size, 2, none⟩ = some (.slice pD pm pk) ∧ w'.cell? ⟨w1.heap.size, 3, none⟩ = some (.bool pyb) ∧ w'.cell? ⟨w1.heap.size, 4, none⟩ = some (.slice pyA pyn pyc) ∧ w'.cell? ⟨w1.heap.size, 5, none⟩ = some (.slice pyD pym pyk) ∧ w'.cell? ⟨w3.heap.size, 0, none⟩ = some (.bool qb) ∧ w'.cell? ⟨w3.heap.size, 1, none⟩ = some (.slice qA qn qc) ∧ w'.cell? ⟨w3.heap.size, 2, none⟩ = some (.slice qD qm qk) ∧ w'.cell? ⟨w3.heap.size, 3, none⟩ = some (.bool qyb) ∧ w'.cell? ⟨w3.heap.size, 4, none⟩ = some (.slice qyA qyn qyc) ∧ w'.cell? ⟨w3.heap.size, 5, none⟩ = some (.slice qyD qym qyk) ∧ w'.cell? ⟨w5.heap.size, 0, none⟩ = some (.bool rb) ∧ w'.cell? ⟨w5.heap.size, 1, none⟩ = some (.slice rA rn rc) ∧ w'.cell? ⟨w5.heap.size, 2, none⟩ = some (.slice rD rm rk) ∧ w'.cell? ⟨w5.heap.size, 3, none⟩ = some (.bool ryb) ∧ w'.cell? ⟨w5.heap.size, 4, none⟩ = some (.slice ryA ryn ryc) ∧ w'.cell? ⟨w5.heap.size, 5, none⟩ = some (.slice ryD rym ryk) ∧ w'.cell? ⟨w7.heap.size, 0, none⟩ = some (.bool tb) ∧ w'.cell? ⟨w7.heap.size, 1, none⟩ = some (.slice tA tn tc) ∧ w'.cell? ⟨w7.heap.size, 2, none⟩ = some (.slice tD tm tk) ∧ w'.cell? ⟨w7.heap.size, 3, none⟩ = some (.bool tyb) ∧ w'.cell? ⟨w7.heap.size, 4, none⟩ = some (.slice tyA tyn tyc) ∧ w'.cell? ⟨w7.heap.size, 5, none⟩ = some (.slice tyD tym tyk) ∧ w'.cell? ⟨w10.heap.size, 0, none⟩ = some (.bool mb) ∧ w'.cell? ⟨w10.heap.size, 1, none⟩ = some (.slice mA mn mc) ∧ w'.cell? ⟨w10.heap.size, 2, none⟩ = some (.slice mD mm mk) ∧ w'.cell? ⟨w10.heap.size, 3, none⟩ = some (.bool myb) ∧ w'.cell? ⟨w10.heap.size, 4, none⟩ = some (.slice myA myn myc) ∧ w'.cell? ⟨w10.heap.size, 5, none⟩ = some (.slice myD mym myk))) (by kernel_rfl) (HKS.out _ HS0.out) (fun hHeld => ?_)
      show wpAnyH _ _ _ _ _ 59 _ _ _
      refine takeTQ (i := 0) (t := 25) (v := ?_) rfl (by kernel_rfl) (by kernel_rfl) (by kernel_rfl) (fun _ _ _ h => h) rfl (by rfl) ?_ hHeld ?_
      rotate_left 1
      · intro w hSw; (try dsimp only at hSw); go_simp; with_reducible rfl
      simp only [List.setIfInBounds_toArray, List.set_cons_zero, List.set_cons_succ]
      refine takeTQ (i := 1) (t := 26) (v := ?_) rfl (by kernel_rfl) (by kernel_rfl) (by kernel_rfl) (fun _ _ _ h => h) rfl (by rfl) ?_ hHeld ?_
      rotate_left 1
      · intro w hSw; (try dsimp only at hSw); go_simp; with_reducible rfl
      simp only [List.setIfInBounds_toArray, List.set_cons_zero, List.set_cons_succ]
      refine takeTQ (i := 2) (t := 27) (v := ?_) rfl (by kernel_rfl) (by kernel_rfl) (by kernel_rfl) (fun _ _ _ h => h) rfl (by rfl) ?_ hHeld ?_
      rotate_left 1
      · intro w hSw; (try dsimp only at hSw); go_simp; with_reducible rfl
      simp only [List.setIfInBounds_toArray, List.set_cons_zero, List.set_cons_succ]
      refine takeTQ (i := 3) (t := 28) (v := ?_) rfl (by kernel_rfl) (by kernel_rfl) (by kernel_rfl) (fun _ _ _ h => h) rfl (by rfl) ?_ hHeld ?_
      rotate_left 1
      · intro w hSw; (try dsimp only at hSw); go_simp; with_reducible rfl
      simp only [List.setIfInBounds_toArray, List.set_cons_zero, List.set_cons_succ]
      refine wpAnyH_ready (rs := [4]) (by kernel_rfl) (by simp) ?_
      refine AllReadyH.cons rfl (fun K hK => ?_) AllReadyH.nil
      simp only [List.getElem_toArray, List.getElem_cons_succ, List.getElem_cons_zero]
      go_simp
      (have HX := HS0.out; (with_reducible refine Calls.mono (HC1.out _ HX) ?_); rintro e u1 ⟨rfl, hb1⟩; have HS1 := hide (below_then HX hb1); clear HX)
      go_wp2_with fail
      refine hK.out _ _ (HKS.out _ HS1.out) (fun hHeld => ?_)
      clear hK K
      refine takeTQ (i := 5) (t := 30) (v := ?_) rfl (by kernel_rfl) (by kernel_rfl) (by kernel_rfl) (fun _ _ _ h => h) rfl (by rfl) ?_ hHeld ?_
      rotate_left 1
      · intro w hSw; (try dsimp only at hSw); go_simp; with_reducible rfl
      simp only [List.setIfInBounds_toArray, List.set_cons_zero, List.set_cons_succ]
      refine takeTQ (i := 6) (t := 31) (v := ?_) rfl (by kernel_rfl) (by kernel_rfl) (by kernel_rfl) (fun _ _ _ h => h) rfl (by rfl) ?_ hHeld ?_
      rotate_left 1
      · intro w hSw; (try dsimp only at hSw); go_simp; with_reducible rfl
      simp only [List.setIfInBounds_toArray, List.set_cons_zero, List.set_cons_succ]
      refine takeTQ (i := 7) (t := 32) (v := ?_) rfl (by kernel_rfl) (by kernel_rfl) (by kernel_rfl) (fun _ _ _ h => h) rfl (by rfl) ?_ hHeld ?_
      rotate_left 1
      · intro w hSw; (try dsimp only at hSw); go_simp; with_reducible rfl
      simp only [List.setIfInBounds_toArray, List.set_cons_zero, List.set_cons_succ]
      refine takeTQ (i := 8) (t := 33) (v := ?_) rfl (by kernel_rfl) (by kernel_rfl) (by kernel_rfl) (fun _ _ _ h => h) rfl (by rfl) ?_ hHeld ?_
      rotate_left 1
      · intro w hSw; (try dsimp only at hSw); go_simp; with_reducible rfl
      simp only [List.setIfInBounds_toArray, List.set_cons_zero, List.set_cons_succ]
      refine takeTQ (i := 9) (t := 34) (v := ?_) rfl (by kernel_rfl) (by kernel_rfl) (by kernel_rfl) (fun _ _ _ h => h) rfl (by rfl) ?_ hHeld ?_
      rotate_left 1
      · intro w hSw; (try dsimp only at hSw); go_simp; with_reducible rfl
      simp only [List.setIfInBounds_toArray, List.set_cons_zero, List.set_cons_succ]
      refine takeTQ (i := 11) (t := 36) (v := ?_) rfl (by kernel_rfl) (by kernel_rfl) (by kernel_rfl) (fun _ _ _ h => h) rfl (by rfl) ?_ hHeld ?_
      rotate_left 1
      · intro w hSw; (try dsimp only at hSw); go_simp; with_reducible rfl
      simp only [List.setIfInBounds_toArray, List.set_cons_zero, List.set_cons_succ]
      refine takeTQ (i := 12) (t := 37) (v := ?_) rfl (by kernel_rfl) (by kernel_rfl) (by kernel_rfl) (fun _ _ _ h => h) rfl (by rfl) ?_ hHeld ?_
      rotate_left 1
      · intro w hSw; (try dsimp only at hSw); go_simp; with_reducible rfl
      simp only [List.setIfInBounds_toArray, List.set_cons_zero, List.set_cons_succ]
      refine takeTQ (i := 13) (t := 38) (v := ?_) rfl (by kernel_rfl) (by kernel_rfl) (by kernel_rfl) (fun _ _ _ h => h) rfl (by rfl) ?_ hHeld ?_
      rotate_left 1
      · intro w hSw; (try dsimp only at hSw); go_simp; with_reducible rfl
      simp only [List.setIfInBounds_toArray, List.set_cons_zero, List.set_cons_succ]
      refine takeTQ (i := 14) (t := 39) (v := ?_) rfl (by kernel_rfl) (by kernel_rfl) (by kernel_rfl) (fun _ _ _ h => h) rfl (by rfl) ?_ hHeld ?_
      rotate_left 1
      · intro w hSw; (try dsimp only at hSw); go_simp; with_reducible rfl
      simp only [List.setIfInBounds_toArray, List.set_cons_zero, List.set_cons_succ]
      refine wpAnyH_ready (rs := [10]) (by kernel_rfl) (by simp) ?_
      refine AllReadyH.cons rfl (fun K hK => ?_) AllReadyH.nil
      simp only [List.getElem_toArray, List.getElem_cons_succ, List.getElem_cons_zero]
      go_simp
      (have HX := HS1.out; (with_reducible refine Calls.mono (HC2.out _ HX) ?_); rintro e u2 ⟨rfl, hb2⟩; have HS2 := hide (below_then HX hb2); clear HX)
      go_wp2_with fail
      refine hK.out _ _ (HKS.out _ HS2.out) (fun hHeld => ?_)
      clear hK K
      refine wpAnyH_ready (rs := [15]) (by kernel_rfl) (by simp) ?_
      refine AllReadyH.cons rfl (fun K hK => ?_) AllReadyH.nil
      simp only [List.getElem_toArray, List.getElem_cons_succ, List.getElem_cons_zero]
      go_simp
      (have HX := HS2.out; (with_reducible refine Calls.mono (HC3.out _ HX) ?_); rintro e u3 ⟨rfl, hb3⟩; have HS3 := hide (below_then HX hb3); clear HX)
      go_wp2_with fail
      refine hK.out _ _ (HKS.out _ HS3.out) (fun hHeld => ?_)
      clear hK K
      refine takeTQ (i := 16) (t := 41) (v := ?_) rfl (by kernel_rfl) (by kernel_rfl) (by kernel_rfl) (fun _ _ _ h => h) rfl (by rfl) ?_ hHeld ?_
      rotate_left 1
      · intro w hSw; (try dsimp only at hSw); go_simp; with_reducible rfl
      simp only [List.setIfInBounds_toArray, List.set_cons_zero, List.set_cons_succ]
      refine takeTQ (i := 17) (t := 42) (v := ?_) rfl (by kernel_rfl) (by kernel_rfl) (by kernel_rfl) (fun _ _ _ h => h) rfl (by rfl) ?_ hHeld ?_
      rotate_left 1
      · intro w hSw; (try dsimp only at hSw); go_simp; with_reducible rfl
      simp only [List.setIfInBounds_toArray, List.set_cons_zero, List.set_cons_succ]
      refine takeTQ (i := 18) (t := 43) (v := ?_) rfl (by kernel_rfl) (by kernel_rfl) (by kernel_rfl) (fun _ _ _ h => h) rfl (by rfl) ?_ hHeld ?_
      rotate_left 1
      · intro w hSw; (try dsimp only at hSw); go_simp; with_reducible rfl
      simp only [List.setIfInBounds_toArray, List.set_cons_zero, List.set_cons_succ]
      refine takeTQ (i := 19) (t := 44) (v := ?_) rfl (by kernel_rfl) (by kernel_rfl) (by kernel_rfl) (fun _ _ _ h => h) rfl (by rfl) ?_ hHeld ?_
      rotate_left 1
      · intro w hSw; (try dsimp only at hSw); go_simp; with_reducible rfl
      simp only [List.setIfInBounds_toArray, List.set_cons_zero, List.set_cons_succ]
      refine takeTQ (i := 20) (t := 45) (v := ?_) rfl (by kernel_rfl) (by kernel_rfl) (by kernel_rfl) (fun _ _ _ h => h) rfl (by rfl) ?_ hHeld ?_
      rotate_left 1
      · intro w hSw; (try dsimp only at hSw); go_simp; with_reducible rfl
      simp only [List.setIfInBounds_toArray, List.set_cons_zero, List.set_cons_succ]
      refine takeTQ (i := 21) (t := 46) (v := ?_) rfl (by kernel_rfl) (by kernel_rfl) (by kernel_rfl) (fun _ _ _ h => h) rfl (by rfl) ?_ hHeld ?_
      rotate_left 1
      · intro w hSw; (try dsimp only at hSw); go_simp; with_reducible rfl
      simp only [List.setIfInBounds_toArray, List.set_cons_zero, List.set_cons_succ]
      refine takeTQ (i := 23) (t := 48) (v := ?_) rfl (by kernel_rfl) (by kernel_rfl) (by kernel_rfl) (fun _ _ _ h => h) rfl (by rfl) ?_ hHeld ?_
      rotate_left 1
      · intro w hSw; (try dsimp only at hSw); go_simp; with_reducible rfl
      simp only [List.setIfInBounds_toArray, List.set_cons_zero, List.set_cons_succ]
      refine takeTQ (i := 24) (t := 49) (v := ?_) rfl (by kernel_rfl) (by kernel_rfl) (by kernel_rfl) (fun _ _ _ h => h) rfl (by rfl) ?_ hHeld ?_
      rotate_left 1
      · intro w hSw; (try dsimp only at hSw); go_simp; with_reducible rfl
      simp only [List.setIfInBounds_toArray, List.set_cons_zero, List.set_cons_succ]
      refine takeTQ (i := 25) (t := 50) (v := ?_) rfl (by kernel_rfl) (by kernel_rfl) (by kernel_rfl) (fun _ _ _ h => h) rfl (by rfl) ?_ hHeld ?_
      rotate_left 1
      · intro w hSw; (try dsimp only at hSw); go_simp; with_reducible rfl
      simp only [List.setIfInBounds_toArray, List.set_cons_zero, List.set_cons_succ]
      refine wpAnyH_ready (rs := [22]) (by kernel_rfl) (by simp) ?_
      refine AllReadyH.cons rfl (fun K hK => ?_) AllReadyH.nil
      simp only [List.getElem_toArray, List.getElem_cons_succ, List.getElem_cons_zero]
      go_simp
      (have HX := HS3.out; (with_reducible refine Calls.mono (HC4.out _ HX) ?_); rintro e u4 ⟨rfl, hb4⟩; have HS4 := hide (below_then HX hb4); clear HX)
      go_wp2_with fail
      refine hK.out _ _ (HKS.out _ HS4.out) (fun hHeld => ?_)
      clear hK K
      refine wpAnyH_ready (rs := [26]) (by kernel_rfl) (by simp) ?_
      refine AllReadyH.cons rfl (fun K hK => ?_) AllReadyH.nil
      simp only [List.getElem_toArray, List.getElem_cons_succ, List.getElem_cons_zero]
      go_simp
      (have HX := HS4.out; (with_reducible refine Calls.mono (HC5.out _ HX) ?_); rintro e u5 ⟨rfl, hb5⟩; have HS5 := hide (below_then HX hb5); clear HX)
      go_wp2_with fail
      refine hK.out _ _ (HKS.out _ HS5.out) (fun hHeld => ?_)
      clear hK K
      refine takeTQ (i := 27) (t := 52) (v := ?_) rfl (by kernel_rfl) (by kernel_rfl) (by kernel_rfl) (fun _ _ _ h => h) rfl (by rfl) ?_ hHeld ?_
      rotate_left 1
      · intro w hSw; (try dsimp only at hSw); go_simp; with_reducible rfl
      simp only [List.setIfInBounds_toArray, List.set_cons_zero, List.set_cons_succ]
      refine takeTQ (i := 28) (t := 53) (v := ?_) rfl (by kernel_rfl) (by kernel_rfl) (by kernel_rfl) (fun _ _ _ h => h) rfl (by rfl) ?_ hHeld ?_
      rotate_left 1
      · intro w hSw; (try dsimp only at hSw); go_simp; with_reducible rfl
      simp only [List.setIfInBounds_toArray, List.set_cons_zero, List.set_cons_succ]
      refine takeTQ (i := 29) (t := 54) (v := ?_) rfl (by kernel_rfl) (by kernel_rfl) (by kernel_rfl) (fun _ _ _ h => h) rfl (by rfl) ?_ hHeld ?_
      rotate_left 1
      · intro w hSw; (try dsimp only at hSw); go_simp; with_reducible rfl
      simp only [List.setIfInBounds_toArray, List.set_cons_zero, List.set_cons_succ]
      refine takeTQ (i := 30) (t := 55) (v := ?_) rfl (by kernel_rfl) (by kernel_rfl) (by kernel_rfl) (fun _ _ _ h => h) rfl (by rfl) ?_ hHeld ?_
      rotate_left 1
      · intro w hSw; (try dsimp only at hSw); go_simp; with_reducible rfl
      simp only [List.setIfInBounds_toArray, List.set_cons_zero, List.set_cons_succ]
      refine takeTQ (i := 31) (t := 56) (v := ?_) rfl (by kernel_rfl) (by kernel_rfl) (by kernel_rfl) (fun _ _ _ h => h) rfl (by rfl) ?_ hHeld ?_
      rotate_left 1
      · intro w hSw; (try dsimp only at hSw); go_simp; with_reducible rfl
      simp only [List.setIfInBounds_toArray, List.set_cons_zero, List.set_cons_succ]
      refine takeTQ (i := 32) (t := 57) (v := ?_) rfl (by kernel_rfl) (by kernel_rfl) (by kernel_rfl) (fun _ _ _ h => h) rfl (by rfl) ?_ hHeld ?_
      rotate_left 1
      · intro w hSw; (try dsimp only at hSw); go_simp; with_reducible rfl
      simp only [List.setIfInBounds_toArray, List.set_cons_zero, List.set_cons_succ]
      refine takeTQ (i := 40) (t := 65) (v := ?_) rfl (by kernel_rfl) (by kernel_rfl) (by kernel_rfl) (fun _ _ _ h => h) rfl (by rfl) ?_ hHeld ?_
      rotate_left 1
      · intro w hSw; (try dsimp only at hSw); go_simp; with_reducible rfl
      simp only [List.setIfInBounds_toArray, List.set_cons_zero, List.set_cons_succ]
      refine takeTQ (i := 41) (t := 66) (v := ?_) rfl (by kernel_rfl) (by kernel_rfl) (by kernel_rfl) (fun _ _ _ h => h) rfl (by rfl) ?_ hHeld ?_
      rotate_left 1
      · intro w hSw; (try dsimp only at hSw); go_simp; with_reducible rfl
      simp only [List.setIfInBounds_toArray, List.set_cons_zero, List.set_cons_succ]
      refine takeTQ (i := 42) (t := 67) (v := ?_) rfl (by kernel_rfl) (by kernel_rfl) (by kernel_rfl) (fun _ _ _ h => h) rfl (by rfl) ?_ hHeld ?_
      rotate_left 1
      · intro w hSw; (try dsimp only at hSw); go_simp; with_reducible rfl
      simp only [List.setIfInBounds_toArray, List.set_cons_zero, List.set_cons_succ]
      refine wpAnyH_ready (rs := [33]) (by kernel_rfl) (by simp) ?_
      refine AllReadyH.cons rfl (fun K hK => ?_) AllReadyH.nil
      simp only [List.getElem_toArray, List.getElem_cons_succ, List.getElem_cons_zero]
      go_simp
      (have HX := HS5.out; (with_reducible refine Calls.mono (HC6.out _ HX) ?_); rintro e u6 ⟨rfl, hb6⟩; have HS6 := hide (below_then HX hb6); clear HX)
      go_wp2_with fail
      refine hK.out _ _ (HKS.out _ HS6.out) (fun hHeld => ?_)
      clear hK K
      refine takeTQ (i := 34) (t := 59) (v := ?_) rfl (by kernel_rfl) (by kernel_rfl) (by kernel_rfl) (fun _ _ _ h => h) rfl (by rfl) ?_ hHeld ?_
      rotate_left 1
      · intro w hSw; (try dsimp only at hSw); go_simp; with_reducible rfl
      simp only [List.setIfInBounds_toArray, List.set_cons_zero, List.set_cons_succ]
      refine skipTQ (i := 35) (t := 60) rfl (by kernel_rfl) (by kernel_rfl) (by kernel_rfl) (fun _ _ _ h => h) rfl (by rfl) hHeld ?_
      simp only [List.setIfInBounds_toArray, List.set_cons_zero, List.set_cons_succ]
      refine skipTQ (i := 36) (t := 61) rfl (by kernel_rfl) (by kernel_rfl) (by kernel_rfl) (fun _ _ _ h => h) rfl (by rfl) hHeld ?_
      simp only [List.setIfInBounds_toArray, List.set_cons_zero, List.set_cons_succ]
      refine skipTQ (i := 37) (t := 62) rfl (by kernel_rfl) (by kernel_rfl) (by kernel_rfl) (fun _ _ _ h => h) rfl (by rfl) hHeld ?_
      simp only [List.setIfInBounds_toArray, List.set_cons_zero, List.set_cons_succ]
      refine skipCQ (i := 38) (t := 63) (by kernel_rfl) rfl rfl (by rfl) hHeld ?_
      simp only [List.setIfInBounds_toArray, List.set_cons_zero, List.set_cons_succ]
      refine takeTQ (i := 39) (t := 64) (v := ?_) rfl (by kernel_rfl) (by kernel_rfl) (by kernel_rfl) (fun _ _ _ h => h) rfl (by rfl) ?_ hHeld ?_
      rotate_left 1
      · intro w hSw; (try dsimp only at hSw); go_simp; with_reducible rfl
      simp only [List.setIfInBounds_toArray, List.set_cons_zero, List.set_cons_succ]
      refine wpAnyH_ready (rs := [43]) (by kernel_rfl) (by simp) ?_
      refine AllReadyH.cons rfl (fun K hK => ?_) AllReadyH.nil
      simp only [List.getElem_toArray, List.getElem_cons_succ, List.getElem_cons_zero]
      go_simp
      (have HX := HS6.out; (with_reducible refine Calls.mono (HC4.out _ HX) ?_); rintro e u7 ⟨rfl, hb7⟩; have HS7 := hide (below_then HX hb7); clear HX)
      go_wp2_with fail
      refine hK.out _ _ (HKS.out _ HS7.out) (fun hHeld => ?_)
      clear hK K
      refine takeTQ (i := 44) (t := 69) (v := ?_) rfl (by kernel_rfl) (by kernel_rfl) (by kernel_rfl) (fun _ _ _ h => h) rfl (by rfl) ?_ hHeld ?_
      rotate_left 1
      · intro w hSw; (try dsimp only at hSw); go_simp; with_reducible rfl
      simp only [List.setIfInBounds_toArray, List.set_cons_zero, List.set_cons_succ]
      refine takeTQ (i := 45) (t := 70) (v := ?_) rfl (by kernel_rfl) (by kernel_rfl) (by kernel_rfl) (fun _ _ _ h => h) rfl (by rfl) ?_ hHeld ?_
      rotate_left 1
      · intro w hSw; (try dsimp only at hSw); go_simp; with_reducible rfl
      simp only [List.setIfInBounds_toArray, List.set_cons_zero, List.set_cons_succ]
      refine takeTQ (i := 46) (t := 71) (v := ?_) rfl (by kernel_rfl) (by kernel_rfl) (by kernel_rfl) (fun _ _ _ h => h) rfl (by rfl) ?_ hHeld ?_
      rotate_left 1
      · intro w hSw; (try dsimp only at hSw); go_simp; with_reducible rfl
      simp only [List.setIfInBounds_toArray, List.set_cons_zero, List.set_cons_succ]
      refine takeTQ (i := 47) (t := 72) (v := ?_) rfl (by kernel_rfl) (by kernel_rfl) (by kernel_rfl) (fun _ _ _ h => h) rfl (by rfl) ?_ hHeld ?_
      rotate_left 1
      · intro w hSw; (try dsimp only at hSw); go_simp; with_reducible rfl
      simp only [List.setIfInBounds_toArray, List.set_cons_zero, List.set_cons_succ]
      refine takeTQ (i := 48) (t := 73) (v := ?_) rfl (by kernel_rfl) (by kernel_rfl) (by kernel_rfl) (fun _ _ _ h => h) rfl (by rfl) ?_ hHeld ?_
      rotate_left 1
      · intro w hSw; (try dsimp only at hSw); go_simp; with_reducible rfl
      simp only [List.setIfInBounds_toArray, List.set_cons_zero, List.set_cons_succ]
      refine wpAnyH_ready (rs := [49]) (by kernel_rfl) (by simp) ?_
      refine AllReadyH.cons rfl (fun K hK => ?_) AllReadyH.nil
      simp only [List.getElem_toArray, List.getElem_cons_succ, List.getElem_cons_zero]
      go_simp
      (have HX := HS7.out; (with_reducible refine Calls.mono (HC8.out _ HX) ?_); rintro e u8 ⟨rfl, hb8⟩; have HS8 := hide (below_then HX hb8); clear HX)
      go_wp2_with fail
      refine hK.out _ _ (HKS.out _ HS8.out) (fun hHeld => ?_)
      clear hK K
      refine takeTQ (i := 50) (t := 75) (v := ?_) rfl (by kernel_rfl) (by kernel_rfl) (by kernel_rfl) (fun _ _ _ h => h) rfl (by rfl) ?_ hHeld ?_
      rotate_left 1
      · intro w hSw; (try dsimp only at hSw); go_simp; with_reducible rfl
      simp only [List.setIfInBounds_toArray, List.set_cons_zero, List.set_cons_succ]
      refine takeTQ (i := 51) (t := 76) (v := ?_) rfl (by kernel_rfl) (by kernel_rfl) (by kernel_rfl) (fun _ _ _ h => h) rfl (by rfl) ?_ hHeld ?_
      rotate_left 1
      · intro w hSw; (try dsimp only at hSw); go_simp; with_reducible rfl
      simp only [List.setIfInBounds_toArray, List.set_cons_zero, List.set_cons_succ]
      refine skipTQ (i := 52) (t := 77) rfl (by kernel_rfl) (by kernel_rfl) (by kernel_rfl) (fun _ _ _ h => h) rfl (by rfl) hHeld ?_
      simp only [List.setIfInBounds_toArray, List.set_cons_zero, List.set_cons_succ]
      refine skipTQ (i := 53) (t := 78) rfl (by kernel_rfl) (by kernel_rfl) (by kernel_rfl) (fun _ _ _ h => h) rfl (by rfl) hHeld ?_
      simp only [List.setIfInBounds_toArray, List.set_cons_zero, List.set_cons_succ]
      refine skipTQ (i := 54) (t := 79) rfl (by kernel_rfl) (by kernel_rfl) (by kernel_rfl) (fun _ _ _ h => h) rfl (by rfl) hHeld ?_
      simp only [List.setIfInBounds_toArray, List.set_cons_zero, List.set_cons_succ]
      refine skipCQ (i := 55) (t := 80) (by kernel_rfl) rfl rfl (by rfl) hHeld ?_
      simp only [List.setIfInBounds_toArray, List.set_cons_zero, List.set_cons_succ]
      refine takeTQ (i := 56) (t := 81) (v := ?_) rfl (by kernel_rfl) (by kernel_rfl) (by kernel_rfl) (fun _ _ _ h => h) rfl (by rfl) ?_ hHeld ?_
      rotate_left 1
      · intro w hSw; (try dsimp only at hSw); go_simp; with_reducible rfl
      simp only [List.setIfInBounds_toArray, List.set_cons_zero, List.set_cons_succ]
      refine takeTQ (i := 57) (t := 82) (v := ?_) rfl (by kernel_rfl) (by kernel_rfl) (by kernel_rfl) (fun _ _ _ h => h) rfl (by rfl) ?_ hHeld ?_
      rotate_left 1
      · intro w hSw; (try dsimp only at hSw); go_simp; with_reducible rfl
      simp only [List.setIfInBounds_toArray, List.set_cons_zero, List.set_cons_succ]
      refine takeTQ (i := 58) (t := 2) (v := ?_) rfl (by kernel_rfl) (by kernel_rfl) (by kernel_rfl) (fun _ _ _ h => h) rfl (by rfl) ?_ hHeld ?_
      rotate_left 1
      · intro w hSw; (try dsimp only at hSw); go_simp; with_reducible rfl
      simp only [List.setIfInBounds_toArray, List.set_cons_zero, List.set_cons_succ]
      refine wpAnyH_done (by kernel_rfl) ?_ _
      go_wp2_with fail
      go_ret
      exact ⟨rfl, below_then HTT.out HS8.out⟩
    · have hd : decide (bk < 0) = false := decide_eq_false hk
      have hk' : (bk < 0) = False := eq_false hk
      refine wp_region_held_drew (S := (fun w' => w'.cell? ⟨w1.heap.size, 0, none⟩ = some (.bool pb) ∧ w'.cell? ⟨w1.heap.size, 1, none⟩ = some (.slice pA pn pc) ∧ w'.cell? ⟨w1.heap.size, 2, none⟩ = some (.slice pD pm pk) ∧ w'.cell? ⟨w1.heap.size, 3, none⟩ = some (.bool pyb) ∧ w'.cell? ⟨w1.heap.size, 4, none⟩ = some (.slice pyA pyn pyc) ∧ w'.cell? ⟨w1.heap.size, 5, none⟩ = some (.slice pyD pym pyk) ∧ w'.cell? ⟨w3.heap.size, 0, none⟩ = some (.bool qb) ∧ w'.cell? ⟨w3.heap.size, 1, none⟩ = some (.slice qA qn qc) ∧ w'.cell? ⟨w3.heap.size, 2, none⟩ = some (.slice qD qm qk) ∧ w'.cell? ⟨w3.heap.size, 3, none⟩ = some (.bool qyb) ∧ w'.cell? ⟨w3.heap.size, 4, none⟩ = some (.slice qyA qyn qyc) ∧ w'.cell? ⟨w3.heap.size, 5, none⟩ = some (.slice qyD qym qyk) ∧ w'.cell? ⟨w5.heap.size, 0, none⟩ = some (.bool rb) ∧ w'.cell? ⟨w5.heap.size, 1, none⟩ = some (.slice rA rn rc) ∧ w'.cell? ⟨w5.heap.size, 2, none⟩ = some (.slice rD rm rk) ∧ w'.cell? ⟨w5.heap.size, 3, none⟩ = some (.bool ryb) ∧ w'.cell? ⟨w5.heap.size, 4, none⟩ = some (.slice ryA ryn ryc) ∧ w'.cell? ⟨w5.heap.size, 5, none⟩ = some (.slice ryD rym ryk) ∧ w'.cell? ⟨w7.heap.size, 0, none⟩ = some (.bool tb) ∧ w'.cell? ⟨w7.heap.size, 1, none⟩ = some (.slice tA tn tc) ∧ w'.cell? ⟨w7.heap.size, 2, none⟩ = some (.slice tD tm tk) ∧ w'.cell? ⟨w7.heap.size, 3, none⟩ = some (.bool tyb) ∧ w'.cell? ⟨w7.heap.size, 4, none⟩ = some (.slice tyA tyn tyc) ∧ w'.cell? ⟨w7.heap.size, 5, none⟩ = some (.slice tyD tym tyk) ∧ w'.cell? ⟨w10.heap.size, 0, none⟩ = some (.bool mb) ∧ w'.cell? ⟨w10.heap.size, 1, none⟩ = some (.slice mA mn mc) ∧ w'.cell? ⟨w10.heap.size, 2, none⟩ = some (.slice mD mm mk) ∧ w'.cell? ⟨w10.heap.size, 3, none⟩ = some (.bool myb) ∧ w'.cell? ⟨w10.heap.size, 4, none⟩ = some (.slice myA myn myc) ∧ w'.cell? ⟨w10.heap.size, 5, none⟩ = some (.slice myD mym myk))) (by kernel_rfl) (HKS.out _ HS0.out) (fun hHeld => ?_)
      show wpAnyH _ _ _ _ _ 59 _ _ _
      refine takeTQ (i := 0) (t := 25) (v := ?_) rfl (by kernel_rfl) (by kernel_rfl) (by kernel_rfl) (fun _ _ _ h => h) rfl (by rfl) ?_ hHeld ?_
      rotate_left 1
      · intro w hSw; (try dsimp only at hSw); go_simp; with_reducible rfl
      simp only [List.setIfInBounds_toArray, List.set_cons_zero, List.set_cons_succ]
      refine takeTQ (i := 1) (t := 26) (v := ?_) rfl (by kernel_rfl) (by kernel_rfl) (by kernel_rfl) (fun _ _ _ h => h) rfl (by rfl) ?_ hHeld ?_
      rotate_left 1
      · intro w hSw; (try dsimp only at hSw); go_simp; with_reducible rfl
      simp only [List.setIfInBounds_toArray, List.set_cons_zero, List.set_cons_succ]
      refine takeTQ (i := 2) (t := 27) (v := ?_) rfl (by kernel_rfl) (by kernel_rfl) (by kernel_rfl) (fun _ _ _ h => h) rfl (by rfl) ?_ hHeld ?_
      rotate_left 1
      · intro w hSw; (try dsimp only at hSw); go_simp; with_reducible rfl
      simp only [List.setIfInBounds_toArray, List.set_cons_zero, List.set_cons_succ]
      refine takeTQ (i := 3) (t := 28) (v := ?_) rfl (by kernel_rfl) (by kernel_rfl) (by kernel_rfl) (fun _ _ _ h => h) rfl (by rfl) ?_ hHeld ?_
      rotate_left 1
      · intro w hSw; (try dsimp only at hSw); go_simp; with_reducible rfl
      simp only [List.setIfInBounds_toArray, List.set_cons_zero, List.set_cons_succ]
      refine wpAnyH_ready (rs := [4]) (by kernel_rfl) (by simp) ?_
      refine AllReadyH.cons rfl (fun K hK => ?_) AllReadyH.nil
      simp only [List.getElem_toArray, List.getElem_cons_succ, List.getElem_cons_zero]
      go_simp
      (have HX := HS0.out; (with_reducible refine Calls.mono (HC1.out _ HX) ?_); rintro e u1 ⟨rfl, hb1⟩; have HS1 := hide (below_then HX hb1); clear HX)
      go_wp2_with fail
      refine hK.out _ _ (HKS.out _ HS1.out) (fun hHeld => ?_)
      clear hK K
      refine takeTQ (i := 5) (t := 30) (v := ?_) rfl (by kernel_rfl) (by kernel_rfl) (by kernel_rfl) (fun _ _ _ h => h) rfl (by rfl) ?_ hHeld ?_
      rotate_left 1
      · intro w hSw; (try dsimp only at hSw); go_simp; with_reducible rfl
      simp only [List.setIfInBounds_toArray, List.set_cons_zero, List.set_cons_succ]
      refine takeTQ (i := 6) (t := 31) (v := ?_) rfl (by kernel_rfl) (by kernel_rfl) (by kernel_rfl) (fun _ _ _ h => h) rfl (by rfl) ?_ hHeld ?_
      rotate_left 1
      · intro w hSw; (try dsimp only at hSw); go_simp; with_reducible rfl
      simp only [List.setIfInBounds_toArray, List.set_cons_zero, List.set_cons_succ]
      refine takeTQ (i := 7) (t := 32) (v := ?_) rfl (by kernel_rfl) (by kernel_rfl) (by kernel_rfl) (fun _ _ _ h => h) rfl (by rfl) ?_ hHeld ?_
      rotate_left 1
      · intro w hSw; (try dsimp only at hSw); go_simp; with_reducible rfl
      simp only [List.setIfInBounds_toArray, List.set_cons_zero, List.set_cons_succ]
      refine takeTQ (i := 8) (t := 33) (v := ?_) rfl (by kernel_rfl) (by kernel_rfl) (by kernel_rfl) (fun _ _ _ h => h) rfl (by rfl) ?_ hHeld ?_
      rotate_left 1
      · intro w hSw; (try dsimp only at hSw); go_simp; with_reducible rfl
      simp only [List.setIfInBounds_toArray, List.set_cons_zero, List.set_cons_succ]
      refine takeTQ (i := 9) (t := 34) (v := ?_) rfl (by kernel_rfl) (by kernel_rfl) (by kernel_rfl) (fun _ _ _ h => h) rfl (by rfl) ?_ hHeld ?_
      rotate_left 1
      · intro w hSw; (try dsimp only at hSw); go_simp; with_reducible rfl
      simp only [List.setIfInBounds_toArray, List.set_cons_zero, List.set_cons_succ]
      refine takeTQ (i := 11) (t := 36) (v := ?_) rfl (by kernel_rfl) (by kernel_rfl) (by kernel_rfl) (fun _ _ _ h => h) rfl (by rfl) ?_ hHeld ?_
      rotate_left 1
      · intro w hSw; (try dsimp only at hSw); go_simp; with_reducible rfl
      simp only [List.setIfInBounds_toArray, List.set_cons_zero, List.set_cons_succ]
      refine takeTQ (i := 12) (t := 37) (v := ?_) rfl (by kernel_rfl) (by kernel_rfl) (by kernel_rfl) (fun _ _ _ h => h) rfl (by rfl) ?_ hHeld ?_
      rotate_left 1
      · intro w hSw; (try dsimp only at hSw); go_simp; with_reducible rfl
      simp only [List.setIfInBounds_toArray, List.set_cons_zero, List.set_cons_succ]
      refine takeTQ (i := 13) (t := 38) (v := ?_) rfl (by kernel_rfl) (by kernel_rfl) (by kernel_rfl) (fun _ _ _ h => h) rfl (by rfl) ?_ hHeld ?_
      rotate_left 1
      · intro w hSw; (try dsimp only at hSw); go_simp; with_reducible rfl
      simp only [List.setIfInBounds_toArray, List.set_cons_zero, List.set_cons_succ]
      refine takeTQ (i := 14) (t := 39) (v := ?_) rfl (by kernel_rfl) (by kernel_rfl) (by kernel_rfl) (fun _ _ _ h => h) rfl (by rfl) ?_ hHeld ?_
      rotate_left 1
      · intro w hSw; (try dsimp only at hSw); go_simp; with_reducible rfl
      simp only [List.setIfInBounds_toArray, List.set_cons_zero, List.set_cons_succ]
      refine wpAnyH_ready (rs := [10]) (by kernel_rfl) (by simp) ?_
      refine AllReadyH.cons rfl (fun K hK => ?_) AllReadyH.nil
      simp only [List.getElem_toArray, List.getElem_cons_succ, List.getElem_cons_zero]
      go_simp
      (have HX := HS1.out; (with_reducible refine Calls.mono (HC2.out _ HX) ?_); rintro e u2 ⟨rfl, hb2⟩; have HS2 := hide (below_then HX hb2); clear HX)
      go_wp2_with fail
      refine hK.out _ _ (HKS.out _ HS2.out) (fun hHeld => ?_)
      clear hK K
      refine wpAnyH_ready (rs := [15]) (by kernel_rfl) (by simp) ?_
      refine AllReadyH.cons rfl (fun K hK => ?_) AllReadyH.nil
      simp only [List.getElem_toArray, List.getElem_cons_succ, List.getElem_cons_zero]
      go_simp
      (have HX := HS2.out; (with_reducible refine Calls.mono (HC3.out _ HX) ?_); rintro e u3 ⟨rfl, hb3⟩; have HS3 := hide (below_then HX hb3); clear HX)
      go_wp2_with fail
      refine hK.out _ _ (HKS.out _ HS3.out) (fun hHeld => ?_)
      clear hK K
      refine takeTQ (i := 16) (t := 41) (v := ?_) rfl (by kernel_rfl) (by kernel_rfl) (by kernel_rfl) (fun _ _ _ h => h) rfl (by rfl) ?_ hHeld ?_
      rotate_left 1
      · intro w hSw; (try dsimp only at hSw); go_simp; with_reducible rfl
      simp only [List.setIfInBounds_toArray, List.set_cons_zero, List.set_cons_succ]
      refine takeTQ (i := 17) (t := 42) (v := ?_) rfl (by kernel_rfl) (by kernel_rfl) (by kernel_rfl) (fun _ _ _ h => h) rfl (by rfl) ?_ hHeld ?_
      rotate_left 1
      · intro w hSw; (try dsimp only at hSw); go_simp; with_reducible rfl
      simp only [List.setIfInBounds_toArray, List.set_cons_zero, List.set_cons_succ]
      refine takeTQ (i := 18) (t := 43) (v := ?_) rfl (by kernel_rfl) (by kernel_rfl) (by kernel_rfl) (fun _ _ _ h => h) rfl (by rfl) ?_ hHeld ?_
      rotate_left 1
      · intro w hSw; (try dsimp only at hSw); go_simp; with_reducible rfl
      simp only [List.setIfInBounds_toArray, List.set_cons_zero, List.set_cons_succ]
      refine takeTQ (i := 19) (t := 44) (v := ?_) rfl (by kernel_rfl) (by kernel_rfl) (by kernel_rfl) (fun _ _ _ h => h) rfl (by rfl) ?_ hHeld ?_
      rotate_left 1
      · intro w hSw; (try dsimp only at hSw); go_simp; with_reducible rfl
      simp only [List.setIfInBounds_toArray, List.set_cons_zero, List.set_cons_succ]
      refine takeTQ (i := 20) (t := 45) (v := ?_) rfl (by kernel_rfl) (by kernel_rfl) (by kernel_rfl) (fun _ _ _ h => h) rfl (by rfl) ?_ hHeld ?_
      rotate_left 1
      · intro w hSw; (try dsimp only at hSw); go_simp; with_reducible rfl
      simp only [List.setIfInBounds_toArray, List.set_cons_zero, List.set_cons_succ]
      refine takeTQ (i := 21) (t := 46) (v := ?_) rfl (by kernel_rfl) (by kernel_rfl) (by kernel_rfl) (fun _ _ _ h => h) rfl (by rfl) ?_ hHeld ?_
      rotate_left 1
      · intro w hSw; (try dsimp only at hSw); go_simp; with_reducible rfl
      simp only [List.setIfInBounds_toArray, List.set_cons_zero, List.set_cons_succ]
      refine takeTQ (i := 23) (t := 48) (v := ?_) rfl (by kernel_rfl) (by kernel_rfl) (by kernel_rfl) (fun _ _ _ h => h) rfl (by rfl) ?_ hHeld ?_
      rotate_left 1
      · intro w hSw; (try dsimp only at hSw); go_simp; with_reducible rfl
      simp only [List.setIfInBounds_toArray, List.set_cons_zero, List.set_cons_succ]
      refine takeTQ (i := 24) (t := 49) (v := ?_) rfl (by kernel_rfl) (by kernel_rfl) (by kernel_rfl) (fun _ _ _ h => h) rfl (by rfl) ?_ hHeld ?_
      rotate_left 1
      · intro w hSw; (try dsimp only at hSw); go_simp; with_reducible rfl
      simp only [List.setIfInBounds_toArray, List.set_cons_zero, List.set_cons_succ]
      refine takeTQ (i := 25) (t := 50) (v := ?_) rfl (by kernel_rfl) (by kernel_rfl) (by kernel_rfl) (fun _ _ _ h => h) rfl (by rfl) ?_ hHeld ?_
      rotate_left 1
      · intro w hSw; (try dsimp only at hSw); go_simp; with_reducible rfl
      simp only [List.setIfInBounds_toArray, List.set_cons_zero, List.set_cons_succ]
      refine wpAnyH_ready (rs := [22]) (by kernel_rfl) (by simp) ?_
      refine AllReadyH.cons rfl (fun K hK => ?_) AllReadyH.nil
      simp only [List.getElem_toArray, List.getElem_cons_succ, List.getElem_cons_zero]
      go_simp
      (have HX := HS3.out; (with_reducible refine Calls.mono (HC4.out _ HX) ?_); rintro e u4 ⟨rfl, hb4⟩; have HS4 := hide (below_then HX hb4); clear HX)
      go_wp2_with fail
      refine hK.out _ _ (HKS.out _ HS4.out) (fun hHeld => ?_)
      clear hK K
      refine wpAnyH_ready (rs := [26]) (by kernel_rfl) (by simp) ?_
      refine AllReadyH.cons rfl (fun K hK => ?_) AllReadyH.nil
      simp only [List.getElem_toArray, List.getElem_cons_succ, List.getElem_cons_zero]
      go_simp
      (have HX := HS4.out; (with_reducible refine Calls.mono (HC5.out _ HX) ?_); rintro e u5 ⟨rfl, hb5⟩; have HS5 := hide (below_then HX hb5); clear HX)
      go_wp2_with fail
      refine hK.out _ _ (HKS.out _ HS5.out) (fun hHeld => ?_)
      clear hK K
      refine takeTQ (i := 27) (t := 52) (v := ?_) rfl (by kernel_rfl) (by kernel_rfl) (by kernel_rfl) (fun _ _ _ h => h) rfl (by rfl) ?_ hHeld ?_
      rotate_left 1
      · intro w hSw; (try dsimp only at hSw); go_simp; with_reducible rfl
      simp only [List.setIfInBounds_toArray, List.set_cons_zero, List.set_cons_succ]
      refine takeTQ (i := 28) (t := 53) (v := ?_) rfl (by kernel_rfl) (by kernel_rfl) (by kernel_rfl) (fun _ _ _ h => h) rfl (by rfl) ?_ hHeld ?_
      rotate_left 1
      · intro w hSw; (try dsimp only at hSw); go_simp; with_reducible rfl
      simp only [List.setIfInBounds_toArray, List.set_cons_zero, List.set_cons_succ]
      refine takeTQ (i := 29) (t := 54) (v := ?_) rfl (by kernel_rfl) (by kernel_rfl) (by kernel_rfl) (fun _ _ _ h => h) rfl (by rfl) ?_ hHeld ?_
      rotate_left 1
      · intro w hSw; (try dsimp only at hSw); go_simp; with_reducible rfl
      simp only [List.setIfInBounds_toArray, List.set_cons_zero, List.set_cons_succ]
      refine takeTQ (i := 30) (t := 55) (v := ?_) rfl (by kernel_rfl) (by kernel_rfl) (by kernel_rfl) (fun _ _ _ h => h) rfl (by rfl) ?_ hHeld ?_
      rotate_left 1
      · intro w hSw; (try dsimp only at hSw); go_simp; with_reducible rfl
      simp only [List.setIfInBounds_toArray, List.set_cons_zero, List.set_cons_succ]
      refine takeTQ (i := 31) (t := 56) (v := ?_) rfl (by kernel_rfl) (by kernel_rfl) (by kernel_rfl) (fun _ _ _ h => h) rfl (by rfl) ?_ hHeld ?_
      rotate_left 1
      · intro w hSw; (try dsimp only at hSw); go_simp; with_reducible rfl
      simp only [List.setIfInBounds_toArray, List.set_cons_zero, List.set_cons_succ]
      refine takeTQ (i := 32) (t := 57) (v := ?_) rfl (by kernel_rfl) (by kernel_rfl) (by kernel_rfl) (fun _ _ _ h => h) rfl (by rfl) ?_ hHeld ?_
      rotate_left 1
      · intro w hSw; (try dsimp only at hSw); go_simp; with_reducible rfl
      simp only [List.setIfInBounds_toArray, List.set_cons_zero, List.set_cons_succ]
      refine takeTQ (i := 40) (t := 65) (v := ?_) rfl (by kernel_rfl) (by kernel_rfl) (by kernel_rfl) (fun _ _ _ h => h) rfl (by rfl) ?_ hHeld ?_
      rotate_left 1
      · intro w hSw; (try dsimp only at hSw); go_simp; with_reducible rfl
      simp only [List.setIfInBounds_toArray, List.set_cons_zero, List.set_cons_succ]
      refine takeTQ (i := 41) (t := 66) (v := ?_) rfl (by kernel_rfl) (by kernel_rfl) (by kernel_rfl) (fun _ _ _ h => h) rfl (by rfl) ?_ hHeld ?_
      rotate_left 1
      · intro w hSw; (try dsimp only at hSw); go_simp; with_reducible rfl
      simp only [List.setIfInBounds_toArray, List.set_cons_zero, List.set_cons_succ]
      refine takeTQ (i := 42) (t := 67) (v := ?_) rfl (by kernel_rfl) (by kernel_rfl) (by kernel_rfl) (fun _ _ _ h => h) rfl (by rfl) ?_ hHeld ?_
      rotate_left 1
      · intro w hSw; (try dsimp only at hSw); go_simp; with_reducible rfl
      simp only [List.setIfInBounds_toArray, List.set_cons_zero, List.set_cons_succ]
      refine wpAnyH_ready (rs := [33]) (by kernel_rfl) (by simp) ?_
      refine AllReadyH.cons rfl (fun K hK => ?_) AllReadyH.nil
      simp only [List.getElem_toArray, List.getElem_cons_succ, List.getElem_cons_zero]
      go_simp
      (have HX := HS5.out; (with_reducible refine Calls.mono (HC6.out _ HX) ?_); rintro e u6 ⟨rfl, hb6⟩; have HS6 := hide (below_then HX hb6); clear HX)
      go_wp2_with fail
      refine hK.out _ _ (HKS.out _ HS6.out) (fun hHeld => ?_)
      clear hK K
      refine takeTQ (i := 34) (t := 59) (v := ?_) rfl (by kernel_rfl) (by kernel_rfl) (by kernel_rfl) (fun _ _ _ h => h) rfl (by rfl) ?_ hHeld ?_
      rotate_left 1
      · intro w hSw; (try dsimp only at hSw); go_simp; with_reducible rfl
      simp only [List.setIfInBounds_toArray, List.set_cons_zero, List.set_cons_succ]
      refine skipTQ (i := 35) (t := 60) rfl (by kernel_rfl) (by kernel_rfl) (by kernel_rfl) (fun _ _ _ h => h) rfl (by rfl) hHeld ?_
      simp only [List.setIfInBounds_toArray, List.set_cons_zero, List.set_cons_succ]
      refine skipTQ (i := 36) (t := 61) rfl (by kernel_rfl) (by kernel_rfl) (by kernel_rfl) (fun _ _ _ h => h) rfl (by rfl) hHeld ?_
      simp only [List.setIfInBounds_toArray, List.set_cons_zero, List.set_cons_succ]
      refine skipTQ (i := 37) (t := 62) rfl (by kernel_rfl) (by kernel_rfl) (by kernel_rfl) (fun _ _ _ h => h) rfl (by rfl) hHeld ?_
      simp only [List.setIfInBounds_toArray, List.set_cons_zero, List.set_cons_succ]
      refine skipCQ (i := 38) (t := 63) (by kernel_rfl) rfl rfl (by rfl) hHeld ?_
      simp only [List.setIfInBounds_toArray, List.set_cons_zero, List.set_cons_succ]
      refine takeTQ (i := 39) (t := 64) (v := ?_) rfl (by kernel_rfl) (by kernel_rfl) (by kernel_rfl) (fun _ _ _ h => h) rfl (by rfl) ?_ hHeld ?_
      rotate_left 1
      · intro w hSw; (try dsimp only at hSw); go_simp; with_reducible rfl
      simp only [List.setIfInBounds_toArray, List.set_cons_zero, List.set_cons_succ]
      refine wpAnyH_ready (rs := [43]) (by kernel_rfl) (by simp) ?_
      refine AllReadyH.cons rfl (fun K hK => ?_) AllReadyH.nil
      simp only [List.getElem_toArray, List.getElem_cons_succ, List.getElem_cons_zero]
      go_simp
      (have HX := HS6.out; (with_reducible refine Calls.mono (HC4.out _ HX) ?_); rintro e u7 ⟨rfl, hb7⟩; have HS7 := hide (below_then HX hb7); clear HX)
      go_wp2_with fail
      refine hK.out _ _ (HKS.out _ HS7.out) (fun hHeld => ?_)
      clear hK K
      refine takeTQ (i := 44) (t := 69) (v := ?_) rfl (by kernel_rfl) (by kernel_rfl) (by kernel_rfl) (fun _ _ _ h => h) rfl (by rfl) ?_ hHeld ?_
      rotate_left 1
      · intro w hSw; (try dsimp only at hSw); go_simp; with_reducible rfl
      simp only [List.setIfInBounds_toArray, List.set_cons_zero, List.set_cons_succ]
      refine takeTQ (i := 45) (t := 70) (v := ?_) rfl (by kernel_rfl) (by kernel_rfl) (by kernel_rfl) (fun _ _ _ h => h) rfl (by rfl) ?_ hHeld ?_
      rotate_left 1
      · intro w hSw; (try dsimp only at hSw); go_simp; with_reducible rfl
      simp only [List.setIfInBounds_toArray, List.set_cons_zero, List.set_cons_succ]
      refine takeTQ (i := 46) (t := 71) (v := ?_) rfl (by kernel_rfl) (by kernel_rfl) (by kernel_rfl) (fun _ _ _ h => h) rfl (by rfl) ?_ hHeld ?_
      rotate_left 1
      · intro w hSw; (try dsimp only at hSw); go_simp; with_reducible rfl
      simp only [List.setIfInBounds_toArray, List.set_cons_zero, List.set_cons_succ]
      refine takeTQ (i := 47) (t := 72) (v := ?_) rfl (by kernel_rfl) (by kernel_rfl) (by kernel_rfl) (fun _ _ _ h => h) rfl (by rfl) ?_ hHeld ?_
      rotate_left 1
      · intro w hSw; (try dsimp only at hSw); go_simp; with_reducible rfl
      simp only [List.setIfInBounds_toArray, List.set_cons_zero, List.set_cons_succ]
      refine takeTQ (i := 48) (t := 73) (v := ?_) rfl (by kernel_rfl) (by kernel_rfl) (by kernel_rfl) (fun _ _ _ h => h) rfl (by rfl) ?_ hHeld ?_
      rotate_left 1
      · intro w hSw; (try dsimp only at hSw); go_simp; with_reducible rfl
      simp only [List.setIfInBounds_toArray, List.set_cons_zero, List.set_cons_succ]
      refine wpAnyH_ready (rs := [49]) (by kernel_rfl) (by simp) ?_
      refine AllReadyH.cons rfl (fun K hK => ?_) AllReadyH.nil
      simp only [List.getElem_toArray, List.getElem_cons_succ, List.getElem_cons_zero]
      go_simp
      (have HX := HS7.out; (with_reducible refine Calls.mono (HC8.out _ HX) ?_); rintro e u8 ⟨rfl, hb8⟩; have HS8 := hide (below_then HX hb8); clear HX)
      go_wp2_with fail
      refine hK.out _ _ (HKS.out _ HS8.out) (fun hHeld => ?_)
      clear hK K
      refine takeTQ (i := 50) (t := 75) (v := ?_) rfl (by kernel_rfl) (by kernel_rfl) (by kernel_rfl) (fun _ _ _ h => h) rfl (by rfl) ?_ hHeld ?_
      rotate_left 1
      · intro w hSw; (try dsimp only at hSw); go_simp; with_reducible rfl
      simp only [List.setIfInBounds_toArray, List.set_cons_zero, List.set_cons_succ]
      refine takeTQ (i := 51) (t := 76) (v := ?_) rfl (by kernel_rfl) (by kernel_rfl) (by kernel_rfl) (fun _ _ _ h => h) rfl (by rfl) ?_ hHeld ?_
      rotate_left 1
      · intro w hSw; (try dsimp only at hSw); go_simp; with_reducible rfl
      simp only [List.setIfInBounds_toArray, List.set_cons_zero, List.set_cons_succ]
      refine takeTQ (i := 52) (t := 77) (v := ?_) rfl (by kernel_rfl) (by kernel_rfl) (by kernel_rfl) (fun _ _ _ h => h) rfl (by rfl) ?_ hHeld ?_
      rotate_left 1
      · intro w hSw; (try dsimp only at hSw); go_simp; with_reducible rfl
      simp only [List.setIfInBounds_toArray, List.set_cons_zero, List.set_cons_succ]
      refine takeTQ (i := 53) (t := 78) (v := ?_) rfl (by kernel_rfl) (by kernel_rfl) (by kernel_rfl) (fun _ _ _ h => h) rfl (by rfl) ?_ hHeld ?_
      rotate_left 1
      · intro w hSw; (try dsimp only at hSw); go_simp; with_reducible rfl
      simp only [List.setIfInBounds_toArray, List.set_cons_zero, List.set_cons_succ]
      refine takeTQ (i := 54) (t := 79) (v := ?_) rfl (by kernel_rfl) (by kernel_rfl) (by kernel_rfl) (fun _ _ _ h => h) rfl (by rfl) ?_ hHeld ?_
      rotate_left 1
      · intro w hSw; (try dsimp only at hSw); go_simp; with_reducible rfl
      simp only [List.setIfInBounds_toArray, List.set_cons_zero, List.set_cons_succ]
      refine wpAnyH_ready (rs := [55]) (by kernel_rfl) (by simp) ?_
      refine AllReadyH.cons rfl (fun K hK => ?_) AllReadyH.nil
      simp only [List.getElem_toArray, List.getElem_cons_succ, List.getElem_cons_zero]
      go_simp
      (have HX := HS8.out; (with_reducible refine Calls.mono (HC4.out _ HX) ?_); rintro e u9 ⟨rfl, hb9⟩; have HS9 := hide (below_then HX hb9); clear HX)
      go_wp2_with fail
      refine hK.out _ _ (HKS.out _ HS9.out) (fun hHeld => ?_)
      clear hK K
      refine takeTQ (i := 56) (t := 81) (v := ?_) rfl (by kernel_rfl) (by kernel_rfl) (by kernel_rfl) (fun _ _ _ h => h) rfl (by rfl) ?_ hHeld ?_
      rotate_left 1
      · intro w hSw; (try dsimp only at hSw); go_simp; with_reducible rfl
      simp only [List.setIfInBounds_toArray, List.set_cons_zero, List.set_cons_succ]
      refine takeTQ (i := 57) (t := 82) (v := ?_) rfl (by kernel_rfl) (by kernel_rfl) (by kernel_rfl) (fun _ _ _ h => h) rfl (by rfl) ?_ hHeld ?_
      rotate_left 1
      · intro w hSw; (try dsimp only at hSw); go_simp; with_reducible rfl
      simp only [List.setIfInBounds_toArray, List.set_cons_zero, List.set_cons_succ]
      refine takeTQ (i := 58) (t := 2) (v := ?_) rfl (by kernel_rfl) (by kernel_rfl) (by kernel_rfl) (fun _ _ _ h => h) rfl (by rfl) ?_ hHeld ?_
      rotate_left 1
      · intro w hSw; (try dsimp only at hSw); go_simp; with_reducible rfl
      simp only [List.setIfInBounds_toArray, List.set_cons_zero, List.set_cons_succ]
      refine wpAnyH_done (by kernel_rfl) ?_ _
      go_wp2_with fail
      go_ret
      exact ⟨rfl, below_then HTT.out HS9.out⟩
  · have hu' : bu = false := by simpa using hu
    rw [hu'] at HC6
    rw [i2 hu'] at HC7
    by_cases hk : bk < 0
    · have hd : decide (bk < 0) = true := decide_eq_true hk
      have hk' : (bk < 0) = True := eq_true hk
      refine wp_region_held_drew (S := (fun w' => w'.cell? ⟨w1.heap.size, 0, none⟩ = some (.bool pb) ∧ w'.cell? ⟨w1.heap.size, 1, none⟩ = some (.slice pA pn pc) ∧ w'.cell? ⟨w1.heap.size, 2, none⟩ = some (.slice pD pm pk) ∧ w'.cell? ⟨w1.heap.size, 3, none⟩ = some (.bool pyb) ∧ w'.cell? ⟨w1.heap.size, 4, none⟩ = some (.slice pyA pyn pyc) ∧ w'.cell? ⟨w1.heap.size, 5, none⟩ = some (.slice pyD pym pyk) ∧ w'.cell? ⟨w3.heap.size, 0, none⟩ = some (.bool qb) ∧ w'.cell? ⟨w3.heap.size, 1, none⟩ = some (.slice qA qn qc) ∧ w'.cell? ⟨w3.heap.size, 2, none⟩ = some (.slice qD qm qk) ∧ w'.cell? ⟨w3.heap.size, 3, none⟩ = some (.bool qyb) ∧ w'.cell? ⟨w3.heap.size, 4, none⟩ = some (.slice qyA qyn qyc) ∧ w'.cell? ⟨w3.heap.size, 5, none⟩ = some (.slice qyD qym qyk) ∧ w'.cell? ⟨w5.heap.size, 0, none⟩ = some (.bool rb) ∧ w'.cell? ⟨w5.heap.size, 1, none⟩ = some (.slice rA rn rc) ∧ w'.cell? ⟨w5.heap.size, 2, none⟩ = some (.slice rD rm rk) ∧ w'.cell? ⟨w5.heap.size, 3, none⟩ = some (.bool ryb) ∧ w'.cell? ⟨w5.heap.size, 4, none⟩ = some (.slice ryA ryn ryc) ∧ w'.cell? ⟨w5.heap.size, 5, none⟩ = some (.slice ryD rym ryk) ∧ w'.cell? ⟨w7.heap.size, 0, none⟩ = some (.bool tb) ∧ w'.cell? ⟨w7.heap.size, 1, none⟩ = some (.slice tA tn tc) ∧ w'.cell? ⟨w7.heap.size, 2, none⟩ = some (.slice tD tm tk) ∧ w'.cell? ⟨w7.heap.size, 3, none⟩ = some (.bool tyb) ∧ w'.cell? ⟨w7.heap.size, 4, none⟩ = some (.slice tyA tyn tyc) ∧ w'.cell? ⟨w7.heap.size, 5, none⟩ = some (.slice tyD tym tyk) ∧ w'.cell? ⟨w10.heap.size, 0, none⟩ = some (.bool mb) ∧ w'.cell? ⟨w10.heap.size, 1, none⟩ = some (.slice mA mn mc) ∧ w'.cell? ⟨w10.heap.size, 2, none⟩ = some (.slice mD mm mk) ∧ w'.cell? ⟨w10.heap.size, 3, none⟩ = some (.bool myb) ∧ w'.cell? ⟨w10.heap.size, 4, none⟩ = some (.slice myA myn myc) ∧ w'.cell? ⟨w10.heap.size, 5, none⟩ = some (.slice myD mym myk))) (by kernel_rfl) (HKS.out _ HS0.out) (fun hHeld => ?_)
      show wpAnyH _ _ _ _ _ 59 _ _ _
      refine takeTQ (i := 0) (t := 25) (v := ?_) rfl (by kernel_rfl) (by kernel_rfl) (by kernel_rfl) (fun _ _ _ h => h) rfl (by rfl) ?_ hHeld ?_
      rotate_left 1
      · intro w hSw; (try dsimp only at hSw); go_simp; with_reducible rfl
      simp only [List.setIfInBounds_toArray, List.set_cons_zero, List.set_cons_succ]
      refine takeTQ (i := 1) (t := 26) (v := ?_) rfl (by kernel_rfl) (by kernel_rfl) (by kernel_rfl) (fun _ _ _ h => h) rfl (by rfl) ?_ hHeld ?_
      rotate_left 1
      · intro w hSw; (try dsimp only at hSw); go_simp; with_reducible rfl
      simp only [List.setIfInBounds_toArray, List.set_cons_zero, List.set_cons_succ]
      refine takeTQ (i := 2) (t := 27) (v := ?_) rfl (by kernel_rfl) (by kernel_rfl) (by kernel_rfl) (fun _ _ _ h => h) rfl (by rfl) ?_ hHeld ?_
      rotate_left 1
      · intro w hSw; (try dsimp only at hSw); go_simp; with_reducible rfl
      simp only [List.setIfInBounds_toArray, List.set_cons_zero, List.set_cons_succ]
      refine takeTQ (i := 3) (t := 28) (v := ?_) rfl (by kernel_rfl) (by kernel_rfl) (by kernel_rfl) (fun _ _ _ h => h) rfl (by rfl) ?_ hHeld ?_
      rotate_left 1
      · intro w hSw; (try dsimp only at hSw); go_simp; with_reducible rfl
      simp only [List.setIfInBounds_toArray, List.set_cons_zero, List.set_cons_succ]
      refine wpAnyH_ready (rs := [4]) (by kernel_rfl) (by simp) ?_
      refine AllReadyH.cons rfl (fun K hK => ?_) AllReadyH.nil
      simp only [List.getElem_toArray, List.getElem_cons_succ, List.getElem_cons_zero]
      go_simp
      (have HX := HS0.out; (with_reducible refine Calls.mono (HC1.out _ HX) ?_); rintro e u1 ⟨rfl, hb1⟩; have HS1 := hide (below_then HX hb1); clear HX)
      go_wp2_with fail
      refine hK.out _ _ (HKS.out _ HS1.out) (fun hHeld => ?_)
      clear hK K
      refine takeTQ (i := 5) (t := 30) (v := ?_) rfl (by kernel_rfl) (by kernel_rfl) (by kernel_rfl) (fun _ _ _ h => h) rfl (by rfl) ?_ hHeld ?_
      rotate_left 1
      · intro w hSw; (try dsimp only at hSw); go_simp; with_reducible rfl
      simp only [List.setIfInBounds_toArray, List.set_cons_zero, List.set_cons_succ]
      refine takeTQ (i := 6) (t := 31) (v := ?_) rfl (by kernel_rfl) (by kernel_rfl) (by kernel_rfl) (fun _ _ _ h => h) rfl (by rfl) ?_ hHeld ?_
      rotate_left 1
      · intro w hSw; (try dsimp only at hSw); go_simp; with_reducible rfl
      simp only [List.setIfInBounds_toArray, List.set_cons_zero, List.set_cons_succ]
      refine takeTQ (i := 7) (t := 32) (v := ?_) rfl (by kernel_rfl) (by kernel_rfl) (by kernel_rfl) (fun _ _ _ h => h) rfl (by rfl) ?_ hHeld ?_
      rotate_left 1
      · intro w hSw; (try dsimp only at hSw); go_simp; with_reducible rfl
      simp only [List.setIfInBounds_toArray, List.set_cons_zero, List.set_cons_succ]
      refine takeTQ (i := 8) (t := 33) (v := ?_) rfl (by kernel_rfl) (by kernel_rfl) (by kernel_rfl) (fun _ _ _ h => h) rfl (by rfl) ?_ hHeld ?_
      rotate_left 1
      · intro w hSw; (try dsimp only at hSw); go_simp; with_reducible rfl
      simp only [List.setIfInBounds_toArray, List.set_cons_zero, List.set_cons_succ]
      refine takeTQ (i := 9) (t := 34) (v := ?_) rfl (by kernel_rfl) (by kernel_rfl) (by kernel_rfl) (fun _ _ _ h => h) rfl (by rfl) ?_ hHeld ?_
      rotate_left 1
      · intro w hSw; (try dsimp only at hSw); go_simp; with_reducible rfl
      simp only [List.setIfInBounds_toArray, List.set_cons_zero, List.set_cons_succ]
      refine takeTQ (i := 11) (t := 36) (v := ?_) rfl (by kernel_rfl) (by kernel_rfl) (by kernel_rfl) (fun _ _ _ h => h) rfl (by rfl) ?_ hHeld ?_
      rotate_left 1
      · intro w hSw; (try dsimp only at hSw); go_simp; with_reducible rfl
      simp only [List.setIfInBounds_toArray, List.set_cons_zero, List.set_cons_succ]
      refine takeTQ (i := 12) (t := 37) (v := ?_) rfl (by kernel_rfl) (by kernel_rfl) (by kernel_rfl) (fun _ _ _ h => h) rfl (by rfl) ?_ hHeld ?_
      rotate_left 1
      · intro w hSw; (try dsimp only at hSw); go_simp; with_reducible rfl
      simp only [List.setIfInBounds_toArray, List.set_cons_zero, List.set_cons_succ]
      refine takeTQ (i := 13) (t := 38) (v := ?_) rfl (by kernel_rfl) (by kernel_rfl) (by kernel_rfl) (fun _ _ _ h => h) rfl (by rfl) ?_ hHeld ?_
      rotate_left 1
      · intro w hSw; (try dsimp only at hSw); go_simp; with_reducible rfl
      simp only [List.setIfInBounds_toArray, List.set_cons_zero, List.set_cons_succ]
      refine takeTQ (i := 14) (t := 39) (v := ?_) rfl (by kernel_rfl) (by kernel_rfl) (by kernel_rfl) (fun _ _ _ h => h) rfl (by rfl) ?_ hHeld ?_
      rotate_left 1
      · intro w hSw; (try dsimp only at hSw); go_simp; with_reducible rfl
      simp only [List.setIfInBounds_toArray, List.set_cons_zero, List.set_cons_succ]
      refine wpAnyH_ready (rs := [10]) (by kernel_rfl) (by simp) ?_
      refine AllReadyH.cons rfl (fun K hK => ?_) AllReadyH.nil
      simp only [List.getElem_toArray, List.getElem_cons_succ, List.getElem_cons_zero]
      go_simp
      (have HX := HS1.out; (with_reducible refine Calls.mono (HC2.out _ HX) ?_); rintro e u2 ⟨rfl, hb2⟩; have HS2 := hide (below_then HX hb2); clear HX)
      go_wp2_with fail
      refine hK.out _ _ (HKS.out _ HS2.out) (fun hHeld => ?_)
      clear hK K
      refine wpAnyH_ready (rs := [15]) (by kernel_rfl) (by simp) ?_
      refine AllReadyH.cons rfl (fun K hK => ?_) AllReadyH.nil
      simp only [List.getElem_toArray, List.getElem_cons_succ, List.getElem_cons_zero]
      go_simp
      (have HX := HS2.out; (with_reducible refine Calls.mono (HC3.out _ HX) ?_); rintro e u3 ⟨rfl, hb3⟩; have HS3 := hide (below_then HX hb3); clear HX)
      go_wp2_with fail
      refine hK.out _ _ (HKS.out _ HS3.out) (fun hHeld => ?_)
      clear hK K
      refine takeTQ (i := 16) (t := 41) (v := ?_) rfl (by kernel_rfl) (by kernel_rfl) (by kernel_rfl) (fun _ _ _ h => h) rfl (by rfl) ?_ hHeld ?_
      rotate_left 1
      · intro w hSw; (try dsimp only at hSw); go_simp; with_reducible rfl
      simp only [List.setIfInBounds_toArray, List.set_cons_zero, List.set_cons_succ]
      refine takeTQ (i := 17) (t := 42) (v := ?_) rfl (by kernel_rfl) (by kernel_rfl) (by kernel_rfl) (fun _ _ _ h => h) rfl (by rfl) ?_ hHeld ?_
      rotate_left 1
      · intro w hSw; (try dsimp only at hSw); go_simp; with_reducible rfl
      simp only [List.setIfInBounds_toArray, List.set_cons_zero, List.set_cons_succ]
      refine takeTQ (i := 18) (t := 43) (v := ?_) rfl (by kernel_rfl) (by kernel_rfl) (by kernel_rfl) (fun _ _ _ h => h) rfl (by rfl) ?_ hHeld ?_
      rotate_left 1
      · intro w hSw; (try dsimp only at hSw); go_simp; with_reducible rfl
      simp only [List.setIfInBounds_toArray, List.set_cons_zero, List.set_cons_succ]
      refine takeTQ (i := 19) (t := 44) (v := ?_) rfl (by kernel_rfl) (by kernel_rfl) (by kernel_rfl) (fun _ _ _ h => h) rfl (by rfl) ?_ hHeld ?_
      rotate_left 1
      · intro w hSw; (try dsimp only at hSw); go_simp; with_reducible rfl
      simp only [List.setIfInBounds_toArray, List.set_cons_zero, List.set_cons_succ]
      refine takeTQ (i := 20) (t := 45) (v := ?_) rfl (by kernel_rfl) (by kernel_rfl) (by kernel_rfl) (fun _ _ _ h => h) rfl (by rfl) ?_ hHeld ?_
      rotate_left 1
      · intro w hSw; (try dsimp only at hSw); go_simp; with_reducible rfl
      simp only [List.setIfInBounds_toArray, List.set_cons_zero, List.set_cons_succ]
      refine takeTQ (i := 21) (t := 46) (v := ?_) rfl (by kernel_rfl) (by kernel_rfl) (by kernel_rfl) (fun _ _ _ h => h) rfl (by rfl) ?_ hHeld ?_
      rotate_left 1
      · intro w hSw; (try dsimp only at hSw); go_simp; with_reducible rfl
      simp only [List.setIfInBounds_toArray, List.set_cons_zero, List.set_cons_succ]
      refine takeTQ (i := 23) (t := 48) (v := ?_) rfl (by kernel_rfl) (by kernel_rfl) (by kernel_rfl) (fun _ _ _ h => h) rfl (by rfl) ?_ hHeld ?_
      rotate_left 1
      · intro w hSw; (try dsimp only at hSw); go_simp; with_reducible rfl
      simp only [List.setIfInBounds_toArray, List.set_cons_zero, List.set_cons_succ]
      refine takeTQ (i := 24) (t := 49) (v := ?_) rfl (by kernel_rfl) (by kernel_rfl) (by kernel_rfl) (fun _ _ _ h => h) rfl (by rfl) ?_ hHeld ?_
      rotate_left 1
      · intro w hSw; (try dsimp only at hSw); go_simp; with_reducible rfl
      simp only [List.setIfInBounds_toArray, List.set_cons_zero, List.set_cons_succ]
      refine takeTQ (i := 25) (t := 50) (v := ?_) rfl (by kernel_rfl) (by kernel_rfl) (by kernel_rfl) (fun _ _ _ h => h) rfl (by rfl) ?_ hHeld ?_
      rotate_left 1
      · intro w hSw; (try dsimp only at hSw); go_simp; with_reducible rfl
      simp only [List.setIfInBounds_toArray, List.set_cons_zero, List.set_cons_succ]
      refine wpAnyH_ready (rs := [22]) (by kernel_rfl) (by simp) ?_
      refine AllReadyH.cons rfl (fun K hK => ?_) AllReadyH.nil
      simp only [List.getElem_toArray, List.getElem_cons_succ, List.getElem_cons_zero]
      go_simp
      (have HX := HS3.out; (with_reducible refine Calls.mono (HC4.out _ HX) ?_); rintro e u4 ⟨rfl, hb4⟩; have HS4 := hide (below_then HX hb4); clear HX)
      go_wp2_with fail
      refine hK.out _ _ (HKS.out _ HS4.out) (fun hHeld => ?_)
      clear hK K
      refine wpAnyH_ready (rs := [26]) (by kernel_rfl) (by simp) ?_
      refine AllReadyH.cons rfl (fun K hK => ?_) AllReadyH.nil
      simp only [List.getElem_toArray, List.getElem_cons_succ, List.getElem_cons_zero]
      go_simp
      (have HX := HS4.out; (with_reducible refine Calls.mono (HC5.out _ HX) ?_); rintro e u5 ⟨rfl, hb5⟩; have HS5 := hide (below_then HX hb5); clear HX)
      go_wp2_with fail
      refine hK.out _ _ (HKS.out _ HS5.out) (fun hHeld => ?_)
      clear hK K
      refine takeTQ (i := 27) (t := 52) (v := ?_) rfl (by kernel_rfl) (by kernel_rfl) (by kernel_rfl) (fun _ _ _ h => h) rfl (by rfl) ?_ hHeld ?_
      rotate_left 1
      · intro w hSw; (try dsimp only at hSw); go_simp; with_reducible rfl
      simp only [List.setIfInBounds_toArray, List.set_cons_zero, List.set_cons_succ]
      refine takeTQ (i := 28) (t := 53) (v := ?_) rfl (by kernel_rfl) (by kernel_rfl) (by kernel_rfl) (fun _ _ _ h => h) rfl (by rfl) ?_ hHeld ?_
      rotate_left 1
      · intro w hSw; (try dsimp only at hSw); go_simp; with_reducible rfl
      simp only [List.setIfInBounds_toArray, List.set_cons_zero, List.set_cons_succ]
      refine takeTQ (i := 29) (t := 54) (v := ?_) rfl (by kernel_rfl) (by kernel_rfl) (by kernel_rfl) (fun _ _ _ h => h) rfl (by rfl) ?_ hHeld ?_
      rotate_left 1
      · intro w hSw; (try dsimp only at hSw); go_simp; with_reducible rfl
      simp only [List.setIfInBounds_toArray, List.set_cons_zero, List.set_cons_succ]
      refine takeTQ (i := 30) (t := 55) (v := ?_) rfl (by kernel_rfl) (by kernel_rfl) (by kernel_rfl) (fun _ _ _ h => h) rfl (by rfl) ?_ hHeld ?_
      rotate_left 1
      · intro w hSw; (try dsimp only at hSw); go_simp; with_reducible rfl
      simp only [List.setIfInBounds_toArray, List.set_cons_zero, List.set_cons_succ]
      refine takeTQ (i := 31) (t := 56) (v := ?_) rfl (by kernel_rfl) (by kernel_rfl) (by kernel_rfl) (fun _ _ _ h => h) rfl (by rfl) ?_ hHeld ?_
      rotate_left 1
      · intro w hSw; (try dsimp only at hSw); go_simp; with_reducible rfl
      simp only [List.setIfInBounds_toArray, List.set_cons_zero, List.set_cons_succ]
      refine takeTQ (i := 32) (t := 57) (v := ?_) rfl (by kernel_rfl) (by kernel_rfl) (by kernel_rfl) (fun _ _ _ h => h) rfl (by rfl) ?_ hHeld ?_
      rotate_left 1
      · intro w hSw; (try dsimp only at hSw); go_simp; with_reducible rfl
      simp only [List.setIfInBounds_toArray, List.set_cons_zero, List.set_cons_succ]
      refine takeTQ (i := 40) (t := 65) (v := ?_) rfl (by kernel_rfl) (by kernel_rfl) (by kernel_rfl) (fun _ _ _ h => h) rfl (by rfl) ?_ hHeld ?_
      rotate_left 1
      · intro w hSw; (try dsimp only at hSw); go_simp; with_reducible rfl
      simp only [List.setIfInBounds_toArray, List.set_cons_zero, List.set_cons_succ]
      refine takeTQ (i := 41) (t := 66) (v := ?_) rfl (by kernel_rfl) (by kernel_rfl) (by kernel_rfl) (fun _ _ _ h => h) rfl (by rfl) ?_ hHeld ?_
      rotate_left 1
      · intro w hSw; (try dsimp only at hSw); go_simp; with_reducible rfl
      simp only [List.setIfInBounds_toArray, List.set_cons_zero, List.set_cons_succ]
      refine takeTQ (i := 42) (t := 67) (v := ?_) rfl (by kernel_rfl) (by kernel_rfl) (by kernel_rfl) (fun _ _ _ h => h) rfl (by rfl) ?_ hHeld ?_
      rotate_left 1
      · intro w hSw; (try dsimp only at hSw); go_simp; with_reducible rfl
      simp only [List.setIfInBounds_toArray, List.set_cons_zero, List.set_cons_succ]
      refine wpAnyH_ready (rs := [33]) (by kernel_rfl) (by simp) ?_
      refine AllReadyH.cons rfl (fun K hK => ?_) AllReadyH.nil
      simp only [List.getElem_toArray, List.getElem_cons_succ, List.getElem_cons_zero]
      go_simp
      (have HX := HS5.out; (with_reducible refine Calls.mono (HC6.out _ HX) ?_); rintro e u6 ⟨rfl, hb6⟩; have HS6 := hide (below_then HX hb6); clear HX)
      go_wp2_with fail
      refine hK.out _ _ (HKS.out _ HS6.out) (fun hHeld => ?_)
      clear hK K
      refine takeTQ (i := 34) (t := 59) (v := ?_) rfl (by kernel_rfl) (by kernel_rfl) (by kernel_rfl) (fun _ _ _ h => h) rfl (by rfl) ?_ hHeld ?_
      rotate_left 1
      · intro w hSw; (try dsimp only at hSw); go_simp; with_reducible rfl
      simp only [List.setIfInBounds_toArray, List.set_cons_zero, List.set_cons_succ]
      refine takeTQ (i := 35) (t := 60) (v := ?_) rfl (by kernel_rfl) (by kernel_rfl) (by kernel_rfl) (fun _ _ _ h => h) rfl (by rfl) ?_ hHeld ?_
      rotate_left 1
      · intro w hSw; (try dsimp only at hSw); go_simp; with_reducible rfl
      simp only [List.setIfInBounds_toArray, List.set_cons_zero, List.set_cons_succ]
      refine takeTQ (i := 36) (t := 61) (v := ?_) rfl (by kernel_rfl) (by kernel_rfl) (by kernel_rfl) (fun _ _ _ h => h) rfl (by rfl) ?_ hHeld ?_
      rotate_left 1
      · intro w hSw; (try dsimp only at hSw); go_simp; with_reducible rfl
      simp only [List.setIfInBounds_toArray, List.set_cons_zero, List.set_cons_succ]
      refine takeTQ (i := 37) (t := 62) (v := ?_) rfl (by kernel_rfl) (by kernel_rfl) (by kernel_rfl) (fun _ _ _ h => h) rfl (by rfl) ?_ hHeld ?_
      rotate_left 1
      · intro w hSw; (try dsimp only at hSw); go_simp; with_reducible rfl
      simp only [List.setIfInBounds_toArray, List.set_cons_zero, List.set_cons_succ]
      refine wpAnyH_ready (rs := [38]) (by kernel_rfl) (by simp) ?_
      refine AllReadyH.cons rfl (fun K hK => ?_) AllReadyH.nil
      simp only [List.getElem_toArray, List.getElem_cons_succ, List.getElem_cons_zero]
      go_simp
      (have HX := HS6.out; (with_reducible refine Calls.mono (HC7.out _ HX) ?_); rintro e u7 ⟨rfl, hb7⟩; have HS7 := hide (below_then HX hb7); clear HX)
      go_wp2_with fail
      refine hK.out _ _ (HKS.out _ HS7.out) (fun hHeld => ?_)
      clear hK K
      refine takeTQ (i := 39) (t := 64) (v := ?_) rfl (by kernel_rfl) (by kernel_rfl) (by kernel_rfl) (fun _ _ _ h => h) rfl (by rfl) ?_ hHeld ?_
      rotate_left 1
      · intro w hSw; (try dsimp only at hSw); go_simp; with_reducible rfl
      simp only [List.setIfInBounds_toArray, List.set_cons_zero, List.set_cons_succ]
      refine wpAnyH_ready (rs := [43]) (by kernel_rfl) (by simp) ?_
      refine AllReadyH.cons rfl (fun K hK => ?_) AllReadyH.nil
      simp only [List.getElem_toArray, List.getElem_cons_succ, List.getElem_cons_zero]
      go_simp
      (have HX := HS7.out; (with_reducible refine Calls.mono (HC4.out _ HX) ?_); rintro e u8 ⟨rfl, hb8⟩; have HS8 := hide (below_then HX hb8); clear HX)
      go_wp2_with fail
      refine hK.out _ _ (HKS.out _ HS8.out) (fun hHeld => ?_)
      clear hK K
      refine takeTQ (i := 44) (t := 69) (v := ?_) rfl (by kernel_rfl) (by kernel_rfl) (by kernel_rfl) (fun _ _ _ h => h) rfl (by rfl) ?_ hHeld ?_
      rotate_left 1
      · intro w hSw; (try dsimp only at hSw); go_simp; with_reducible rfl
      simp only [List.setIfInBounds_toArray, List.set_cons_zero, List.set_cons_succ]
      refine takeTQ (i := 45) (t := 70) (v := ?_) rfl (by kernel_rfl) (by kernel_rfl) (by kernel_rfl) (fun _ _ _ h => h) rfl (by rfl) ?_ hHeld ?_
      rotate_left 1
      · intro w hSw; (try dsimp only at hSw); go_simp; with_reducible rfl
      simp only [List.setIfInBounds_toArray, List.set_cons_zero, List.set_cons_succ]
      refine takeTQ (i := 46) (t := 71) (v := ?_) rfl (by kernel_rfl) (by kernel_rfl) (by kernel_rfl) (fun _ _ _ h => h) rfl (by rfl) ?_ hHeld ?_
      rotate_left 1
      · intro w hSw; (try dsimp only at hSw); go_simp; with_reducible rfl
      simp only [List.setIfInBounds_toArray, List.set_cons_zero, List.set_cons_succ]
      refine takeTQ (i := 47) (t := 72) (v := ?_) rfl (by kernel_rfl) (by kernel_rfl) (by kernel_rfl) (fun _ _ _ h => h) rfl (by rfl) ?_ hHeld ?_
      rotate_left 1
      · intro w hSw; (try dsimp only at hSw); go_simp; with_reducible rfl
      simp only [List.setIfInBounds_toArray, List.set_cons_zero, List.set_cons_succ]
      refine takeTQ (i := 48) (t := 73) (v := ?_) rfl (by kernel_rfl) (by kernel_rfl) (by kernel_rfl) (fun _ _ _ h => h) rfl (by rfl) ?_ hHeld ?_
      rotate_left 1
      · intro w hSw; (try dsimp only at hSw); go_simp; with_reducible rfl
      simp only [List.setIfInBounds_toArray, List.set_cons_zero, List.set_cons_succ]
      refine wpAnyH_ready (rs := [49]) (by kernel_rfl) (by simp) ?_
      refine AllReadyH.cons rfl (fun K hK => ?_) AllReadyH.nil
      simp only [List.getElem_toArray, List.getElem_cons_succ, List.getElem_cons_zero]
      go_simp
      (have HX := HS8.out; (with_reducible refine Calls.mono (HC8.out _ HX) ?_); rintro e u9 ⟨rfl, hb9⟩; have HS9 := hide (below_then HX hb9); clear HX)
      go_wp2_with fail
      refine hK.out _ _ (HKS.out _ HS9.out) (fun hHeld => ?_)
      clear hK K
      refine takeTQ (i := 50) (t := 75) (v := ?_) rfl (by kernel_rfl) (by kernel_rfl) (by kernel_rfl) (fun _ _ _ h => h) rfl (by rfl) ?_ hHeld ?_
      rotate_left 1
      · intro w hSw; (try dsimp only at hSw); go_simp; with_reducible rfl
      simp only [List.setIfInBounds_toArray, List.set_cons_zero, List.set_cons_succ]
      refine takeTQ (i := 51) (t := 76) (v := ?_) rfl (by kernel_rfl) (by kernel_rfl) (by kernel_rfl) (fun _ _ _ h => h) rfl (by rfl) ?_ hHeld ?_
      rotate_left 1
      · intro w hSw; (try dsimp only at hSw); go_simp; with_reducible rfl
      simp only [List.setIfInBounds_toArray, List.set_cons_zero, List.set_cons_succ]
      refine skipTQ (i := 52) (t := 77) rfl (by kernel_rfl) (by kernel_rfl) (by kernel_rfl) (fun _ _ _ h => h) rfl (by rfl) hHeld ?_
      simp only [List.setIfInBounds_toArray, List.set_cons_zero, List.set_cons_succ]
      refine skipTQ (i := 53) (t := 78) rfl (by kernel_rfl) (by kernel_rfl) (by kernel_rfl) (fun _ _ _ h => h) rfl (by rfl) hHeld ?_
      simp only [List.setIfInBounds_toArray, List.set_cons_zero, List.set_cons_succ]
      refine skipTQ (i := 54) (t := 79) rfl (by kernel_rfl) (by kernel_rfl) (by kernel_rfl) (fun _ _ _ h => h) rfl (by rfl) hHeld ?_
      simp only [List.setIfInBounds_toArray, List.set_cons_zero, List.set_cons_succ]
      refine skipCQ (i := 55) (t := 80) (by kernel_rfl) rfl rfl (by rfl) hHeld ?_
      simp only [List.setIfInBounds_toArray, List.set_cons_zero, List.set_cons_succ]
      refine takeTQ (i := 56) (t := 81) (v := ?_) rfl (by kernel_rfl) (by kernel_rfl) (by kernel_rfl) (fun _ _ _ h => h) rfl (by rfl) ?_ hHeld ?_
      rotate_left 1
      · intro w hSw; (try dsimp only at hSw); go_simp; with_reducible rfl
      simp only [List.setIfInBounds_toArray, List.set_cons_zero, List.set_cons_succ]
      refine takeTQ (i := 57) (t := 82) (v := ?_) rfl (by kernel_rfl) (by kernel_rfl) (by kernel_rfl) (fun _ _ _ h => h) rfl (by rfl) ?_ hHeld ?_
      rotate_left 1
      · intro w hSw; (try dsimp only at hSw); go_simp; with_reducible rfl
      simp only [List.setIfInBounds_toArray, List.set_cons_zero, List.set_cons_succ]
      refine takeTQ (i := 58) (t := 2) (v := ?_) rfl (by kernel_rfl) (by kernel_rfl) (by kernel_rfl) (fun _ _ _ h => h) rfl (by rfl) ?_ hHeld ?_
      rotate_left 1
      · intro w hSw; (try dsimp only at hSw); go_simp; with_reducible rfl
      simp only [List.setIfInBounds_toArray, List.set_cons_zero, List.set_cons_succ]
      refine wpAnyH_done (by kernel_rfl) ?_ _
      go_wp2_with fail
      go_ret
      exact ⟨rfl, below_then HTT.out HS9.out⟩
    · rw [i3 (by omega)] at HC4 HC5 HC7
      have hd : decide (bk < 0) = false := decide_eq_false hk
      have hk' : (bk < 0) = False := eq_false hk
      refine wp_region_held_drew (S := (fun w' => w'.cell? ⟨w1.heap.size, 0, none⟩ = some (.bool pb) ∧ w'.cell? ⟨w1.heap.size, 1, none⟩ = some (.slice pA pn pc) ∧ w'.cell? ⟨w1.heap.size, 2, none⟩ = some (.slice pD pm pk) ∧ w'.cell? ⟨w1.heap.size, 3, none⟩ = some (.bool pyb) ∧ w'.cell? ⟨w1.heap.size, 4, none⟩ = some (.slice pyA pyn pyc) ∧ w'.cell? ⟨w1.heap.size, 5, none⟩ = some (.slice pyD pym pyk) ∧ w'.cell? ⟨w3.heap.size, 0, none⟩ = some (.bool qb) ∧ w'.cell? ⟨w3.heap.size, 1, none⟩ = some (.slice qA qn qc) ∧ w'.cell? ⟨w3.heap.size, 2, none⟩ = some (.slice qD qm qk) ∧ w'.cell? ⟨w3.heap.size, 3, none⟩ = some (.bool qyb) ∧ w'.cell? ⟨w3.heap.size, 4, none⟩ = some (.slice qyA qyn qyc) ∧ w'.cell? ⟨w3.heap.size, 5, none⟩ = some (.slice qyD qym qyk) ∧ w'.cell? ⟨w5.heap.size, 0, none⟩ = some (.bool rb) ∧ w'.cell? ⟨w5.heap.size, 1, none⟩ = some (.slice rA rn rc) ∧ w'.cell? ⟨w5.heap.size, 2, none⟩ = some (.slice rD rm rk) ∧ w'.cell? ⟨w5.heap.size, 3, none⟩ = some (.bool ryb) ∧ w'.cell? ⟨w5.heap.size, 4, none⟩ = some (.slice ryA ryn ryc) ∧ w'.cell? ⟨w5.heap.size, 5, none⟩ = some (.slice ryD rym ryk) ∧ w'.cell? ⟨w7.heap.size, 0, none⟩ = some (.bool tb) ∧ w'.cell? ⟨w7.heap.size, 1, none⟩ = some (.slice tA tn tc) ∧ w'.cell? ⟨w7.heap.size, 2, none⟩ = some (.slice tD tm tk) ∧ w'.cell? ⟨w7.heap.size, 3, none⟩ = some (.bool tyb) ∧ w'.cell? ⟨w7.heap.size, 4, none⟩ = some (.slice tyA tyn tyc) ∧ w'.cell? ⟨w7.heap.size, 5, none⟩ = some (.slice tyD tym tyk) ∧ w'.cell? ⟨w10.heap.size, 0, none⟩ = some (.bool mb) ∧ w'.cell? ⟨w10.heap.size, 1, none⟩ = some (.slice mA mn mc) ∧ w'.cell? ⟨w10.heap.size, 2, none⟩ = some (.slice mD mm mk) ∧ w'.cell? ⟨w10.heap.size, 3, none⟩ = some (.bool myb) ∧ w'.cell? ⟨w10.heap.size, 4, none⟩ = some (.slice myA myn myc) ∧ w'.cell? ⟨w10.heap.size, 5, none⟩ = some (.slice myD mym myk))) (by kernel_rfl) (HKS.out _ HS0.out) (fun hHeld => ?_)
      show wpAnyH _ _ _ _ _ 59 _ _ _
      refine takeTQ (i := 0) (t := 25) (v := ?_) rfl (by kernel_rfl) (by kernel_rfl) (by kernel_rfl) (fun _ _ _ h => h) rfl (by rfl) ?_ hHeld ?_
      rotate_left 1
      · intro w hSw; (try dsimp only at hSw); go_simp; with_reducible rfl
      simp only [List.setIfInBounds_toArray, List.set_cons_zero, List.set_cons_succ]
      refine takeTQ (i := 1) (t := 26) (v := ?_) rfl (by kernel_rfl) (by kernel_rfl) (by kernel_rfl) (fun _ _ _ h => h) rfl (by rfl) ?_ hHeld ?_
      rotate_left 1
      · intro w hSw; (try dsimp only at hSw); go_simp; with_reducible rfl
      simp only [List.setIfInBounds_toArray, List.set_cons_zero, List.set_cons_succ]
      refine takeTQ (i := 2) (t := 27) (v := ?_) rfl (by kernel_rfl) (by kernel_rfl) (by kernel_rfl) (fun _ _ _ h => h) rfl (by rfl) ?_ hHeld ?_
      rotate_left 1
      · intro w hSw; (try dsimp only at hSw); go_simp; with_reducible rfl
      simp only [List.setIfInBounds_toArray, List.set_cons_zero, List.set_cons_succ]
      refine takeTQ (i := 3) (t := 28) (v := ?_) rfl (by kernel_rfl) (by kernel_rfl) (by kernel_rfl) (fun _ _ _ h => h) rfl (by rfl) ?_ hHeld ?_
      rotate_left 1
      · intro w hSw; (try dsimp only at hSw); go_simp; with_reducible rfl
      simp only [List.setIfInBounds_toArray, List.set_cons_zero, List.set_cons_succ]
      refine wpAnyH_ready (rs := [4]) (by kernel_rfl) (by simp) ?_
      refine AllReadyH.cons rfl (fun K hK => ?_) AllReadyH.nil
      simp only [List.getElem_toArray, List.getElem_cons_succ, List.getElem_cons_zero]
      go_simp
      (have HX := HS0.out; (with_reducible refine Calls.mono (HC1.out _ HX) ?_); rintro e u1 ⟨rfl, hb1⟩; have HS1 := hide (below_then HX hb1); clear HX)
      go_wp2_with fail
      refine hK.out _ _ (HKS.out _ HS1.out) (fun hHeld => ?_)
      clear hK K
      refine takeTQ (i := 5) (t := 30) (v := ?_) rfl (by kernel_rfl) (by kernel_rfl) (by kernel_rfl) (fun _ _ _ h => h) rfl (by rfl) ?_ hHeld ?_
      rotate_left 1
      · intro w hSw; (try dsimp only at hSw); go_simp; with_reducible rfl
      simp only [List.setIfInBounds_toArray, List.set_cons_zero, List.set_cons_succ]
      refine takeTQ (i := 6) (t := 31) (v := ?_) rfl (by kernel_rfl) (by kernel_rfl) (by kernel_rfl) (fun _ _ _ h => h) rfl (by rfl) ?_ hHeld ?_
      rotate_left 1
      · intro w hSw; (try dsimp only at hSw); go_simp; with_reducible rfl
      simp only [List.setIfInBounds_toArray, List.set_cons_zero, List.set_cons_succ]
      refine takeTQ (i := 7) (t := 32) (v := ?_) rfl (by kernel_rfl) (by kernel_rfl) (by kernel_rfl) (fun _ _ _ h => h) rfl (by rfl) ?_ hHeld ?_
      rotate_left 1
      · intro w hSw; (try dsimp only at hSw); go_simp; with_reducible rfl
      simp only [List.setIfInBounds_toArray, List.set_cons_zero, List.set_cons_succ]
      refine takeTQ (i := 8) (t := 33) (v := ?_) rfl (by kernel_rfl) (by kernel_rfl) (by kernel_rfl) (fun _ _ _ h => h) rfl (by rfl) ?_ hHeld ?_
      rotate_left 1
      · intro w hSw; (try dsimp only at hSw); go_simp; with_reducible rfl
      simp only [List.setIfInBounds_toArray, List.set_cons_zero, List.set_cons_succ]
      refine takeTQ (i := 9) (t := 34) (v := ?_) rfl (by kernel_rfl) (by kernel_rfl) (by kernel_rfl) (fun _ _ _ h => h) rfl (by rfl) ?_ hHeld ?_
      rotate_left 1
      · intro w hSw; (try dsimp only at hSw); go_simp; with_reducible rfl
      simp only [List.setIfInBounds_toArray, List.set_cons_zero, List.set_cons_succ]
      refine takeTQ (i := 11) (t := 36) (v := ?_) rfl (by kernel_rfl) (by kernel_rfl) (by kernel_rfl) (fun _ _ _ h => h) rfl (by rfl) ?_ hHeld ?_
      rotate_left 1
      · intro w hSw; (try dsimp only at hSw); go_simp; with_reducible rfl
      simp only [List.setIfInBounds_toArray, List.set_cons_zero, List.set_cons_succ]
      refine takeTQ (i := 12) (t := 37) (v := ?_) rfl (by kernel_rfl) (by kernel_rfl) (by kernel_rfl) (fun _ _ _ h => h) rfl (by rfl) ?_ hHeld ?_
      rotate_left 1
      · intro w hSw; (try dsimp only at hSw); go_simp; with_reducible rfl
      simp only [List.setIfInBounds_toArray, List.set_cons_zero, List.set_cons_succ]
      refine takeTQ (i := 13) (t := 38) (v := ?_) rfl (by kernel_rfl) (by kernel_rfl) (by kernel_rfl) (fun _ _ _ h => h) rfl (by rfl) ?_ hHeld ?_
      rotate_left 1
      · intro w hSw; (try dsimp only at hSw); go_simp; with_reducible rfl
      simp only [List.setIfInBounds_toArray, List.set_cons_zero, List.set_cons_succ]
      refine takeTQ (i := 14) (t := 39) (v := ?_) rfl (by kernel_rfl) (by kernel_rfl) (by kernel_rfl) (fun _ _ _ h => h) rfl (by rfl) ?_ hHeld ?_
      rotate_left 1
      · intro w hSw; (try dsimp only at hSw); go_simp; with_reducible rfl
      simp only [List.setIfInBounds_toArray, List.set_cons_zero, List.set_cons_succ]
      refine wpAnyH_ready (rs := [10]) (by kernel_rfl) (by simp) ?_
      refine AllReadyH.cons rfl (fun K hK => ?_) AllReadyH.nil
      simp only [List.getElem_toArray, List.getElem_cons_succ, List.getElem_cons_zero]
      go_simp
      (have HX := HS1.out; (with_reducible refine Calls.mono (HC2.out _ HX) ?_); rintro e u2 ⟨rfl, hb2⟩; have HS2 := hide (below_then HX hb2); clear HX)
      go_wp2_with fail
      refine hK.out _ _ (HKS.out _ HS2.out) (fun hHeld => ?_)
      clear hK K
      refine wpAnyH_ready (rs := [15]) (by kernel_rfl) (by simp) ?_
      refine AllReadyH.cons rfl (fun K hK => ?_) AllReadyH.nil
      simp only [List.getElem_toArray, List.getElem_cons_succ, List.getElem_cons_zero]
      go_simp
      (have HX := HS2.out; (with_reducible refine Calls.mono (HC3.out _ HX) ?_); rintro e u3 ⟨rfl, hb3⟩; have HS3 := hide (below_then HX hb3); clear HX)
      go_wp2_with fail
      refine hK.out _ _ (HKS.out _ HS3.out) (fun hHeld => ?_)
      clear hK K
      refine takeTQ (i := 16) (t := 41) (v := ?_) rfl (by kernel_rfl) (by kernel_rfl) (by kernel_rfl) (fun _ _ _ h => h) rfl (by rfl) ?_ hHeld ?_
      rotate_left 1
      · intro w hSw; (try dsimp only at hSw); go_simp; with_reducible rfl
      simp only [List.setIfInBounds_toArray, List.set_cons_zero, List.set_cons_succ]
      refine takeTQ (i := 17) (t := 42) (v := ?_) rfl (by kernel_rfl) (by kernel_rfl) (by kernel_rfl) (fun _ _ _ h => h) rfl (by rfl) ?_ hHeld ?_
      rotate_left 1
      · intro w hSw; (try dsimp only at hSw); go_simp; with_reducible rfl
      simp only [List.setIfInBounds_toArray, List.set_cons_zero, List.set_cons_succ]
      refine takeTQ (i := 18) (t := 43) (v := ?_) rfl (by kernel_rfl) (by kernel_rfl) (by kernel_rfl) (fun _ _ _ h => h) rfl (by rfl) ?_ hHeld ?_
      rotate_left 1
      · intro w hSw; (try dsimp only at hSw); go_simp; with_reducible rfl
      simp only [List.setIfInBounds_toArray, List.set_cons_zero, List.set_cons_succ]
      refine takeTQ (i := 19) (t := 44) (v := ?_) rfl (by kernel_rfl) (by kernel_rfl) (by kernel_rfl) (fun _ _ _ h => h) rfl (by rfl) ?_ hHeld ?_
      rotate_left 1
      · intro w hSw; (try dsimp only at hSw); go_simp; with_reducible rfl
      simp only [List.setIfInBounds_toArray, List.set_cons_zero, List.set_cons_succ]
      refine takeTQ (i := 20) (t := 45) (v := ?_) rfl (by kernel_rfl) (by kernel_rfl) (by kernel_rfl) (fun _ _ _ h => h) rfl (by rfl) ?_ hHeld ?_
      rotate_left 1
      · intro w hSw; (try dsimp only at hSw); go_simp; with_reducible rfl
      simp only [List.setIfInBounds_toArray, List.set_cons_zero, List.set_cons_succ]
      refine takeTQ (i := 21) (t := 46) (v := ?_) rfl (by kernel_rfl) (by kernel_rfl) (by kernel_rfl) (fun _ _ _ h => h) rfl (by rfl) ?_ hHeld ?_
      rotate_left 1
      · intro w hSw; (try dsimp only at hSw); go_simp; with_reducible rfl
      simp only [List.setIfInBounds_toArray, List.set_cons_zero, List.set_cons_succ]
      refine takeTQ (i := 23) (t := 48) (v := ?_) rfl (by kernel_rfl) (by kernel_rfl) (by kernel_rfl) (fun _ _ _ h => h) rfl (by rfl) ?_ hHeld ?_
      rotate_left 1
      · intro w hSw; (try dsimp only at hSw); go_simp; with_reducible rfl
      simp only [List.setIfInBounds_toArray, List.set_cons_zero, List.set_cons_succ]
      refine takeTQ (i := 24) (t := 49) (v := ?_) rfl (by kernel_rfl) (by kernel_rfl) (by kernel_rfl) (fun _ _ _ h => h) rfl (by rfl) ?_ hHeld ?_
      rotate_left 1
      · intro w hSw; (try dsimp only at hSw); go_simp; with_reducible rfl
      simp only [List.setIfInBounds_toArray, List.set_cons_zero, List.set_cons_succ]
      refine takeTQ (i := 25) (t := 50) (v := ?_) rfl (by kernel_rfl) (by kernel_rfl) (by kernel_rfl) (fun _ _ _ h => h) rfl (by rfl) ?_ hHeld ?_
      rotate_left 1
      · intro w hSw; (try dsimp only at hSw); go_simp; with_reducible rfl
      simp only [List.setIfInBounds_toArray, List.set_cons_zero, List.set_cons_succ]
      refine wpAnyH_ready (rs := [22]) (by kernel_rfl) (by simp) ?_
      refine AllReadyH.cons rfl (fun K hK => ?_) AllReadyH.nil
      simp only [List.getElem_toArray, List.getElem_cons_succ, List.getElem_cons_zero]
      go_simp
      (have HX := HS3.out; (with_reducible refine Calls.mono (HC4.out _ HX) ?_); rintro e u4 ⟨rfl, hb4⟩; have HS4 := hide (below_then HX hb4); clear HX)
      go_wp2_with fail
      refine hK.out _ _ (HKS.out _ HS4.out) (fun hHeld => ?_)
      clear hK K
      refine wpAnyH_ready (rs := [26]) (by kernel_rfl) (by simp) ?_
      refine AllReadyH.cons rfl (fun K hK => ?_) AllReadyH.nil
      simp only [List.getElem_toArray, List.getElem_cons_succ, List.getElem_cons_zero]
      go_simp
      (have HX := HS4.out; (with_reducible refine Calls.mono (HC5.out _ HX) ?_); rintro e u5 ⟨rfl, hb5⟩; have HS5 := hide (below_then HX hb5); clear HX)
      go_wp2_with fail
      refine hK.out _ _ (HKS.out _ HS5.out) (fun hHeld => ?_)
      clear hK K
      refine takeTQ (i := 27) (t := 52) (v := ?_) rfl (by kernel_rfl) (by kernel_rfl) (by kernel_rfl) (fun _ _ _ h => h) rfl (by rfl) ?_ hHeld ?_
      rotate_left 1
      · intro w hSw; (try dsimp only at hSw); go_simp; with_reducible rfl
      simp only [List.setIfInBounds_toArray, List.set_cons_zero, List.set_cons_succ]
      refine takeTQ (i := 28) (t := 53) (v := ?_) rfl (by kernel_rfl) (by kernel_rfl) (by kernel_rfl) (fun _ _ _ h => h) rfl (by rfl) ?_ hHeld ?_
      rotate_left 1
      · intro w hSw; (try dsimp only at hSw); go_simp; with_reducible rfl
      simp only [List.setIfInBounds_toArray, List.set_cons_zero, List.set_cons_succ]
      refine takeTQ (i := 29) (t := 54) (v := ?_) rfl (by kernel_rfl) (by kernel_rfl) (by kernel_rfl) (fun _ _ _ h => h) rfl (by rfl) ?_ hHeld ?_
      rotate_left 1
      · intro w hSw; (try dsimp only at hSw); go_simp; with_reducible rfl
      simp only [List.setIfInBounds_toArray, List.set_cons_zero, List.set_cons_succ]
      refine takeTQ (i := 30) (t := 55) (v := ?_) rfl (by kernel_rfl) (by kernel_rfl) (by kernel_rfl) (fun _ _ _ h => h) rfl (by rfl) ?_ hHeld ?_
      rotate_left 1
      · intro w hSw; (try dsimp only at hSw); go_simp; with_reducible rfl
      simp only [List.setIfInBounds_toArray, List.set_cons_zero, List.set_cons_succ]
      refine takeTQ (i := 31) (t := 56) (v := ?_) rfl (by kernel_rfl) (by kernel_rfl) (by kernel_rfl) (fun _ _ _ h => h) rfl (by rfl) ?_ hHeld ?_
      rotate_left 1
      · intro w hSw; (try dsimp only at hSw); go_simp; with_reducible rfl
      simp only [List.setIfInBounds_toArray, List.set_cons_zero, List.set_cons_succ]
      refine takeTQ (i := 32) (t := 57) (v := ?_) rfl (by kernel_rfl) (by kernel_rfl) (by kernel_rfl) (fun _ _ _ h => h) rfl (by rfl) ?_ hHeld ?_
      rotate_left 1
      · intro w hSw; (try dsimp only at hSw); go_simp; with_reducible rfl
      simp only [List.setIfInBounds_toArray, List.set_cons_zero, List.set_cons_succ]
      refine takeTQ (i := 40) (t := 65) (v := ?_) rfl (by kernel_rfl) (by kernel_rfl) (by kernel_rfl) (fun _ _ _ h => h) rfl (by rfl) ?_ hHeld ?_
      rotate_left 1
      · intro w hSw; (try dsimp only at hSw); go_simp; with_reducible rfl
      simp only [List.setIfInBounds_toArray, List.set_cons_zero, List.set_cons_succ]
      refine takeTQ (i := 41) (t := 66) (v := ?_) rfl (by kernel_rfl) (by kernel_rfl) (by kernel_rfl) (fun _ _ _ h => h) rfl (by rfl) ?_ hHeld ?_
      rotate_left 1
      · intro w hSw; (try dsimp only at hSw); go_simp; with_reducible rfl
      simp only [List.setIfInBounds_toArray, List.set_cons_zero, List.set_cons_succ]
      refine takeTQ (i := 42) (t := 67) (v := ?_) rfl (by kernel_rfl) (by kernel_rfl) (by kernel_rfl) (fun _ _ _ h => h) rfl (by rfl) ?_ hHeld ?_
      rotate_left 1
      · intro w hSw; (try dsimp only at hSw); go_simp; with_reducible rfl
      simp only [List.setIfInBounds_toArray, List.set_cons_zero, List.set_cons_succ]
      refine wpAnyH_ready (rs := [33]) (by kernel_rfl) (by simp) ?_
      refine AllReadyH.cons rfl (fun K hK => ?_) AllReadyH.nil
      simp only [List.getElem_toArray, List.getElem_cons_succ, List.getElem_cons_zero]
      go_simp
      (have HX := HS5.out; (with_reducible refine Calls.mono (HC6.out _ HX) ?_); rintro e u6 ⟨rfl, hb6⟩; have HS6 := hide (below_then HX hb6); clear HX)
      go_wp2_with fail
      refine hK.out _ _ (HKS.out _ HS6.out) (fun hHeld => ?_)
      clear hK K
      refine takeTQ (i := 34) (t := 59) (v := ?_) rfl (by kernel_rfl) (by kernel_rfl) (by kernel_rfl) (fun _ _ _ h => h) rfl (by rfl) ?_ hHeld ?_
      rotate_left 1
      · intro w hSw; (try dsimp only at hSw); go_simp; with_reducible rfl
      simp only [List.setIfInBounds_toArray, List.set_cons_zero, List.set_cons_succ]
      refine takeTQ (i := 35) (t := 60) (v := ?_) rfl (by kernel_rfl) (by kernel_rfl) (by kernel_rfl) (fun _ _ _ h => h) rfl (by rfl) ?_ hHeld ?_
      rotate_left 1
      · intro w hSw; (try dsimp only at hSw); go_simp; with_reducible rfl
      simp only [List.setIfInBounds_toArray, List.set_cons_zero, List.set_cons_succ]
      refine takeTQ (i := 36) (t := 61) (v := ?_) rfl (by kernel_rfl) (by kernel_rfl) (by kernel_rfl) (fun _ _ _ h => h) rfl (by rfl) ?_ hHeld ?_
      rotate_left 1
      · intro w hSw; (try dsimp only at hSw); go_simp; with_reducible rfl
      simp only [List.setIfInBounds_toArray, List.set_cons_zero, List.set_cons_succ]
      refine takeTQ (i := 37) (t := 62) (v := ?_) rfl (by kernel_rfl) (by kernel_rfl) (by kernel_rfl) (fun _ _ _ h => h) rfl (by rfl) ?_ hHeld ?_
      rotate_left 1
      · intro w hSw; (try dsimp only at hSw); go_simp; with_reducible rfl
      simp only [List.setIfInBounds_toArray, List.set_cons_zero, List.set_cons_succ]
      refine wpAnyH_ready (rs := [38]) (by kernel_rfl) (by simp) ?_
      refine AllReadyH.cons rfl (fun K hK => ?_) AllReadyH.nil
      simp only [List.getElem_toArray, List.getElem_cons_succ, List.getElem_cons_zero]
      go_simp
      (have HX := HS6.out; (with_reducible refine Calls.mono (HC7.out _ HX) ?_); rintro e u7 ⟨rfl, hb7⟩; have HS7 := hide (below_then HX hb7); clear HX)
      go_wp2_with fail
      refine hK.out _ _ (HKS.out _ HS7.out) (fun hHeld => ?_)
      clear hK K
      refine takeTQ (i := 39) (t := 64) (v := ?_) rfl (by kernel_rfl) (by kernel_rfl) (by kernel_rfl) (fun _ _ _ h => h) rfl (by rfl) ?_ hHeld ?_
      rotate_left 1
      · intro w hSw; (try dsimp only at hSw); go_simp; with_reducible rfl
      simp only [List.setIfInBounds_toArray, List.set_cons_zero, List.set_cons_succ]
      refine wpAnyH_ready (rs := [43]) (by kernel_rfl) (by simp) ?_
      refine AllReadyH.cons rfl (fun K hK => ?_) AllReadyH.nil
      simp only [List.getElem_toArray, List.getElem_cons_succ, List.getElem_cons_zero]
      go_simp
      (have HX := HS7.out; (with_reducible refine Calls.mono (HC4.out _ HX) ?_); rintro e u8 ⟨rfl, hb8⟩; have HS8 := hide (below_then HX hb8); clear HX)
      go_wp2_with fail
      refine hK.out _ _ (HKS.out _ HS8.out) (fun hHeld => ?_)
      clear hK K
      refine takeTQ (i := 44) (t := 69) (v := ?_) rfl (by kernel_rfl) (by kernel_rfl) (by kernel_rfl) (fun _ _ _ h => h) rfl (by rfl) ?_ hHeld ?_
      rotate_left 1
      · intro w hSw; (try dsimp only at hSw); go_simp; with_reducible rfl
      simp only [List.setIfInBounds_toArray, List.set_cons_zero, List.set_cons_succ]
      refine takeTQ (i := 45) (t := 70) (v := ?_) rfl (by kernel_rfl) (by kernel_rfl) (by kernel_rfl) (fun _ _ _ h => h) rfl (by rfl) ?_ hHeld ?_
      rotate_left 1
      · intro w hSw; (try dsimp only at hSw); go_simp; with_reducible rfl
      simp only [List.setIfInBounds_toArray, List.set_cons_zero, List.set_cons_succ]
      refine takeTQ (i := 46) (t := 71) (v := ?_) rfl (by kernel_rfl) (by kernel_rfl) (by kernel_rfl) (fun _ _ _ h => h) rfl (by rfl) ?_ hHeld ?_
      rotate_left 1
      · intro w hSw; (try dsimp only at hSw); go_simp; with_reducible rfl
      simp only [List.setIfInBounds_toArray, List.set_cons_zero, List.set_cons_succ]
      refine takeTQ (i := 47) (t := 72) (v := ?_) rfl (by kernel_rfl) (by kernel_rfl) (by kernel_rfl) (fun _ _ _ h => h) rfl (by rfl) ?_ hHeld ?_
      rotate_left 1
      · intro w hSw; (try dsimp only at hSw); go_simp; with_reducible rfl
      simp only [List.setIfInBounds_toArray, List.set_cons_zero, List.set_cons_succ]
      refine takeTQ (i := 48) (t := 73) (v := ?_) rfl (by kernel_rfl) (by kernel_rfl) (by kernel_rfl) (fun _ _ _ h => h) rfl (by rfl) ?_ hHeld ?_
      rotate_left 1
      · intro w hSw; (try dsimp only at hSw); go_simp; with_reducible rfl
      simp only [List.setIfInBounds_toArray, List.set_cons_zero, List.set_cons_succ]
      refine wpAnyH_ready (rs := [49]) (by kernel_rfl) (by simp) ?_
      refine AllReadyH.cons rfl (fun K hK => ?_) AllReadyH.nil
      simp only [List.getElem_toArray, List.getElem_cons_succ, List.getElem_cons_zero]
      go_simp
      (have HX := HS8.out; (with_reducible refine Calls.mono (HC8.out _ HX) ?_); rintro e u9 ⟨rfl, hb9⟩; have HS9 := hide (below_then HX hb9); clear HX)
      go_wp2_with fail
      refine hK.out _ _ (HKS.out _ HS9.out) (fun hHeld => ?_)
      clear hK K
      refine takeTQ (i := 50) (t := 75) (v := ?_) rfl (by kernel_rfl) (by kernel_rfl) (by kernel_rfl) (fun _ _ _ h => h) rfl (by rfl) ?_ hHeld ?_
      rotate_left 1
      · intro w hSw; (try dsimp only at hSw); go_simp; with_reducible rfl
      simp only [List.setIfInBounds_toArray, List.set_cons_zero, List.set_cons_succ]
      refine takeTQ (i := 51) (t := 76) (v := ?_) rfl (by kernel_rfl) (by kernel_rfl) (by kernel_rfl) (fun _ _ _ h => h) rfl (by rfl) ?_ hHeld ?_
      rotate_left 1
      · intro w hSw; (try dsimp only at hSw); go_simp; with_reducible rfl
      simp only [List.setIfInBounds_toArray, List.set_cons_zero, List.set_cons_succ]
      refine takeTQ (i := 52) (t := 77) (v := ?_) rfl (by kernel_rfl) (by kernel_rfl) (by kernel_rfl) (fun _ _ _ h => h) rfl (by rfl) ?_ hHeld ?_
      rotate_left 1
      · intro w hSw; (try dsimp only at hSw); go_simp; with_reducible rfl
      simp only [List.setIfInBounds_toArray, List.set_cons_zero, List.set_cons_succ]
      refine takeTQ (i := 53) (t := 78) (v := ?_) rfl (by kernel_rfl) (by kernel_rfl) (by kernel_rfl) (fun _ _ _ h => h) rfl (by rfl) ?_ hHeld ?_
      rotate_left 1
      · intro w hSw; (try dsimp only at hSw); go_simp; with_reducible rfl
      simp only [List.setIfInBounds_toArray, List.set_cons_zero, List.set_cons_succ]
      refine takeTQ (i := 54) (t := 79) (v := ?_) rfl (by kernel_rfl) (by kernel_rfl) (by kernel_rfl) (fun _ _ _ h => h) rfl (by rfl) ?_ hHeld ?_
      rotate_left 1
      · intro w hSw; (try dsimp only at hSw); go_simp; with_reducible rfl
      simp only [List.setIfInBounds_toArray, List.set_cons_zero, List.set_cons_succ]
      refine wpAnyH_ready (rs := [55]) (by kernel_rfl) (by simp) ?_
      refine AllReadyH.cons rfl (fun K hK => ?_) AllReadyH.nil
      simp only [List.getElem_toArray, List.getElem_cons_succ, List.getElem_cons_zero]
      go_simp
      (have HX := HS9.out; (with_reducible refine Calls.mono (HC4.out _ HX) ?_); rintro e u10 ⟨rfl, hb10⟩; have HS10 := hide (below_then HX hb10); clear HX)
      go_wp2_with fail
      refine hK.out _ _ (HKS.out _ HS10.out) (fun hHeld => ?_)
      clear hK K
      refine takeTQ (i := 56) (t := 81) (v := ?_) rfl (by kernel_rfl) (by kernel_rfl) (by kernel_rfl) (fun _ _ _ h => h) rfl (by rfl) ?_ hHeld ?_
      rotate_left 1
      · intro w hSw; (try dsimp only at hSw); go_simp; with_reducible rfl
      simp only [List.setIfInBounds_toArray, List.set_cons_zero, List.set_cons_succ]
      refine takeTQ (i := 57) (t := 82) (v := ?_) rfl (by kernel_rfl) (by kernel_rfl) (by kernel_rfl) (fun _ _ _ h => h) rfl (by rfl) ?_ hHeld ?_
      rotate_left 1
      · intro w hSw; (try dsimp only at hSw); go_simp; with_reducible rfl
      simp only [List.setIfInBounds_toArray, List.set_cons_zero, List.set_cons_succ]
      refine takeTQ (i := 58) (t := 2) (v := ?_) rfl (by kernel_rfl) (by kernel_rfl) (by kernel_rfl) (fun _ _ _ h => h) rfl (by rfl) ?_ hHeld ?_
      rotate_left 1
      · intro w hSw; (try dsimp only at hSw); go_simp; with_reducible rfl
      simp only [List.setIfInBounds_toArray, List.set_cons_zero, List.set_cons_succ]
      refine wpAnyH_done (by kernel_rfl) ?_ _
      go_wp2_with fail
      go_ret
      exact ⟨rfl, below_then HTT.out HS10.out⟩
end Go.Proofs.YtcpncoonbdbkmaaGreat
