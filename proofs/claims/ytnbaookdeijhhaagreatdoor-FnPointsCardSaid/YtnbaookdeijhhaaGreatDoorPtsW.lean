/-
  The law FnPoints: contracts whose value is known; its walk.
-/
import Derived.Test.YtnbaookdeijhhaaGreatDoorPtD
import Derived.Test.YtnbaookdeijhhaaGreatDoorPtN
import Derived.Test.YtnbaookdeijhhaaGreatDoorPtI5
import Derived.Test.YtnbaookdeijhhaaGreatDoorPtF
import Derived.Test.YtnbaookdeijhhaaGreatDoorPtP
import Derived.Test.YtnbaookdeijhhaaGreatDoorPtP2
import Derived.Test.YtnbaookdeijhhaaGreatDoorRatX
import Derived.Deep.RegionHeld3
import Derived.Deep.CutRange
import Derived.Sort.AtCall
namespace Go.Proofs.YtnbaookdeijhhaaGreatDoor
open Go.RowKit
set_option linter.unusedVariables false
theorem sameP_self (P : PQ) : sameP P P = true := by
  rw [sameP, show sameQ P.1 P.1 = true from sameR_self P.1, show sameQ P.2 P.2 = true from sameR_self P.2]; rfl
theorem is_samePt (w : World) (B : Nat) (hB : B ≤ w.heap.size) {p0 p1 p2 p3 p4 p5 : Value} {P : PQ} (hp : PIn w B p0 p1 p2 p3 p4 p5 P) {q0 q1 q2 q3 q4 q5 : Value} (hq : PIn w B q0 q1 q2 q3 q4 q5 P) :
    Calls Tryz.prog 26 #[.agg #[p0, p1, p2, p3, p4, p5], .agg #[q0, q1, q2, q3, q4, q5]] w fun e w' => e = .returned (.bool true) ∧ Below w.heap.size w w' := by
  have h := impl_SamePoint w B hB hp hq
  rw [sameP_self] at h
  exact h
theorem is_side (w : World) (B : Nat) (hB : B ≤ w.heap.size) {p0 p1 p2 p3 p4 p5 : Value} {P : PQ} (hp : PIn w B p0 p1 p2 p3 p4 p5 P) {q0 q1 q2 q3 q4 q5 : Value} {Q : PQ} (hq : PIn w B q0 q1 q2 q3 q4 q5 Q) {r0 r1 r2 r3 r4 r5 : Value} {R : PQ} (hr : PIn w B r0 r1 r2 r3 r4 r5 R) {C : Int} (hC : sideP P Q R = C) :
    Calls Tryz.prog 27 #[.agg #[p0, p1, p2, p3, p4, p5], .agg #[q0, q1, q2, q3, q4, q5], .agg #[r0, r1, r2, r3, r4, r5]] w fun e w' => e = .returned (.int .i64 C) ∧ Below w.heap.size w w' := by
  subst hC
  exact impl_Side w B hB hp hq hr
theorem is_dist (w : World) (B : Nat) (hB : B ≤ w.heap.size) {p0 p1 p2 p3 p4 p5 : Value} {P : PQ} (hp : PIn w B p0 p1 p2 p3 p4 p5 P) {q0 q1 q2 q3 q4 q5 : Value} {Q : PQ} (hq : PIn w B q0 q1 q2 q3 q4 q5 Q) {D : RQ} (hD : distP P Q = D) :
    Calls Tryz.prog 28 #[.agg #[p0, p1, p2, p3, p4, p5], .agg #[q0, q1, q2, q3, q4, q5]] w fun e w' => QRes 3 w w' e D := by
  subst hD
  exact impl_SquareDistance w B hB hp hq
theorem is_mid (w : World) (B : Nat) (hB : B ≤ w.heap.size) {p0 p1 p2 p3 p4 p5 : Value} {P : PQ} (hp : PIn w B p0 p1 p2 p3 p4 p5 P) {q0 q1 q2 q3 q4 q5 : Value} {Q : PQ} (hq : PIn w B q0 q1 q2 q3 q4 q5 Q) {M : PQ} (hM : midP P Q = M) :
    Calls Tryz.prog 25 #[.agg #[p0, p1, p2, p3, p4, p5], .agg #[q0, q1, q2, q3, q4, q5]] w fun e w' => PRes 3 w w' e M := by
  subst hM
  exact impl_MiddleOf w B hB hp hq
theorem is_move (w : World) (B : Nat) (hB : B ≤ w.heap.size) {p0 p1 p2 p3 p4 p5 : Value} {P : PQ} (hp : PIn w B p0 p1 p2 p3 p4 p5 P) (x y : Int) (hx : (Lit.int .i64 x).wf = true) (hy : (Lit.int .i64 y).wf = true) {M : PQ} (hM : moveP P x y = M) :
    Calls Tryz.prog 29 #[.agg #[p0, p1, p2, p3, p4, p5], .agg #[.int .i64 x, .int .i64 y]] w fun e w' => PRes 3 w w' e M := by
  subst hM
  exact impl_MovePoint w B hB hp x y hx hy
theorem fmtP_sz {P : PQ} (h : (ratQ P.1 && ratQ P.2) = true) : (fmtP P).size ≤ 1048576 := by
  have h1 : ratB P.1.1.1 P.1.1.2 P.1.2 = true := by simp only [Bool.and_eq_true] at h; exact h.1
  have h2 : ratB P.2.1.1 P.2.1.2 P.2.2 = true := by simp only [Bool.and_eq_true] at h; exact h.2
  have s1 := fmtR_size h1
  have s2 := fmtR_size h2
  rw [fmtP_ok h, ByteArray.size_append, ByteArray.size_append]
  have : ByteArray.size ⟨#[44]⟩ = 1 := rfl
  omega
theorem fmtV_sz {x y : Int} (hx : x.natAbs ≤ 10) (hy : y.natAbs ≤ 10) : vecB x y = true ∧ (fmtV x y).size ≤ 1048576 := by
  have hv : vecB x y = true := by unfold vecB; simp; omega
  have s1 := itoaB_sz x
  have s2 := itoaB_sz y
  rw [fmtV_ok hv, ByteArray.size_append, ByteArray.size_append]
  have : ByteArray.size ⟨#[44]⟩ = 1 := rfl
  exact ⟨hv, by omega⟩
theorem is_parP (w : World) {P : PQ} (hP : (ratQ P.1 && ratQ P.2) = true) (hPT : PowTab w) (ml : Int) (hML : w.cell? ⟨0, 0, none⟩ = some (.int .i64 ml)) (hg0 : 0 < w.heap.size) :
    Calls Tryz.prog 21 #[.string (fmtP P)] w fun e w' => PtRes 3 w w' e true P := by
  have h := impl_ParsePoint w (fmtP P) (fmtP_sz hP) hPT ml hML hg0
  rw [(parse_fmtP hP).1, (parse_fmtP hP).2] at h
  exact h
theorem is_parV (w : World) {x y : Int} (hx : x.natAbs ≤ 10) (hy : y.natAbs ≤ 10) (hE : Sent w "strconv.ErrSyntax") (hR : Sent w "strconv.ErrRange") (hPT : PowTab w) (ml : Int) (hML : w.cell? ⟨0, 0, none⟩ = some (.int .i64 ml)) (hg0 : 0 < w.heap.size) :
    Calls Tryz.prog 23 #[.string (fmtV x y)] w fun e w' => e = .returned (.tuple #[.agg #[.int .i64 x, .int .i64 y], .bool true]) ∧ Below w.heap.size w w' := by
  obtain ⟨hv, hs⟩ := fmtV_sz hx hy
  have h := impl_ParseVec w (fmtV x y) hs hPT hE hR ml hML hg0
  rw [(parse_fmtV hv).1, (parse_fmtV hv).2] at h
  exact h
theorem side_bounds (P Q R : PQ) : -1 ≤ sideP P Q R ∧ sideP P Q R ≤ 1 := by
  unfold sideP signQ signR cmpV
  split
  · split
    · omega
    · split <;> omega
  · omega
theorem pts_all {P Q R : PQ} {px py qx qy rx ry : Int} {pd qd rd : Nat} (hp : IsP P px pd py 1 1000) (hq : IsP Q qx qd qy 1 1000) (hr : IsP R rx rd ry 1 1000) {x y : Int} (hx : x.natAbs ≤ 10) (hy : y.natAbs ≤ 10) :
    ∃ (M V : PQ) (D : RQ) (C : Int), (midP P Q = M ∧ midP Q P = M ∧ sideP P Q R = -C ∧ sideP Q P R = C ∧ sideP P Q M = 0 ∧ distP P M = D ∧ distP M Q = D ∧ moveP P x y = V ∧ moveP V (-x) (-y) = P) ∧ (PFit M ∧ PFit V ∧ QFit D) ∧ (-1 ≤ C ∧ C ≤ 1) := by
  obtain ⟨m1, m2⟩ := pts_move hp (x := x) (y := y) (by omega) (by omega)
  exact ⟨midP P Q, moveP P x y, distP P (midP P Q), sideP Q P R, ⟨rfl, pts_mid_comm hp hq, pts_side hp hq hr, rfl, pts_mid_side hp hq, rfl, (pts_mid_dist hp hq).symm, rfl, m1⟩, ⟨(pts_mid hp hq).fit, m2, distP_fit _ _⟩, side_bounds _ _ _⟩
theorem MakePoint0 (n c B : Nat) (A : Option Addr) (w : World) (hn : n ≤ 1099511627776) (hb : Bytes w B A n) (hB : B ≤ w.heap.size) :
    Calls Tryz.prog 19 #[.slice A n c, .int .i64 0] w fun e w' => PtDraw 3 w w' e ∧ Below w.heap.size w w' :=
  MakePoint_any n c B A 0 (by omega) w hn hb hB
theorem MakePoint1 (n c B : Nat) (A : Option Addr) (w : World) (hn : n ≤ 1099511627776) (hb : Bytes w B A n) (hB : B ≤ w.heap.size) :
    Calls Tryz.prog 19 #[.slice A n c, .int .i64 1] w fun e w' => PtDraw 3 w w' e ∧ Below w.heap.size w w' :=
  MakePoint_any n c B A 1 (by omega) w hn hb hB
theorem MakePoint2 (n c B : Nat) (A : Option Addr) (w : World) (hn : n ≤ 1099511627776) (hb : Bytes w B A n) (hB : B ≤ w.heap.size) :
    Calls Tryz.prog 19 #[.slice A n c, .int .i64 2] w fun e w' => PtDraw 3 w w' e ∧ Below w.heap.size w w' :=
  MakePoint_any n c B A 2 (by omega) w hn hb hB
theorem MakeVec9 (n c B : Nat) (A : Option Addr) (w : World) (hn : n ≤ 1099511627776) (hb : Bytes w B A n) (hB : B ≤ w.heap.size) :
    Calls Tryz.prog 20 #[.slice A n c, .int .i64 9] w fun e w' => ∃ x y : Int, e = .returned (.agg #[.int .i64 x, .int .i64 y]) ∧ (x.natAbs ≤ 10 ∧ y.natAbs ≤ 10) ∧ Below w.heap.size w w' :=
  MakeVec_any n c B A 9 (by omega) w hn hb hB
set_option maxRecDepth 100000 in
set_option maxHeartbeats 16000000 in
theorem FnPoints_walk (w : World) (a0 : Option Addr) (len0 cap0 : Nat) (z0 : List Int) (h0 : IsRow .u8 w a0 len0 cap0 z0) (hE : Sent w "strconv.ErrSyntax") (hR : Sent w "strconv.ErrRange") (hPT : PowTab w) (ml : Int) (hML : w.cell? ⟨0, 0, none⟩ = some (.int .i64 ml)) (hg0 : 0 < w.heap.size) :
    Calls Tryz.prog 4 #[.slice a0 len0 cap0] w fun e w' => e = .returned (.bool true) ∧ Below w.heap.size w w' := by
  obtain ⟨hby, hlm⟩ := h0.bytes
  clear h0
  unfold maxLen at hlm
  by_cases h : 1048576 < len0
  · clear hPT hML hby hE hR
    go_enter Tryz.func4, Tryz.ntmps4
    go_wp2_with fail
    go_ret
    exact ⟨rfl, Below.refl _ _⟩
  have hl : len0 ≤ 1048576 := by omega
  clear h hlm
  have hT0 : Below w.heap.size w w := Below.refl _ _
  have PL := hPT.lt
  have GL := Tryz.gltS
  have HPT := hide hPT
  have HML := hide hML
  have HBY := hide hby
  have HE := hide hE
  have HRR := hide hR
  clear hPT hML hby hE hR
  go_enter Tryz.func4, Tryz.ntmps4
  go_wp2_with fail
  refine (MakePoint0 len0 cap0 w.heap.size a0 w (by omega) (HBY.out.below hT0) hT0.size).mono ?_
  rintro e w1 ⟨⟨P, pX, pD, pY, p0, p1, p2, p3, p4, p5, rfl, op, HpS⟩, hb1⟩
  have HpS := hide HpS
  obtain ⟨pb, pA, pn, pc, pD, pm, pk, pyb, pyA, pyn, pyc, pyD, pym, pyk, rfl, rfl, rfl, rfl, rfl, rfl⟩ := op.cut
  have hs1 := hb1.size
  have hT1 := below_then hT0 hb1
  clear hT0
  clear hb1
  obtain ⟨w2, hw2⟩ : ∃ xw, xw = (w1.alloc (.cells #[.bool pb, .slice pA pn pc, .slice pD pm pk, .bool pyb, .slice pyA pyn pyc, .slice pyD pym pyk] 38)) := ⟨_, rfl⟩
  have hb2 : Below w1.heap.size w1 w2 := by rw [hw2]; exact below_new _ _
  have hq2 : w2.heap.size = w1.heap.size + 1 := by rw [hw2, alloc_size]
  have kp : Box w2 (w1.heap.size) 38 #[.bool pb, .slice pA pn pc, .slice pD pm pk, .bool pyb, .slice pyA pyn pyc, .slice pyD pym pyk] := by rw [hw2]; exact Box.last _ _ _ (by omega)
  have hs2 := hb2.size
  have hT2 := below_then hT1 hb2
  have op := op.below hb2 (by omega)
  clear hT1
  go_upto_region 4 with fail
  rw [← hw2]
  clear hw2 hb2
  go_wp2_with fail
  refine (MakePoint1 len0 cap0 w.heap.size a0 w2 (by omega) (HBY.out.below hT2) hT2.size).mono ?_
  rintro e w3 ⟨⟨Q, qX, qD, qY, q0, q1, q2, q3, q4, q5, rfl, oq, HqS⟩, hb3⟩
  have HqS := hide HqS
  obtain ⟨qb, qA, qn, qc, qD, qm, qk, qyb, qyA, qyn, qyc, qyD, qym, qyk, rfl, rfl, rfl, rfl, rfl, rfl⟩ := oq.cut
  have hs3 := hb3.size
  have hT3 := below_then hT2 hb3
  have kp := kp.below hb3 kp.lt
  have op := op.below hb3 (by omega)
  clear hT2
  clear hb3
  obtain ⟨w4, hw4⟩ : ∃ xw, xw = (w3.alloc (.cells #[.bool qb, .slice qA qn qc, .slice qD qm qk, .bool qyb, .slice qyA qyn qyc, .slice qyD qym qyk] 38)) := ⟨_, rfl⟩
  have hb4 : Below w3.heap.size w3 w4 := by rw [hw4]; exact below_new _ _
  have hq4 : w4.heap.size = w3.heap.size + 1 := by rw [hw4, alloc_size]
  have kq : Box w4 (w3.heap.size) 38 #[.bool qb, .slice qA qn qc, .slice qD qm qk, .bool qyb, .slice qyA qyn qyc, .slice qyD qym qyk] := by rw [hw4]; exact Box.last _ _ _ (by omega)
  have hs4 := hb4.size
  have hT4 := below_then hT3 hb4
  have kp := kp.below hb4 kp.lt
  have op := op.below hb4 (by omega)
  have oq := oq.below hb4 (by omega)
  clear hT3
  go_upto_region 5 with fail
  rw [← hw4]
  clear hw4 hb4
  go_wp2_with fail
  refine (MakePoint2 len0 cap0 w.heap.size a0 w4 (by omega) (HBY.out.below hT4) hT4.size).mono ?_
  rintro e w5 ⟨⟨R, rX, rD, rY, r0, r1, r2, r3, r4, r5, rfl, or, HrS⟩, hb5⟩
  have HrS := hide HrS
  obtain ⟨rb, rA, rn, rc, rD, rm, rk, ryb, ryA, ryn, ryc, ryD, rym, ryk, rfl, rfl, rfl, rfl, rfl, rfl⟩ := or.cut
  have hs5 := hb5.size
  have hT5 := below_then hT4 hb5
  have kp := kp.below hb5 kp.lt
  have kq := kq.below hb5 kq.lt
  have op := op.below hb5 (by omega)
  have oq := oq.below hb5 (by omega)
  clear hT4
  clear hb5
  obtain ⟨w6, hw6⟩ : ∃ xw, xw = (w5.alloc (.cells #[.bool rb, .slice rA rn rc, .slice rD rm rk, .bool ryb, .slice ryA ryn ryc, .slice ryD rym ryk] 38)) := ⟨_, rfl⟩
  have hb6 : Below w5.heap.size w5 w6 := by rw [hw6]; exact below_new _ _
  have hq6 : w6.heap.size = w5.heap.size + 1 := by rw [hw6, alloc_size]
  have kr : Box w6 (w5.heap.size) 38 #[.bool rb, .slice rA rn rc, .slice rD rm rk, .bool ryb, .slice ryA ryn ryc, .slice ryD rym ryk] := by rw [hw6]; exact Box.last _ _ _ (by omega)
  have hs6 := hb6.size
  have hT6 := below_then hT5 hb6
  have kp := kp.below hb6 kp.lt
  have kq := kq.below hb6 kq.lt
  have op := op.below hb6 (by omega)
  have oq := oq.below hb6 (by omega)
  have or := or.below hb6 (by omega)
  clear hT5
  go_upto_region 6 with fail
  rw [← hw6]
  clear hw6 hb6
  go_wp2_with fail
  refine (MakeVec9 len0 cap0 w.heap.size a0 w6 (by omega) (HBY.out.below hT6) hT6.size).mono ?_
  rintro e w7 ⟨vx, vy, rfl, hvb, hb7⟩
  have HVB := hide hvb
  have vx1 : -10 ≤ vx ∧ vx ≤ 10 := by omega
  have vy1 : -10 ≤ vy ∧ vy ≤ 10 := by omega
  clear hvb
  have hs7 := hb7.size
  have hT7 := below_then hT6 hb7
  have kp := kp.below hb7 kp.lt
  have kq := kq.below hb7 kq.lt
  have kr := kr.below hb7 kr.lt
  have op := op.below hb7 (by omega)
  have oq := oq.below hb7 (by omega)
  have or := or.below hb7 (by omega)
  clear hT6
  clear hb7
  obtain ⟨w8, hw8⟩ : ∃ xw, xw = (w7.alloc (.cells #[.int .i64 vx, .int .i64 vy] 41)) := ⟨_, rfl⟩
  have hb8 : Below w7.heap.size w7 w8 := by rw [hw8]; exact below_new _ _
  have hq8 : w8.heap.size = w7.heap.size + 1 := by rw [hw8, alloc_size]
  have kv : Box w8 (w7.heap.size) 41 #[.int .i64 vx, .int .i64 vy] := by rw [hw8]; exact Box.last _ _ _ (by omega)
  have hs8 := hb8.size
  have hT8 := below_then hT7 hb8
  have kp := kp.below hb8 kp.lt
  have kq := kq.below hb8 kq.lt
  have kr := kr.below hb8 kr.lt
  have op := op.below hb8 (by omega)
  have oq := oq.below hb8 (by omega)
  have or := or.below hb8 (by omega)
  clear hT7
  go_upto_region 7 with fail
  rw [← hw8]
  clear hw8 hb8
  obtain ⟨M, V, D, C, ⟨e1, e2, e3, e4, e5, e6, e7, e8, e9⟩, ⟨fM, fV, fD⟩, hC⟩ := pts_all HpS.out HqS.out HrS.out HVB.out.1 HVB.out.2
  have fP := HpS.out.fit
  have fQ := HqS.out.fit
  have fR := HrS.out.fit
  have HPV := hide HpS.out.valid
  clear HpS HqS HrS
  have E1 := hide e1
  have E2 := hide e2
  have E3 := hide e3
  have E4 := hide e4
  have E5 := hide e5
  have E6 := hide e6
  have E7 := hide e7
  have E8 := hide e8
  have E9 := hide e9
  clear e1 e2 e3 e4 e5 e6 e7 e8 e9
  have hC1 := hC.1
  have hC2 := hC.2
  clear hC
  have wvx : (Lit.int .i64 vx).wf = true := wf_of (by omega) (by omega)
  have wvy : (Lit.int .i64 vy).wf = true := wf_of (by omega) (by omega)
  have wnx : (Lit.int .i64 (-vx)).wf = true := wf_of (by omega) (by omega)
  have wny : (Lit.int .i64 (-vy)).wf = true := wf_of (by omega) (by omega)
  obtain ⟨yp0, yp1, yp2, yp3, yp4, yp5⟩ := kp.cells6
  go_wp2_with fail
  refine (impl_FormatPoint w8 w8.heap.size (Nat.le_refl _) (op.in_ fP (by omega)) (HPT.out.below hT8 PL)).mono ?_
  rintro e w9 ⟨rfl, hb9⟩
  clear yp0 yp1 yp2 yp3 yp4 yp5
  have hs9 := hb9.size
  have hT9 := below_then hT8 hb9
  have kp := kp.below hb9 kp.lt
  have kq := kq.below hb9 kq.lt
  have kr := kr.below hb9 kr.lt
  have kv := kv.below hb9 kv.lt
  have op := op.below hb9 (by omega)
  have oq := oq.below hb9 (by omega)
  have or := or.below hb9 (by omega)
  clear hT8
  clear hb9
  go_wp2_with fail
  refine (is_parP w9 HPV.out (HPT.out.below hT9 PL) ml ((hT9.cell hg0).trans HML.out) (Nat.lt_of_lt_of_le hg0 hT9.size)).mono ?_
  rintro e w10 ⟨x0, x1, x2, x3, x4, x5, rfl, ox, hb10⟩
  obtain ⟨xb, xA, xn, xc, xD, xm, xk, xyb, xyA, xyn, xyc, xyD, xym, xyk, rfl, rfl, rfl, rfl, rfl, rfl⟩ := ox.cut
  have hs10 := hb10.size
  have hT10 := below_then hT9 hb10
  have kp := kp.below hb10 kp.lt
  have kq := kq.below hb10 kq.lt
  have kr := kr.below hb10 kr.lt
  have kv := kv.below hb10 kv.lt
  have op := op.below hb10 (by omega)
  have oq := oq.below hb10 (by omega)
  have or := or.below hb10 (by omega)
  clear hT9
  clear hb10
  obtain ⟨w11, hw11⟩ : ∃ xw, xw = (w10.alloc (.cells #[.bool xb, .slice xA xn xc, .slice xD xm xk, .bool xyb, .slice xyA xyn xyc, .slice xyD xym xyk] 38)) := ⟨_, rfl⟩
  have hb11 : Below w10.heap.size w10 w11 := by rw [hw11]; exact below_new _ _
  have hq11 : w11.heap.size = w10.heap.size + 1 := by rw [hw11, alloc_size]
  have kx : Box w11 (w10.heap.size) 38 #[.bool xb, .slice xA xn xc, .slice xD xm xk, .bool xyb, .slice xyA xyn xyc, .slice xyD xym xyk] := by rw [hw11]; exact Box.last _ _ _ (by omega)
  have hs11 := hb11.size
  have hT11 := below_then hT10 hb11
  have kp := kp.below hb11 kp.lt
  have kq := kq.below hb11 kq.lt
  have kr := kr.below hb11 kr.lt
  have kv := kv.below hb11 kv.lt
  have op := op.below hb11 (by omega)
  have oq := oq.below hb11 (by omega)
  have or := or.below hb11 (by omega)
  have ox := ox.below hb11 (by omega)
  clear hT10
  go_upto_region 8 with fail
  rw [← hw11]
  clear hw11 hb11
  obtain ⟨yv0, yv1⟩ := kv.cells2
  go_wp2_with fail
  refine (impl_FormatVec w11 vx vy wvx wvy (HPT.out.below hT11 PL)).mono ?_
  rintro e w12 ⟨rfl, hb12⟩
  clear yv0 yv1
  have hs12 := hb12.size
  have hT12 := below_then hT11 hb12
  have kp := kp.below hb12 kp.lt
  have kq := kq.below hb12 kq.lt
  have kr := kr.below hb12 kr.lt
  have kv := kv.below hb12 kv.lt
  have kx := kx.below hb12 kx.lt
  have op := op.below hb12 (by omega)
  have oq := oq.below hb12 (by omega)
  have or := or.below hb12 (by omega)
  have ox := ox.below hb12 (by omega)
  clear hT11
  clear hb12
  go_wp2_with fail
  refine (is_parV w12 HVB.out.1 HVB.out.2 (HE.out.below Tryz.gSyn hT12 (by omega)) (HRR.out.below Tryz.gRng hT12 (by omega)) (HPT.out.below hT12 PL) ml ((hT12.cell hg0).trans HML.out) (Nat.lt_of_lt_of_le hg0 hT12.size)).mono ?_
  rintro e w13 ⟨rfl, hb13⟩
  have hs13 := hb13.size
  have hT13 := below_then hT12 hb13
  have kp := kp.below hb13 kp.lt
  have kq := kq.below hb13 kq.lt
  have kr := kr.below hb13 kr.lt
  have kv := kv.below hb13 kv.lt
  have kx := kx.below hb13 kx.lt
  have op := op.below hb13 (by omega)
  have oq := oq.below hb13 (by omega)
  have or := or.below hb13 (by omega)
  have ox := ox.below hb13 (by omega)
  clear hT12
  clear hb13
  obtain ⟨w14, hw14⟩ : ∃ xw, xw = (w13.alloc (.cells #[.int .i64 vx, .int .i64 vy] 41)) := ⟨_, rfl⟩
  have hb14 : Below w13.heap.size w13 w14 := by rw [hw14]; exact below_new _ _
  have hq14 : w14.heap.size = w13.heap.size + 1 := by rw [hw14, alloc_size]
  have ku : Box w14 (w13.heap.size) 41 #[.int .i64 vx, .int .i64 vy] := by rw [hw14]; exact Box.last _ _ _ (by omega)
  have hs14 := hb14.size
  have hT14 := below_then hT13 hb14
  have kp := kp.below hb14 kp.lt
  have kq := kq.below hb14 kq.lt
  have kr := kr.below hb14 kr.lt
  have kv := kv.below hb14 kv.lt
  have kx := kx.below hb14 kx.lt
  have op := op.below hb14 (by omega)
  have oq := oq.below hb14 (by omega)
  have or := or.below hb14 (by omega)
  have ox := ox.below hb14 (by omega)
  clear hT13
  go_upto_region 9 with fail
  rw [← hw14]
  clear hw14 hb14
  obtain ⟨yp0, yp1, yp2, yp3, yp4, yp5⟩ := kp.cells6
  obtain ⟨yq0, yq1, yq2, yq3, yq4, yq5⟩ := kq.cells6
  go_wp2_with fail
  refine (is_mid w14 w14.heap.size (Nat.le_refl _) (op.in_ fP (by omega)) (oq.in_ fQ (by omega)) E1.out).mono ?_
  rintro e w15 ⟨m0, m1, m2, m3, m4, m5, rfl, om, hb15⟩
  clear yp0 yp1 yp2 yp3 yp4 yp5 yq0 yq1 yq2 yq3 yq4 yq5
  obtain ⟨mb, mA, mn, mc, mD, mm, mk, myb, myA, myn, myc, myD, mym, myk, rfl, rfl, rfl, rfl, rfl, rfl⟩ := om.cut
  have hs15 := hb15.size
  have hT15 := below_then hT14 hb15
  have kp := kp.below hb15 kp.lt
  have kq := kq.below hb15 kq.lt
  have kr := kr.below hb15 kr.lt
  have kv := kv.below hb15 kv.lt
  have kx := kx.below hb15 kx.lt
  have ku := ku.below hb15 ku.lt
  have op := op.below hb15 (by omega)
  have oq := oq.below hb15 (by omega)
  have or := or.below hb15 (by omega)
  have ox := ox.below hb15 (by omega)
  clear hT14
  clear hb15
  obtain ⟨w16, hw16⟩ : ∃ xw, xw = (w15.alloc (.cells #[.bool mb, .slice mA mn mc, .slice mD mm mk, .bool myb, .slice myA myn myc, .slice myD mym myk] 38)) := ⟨_, rfl⟩
  have hb16 : Below w15.heap.size w15 w16 := by rw [hw16]; exact below_new _ _
  have hq16 : w16.heap.size = w15.heap.size + 1 := by rw [hw16, alloc_size]
  have km : Box w16 (w15.heap.size) 38 #[.bool mb, .slice mA mn mc, .slice mD mm mk, .bool myb, .slice myA myn myc, .slice myD mym myk] := by rw [hw16]; exact Box.last _ _ _ (by omega)
  have hs16 := hb16.size
  have hT16 := below_then hT15 hb16
  have kp := kp.below hb16 kp.lt
  have kq := kq.below hb16 kq.lt
  have kr := kr.below hb16 kr.lt
  have kv := kv.below hb16 kv.lt
  have kx := kx.below hb16 kx.lt
  have ku := ku.below hb16 ku.lt
  have op := op.below hb16 (by omega)
  have oq := oq.below hb16 (by omega)
  have or := or.below hb16 (by omega)
  have ox := ox.below hb16 (by omega)
  have om := om.below hb16 (by omega)
  clear hT15
  go_upto_region 10 with fail
  rw [← hw16]
  clear hw16 hb16
  have HQp := hide (fun (W : World) (h : Below w16.heap.size w16 W) => ((op.in_ fP (show _ ≤ w16.heap.size by omega)).below h).wider h.size)
  have HQq := hide (fun (W : World) (h : Below w16.heap.size w16 W) => ((oq.in_ fQ (show _ ≤ w16.heap.size by omega)).below h).wider h.size)
  have HQr := hide (fun (W : World) (h : Below w16.heap.size w16 W) => ((or.in_ fR (show _ ≤ w16.heap.size by omega)).below h).wider h.size)
  have HQx := hide (fun (W : World) (h : Below w16.heap.size w16 W) => ((ox.in_ fP (show _ ≤ w16.heap.size by omega)).below h).wider h.size)
  have HQm := hide (fun (W : World) (h : Below w16.heap.size w16 W) => ((om.in_ fM (show _ ≤ w16.heap.size by omega)).below h).wider h.size)
  clear op oq or ox om
  have HBp := hide kp
  have HBq := hide kq
  have HBr := hide kr
  have HBx := hide kx
  have HBm := hide km
  have HBv := hide kv
  have HBu := hide ku
  have HS0 : Hid (Below w16.heap.size w16 w16.drew) := (Below.refl _ _).drew
  have HKS := hide (fun (W : World) (hq : Below w16.heap.size w16 W) => (⟨(HBp.out.below hq HBp.out.lt).cell 0, (HBp.out.below hq HBp.out.lt).cell 1, (HBp.out.below hq HBp.out.lt).cell 2, (HBp.out.below hq HBp.out.lt).cell 3, (HBp.out.below hq HBp.out.lt).cell 4, (HBp.out.below hq HBp.out.lt).cell 5, (HBq.out.below hq HBq.out.lt).cell 0, (HBq.out.below hq HBq.out.lt).cell 1, (HBq.out.below hq HBq.out.lt).cell 2, (HBq.out.below hq HBq.out.lt).cell 3, (HBq.out.below hq HBq.out.lt).cell 4, (HBq.out.below hq HBq.out.lt).cell 5, (HBr.out.below hq HBr.out.lt).cell 0, (HBr.out.below hq HBr.out.lt).cell 1, (HBr.out.below hq HBr.out.lt).cell 2, (HBr.out.below hq HBr.out.lt).cell 3, (HBr.out.below hq HBr.out.lt).cell 4, (HBr.out.below hq HBr.out.lt).cell 5, (HBx.out.below hq HBx.out.lt).cell 0, (HBx.out.below hq HBx.out.lt).cell 1, (HBx.out.below hq HBx.out.lt).cell 2, (HBx.out.below hq HBx.out.lt).cell 3, (HBx.out.below hq HBx.out.lt).cell 4, (HBx.out.below hq HBx.out.lt).cell 5, (HBm.out.below hq HBm.out.lt).cell 0, (HBm.out.below hq HBm.out.lt).cell 1, (HBm.out.below hq HBm.out.lt).cell 2, (HBm.out.below hq HBm.out.lt).cell 3, (HBm.out.below hq HBm.out.lt).cell 4, (HBm.out.below hq HBm.out.lt).cell 5, (HBv.out.below hq HBv.out.lt).cell 0, (HBv.out.below hq HBv.out.lt).cell 1, (HBu.out.below hq HBu.out.lt).cell 0, (HBu.out.below hq HBu.out.lt).cell 1⟩ : W.cell? ⟨w1.heap.size, 0, none⟩ = some (.bool pb) ∧ W.cell? ⟨w1.heap.size, 1, none⟩ = some (.slice pA pn pc) ∧ W.cell? ⟨w1.heap.size, 2, none⟩ = some (.slice pD pm pk) ∧ W.cell? ⟨w1.heap.size, 3, none⟩ = some (.bool pyb) ∧ W.cell? ⟨w1.heap.size, 4, none⟩ = some (.slice pyA pyn pyc) ∧ W.cell? ⟨w1.heap.size, 5, none⟩ = some (.slice pyD pym pyk) ∧ W.cell? ⟨w3.heap.size, 0, none⟩ = some (.bool qb) ∧ W.cell? ⟨w3.heap.size, 1, none⟩ = some (.slice qA qn qc) ∧ W.cell? ⟨w3.heap.size, 2, none⟩ = some (.slice qD qm qk) ∧ W.cell? ⟨w3.heap.size, 3, none⟩ = some (.bool qyb) ∧ W.cell? ⟨w3.heap.size, 4, none⟩ = some (.slice qyA qyn qyc) ∧ W.cell? ⟨w3.heap.size, 5, none⟩ = some (.slice qyD qym qyk) ∧ W.cell? ⟨w5.heap.size, 0, none⟩ = some (.bool rb) ∧ W.cell? ⟨w5.heap.size, 1, none⟩ = some (.slice rA rn rc) ∧ W.cell? ⟨w5.heap.size, 2, none⟩ = some (.slice rD rm rk) ∧ W.cell? ⟨w5.heap.size, 3, none⟩ = some (.bool ryb) ∧ W.cell? ⟨w5.heap.size, 4, none⟩ = some (.slice ryA ryn ryc) ∧ W.cell? ⟨w5.heap.size, 5, none⟩ = some (.slice ryD rym ryk) ∧ W.cell? ⟨w10.heap.size, 0, none⟩ = some (.bool xb) ∧ W.cell? ⟨w10.heap.size, 1, none⟩ = some (.slice xA xn xc) ∧ W.cell? ⟨w10.heap.size, 2, none⟩ = some (.slice xD xm xk) ∧ W.cell? ⟨w10.heap.size, 3, none⟩ = some (.bool xyb) ∧ W.cell? ⟨w10.heap.size, 4, none⟩ = some (.slice xyA xyn xyc) ∧ W.cell? ⟨w10.heap.size, 5, none⟩ = some (.slice xyD xym xyk) ∧ W.cell? ⟨w15.heap.size, 0, none⟩ = some (.bool mb) ∧ W.cell? ⟨w15.heap.size, 1, none⟩ = some (.slice mA mn mc) ∧ W.cell? ⟨w15.heap.size, 2, none⟩ = some (.slice mD mm mk) ∧ W.cell? ⟨w15.heap.size, 3, none⟩ = some (.bool myb) ∧ W.cell? ⟨w15.heap.size, 4, none⟩ = some (.slice myA myn myc) ∧ W.cell? ⟨w15.heap.size, 5, none⟩ = some (.slice myD mym myk) ∧ W.cell? ⟨w7.heap.size, 0, none⟩ = some (.int .i64 vx) ∧ W.cell? ⟨w7.heap.size, 1, none⟩ = some (.int .i64 vy) ∧ W.cell? ⟨w13.heap.size, 0, none⟩ = some (.int .i64 vx) ∧ W.cell? ⟨w13.heap.size, 1, none⟩ = some (.int .i64 vy)))
  obtain ⟨yp0, yp1, yp2, yp3, yp4, yp5⟩ := kp.cells6
  obtain ⟨yq0, yq1, yq2, yq3, yq4, yq5⟩ := kq.cells6
  obtain ⟨yr0, yr1, yr2, yr3, yr4, yr5⟩ := kr.cells6
  obtain ⟨yx0, yx1, yx2, yx3, yx4, yx5⟩ := kx.cells6
  obtain ⟨ym0, ym1, ym2, ym3, ym4, ym5⟩ := km.cells6
  obtain ⟨yv0, yv1⟩ := kv.cells2
  obtain ⟨yu0, yu1⟩ := ku.cells2
  simp only [List.append_eq, List.cons_append, List.nil_append]
  have wr1 : IntKind.i64.wrap (-C) = -C := IntWalk.i64_in _ (by omega)
  have wr2 : IntKind.i64.wrap (-vx) = -vx := IntWalk.i64_in _ (by omega)
  have wr3 : IntKind.i64.wrap (-vy) = -vy := IntWalk.i64_in _ (by omega)
  go_region_held3 (fun w' => w'.cell? ⟨w1.heap.size, 0, none⟩ = some (.bool pb) ∧ w'.cell? ⟨w1.heap.size, 1, none⟩ = some (.slice pA pn pc) ∧ w'.cell? ⟨w1.heap.size, 2, none⟩ = some (.slice pD pm pk) ∧ w'.cell? ⟨w1.heap.size, 3, none⟩ = some (.bool pyb) ∧ w'.cell? ⟨w1.heap.size, 4, none⟩ = some (.slice pyA pyn pyc) ∧ w'.cell? ⟨w1.heap.size, 5, none⟩ = some (.slice pyD pym pyk) ∧ w'.cell? ⟨w3.heap.size, 0, none⟩ = some (.bool qb) ∧ w'.cell? ⟨w3.heap.size, 1, none⟩ = some (.slice qA qn qc) ∧ w'.cell? ⟨w3.heap.size, 2, none⟩ = some (.slice qD qm qk) ∧ w'.cell? ⟨w3.heap.size, 3, none⟩ = some (.bool qyb) ∧ w'.cell? ⟨w3.heap.size, 4, none⟩ = some (.slice qyA qyn qyc) ∧ w'.cell? ⟨w3.heap.size, 5, none⟩ = some (.slice qyD qym qyk) ∧ w'.cell? ⟨w5.heap.size, 0, none⟩ = some (.bool rb) ∧ w'.cell? ⟨w5.heap.size, 1, none⟩ = some (.slice rA rn rc) ∧ w'.cell? ⟨w5.heap.size, 2, none⟩ = some (.slice rD rm rk) ∧ w'.cell? ⟨w5.heap.size, 3, none⟩ = some (.bool ryb) ∧ w'.cell? ⟨w5.heap.size, 4, none⟩ = some (.slice ryA ryn ryc) ∧ w'.cell? ⟨w5.heap.size, 5, none⟩ = some (.slice ryD rym ryk) ∧ w'.cell? ⟨w10.heap.size, 0, none⟩ = some (.bool xb) ∧ w'.cell? ⟨w10.heap.size, 1, none⟩ = some (.slice xA xn xc) ∧ w'.cell? ⟨w10.heap.size, 2, none⟩ = some (.slice xD xm xk) ∧ w'.cell? ⟨w10.heap.size, 3, none⟩ = some (.bool xyb) ∧ w'.cell? ⟨w10.heap.size, 4, none⟩ = some (.slice xyA xyn xyc) ∧ w'.cell? ⟨w10.heap.size, 5, none⟩ = some (.slice xyD xym xyk) ∧ w'.cell? ⟨w15.heap.size, 0, none⟩ = some (.bool mb) ∧ w'.cell? ⟨w15.heap.size, 1, none⟩ = some (.slice mA mn mc) ∧ w'.cell? ⟨w15.heap.size, 2, none⟩ = some (.slice mD mm mk) ∧ w'.cell? ⟨w15.heap.size, 3, none⟩ = some (.bool myb) ∧ w'.cell? ⟨w15.heap.size, 4, none⟩ = some (.slice myA myn myc) ∧ w'.cell? ⟨w15.heap.size, 5, none⟩ = some (.slice myD mym myk) ∧ w'.cell? ⟨w7.heap.size, 0, none⟩ = some (.int .i64 vx) ∧ w'.cell? ⟨w7.heap.size, 1, none⟩ = some (.int .i64 vy) ∧ w'.cell? ⟨w13.heap.size, 0, none⟩ = some (.int .i64 vx) ∧ w'.cell? ⟨w13.heap.size, 1, none⟩ = some (.int .i64 vy))
      (first | (with_reducible exact HKS.out _ HS12.out) | (with_reducible exact HKS.out _ HS11.out) | (with_reducible exact HKS.out _ HS10.out) | (with_reducible exact HKS.out _ HS9.out) | (with_reducible exact HKS.out _ HS8.out) | (with_reducible exact HKS.out _ HS7.out) | (with_reducible exact HKS.out _ HS6.out) | (with_reducible exact HKS.out _ HS5.out) | (with_reducible exact HKS.out _ HS4.out) | (with_reducible exact HKS.out _ HS3.out) | (with_reducible exact HKS.out _ HS2.out) | (with_reducible exact HKS.out _ HS1.out) | (with_reducible exact HKS.out _ HS0.out))
      (first
        | (go_at_call 26; have HX := HS11.out; refine (is_samePt _ _ (Nat.le_refl _) (HQm.out _ HS11.out) qmc).mono ?_; rintro e u12 ⟨rfl, hb12⟩; have qda := qda.up hb12; have qdb := qdb.up hb12; have qma := qma.up hb12; have qmb := qmb.up hb12; have qmc := qmc.up hb12; have hz12 : u11.heap.size ≤ u12.heap.size := hb12.size; have HS12 := hide (below_then HX hb12); clear HX)
        | (go_at_call 25; have HX := HS10.out; refine (is_mid _ _ (Nat.le_refl _) (HQq.out _ HS10.out) (HQp.out _ HS10.out) E2.out).mono ?_; rintro e u11 ⟨mc0, mc1, mc2, mc3, mc4, mc5, rfl, omc, hb11⟩; obtain ⟨mcb, mcA, mcn, mcc, mcD, mcm, mck, mcyb, mcyA, mcyn, mcyc, mcyD, mcym, mcyk, rfl, rfl, rfl, rfl, rfl, rfl⟩ := omc.cut; have omc : POwn u11 u10.heap.size u11.heap.size 3 (.bool mcb) (.slice mcA mcn mcc) (.slice mcD mcm mck) (.bool mcyb) (.slice mcyA mcyn mcyc) (.slice mcyD mcym mcyk) (M) := omc; have qmc := omc.in_ (fM) (Nat.le_refl _); have qda := qda.up hb11; have qdb := qdb.up hb11; have qma := qma.up hb11; have qmb := qmb.up hb11; have hz11 : u10.heap.size ≤ u11.heap.size := hb11.size; have HS11 := hide (below_then HX hb11); clear HX)
        | (go_at_call 26; have HX := HS9.out; refine (is_samePt _ _ (Nat.le_refl _) qmb (HQp.out _ HS9.out)).mono ?_; rintro e u10 ⟨rfl, hb10⟩; have qda := qda.up hb10; have qdb := qdb.up hb10; have qma := qma.up hb10; have qmb := qmb.up hb10; have hz10 : u9.heap.size ≤ u10.heap.size := hb10.size; have HS10 := hide (below_then HX hb10); clear HX)
        | (go_at_call 29; have HX := HS8.out; refine (is_move _ _ (Nat.le_refl _) qma (-vx) (-vy) wnx wny E9.out).mono ?_; rintro e u9 ⟨mb0, mb1, mb2, mb3, mb4, mb5, rfl, omb, hb9⟩; obtain ⟨mbb, mbA, mbn, mbc, mbD, mbm, mbk, mbyb, mbyA, mbyn, mbyc, mbyD, mbym, mbyk, rfl, rfl, rfl, rfl, rfl, rfl⟩ := omb.cut; have omb : POwn u9 u8.heap.size u9.heap.size 3 (.bool mbb) (.slice mbA mbn mbc) (.slice mbD mbm mbk) (.bool mbyb) (.slice mbyA mbyn mbyc) (.slice mbyD mbym mbyk) (P) := omb; have qmb := omb.in_ (fP) (Nat.le_refl _); have qda := qda.up hb9; have qdb := qdb.up hb9; have qma := qma.up hb9; have hz9 : u8.heap.size ≤ u9.heap.size := hb9.size; have HS9 := hide (below_then HX hb9); clear HX)
        | (go_at_call 29; have HX := HS7.out; refine (is_move _ _ (Nat.le_refl _) (HQp.out _ HS7.out) vx vy wvx wvy E8.out).mono ?_; rintro e u8 ⟨ma0, ma1, ma2, ma3, ma4, ma5, rfl, oma, hb8⟩; obtain ⟨mab, maA, man, mac, maD, mam, mak, mayb, mayA, mayn, mayc, mayD, maym, mayk, rfl, rfl, rfl, rfl, rfl, rfl⟩ := oma.cut; have oma : POwn u8 u7.heap.size u8.heap.size 3 (.bool mab) (.slice maA man mac) (.slice maD mam mak) (.bool mayb) (.slice mayA mayn mayc) (.slice mayD maym mayk) (V) := oma; have qma := oma.in_ (fV) (Nat.le_refl _); have qda := qda.up hb8; have qdb := qdb.up hb8; have hz8 : u7.heap.size ≤ u8.heap.size := hb8.size; have HS8 := hide (below_then HX hb8); clear HX)
        | (go_at_call 10; have HX := HS6.out; refine (is_sameQ _ _ (Nat.le_refl _) qda qdb).mono ?_; rintro e u7 ⟨rfl, hb7⟩; have qda := qda.up hb7; have qdb := qdb.up hb7; have hz7 : u6.heap.size ≤ u7.heap.size := hb7.size; have HS7 := hide (below_then HX hb7); clear HX)
        | (go_at_call 28; have HX := HS5.out; refine (is_dist _ _ (Nat.le_refl _) (HQm.out _ HS5.out) (HQq.out _ HS5.out) E7.out).mono ?_; rintro e u6 ⟨db0, db1, db2, rfl, odb, hb6⟩; obtain ⟨dbb, dbA, dbn, dbc, dbD, dbm, dbk, rfl, rfl, rfl⟩ := odb.cut; have odb : QOwn u6 u5.heap.size u6.heap.size 3 (.bool dbb) (.slice dbA dbn dbc) (.slice dbD dbm dbk) (D) := odb; have qdb := odb.in_ (fD) (Nat.le_refl _); have qda := qda.up hb6; have hz6 : u5.heap.size ≤ u6.heap.size := hb6.size; have HS6 := hide (below_then HX hb6); clear HX)
        | (go_at_call 28; have HX := HS4.out; refine (is_dist _ _ (Nat.le_refl _) (HQp.out _ HS4.out) (HQm.out _ HS4.out) E6.out).mono ?_; rintro e u5 ⟨da0, da1, da2, rfl, oda, hb5⟩; obtain ⟨dab, daA, dan, dac, daD, dam, dak, rfl, rfl, rfl⟩ := oda.cut; have oda : QOwn u5 u4.heap.size u5.heap.size 3 (.bool dab) (.slice daA dan dac) (.slice daD dam dak) (D) := oda; have qda := oda.in_ (fD) (Nat.le_refl _); have hz5 : u4.heap.size ≤ u5.heap.size := hb5.size; have HS5 := hide (below_then HX hb5); clear HX)
        | (go_at_call 27; have HX := HS3.out; refine (is_side _ _ (Nat.le_refl _) (HQp.out _ HS3.out) (HQq.out _ HS3.out) (HQm.out _ HS3.out) E5.out).mono ?_; rintro e u4 ⟨rfl, hb4⟩; have hz4 : u3.heap.size ≤ u4.heap.size := hb4.size; have HS4 := hide (below_then HX hb4); clear HX)
        | (go_at_call 27; have HX := HS2.out; refine (is_side _ _ (Nat.le_refl _) (HQq.out _ HS2.out) (HQp.out _ HS2.out) (HQr.out _ HS2.out) E4.out).mono ?_; rintro e u3 ⟨rfl, hb3⟩; have hz3 : u2.heap.size ≤ u3.heap.size := hb3.size; have HS3 := hide (below_then HX hb3); clear HX)
        | (go_at_call 27; have HX := HS1.out; refine (is_side _ _ (Nat.le_refl _) (HQp.out _ HS1.out) (HQq.out _ HS1.out) (HQr.out _ HS1.out) E3.out).mono ?_; rintro e u2 ⟨rfl, hb2⟩; have hz2 : u1.heap.size ≤ u2.heap.size := hb2.size; have HS2 := hide (below_then HX hb2); clear HX)
        | (go_at_call 26; have HX := HS0.out; refine (is_samePt _ _ (Nat.le_refl _) (HQx.out _ HS0.out) (HQp.out _ HS0.out)).mono ?_; rintro e u1 ⟨rfl, hb1⟩; have hz1 : w16.heap.size ≤ u1.heap.size := hb1.size; have HS1 := hide (below_then HX hb1); clear HX))
  clear wr1 wr2 wr3
  have hTT := below_then hT16 HS12.out
  go_wp2_with fail
  go_ret
  exact ⟨rfl, hTT⟩
end Go.Proofs.YtnbaookdeijhhaaGreatDoor
