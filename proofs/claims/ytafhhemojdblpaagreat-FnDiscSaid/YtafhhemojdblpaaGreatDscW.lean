/-
  The law FnDisc: its walk.
-/
import Derived.Test.YtafhhemojdblpaaGreatDSC
import Derived.Test.YtafhhemojdblpaaGreatDW
import Derived.Deep.RegionHeld3
import Derived.Deep.RegionLaw
import Derived.Deep.CutRange
import Derived.Sort.AtCall
namespace Go.Proofs.YtafhhemojdblpaaGreat
open Go.RowKit
set_option linter.unusedVariables false
set_option maxRecDepth 100000 in
set_option maxHeartbeats 8000000 in
theorem FnDisc_walk (w : World) (a0 : Option Addr) (len0 cap0 : Nat) (z0 : List Int) (h0 : IsRow .u8 w a0 len0 cap0 z0) :
    Calls Tryz.prog 4 #[.slice a0 len0 cap0] w fun e w' => e = .returned (.bool true) ∧ Below w.heap.size w w' := by
  obtain ⟨hby, hlm⟩ := h0.bytes
  obtain ⟨F, hL, hM⟩ := h0.bytesF
  clear h0 hM
  generalize z0.take len0 = bs at F hL
  subst hL
  unfold maxLen at hlm
  by_cases h : 1048576 < bs.length
  · clear hby F
    go_enter Tryz.func4, Tryz.ntmps4
    go_wp2_with fail
    go_ret
    exact ⟨rfl, Below.refl _ _⟩
  have hl : bs.length ≤ 1048576 := by omega
  clear h hlm
  have hT0 : Below w.heap.size w w := Below.refl _ _
  have HM0 := hide (fun (W : World) (hb : Below w.heap.size w W) => show Calls Tryz.prog 6 #[.slice a0 bs.length cap0, .int .i64 0] W _ from MakePolygon_f cap0 w.heap.size a0 bs 0 (by omega) W (by omega) (F.below hb) hb.size)
  have HM1 := hide (fun (W : World) (hb : Below w.heap.size w W) => show Calls Tryz.prog 5 #[.slice a0 bs.length cap0, .int .i64 5] W _ from MakePoint_s bs.length cap0 w.heap.size a0 5 (by omega) W (by omega) (hby.below hb) hb.size)
  have HM2 := hide (fun (W : World) (hb : Below w.heap.size w W) => show Calls Tryz.prog 20 #[.slice a0 bs.length cap0, .int .i64 1] W _ from MakeNum_k bs.length cap0 w.heap.size 1 a0 W (by omega) (by omega) (hby.below hb) hb.size)
  clear hby F
  go_enter Tryz.func4, Tryz.ntmps4
  go_wp2_with fail
  refine (HM0.out _ hT0).mono ?_
  rintro e w1 ⟨lv, rfl, oL, hb1⟩
  obtain ⟨d1, d2, d3⟩ := drawF_small bs 8 (skipF bs (newS bs) (7 * 0))
  generalize drawF bs 8 (skipF bs (newS bs) (7 * 0)) = LL at *
  have h3L : 3 ≤ LL.length := d3.1
  obtain ⟨gL, Lc, rfl, hnL⟩ : ∃ g c, lv = .slice (some ⟨g, 0, none⟩) LL.length c ∧ LL.length ≤ c := by
      rcases oL.1.2 with ⟨_, hz⟩ | ⟨g, c, cur, hv, _, _, hnc, _⟩
      · exfalso; omega
      · exact ⟨g, c, hv, hnc⟩
  have hL := oL.rdV (show LL.length ≤ 1048576 by omega) (fun v hv => (d1 v hv).wf)
  have HPL : Hid (polyP LL) := d3
  have HW0 := hide (d1 (atV LL 0) (at_mem (by omega))).wf
  have HCD := hide (corner_disc d3 d1)
  have HDA := hide (fun (P : PQ) (hp : DrawP P) => disc_all hp d3 d1)
  have hgL := rd_block hL (by omega)
  clear oL d1 d2 d3 HM0
  have hs1 := hb1.size
  have hT1 := below_then hT0 hb1
  clear hT0
  clear hb1
  go_wp2_with fail
  refine (HM1.out _ hT1).mono ?_
  rintro e w2 ⟨⟨P, pX, pD, pY, p0, p1, p2, p3, p4, p5, rfl, op, hpS⟩, hb2⟩
  have HpS : Hid (DrawP P) := hide ⟨pX, pD, pY, hpS⟩
  clear hpS HM1
  obtain ⟨pb, pA, pn, pc, pD, pm, pk, pyb, pyA, pyn, pyc, pyD, pym, pyk, rfl, rfl, rfl, rfl, rfl, rfl⟩ := op.cut
  have hs2 := hb2.size
  have hT2 := below_then hT1 hb2
  have hL := hL.below (hb2.mono (by omega))
  clear hT1
  clear hb2
  obtain ⟨w3, hw3⟩ : ∃ xw, xw = (w2.alloc (.cells #[.bool pb, .slice pA pn pc, .slice pD pm pk, .bool pyb, .slice pyA pyn pyc, .slice pyD pym pyk] 29)) := ⟨_, rfl⟩
  have hb3 : Below w2.heap.size w2 w3 := by rw [hw3]; exact below_new _ _
  have hq3 : w3.heap.size = w2.heap.size + 1 := by rw [hw3, alloc_size]
  have kp : Box w3 (w2.heap.size) 29 #[.bool pb, .slice pA pn pc, .slice pD pm pk, .bool pyb, .slice pyA pyn pyc, .slice pyD pym pyk] := by rw [hw3]; exact Box.last _ _ _ (by omega)
  have hs3 := hb3.size
  have hT3 := below_then hT2 hb3
  have hL := hL.below (hb3.mono (by omega))
  have op := op.below hb3 (by omega)
  clear hT2
  go_upto_region 5 with fail
  rw [← hw3]
  clear hw3 hb3
  go_wp2_with fail
  refine (HM2.out _ hT3).mono ?_
  rintro e w4 ⟨r, rfl, hr0, hr1, hb4⟩
  clear HM2
  obtain ⟨nn, hnn⟩ : ∃ x, x = r % 60 := ⟨_, rfl⟩
  have hn0 : 0 ≤ nn ∧ nn ≤ 59 := by omega
  have hs4 := hb4.size
  have hT4 := below_then hT3 hb4
  have kp := kp.below hb4 kp.lt
  have hL := hL.below (hb4.mono (by omega))
  have op := op.below hb4 (by omega)
  clear hT3
  clear hb4
  go_upto_region 6 with fail
  rw [← hnn]
  clear hnn hr0 hr1
  obtain ⟨e1, e2, e3, e4⟩ := HDA.out P HpS.out
  have e5 := e4 nn (by omega) (by omega)
  obtain ⟨s1, s2⟩ := HCD.out
  have fP := HpS.out.fit
  have SP := hide HpS.out.small
  clear HDA HCD e4
  have HQp := hide (fun (W : World) (h : Below w4.heap.size w4 W) => ((op.in_ fP (show _ ≤ w4.heap.size by omega)).below h).wider h.size)
  have HR := hide (fun (W : World) (h : Below w4.heap.size w4 W) => (hL.below (h.mono (by omega))).wider (show _ ≤ W.heap.size by have := h.size; omega))
  have yc0 := (rd_cells hL 0 (by omega))
  simp only [Nat.zero_mul, Nat.zero_add] at yc0
  have HYC := hide (fun (W : World) (h : Below w4.heap.size w4 W) => (⟨(h.cell (p := ⟨gL, 0, none⟩) (show gL < w4.heap.size by omega)).trans yc0.1, (h.cell (p := ⟨gL, 1, none⟩) (show gL < w4.heap.size by omega)).trans yc0.2⟩ : W.cell? ⟨gL, 0, none⟩ = some (.int .i64 (atV LL 0).1) ∧ W.cell? ⟨gL, 1, none⟩ = some (.int .i64 (atV LL 0).2)))
  clear yc0 hL op
  have HSP := hide (fun (W : World) (h : Below w4.heap.size w4 W) => impl_SquareToPolygon W W.heap.size (Nat.le_refl _) (some ⟨gL, 0, none⟩) LL.length Lc LL (HR.out _ h) HPL.out (HQp.out _ h) SP.out)
  have HDN := hide (fun (W : World) (h : Below w4.heap.size w4 W) => impl_DiscTouches W W.heap.size (Nat.le_refl _) (some ⟨gL, 0, none⟩) LL.length Lc LL (HR.out _ h) HPL.out (HQp.out _ h) SP.out e1 nn (by omega))
  have HDN1 := hide (fun (W : World) (h : Below w4.heap.size w4 W) => impl_DiscTouches W W.heap.size (Nat.le_refl _) (some ⟨gL, 0, none⟩) LL.length Lc LL (HR.out _ h) HPL.out (HQp.out _ h) SP.out e1 (nn + 1) (by omega))
  have HD0 := hide (fun (W : World) (h : Below w4.heap.size w4 W) {m0 m1 m2 m3 m4 m5 : Value} (hm : PIn W W.heap.size m0 m1 m2 m3 m4 m5 (vecP (atV LL 0).1 (atV LL 0).2)) => impl_DiscTouches W W.heap.size (Nat.le_refl _) (some ⟨gL, 0, none⟩) LL.length Lc LL (HR.out _ h) HPL.out hm s1 (by rw [s2]; exact e3) 0 (by decide))
  rw [s2, decide_eq_true e2] at HD0
  have HPO := hide (fun (W : World) => impl_PointOf W (atV LL 0).1 (atV LL 0).2 HW0.out.1 HW0.out.2)
  have fV : PFit (vecP (atV LL 0).1 (atV LL 0).2) := vecP_fit _ _
  have fd : QFit (toP LL P (scP P)) := toP_fit _ _ _
  have HOK := hide e1
  have HNI := hide (intQ_ok (n := nn) (by omega)).1
  obtain ⟨X, hX⟩ : ∃ X, cmpQ (toP LL P (scP P)) (intQ nn) = X := ⟨_, rfl⟩
  obtain ⟨Y, hY⟩ : ∃ Y, cmpQ (toP LL P (scP P)) (intQ (nn + 1)) = Y := ⟨_, rfl⟩
  rw [hX] at HDN e5
  rw [hY] at HDN1 e5
  have HX := hide hX
  clear hX hY e1 e2 e3 s1 s2
  generalize toP LL P (scP P) = dd at *
  generalize (atV LL 0).1 = c1 at *
  generalize (atV LL 0).2 = c2 at *
  have hbZ := hide (Below.refl w4.heap.size w4)
  have HWR : Hid (IntKind.i64.wrap (nn + 1) = nn + 1) := IntWalk.i64_in _ (by omega)
  have hmw : (Lit.int .i64 nn).wf = true := WalkArith.wf_i64 ⟨by omega, by omega⟩
  clear SP HpS HPL HW0 HR HQp
  have hbn0 := hbZ.out
  obtain ⟨yp0, yp1, yp2, yp3, yp4, yp5⟩ := kp.cells6
  go_wp2_with fail
  refine (HSP.out _ hbn0).mono ?_
  rintro e w5 ⟨d0, d1, d2, rfl, od, hb5⟩
  obtain ⟨db, dA, dn, dc, dD, dm, dk, rfl, rfl, rfl⟩ := od.cut
  have hbn1 := below_then hbn0 hb5
  clear hbn0 HSP
  clear yp0 yp1 yp2 yp3 yp4 yp5
  have hs5 := hb5.size
  have hT5 := below_then hT4 hb5
  have kp := kp.below hb5 kp.lt
  clear hT4
  clear hb5
  obtain ⟨w6, hw6⟩ : ∃ xw, xw = (w5.alloc (.cells #[.bool db, .slice dA dn dc, .slice dD dm dk] 27)) := ⟨_, rfl⟩
  have hb6 : Below w5.heap.size w5 w6 := by rw [hw6]; exact below_new _ _
  have hq6 : w6.heap.size = w5.heap.size + 1 := by rw [hw6, alloc_size]
  have kd : Box w6 (w5.heap.size) 27 #[.bool db, .slice dA dn dc, .slice dD dm dk] := by rw [hw6]; exact Box.last _ _ _ (by omega)
  have hs6 := hb6.size
  have hT6 := below_then hT5 hb6
  have kp := kp.below hb6 kp.lt
  have od := od.below hb6 (by omega)
  clear hT5
  go_upto_region 7 with fail
  rw [← hw6]
  have hbY6 := hb6
  clear hw6 hb6
  have hbn2 := below_then hbn1 hbY6
  clear hbn1
  have HQd := hide (fun (W : World) (h : Below w6.heap.size w6 W) => ((od.in_ fd (show _ ≤ w6.heap.size by omega)).below h).wider h.size)
  clear od
  have hb70 := Below.refl w6.heap.size w6
  obtain ⟨yd0, yd1, yd2⟩ := kd.cells3
  have hL0 : (0 < LL.length) = True := eq_true (by omega)
  have hL1 : (0 : Int) < (LL.length : Int) := by omega
  go_wp2_with fail
  refine (ok_true w6 w6.heap.size (Nat.le_refl _) (HQd.out _ (Below.refl _ _)) HOK.out).mono ?_
  rintro e w7 ⟨rfl, hb7⟩
  clear yd0 yd1 yd2
  have hb71 := below_then hb70 hb7
  clear hb70
  have hbn3 := below_then hbn2 hb7
  clear hbn2
  have hs7 := hb7.size
  have hT7 := below_then hT6 hb7
  have kp := kp.below hb7 kp.lt
  have kd := kd.below hb7 kd.lt
  clear hT6
  clear hb7
  obtain ⟨yc1, yc2⟩ := HYC.out _ hbn3
  go_wp2_with fail
  refine (HPO.out _).mono ?_
  rintro e w8 ⟨m0, m1, m2, m3, m4, m5, rfl, om, hb8⟩
  obtain ⟨mb, mA, mn, mc, mD, mm, mk, myb, myA, myn, myc, myD, mym, myk, rfl, rfl, rfl, rfl, rfl, rfl⟩ := om.cut
  have hbn4 := below_then hbn3 hb8
  clear hbn3 yc1 yc2
  have hb72 := below_then hb71 hb8
  clear hb71
  have hs8 := hb8.size
  have hT8 := below_then hT7 hb8
  have kp := kp.below hb8 kp.lt
  have kd := kd.below hb8 kd.lt
  clear hT7
  clear hb8 HPO
  go_wp2_with fail
  refine (HD0.out _ hbn4 (om.in_ fV (by omega))).mono ?_
  rintro e w9 ⟨rfl, hb9⟩
  have hbn5 := below_then hbn4 hb9
  clear hbn4 HD0
  have HB7 := hide (below_then hb72 hb9)
  clear hb72
  have hs9 := hb9.size
  have hT9 := below_then hT8 hb9
  have kp := kp.below hb9 kp.lt
  have kd := kd.below hb9 kd.lt
  have om := om.below hb9 (by omega)
  clear hT8
  clear hb9 om
  have HBp := hide kp
  have HBd := hide kd
  clear kp kd
  have HZ := hide hbn5
  clear hbn5
  have HTT := hide hT9
  clear hT9
  have HQd9 := hide (fun (W : World) (h : Below w9.heap.size w9 W) => HQd.out W (below_then (HB7.out) h))
  go_wp2_with fail
  have HX0 := HX
  clear HX
  by_cases hx : X ≤ 0
  · rw [decide_eq_true hx] at HDN
    rw [decide_eq_true (e5 hx)] at HDN1
    have hx1 : (X ≤ 0) = True := eq_true hx
    have hx2 : decide (X ≤ 0) = true := decide_eq_true hx
    clear hx e5
    have HS0 : Hid (Below w9.heap.size w9 w9.drew) := (Below.refl _ _).drew
    have HKS := hide (fun (W : World) (hq : Below w9.heap.size w9 W) => (⟨(HBp.out.below hq HBp.out.lt).cell 0, (HBp.out.below hq HBp.out.lt).cell 1, (HBp.out.below hq HBp.out.lt).cell 2, (HBp.out.below hq HBp.out.lt).cell 3, (HBp.out.below hq HBp.out.lt).cell 4, (HBp.out.below hq HBp.out.lt).cell 5, (HBd.out.below hq HBd.out.lt).cell 0, (HBd.out.below hq HBd.out.lt).cell 1, (HBd.out.below hq HBd.out.lt).cell 2⟩ : W.cell? ⟨w2.heap.size, 0, none⟩ = some (.bool pb) ∧ W.cell? ⟨w2.heap.size, 1, none⟩ = some (.slice pA pn pc) ∧ W.cell? ⟨w2.heap.size, 2, none⟩ = some (.slice pD pm pk) ∧ W.cell? ⟨w2.heap.size, 3, none⟩ = some (.bool pyb) ∧ W.cell? ⟨w2.heap.size, 4, none⟩ = some (.slice pyA pyn pyc) ∧ W.cell? ⟨w2.heap.size, 5, none⟩ = some (.slice pyD pym pyk) ∧ W.cell? ⟨w5.heap.size, 0, none⟩ = some (.bool db) ∧ W.cell? ⟨w5.heap.size, 1, none⟩ = some (.slice dA dn dc) ∧ W.cell? ⟨w5.heap.size, 2, none⟩ = some (.slice dD dm dk)))
    refine wp_region_held_drew (S := (fun w' => w'.cell? ⟨w2.heap.size, 0, none⟩ = some (.bool pb) ∧ w'.cell? ⟨w2.heap.size, 1, none⟩ = some (.slice pA pn pc) ∧ w'.cell? ⟨w2.heap.size, 2, none⟩ = some (.slice pD pm pk) ∧ w'.cell? ⟨w2.heap.size, 3, none⟩ = some (.bool pyb) ∧ w'.cell? ⟨w2.heap.size, 4, none⟩ = some (.slice pyA pyn pyc) ∧ w'.cell? ⟨w2.heap.size, 5, none⟩ = some (.slice pyD pym pyk) ∧ w'.cell? ⟨w5.heap.size, 0, none⟩ = some (.bool db) ∧ w'.cell? ⟨w5.heap.size, 1, none⟩ = some (.slice dA dn dc) ∧ w'.cell? ⟨w5.heap.size, 2, none⟩ = some (.slice dD dm dk))) (by kernel_rfl) (HKS.out _ HS0.out) (fun hHeld => ?_)
    show wpAnyH _ _ _ _ _ 25 _ _ _
    refine takeTQ (i := 0) (t := 32) (v := ?_) rfl (by kernel_rfl) (by kernel_rfl) (by kernel_rfl) (fun _ _ _ h => h) rfl (by rfl) ?_ hHeld ?_
    rotate_left 1
    · intro w hSw; (try dsimp only at hSw); go_simp; with_reducible rfl
    simp only [List.setIfInBounds_toArray, List.set_cons_zero, List.set_cons_succ]
    refine takeTQ (i := 1) (t := 33) (v := ?_) rfl (by kernel_rfl) (by kernel_rfl) (by kernel_rfl) (fun _ _ _ h => h) rfl (by rfl) ?_ hHeld ?_
    rotate_left 1
    · intro w hSw; (try dsimp only at hSw); go_simp; with_reducible rfl
    simp only [List.setIfInBounds_toArray, List.set_cons_zero, List.set_cons_succ]
    refine takeTQ (i := 2) (t := 34) (v := ?_) rfl (by kernel_rfl) (by kernel_rfl) (by kernel_rfl) (fun _ _ _ h => h) rfl (by rfl) ?_ hHeld ?_
    rotate_left 1
    · intro w hSw; (try dsimp only at hSw); go_simp; with_reducible rfl
    simp only [List.setIfInBounds_toArray, List.set_cons_zero, List.set_cons_succ]
    refine takeTQ (i := 4) (t := 36) (v := ?_) rfl (by kernel_rfl) (by kernel_rfl) (by kernel_rfl) (fun _ _ _ h => h) rfl (by rfl) ?_ hHeld ?_
    rotate_left 1
    · intro w hSw; (try dsimp only at hSw); go_simp; with_reducible rfl
    simp only [List.setIfInBounds_toArray, List.set_cons_zero, List.set_cons_succ]
    refine takeTQ (i := 5) (t := 37) (v := ?_) rfl (by kernel_rfl) (by kernel_rfl) (by kernel_rfl) (fun _ _ _ h => h) rfl (by rfl) ?_ hHeld ?_
    rotate_left 1
    · intro w hSw; (try dsimp only at hSw); go_simp; with_reducible rfl
    simp only [List.setIfInBounds_toArray, List.set_cons_zero, List.set_cons_succ]
    refine wpAnyH_ready (rs := [3]) (by kernel_rfl) (by simp) ?_
    refine AllReadyH.cons rfl (fun K hK => ?_) AllReadyH.nil
    simp only [List.getElem_toArray, List.getElem_cons_succ, List.getElem_cons_zero]
    go_simp
    (have HX := HS0.out; (with_reducible refine Calls.mono (HDN.out _ (below_then HZ.out HS0.out)) ?_); rintro e u1 ⟨rfl, hb1⟩; have HS1 := hide (below_then HX hb1); clear HX)
    go_wp2_with fail
    refine hK.out _ _ (HKS.out _ HS1.out) (fun hHeld => ?_)
    clear hK K
    refine wpAnyH_ready (rs := [6]) (by kernel_rfl) (by simp) ?_
    refine AllReadyH.cons rfl (fun K hK => ?_) AllReadyH.nil
    simp only [List.getElem_toArray, List.getElem_cons_succ, List.getElem_cons_zero]
    go_simp
    (have HX := HS1.out; (with_reducible refine Calls.mono (impl_intQ _ nn hmw) ?_); rintro e u2 ⟨z0, z1, z2, rfl, oz, hb2⟩; obtain ⟨zb, zA, zn, zc, zD, zm, zk, rfl, rfl, rfl⟩ := oz.cut; have qz := oz.in_ (intQ_fit _) (Nat.le_refl _); have HS2 := hide (below_then HX hb2); clear HX oz)
    go_wp2_with fail
    refine hK.out _ _ (HKS.out _ HS2.out) (fun hHeld => ?_)
    clear hK K
    refine wpAnyH_ready (rs := [7]) (by kernel_rfl) (by simp) ?_
    refine AllReadyH.cons rfl (fun K hK => ?_) AllReadyH.nil
    simp only [List.getElem_toArray, List.getElem_cons_succ, List.getElem_cons_zero]
    go_simp
    (have HX := HS2.out; (with_reducible refine Calls.mono (cmp_is _ _ (Nat.le_refl _) (HQd9.out _ HS2.out) qz ⟨HOK.out, HNI.out, HX0.out⟩) ?_); rintro e u3 ⟨rfl, hb3⟩; have HS3 := hide (below_then HX hb3); clear HX)
    go_wp2_with fail
    refine hK.out _ _ (HKS.out _ HS3.out) (fun hHeld => ?_)
    clear hK K
    refine takeTQ (i := 8) (t := 40) (v := ?_) rfl (by kernel_rfl) (by kernel_rfl) (by kernel_rfl) (fun _ _ _ h => h) rfl (by rfl) ?_ hHeld ?_
    rotate_left 1
    · intro w hSw; (try dsimp only at hSw); go_simp; with_reducible rfl
    simp only [List.setIfInBounds_toArray, List.set_cons_zero, List.set_cons_succ]
    refine takeTQ (i := 9) (t := 41) (v := ?_) rfl (by kernel_rfl) (by kernel_rfl) (by kernel_rfl) (fun _ _ _ h => h) rfl (by rfl) ?_ hHeld ?_
    rotate_left 1
    · intro w hSw; (try dsimp only at hSw); go_simp; with_reducible rfl
    simp only [List.setIfInBounds_toArray, List.set_cons_zero, List.set_cons_succ]
    refine takeTQ (i := 10) (t := 42) (v := ?_) rfl (by kernel_rfl) (by kernel_rfl) (by kernel_rfl) (fun _ _ _ h => h) rfl (by rfl) ?_ hHeld ?_
    rotate_left 1
    · intro w hSw; (try dsimp only at hSw); go_simp; with_reducible rfl
    simp only [List.setIfInBounds_toArray, List.set_cons_zero, List.set_cons_succ]
    refine takeTQ (i := 11) (t := 43) (v := ?_) rfl (by kernel_rfl) (by kernel_rfl) (by kernel_rfl) (fun _ _ _ h => h) rfl (by rfl) ?_ hHeld ?_
    rotate_left 1
    · intro w hSw; (try dsimp only at hSw); go_simp; with_reducible rfl
    simp only [List.setIfInBounds_toArray, List.set_cons_zero, List.set_cons_succ]
    refine takeTQ (i := 12) (t := 44) (v := ?_) rfl (by kernel_rfl) (by kernel_rfl) (by kernel_rfl) (fun _ _ _ h => h) rfl (by rfl) ?_ hHeld ?_
    rotate_left 1
    · intro w hSw; (try dsimp only at hSw); go_simp; with_reducible rfl
    simp only [List.setIfInBounds_toArray, List.set_cons_zero, List.set_cons_succ]
    refine takeTQ (i := 13) (t := 45) (v := ?_) rfl (by kernel_rfl) (by kernel_rfl) (by kernel_rfl) (fun _ _ _ h => h) rfl (by rfl) ?_ hHeld ?_
    rotate_left 1
    · intro w hSw; (try dsimp only at hSw); go_simp; with_reducible rfl
    simp only [List.setIfInBounds_toArray, List.set_cons_zero, List.set_cons_succ]
    refine wpAnyH_ready (rs := [14]) (by kernel_rfl) (by simp) ?_
    refine AllReadyH.cons rfl (fun K hK => ?_) AllReadyH.nil
    simp only [List.getElem_toArray, List.getElem_cons_succ, List.getElem_cons_zero]
    go_simp
    (have HX := HS3.out; (with_reducible refine Calls.mono (HDN.out _ (below_then HZ.out HS3.out)) ?_); rintro e u4 ⟨rfl, hb4⟩; have HS4 := hide (below_then HX hb4); clear HX)
    go_wp2_with fail
    refine hK.out _ _ (HKS.out _ HS4.out) (fun hHeld => ?_)
    clear hK K
    refine takeTQ (i := 15) (t := 47) (v := ?_) rfl (by kernel_rfl) (by kernel_rfl) (by kernel_rfl) (fun _ _ _ h => h) rfl (by rfl) ?_ hHeld ?_
    rotate_left 1
    · intro w hSw; (try dsimp only at hSw); go_simp; with_reducible rfl
    simp only [List.setIfInBounds_toArray, List.set_cons_zero, List.set_cons_succ]
    refine takeTQ (i := 16) (t := 48) (v := ?_) rfl (by kernel_rfl) (by kernel_rfl) (by kernel_rfl) (fun _ _ _ h => h) rfl (by rfl) ?_ hHeld ?_
    rotate_left 1
    · intro w hSw; (try dsimp only at hSw); go_simp; with_reducible rfl
    simp only [List.setIfInBounds_toArray, List.set_cons_zero, List.set_cons_succ]
    refine takeTQ (i := 17) (t := 49) (v := ?_) rfl (by kernel_rfl) (by kernel_rfl) (by kernel_rfl) (fun _ _ _ h => h) rfl (by rfl) ?_ hHeld ?_
    rotate_left 1
    · intro w hSw; (try dsimp only at hSw); go_simp; with_reducible rfl
    simp only [List.setIfInBounds_toArray, List.set_cons_zero, List.set_cons_succ]
    refine takeTQ (i := 18) (t := 50) (v := ?_) rfl (by kernel_rfl) (by kernel_rfl) (by kernel_rfl) (fun _ _ _ h => h) rfl (by rfl) ?_ hHeld ?_
    rotate_left 1
    · intro w hSw; (try dsimp only at hSw); go_simp; with_reducible rfl
    simp only [List.setIfInBounds_toArray, List.set_cons_zero, List.set_cons_succ]
    refine takeTQ (i := 19) (t := 51) (v := ?_) rfl (by kernel_rfl) (by kernel_rfl) (by kernel_rfl) (fun _ _ _ h => h) rfl (by rfl) ?_ hHeld ?_
    rotate_left 1
    · intro w hSw; (try dsimp only at hSw); go_simp; with_reducible rfl
    simp only [List.setIfInBounds_toArray, List.set_cons_zero, List.set_cons_succ]
    refine takeTQ (i := 20) (t := 52) (v := ?_) rfl (by kernel_rfl) (by kernel_rfl) (by kernel_rfl) (fun _ _ _ h => h) rfl (by rfl) ?_ hHeld ?_
    rotate_left 1
    · intro w hSw; (try dsimp only at hSw); go_simp; with_reducible rfl
    simp only [List.setIfInBounds_toArray, List.set_cons_zero, List.set_cons_succ]
    refine wpAnyH_ready (rs := [21]) (by kernel_rfl) (by simp) ?_
    refine AllReadyH.cons rfl (fun K hK => ?_) AllReadyH.nil
    simp only [List.getElem_toArray, List.getElem_cons_succ, List.getElem_cons_zero]
    go_simp
    (have HX := HS4.out; rw [HWR.out]; (with_reducible refine Calls.mono (HDN1.out _ (below_then HZ.out HS4.out)) ?_); rintro e u5 ⟨rfl, hb5⟩; have HS5 := hide (below_then HX hb5); clear HX)
    go_wp2_with fail
    refine hK.out _ _ (HKS.out _ HS5.out) (fun hHeld => ?_)
    clear hK K
    refine takeTQ (i := 22) (t := 54) (v := ?_) rfl (by kernel_rfl) (by kernel_rfl) (by kernel_rfl) (fun _ _ _ h => h) rfl (by rfl) ?_ hHeld ?_
    rotate_left 1
    · intro w hSw; (try dsimp only at hSw); go_simp; with_reducible rfl
    simp only [List.setIfInBounds_toArray, List.set_cons_zero, List.set_cons_succ]
    refine takeTQ (i := 23) (t := 55) (v := ?_) rfl (by kernel_rfl) (by kernel_rfl) (by kernel_rfl) (fun _ _ _ h => h) rfl (by rfl) ?_ hHeld ?_
    rotate_left 1
    · intro w hSw; (try dsimp only at hSw); go_simp; with_reducible rfl
    simp only [List.setIfInBounds_toArray, List.set_cons_zero, List.set_cons_succ]
    refine takeTQ (i := 24) (t := 2) (v := ?_) rfl (by kernel_rfl) (by kernel_rfl) (by kernel_rfl) (fun _ _ _ h => h) rfl (by rfl) ?_ hHeld ?_
    rotate_left 1
    · intro w hSw; (try dsimp only at hSw); go_simp; with_reducible rfl
    simp only [List.setIfInBounds_toArray, List.set_cons_zero, List.set_cons_succ]
    refine wpAnyH_done (by kernel_rfl) ?_ _
    go_wp2_with fail
    go_ret
    exact ⟨rfl, below_then HTT.out HS5.out⟩
  · rw [decide_eq_false hx] at HDN
    have hx1 : (X ≤ 0) = False := eq_false hx
    have hx2 : decide (X ≤ 0) = false := decide_eq_false hx
    clear hx e5
    have HS0 : Hid (Below w9.heap.size w9 w9.drew) := (Below.refl _ _).drew
    have HKS := hide (fun (W : World) (hq : Below w9.heap.size w9 W) => (⟨(HBp.out.below hq HBp.out.lt).cell 0, (HBp.out.below hq HBp.out.lt).cell 1, (HBp.out.below hq HBp.out.lt).cell 2, (HBp.out.below hq HBp.out.lt).cell 3, (HBp.out.below hq HBp.out.lt).cell 4, (HBp.out.below hq HBp.out.lt).cell 5, (HBd.out.below hq HBd.out.lt).cell 0, (HBd.out.below hq HBd.out.lt).cell 1, (HBd.out.below hq HBd.out.lt).cell 2⟩ : W.cell? ⟨w2.heap.size, 0, none⟩ = some (.bool pb) ∧ W.cell? ⟨w2.heap.size, 1, none⟩ = some (.slice pA pn pc) ∧ W.cell? ⟨w2.heap.size, 2, none⟩ = some (.slice pD pm pk) ∧ W.cell? ⟨w2.heap.size, 3, none⟩ = some (.bool pyb) ∧ W.cell? ⟨w2.heap.size, 4, none⟩ = some (.slice pyA pyn pyc) ∧ W.cell? ⟨w2.heap.size, 5, none⟩ = some (.slice pyD pym pyk) ∧ W.cell? ⟨w5.heap.size, 0, none⟩ = some (.bool db) ∧ W.cell? ⟨w5.heap.size, 1, none⟩ = some (.slice dA dn dc) ∧ W.cell? ⟨w5.heap.size, 2, none⟩ = some (.slice dD dm dk)))
    refine wp_region_held_drew (S := (fun w' => w'.cell? ⟨w2.heap.size, 0, none⟩ = some (.bool pb) ∧ w'.cell? ⟨w2.heap.size, 1, none⟩ = some (.slice pA pn pc) ∧ w'.cell? ⟨w2.heap.size, 2, none⟩ = some (.slice pD pm pk) ∧ w'.cell? ⟨w2.heap.size, 3, none⟩ = some (.bool pyb) ∧ w'.cell? ⟨w2.heap.size, 4, none⟩ = some (.slice pyA pyn pyc) ∧ w'.cell? ⟨w2.heap.size, 5, none⟩ = some (.slice pyD pym pyk) ∧ w'.cell? ⟨w5.heap.size, 0, none⟩ = some (.bool db) ∧ w'.cell? ⟨w5.heap.size, 1, none⟩ = some (.slice dA dn dc) ∧ w'.cell? ⟨w5.heap.size, 2, none⟩ = some (.slice dD dm dk))) (by kernel_rfl) (HKS.out _ HS0.out) (fun hHeld => ?_)
    show wpAnyH _ _ _ _ _ 25 _ _ _
    refine takeTQ (i := 0) (t := 32) (v := ?_) rfl (by kernel_rfl) (by kernel_rfl) (by kernel_rfl) (fun _ _ _ h => h) rfl (by rfl) ?_ hHeld ?_
    rotate_left 1
    · intro w hSw; (try dsimp only at hSw); go_simp; with_reducible rfl
    simp only [List.setIfInBounds_toArray, List.set_cons_zero, List.set_cons_succ]
    refine takeTQ (i := 1) (t := 33) (v := ?_) rfl (by kernel_rfl) (by kernel_rfl) (by kernel_rfl) (fun _ _ _ h => h) rfl (by rfl) ?_ hHeld ?_
    rotate_left 1
    · intro w hSw; (try dsimp only at hSw); go_simp; with_reducible rfl
    simp only [List.setIfInBounds_toArray, List.set_cons_zero, List.set_cons_succ]
    refine takeTQ (i := 2) (t := 34) (v := ?_) rfl (by kernel_rfl) (by kernel_rfl) (by kernel_rfl) (fun _ _ _ h => h) rfl (by rfl) ?_ hHeld ?_
    rotate_left 1
    · intro w hSw; (try dsimp only at hSw); go_simp; with_reducible rfl
    simp only [List.setIfInBounds_toArray, List.set_cons_zero, List.set_cons_succ]
    refine takeTQ (i := 4) (t := 36) (v := ?_) rfl (by kernel_rfl) (by kernel_rfl) (by kernel_rfl) (fun _ _ _ h => h) rfl (by rfl) ?_ hHeld ?_
    rotate_left 1
    · intro w hSw; (try dsimp only at hSw); go_simp; with_reducible rfl
    simp only [List.setIfInBounds_toArray, List.set_cons_zero, List.set_cons_succ]
    refine takeTQ (i := 5) (t := 37) (v := ?_) rfl (by kernel_rfl) (by kernel_rfl) (by kernel_rfl) (fun _ _ _ h => h) rfl (by rfl) ?_ hHeld ?_
    rotate_left 1
    · intro w hSw; (try dsimp only at hSw); go_simp; with_reducible rfl
    simp only [List.setIfInBounds_toArray, List.set_cons_zero, List.set_cons_succ]
    refine wpAnyH_ready (rs := [3]) (by kernel_rfl) (by simp) ?_
    refine AllReadyH.cons rfl (fun K hK => ?_) AllReadyH.nil
    simp only [List.getElem_toArray, List.getElem_cons_succ, List.getElem_cons_zero]
    go_simp
    (have HX := HS0.out; (with_reducible refine Calls.mono (HDN.out _ (below_then HZ.out HS0.out)) ?_); rintro e u1 ⟨rfl, hb1⟩; have HS1 := hide (below_then HX hb1); clear HX)
    go_wp2_with fail
    refine hK.out _ _ (HKS.out _ HS1.out) (fun hHeld => ?_)
    clear hK K
    refine wpAnyH_ready (rs := [6]) (by kernel_rfl) (by simp) ?_
    refine AllReadyH.cons rfl (fun K hK => ?_) AllReadyH.nil
    simp only [List.getElem_toArray, List.getElem_cons_succ, List.getElem_cons_zero]
    go_simp
    (have HX := HS1.out; (with_reducible refine Calls.mono (impl_intQ _ nn hmw) ?_); rintro e u2 ⟨z0, z1, z2, rfl, oz, hb2⟩; obtain ⟨zb, zA, zn, zc, zD, zm, zk, rfl, rfl, rfl⟩ := oz.cut; have qz := oz.in_ (intQ_fit _) (Nat.le_refl _); have HS2 := hide (below_then HX hb2); clear HX oz)
    go_wp2_with fail
    refine hK.out _ _ (HKS.out _ HS2.out) (fun hHeld => ?_)
    clear hK K
    refine wpAnyH_ready (rs := [7]) (by kernel_rfl) (by simp) ?_
    refine AllReadyH.cons rfl (fun K hK => ?_) AllReadyH.nil
    simp only [List.getElem_toArray, List.getElem_cons_succ, List.getElem_cons_zero]
    go_simp
    (have HX := HS2.out; (with_reducible refine Calls.mono (cmp_is _ _ (Nat.le_refl _) (HQd9.out _ HS2.out) qz ⟨HOK.out, HNI.out, HX0.out⟩) ?_); rintro e u3 ⟨rfl, hb3⟩; have HS3 := hide (below_then HX hb3); clear HX)
    go_wp2_with fail
    refine hK.out _ _ (HKS.out _ HS3.out) (fun hHeld => ?_)
    clear hK K
    refine takeTQ (i := 8) (t := 40) (v := ?_) rfl (by kernel_rfl) (by kernel_rfl) (by kernel_rfl) (fun _ _ _ h => h) rfl (by rfl) ?_ hHeld ?_
    rotate_left 1
    · intro w hSw; (try dsimp only at hSw); go_simp; with_reducible rfl
    simp only [List.setIfInBounds_toArray, List.set_cons_zero, List.set_cons_succ]
    refine takeTQ (i := 9) (t := 41) (v := ?_) rfl (by kernel_rfl) (by kernel_rfl) (by kernel_rfl) (fun _ _ _ h => h) rfl (by rfl) ?_ hHeld ?_
    rotate_left 1
    · intro w hSw; (try dsimp only at hSw); go_simp; with_reducible rfl
    simp only [List.setIfInBounds_toArray, List.set_cons_zero, List.set_cons_succ]
    refine takeTQ (i := 10) (t := 42) (v := ?_) rfl (by kernel_rfl) (by kernel_rfl) (by kernel_rfl) (fun _ _ _ h => h) rfl (by rfl) ?_ hHeld ?_
    rotate_left 1
    · intro w hSw; (try dsimp only at hSw); go_simp; with_reducible rfl
    simp only [List.setIfInBounds_toArray, List.set_cons_zero, List.set_cons_succ]
    refine takeTQ (i := 11) (t := 43) (v := ?_) rfl (by kernel_rfl) (by kernel_rfl) (by kernel_rfl) (fun _ _ _ h => h) rfl (by rfl) ?_ hHeld ?_
    rotate_left 1
    · intro w hSw; (try dsimp only at hSw); go_simp; with_reducible rfl
    simp only [List.setIfInBounds_toArray, List.set_cons_zero, List.set_cons_succ]
    refine takeTQ (i := 12) (t := 44) (v := ?_) rfl (by kernel_rfl) (by kernel_rfl) (by kernel_rfl) (fun _ _ _ h => h) rfl (by rfl) ?_ hHeld ?_
    rotate_left 1
    · intro w hSw; (try dsimp only at hSw); go_simp; with_reducible rfl
    simp only [List.setIfInBounds_toArray, List.set_cons_zero, List.set_cons_succ]
    refine takeTQ (i := 13) (t := 45) (v := ?_) rfl (by kernel_rfl) (by kernel_rfl) (by kernel_rfl) (fun _ _ _ h => h) rfl (by rfl) ?_ hHeld ?_
    rotate_left 1
    · intro w hSw; (try dsimp only at hSw); go_simp; with_reducible rfl
    simp only [List.setIfInBounds_toArray, List.set_cons_zero, List.set_cons_succ]
    refine wpAnyH_ready (rs := [14]) (by kernel_rfl) (by simp) ?_
    refine AllReadyH.cons rfl (fun K hK => ?_) AllReadyH.nil
    simp only [List.getElem_toArray, List.getElem_cons_succ, List.getElem_cons_zero]
    go_simp
    (have HX := HS3.out; (with_reducible refine Calls.mono (HDN.out _ (below_then HZ.out HS3.out)) ?_); rintro e u4 ⟨rfl, hb4⟩; have HS4 := hide (below_then HX hb4); clear HX)
    go_wp2_with fail
    refine hK.out _ _ (HKS.out _ HS4.out) (fun hHeld => ?_)
    clear hK K
    refine takeTQ (i := 15) (t := 47) (v := ?_) rfl (by kernel_rfl) (by kernel_rfl) (by kernel_rfl) (fun _ _ _ h => h) rfl (by rfl) ?_ hHeld ?_
    rotate_left 1
    · intro w hSw; (try dsimp only at hSw); go_simp; with_reducible rfl
    simp only [List.setIfInBounds_toArray, List.set_cons_zero, List.set_cons_succ]
    refine takeTQ (i := 16) (t := 48) (v := ?_) rfl (by kernel_rfl) (by kernel_rfl) (by kernel_rfl) (fun _ _ _ h => h) rfl (by rfl) ?_ hHeld ?_
    rotate_left 1
    · intro w hSw; (try dsimp only at hSw); go_simp; with_reducible rfl
    simp only [List.setIfInBounds_toArray, List.set_cons_zero, List.set_cons_succ]
    refine skipTQ (i := 17) (t := 49) rfl (by kernel_rfl) (by kernel_rfl) (by kernel_rfl) (fun _ _ _ h => h) rfl (by rfl) hHeld ?_
    simp only [List.setIfInBounds_toArray, List.set_cons_zero, List.set_cons_succ]
    refine skipTQ (i := 18) (t := 50) rfl (by kernel_rfl) (by kernel_rfl) (by kernel_rfl) (fun _ _ _ h => h) rfl (by rfl) hHeld ?_
    simp only [List.setIfInBounds_toArray, List.set_cons_zero, List.set_cons_succ]
    refine skipTQ (i := 19) (t := 51) rfl (by kernel_rfl) (by kernel_rfl) (by kernel_rfl) (fun _ _ _ h => h) rfl (by rfl) hHeld ?_
    simp only [List.setIfInBounds_toArray, List.set_cons_zero, List.set_cons_succ]
    refine skipTQ (i := 20) (t := 52) rfl (by kernel_rfl) (by kernel_rfl) (by kernel_rfl) (fun _ _ _ h => h) rfl (by rfl) hHeld ?_
    simp only [List.setIfInBounds_toArray, List.set_cons_zero, List.set_cons_succ]
    refine skipCQ (i := 21) (t := 53) (by kernel_rfl) rfl rfl (by rfl) hHeld ?_
    simp only [List.setIfInBounds_toArray, List.set_cons_zero, List.set_cons_succ]
    refine takeTQ (i := 22) (t := 54) (v := ?_) rfl (by kernel_rfl) (by kernel_rfl) (by kernel_rfl) (fun _ _ _ h => h) rfl (by rfl) ?_ hHeld ?_
    rotate_left 1
    · intro w hSw; (try dsimp only at hSw); go_simp; with_reducible rfl
    simp only [List.setIfInBounds_toArray, List.set_cons_zero, List.set_cons_succ]
    refine takeTQ (i := 23) (t := 55) (v := ?_) rfl (by kernel_rfl) (by kernel_rfl) (by kernel_rfl) (fun _ _ _ h => h) rfl (by rfl) ?_ hHeld ?_
    rotate_left 1
    · intro w hSw; (try dsimp only at hSw); go_simp; with_reducible rfl
    simp only [List.setIfInBounds_toArray, List.set_cons_zero, List.set_cons_succ]
    refine takeTQ (i := 24) (t := 2) (v := ?_) rfl (by kernel_rfl) (by kernel_rfl) (by kernel_rfl) (fun _ _ _ h => h) rfl (by rfl) ?_ hHeld ?_
    rotate_left 1
    · intro w hSw; (try dsimp only at hSw); go_simp; with_reducible rfl
    simp only [List.setIfInBounds_toArray, List.set_cons_zero, List.set_cons_succ]
    refine wpAnyH_done (by kernel_rfl) ?_ _
    go_wp2_with fail
    go_ret
    exact ⟨rfl, below_then HTT.out HS4.out⟩
end Go.Proofs.YtafhhemojdblpaaGreat
