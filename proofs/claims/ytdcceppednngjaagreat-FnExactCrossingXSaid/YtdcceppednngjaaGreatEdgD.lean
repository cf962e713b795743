/-
  The reference's edges: contracts: HeightAt, CrossingX, LevelX.
-/
import Derived.Test.YtdcceppednngjaaGreatEdgR
import Derived.Test.YtdcceppednngjaaGreatEdgM
import Derived.Test.YtdcceppednngjaaGreatPT
import Derived.Test.YtdcceppednngjaaGreatSG
import Derived.Deep.RegionHeld3
import Derived.Deep.CutRange
import Derived.Sort.AtCall
namespace Go.Proofs.YtdcceppednngjaaGreat
open Go.RowKit
set_option linter.unusedVariables false
theorem iw_eq (z : Int) : IntKind.i64.wrap z = wrap64 z := IntWalk.i64_left z
theorem iw_wf (z : Int) : (Lit.int .i64 (IntKind.i64.wrap z)).wf = true := by rw [iw_eq]; exact wrap64_wf z
theorem w64_inD {z : Int} (h : z.natAbs ≤ 1000000000000) : wrap64 z = z := by unfold wrap64; omega
set_option maxRecDepth 100000 in
set_option maxHeartbeats 6400000 in
theorem spec_HeightAt (w : World) (B : Nat) (hB : B ≤ w.heap.size) (ex ey eu ev ek : Int) (el : Bool) (hex : (Lit.int .i64 ex).wf = true) (hey : (Lit.int .i64 ey).wf = true) (heu : (Lit.int .i64 eu).wf = true) (hev : (Lit.int .i64 ev).wf = true) {p0 p1 p2 : Value} {pZ : RQ} (hp : QIn w B p0 p1 p2 pZ) :
    Calls Tryz.prog 19 #[.agg #[.int .i64 ex, .int .i64 ey, .int .i64 eu, .int .i64 ev, .int .i64 ek, .bool el], .agg #[p0, p1, p2]] w fun e w' => QRes 3 w w' e (if edgeB ex ey eu ev = true then hgtQ ex ey eu ev pZ else noR) := by
  have HV := hide (fun (W : World) => spec_IsValidEdge W ex ey eu ev ek el hex hey heu hev)
  have HI1 := hide (fun (W : World) => spec_intQ W ex hex)
  have HI2 := hide (fun (W : World) => spec_intQ W ey hey)
  obtain ⟨O, hO⟩ : ∃ O, O = ofQ (IntKind.i64.wrap (ev - ey)) (IntKind.i64.wrap (eu - ex)) := ⟨_, rfl⟩
  have HOF := hide (fun (W : World) => spec_ofQ W (IntKind.i64.wrap (ev - ey)) (IntKind.i64.wrap (eu - ex)) (iw_wf _) (iw_wf _))
  rw [← hO] at HOF
  have HFO : Hid (QFit O) := by show _; rw [hO]; exact ofQ_fit _ _
  have HZ : Hid (edgeB ex ey eu ev = true → addQ (intQ ey) (mulQ (subQ pZ (intQ ex)) O) = hgtQ ex ey eu ev pZ) := fun h => by
    have h' := edge_iff.1 h
    rw [hO, iw_eq, iw_eq, w64_inD (z := ev - ey) (by omega), w64_inD (z := eu - ex) (by omega)]
    rfl
  generalize hgtQ ex ey eu ev pZ = RZ at *
  generalize edgeB ex ey eu ev = b1 at *
  clear hO hex hey heu hev
  obtain ⟨W0, hW0⟩ : ∃ W0, W0 = (((w.alloc (.cells #[.int .i64 ex, .int .i64 ey, .int .i64 eu, .int .i64 ev, .int .i64 ek, .bool el] 35)).alloc (.cells #[p0, p1, p2] 30)).alloc (.cells #[.bool false, .slice none 0 0, .slice none 0 0] 30)) := ⟨_, rfl⟩
  have hT0 : Below w.heap.size w W0 := by rw [hW0]; exact below_alloc (below_alloc (below_new _ _) _) _
  have ke : Box W0 (w.heap.size) 35 #[.int .i64 ex, .int .i64 ey, .int .i64 eu, .int .i64 ev, .int .i64 ek, .bool el] := by rw [hW0]; exact ((Box.last _ _ _ rfl).alloc _).alloc _
  have kp : Box W0 (w.heap.size + 1) 30 #[p0, p1, p2] := by rw [hW0]; exact (Box.last _ _ _ (alloc_size _ _).symm).alloc _
  have kr : Box W0 (w.heap.size + 2) 30 #[.bool false, .slice none 0 0, .slice none 0 0] := by rw [hW0]; exact Box.last _ _ _ (by rw [alloc_size, alloc_size])
  have hs0 : W0.heap.size = w.heap.size + 3 := by rw [hW0, alloc_size, alloc_size, alloc_size]
  have hp := hp.below (hT0.mono hB)
  go_enter Tryz.func19, Tryz.ntmps19
  go_upto_region 1 with fail
  rw [← hW0]
  clear hW0
  obtain ⟨ye0, ye1, ye2, ye3, ye4, ye5⟩ := ke.cells6
  go_wp2_with fail
  refine (HV.out W0).mono ?_
  rintro e w1 ⟨rfl, hb1⟩
  clear ye0 ye1 ye2 ye3 ye4 ye5
  have hs1 := hb1.size
  have hT1 := below_then hT0 hb1
  have ke := ke.below hb1 ke.lt
  have kp := kp.below hb1 kp.lt
  have kr := kr.below hb1 kr.lt
  have hp := hp.below (hb1.mono (by omega))
  clear hT0
  clear hb1
  cases b1 with
  | false =>
    have HO := hide (ret_q kr (QOwn.zero w1 w1.heap.size w1.heap.size 3 (Nat.le_refl _)) hT1 (by omega) (by omega) (by omega) (.inl (by omega)))
    obtain ⟨yr0, yr1, yr2, zr0, zr1, zr2⟩ := kr.facts3
    clear kr
    go_wp2_with fail
    refine bodyPost_ret (results_cell_row rfl _ _ (w.heap.size + 2) _ #[.bool false, .slice none 0 0, .slice none 0 0] (0, 0) _ rfl HO.out.1 Tryz.underlying30 rfl Tryz.sizeRat) rfl ?_
    exact ⟨_, _, _, rfl, HO.out.2.1, HO.out.2.2⟩
  | true =>
    have HPZ : Hid (addQ (intQ ey) (mulQ (subQ pZ (intQ ex)) O) = RZ) := HZ.out (by trivial)
    clear HZ
    go_upto_region 3 with fail
    obtain ⟨pb, pA, pn, pc, pD, pm, pk, rfl, rfl, rfl⟩ := hp.cut
    have HIP := hide (fun (W : World) (h : Below w1.heap.size w1 W) => (hp.below (h.mono (by omega))).wider (show B ≤ W.heap.size by have := h.size; omega))
    clear hp
    have Ehs0 := hide hs0
    clear hs0
    have HBe := hide ke
    have HBp := hide kp
    have HS0 : Hid (Below w1.heap.size w1 w1.drew) := (Below.refl _ _).drew
    have HS0a : Hid (Below w1.heap.size w1 (w1.alloc (.cells #[.bool false, .slice none 0 0, .slice none 0 0] 30)).drew) := (below_new _ _).drew
    have HKS := hide (fun (W : World) (hq : Below w1.heap.size w1 W) => (⟨(HBe.out.below hq HBe.out.lt).cell 0, (HBe.out.below hq HBe.out.lt).cell 1, (HBe.out.below hq HBe.out.lt).cell 2, (HBe.out.below hq HBe.out.lt).cell 3, (HBe.out.below hq HBe.out.lt).cell 4, (HBe.out.below hq HBe.out.lt).cell 5, (HBp.out.below hq HBp.out.lt).cell 0, (HBp.out.below hq HBp.out.lt).cell 1, (HBp.out.below hq HBp.out.lt).cell 2⟩ : W.cell? ⟨w.heap.size, 0, none⟩ = some (.int .i64 ex) ∧ W.cell? ⟨w.heap.size, 1, none⟩ = some (.int .i64 ey) ∧ W.cell? ⟨w.heap.size, 2, none⟩ = some (.int .i64 eu) ∧ W.cell? ⟨w.heap.size, 3, none⟩ = some (.int .i64 ev) ∧ W.cell? ⟨w.heap.size, 4, none⟩ = some (.int .i64 ek) ∧ W.cell? ⟨w.heap.size, 5, none⟩ = some (.bool el) ∧ W.cell? ⟨w.heap.size + 1, 0, none⟩ = some (.bool pb) ∧ W.cell? ⟨w.heap.size + 1, 1, none⟩ = some (.slice pA pn pc) ∧ W.cell? ⟨w.heap.size + 1, 2, none⟩ = some (.slice pD pm pk)))
    obtain ⟨ye0, ye1, ye2, ye3, ye4, ye5⟩ := ke.cells6
    obtain ⟨yp0, yp1, yp2⟩ := kp.cells3
    go_cut [5] from 10 to 15 (fun sx wx => VarQ w1 wx sx (subQ pZ (intQ ex)) 30 3)
    case first =>
      go_region_held3 (fun w' => w'.cell? ⟨w.heap.size, 0, none⟩ = some (.int .i64 ex) ∧ w'.cell? ⟨w.heap.size, 1, none⟩ = some (.int .i64 ey) ∧ w'.cell? ⟨w.heap.size, 2, none⟩ = some (.int .i64 eu) ∧ w'.cell? ⟨w.heap.size, 3, none⟩ = some (.int .i64 ev) ∧ w'.cell? ⟨w.heap.size, 4, none⟩ = some (.int .i64 ek) ∧ w'.cell? ⟨w.heap.size, 5, none⟩ = some (.bool el) ∧ w'.cell? ⟨w.heap.size + 1, 0, none⟩ = some (.bool pb) ∧ w'.cell? ⟨w.heap.size + 1, 1, none⟩ = some (.slice pA pn pc) ∧ w'.cell? ⟨w.heap.size + 1, 2, none⟩ = some (.slice pD pm pk))
          (first | (with_reducible exact HKS.out _ (below_set3 HS2.out HS1.out.size _ _ _)) | (with_reducible exact HKS.out _ (below_set3 HS2.out (Nat.le_refl _) _ _ _)) | (with_reducible exact HKS.out _ HS2.out) | (with_reducible exact HKS.out _ (below_alloc HS2.out _)) | (with_reducible exact HKS.out _ HS1.out) | (with_reducible exact HKS.out _ (below_alloc HS1.out _)) | (with_reducible exact HKS.out _ HS0.out) | (with_reducible exact HKS.out _ HS0a.out))
          (first
            | (go_at_call 18; have HX := HS1.out; (first | (with_reducible refine Calls.mono (spec_subQ _ _ (Nat.le_refl _) (HIP.out _ HX) qj) ?_) | (with_reducible refine Calls.mono (spec_subQ _ _ (Nat.le_refl _) (HIP.out _ (below_alloc HX _)) (qj.up (below_new _ _))) ?_)); rintro e u2 ⟨z0, z1, z2, rfl, oz, hb2⟩; obtain ⟨zb, zA, zn, zc, zD, zm, zk, rfl, rfl, rfl⟩ := oz.cut; (first | (have hu2 := (show Below u1.heap.size u1 u2 from hb2)) | (have hu2 := (below_then (below_new u1 _) hb2))); have hz2 : u1.heap.size ≤ u2.heap.size := hu2.size; have qj := qj.up hu2; have HS2 := hide (below_then HX hu2); clear HX; have hy2 := hb2.size; (first | (have kz := kz_new hb2) | (have kz := kz.below hu2 kz.lt) | skip); (first | (obtain ⟨t0, t1, t2, f0, f1, f2⟩ := kz.facts3) | skip))
            | (go_at_call 16; have HX := HS0.out; (first | (with_reducible refine Calls.mono (HI1.out _) ?_) | (with_reducible refine Calls.mono (HI1.out _) ?_)); rintro e u1 ⟨j0, j1, j2, rfl, oj, hb1⟩; obtain ⟨jb, jA, jn, jc, jD, jm, jk, rfl, rfl, rfl⟩ := oj.cut; have qj := oj.in_ (intQ_fit _) (Nat.le_refl _); (first | (have HS1 := hide (below_then HS0.out hb1)) | (have HS1 := hide (below_then HS0a.out hb1))); have hz1 : w1.heap.size ≤ u1.heap.size := HS1.out.size; clear HX; have hy1 := hb1.size; (first | (have kz := kz_drew hb1) | skip)))
      all_goals
        go_wp2_with fail
        go_meet
        case rel =>
          try simp only [drew_size, alloc_size] at hy1 hy2
          have HL := HS2.out
          first
            | ((with_reducible refine varq_set kz HL oz ?_ (Nat.le_refl _) ?_ ?_) <;> ((try simp only [alloc_size]); omega))
            | ((with_reducible refine varq_last HL oz ?_ (Nat.le_refl _)) <;> ((try simp only [alloc_size]); omega))
    case rest =>
      have hs0 := Ehs0.out
      clear Ehs0
      obtain ⟨gt, t0, t1, t2, lot, hit, rfl, bn, on, hlot, hhit, hggt, hglt, hb2⟩ := hcut
      obtain ⟨tb, tA, tn, tc, tD, tm, tk, rfl, rfl, rfl⟩ := on.cut
      obtain ⟨w2, hw2⟩ : ∃ xw, xw = wc := ⟨_, rfl⟩
      subst hw2
      clear HKS HS0 HS0a HBe HBp
      clear ye0 ye1 ye2 ye3 ye4 ye5 yp0 yp1 yp2
      have hs2 := hb2.size
      have hT2 := below_then hT1 hb2
      have ke := ke.below hb2 ke.lt
      have kp := kp.below hb2 kp.lt
      have kr := kr.below hb2 kr.lt
      clear hT1
      clear hb2
      have kt := bn
      have lt := bn.lt
      have ot := on
      clear bn on
      clear HIP
      go_upto_region 4 with fail
      have HIT := hide (fun (W : World) (h : Below w2.heap.size w2 W) => (((ot.in_ (subQ_fit _ _) (by omega)).below h).wider h.size : QIn W W.heap.size (.bool tb) (.slice tA tn tc) (.slice tD tm tk) (subQ pZ (intQ ex))))
      clear ot
      have HBe := hide ke
      have HBt := hide kt
      have HBr := hide kr
      have HS0 : Hid (Below w2.heap.size w2 w2.drew) := (Below.refl _ _).drew
      have HKS := hide (fun (W : World) (hq : Below w2.heap.size w2 W) => (⟨(HBe.out.below hq HBe.out.lt).cell 0, (HBe.out.below hq HBe.out.lt).cell 1, (HBe.out.below hq HBe.out.lt).cell 2, (HBe.out.below hq HBe.out.lt).cell 3, (HBe.out.below hq HBe.out.lt).cell 4, (HBe.out.below hq HBe.out.lt).cell 5, (HBt.out.below hq HBt.out.lt).cell 0, (HBt.out.below hq HBt.out.lt).cell 1, (HBt.out.below hq HBt.out.lt).cell 2⟩ : W.cell? ⟨w.heap.size, 0, none⟩ = some (.int .i64 ex) ∧ W.cell? ⟨w.heap.size, 1, none⟩ = some (.int .i64 ey) ∧ W.cell? ⟨w.heap.size, 2, none⟩ = some (.int .i64 eu) ∧ W.cell? ⟨w.heap.size, 3, none⟩ = some (.int .i64 ev) ∧ W.cell? ⟨w.heap.size, 4, none⟩ = some (.int .i64 ek) ∧ W.cell? ⟨w.heap.size, 5, none⟩ = some (.bool el) ∧ W.cell? ⟨gt, 0, none⟩ = some (.bool tb) ∧ W.cell? ⟨gt, 1, none⟩ = some (.slice tA tn tc) ∧ W.cell? ⟨gt, 2, none⟩ = some (.slice tD tm tk)))
      have HKT := hide (fun (W : World) (hq : Below w2.heap.size w2 W) (x0 x1 x2 : Value) => (⟨((((HBe.out.below hq HBe.out.lt).setv (show w.heap.size ≠ w.heap.size + 2 by omega) 0 x0).setv (show w.heap.size ≠ w.heap.size + 2 by omega) 1 x1).setv (show w.heap.size ≠ w.heap.size + 2 by omega) 2 x2).cell 0, ((((HBe.out.below hq HBe.out.lt).setv (show w.heap.size ≠ w.heap.size + 2 by omega) 0 x0).setv (show w.heap.size ≠ w.heap.size + 2 by omega) 1 x1).setv (show w.heap.size ≠ w.heap.size + 2 by omega) 2 x2).cell 1, ((((HBe.out.below hq HBe.out.lt).setv (show w.heap.size ≠ w.heap.size + 2 by omega) 0 x0).setv (show w.heap.size ≠ w.heap.size + 2 by omega) 1 x1).setv (show w.heap.size ≠ w.heap.size + 2 by omega) 2 x2).cell 2, ((((HBe.out.below hq HBe.out.lt).setv (show w.heap.size ≠ w.heap.size + 2 by omega) 0 x0).setv (show w.heap.size ≠ w.heap.size + 2 by omega) 1 x1).setv (show w.heap.size ≠ w.heap.size + 2 by omega) 2 x2).cell 3, ((((HBe.out.below hq HBe.out.lt).setv (show w.heap.size ≠ w.heap.size + 2 by omega) 0 x0).setv (show w.heap.size ≠ w.heap.size + 2 by omega) 1 x1).setv (show w.heap.size ≠ w.heap.size + 2 by omega) 2 x2).cell 4, ((((HBe.out.below hq HBe.out.lt).setv (show w.heap.size ≠ w.heap.size + 2 by omega) 0 x0).setv (show w.heap.size ≠ w.heap.size + 2 by omega) 1 x1).setv (show w.heap.size ≠ w.heap.size + 2 by omega) 2 x2).cell 5, ((((HBt.out.below hq HBt.out.lt).setv (show gt ≠ w.heap.size + 2 by omega) 0 x0).setv (show gt ≠ w.heap.size + 2 by omega) 1 x1).setv (show gt ≠ w.heap.size + 2 by omega) 2 x2).cell 0, ((((HBt.out.below hq HBt.out.lt).setv (show gt ≠ w.heap.size + 2 by omega) 0 x0).setv (show gt ≠ w.heap.size + 2 by omega) 1 x1).setv (show gt ≠ w.heap.size + 2 by omega) 2 x2).cell 1, ((((HBt.out.below hq HBt.out.lt).setv (show gt ≠ w.heap.size + 2 by omega) 0 x0).setv (show gt ≠ w.heap.size + 2 by omega) 1 x1).setv (show gt ≠ w.heap.size + 2 by omega) 2 x2).cell 2⟩ : (((W.setCell ⟨w.heap.size + 2, 0, none⟩ x0).setCell ⟨w.heap.size + 2, 1, none⟩ x1).setCell ⟨w.heap.size + 2, 2, none⟩ x2).cell? ⟨w.heap.size, 0, none⟩ = some (.int .i64 ex) ∧ (((W.setCell ⟨w.heap.size + 2, 0, none⟩ x0).setCell ⟨w.heap.size + 2, 1, none⟩ x1).setCell ⟨w.heap.size + 2, 2, none⟩ x2).cell? ⟨w.heap.size, 1, none⟩ = some (.int .i64 ey) ∧ (((W.setCell ⟨w.heap.size + 2, 0, none⟩ x0).setCell ⟨w.heap.size + 2, 1, none⟩ x1).setCell ⟨w.heap.size + 2, 2, none⟩ x2).cell? ⟨w.heap.size, 2, none⟩ = some (.int .i64 eu) ∧ (((W.setCell ⟨w.heap.size + 2, 0, none⟩ x0).setCell ⟨w.heap.size + 2, 1, none⟩ x1).setCell ⟨w.heap.size + 2, 2, none⟩ x2).cell? ⟨w.heap.size, 3, none⟩ = some (.int .i64 ev) ∧ (((W.setCell ⟨w.heap.size + 2, 0, none⟩ x0).setCell ⟨w.heap.size + 2, 1, none⟩ x1).setCell ⟨w.heap.size + 2, 2, none⟩ x2).cell? ⟨w.heap.size, 4, none⟩ = some (.int .i64 ek) ∧ (((W.setCell ⟨w.heap.size + 2, 0, none⟩ x0).setCell ⟨w.heap.size + 2, 1, none⟩ x1).setCell ⟨w.heap.size + 2, 2, none⟩ x2).cell? ⟨w.heap.size, 5, none⟩ = some (.bool el) ∧ (((W.setCell ⟨w.heap.size + 2, 0, none⟩ x0).setCell ⟨w.heap.size + 2, 1, none⟩ x1).setCell ⟨w.heap.size + 2, 2, none⟩ x2).cell? ⟨gt, 0, none⟩ = some (.bool tb) ∧ (((W.setCell ⟨w.heap.size + 2, 0, none⟩ x0).setCell ⟨w.heap.size + 2, 1, none⟩ x1).setCell ⟨w.heap.size + 2, 2, none⟩ x2).cell? ⟨gt, 1, none⟩ = some (.slice tA tn tc) ∧ (((W.setCell ⟨w.heap.size + 2, 0, none⟩ x0).setCell ⟨w.heap.size + 2, 1, none⟩ x1).setCell ⟨w.heap.size + 2, 2, none⟩ x2).cell? ⟨gt, 2, none⟩ = some (.slice tD tm tk)))
      obtain ⟨ye0, ye1, ye2, ye3, ye4, ye5⟩ := ke.cells6
      obtain ⟨yt0, yt1, yt2⟩ := kt.cells3
      refine wp_region_held_drew (S := (fun w' => w'.cell? ⟨w.heap.size, 0, none⟩ = some (.int .i64 ex) ∧ w'.cell? ⟨w.heap.size, 1, none⟩ = some (.int .i64 ey) ∧ w'.cell? ⟨w.heap.size, 2, none⟩ = some (.int .i64 eu) ∧ w'.cell? ⟨w.heap.size, 3, none⟩ = some (.int .i64 ev) ∧ w'.cell? ⟨w.heap.size, 4, none⟩ = some (.int .i64 ek) ∧ w'.cell? ⟨w.heap.size, 5, none⟩ = some (.bool el) ∧ w'.cell? ⟨gt, 0, none⟩ = some (.bool tb) ∧ w'.cell? ⟨gt, 1, none⟩ = some (.slice tA tn tc) ∧ w'.cell? ⟨gt, 2, none⟩ = some (.slice tD tm tk))) (by kernel_rfl) (HKS.out _ HS0.out) (fun hHeld => ?_)
      show wpAnyH _ _ _ _ _ 23 _ _ _
      refine takeTF (i := 0) (t := 16) (v := ?_) rfl (by kernel_rfl) (by kernel_rfl) (by kernel_rfl) (fun _ _ _ h => h) rfl (by rfl) ?_ hHeld ?_
      rotate_left 1
      · intro w hSw; (try dsimp only at hSw); go_simp; with_reducible rfl
      simp only [List.setIfInBounds_toArray, List.set_cons_zero, List.set_cons_succ]
      refine takeTF (i := 1) (t := 17) (v := ?_) rfl (by kernel_rfl) (by kernel_rfl) (by kernel_rfl) (fun _ _ _ h => h) rfl (by rfl) ?_ hHeld ?_
      rotate_left 1
      · intro w hSw; (try dsimp only at hSw); go_simp; with_reducible rfl
      simp only [List.setIfInBounds_toArray, List.set_cons_zero, List.set_cons_succ]
      refine takeTF (i := 2) (t := 18) (v := ?_) rfl (by kernel_rfl) (by kernel_rfl) (by kernel_rfl) (fun _ _ _ h => h) rfl (by rfl) ?_ hHeld ?_
      rotate_left 1
      · intro w hSw; (try dsimp only at hSw); go_simp; with_reducible rfl
      simp only [List.setIfInBounds_toArray, List.set_cons_zero, List.set_cons_succ]
      refine takeTF (i := 4) (t := 20) (v := ?_) rfl (by kernel_rfl) (by kernel_rfl) (by kernel_rfl) (fun _ _ _ h => h) rfl (by rfl) ?_ hHeld ?_
      rotate_left 1
      · intro w hSw; (try dsimp only at hSw); go_simp; with_reducible rfl
      simp only [List.setIfInBounds_toArray, List.set_cons_zero, List.set_cons_succ]
      refine takeTF (i := 5) (t := 21) (v := ?_) rfl (by kernel_rfl) (by kernel_rfl) (by kernel_rfl) (fun _ _ _ h => h) rfl (by rfl) ?_ hHeld ?_
      rotate_left 1
      · intro w hSw; (try dsimp only at hSw); go_simp; with_reducible rfl
      simp only [List.setIfInBounds_toArray, List.set_cons_zero, List.set_cons_succ]
      refine takeTF (i := 6) (t := 22) (v := ?_) rfl (by kernel_rfl) (by kernel_rfl) (by kernel_rfl) (fun _ _ _ h => h) rfl (by rfl) ?_ hHeld ?_
      rotate_left 1
      · intro w hSw; (try dsimp only at hSw); go_simp; with_reducible rfl
      simp only [List.setIfInBounds_toArray, List.set_cons_zero, List.set_cons_succ]
      refine takeTF (i := 7) (t := 23) (v := ?_) rfl (by kernel_rfl) (by kernel_rfl) (by kernel_rfl) (fun _ _ _ h => h) rfl (by rfl) ?_ hHeld ?_
      rotate_left 1
      · intro w hSw; (try dsimp only at hSw); go_simp; with_reducible rfl
      simp only [List.setIfInBounds_toArray, List.set_cons_zero, List.set_cons_succ]
      refine takeTF (i := 8) (t := 24) (v := ?_) rfl (by kernel_rfl) (by kernel_rfl) (by kernel_rfl) (fun _ _ _ h => h) rfl (by rfl) ?_ hHeld ?_
      rotate_left 1
      · intro w hSw; (try dsimp only at hSw); go_simp; with_reducible rfl
      simp only [List.setIfInBounds_toArray, List.set_cons_zero, List.set_cons_succ]
      refine takeTF (i := 9) (t := 25) (v := ?_) rfl (by kernel_rfl) (by kernel_rfl) (by kernel_rfl) (fun _ _ _ h => h) rfl (by rfl) ?_ hHeld ?_
      rotate_left 1
      · intro w hSw; (try dsimp only at hSw); go_simp; with_reducible rfl
      simp only [List.setIfInBounds_toArray, List.set_cons_zero, List.set_cons_succ]
      refine takeTF (i := 10) (t := 26) (v := ?_) rfl (by kernel_rfl) (by kernel_rfl) (by kernel_rfl) (fun _ _ _ h => h) rfl (by rfl) ?_ hHeld ?_
      rotate_left 1
      · intro w hSw; (try dsimp only at hSw); go_simp; with_reducible rfl
      simp only [List.setIfInBounds_toArray, List.set_cons_zero, List.set_cons_succ]
      refine takeTF (i := 11) (t := 27) (v := ?_) rfl (by kernel_rfl) (by kernel_rfl) (by kernel_rfl) (fun _ _ _ h => h) rfl (by rfl) ?_ hHeld ?_
      rotate_left 1
      · intro w hSw; (try dsimp only at hSw); go_simp; with_reducible rfl
      simp only [List.setIfInBounds_toArray, List.set_cons_zero, List.set_cons_succ]
      refine takeTF (i := 12) (t := 28) (v := ?_) rfl (by kernel_rfl) (by kernel_rfl) (by kernel_rfl) (fun _ _ _ h => h) rfl (by rfl) ?_ hHeld ?_
      rotate_left 1
      · intro w hSw; (try dsimp only at hSw); go_simp; with_reducible rfl
      simp only [List.setIfInBounds_toArray, List.set_cons_zero, List.set_cons_succ]
      refine takeTF (i := 13) (t := 29) (v := ?_) rfl (by kernel_rfl) (by kernel_rfl) (by kernel_rfl) (fun _ _ _ h => h) rfl (by rfl) ?_ hHeld ?_
      rotate_left 1
      · intro w hSw; (try dsimp only at hSw); go_simp; with_reducible rfl
      simp only [List.setIfInBounds_toArray, List.set_cons_zero, List.set_cons_succ]
      refine takeTF (i := 14) (t := 30) (v := ?_) rfl (by kernel_rfl) (by kernel_rfl) (by kernel_rfl) (fun _ _ _ h => h) rfl (by rfl) ?_ hHeld ?_
      rotate_left 1
      · intro w hSw; (try dsimp only at hSw); go_simp; with_reducible rfl
      simp only [List.setIfInBounds_toArray, List.set_cons_zero, List.set_cons_succ]
      refine takeTF (i := 15) (t := 31) (v := ?_) rfl (by kernel_rfl) (by kernel_rfl) (by kernel_rfl) (fun _ _ _ h => h) rfl (by rfl) ?_ hHeld ?_
      rotate_left 1
      · intro w hSw; (try dsimp only at hSw); go_simp; with_reducible rfl
      simp only [List.setIfInBounds_toArray, List.set_cons_zero, List.set_cons_succ]
      refine takeTF (i := 16) (t := 32) (v := ?_) rfl (by kernel_rfl) (by kernel_rfl) (by kernel_rfl) (fun _ _ _ h => h) rfl (by rfl) ?_ hHeld ?_
      rotate_left 1
      · intro w hSw; (try dsimp only at hSw); go_simp; with_reducible rfl
      simp only [List.setIfInBounds_toArray, List.set_cons_zero, List.set_cons_succ]
      refine takeTF (i := 17) (t := 33) (v := ?_) rfl (by kernel_rfl) (by kernel_rfl) (by kernel_rfl) (fun _ _ _ h => h) rfl (by rfl) ?_ hHeld ?_
      rotate_left 1
      · intro w hSw; (try dsimp only at hSw); go_simp; with_reducible rfl
      simp only [List.setIfInBounds_toArray, List.set_cons_zero, List.set_cons_succ]
      refine takeTF (i := 18) (t := 34) (v := ?_) rfl (by kernel_rfl) (by kernel_rfl) (by kernel_rfl) (fun _ _ _ h => h) rfl (by rfl) ?_ hHeld ?_
      rotate_left 1
      · intro w hSw; (try dsimp only at hSw); go_simp; with_reducible rfl
      simp only [List.setIfInBounds_toArray, List.set_cons_zero, List.set_cons_succ]
      clear ye0 ye1 ye2 ye3 ye4 ye5 yt0 yt1 yt2
      refine wpAnyH_ready (rs := [3]) (by kernel_rfl) (by simp) ?_
      refine (AllReadyH.cons rfl (fun K hK => ?_) AllReadyH.nil)
      simp only [List.getElem_toArray, List.getElem_cons_succ, List.getElem_cons_zero]
      go_simp
      (with_reducible refine Calls.mono (HI2.out _) ?_)
      rintro e V1 ⟨g0, g1, g2, rfl, og, bV1⟩
      obtain ⟨gb, gA, gn, gc, gD, gm, gk, rfl, rfl, rfl⟩ := og.cut
      have og : QOwn V1 w2.heap.size V1.heap.size 3 (.bool gb) (.slice gA gn gc) (.slice gD gm gk) (intQ ey) := og
      have qg := og.in_ (intQ_fit _) (Nat.le_refl _)
      have zV1 : w2.heap.size ≤ V1.heap.size := bV1.size
      have HV1x := hide (below_then HS0.out bV1)
      go_wp2_with fail
      refine hK.out _ _ (HKS.out _ HV1x.out) (fun hHeld => ?_)
      clear hK K bV1
      refine wpAnyH_ready (rs := [19]) (by kernel_rfl) (by simp) ?_
      refine (AllReadyH.cons rfl (fun K hK => ?_) AllReadyH.nil)
      simp only [List.getElem_toArray, List.getElem_cons_succ, List.getElem_cons_zero]
      go_simp
      (with_reducible refine Calls.mono (HOF.out V1) ?_)
      rintro e V2 ⟨d0, d1, d2, rfl, od, bV2⟩
      obtain ⟨db, dA, dn, dc, dD, dm, dk, rfl, rfl, rfl⟩ := od.cut
      have od : QOwn V2 V1.heap.size V2.heap.size 3 (.bool db) (.slice dA dn dc) (.slice dD dm dk) (O) := od
      have qd := od.in_ (HFO.out) (Nat.le_refl _)
      have zV2 : V1.heap.size ≤ V2.heap.size := bV2.size
      have HV2x := hide (below_then HV1x.out bV2)
      have qg := qg.up bV2
      have og := og.below bV2 (by omega)
      go_wp2_with fail
      refine hK.out _ _ (HKS.out _ HV2x.out) (fun hHeld => ?_)
      clear hK K bV2
      refine wpAnyH_ready (rs := [20]) (by kernel_rfl) (by simp) ?_
      refine (AllReadyH.cons rfl (fun K hK => ?_) AllReadyH.nil)
      simp only [List.getElem_toArray, List.getElem_cons_succ, List.getElem_cons_zero]
      go_simp
      (with_reducible refine Calls.mono (spec_mulQ V2 V2.heap.size (Nat.le_refl _) (HIT.out _ HV2x.out) qd) ?_)
      rintro e V3 ⟨m0, m1, m2, rfl, om, bV3⟩
      obtain ⟨mb, mA, mn, mc, mD, mm, mk, rfl, rfl, rfl⟩ := om.cut
      have om : QOwn V3 V2.heap.size V3.heap.size 3 (.bool mb) (.slice mA mn mc) (.slice mD mm mk) (mulQ (subQ pZ (intQ ex)) O) := om
      have qm := om.in_ (mulQ_fit _ _) (Nat.le_refl _)
      have zV3 : V2.heap.size ≤ V3.heap.size := bV3.size
      have HV3x := hide (below_then HV2x.out bV3)
      have qg := qg.up bV3
      have og := og.below bV3 (by omega)
      have qd := qd.up bV3
      have od := od.below bV3 (by omega)
      go_wp2_with fail
      refine hK.out _ _ (HKS.out _ HV3x.out) (fun hHeld => ?_)
      clear hK K bV3
      refine wpAnyH_ready (rs := [21]) (by kernel_rfl) (by simp) ?_
      refine (AllReadyH.cons rfl (fun K hK => ?_) AllReadyH.nil)
      simp only [List.getElem_toArray, List.getElem_cons_succ, List.getElem_cons_zero]
      go_simp
      (with_reducible refine Calls.mono (spec_addQ V3 V3.heap.size (Nat.le_refl _) qg qm) ?_)
      rintro e V4 ⟨z0, z1, z2, rfl, oz, bV4⟩
      obtain ⟨zb, zA, zn, zc, zD, zm, zk, rfl, rfl, rfl⟩ := oz.cut
      have oz : QOwn V4 V3.heap.size V4.heap.size 3 (.bool zb) (.slice zA zn zc) (.slice zD zm zk) (addQ (intQ ey) (mulQ (subQ pZ (intQ ex)) O)) := oz
      have qz := oz.in_ (addQ_fit _ _) (Nat.le_refl _)
      have zV4 : V3.heap.size ≤ V4.heap.size := bV4.size
      have HV4x := hide (below_then HV3x.out bV4)
      have qg := qg.up bV4
      have og := og.below bV4 (by omega)
      have qd := qd.up bV4
      have od := od.below bV4 (by omega)
      have qm := qm.up bV4
      have om := om.below bV4 (by omega)
      go_wp2_with fail
      refine hK.out _ _ (HKS.out _ HV4x.out) (fun hHeld => ?_)
      clear hK K bV4
      have krv := HBr.out.below HV4x.out HBr.out.lt
      have lrv := krv.lt
      obtain ⟨t0, t1, t2, f0, f1, f2⟩ := krv.facts3
      refine wpAnyH_ready (rs := [22]) (by kernel_rfl) (by simp) ?_
      refine AllReadyH.cons rfl (fun K hK => ?_) AllReadyH.nil
      simp only [List.getElem_toArray, List.getElem_cons_succ, List.getElem_cons_zero]
      go_wp2_with fail
      clear t0 t1 t2 f0 f1 f2
      refine hK.out _ _ (HKT.out _ HV4x.out _ _ _) (fun hHeld => ?_)
      clear hK K
      refine wpAnyH_done (by kernel_rfl) ?_ _
      have hTT := below_then hT2 HV4x.out
      rw [HPZ.out] at oz
      have HO := hide (ret_q (HBr.out.below HV4x.out HBr.out.lt) oz hTT (by omega) (by omega) (Nat.le_refl _) (.inl (by omega)))
      go_wp2_with fail
      refine bodyPost_ret (results_cell_row rfl _ _ (w.heap.size + 2) _ #[.bool zb, .slice zA zn zc, .slice zD zm zk] (0, 0) _ rfl HO.out.1 Tryz.underlying30 rfl Tryz.sizeRat) rfl ?_
      exact ⟨_, _, _, rfl, HO.out.2.1, HO.out.2.2⟩
set_option maxRecDepth 100000 in
set_option maxHeartbeats 6400000 in
theorem spec_CrossingX_out (w : World) (ex ey eu ev ek : Int) (el : Bool) (hex : (Lit.int .i64 ex).wf = true) (hey : (Lit.int .i64 ey).wf = true) (heu : (Lit.int .i64 eu).wf = true) (hev : (Lit.int .i64 ev).wf = true) (fx fy fu fv fk : Int) (fl : Bool) (hfx : (Lit.int .i64 fx).wf = true) (hfy : (Lit.int .i64 fy).wf = true) (hfu : (Lit.int .i64 fu).wf = true) (hfv : (Lit.int .i64 fv).wf = true) (hE : edgeB ex ey eu ev = true → edgeB fx fy fu fv = false) :
    Calls Tryz.prog 5 #[.agg #[.int .i64 ex, .int .i64 ey, .int .i64 eu, .int .i64 ev, .int .i64 ek, .bool el], .agg #[.int .i64 fx, .int .i64 fy, .int .i64 fu, .int .i64 fv, .int .i64 fk, .bool fl]] w fun e w' => XRes 3 w w' e (crossQ ex ey eu ev fx fy fu fv) (crsB ex ey eu ev fx fy fu fv) := by
  have HV1 := hide (fun (W : World) => spec_IsValidEdge W ex ey eu ev ek el hex hey heu hev)
  have HV2 := hide (fun (W : World) => spec_IsValidEdge W fx fy fu fv fk fl hfx hfy hfu hfv)
  have hB : crsB ex ey eu ev fx fy fu fv = false := by
    cases h : edgeB ex ey eu ev with
    | false => exact crs_bad (.inl h)
    | true => exact crs_bad (.inr (hE h))
  have hQ : crossQ ex ey eu ev fx fy fu fv = noR := by unfold crossQ; rw [hB]; rfl
  rw [hB, hQ]
  generalize edgeB ex ey eu ev = b1 at *
  generalize edgeB fx fy fu fv = b2 at *
  clear hB hQ hex hey heu hev hfx hfy hfu hfv
  obtain ⟨W0, hW0⟩ : ∃ W0, W0 = (((w.alloc (.cells #[.int .i64 ex, .int .i64 ey, .int .i64 eu, .int .i64 ev, .int .i64 ek, .bool el] 35)).alloc (.cells #[.int .i64 fx, .int .i64 fy, .int .i64 fu, .int .i64 fv, .int .i64 fk, .bool fl] 35)).alloc (.cells #[.bool false, .slice none 0 0, .slice none 0 0] 30)) := ⟨_, rfl⟩
  have hT0 : Below w.heap.size w W0 := by rw [hW0]; exact below_alloc (below_alloc (below_new _ _) _) _
  have ke : Box W0 (w.heap.size) 35 #[.int .i64 ex, .int .i64 ey, .int .i64 eu, .int .i64 ev, .int .i64 ek, .bool el] := by rw [hW0]; exact ((Box.last _ _ _ rfl).alloc _).alloc _
  have kf : Box W0 (w.heap.size + 1) 35 #[.int .i64 fx, .int .i64 fy, .int .i64 fu, .int .i64 fv, .int .i64 fk, .bool fl] := by rw [hW0]; exact (Box.last _ _ _ (alloc_size _ _).symm).alloc _
  have kr : Box W0 (w.heap.size + 2) 30 #[.bool false, .slice none 0 0, .slice none 0 0] := by rw [hW0]; exact Box.last _ _ _ (by rw [alloc_size, alloc_size])
  have hs0 : W0.heap.size = w.heap.size + 3 := by rw [hW0, alloc_size, alloc_size, alloc_size]
  go_enter Tryz.func5, Tryz.ntmps5
  go_upto_region 1 with fail
  rw [← hW0]
  clear hW0
  obtain ⟨ye0, ye1, ye2, ye3, ye4, ye5⟩ := ke.cells6
  go_wp2_with fail
  refine (HV1.out W0).mono ?_
  rintro e w1 ⟨rfl, hb1⟩
  clear ye0 ye1 ye2 ye3 ye4 ye5
  have hs1 := hb1.size
  have hT1 := below_then hT0 hb1
  have ke := ke.below hb1 ke.lt
  have kf := kf.below hb1 kf.lt
  have kr := kr.below hb1 kr.lt
  clear hT0
  clear hb1
  cases b1 with
  | false =>
    have HO := hide (ret_q kr (QOwn.zero w1 w1.heap.size w1.heap.size 3 (Nat.le_refl _)) hT1 (by omega) (by omega) (by omega) (.inl (by omega)))
    obtain ⟨yr0, yr1, yr2, zr0, zr1, zr2⟩ := kr.facts3
    clear kr
    go_wp2_with fail
    refine bodyPost_ret (results_cell_tmp rfl _ _ (w.heap.size + 2) _ #[.bool false, .slice none 0 0, .slice none 0 0] (0, 0) _ rfl HO.out.1 Tryz.underlying30 rfl Tryz.sizeRat) rfl ?_
    exact ⟨_, _, _, by rfl, by exact HO.out.2.1, HO.out.2.2⟩
  | true =>
    have hb2 := hE (by trivial)
    subst hb2
    obtain ⟨yf0, yf1, yf2, yf3, yf4, yf5⟩ := kf.cells6
    go_wp2_with fail
    refine (HV2.out w1).mono ?_
    rintro e w2 ⟨rfl, hb2⟩
    clear yf0 yf1 yf2 yf3 yf4 yf5
    have hs2 := hb2.size
    have hT2 := below_then hT1 hb2
    have ke := ke.below hb2 ke.lt
    have kf := kf.below hb2 kf.lt
    have kr := kr.below hb2 kr.lt
    clear hT1
    clear hb2
    have HO := hide (ret_q kr (QOwn.zero w2 w2.heap.size w2.heap.size 3 (Nat.le_refl _)) hT2 (by omega) (by omega) (by omega) (.inl (by omega)))
    obtain ⟨yr0, yr1, yr2, zr0, zr1, zr2⟩ := kr.facts3
    clear kr
    go_wp2_with fail
    refine bodyPost_ret (results_cell_tmp rfl _ _ (w.heap.size + 2) _ #[.bool false, .slice none 0 0, .slice none 0 0] (0, 0) _ rfl HO.out.1 Tryz.underlying30 rfl Tryz.sizeRat) rfl ?_
    exact ⟨_, _, _, by rfl, by exact HO.out.2.1, HO.out.2.2⟩
set_option maxRecDepth 100000 in
set_option maxHeartbeats 12800000 in
theorem spec_CrossingX_in (w : World) (ex ey eu ev ek : Int) (el : Bool) (hex : (Lit.int .i64 ex).wf = true) (hey : (Lit.int .i64 ey).wf = true) (heu : (Lit.int .i64 eu).wf = true) (hev : (Lit.int .i64 ev).wf = true) (fx fy fu fv fk : Int) (fl : Bool) (hfx : (Lit.int .i64 fx).wf = true) (hfy : (Lit.int .i64 fy).wf = true) (hfu : (Lit.int .i64 fu).wf = true) (hfv : (Lit.int .i64 fv).wf = true) (hE : edgeB ex ey eu ev = true) (hF : edgeB fx fy fu fv = true) :
    Calls Tryz.prog 5 #[.agg #[.int .i64 ex, .int .i64 ey, .int .i64 eu, .int .i64 ev, .int .i64 ek, .bool el], .agg #[.int .i64 fx, .int .i64 fy, .int .i64 fu, .int .i64 fv, .int .i64 fk, .bool fl]] w fun e w' => XRes 3 w w' e (crossQ ex ey eu ev fx fy fu fv) (crsB ex ey eu ev fx fy fu fv) := by
  have he' := edge_iff.1 hE
  obtain ⟨M1, hM1⟩ : ∃ O, O = ofQ (wrap64 (ev - ey)) (wrap64 (eu - ex)) := ⟨_, rfl⟩
  have HOF1 := hide (fun (W : World) => spec_ofQ W (wrap64 (ev - ey)) (wrap64 (eu - ex)) (wrap64_wf _) (wrap64_wf _))
  rw [← hM1] at HOF1
  have HF1 : Hid (QFit M1) := by show _; rw [hM1]; exact ofQ_fit _ _
  have hN1 : M1 = ofQ (ev - ey) (eu - ex) := by rw [hM1, w64_inD (z := ev - ey) (by omega), w64_inD (z := eu - ex) (by omega)]
  have HV1 := hide (fun (W : World) => spec_IsValidEdge W ex ey eu ev ek el hex hey heu hev)
  rw [hE] at HV1
  obtain ⟨G1, hG1⟩ : ∃ O, O = hgtQ ex ey eu ev (intQ 0) := ⟨_, rfl⟩
  have HH1 := hide (fun (W : World) (v0 v1 v2 : Value) (r : QIn W W.heap.size v0 v1 v2 (intQ 0)) => spec_HeightAt W W.heap.size (Nat.le_refl _) ex ey eu ev ek el hex hey heu hev r)
  rw [hE] at HH1
  simp only [if_true] at HH1
  rw [← hG1] at HH1
  have HGF1 : Hid (QFit G1) := by show _; rw [hG1]; exact addQ_fit _ _
  have hf' := edge_iff.1 hF
  obtain ⟨M2, hM2⟩ : ∃ O, O = ofQ (wrap64 (fv - fy)) (wrap64 (fu - fx)) := ⟨_, rfl⟩
  have HOF2 := hide (fun (W : World) => spec_ofQ W (wrap64 (fv - fy)) (wrap64 (fu - fx)) (wrap64_wf _) (wrap64_wf _))
  rw [← hM2] at HOF2
  have HF2 : Hid (QFit M2) := by show _; rw [hM2]; exact ofQ_fit _ _
  have hN2 : M2 = ofQ (fv - fy) (fu - fx) := by rw [hM2, w64_inD (z := fv - fy) (by omega), w64_inD (z := fu - fx) (by omega)]
  have HV2 := hide (fun (W : World) => spec_IsValidEdge W fx fy fu fv fk fl hfx hfy hfu hfv)
  rw [hF] at HV2
  obtain ⟨G2, hG2⟩ : ∃ O, O = hgtQ fx fy fu fv (intQ 0) := ⟨_, rfl⟩
  have HH2 := hide (fun (W : World) (v0 v1 v2 : Value) (r : QIn W W.heap.size v0 v1 v2 (intQ 0)) => spec_HeightAt W W.heap.size (Nat.le_refl _) fx fy fu fv fk fl hfx hfy hfu hfv r)
  rw [hF] at HH2
  simp only [if_true] at HH2
  rw [← hG2] at HH2
  have HGF2 : Hid (QFit G2) := by show _; rw [hG2]; exact addQ_fit _ _
  obtain ⟨X, hX⟩ : ∃ X, X = divQ (subQ G2 G1) (subQ M1 M2) := ⟨_, rfl⟩
  have hR : X = refX ex ey eu ev fx fy fu fv := by rw [hX, hG1, hG2, hN1, hN2]; rfl
  have HXF : Hid (QFit X) := by show _; rw [hX]; exact divQ_fit _ _
  have HV3 := hide (fun (W : World) (v0 v1 v2 : Value) (r : QIn W W.heap.size v0 v1 v2 X) => spec_SpansX W W.heap.size (Nat.le_refl _) ex ey eu ev ek el hex hey heu hev r r)
  have HV4 := hide (fun (W : World) (v0 v1 v2 : Value) (r : QIn W W.heap.size v0 v1 v2 X) => spec_SpansX W W.heap.size (Nat.le_refl _) fx fy fu fv fk fl hfx hfy hfu hfv r r)
  have HPar : Hid (cqR M1 M2 = 0 → crsB ex ey eu ev fx fy fu fv = false) := fun h => crs_par hE hF ((slopes_eq hE hF).1 (by rw [← hN1, ← hN2]; exact h))
  have HCr : Hid (cqR M1 M2 ≠ 0 → crsB ex ey eu ev fx fy fu fv = (spanB ex ey eu ev X X && spanB fx fy fu fv X X) ∧ crossQ ex ey eu ev fx fy fu fv = (if (spanB ex ey eu ev X X && spanB fx fy fu fv X X) = true then X else noR)) := fun h => by
    have e : X = crsX ex ey eu ev fx fy fu fv := by
      rw [hR]
      exact refX_eq hE hF (fun z => h (by rw [hN1, hN2]; exact (slopes_eq hE hF).2 z))
    rw [e]
    exact ⟨rfl, rfl⟩
  have HNo : Hid (crsB ex ey eu ev fx fy fu fv = false → crossQ ex ey eu ev fx fy fu fv = noR) := fun h => by unfold crossQ; rw [h]; rfl
  generalize spanB ex ey eu ev X X = b1 at *
  generalize spanB fx fy fu fv X X = b2 at *
  generalize crsB ex ey eu ev fx fy fu fv = RB at *
  generalize crossQ ex ey eu ev fx fy fu fv = RZ at *
  have HXE := hide hX
  clear hR hX hG1 hG2 hN1 hN2 hM1 hM2 he' hf' hE hF hex hey heu hev hfx hfy hfu hfv
  have HI0 := hide (fun (W : World) => spec_intQ W 0 rfl)
  obtain ⟨W0, hW0⟩ : ∃ W0, W0 = (((w.alloc (.cells #[.int .i64 ex, .int .i64 ey, .int .i64 eu, .int .i64 ev, .int .i64 ek, .bool el] 35)).alloc (.cells #[.int .i64 fx, .int .i64 fy, .int .i64 fu, .int .i64 fv, .int .i64 fk, .bool fl] 35)).alloc (.cells #[.bool false, .slice none 0 0, .slice none 0 0] 30)) := ⟨_, rfl⟩
  have hT0 : Below w.heap.size w W0 := by rw [hW0]; exact below_alloc (below_alloc (below_new _ _) _) _
  have ke : Box W0 (w.heap.size) 35 #[.int .i64 ex, .int .i64 ey, .int .i64 eu, .int .i64 ev, .int .i64 ek, .bool el] := by rw [hW0]; exact ((Box.last _ _ _ rfl).alloc _).alloc _
  have kf : Box W0 (w.heap.size + 1) 35 #[.int .i64 fx, .int .i64 fy, .int .i64 fu, .int .i64 fv, .int .i64 fk, .bool fl] := by rw [hW0]; exact (Box.last _ _ _ (alloc_size _ _).symm).alloc _
  have kr : Box W0 (w.heap.size + 2) 30 #[.bool false, .slice none 0 0, .slice none 0 0] := by rw [hW0]; exact Box.last _ _ _ (by rw [alloc_size, alloc_size])
  have hs0 : W0.heap.size = w.heap.size + 3 := by rw [hW0, alloc_size, alloc_size, alloc_size]
  go_enter Tryz.func5, Tryz.ntmps5
  go_upto_region 1 with fail
  rw [← hW0]
  clear hW0
  obtain ⟨ye0, ye1, ye2, ye3, ye4, ye5⟩ := ke.cells6
  go_wp2_with fail
  refine (HV1.out W0).mono ?_
  rintro e w1 ⟨rfl, hb1⟩
  clear ye0 ye1 ye2 ye3 ye4 ye5
  have hs1 := hb1.size
  have hT1 := below_then hT0 hb1
  have ke := ke.below hb1 ke.lt
  have kf := kf.below hb1 kf.lt
  have kr := kr.below hb1 kr.lt
  clear hT0
  clear hb1
  obtain ⟨yf0, yf1, yf2, yf3, yf4, yf5⟩ := kf.cells6
  go_wp2_with fail
  refine (HV2.out w1).mono ?_
  rintro e w2 ⟨rfl, hb2⟩
  clear yf0 yf1 yf2 yf3 yf4 yf5
  have hs2 := hb2.size
  have hT2 := below_then hT1 hb2
  have ke := ke.below hb2 ke.lt
  have kf := kf.below hb2 kf.lt
  have kr := kr.below hb2 kr.lt
  clear hT1
  clear hb2
  obtain ⟨ye0, ye1, ye2, ye3, ye4, ye5⟩ := ke.cells6
  go_wp2_with fail
  refine (HOF1.out w2).mono ?_
  rintro e w3 ⟨m0, m1, m2, rfl, om, hb3⟩
  clear ye0 ye1 ye2 ye3 ye4 ye5
  obtain ⟨mb, mA, mn, mc, mD, mm, mk, rfl, rfl, rfl⟩ := om.cut
  have hs3 := hb3.size
  have hT3 := below_then hT2 hb3
  have ke := ke.below hb3 ke.lt
  have kf := kf.below hb3 kf.lt
  have kr := kr.below hb3 kr.lt
  clear hT2
  clear hb3
  obtain ⟨w4, hw4⟩ : ∃ xw, xw = (w3.alloc (.cells #[.bool mb, .slice mA mn mc, .slice mD mm mk] 30)) := ⟨_, rfl⟩
  have hb4 : Below w3.heap.size w3 w4 := by rw [hw4]; exact below_new _ _
  have hq4 : w4.heap.size = w3.heap.size + 1 := by rw [hw4, alloc_size]
  have km : Box w4 (w3.heap.size) 30 #[.bool mb, .slice mA mn mc, .slice mD mm mk] := by rw [hw4]; exact Box.last _ _ _ (by omega)
  have hs4 := hb4.size
  have hT4 := below_then hT3 hb4
  have ke := ke.below hb4 ke.lt
  have kf := kf.below hb4 kf.lt
  have kr := kr.below hb4 kr.lt
  have om := om.below hb4 (by omega)
  clear hT3
  go_upto_region 4 with fail
  rw [← hw4]
  clear hw4 hb4
  obtain ⟨yf0, yf1, yf2, yf3, yf4, yf5⟩ := kf.cells6
  go_wp2_with fail
  refine (HOF2.out w4).mono ?_
  rintro e w5 ⟨n0, n1, n2, rfl, on, hb5⟩
  clear yf0 yf1 yf2 yf3 yf4 yf5
  obtain ⟨nb, nA, nn, nc, nD, nm, nk, rfl, rfl, rfl⟩ := on.cut
  have hs5 := hb5.size
  have hT5 := below_then hT4 hb5
  have ke := ke.below hb5 ke.lt
  have kf := kf.below hb5 kf.lt
  have kr := kr.below hb5 kr.lt
  have km := km.below hb5 km.lt
  have om := om.below hb5 (by omega)
  clear hT4
  clear hb5
  obtain ⟨w6, hw6⟩ : ∃ xw, xw = (w5.alloc (.cells #[.bool nb, .slice nA nn nc, .slice nD nm nk] 30)) := ⟨_, rfl⟩
  have hb6 : Below w5.heap.size w5 w6 := by rw [hw6]; exact below_new _ _
  have hq6 : w6.heap.size = w5.heap.size + 1 := by rw [hw6, alloc_size]
  have kn : Box w6 (w5.heap.size) 30 #[.bool nb, .slice nA nn nc, .slice nD nm nk] := by rw [hw6]; exact Box.last _ _ _ (by omega)
  have hs6 := hb6.size
  have hT6 := below_then hT5 hb6
  have ke := ke.below hb6 ke.lt
  have kf := kf.below hb6 kf.lt
  have kr := kr.below hb6 kr.lt
  have km := km.below hb6 km.lt
  have om := om.below hb6 (by omega)
  have on := on.below hb6 (by omega)
  clear hT5
  go_upto_region 5 with fail
  rw [← hw6]
  clear hw6 hb6
  obtain ⟨c, hc⟩ : ∃ c, c = cqR M1 M2 := ⟨_, rfl⟩
  obtain ⟨ym0, ym1, ym2⟩ := km.cells3
  obtain ⟨yn0, yn1, yn2⟩ := kn.cells3
  go_wp2_with fail
  refine (spec_cqR w6 w6.heap.size (Nat.le_refl _) (om.in_ HF1.out (by omega)) (on.in_ HF2.out (by omega))).mono ?_
  rintro e w7 ⟨rfl, hb7⟩
  clear ym0 ym1 ym2 yn0 yn1 yn2
  have hs7 := hb7.size
  have hT7 := below_then hT6 hb7
  have ke := ke.below hb7 ke.lt
  have kf := kf.below hb7 kf.lt
  have kr := kr.below hb7 kr.lt
  have km := km.below hb7 km.lt
  have kn := kn.below hb7 kn.lt
  have om := om.below hb7 (by omega)
  have on := on.below hb7 (by omega)
  clear hT6
  clear hb7
  rw [← hc]
  by_cases c0 : c = 0
  · subst c0
    have hB := HPar.out hc.symm
    have hQ := HNo.out hB
    have HO := hide (ret_q kr (QOwn.zero w7 w7.heap.size w7.heap.size 3 (Nat.le_refl _)) hT7 (by omega) (by omega) (by omega) (.inl (by omega)))
    obtain ⟨yr0, yr1, yr2, zr0, zr1, zr2⟩ := kr.facts3
    clear kr
    go_wp2_with fail
    refine bodyPost_ret (results_cell_tmp rfl _ _ (w.heap.size + 2) _ #[.bool false, .slice none 0 0, .slice none 0 0] (0, 0) _ rfl HO.out.1 Tryz.underlying30 rfl Tryz.sizeRat) rfl ?_
    exact ⟨_, _, _, by rw [hB]; rfl, by rw [hQ]; exact HO.out.2.1, HO.out.2.2⟩
  · have hCr := HCr.out (fun h => c0 (by rw [hc, h]))
    have HRB := hide hCr.1
    have HRZ := hide hCr.2
    clear hCr HCr HPar HNo
    go_upto_region 7 with fail
    go_wp2_with fail
    refine (HI0.out w7).mono ?_
    rintro e w8 ⟨j0, j1, j2, rfl, oj, hb8⟩
    obtain ⟨jb, jA, jn, jc, jD, jm, jk, rfl, rfl, rfl⟩ := oj.cut
    have hs8 := hb8.size
    have hT8 := below_then hT7 hb8
    have ke := ke.below hb8 ke.lt
    have kf := kf.below hb8 kf.lt
    have kr := kr.below hb8 kr.lt
    have km := km.below hb8 km.lt
    have kn := kn.below hb8 kn.lt
    have om := om.below hb8 (by omega)
    have on := on.below hb8 (by omega)
    clear hT7
    clear hb8
    obtain ⟨w9, hw9⟩ : ∃ xw, xw = (w8.alloc (.cells #[.bool jb, .slice jA jn jc, .slice jD jm jk] 30)) := ⟨_, rfl⟩
    have hb9 : Below w8.heap.size w8 w9 := by rw [hw9]; exact below_new _ _
    have hq9 : w9.heap.size = w8.heap.size + 1 := by rw [hw9, alloc_size]
    have kj : Box w9 (w8.heap.size) 30 #[.bool jb, .slice jA jn jc, .slice jD jm jk] := by rw [hw9]; exact Box.last _ _ _ (by omega)
    have hs9 := hb9.size
    have hT9 := below_then hT8 hb9
    have ke := ke.below hb9 ke.lt
    have kf := kf.below hb9 kf.lt
    have kr := kr.below hb9 kr.lt
    have km := km.below hb9 km.lt
    have kn := kn.below hb9 kn.lt
    have om := om.below hb9 (by omega)
    have on := on.below hb9 (by omega)
    have oj := oj.below hb9 (by omega)
    clear hT8
    go_upto_region 8 with fail
    rw [← hw9]
    clear hw9 hb9
    have HIJ := hide (fun (W : World) (h : Below w9.heap.size w9 W) => (((oj.in_ (intQ_fit _) (by omega)).below h).wider h.size : QIn W W.heap.size (.bool jb) (.slice jA jn jc) (.slice jD jm jk) (intQ 0)))
    have HM1 := hide (fun (W : World) (h : Below w9.heap.size w9 W) => (((om.in_ HF1.out (by omega)).below h).wider h.size : QIn W W.heap.size (.bool mb) (.slice mA mn mc) (.slice mD mm mk) M1))
    have HM2 := hide (fun (W : World) (h : Below w9.heap.size w9 W) => (((on.in_ HF2.out (by omega)).below h).wider h.size : QIn W W.heap.size (.bool nb) (.slice nA nn nc) (.slice nD nm nk) M2))
    clear oj om on
    have Ehs0 := hide hs0
    clear hs0
    have Ehq4 := hide hq4
    clear hq4
    have Ehq6 := hide hq6
    clear hq6
    have Ehq9 := hide hq9
    clear hq9
    go_cut [9] from 55 to 65 (fun sx wx => VarQ w9 wx sx (divQ (subQ G2 G1) (subQ M1 M2)) 30 3)
    case first =>
      have HBf := hide kf
      have HBj := hide kj
      have HBe := hide ke
      have HBm := hide km
      have HBn := hide kn
      have HS0 : Hid (Below w9.heap.size w9 w9.drew) := (Below.refl _ _).drew
      have HKS := hide (fun (W : World) (hq : Below w9.heap.size w9 W) => (⟨(HBf.out.below hq HBf.out.lt).cell 0, (HBf.out.below hq HBf.out.lt).cell 1, (HBf.out.below hq HBf.out.lt).cell 2, (HBf.out.below hq HBf.out.lt).cell 3, (HBf.out.below hq HBf.out.lt).cell 4, (HBf.out.below hq HBf.out.lt).cell 5, (HBj.out.below hq HBj.out.lt).cell 0, (HBj.out.below hq HBj.out.lt).cell 1, (HBj.out.below hq HBj.out.lt).cell 2, (HBe.out.below hq HBe.out.lt).cell 0, (HBe.out.below hq HBe.out.lt).cell 1, (HBe.out.below hq HBe.out.lt).cell 2, (HBe.out.below hq HBe.out.lt).cell 3, (HBe.out.below hq HBe.out.lt).cell 4, (HBe.out.below hq HBe.out.lt).cell 5, (HBm.out.below hq HBm.out.lt).cell 0, (HBm.out.below hq HBm.out.lt).cell 1, (HBm.out.below hq HBm.out.lt).cell 2, (HBn.out.below hq HBn.out.lt).cell 0, (HBn.out.below hq HBn.out.lt).cell 1, (HBn.out.below hq HBn.out.lt).cell 2⟩ : W.cell? ⟨w.heap.size + 1, 0, none⟩ = some (.int .i64 fx) ∧ W.cell? ⟨w.heap.size + 1, 1, none⟩ = some (.int .i64 fy) ∧ W.cell? ⟨w.heap.size + 1, 2, none⟩ = some (.int .i64 fu) ∧ W.cell? ⟨w.heap.size + 1, 3, none⟩ = some (.int .i64 fv) ∧ W.cell? ⟨w.heap.size + 1, 4, none⟩ = some (.int .i64 fk) ∧ W.cell? ⟨w.heap.size + 1, 5, none⟩ = some (.bool fl) ∧ W.cell? ⟨w8.heap.size, 0, none⟩ = some (.bool jb) ∧ W.cell? ⟨w8.heap.size, 1, none⟩ = some (.slice jA jn jc) ∧ W.cell? ⟨w8.heap.size, 2, none⟩ = some (.slice jD jm jk) ∧ W.cell? ⟨w.heap.size, 0, none⟩ = some (.int .i64 ex) ∧ W.cell? ⟨w.heap.size, 1, none⟩ = some (.int .i64 ey) ∧ W.cell? ⟨w.heap.size, 2, none⟩ = some (.int .i64 eu) ∧ W.cell? ⟨w.heap.size, 3, none⟩ = some (.int .i64 ev) ∧ W.cell? ⟨w.heap.size, 4, none⟩ = some (.int .i64 ek) ∧ W.cell? ⟨w.heap.size, 5, none⟩ = some (.bool el) ∧ W.cell? ⟨w3.heap.size, 0, none⟩ = some (.bool mb) ∧ W.cell? ⟨w3.heap.size, 1, none⟩ = some (.slice mA mn mc) ∧ W.cell? ⟨w3.heap.size, 2, none⟩ = some (.slice mD mm mk) ∧ W.cell? ⟨w5.heap.size, 0, none⟩ = some (.bool nb) ∧ W.cell? ⟨w5.heap.size, 1, none⟩ = some (.slice nA nn nc) ∧ W.cell? ⟨w5.heap.size, 2, none⟩ = some (.slice nD nm nk)))
      obtain ⟨yf0, yf1, yf2, yf3, yf4, yf5⟩ := kf.cells6
      obtain ⟨yj0, yj1, yj2⟩ := kj.cells3
      obtain ⟨ye0, ye1, ye2, ye3, ye4, ye5⟩ := ke.cells6
      obtain ⟨ym0, ym1, ym2⟩ := km.cells3
      obtain ⟨yn0, yn1, yn2⟩ := kn.cells3
      refine wp_region_held_drew (S := (fun w' => w'.cell? ⟨w.heap.size + 1, 0, none⟩ = some (.int .i64 fx) ∧ w'.cell? ⟨w.heap.size + 1, 1, none⟩ = some (.int .i64 fy) ∧ w'.cell? ⟨w.heap.size + 1, 2, none⟩ = some (.int .i64 fu) ∧ w'.cell? ⟨w.heap.size + 1, 3, none⟩ = some (.int .i64 fv) ∧ w'.cell? ⟨w.heap.size + 1, 4, none⟩ = some (.int .i64 fk) ∧ w'.cell? ⟨w.heap.size + 1, 5, none⟩ = some (.bool fl) ∧ w'.cell? ⟨w8.heap.size, 0, none⟩ = some (.bool jb) ∧ w'.cell? ⟨w8.heap.size, 1, none⟩ = some (.slice jA jn jc) ∧ w'.cell? ⟨w8.heap.size, 2, none⟩ = some (.slice jD jm jk) ∧ w'.cell? ⟨w.heap.size, 0, none⟩ = some (.int .i64 ex) ∧ w'.cell? ⟨w.heap.size, 1, none⟩ = some (.int .i64 ey) ∧ w'.cell? ⟨w.heap.size, 2, none⟩ = some (.int .i64 eu) ∧ w'.cell? ⟨w.heap.size, 3, none⟩ = some (.int .i64 ev) ∧ w'.cell? ⟨w.heap.size, 4, none⟩ = some (.int .i64 ek) ∧ w'.cell? ⟨w.heap.size, 5, none⟩ = some (.bool el) ∧ w'.cell? ⟨w3.heap.size, 0, none⟩ = some (.bool mb) ∧ w'.cell? ⟨w3.heap.size, 1, none⟩ = some (.slice mA mn mc) ∧ w'.cell? ⟨w3.heap.size, 2, none⟩ = some (.slice mD mm mk) ∧ w'.cell? ⟨w5.heap.size, 0, none⟩ = some (.bool nb) ∧ w'.cell? ⟨w5.heap.size, 1, none⟩ = some (.slice nA nn nc) ∧ w'.cell? ⟨w5.heap.size, 2, none⟩ = some (.slice nD nm nk))) (by kernel_rfl) (HKS.out _ HS0.out) (fun hHeld => ?_)
      show wpAnyH _ _ _ _ _ 13 _ _ _
      refine takeTF (i := 0) (t := 55) (v := ?_) rfl (by kernel_rfl) (by kernel_rfl) (by kernel_rfl) (fun _ _ _ h => h) rfl (by rfl) ?_ hHeld ?_
      rotate_left 1
      · intro w hSw; (try dsimp only at hSw); go_simp; with_reducible rfl
      simp only [List.setIfInBounds_toArray, List.set_cons_zero, List.set_cons_succ]
      refine takeTF (i := 1) (t := 56) (v := ?_) rfl (by kernel_rfl) (by kernel_rfl) (by kernel_rfl) (fun _ _ _ h => h) rfl (by rfl) ?_ hHeld ?_
      rotate_left 1
      · intro w hSw; (try dsimp only at hSw); go_simp; with_reducible rfl
      simp only [List.setIfInBounds_toArray, List.set_cons_zero, List.set_cons_succ]
      refine takeTF (i := 3) (t := 58) (v := ?_) rfl (by kernel_rfl) (by kernel_rfl) (by kernel_rfl) (fun _ _ _ h => h) rfl (by rfl) ?_ hHeld ?_
      rotate_left 1
      · intro w hSw; (try dsimp only at hSw); go_simp; with_reducible rfl
      simp only [List.setIfInBounds_toArray, List.set_cons_zero, List.set_cons_succ]
      refine takeTF (i := 4) (t := 59) (v := ?_) rfl (by kernel_rfl) (by kernel_rfl) (by kernel_rfl) (fun _ _ _ h => h) rfl (by rfl) ?_ hHeld ?_
      rotate_left 1
      · intro w hSw; (try dsimp only at hSw); go_simp; with_reducible rfl
      simp only [List.setIfInBounds_toArray, List.set_cons_zero, List.set_cons_succ]
      refine takeTF (i := 7) (t := 62) (v := ?_) rfl (by kernel_rfl) (by kernel_rfl) (by kernel_rfl) (fun _ _ _ h => h) rfl (by rfl) ?_ hHeld ?_
      rotate_left 1
      · intro w hSw; (try dsimp only at hSw); go_simp; with_reducible rfl
      simp only [List.setIfInBounds_toArray, List.set_cons_zero, List.set_cons_succ]
      refine takeTF (i := 8) (t := 63) (v := ?_) rfl (by kernel_rfl) (by kernel_rfl) (by kernel_rfl) (fun _ _ _ h => h) rfl (by rfl) ?_ hHeld ?_
      rotate_left 1
      · intro w hSw; (try dsimp only at hSw); go_simp; with_reducible rfl
      simp only [List.setIfInBounds_toArray, List.set_cons_zero, List.set_cons_succ]
      clear yf0 yf1 yf2 yf3 yf4 yf5 yj0 yj1 yj2 ye0 ye1 ye2 ye3 ye4 ye5 ym0 ym1 ym2 yn0 yn1 yn2
      refine wpAnyH_ready (rs := [2, 11]) (by kernel_rfl) (by simp) ?_
      refine (AllReadyH.cons rfl (fun K hK => ?_) (AllReadyH.cons rfl (fun K hK => ?_) AllReadyH.nil))
      · simp only [List.getElem_toArray, List.getElem_cons_succ, List.getElem_cons_zero]
        go_simp
        (with_reducible refine Calls.mono (HH2.out _ _ _ _ (HIJ.out _ HS0.out)) ?_)
        rintro e V1 ⟨g0, g1, g2, rfl, og, bV1⟩
        obtain ⟨gb, gA, gn, gc, gD, gm, gk, rfl, rfl, rfl⟩ := og.cut
        have og : QOwn V1 w9.heap.size V1.heap.size 3 (.bool gb) (.slice gA gn gc) (.slice gD gm gk) (G2) := og
        have qg := og.in_ (HGF2.out) (Nat.le_refl _)
        have zV1 : w9.heap.size ≤ V1.heap.size := bV1.size
        have HV1x := hide (below_then HS0.out bV1)
        go_wp2_with fail
        refine hK.out _ _ (HKS.out _ HV1x.out) (fun hHeld => ?_)
        clear hK K bV1
        refine wpAnyH_ready (rs := [5, 11]) (by kernel_rfl) (by simp) ?_
        refine (AllReadyH.cons rfl (fun K hK => ?_) (AllReadyH.cons rfl (fun K hK => ?_) AllReadyH.nil))
        · simp only [List.getElem_toArray, List.getElem_cons_succ, List.getElem_cons_zero]
          go_simp
          (with_reducible refine Calls.mono (HH1.out V1 _ _ _ (HIJ.out _ HV1x.out)) ?_)
          rintro e V2 ⟨s0, s1, s2, rfl, os, bV2⟩
          obtain ⟨sb, sA, sn, sc, sD, sm, sk, rfl, rfl, rfl⟩ := os.cut
          have os : QOwn V2 V1.heap.size V2.heap.size 3 (.bool sb) (.slice sA sn sc) (.slice sD sm sk) (G1) := os
          have qs := os.in_ (HGF1.out) (Nat.le_refl _)
          have zV2 : V1.heap.size ≤ V2.heap.size := bV2.size
          have HV2x := hide (below_then HV1x.out bV2)
          have qg := qg.up bV2
          have og := og.below bV2 (by omega)
          go_wp2_with fail
          refine hK.out _ _ (HKS.out _ HV2x.out) (fun hHeld => ?_)
          clear hK K bV2
          refine wpAnyH_ready (rs := [6, 11]) (by kernel_rfl) (by simp) ?_
          refine (AllReadyH.cons rfl (fun K hK => ?_) (AllReadyH.cons rfl (fun K hK => ?_) AllReadyH.nil))
          · simp only [List.getElem_toArray, List.getElem_cons_succ, List.getElem_cons_zero]
            go_simp
            (with_reducible refine Calls.mono (spec_subQ V2 V2.heap.size (Nat.le_refl _) qg qs) ?_)
            rintro e V3 ⟨p0, p1, p2, rfl, op, bV3⟩
            obtain ⟨pb, pA, pn, pc, pD, pm, pk, rfl, rfl, rfl⟩ := op.cut
            have op : QOwn V3 V2.heap.size V3.heap.size 3 (.bool pb) (.slice pA pn pc) (.slice pD pm pk) (subQ G2 G1) := op
            have qp := op.in_ (subQ_fit _ _) (Nat.le_refl _)
            have zV3 : V2.heap.size ≤ V3.heap.size := bV3.size
            have HV3x := hide (below_then HV2x.out bV3)
            have qg := qg.up bV3
            have og := og.below bV3 (by omega)
            have qs := qs.up bV3
            have os := os.below bV3 (by omega)
            go_wp2_with fail
            refine hK.out _ _ (HKS.out _ HV3x.out) (fun hHeld => ?_)
            clear hK K bV3
            refine wpAnyH_ready (rs := [9, 11]) (by kernel_rfl) (by simp) ?_
            refine (AllReadyH.cons rfl (fun K hK => ?_) (AllReadyH.cons rfl (fun K hK => ?_) AllReadyH.nil))
            · simp only [List.getElem_toArray, List.getElem_cons_succ, List.getElem_cons_zero]
              go_simp
              (with_reducible refine Calls.mono (spec_subQ V3 V3.heap.size (Nat.le_refl _) (HM1.out _ HV3x.out) (HM2.out _ HV3x.out)) ?_)
              rintro e V4 ⟨q0, q1, q2, rfl, oq, bV4⟩
              obtain ⟨qb, qA, qn, qc, qD, qm, qk, rfl, rfl, rfl⟩ := oq.cut
              have oq : QOwn V4 V3.heap.size V4.heap.size 3 (.bool qb) (.slice qA qn qc) (.slice qD qm qk) (subQ M1 M2) := oq
              have qq := oq.in_ (subQ_fit _ _) (Nat.le_refl _)
              have zV4 : V3.heap.size ≤ V4.heap.size := bV4.size
              have HV4x := hide (below_then HV3x.out bV4)
              have qg := qg.up bV4
              have og := og.below bV4 (by omega)
              have qs := qs.up bV4
              have os := os.below bV4 (by omega)
              have qp := qp.up bV4
              have op := op.below bV4 (by omega)
              go_wp2_with fail
              refine hK.out _ _ (HKS.out _ HV4x.out) (fun hHeld => ?_)
              clear hK K bV4
              refine wpAnyH_ready (rs := [10, 11]) (by kernel_rfl) (by simp) ?_
              refine (AllReadyH.cons rfl (fun K hK => ?_) (AllReadyH.cons rfl (fun K hK => ?_) AllReadyH.nil))
              · simp only [List.getElem_toArray, List.getElem_cons_succ, List.getElem_cons_zero]
                go_simp
                (with_reducible refine Calls.mono (spec_divQ V4 V4.heap.size (Nat.le_refl _) qp qq) ?_)
                rintro e V5 ⟨z0, z1, z2, rfl, oz, bV5⟩
                obtain ⟨zb, zA, zn, zc, zD, zm, zk, rfl, rfl, rfl⟩ := oz.cut
                have oz : QOwn V5 V4.heap.size V5.heap.size 3 (.bool zb) (.slice zA zn zc) (.slice zD zm zk) (divQ (subQ G2 G1) (subQ M1 M2)) := oz
                have qz := oz.in_ (divQ_fit _ _) (Nat.le_refl _)
                have zV5 : V4.heap.size ≤ V5.heap.size := bV5.size
                have HV5x := hide (below_then HV4x.out bV5)
                have qg := qg.up bV5
                have og := og.below bV5 (by omega)
                have qs := qs.up bV5
                have os := os.below bV5 (by omega)
                have qp := qp.up bV5
                have op := op.below bV5 (by omega)
                have qq := qq.up bV5
                have oq := oq.below bV5 (by omega)
                go_wp2_with fail
                refine hK.out _ _ (HKS.out _ HV5x.out) (fun hHeld => ?_)
                clear hK K bV5
                refine wpAnyH_ready (rs := [11]) (by kernel_rfl) (by simp) ?_
                refine (AllReadyH.cons rfl (fun K hK => ?_) AllReadyH.nil)
                simp only [List.getElem_toArray, List.getElem_cons_succ, List.getElem_cons_zero]
                go_wp2_with fail
                obtain ⟨V6, hV6⟩ : ∃ x, x = V5.alloc (.cells #[.bool false, .slice none 0 0, .slice none 0 0] 30) := ⟨_, rfl⟩
                have bV6 : Below V5.heap.size V5 V6 := by rw [hV6]; exact below_new _ _
                have kV6 : Box V6 V5.heap.size 30 #[.bool false, .slice none 0 0, .slice none 0 0] := by rw [hV6]; exact Box.last _ _ _ rfl
                have zV6 : V6.heap.size ≤ V5.heap.size + 1 ∧ V5.heap.size + 1 ≤ V6.heap.size := by rw [hV6, alloc_size]; exact ⟨Nat.le_refl _, Nat.le_refl _⟩
                have HV6x := hide (below_then HV5x.out bV6)
                have qg := qg.up bV6
                have og := og.below bV6 (by omega)
                have qs := qs.up bV6
                have os := os.below bV6 (by omega)
                have qp := qp.up bV6
                have op := op.below bV6 (by omega)
                have qq := qq.up bV6
                have oq := oq.below bV6 (by omega)
                have qz := qz.up bV6
                have oz := oz.below bV6 (by omega)
                have knewv := kV6
                rw [← hV6]
                refine hK.out _ _ (HKS.out _ HV6x.out) (fun hHeld => ?_)
                clear hK K hV6 bV6 kV6
                have lnewv := knewv.lt
                obtain ⟨t0, t1, t2, f0, f1, f2⟩ := knewv.facts3
                refine wpAnyH_ready (rs := [12]) (by kernel_rfl) (by simp) ?_
                refine AllReadyH.cons rfl (fun K hK => ?_) AllReadyH.nil
                simp only [List.getElem_toArray, List.getElem_cons_succ, List.getElem_cons_zero]
                go_wp2_with fail
                clear t0 t1 t2 f0 f1 f2
                obtain ⟨V7, hV7⟩ : ∃ x, x = set3E V6 (V5.heap.size) (.bool zb) (.slice zA zn zc) (.slice zD zm zk) := ⟨_, rfl⟩
                have zV7 : V7.heap.size ≤ V6.heap.size ∧ V6.heap.size ≤ V7.heap.size := by rw [hV7, set3E_size]; exact ⟨Nat.le_refl _, Nat.le_refl _⟩
                have HV7 : Hid (Below w9.heap.size w9 V7) := by rw [hV7]; exact set3E_below HV6x.out (by omega) _ _ _
                have knewv : Box V7 (V5.heap.size) 30 #[.bool zb, .slice zA zn zc, .slice zD zm zk] := by rw [hV7]; exact knewv.set3E
                have oz : QOwn V7 (V4.heap.size) (V5.heap.size) 3 (.bool zb) (.slice zA zn zc) (.slice zD zm zk) (divQ (subQ G2 G1) (subQ M1 M2)) := by rw [hV7]; exact (((oz.setv (by omega) 0 _).setv (by omega) 1 _).setv (by omega) 2 _)
                have hV7' := hV7
                unfold set3E at hV7'
                rw [← hV7']
                refine hK.out _ _ (HKS.out _ HV7.out) (fun hHeld => ?_)
                clear hK K hV7 hV7'
                refine wpAnyH_done (by kernel_rfl) ?_ _
                go_wp2_with fail
                go_meet
                case rel => exact ⟨_, _, _, _, _, _, rfl, knewv, oz, by omega, by omega, by omega, by omega, HV7.out⟩
              · simp only [List.getElem_toArray, List.getElem_cons_succ, List.getElem_cons_zero]
                go_wp2_with fail
                obtain ⟨V8, hV8⟩ : ∃ x, x = V4.alloc (.cells #[.bool false, .slice none 0 0, .slice none 0 0] 30) := ⟨_, rfl⟩
                have bV8 : Below V4.heap.size V4 V8 := by rw [hV8]; exact below_new _ _
                have kV8 : Box V8 V4.heap.size 30 #[.bool false, .slice none 0 0, .slice none 0 0] := by rw [hV8]; exact Box.last _ _ _ rfl
                have zV8 : V8.heap.size ≤ V4.heap.size + 1 ∧ V4.heap.size + 1 ≤ V8.heap.size := by rw [hV8, alloc_size]; exact ⟨Nat.le_refl _, Nat.le_refl _⟩
                have HV8x := hide (below_then HV4x.out bV8)
                have qg := qg.up bV8
                have og := og.below bV8 (by omega)
                have qs := qs.up bV8
                have os := os.below bV8 (by omega)
                have qp := qp.up bV8
                have op := op.below bV8 (by omega)
                have qq := qq.up bV8
                have oq := oq.below bV8 (by omega)
                have knewv := kV8
                rw [← hV8]
                refine hK.out _ _ (HKS.out _ HV8x.out) (fun hHeld => ?_)
                clear hK K hV8 bV8 kV8
                refine wpAnyH_ready (rs := [10]) (by kernel_rfl) (by simp) ?_
                refine (AllReadyH.cons rfl (fun K hK => ?_) AllReadyH.nil)
                simp only [List.getElem_toArray, List.getElem_cons_succ, List.getElem_cons_zero]
                go_simp
                (with_reducible refine Calls.mono (spec_divQ V8 V8.heap.size (Nat.le_refl _) qp qq) ?_)
                rintro e V9 ⟨z0, z1, z2, rfl, oz, bV9⟩
                obtain ⟨zb, zA, zn, zc, zD, zm, zk, rfl, rfl, rfl⟩ := oz.cut
                have oz : QOwn V9 V8.heap.size V9.heap.size 3 (.bool zb) (.slice zA zn zc) (.slice zD zm zk) (divQ (subQ G2 G1) (subQ M1 M2)) := oz
                have qz := oz.in_ (divQ_fit _ _) (Nat.le_refl _)
                have zV9 : V8.heap.size ≤ V9.heap.size := bV9.size
                have HV9x := hide (below_then HV8x.out bV9)
                have knewv := knewv.below bV9 knewv.lt
                have qg := qg.up bV9
                have og := og.below bV9 (by omega)
                have qs := qs.up bV9
                have os := os.below bV9 (by omega)
                have qp := qp.up bV9
                have op := op.below bV9 (by omega)
                have qq := qq.up bV9
                have oq := oq.below bV9 (by omega)
                go_wp2_with fail
                refine hK.out _ _ (HKS.out _ HV9x.out) (fun hHeld => ?_)
                clear hK K bV9
                have lnewv := knewv.lt
                obtain ⟨t0, t1, t2, f0, f1, f2⟩ := knewv.facts3
                refine wpAnyH_ready (rs := [12]) (by kernel_rfl) (by simp) ?_
                refine AllReadyH.cons rfl (fun K hK => ?_) AllReadyH.nil
                simp only [List.getElem_toArray, List.getElem_cons_succ, List.getElem_cons_zero]
                go_wp2_with fail
                clear t0 t1 t2 f0 f1 f2
                obtain ⟨V10, hV10⟩ : ∃ x, x = set3E V9 (V4.heap.size) (.bool zb) (.slice zA zn zc) (.slice zD zm zk) := ⟨_, rfl⟩
                have zV10 : V10.heap.size ≤ V9.heap.size ∧ V9.heap.size ≤ V10.heap.size := by rw [hV10, set3E_size]; exact ⟨Nat.le_refl _, Nat.le_refl _⟩
                have HV10 : Hid (Below w9.heap.size w9 V10) := by rw [hV10]; exact set3E_below HV9x.out (by omega) _ _ _
                have knewv : Box V10 (V4.heap.size) 30 #[.bool zb, .slice zA zn zc, .slice zD zm zk] := by rw [hV10]; exact knewv.set3E
                have oz : QOwn V10 (V8.heap.size) (V9.heap.size) 3 (.bool zb) (.slice zA zn zc) (.slice zD zm zk) (divQ (subQ G2 G1) (subQ M1 M2)) := by rw [hV10]; exact (((oz.setv (by omega) 0 _).setv (by omega) 1 _).setv (by omega) 2 _)
                have hV10' := hV10
                unfold set3E at hV10'
                rw [← hV10']
                refine hK.out _ _ (HKS.out _ HV10.out) (fun hHeld => ?_)
                clear hK K hV10 hV10'
                refine wpAnyH_done (by kernel_rfl) ?_ _
                go_wp2_with fail
                go_meet
                case rel => exact ⟨_, _, _, _, _, _, rfl, knewv, oz, by omega, by omega, by omega, by omega, HV10.out⟩
            · simp only [List.getElem_toArray, List.getElem_cons_succ, List.getElem_cons_zero]
              go_wp2_with fail
              obtain ⟨V11, hV11⟩ : ∃ x, x = V3.alloc (.cells #[.bool false, .slice none 0 0, .slice none 0 0] 30) := ⟨_, rfl⟩
              have bV11 : Below V3.heap.size V3 V11 := by rw [hV11]; exact below_new _ _
              have kV11 : Box V11 V3.heap.size 30 #[.bool false, .slice none 0 0, .slice none 0 0] := by rw [hV11]; exact Box.last _ _ _ rfl
              have zV11 : V11.heap.size ≤ V3.heap.size + 1 ∧ V3.heap.size + 1 ≤ V11.heap.size := by rw [hV11, alloc_size]; exact ⟨Nat.le_refl _, Nat.le_refl _⟩
              have HV11x := hide (below_then HV3x.out bV11)
              have qg := qg.up bV11
              have og := og.below bV11 (by omega)
              have qs := qs.up bV11
              have os := os.below bV11 (by omega)
              have qp := qp.up bV11
              have op := op.below bV11 (by omega)
              have knewv := kV11
              rw [← hV11]
              refine hK.out _ _ (HKS.out _ HV11x.out) (fun hHeld => ?_)
              clear hK K hV11 bV11 kV11
              refine wpAnyH_ready (rs := [9]) (by kernel_rfl) (by simp) ?_
              refine (AllReadyH.cons rfl (fun K hK => ?_) AllReadyH.nil)
              simp only [List.getElem_toArray, List.getElem_cons_succ, List.getElem_cons_zero]
              go_simp
              (with_reducible refine Calls.mono (spec_subQ V11 V11.heap.size (Nat.le_refl _) (HM1.out _ HV11x.out) (HM2.out _ HV11x.out)) ?_)
              rintro e V12 ⟨q0, q1, q2, rfl, oq, bV12⟩
              obtain ⟨qb, qA, qn, qc, qD, qm, qk, rfl, rfl, rfl⟩ := oq.cut
              have oq : QOwn V12 V11.heap.size V12.heap.size 3 (.bool qb) (.slice qA qn qc) (.slice qD qm qk) (subQ M1 M2) := oq
              have qq := oq.in_ (subQ_fit _ _) (Nat.le_refl _)
              have zV12 : V11.heap.size ≤ V12.heap.size := bV12.size
              have HV12x := hide (below_then HV11x.out bV12)
              have knewv := knewv.below bV12 knewv.lt
              have qg := qg.up bV12
              have og := og.below bV12 (by omega)
              have qs := qs.up bV12
              have os := os.below bV12 (by omega)
              have qp := qp.up bV12
              have op := op.below bV12 (by omega)
              go_wp2_with fail
              refine hK.out _ _ (HKS.out _ HV12x.out) (fun hHeld => ?_)
              clear hK K bV12
              refine wpAnyH_ready (rs := [10]) (by kernel_rfl) (by simp) ?_
              refine (AllReadyH.cons rfl (fun K hK => ?_) AllReadyH.nil)
              simp only [List.getElem_toArray, List.getElem_cons_succ, List.getElem_cons_zero]
              go_simp
              (with_reducible refine Calls.mono (spec_divQ V12 V12.heap.size (Nat.le_refl _) qp qq) ?_)
              rintro e V13 ⟨z0, z1, z2, rfl, oz, bV13⟩
              obtain ⟨zb, zA, zn, zc, zD, zm, zk, rfl, rfl, rfl⟩ := oz.cut
              have oz : QOwn V13 V12.heap.size V13.heap.size 3 (.bool zb) (.slice zA zn zc) (.slice zD zm zk) (divQ (subQ G2 G1) (subQ M1 M2)) := oz
              have qz := oz.in_ (divQ_fit _ _) (Nat.le_refl _)
              have zV13 : V12.heap.size ≤ V13.heap.size := bV13.size
              have HV13x := hide (below_then HV12x.out bV13)
              have knewv := knewv.below bV13 knewv.lt
              have qg := qg.up bV13
              have og := og.below bV13 (by omega)
              have qs := qs.up bV13
              have os := os.below bV13 (by omega)
              have qp := qp.up bV13
              have op := op.below bV13 (by omega)
              have qq := qq.up bV13
              have oq := oq.below bV13 (by omega)
              go_wp2_with fail
              refine hK.out _ _ (HKS.out _ HV13x.out) (fun hHeld => ?_)
              clear hK K bV13
              have lnewv := knewv.lt
              obtain ⟨t0, t1, t2, f0, f1, f2⟩ := knewv.facts3
              refine wpAnyH_ready (rs := [12]) (by kernel_rfl) (by simp) ?_
              refine AllReadyH.cons rfl (fun K hK => ?_) AllReadyH.nil
              simp only [List.getElem_toArray, List.getElem_cons_succ, List.getElem_cons_zero]
              go_wp2_with fail
              clear t0 t1 t2 f0 f1 f2
              obtain ⟨V14, hV14⟩ : ∃ x, x = set3E V13 (V3.heap.size) (.bool zb) (.slice zA zn zc) (.slice zD zm zk) := ⟨_, rfl⟩
              have zV14 : V14.heap.size ≤ V13.heap.size ∧ V13.heap.size ≤ V14.heap.size := by rw [hV14, set3E_size]; exact ⟨Nat.le_refl _, Nat.le_refl _⟩
              have HV14 : Hid (Below w9.heap.size w9 V14) := by rw [hV14]; exact set3E_below HV13x.out (by omega) _ _ _
              have knewv : Box V14 (V3.heap.size) 30 #[.bool zb, .slice zA zn zc, .slice zD zm zk] := by rw [hV14]; exact knewv.set3E
              have oz : QOwn V14 (V12.heap.size) (V13.heap.size) 3 (.bool zb) (.slice zA zn zc) (.slice zD zm zk) (divQ (subQ G2 G1) (subQ M1 M2)) := by rw [hV14]; exact (((oz.setv (by omega) 0 _).setv (by omega) 1 _).setv (by omega) 2 _)
              have hV14' := hV14
              unfold set3E at hV14'
              rw [← hV14']
              refine hK.out _ _ (HKS.out _ HV14.out) (fun hHeld => ?_)
              clear hK K hV14 hV14'
              refine wpAnyH_done (by kernel_rfl) ?_ _
              go_wp2_with fail
              go_meet
              case rel => exact ⟨_, _, _, _, _, _, rfl, knewv, oz, by omega, by omega, by omega, by omega, HV14.out⟩
          · simp only [List.getElem_toArray, List.getElem_cons_succ, List.getElem_cons_zero]
            go_wp2_with fail
            obtain ⟨V15, hV15⟩ : ∃ x, x = V2.alloc (.cells #[.bool false, .slice none 0 0, .slice none 0 0] 30) := ⟨_, rfl⟩
            have bV15 : Below V2.heap.size V2 V15 := by rw [hV15]; exact below_new _ _
            have kV15 : Box V15 V2.heap.size 30 #[.bool false, .slice none 0 0, .slice none 0 0] := by rw [hV15]; exact Box.last _ _ _ rfl
            have zV15 : V15.heap.size ≤ V2.heap.size + 1 ∧ V2.heap.size + 1 ≤ V15.heap.size := by rw [hV15, alloc_size]; exact ⟨Nat.le_refl _, Nat.le_refl _⟩
            have HV15x := hide (below_then HV2x.out bV15)
            have qg := qg.up bV15
            have og := og.below bV15 (by omega)
            have qs := qs.up bV15
            have os := os.below bV15 (by omega)
            have knewv := kV15
            rw [← hV15]
            refine hK.out _ _ (HKS.out _ HV15x.out) (fun hHeld => ?_)
            clear hK K hV15 bV15 kV15
            refine wpAnyH_ready (rs := [6]) (by kernel_rfl) (by simp) ?_
            refine (AllReadyH.cons rfl (fun K hK => ?_) AllReadyH.nil)
            simp only [List.getElem_toArray, List.getElem_cons_succ, List.getElem_cons_zero]
            go_simp
            (with_reducible refine Calls.mono (spec_subQ V15 V15.heap.size (Nat.le_refl _) qg qs) ?_)
            rintro e V16 ⟨p0, p1, p2, rfl, op, bV16⟩
            obtain ⟨pb, pA, pn, pc, pD, pm, pk, rfl, rfl, rfl⟩ := op.cut
            have op : QOwn V16 V15.heap.size V16.heap.size 3 (.bool pb) (.slice pA pn pc) (.slice pD pm pk) (subQ G2 G1) := op
            have qp := op.in_ (subQ_fit _ _) (Nat.le_refl _)
            have zV16 : V15.heap.size ≤ V16.heap.size := bV16.size
            have HV16x := hide (below_then HV15x.out bV16)
            have knewv := knewv.below bV16 knewv.lt
            have qg := qg.up bV16
            have og := og.below bV16 (by omega)
            have qs := qs.up bV16
            have os := os.below bV16 (by omega)
            go_wp2_with fail
            refine hK.out _ _ (HKS.out _ HV16x.out) (fun hHeld => ?_)
            clear hK K bV16
            refine wpAnyH_ready (rs := [9]) (by kernel_rfl) (by simp) ?_
            refine (AllReadyH.cons rfl (fun K hK => ?_) AllReadyH.nil)
            simp only [List.getElem_toArray, List.getElem_cons_succ, List.getElem_cons_zero]
            go_simp
            (with_reducible refine Calls.mono (spec_subQ V16 V16.heap.size (Nat.le_refl _) (HM1.out _ HV16x.out) (HM2.out _ HV16x.out)) ?_)
            rintro e V17 ⟨q0, q1, q2, rfl, oq, bV17⟩
            obtain ⟨qb, qA, qn, qc, qD, qm, qk, rfl, rfl, rfl⟩ := oq.cut
            have oq : QOwn V17 V16.heap.size V17.heap.size 3 (.bool qb) (.slice qA qn qc) (.slice qD qm qk) (subQ M1 M2) := oq
            have qq := oq.in_ (subQ_fit _ _) (Nat.le_refl _)
            have zV17 : V16.heap.size ≤ V17.heap.size := bV17.size
            have HV17x := hide (below_then HV16x.out bV17)
            have knewv := knewv.below bV17 knewv.lt
            have qg := qg.up bV17
            have og := og.below bV17 (by omega)
            have qs := qs.up bV17
            have os := os.below bV17 (by omega)
            have qp := qp.up bV17
            have op := op.below bV17 (by omega)
            go_wp2_with fail
            refine hK.out _ _ (HKS.out _ HV17x.out) (fun hHeld => ?_)
            clear hK K bV17
            refine wpAnyH_ready (rs := [10]) (by kernel_rfl) (by simp) ?_
            refine (AllReadyH.cons rfl (fun K hK => ?_) AllReadyH.nil)
            simp only [List.getElem_toArray, List.getElem_cons_succ, List.getElem_cons_zero]
            go_simp
            (with_reducible refine Calls.mono (spec_divQ V17 V17.heap.size (Nat.le_refl _) qp qq) ?_)
            rintro e V18 ⟨z0, z1, z2, rfl, oz, bV18⟩
            obtain ⟨zb, zA, zn, zc, zD, zm, zk, rfl, rfl, rfl⟩ := oz.cut
            have oz : QOwn V18 V17.heap.size V18.heap.size 3 (.bool zb) (.slice zA zn zc) (.slice zD zm zk) (divQ (subQ G2 G1) (subQ M1 M2)) := oz
            have qz := oz.in_ (divQ_fit _ _) (Nat.le_refl _)
            have zV18 : V17.heap.size ≤ V18.heap.size := bV18.size
            have HV18x := hide (below_then HV17x.out bV18)
            have knewv := knewv.below bV18 knewv.lt
            have qg := qg.up bV18
            have og := og.below bV18 (by omega)
            have qs := qs.up bV18
            have os := os.below bV18 (by omega)
            have qp := qp.up bV18
            have op := op.below bV18 (by omega)
            have qq := qq.up bV18
            have oq := oq.below bV18 (by omega)
            go_wp2_with fail
            refine hK.out _ _ (HKS.out _ HV18x.out) (fun hHeld => ?_)
            clear hK K bV18
            have lnewv := knewv.lt
            obtain ⟨t0, t1, t2, f0, f1, f2⟩ := knewv.facts3
            refine wpAnyH_ready (rs := [12]) (by kernel_rfl) (by simp) ?_
            refine AllReadyH.cons rfl (fun K hK => ?_) AllReadyH.nil
            simp only [List.getElem_toArray, List.getElem_cons_succ, List.getElem_cons_zero]
            go_wp2_with fail
            clear t0 t1 t2 f0 f1 f2
            obtain ⟨V19, hV19⟩ : ∃ x, x = set3E V18 (V2.heap.size) (.bool zb) (.slice zA zn zc) (.slice zD zm zk) := ⟨_, rfl⟩
            have zV19 : V19.heap.size ≤ V18.heap.size ∧ V18.heap.size ≤ V19.heap.size := by rw [hV19, set3E_size]; exact ⟨Nat.le_refl _, Nat.le_refl _⟩
            have HV19 : Hid (Below w9.heap.size w9 V19) := by rw [hV19]; exact set3E_below HV18x.out (by omega) _ _ _
            have knewv : Box V19 (V2.heap.size) 30 #[.bool zb, .slice zA zn zc, .slice zD zm zk] := by rw [hV19]; exact knewv.set3E
            have oz : QOwn V19 (V17.heap.size) (V18.heap.size) 3 (.bool zb) (.slice zA zn zc) (.slice zD zm zk) (divQ (subQ G2 G1) (subQ M1 M2)) := by rw [hV19]; exact (((oz.setv (by omega) 0 _).setv (by omega) 1 _).setv (by omega) 2 _)
            have hV19' := hV19
            unfold set3E at hV19'
            rw [← hV19']
            refine hK.out _ _ (HKS.out _ HV19.out) (fun hHeld => ?_)
            clear hK K hV19 hV19'
            refine wpAnyH_done (by kernel_rfl) ?_ _
            go_wp2_with fail
            go_meet
            case rel => exact ⟨_, _, _, _, _, _, rfl, knewv, oz, by omega, by omega, by omega, by omega, HV19.out⟩
        · simp only [List.getElem_toArray, List.getElem_cons_succ, List.getElem_cons_zero]
          go_wp2_with fail
          obtain ⟨V20, hV20⟩ : ∃ x, x = V1.alloc (.cells #[.bool false, .slice none 0 0, .slice none 0 0] 30) := ⟨_, rfl⟩
          have bV20 : Below V1.heap.size V1 V20 := by rw [hV20]; exact below_new _ _
          have kV20 : Box V20 V1.heap.size 30 #[.bool false, .slice none 0 0, .slice none 0 0] := by rw [hV20]; exact Box.last _ _ _ rfl
          have zV20 : V20.heap.size ≤ V1.heap.size + 1 ∧ V1.heap.size + 1 ≤ V20.heap.size := by rw [hV20, alloc_size]; exact ⟨Nat.le_refl _, Nat.le_refl _⟩
          have HV20x := hide (below_then HV1x.out bV20)
          have qg := qg.up bV20
          have og := og.below bV20 (by omega)
          have knewv := kV20
          rw [← hV20]
          refine hK.out _ _ (HKS.out _ HV20x.out) (fun hHeld => ?_)
          clear hK K hV20 bV20 kV20
          refine wpAnyH_ready (rs := [5]) (by kernel_rfl) (by simp) ?_
          refine (AllReadyH.cons rfl (fun K hK => ?_) AllReadyH.nil)
          simp only [List.getElem_toArray, List.getElem_cons_succ, List.getElem_cons_zero]
          go_simp
          (with_reducible refine Calls.mono (HH1.out V20 _ _ _ (HIJ.out _ HV20x.out)) ?_)
          rintro e V21 ⟨s0, s1, s2, rfl, os, bV21⟩
          obtain ⟨sb, sA, sn, sc, sD, sm, sk, rfl, rfl, rfl⟩ := os.cut
          have os : QOwn V21 V20.heap.size V21.heap.size 3 (.bool sb) (.slice sA sn sc) (.slice sD sm sk) (G1) := os
          have qs := os.in_ (HGF1.out) (Nat.le_refl _)
          have zV21 : V20.heap.size ≤ V21.heap.size := bV21.size
          have HV21x := hide (below_then HV20x.out bV21)
          have knewv := knewv.below bV21 knewv.lt
          have qg := qg.up bV21
          have og := og.below bV21 (by omega)
          go_wp2_with fail
          refine hK.out _ _ (HKS.out _ HV21x.out) (fun hHeld => ?_)
          clear hK K bV21
          refine wpAnyH_ready (rs := [6]) (by kernel_rfl) (by simp) ?_
          refine (AllReadyH.cons rfl (fun K hK => ?_) AllReadyH.nil)
          simp only [List.getElem_toArray, List.getElem_cons_succ, List.getElem_cons_zero]
          go_simp
          (with_reducible refine Calls.mono (spec_subQ V21 V21.heap.size (Nat.le_refl _) qg qs) ?_)
          rintro e V22 ⟨p0, p1, p2, rfl, op, bV22⟩
          obtain ⟨pb, pA, pn, pc, pD, pm, pk, rfl, rfl, rfl⟩ := op.cut
          have op : QOwn V22 V21.heap.size V22.heap.size 3 (.bool pb) (.slice pA pn pc) (.slice pD pm pk) (subQ G2 G1) := op
          have qp := op.in_ (subQ_fit _ _) (Nat.le_refl _)
          have zV22 : V21.heap.size ≤ V22.heap.size := bV22.size
          have HV22x := hide (below_then HV21x.out bV22)
          have knewv := knewv.below bV22 knewv.lt
          have qg := qg.up bV22
          have og := og.below bV22 (by omega)
          have qs := qs.up bV22
          have os := os.below bV22 (by omega)
          go_wp2_with fail
          refine hK.out _ _ (HKS.out _ HV22x.out) (fun hHeld => ?_)
          clear hK K bV22
          refine wpAnyH_ready (rs := [9]) (by kernel_rfl) (by simp) ?_
          refine (AllReadyH.cons rfl (fun K hK => ?_) AllReadyH.nil)
          simp only [List.getElem_toArray, List.getElem_cons_succ, List.getElem_cons_zero]
          go_simp
          (with_reducible refine Calls.mono (spec_subQ V22 V22.heap.size (Nat.le_refl _) (HM1.out _ HV22x.out) (HM2.out _ HV22x.out)) ?_)
          rintro e V23 ⟨q0, q1, q2, rfl, oq, bV23⟩
          obtain ⟨qb, qA, qn, qc, qD, qm, qk, rfl, rfl, rfl⟩ := oq.cut
          have oq : QOwn V23 V22.heap.size V23.heap.size 3 (.bool qb) (.slice qA qn qc) (.slice qD qm qk) (subQ M1 M2) := oq
          have qq := oq.in_ (subQ_fit _ _) (Nat.le_refl _)
          have zV23 : V22.heap.size ≤ V23.heap.size := bV23.size
          have HV23x := hide (below_then HV22x.out bV23)
          have knewv := knewv.below bV23 knewv.lt
          have qg := qg.up bV23
          have og := og.below bV23 (by omega)
          have qs := qs.up bV23
          have os := os.below bV23 (by omega)
          have qp := qp.up bV23
          have op := op.below bV23 (by omega)
          go_wp2_with fail
          refine hK.out _ _ (HKS.out _ HV23x.out) (fun hHeld => ?_)
          clear hK K bV23
          refine wpAnyH_ready (rs := [10]) (by kernel_rfl) (by simp) ?_
          refine (AllReadyH.cons rfl (fun K hK => ?_) AllReadyH.nil)
          simp only [List.getElem_toArray, List.getElem_cons_succ, List.getElem_cons_zero]
          go_simp
          (with_reducible refine Calls.mono (spec_divQ V23 V23.heap.size (Nat.le_refl _) qp qq) ?_)
          rintro e V24 ⟨z0, z1, z2, rfl, oz, bV24⟩
          obtain ⟨zb, zA, zn, zc, zD, zm, zk, rfl, rfl, rfl⟩ := oz.cut
          have oz : QOwn V24 V23.heap.size V24.heap.size 3 (.bool zb) (.slice zA zn zc) (.slice zD zm zk) (divQ (subQ G2 G1) (subQ M1 M2)) := oz
          have qz := oz.in_ (divQ_fit _ _) (Nat.le_refl _)
          have zV24 : V23.heap.size ≤ V24.heap.size := bV24.size
          have HV24x := hide (below_then HV23x.out bV24)
          have knewv := knewv.below bV24 knewv.lt
          have qg := qg.up bV24
          have og := og.below bV24 (by omega)
          have qs := qs.up bV24
          have os := os.below bV24 (by omega)
          have qp := qp.up bV24
          have op := op.below bV24 (by omega)
          have qq := qq.up bV24
          have oq := oq.below bV24 (by omega)
          go_wp2_with fail
          refine hK.out _ _ (HKS.out _ HV24x.out) (fun hHeld => ?_)
          clear hK K bV24
          have lnewv := knewv.lt
          obtain ⟨t0, t1, t2, f0, f1, f2⟩ := knewv.facts3
          refine wpAnyH_ready (rs := [12]) (by kernel_rfl) (by simp) ?_
          refine AllReadyH.cons rfl (fun K hK => ?_) AllReadyH.nil
          simp only [List.getElem_toArray, List.getElem_cons_succ, List.getElem_cons_zero]
          go_wp2_with fail
          clear t0 t1 t2 f0 f1 f2
          obtain ⟨V25, hV25⟩ : ∃ x, x = set3E V24 (V1.heap.size) (.bool zb) (.slice zA zn zc) (.slice zD zm zk) := ⟨_, rfl⟩
          have zV25 : V25.heap.size ≤ V24.heap.size ∧ V24.heap.size ≤ V25.heap.size := by rw [hV25, set3E_size]; exact ⟨Nat.le_refl _, Nat.le_refl _⟩
          have HV25 : Hid (Below w9.heap.size w9 V25) := by rw [hV25]; exact set3E_below HV24x.out (by omega) _ _ _
          have knewv : Box V25 (V1.heap.size) 30 #[.bool zb, .slice zA zn zc, .slice zD zm zk] := by rw [hV25]; exact knewv.set3E
          have oz : QOwn V25 (V23.heap.size) (V24.heap.size) 3 (.bool zb) (.slice zA zn zc) (.slice zD zm zk) (divQ (subQ G2 G1) (subQ M1 M2)) := by rw [hV25]; exact (((oz.setv (by omega) 0 _).setv (by omega) 1 _).setv (by omega) 2 _)
          have hV25' := hV25
          unfold set3E at hV25'
          rw [← hV25']
          refine hK.out _ _ (HKS.out _ HV25.out) (fun hHeld => ?_)
          clear hK K hV25 hV25'
          refine wpAnyH_done (by kernel_rfl) ?_ _
          go_wp2_with fail
          go_meet
          case rel => exact ⟨_, _, _, _, _, _, rfl, knewv, oz, by omega, by omega, by omega, by omega, HV25.out⟩
      · simp only [List.getElem_toArray, List.getElem_cons_succ, List.getElem_cons_zero]
        go_wp2_with fail
        obtain ⟨V26, hV26⟩ : ∃ x, x = (w9.alloc (.cells #[.bool false, .slice none 0 0, .slice none 0 0] 30)).drew := ⟨_, rfl⟩
        have bV26 : Below w9.heap.size w9 V26 := by rw [hV26]; exact (below_new _ _).drew
        have kV26 : Box V26 w9.heap.size 30 #[.bool false, .slice none 0 0, .slice none 0 0] := by rw [hV26]; exact (Box.last _ _ _ rfl).drew
        have zV26 : V26.heap.size ≤ w9.heap.size + 1 ∧ w9.heap.size + 1 ≤ V26.heap.size := by rw [hV26, drew_size, alloc_size]; exact ⟨Nat.le_refl _, Nat.le_refl _⟩
        have HV26x := hide bV26
        have knewv := kV26
        rw [← hV26]
        refine hK.out _ _ (HKS.out _ HV26x.out) (fun hHeld => ?_)
        clear hK K hV26 bV26 kV26
        refine wpAnyH_ready (rs := [2]) (by kernel_rfl) (by simp) ?_
        refine (AllReadyH.cons rfl (fun K hK => ?_) AllReadyH.nil)
        simp only [List.getElem_toArray, List.getElem_cons_succ, List.getElem_cons_zero]
        go_simp
        (with_reducible refine Calls.mono (HH2.out V26 _ _ _ (HIJ.out _ HV26x.out)) ?_)
        rintro e V27 ⟨g0, g1, g2, rfl, og, bV27⟩
        obtain ⟨gb, gA, gn, gc, gD, gm, gk, rfl, rfl, rfl⟩ := og.cut
        have og : QOwn V27 V26.heap.size V27.heap.size 3 (.bool gb) (.slice gA gn gc) (.slice gD gm gk) (G2) := og
        have qg := og.in_ (HGF2.out) (Nat.le_refl _)
        have zV27 : V26.heap.size ≤ V27.heap.size := bV27.size
        have HV27x := hide (below_then HV26x.out bV27)
        have knewv := knewv.below bV27 knewv.lt
        go_wp2_with fail
        refine hK.out _ _ (HKS.out _ HV27x.out) (fun hHeld => ?_)
        clear hK K bV27
        refine wpAnyH_ready (rs := [5]) (by kernel_rfl) (by simp) ?_
        refine (AllReadyH.cons rfl (fun K hK => ?_) AllReadyH.nil)
        simp only [List.getElem_toArray, List.getElem_cons_succ, List.getElem_cons_zero]
        go_simp
        (with_reducible refine Calls.mono (HH1.out V27 _ _ _ (HIJ.out _ HV27x.out)) ?_)
        rintro e V28 ⟨s0, s1, s2, rfl, os, bV28⟩
        obtain ⟨sb, sA, sn, sc, sD, sm, sk, rfl, rfl, rfl⟩ := os.cut
        have os : QOwn V28 V27.heap.size V28.heap.size 3 (.bool sb) (.slice sA sn sc) (.slice sD sm sk) (G1) := os
        have qs := os.in_ (HGF1.out) (Nat.le_refl _)
        have zV28 : V27.heap.size ≤ V28.heap.size := bV28.size
        have HV28x := hide (below_then HV27x.out bV28)
        have knewv := knewv.below bV28 knewv.lt
        have qg := qg.up bV28
        have og := og.below bV28 (by omega)
        go_wp2_with fail
        refine hK.out _ _ (HKS.out _ HV28x.out) (fun hHeld => ?_)
        clear hK K bV28
        refine wpAnyH_ready (rs := [6]) (by kernel_rfl) (by simp) ?_
        refine (AllReadyH.cons rfl (fun K hK => ?_) AllReadyH.nil)
        simp only [List.getElem_toArray, List.getElem_cons_succ, List.getElem_cons_zero]
        go_simp
        (with_reducible refine Calls.mono (spec_subQ V28 V28.heap.size (Nat.le_refl _) qg qs) ?_)
        rintro e V29 ⟨p0, p1, p2, rfl, op, bV29⟩
        obtain ⟨pb, pA, pn, pc, pD, pm, pk, rfl, rfl, rfl⟩ := op.cut
        have op : QOwn V29 V28.heap.size V29.heap.size 3 (.bool pb) (.slice pA pn pc) (.slice pD pm pk) (subQ G2 G1) := op
        have qp := op.in_ (subQ_fit _ _) (Nat.le_refl _)
        have zV29 : V28.heap.size ≤ V29.heap.size := bV29.size
        have HV29x := hide (below_then HV28x.out bV29)
        have knewv := knewv.below bV29 knewv.lt
        have qg := qg.up bV29
        have og := og.below bV29 (by omega)
        have qs := qs.up bV29
        have os := os.below bV29 (by omega)
        go_wp2_with fail
        refine hK.out _ _ (HKS.out _ HV29x.out) (fun hHeld => ?_)
        clear hK K bV29
        refine wpAnyH_ready (rs := [9]) (by kernel_rfl) (by simp) ?_
        refine (AllReadyH.cons rfl (fun K hK => ?_) AllReadyH.nil)
        simp only [List.getElem_toArray, List.getElem_cons_succ, List.getElem_cons_zero]
        go_simp
        (with_reducible refine Calls.mono (spec_subQ V29 V29.heap.size (Nat.le_refl _) (HM1.out _ HV29x.out) (HM2.out _ HV29x.out)) ?_)
        rintro e V30 ⟨q0, q1, q2, rfl, oq, bV30⟩
        obtain ⟨qb, qA, qn, qc, qD, qm, qk, rfl, rfl, rfl⟩ := oq.cut
        have oq : QOwn V30 V29.heap.size V30.heap.size 3 (.bool qb) (.slice qA qn qc) (.slice qD qm qk) (subQ M1 M2) := oq
        have qq := oq.in_ (subQ_fit _ _) (Nat.le_refl _)
        have zV30 : V29.heap.size ≤ V30.heap.size := bV30.size
        have HV30x := hide (below_then HV29x.out bV30)
        have knewv := knewv.below bV30 knewv.lt
        have qg := qg.up bV30
        have og := og.below bV30 (by omega)
        have qs := qs.up bV30
        have os := os.below bV30 (by omega)
        have qp := qp.up bV30
        have op := op.below bV30 (by omega)
        go_wp2_with fail
        refine hK.out _ _ (HKS.out _ HV30x.out) (fun hHeld => ?_)
        clear hK K bV30
        refine wpAnyH_ready (rs := [10]) (by kernel_rfl) (by simp) ?_
        refine (AllReadyH.cons rfl (fun K hK => ?_) AllReadyH.nil)
        simp only [List.getElem_toArray, List.getElem_cons_succ, List.getElem_cons_zero]
        go_simp
        (with_reducible refine Calls.mono (spec_divQ V30 V30.heap.size (Nat.le_refl _) qp qq) ?_)
        rintro e V31 ⟨z0, z1, z2, rfl, oz, bV31⟩
        obtain ⟨zb, zA, zn, zc, zD, zm, zk, rfl, rfl, rfl⟩ := oz.cut
        have oz : QOwn V31 V30.heap.size V31.heap.size 3 (.bool zb) (.slice zA zn zc) (.slice zD zm zk) (divQ (subQ G2 G1) (subQ M1 M2)) := oz
        have qz := oz.in_ (divQ_fit _ _) (Nat.le_refl _)
        have zV31 : V30.heap.size ≤ V31.heap.size := bV31.size
        have HV31x := hide (below_then HV30x.out bV31)
        have knewv := knewv.below bV31 knewv.lt
        have qg := qg.up bV31
        have og := og.below bV31 (by omega)
        have qs := qs.up bV31
        have os := os.below bV31 (by omega)
        have qp := qp.up bV31
        have op := op.below bV31 (by omega)
        have qq := qq.up bV31
        have oq := oq.below bV31 (by omega)
        go_wp2_with fail
        refine hK.out _ _ (HKS.out _ HV31x.out) (fun hHeld => ?_)
        clear hK K bV31
        have lnewv := knewv.lt
        obtain ⟨t0, t1, t2, f0, f1, f2⟩ := knewv.facts3
        refine wpAnyH_ready (rs := [12]) (by kernel_rfl) (by simp) ?_
        refine AllReadyH.cons rfl (fun K hK => ?_) AllReadyH.nil
        simp only [List.getElem_toArray, List.getElem_cons_succ, List.getElem_cons_zero]
        go_wp2_with fail
        clear t0 t1 t2 f0 f1 f2
        obtain ⟨V32, hV32⟩ : ∃ x, x = set3E V31 (w9.heap.size) (.bool zb) (.slice zA zn zc) (.slice zD zm zk) := ⟨_, rfl⟩
        have zV32 : V32.heap.size ≤ V31.heap.size ∧ V31.heap.size ≤ V32.heap.size := by rw [hV32, set3E_size]; exact ⟨Nat.le_refl _, Nat.le_refl _⟩
        have HV32 : Hid (Below w9.heap.size w9 V32) := by rw [hV32]; exact set3E_below HV31x.out (by omega) _ _ _
        have knewv : Box V32 (w9.heap.size) 30 #[.bool zb, .slice zA zn zc, .slice zD zm zk] := by rw [hV32]; exact knewv.set3E
        have oz : QOwn V32 (V30.heap.size) (V31.heap.size) 3 (.bool zb) (.slice zA zn zc) (.slice zD zm zk) (divQ (subQ G2 G1) (subQ M1 M2)) := by rw [hV32]; exact (((oz.setv (by omega) 0 _).setv (by omega) 1 _).setv (by omega) 2 _)
        have hV32' := hV32
        unfold set3E at hV32'
        rw [← hV32']
        refine hK.out _ _ (HKS.out _ HV32.out) (fun hHeld => ?_)
        clear hK K hV32 hV32'
        refine wpAnyH_done (by kernel_rfl) ?_ _
        go_wp2_with fail
        go_meet
        case rel => exact ⟨_, _, _, _, _, _, rfl, knewv, oz, by omega, by omega, by omega, by omega, HV32.out⟩
    case rest =>
      have hs0 := Ehs0.out
      clear Ehs0
      have hq4 := Ehq4.out
      clear Ehq4
      have hq6 := Ehq6.out
      clear Ehq6
      have hq9 := Ehq9.out
      clear Ehq9
      obtain ⟨gx, x0, x1, x2, lox, hix, rfl, bn, on, hlox, hhix, hggx, hglx, hb10⟩ := hcut
      obtain ⟨xb, xA, xn, xc, xD, xm, xk, rfl, rfl, rfl⟩ := on.cut
      obtain ⟨w10, hw10⟩ : ∃ xw, xw = wc := ⟨_, rfl⟩
      subst hw10
      have hs10 := hb10.size
      have hT10 := below_then hT9 hb10
      have ke := ke.below hb10 ke.lt
      have kf := kf.below hb10 kf.lt
      have kr := kr.below hb10 kr.lt
      have km := km.below hb10 km.lt
      have kn := kn.below hb10 kn.lt
      have kj := kj.below hb10 kj.lt
      clear hT9
      clear hb10
      have kx := bn
      have lx := bn.lt
      have ox := on
      clear bn on
      rw [← HXE.out] at ox
      go_upto_region 9 with fail
      obtain ⟨ye0, ye1, ye2, ye3, ye4, ye5⟩ := ke.cells6
      obtain ⟨yx0, yx1, yx2⟩ := kx.cells3
      go_wp2_with fail
      refine (HV3.out w10 _ _ _ (ox.in_ HXF.out (by omega))).mono ?_
      rintro e w11 ⟨rfl, hb11⟩
      clear ye0 ye1 ye2 ye3 ye4 ye5 yx0 yx1 yx2
      have hs11 := hb11.size
      have hT11 := below_then hT10 hb11
      have ke := ke.below hb11 ke.lt
      have kf := kf.below hb11 kf.lt
      have kr := kr.below hb11 kr.lt
      have km := km.below hb11 km.lt
      have kn := kn.below hb11 kn.lt
      have kj := kj.below hb11 kj.lt
      have kx := kx.below hb11 kx.lt
      have ox := ox.below hb11 (by omega)
      clear hT10
      clear hb11
      cases b1 with
      | false =>
        have HO := hide (ret_q kr (QOwn.zero w11 w11.heap.size w11.heap.size 3 (Nat.le_refl _)) hT11 (by omega) (by omega) (by omega) (.inl (by omega)))
        obtain ⟨yr0, yr1, yr2, zr0, zr1, zr2⟩ := kr.facts3
        clear kr
        go_wp2_with fail
        refine bodyPost_ret (results_cell_tmp rfl _ _ (w.heap.size + 2) _ #[.bool false, .slice none 0 0, .slice none 0 0] (0, 0) _ rfl HO.out.1 Tryz.underlying30 rfl Tryz.sizeRat) rfl ?_
        exact ⟨_, _, _, by rw [HRB.out]; rfl, by rw [HRZ.out]; exact HO.out.2.1, HO.out.2.2⟩
      | true =>
        obtain ⟨yf0, yf1, yf2, yf3, yf4, yf5⟩ := kf.cells6
        obtain ⟨yx0, yx1, yx2⟩ := kx.cells3
        go_wp2_with fail
        refine (HV4.out w11 _ _ _ (ox.in_ HXF.out (by omega))).mono ?_
        rintro e w12 ⟨rfl, hb12⟩
        clear yf0 yf1 yf2 yf3 yf4 yf5 yx0 yx1 yx2
        have hs12 := hb12.size
        have hT12 := below_then hT11 hb12
        have ke := ke.below hb12 ke.lt
        have kf := kf.below hb12 kf.lt
        have kr := kr.below hb12 kr.lt
        have km := km.below hb12 km.lt
        have kn := kn.below hb12 kn.lt
        have kj := kj.below hb12 kj.lt
        have kx := kx.below hb12 kx.lt
        have ox := ox.below hb12 (by omega)
        clear hT11
        clear hb12
        cases b2 with
        | false =>
          have HO := hide (ret_q kr (QOwn.zero w12 w12.heap.size w12.heap.size 3 (Nat.le_refl _)) hT12 (by omega) (by omega) (by omega) (.inl (by omega)))
          obtain ⟨yr0, yr1, yr2, zr0, zr1, zr2⟩ := kr.facts3
          clear kr
          go_wp2_with fail
          refine bodyPost_ret (results_cell_tmp rfl _ _ (w.heap.size + 2) _ #[.bool false, .slice none 0 0, .slice none 0 0] (0, 0) _ rfl HO.out.1 Tryz.underlying30 rfl Tryz.sizeRat) rfl ?_
          exact ⟨_, _, _, by rw [HRB.out]; rfl, by rw [HRZ.out]; exact HO.out.2.1, HO.out.2.2⟩
        | true =>
          have HO := hide (ret_q kr ox hT12 (by omega) (by omega) (by omega) (.inl (by omega)))
          obtain ⟨yr0, yr1, yr2, zr0, zr1, zr2⟩ := kr.facts3
          obtain ⟨yx0, yx1, yx2⟩ := kx.cells3
          clear kr
          go_wp2_with fail
          refine bodyPost_ret (results_cell_tmp rfl _ _ (w.heap.size + 2) _ #[.bool xb, .slice xA xn xc, .slice xD xm xk] (0, 0) _ rfl HO.out.1 Tryz.underlying30 rfl Tryz.sizeRat) rfl ?_
          exact ⟨_, _, _, by rw [HRB.out]; rfl, by rw [HRZ.out]; exact HO.out.2.1, HO.out.2.2⟩
set_option maxRecDepth 100000 in
set_option maxHeartbeats 12800000 in
theorem spec_CrossingX (w : World) (ex ey eu ev ek : Int) (el : Bool) (hex : (Lit.int .i64 ex).wf = true) (hey : (Lit.int .i64 ey).wf = true) (heu : (Lit.int .i64 eu).wf = true) (hev : (Lit.int .i64 ev).wf = true) (fx fy fu fv fk : Int) (fl : Bool) (hfx : (Lit.int .i64 fx).wf = true) (hfy : (Lit.int .i64 fy).wf = true) (hfu : (Lit.int .i64 fu).wf = true) (hfv : (Lit.int .i64 fv).wf = true) :
    Calls Tryz.prog 5 #[.agg #[.int .i64 ex, .int .i64 ey, .int .i64 eu, .int .i64 ev, .int .i64 ek, .bool el], .agg #[.int .i64 fx, .int .i64 fy, .int .i64 fu, .int .i64 fv, .int .i64 fk, .bool fl]] w fun e w' => XRes 3 w w' e (crossQ ex ey eu ev fx fy fu fv) (crsB ex ey eu ev fx fy fu fv) := by
  by_cases hE : edgeB ex ey eu ev = true ∧ edgeB fx fy fu fv = true
  · exact spec_CrossingX_in w ex ey eu ev ek el hex hey heu hev fx fy fu fv fk fl hfx hfy hfu hfv hE.1 hE.2
  · exact spec_CrossingX_out w ex ey eu ev ek el hex hey heu hev fx fy fu fv fk fl hfx hfy hfu hfv (by simpa using hE)
end Go.Proofs.YtdcceppednngjaaGreat
