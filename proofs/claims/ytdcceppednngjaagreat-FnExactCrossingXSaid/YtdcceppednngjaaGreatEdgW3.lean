/-
  The walk of the exact law of CrossingX.
-/
import Derived.Test.YtdcceppednngjaaGreatEdgC
import Derived.Test.YtdcceppednngjaaGreatEdgD
import Derived.Test.YtdcceppednngjaaGreatEdgB
import Derived.Test.YtdcceppednngjaaGreatPtS
import Derived.Deep.RegionHeld3
import Derived.Deep.CutRange
import Derived.Sort.AtCall
namespace Go.Proofs.YtdcceppednngjaaGreat
open Go.RowKit
set_option linter.unusedVariables false
set_option maxRecDepth 100000 in
set_option maxHeartbeats 16000000 in
theorem FnExactCrossingX_walk (w : World) (ex ey eu ev ek : Int) (el : Bool) (hex : (Lit.int .i64 ex).wf = true) (hey : (Lit.int .i64 ey).wf = true) (heu : (Lit.int .i64 eu).wf = true) (hev : (Lit.int .i64 ev).wf = true) (hek : (Lit.int .i64 ek).wf = true) (fx fy fu fv fk : Int) (fl : Bool) (hfx : (Lit.int .i64 fx).wf = true) (hfy : (Lit.int .i64 fy).wf = true) (hfu : (Lit.int .i64 fu).wf = true) (hfv : (Lit.int .i64 fv).wf = true) (hfk : (Lit.int .i64 fk).wf = true) :
    Calls Tryz.prog 3 #[.agg #[.int .i64 ex, .int .i64 ey, .int .i64 eu, .int .i64 ev, .int .i64 ek, .bool el], .agg #[.int .i64 fx, .int .i64 fy, .int .i64 fu, .int .i64 fv, .int .i64 fk, .bool fl]] w fun e w' => e = .returned (.bool true) ∧ Below w.heap.size w w' := by
  have HCe := hide (fun (W : World) => toEdge_any W ex ey eu ev ek el hex hey heu hev)
  have HCf := hide (fun (W : World) => toEdge_any W fx fy fu fv fk fl hfx hfy hfu hfv)
  have HS := hide (fun (W : World) => spec_CrossingX W ex ey eu ev ek el hex hey heu hev fx fy fu fv fk fl hfx hfy hfu hfv)
  have HG := hide (fun (W : World) => impl_CrossingX W ex ey eu ev ek el hex hey heu hev fx fy fu fv fk fl hfx hfy hfu hfv)
  have HFZ : Hid (QFit (crossQ ex ey eu ev fx fy fu fv)) := by show _; unfold crossQ; exact fit_ite (ofQ_fit _ _) noR_fit
  generalize crsB ex ey eu ev fx fy fu fv = RB at *
  generalize crossQ ex ey eu ev fx fy fu fv = RZ at *
  clear hex hey heu hev hek hfx hfy hfu hfv hfk
  obtain ⟨W0, hW0⟩ : ∃ W0, W0 = ((w.alloc (.cells #[.int .i64 ex, .int .i64 ey, .int .i64 eu, .int .i64 ev, .int .i64 ek, .bool el] 25)).alloc (.cells #[.int .i64 fx, .int .i64 fy, .int .i64 fu, .int .i64 fv, .int .i64 fk, .bool fl] 25)) := ⟨_, rfl⟩
  have hT0 : Below w.heap.size w W0 := by rw [hW0]; exact below_alloc (below_new _ _) _
  have ke : Box W0 (w.heap.size) 25 #[.int .i64 ex, .int .i64 ey, .int .i64 eu, .int .i64 ev, .int .i64 ek, .bool el] := by rw [hW0]; exact (Box.last _ _ _ rfl).alloc _
  have kf : Box W0 (w.heap.size + 1) 25 #[.int .i64 fx, .int .i64 fy, .int .i64 fu, .int .i64 fv, .int .i64 fk, .bool fl] := by rw [hW0]; exact Box.last _ _ _ (alloc_size _ _).symm
  have hs0 : W0.heap.size = w.heap.size + 2 := by rw [hW0, alloc_size, alloc_size]
  go_enter Tryz.func3, Tryz.ntmps3
  go_upto_region 1 with fail
  rw [← hW0]
  clear hW0
  have Ehs0 := hide hs0
  clear hs0
  have HBe := hide ke
  have HBf := hide kf
  have HS0 : Hid (Below W0.heap.size W0 W0.drew) := (Below.refl _ _).drew
  have HS0a : Hid (Below W0.heap.size W0 (W0.alloc (.cells #[.bool false, .slice none 0 0, .slice none 0 0] 30)).drew) := (below_new _ _).drew
  have HKS := hide (fun (W : World) (hq : Below W0.heap.size W0 W) => (⟨(HBe.out.below hq HBe.out.lt).cell 0, (HBe.out.below hq HBe.out.lt).cell 1, (HBe.out.below hq HBe.out.lt).cell 2, (HBe.out.below hq HBe.out.lt).cell 3, (HBe.out.below hq HBe.out.lt).cell 4, (HBe.out.below hq HBe.out.lt).cell 5, (HBf.out.below hq HBf.out.lt).cell 0, (HBf.out.below hq HBf.out.lt).cell 1, (HBf.out.below hq HBf.out.lt).cell 2, (HBf.out.below hq HBf.out.lt).cell 3, (HBf.out.below hq HBf.out.lt).cell 4, (HBf.out.below hq HBf.out.lt).cell 5⟩ : W.cell? ⟨w.heap.size, 0, none⟩ = some (.int .i64 ex) ∧ W.cell? ⟨w.heap.size, 1, none⟩ = some (.int .i64 ey) ∧ W.cell? ⟨w.heap.size, 2, none⟩ = some (.int .i64 eu) ∧ W.cell? ⟨w.heap.size, 3, none⟩ = some (.int .i64 ev) ∧ W.cell? ⟨w.heap.size, 4, none⟩ = some (.int .i64 ek) ∧ W.cell? ⟨w.heap.size, 5, none⟩ = some (.bool el) ∧ W.cell? ⟨w.heap.size + 1, 0, none⟩ = some (.int .i64 fx) ∧ W.cell? ⟨w.heap.size + 1, 1, none⟩ = some (.int .i64 fy) ∧ W.cell? ⟨w.heap.size + 1, 2, none⟩ = some (.int .i64 fu) ∧ W.cell? ⟨w.heap.size + 1, 3, none⟩ = some (.int .i64 fv) ∧ W.cell? ⟨w.heap.size + 1, 4, none⟩ = some (.int .i64 fk) ∧ W.cell? ⟨w.heap.size + 1, 5, none⟩ = some (.bool fl)))
  obtain ⟨ye0, ye1, ye2, ye3, ye4, ye5⟩ := ke.cells6
  obtain ⟨yf0, yf1, yf2, yf3, yf4, yf5⟩ := kf.cells6
  go_cut [5, 6] from 13 to 20 (fun sx sb wx => sb = .bool RB ∧ VarQ W0 wx sx (RZ) 30 3)
  case first =>
    go_region_held3 (fun w' => w'.cell? ⟨w.heap.size, 0, none⟩ = some (.int .i64 ex) ∧ w'.cell? ⟨w.heap.size, 1, none⟩ = some (.int .i64 ey) ∧ w'.cell? ⟨w.heap.size, 2, none⟩ = some (.int .i64 eu) ∧ w'.cell? ⟨w.heap.size, 3, none⟩ = some (.int .i64 ev) ∧ w'.cell? ⟨w.heap.size, 4, none⟩ = some (.int .i64 ek) ∧ w'.cell? ⟨w.heap.size, 5, none⟩ = some (.bool el) ∧ w'.cell? ⟨w.heap.size + 1, 0, none⟩ = some (.int .i64 fx) ∧ w'.cell? ⟨w.heap.size + 1, 1, none⟩ = some (.int .i64 fy) ∧ w'.cell? ⟨w.heap.size + 1, 2, none⟩ = some (.int .i64 fu) ∧ w'.cell? ⟨w.heap.size + 1, 3, none⟩ = some (.int .i64 fv) ∧ w'.cell? ⟨w.heap.size + 1, 4, none⟩ = some (.int .i64 fk) ∧ w'.cell? ⟨w.heap.size + 1, 5, none⟩ = some (.bool fl))
        (first | (with_reducible exact HKS.out _ (below_set3 HS3.out HS2.out.size _ _ _)) | (with_reducible exact HKS.out _ (below_set3 HS3.out HS1.out.size _ _ _)) | (with_reducible exact HKS.out _ (below_set3 HS3.out (Nat.le_refl _) _ _ _)) | (with_reducible exact HKS.out _ HS3.out) | (with_reducible exact HKS.out _ (below_alloc HS3.out _)) | (with_reducible exact HKS.out _ HS2.out) | (with_reducible exact HKS.out _ (below_alloc HS2.out _)) | (with_reducible exact HKS.out _ HS1.out) | (with_reducible exact HKS.out _ (below_alloc HS1.out _)) | (with_reducible exact HKS.out _ HS0.out) | (with_reducible exact HKS.out _ HS0a.out))
        (first
          | (go_at_call 5; have HX := HS2.out; (first | (with_reducible refine Calls.mono (HS.out _) ?_) | (with_reducible refine Calls.mono (HS.out _) ?_)); rintro e u3 ⟨z0, z1, z2, rfl, oz, hb3⟩; obtain ⟨zb, zA, zn, zc, zD, zm, zk, rfl, rfl, rfl⟩ := oz.cut; (first | (have hu3 := (show Below u2.heap.size u2 u3 from hb3)) | (have hu3 := (below_then (below_new u2 _) hb3))); have hz3 : u2.heap.size ≤ u3.heap.size := hu3.size; have HS3 := hide (below_then HX hu3); clear HX; have hy3 := hb3.size; (first | (have kz := kz_new hb3) | (have kz := kz.below hu3 kz.lt) | skip); (first | (obtain ⟨t0, t1, t2, f0, f1, f2⟩ := kz.facts3) | skip))
          | (go_at_call 6; have HX := HS1.out; (first | (with_reducible refine Calls.mono (HCf.out _) ?_) | (with_reducible refine Calls.mono (HCf.out _) ?_)); rintro e u2 ⟨rfl, hb2⟩; (first | (have hu2 := (show Below u1.heap.size u1 u2 from hb2)) | (have hu2 := (below_then (below_new u1 _) hb2))); have hz2 : u1.heap.size ≤ u2.heap.size := hu2.size; have HS2 := hide (below_then HX hu2); clear HX; have hy2 := hb2.size; (first | (have kz := kz_new hb2) | (have kz := kz.below hu2 kz.lt) | skip))
          | (go_at_call 6; have HX := HS0.out; (first | (with_reducible refine Calls.mono (HCe.out _) ?_) | (with_reducible refine Calls.mono (HCe.out _) ?_)); rintro e u1 ⟨rfl, hb1⟩; (first | (have HS1 := hide (below_then HS0.out hb1)) | (have HS1 := hide (below_then HS0a.out hb1))); have hz1 : W0.heap.size ≤ u1.heap.size := HS1.out.size; clear HX; have hy1 := hb1.size; (first | (have kz := kz_drew hb1) | skip)))
    all_goals
      go_wp2_with fail
      go_meet
      case rel =>
        try simp only [drew_size, alloc_size] at hy1 hy2 hy3
        have HL := HS3.out
        refine ⟨rfl, ?_⟩
        first
          | ((with_reducible refine varq_set kz HL oz ?_ (Nat.le_refl _) ?_ ?_) <;> ((try simp only [alloc_size]); omega))
          | ((with_reducible refine varq_last HL oz ?_ (Nat.le_refl _)) <;> ((try simp only [alloc_size]); omega))
  case rest =>
    have hs0 := Ehs0.out
    clear Ehs0
    obtain ⟨hsb, hcut⟩ := hcut
    subst hsb
    obtain ⟨gv, v0, v1, v2, lov, hiv, rfl, bn, on, hlov, hhiv, hggv, hglv, hb1⟩ := hcut
    obtain ⟨vb, vA, vn, vc, vD, vm, vk, rfl, rfl, rfl⟩ := on.cut
    obtain ⟨w1, hw1⟩ : ∃ xw, xw = wc := ⟨_, rfl⟩
    subst hw1
    clear HKS HS0 HS0a HBe HBf
    clear ye0 ye1 ye2 ye3 ye4 ye5 yf0 yf1 yf2 yf3 yf4 yf5
    have hs1 := hb1.size
    have hT1 := below_then hT0 hb1
    have ke := ke.below hb1 ke.lt
    have kf := kf.below hb1 kf.lt
    clear hT0
    clear hb1
    have kv := bn
    have lv := bn.lt
    have ov := on
    clear bn on
    go_upto_region 2 with fail
    have Ehs0 := hide hs0
    clear hs0
    have HBe := hide ke
    have HBf := hide kf
    have HS0 : Hid (Below w1.heap.size w1 w1.drew) := (Below.refl _ _).drew
    have HS0a : Hid (Below w1.heap.size w1 (w1.alloc (.cells #[.bool false, .slice none 0 0, .slice none 0 0] 30)).drew) := (below_new _ _).drew
    have HKS := hide (fun (W : World) (hq : Below w1.heap.size w1 W) => (⟨(HBe.out.below hq HBe.out.lt).cell 0, (HBe.out.below hq HBe.out.lt).cell 1, (HBe.out.below hq HBe.out.lt).cell 2, (HBe.out.below hq HBe.out.lt).cell 3, (HBe.out.below hq HBe.out.lt).cell 4, (HBe.out.below hq HBe.out.lt).cell 5, (HBf.out.below hq HBf.out.lt).cell 0, (HBf.out.below hq HBf.out.lt).cell 1, (HBf.out.below hq HBf.out.lt).cell 2, (HBf.out.below hq HBf.out.lt).cell 3, (HBf.out.below hq HBf.out.lt).cell 4, (HBf.out.below hq HBf.out.lt).cell 5⟩ : W.cell? ⟨w.heap.size, 0, none⟩ = some (.int .i64 ex) ∧ W.cell? ⟨w.heap.size, 1, none⟩ = some (.int .i64 ey) ∧ W.cell? ⟨w.heap.size, 2, none⟩ = some (.int .i64 eu) ∧ W.cell? ⟨w.heap.size, 3, none⟩ = some (.int .i64 ev) ∧ W.cell? ⟨w.heap.size, 4, none⟩ = some (.int .i64 ek) ∧ W.cell? ⟨w.heap.size, 5, none⟩ = some (.bool el) ∧ W.cell? ⟨w.heap.size + 1, 0, none⟩ = some (.int .i64 fx) ∧ W.cell? ⟨w.heap.size + 1, 1, none⟩ = some (.int .i64 fy) ∧ W.cell? ⟨w.heap.size + 1, 2, none⟩ = some (.int .i64 fu) ∧ W.cell? ⟨w.heap.size + 1, 3, none⟩ = some (.int .i64 fv) ∧ W.cell? ⟨w.heap.size + 1, 4, none⟩ = some (.int .i64 fk) ∧ W.cell? ⟨w.heap.size + 1, 5, none⟩ = some (.bool fl)))
    obtain ⟨ye0, ye1, ye2, ye3, ye4, ye5⟩ := ke.cells6
    obtain ⟨yf0, yf1, yf2, yf3, yf4, yf5⟩ := kf.cells6
    go_cut [7, 8] from 21 to 28 (fun sx sb wx => sb = .bool RB ∧ VarQ w1 wx sx (RZ) 30 3)
    case first =>
      go_region_held3 (fun w' => w'.cell? ⟨w.heap.size, 0, none⟩ = some (.int .i64 ex) ∧ w'.cell? ⟨w.heap.size, 1, none⟩ = some (.int .i64 ey) ∧ w'.cell? ⟨w.heap.size, 2, none⟩ = some (.int .i64 eu) ∧ w'.cell? ⟨w.heap.size, 3, none⟩ = some (.int .i64 ev) ∧ w'.cell? ⟨w.heap.size, 4, none⟩ = some (.int .i64 ek) ∧ w'.cell? ⟨w.heap.size, 5, none⟩ = some (.bool el) ∧ w'.cell? ⟨w.heap.size + 1, 0, none⟩ = some (.int .i64 fx) ∧ w'.cell? ⟨w.heap.size + 1, 1, none⟩ = some (.int .i64 fy) ∧ w'.cell? ⟨w.heap.size + 1, 2, none⟩ = some (.int .i64 fu) ∧ w'.cell? ⟨w.heap.size + 1, 3, none⟩ = some (.int .i64 fv) ∧ w'.cell? ⟨w.heap.size + 1, 4, none⟩ = some (.int .i64 fk) ∧ w'.cell? ⟨w.heap.size + 1, 5, none⟩ = some (.bool fl))
          (first | (with_reducible exact HKS.out _ (below_set3 HS3.out HS2.out.size _ _ _)) | (with_reducible exact HKS.out _ (below_set3 HS3.out HS1.out.size _ _ _)) | (with_reducible exact HKS.out _ (below_set3 HS3.out (Nat.le_refl _) _ _ _)) | (with_reducible exact HKS.out _ HS3.out) | (with_reducible exact HKS.out _ (below_alloc HS3.out _)) | (with_reducible exact HKS.out _ HS2.out) | (with_reducible exact HKS.out _ (below_alloc HS2.out _)) | (with_reducible exact HKS.out _ HS1.out) | (with_reducible exact HKS.out _ (below_alloc HS1.out _)) | (with_reducible exact HKS.out _ HS0.out) | (with_reducible exact HKS.out _ HS0a.out))
          (first
            | (go_at_call 7; have HX := HS2.out; (first | (with_reducible refine Calls.mono (HG.out _) ?_) | (with_reducible refine Calls.mono (HG.out _) ?_)); rintro e u3 ⟨z0, z1, z2, rfl, oz, hb3⟩; obtain ⟨zb, zA, zn, zc, zD, zm, zk, rfl, rfl, rfl⟩ := oz.cut; (first | (have hu3 := (show Below u2.heap.size u2 u3 from hb3)) | (have hu3 := (below_then (below_new u2 _) hb3))); have hz3 : u2.heap.size ≤ u3.heap.size := hu3.size; have HS3 := hide (below_then HX hu3); clear HX; have hy3 := hb3.size; (first | (have kz := kz_new hb3) | (have kz := kz.below hu3 kz.lt) | skip); (first | (obtain ⟨t0, t1, t2, f0, f1, f2⟩ := kz.facts3) | skip))
            | (go_at_call 6; have HX := HS1.out; (first | (with_reducible refine Calls.mono (HCf.out _) ?_) | (with_reducible refine Calls.mono (HCf.out _) ?_)); rintro e u2 ⟨rfl, hb2⟩; (first | (have hu2 := (show Below u1.heap.size u1 u2 from hb2)) | (have hu2 := (below_then (below_new u1 _) hb2))); have hz2 : u1.heap.size ≤ u2.heap.size := hu2.size; have HS2 := hide (below_then HX hu2); clear HX; have hy2 := hb2.size; (first | (have kz := kz_new hb2) | (have kz := kz.below hu2 kz.lt) | skip))
            | (go_at_call 6; have HX := HS0.out; (first | (with_reducible refine Calls.mono (HCe.out _) ?_) | (with_reducible refine Calls.mono (HCe.out _) ?_)); rintro e u1 ⟨rfl, hb1⟩; (first | (have HS1 := hide (below_then HS0.out hb1)) | (have HS1 := hide (below_then HS0a.out hb1))); have hz1 : w1.heap.size ≤ u1.heap.size := HS1.out.size; clear HX; have hy1 := hb1.size; (first | (have kz := kz_drew hb1) | skip)))
      all_goals
        go_wp2_with fail
        go_meet
        case rel =>
          try simp only [drew_size, alloc_size] at hy1 hy2 hy3
          have HL := HS3.out
          refine ⟨rfl, ?_⟩
          first
            | ((with_reducible refine varq_set kz HL oz ?_ (Nat.le_refl _) ?_ ?_) <;> ((try simp only [alloc_size]); omega))
            | ((with_reducible refine varq_last HL oz ?_ (Nat.le_refl _)) <;> ((try simp only [alloc_size]); omega))
    case rest =>
      have hs0 := Ehs0.out
      clear Ehs0
      obtain ⟨hsb, hcut⟩ := hcut
      subst hsb
      obtain ⟨gg, g0, g1, g2, log, hig, rfl, bn, on, hlog, hhig, hggg, hglg, hb2⟩ := hcut
      obtain ⟨gb, gA, gn, gc, gD, gm, gk, rfl, rfl, rfl⟩ := on.cut
      obtain ⟨w2, hw2⟩ : ∃ xw, xw = wc := ⟨_, rfl⟩
      subst hw2
      clear HKS HS0 HS0a HBe HBf
      clear ye0 ye1 ye2 ye3 ye4 ye5 yf0 yf1 yf2 yf3 yf4 yf5
      have hs2 := hb2.size
      have hT2 := below_then hT1 hb2
      have ke := ke.below hb2 ke.lt
      have kf := kf.below hb2 kf.lt
      have kv := kv.below hb2 kv.lt
      have ov := ov.below hb2 (by omega)
      clear hT1
      clear hb2
      have kg := bn
      have lg := bn.lt
      have og := on
      clear bn on
      go_upto_region 3 with fail
      obtain ⟨yg0, yg1, yg2⟩ := kg.cells3
      obtain ⟨yv0, yv1, yv2⟩ := kv.cells3
      go_wp2_with fail
      refine (eqQ_any w2 w2.heap.size (Nat.le_refl _) (og.in_ (HFZ.out) (by omega)) (ov.in_ (HFZ.out) (by omega))).mono ?_
      rintro e w3 ⟨rfl, hb3⟩
      clear yg0 yg1 yg2 yv0 yv1 yv2
      have hs3 := hb3.size
      have hT3 := below_then hT2 hb3
      have ke := ke.below hb3 ke.lt
      have kf := kf.below hb3 kf.lt
      have kv := kv.below hb3 kv.lt
      have kg := kg.below hb3 kg.lt
      have ov := ov.below hb3 (by omega)
      have og := og.below hb3 (by omega)
      clear hT2
      clear hb3
      obtain ⟨yg0, yg1, yg2⟩ := kg.cells3
      go_wp2_with fail
      refine (markQ_own w3 (log) (hig) 3 1 og (by omega) ⟨by have := (HFZ.out).1; omega, by have := (HFZ.out).2.1; omega⟩ (by omega)).mono ?_
      rintro e w4 ⟨he, pg, ha4⟩
      have hcz := sizQ_le (HFZ.out)
      obtain ⟨K1, hK1⟩ : ∃ K : Nat, K = 1 + sizQ (RZ) := ⟨_, rfl⟩
      have bK1 : K1 ≤ 4200010 := by omega
      rw [← hK1] at he
      subst he
      have HK1 := hide hK1
      clear hK1 hcz
      clear yg0 yg1 yg2
      have hs4 := ha4.size
      have hT4 := hT3.trans (Aside.below ha4 (by omega) (by omega))
      have ke := ke.aside ha4 (by omega)
      have kf := kf.aside ha4 (by omega)
      have kv := kv.aside ha4 (by omega)
      have kg := kg.aside ha4 (by omega)
      have ov := ov.aside ha4 (by omega)
      clear hT3
      have og := pg
      clear pg ha4
      obtain ⟨yg0, yg1, yg2⟩ := kg.cells3
      have hNK1 : ¬ (K1 : Int) < 0 := by omega
      go_wp2_with fail
      refine (heldQ_any w4 (log) (hig) 3 1 og (by omega) ⟨by have := (HFZ.out).1; omega, by have := (HFZ.out).2.1; omega⟩ (by omega)).mono ?_
      rintro e w5 ⟨he, hb5⟩
      rw [← HK1.out] at he
      subst he
      clear yg0 yg1 yg2
      have hs5 := hb5.size
      have hT5 := below_then hT4 hb5
      have ke := ke.below hb5 ke.lt
      have kf := kf.below hb5 kf.lt
      have kv := kv.below hb5 kv.lt
      have kg := kg.below hb5 kg.lt
      have ov := ov.below hb5 (by omega)
      have og := og.below hb5 (by omega)
      clear hT4
      clear hb5
      go_upto_region 13 with fail
      have Ehs0 := hide hs0
      clear hs0
      have HBe := hide ke
      have HBf := hide kf
      have HS0 : Hid (Below w5.heap.size w5 w5.drew) := (Below.refl _ _).drew
      have HS0a : Hid (Below w5.heap.size w5 (w5.alloc (.cells #[.bool false, .slice none 0 0, .slice none 0 0] 30)).drew) := (below_new _ _).drew
      have HKS := hide (fun (W : World) (hq : Below w5.heap.size w5 W) => (⟨(HBe.out.below hq HBe.out.lt).cell 0, (HBe.out.below hq HBe.out.lt).cell 1, (HBe.out.below hq HBe.out.lt).cell 2, (HBe.out.below hq HBe.out.lt).cell 3, (HBe.out.below hq HBe.out.lt).cell 4, (HBe.out.below hq HBe.out.lt).cell 5, (HBf.out.below hq HBf.out.lt).cell 0, (HBf.out.below hq HBf.out.lt).cell 1, (HBf.out.below hq HBf.out.lt).cell 2, (HBf.out.below hq HBf.out.lt).cell 3, (HBf.out.below hq HBf.out.lt).cell 4, (HBf.out.below hq HBf.out.lt).cell 5⟩ : W.cell? ⟨w.heap.size, 0, none⟩ = some (.int .i64 ex) ∧ W.cell? ⟨w.heap.size, 1, none⟩ = some (.int .i64 ey) ∧ W.cell? ⟨w.heap.size, 2, none⟩ = some (.int .i64 eu) ∧ W.cell? ⟨w.heap.size, 3, none⟩ = some (.int .i64 ev) ∧ W.cell? ⟨w.heap.size, 4, none⟩ = some (.int .i64 ek) ∧ W.cell? ⟨w.heap.size, 5, none⟩ = some (.bool el) ∧ W.cell? ⟨w.heap.size + 1, 0, none⟩ = some (.int .i64 fx) ∧ W.cell? ⟨w.heap.size + 1, 1, none⟩ = some (.int .i64 fy) ∧ W.cell? ⟨w.heap.size + 1, 2, none⟩ = some (.int .i64 fu) ∧ W.cell? ⟨w.heap.size + 1, 3, none⟩ = some (.int .i64 fv) ∧ W.cell? ⟨w.heap.size + 1, 4, none⟩ = some (.int .i64 fk) ∧ W.cell? ⟨w.heap.size + 1, 5, none⟩ = some (.bool fl)))
      obtain ⟨ye0, ye1, ye2, ye3, ye4, ye5⟩ := ke.cells6
      obtain ⟨yf0, yf1, yf2, yf3, yf4, yf5⟩ := kf.cells6
      go_cut [11, 12] from 49 to 56 (fun sx sb wx => sb = .bool RB ∧ VarQ w5 wx sx (RZ) 30 3)
      case first =>
        go_region_held3 (fun w' => w'.cell? ⟨w.heap.size, 0, none⟩ = some (.int .i64 ex) ∧ w'.cell? ⟨w.heap.size, 1, none⟩ = some (.int .i64 ey) ∧ w'.cell? ⟨w.heap.size, 2, none⟩ = some (.int .i64 eu) ∧ w'.cell? ⟨w.heap.size, 3, none⟩ = some (.int .i64 ev) ∧ w'.cell? ⟨w.heap.size, 4, none⟩ = some (.int .i64 ek) ∧ w'.cell? ⟨w.heap.size, 5, none⟩ = some (.bool el) ∧ w'.cell? ⟨w.heap.size + 1, 0, none⟩ = some (.int .i64 fx) ∧ w'.cell? ⟨w.heap.size + 1, 1, none⟩ = some (.int .i64 fy) ∧ w'.cell? ⟨w.heap.size + 1, 2, none⟩ = some (.int .i64 fu) ∧ w'.cell? ⟨w.heap.size + 1, 3, none⟩ = some (.int .i64 fv) ∧ w'.cell? ⟨w.heap.size + 1, 4, none⟩ = some (.int .i64 fk) ∧ w'.cell? ⟨w.heap.size + 1, 5, none⟩ = some (.bool fl))
            (first | (with_reducible exact HKS.out _ (below_set3 HS3.out HS2.out.size _ _ _)) | (with_reducible exact HKS.out _ (below_set3 HS3.out HS1.out.size _ _ _)) | (with_reducible exact HKS.out _ (below_set3 HS3.out (Nat.le_refl _) _ _ _)) | (with_reducible exact HKS.out _ HS3.out) | (with_reducible exact HKS.out _ (below_alloc HS3.out _)) | (with_reducible exact HKS.out _ HS2.out) | (with_reducible exact HKS.out _ (below_alloc HS2.out _)) | (with_reducible exact HKS.out _ HS1.out) | (with_reducible exact HKS.out _ (below_alloc HS1.out _)) | (with_reducible exact HKS.out _ HS0.out) | (with_reducible exact HKS.out _ HS0a.out))
            (first
              | (go_at_call 7; have HX := HS2.out; (first | (with_reducible refine Calls.mono (HG.out _) ?_) | (with_reducible refine Calls.mono (HG.out _) ?_)); rintro e u3 ⟨z0, z1, z2, rfl, oz, hb3⟩; obtain ⟨zb, zA, zn, zc, zD, zm, zk, rfl, rfl, rfl⟩ := oz.cut; (first | (have hu3 := (show Below u2.heap.size u2 u3 from hb3)) | (have hu3 := (below_then (below_new u2 _) hb3))); have hz3 : u2.heap.size ≤ u3.heap.size := hu3.size; have HS3 := hide (below_then HX hu3); clear HX; have hy3 := hb3.size; (first | (have kz := kz_new hb3) | (have kz := kz.below hu3 kz.lt) | skip); (first | (obtain ⟨t0, t1, t2, f0, f1, f2⟩ := kz.facts3) | skip))
              | (go_at_call 6; have HX := HS1.out; (first | (with_reducible refine Calls.mono (HCf.out _) ?_) | (with_reducible refine Calls.mono (HCf.out _) ?_)); rintro e u2 ⟨rfl, hb2⟩; (first | (have hu2 := (show Below u1.heap.size u1 u2 from hb2)) | (have hu2 := (below_then (below_new u1 _) hb2))); have hz2 : u1.heap.size ≤ u2.heap.size := hu2.size; have HS2 := hide (below_then HX hu2); clear HX; have hy2 := hb2.size; (first | (have kz := kz_new hb2) | (have kz := kz.below hu2 kz.lt) | skip))
              | (go_at_call 6; have HX := HS0.out; (first | (with_reducible refine Calls.mono (HCe.out _) ?_) | (with_reducible refine Calls.mono (HCe.out _) ?_)); rintro e u1 ⟨rfl, hb1⟩; (first | (have HS1 := hide (below_then HS0.out hb1)) | (have HS1 := hide (below_then HS0a.out hb1))); have hz1 : w5.heap.size ≤ u1.heap.size := HS1.out.size; clear HX; have hy1 := hb1.size; (first | (have kz := kz_drew hb1) | skip)))
        all_goals
          go_wp2_with fail
          go_meet
          case rel =>
            try simp only [drew_size, alloc_size] at hy1 hy2 hy3
            have HL := HS3.out
            refine ⟨rfl, ?_⟩
            first
              | ((with_reducible refine varq_set kz HL oz ?_ (Nat.le_refl _) ?_ ?_) <;> ((try simp only [alloc_size]); omega))
              | ((with_reducible refine varq_last HL oz ?_ (Nat.le_refl _)) <;> ((try simp only [alloc_size]); omega))
      case rest =>
        have hs0 := Ehs0.out
        clear Ehs0
        obtain ⟨hsb, hcut⟩ := hcut
        subst hsb
        obtain ⟨gh, h0, h1, h2, loh, hih, rfl, bn, on, hloh, hhih, hggh, hglh, hb6⟩ := hcut
        obtain ⟨hb, hA, hn, hc, hD, hm, hk, rfl, rfl, rfl⟩ := on.cut
        obtain ⟨w6, hw6⟩ : ∃ xw, xw = wc := ⟨_, rfl⟩
        subst hw6
        clear HKS HS0 HS0a HBe HBf
        clear ye0 ye1 ye2 ye3 ye4 ye5 yf0 yf1 yf2 yf3 yf4 yf5
        have hs6 := hb6.size
        have hT6 := below_then hT5 hb6
        have ke := ke.below hb6 ke.lt
        have kf := kf.below hb6 kf.lt
        have kv := kv.below hb6 kv.lt
        have kg := kg.below hb6 kg.lt
        have ov := ov.below hb6 (by omega)
        have og := og.below hb6 (by omega)
        clear hT5
        clear hb6
        have kh := bn
        have lh := bn.lt
        have oh := on
        clear bn on
        go_upto_region 14 with fail
        obtain ⟨yh0, yh1, yh2⟩ := kh.cells3
        obtain ⟨yv0, yv1, yv2⟩ := kv.cells3
        go_wp2_with fail
        refine (eqQ_any w6 w6.heap.size (Nat.le_refl _) (oh.in_ (HFZ.out) (by omega)) (ov.in_ (HFZ.out) (by omega))).mono ?_
        rintro e w7 ⟨rfl, hb7⟩
        clear yh0 yh1 yh2 yv0 yv1 yv2
        have hs7 := hb7.size
        have hT7 := below_then hT6 hb7
        have ke := ke.below hb7 ke.lt
        have kf := kf.below hb7 kf.lt
        have kv := kv.below hb7 kv.lt
        have kg := kg.below hb7 kg.lt
        have kh := kh.below hb7 kh.lt
        have ov := ov.below hb7 (by omega)
        have og := og.below hb7 (by omega)
        have oh := oh.below hb7 (by omega)
        clear hT6
        clear hb7
        obtain ⟨yg0, yg1, yg2⟩ := kg.cells3
        have hNK1 : ¬ (K1 : Int) < 0 := by omega
        go_wp2_with fail
        refine (heldQ_any w7 (log) (hig) 3 1 og (by omega) ⟨by have := (HFZ.out).1; omega, by have := (HFZ.out).2.1; omega⟩ (by omega)).mono ?_
        rintro e w8 ⟨he, hb8⟩
        rw [← HK1.out] at he
        subst he
        clear yg0 yg1 yg2
        have hs8 := hb8.size
        have hT8 := below_then hT7 hb8
        have ke := ke.below hb8 ke.lt
        have kf := kf.below hb8 kf.lt
        have kv := kv.below hb8 kv.lt
        have kg := kg.below hb8 kg.lt
        have kh := kh.below hb8 kh.lt
        have ov := ov.below hb8 (by omega)
        have og := og.below hb8 (by omega)
        have oh := oh.below hb8 (by omega)
        clear hT7
        clear hb8
        go_wp2_with fail
        go_ret
        exact ⟨rfl, hT8⟩
end Go.Proofs.YtdcceppednngjaaGreat
