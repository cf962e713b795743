/-
  The program's free placements: contracts: isBetween, InBox.
-/
import Derived.Test.YtocllmaikngoaaaFreQ
import Derived.Test.YtocllmaikngoaaaFreM
import Derived.Test.YtocllmaikngoaaaFreT
import Derived.Deep.RegionHeld3
import Derived.Deep.CutRange
import Derived.Sort.AtCall
namespace Go.Proofs.Ytocllmaikngoaaa
open Go.RowKit
set_option linter.unusedVariables false
set_option maxRecDepth 100000 in
set_option maxHeartbeats 3200000 in
theorem impl_isBetween (w : World) (B : Nat) (hB : B ≤ w.heap.size) {v0 v1 v2 : Value} {Z : RQ} (h : QIn w B v0 v1 v2 Z) (a b : Int) (ha : (Lit.int .i64 a).wf = true) (hb : (Lit.int .i64 b).wf = true) :
    Calls Try.prog 46 #[.agg #[v0, v1, v2], .int .i64 a, .int .i64 b] w fun e w' => e = .returned (.bool (btwQ Z a b)) ∧ Below w.heap.size w w' := by
  have HE : Hid (btwQ Z a b = (decide (cqR (intQ a) Z < 0) && decide (cqR Z (intQ b) < 0))) := rfl
  rw [HE.out]
  clear HE
  have HIN := hide (fun (W : World) (hq : Below w.heap.size w W) => (h.below (hq.mono hB)).wider (Nat.le_trans hB hq.size))
  obtain ⟨vb, vA, vn, vc, vD, vm, vk, rfl, rfl, rfl⟩ := h.cut
  clear h
  have HI1 := hide (fun (W : World) => impl_intQ W a ha)
  have HI2 := hide (fun (W : World) => impl_intQ W b hb)
  have HC1 := hide (fun (W : World) (hq : Below w.heap.size w W) (x0 x1 x2 : Value) (r : QIn W W.heap.size x0 x1 x2 (intQ a)) => impl_cqR W W.heap.size (Nat.le_refl _) r (HIN.out W hq))
  have HC2 := hide (fun (W : World) (hq : Below w.heap.size w W) (x0 x1 x2 : Value) (r : QIn W W.heap.size x0 x1 x2 (intQ b)) => impl_cqR W W.heap.size (Nat.le_refl _) (HIN.out W hq) r)
  generalize cqR (intQ a) Z = X1 at *
  generalize cqR Z (intQ b) = X2 at *
  obtain ⟨W0, hW0⟩ : ∃ W0, W0 = w.alloc (.cells #[.bool vb, .slice vA vn vc, .slice vD vm vk] 56) := ⟨_, rfl⟩
  have hT0 : Below w.heap.size w W0 := by rw [hW0]; exact below_new _ _
  have kz : Box W0 w.heap.size 56 #[.bool vb, .slice vA vn vc, .slice vD vm vk] := by rw [hW0]; exact Box.last _ _ _ rfl
  have HBz := hide kz
  have HT0 := hide hT0
  go_enter Try.func46, Try.ntmps46
  go_upto_region 1 with fail
  rw [← hW0]
  clear hW0 hT0 ha hb HIN
  obtain ⟨y0, y1, y2⟩ := kz.cells3
  clear kz
  have HS0 : Hid (Below W0.heap.size W0 W0.drew) := (Below.refl _ _).drew
  have HKS := hide (fun (W : World) (hq : Below W0.heap.size W0 W) => (⟨(HBz.out.below hq HBz.out.lt).cell 0, (HBz.out.below hq HBz.out.lt).cell 1, (HBz.out.below hq HBz.out.lt).cell 2⟩ : W.cell? ⟨w.heap.size, 0, none⟩ = some (.bool vb) ∧ W.cell? ⟨w.heap.size, 1, none⟩ = some (.slice vA vn vc) ∧ W.cell? ⟨w.heap.size, 2, none⟩ = some (.slice vD vm vk)))
  by_cases c1 : X1 < 0
  · have hd1 : decide (X1 < 0) = true := decide_eq_true c1
    refine wp_region_held_drew (S := (fun w' => w'.cell? ⟨w.heap.size, 0, none⟩ = some (.bool vb) ∧ w'.cell? ⟨w.heap.size, 1, none⟩ = some (.slice vA vn vc) ∧ w'.cell? ⟨w.heap.size, 2, none⟩ = some (.slice vD vm vk))) (by kernel_rfl) (HKS.out _ HS0.out) (fun hHeld => ?_)
    show wpAnyH _ _ _ _ _ 13 _ _ _
    refine takeTF (i := 0) (t := 7) (v := ?_) rfl (by kernel_rfl) (by kernel_rfl) (by kernel_rfl) (fun _ _ _ h => h) rfl (by rfl) ?_ hHeld ?_
    rotate_left 1
    · intro w hSw; (try dsimp only at hSw); go_simp; with_reducible rfl
    simp only [List.setIfInBounds_toArray, List.set_cons_zero, List.set_cons_succ]
    refine takeTF (i := 2) (t := 9) (v := ?_) rfl (by kernel_rfl) (by kernel_rfl) (by kernel_rfl) (fun _ _ _ h => h) rfl (by rfl) ?_ hHeld ?_
    rotate_left 1
    · intro w hSw; (try dsimp only at hSw); go_simp; with_reducible rfl
    simp only [List.setIfInBounds_toArray, List.set_cons_zero, List.set_cons_succ]
    refine wpAnyH_ready (rs := [1]) (by kernel_rfl) (by simp) ?_
    refine AllReadyH.cons rfl (fun K hK => ?_) AllReadyH.nil
    simp only [List.getElem_toArray, List.getElem_cons_succ, List.getElem_cons_zero]
    go_simp
    (have HX := HS0.out; refine (HI1.out _).mono ?_; rintro e u1 ⟨x0, x1, x2, rfl, ox, hb1⟩; obtain ⟨xb, xA, xn, xc, xD, xm, xk, rfl, rfl, rfl⟩ := ox.cut; have qx := ox.in_ (intQ_fit _) (Nat.le_refl _); have HS1 := hide (below_then HX hb1); clear HX)
    go_wp2_with fail
    refine hK.out _ _ (HKS.out _ HS1.out) (fun hHeld => ?_)
    clear hK K
    refine wpAnyH_ready (rs := [3]) (by kernel_rfl) (by simp) ?_
    refine AllReadyH.cons rfl (fun K hK => ?_) AllReadyH.nil
    simp only [List.getElem_toArray, List.getElem_cons_succ, List.getElem_cons_zero]
    go_simp
    (have HX := HS1.out; refine (HC1.out _ (below_then HT0.out HX) _ _ _ qx).mono ?_; rintro e u2 ⟨rfl, hb2⟩; have HS2 := hide (below_then HX hb2); clear HX)
    go_wp2_with fail
    refine hK.out _ _ (HKS.out _ HS2.out) (fun hHeld => ?_)
    clear hK K
    refine takeTF (i := 4) (t := 11) (v := ?_) rfl (by kernel_rfl) (by kernel_rfl) (by kernel_rfl) (fun _ _ _ h => h) rfl (by rfl) ?_ hHeld ?_
    rotate_left 1
    · intro w hSw; (try dsimp only at hSw); go_simp; with_reducible rfl
    simp only [List.setIfInBounds_toArray, List.set_cons_zero, List.set_cons_succ]
    refine takeTF (i := 5) (t := 12) (v := ?_) rfl (by kernel_rfl) (by kernel_rfl) (by kernel_rfl) (fun _ _ _ h => h) rfl (by rfl) ?_ hHeld ?_
    rotate_left 1
    · intro w hSw; (try dsimp only at hSw); go_simp; with_reducible rfl
    simp only [List.setIfInBounds_toArray, List.set_cons_zero, List.set_cons_succ]
    refine takeTF (i := 6) (t := 13) (v := ?_) rfl (by kernel_rfl) (by kernel_rfl) (by kernel_rfl) (fun _ _ _ h => h) rfl (by rfl) ?_ hHeld ?_
    rotate_left 1
    · intro w hSw; (try dsimp only at hSw); go_simp; with_reducible rfl
    simp only [List.setIfInBounds_toArray, List.set_cons_zero, List.set_cons_succ]
    refine takeTF (i := 7) (t := 14) (v := ?_) rfl (by kernel_rfl) (by kernel_rfl) (by kernel_rfl) (fun _ _ _ h => h) rfl (by rfl) ?_ hHeld ?_
    rotate_left 1
    · intro w hSw; (try dsimp only at hSw); go_simp; with_reducible rfl
    simp only [List.setIfInBounds_toArray, List.set_cons_zero, List.set_cons_succ]
    refine wpAnyH_ready (rs := [8]) (by kernel_rfl) (by simp) ?_
    refine AllReadyH.cons rfl (fun K hK => ?_) AllReadyH.nil
    simp only [List.getElem_toArray, List.getElem_cons_succ, List.getElem_cons_zero]
    go_simp
    (have HX := HS2.out; refine (HI2.out _).mono ?_; rintro e u3 ⟨z0, z1, z2, rfl, oz, hb3⟩; obtain ⟨zb, zA, zn, zc, zD, zm, zk, rfl, rfl, rfl⟩ := oz.cut; have qz := oz.in_ (intQ_fit _) (Nat.le_refl _); have HS3 := hide (below_then HX hb3); clear HX)
    go_wp2_with fail
    refine hK.out _ _ (HKS.out _ HS3.out) (fun hHeld => ?_)
    clear hK K
    refine wpAnyH_ready (rs := [9]) (by kernel_rfl) (by simp) ?_
    refine AllReadyH.cons rfl (fun K hK => ?_) AllReadyH.nil
    simp only [List.getElem_toArray, List.getElem_cons_succ, List.getElem_cons_zero]
    go_simp
    (have HX := HS3.out; refine (HC2.out _ (below_then HT0.out HX) _ _ _ qz).mono ?_; rintro e u4 ⟨rfl, hb4⟩; have HS4 := hide (below_then HX hb4); clear HX)
    go_wp2_with fail
    refine hK.out _ _ (HKS.out _ HS4.out) (fun hHeld => ?_)
    clear hK K
    refine takeTF (i := 10) (t := 17) (v := ?_) rfl (by kernel_rfl) (by kernel_rfl) (by kernel_rfl) (fun _ _ _ h => h) rfl (by rfl) ?_ hHeld ?_
    rotate_left 1
    · intro w hSw; (try dsimp only at hSw); go_simp; with_reducible rfl
    simp only [List.setIfInBounds_toArray, List.set_cons_zero, List.set_cons_succ]
    refine takeTF (i := 11) (t := 18) (v := ?_) rfl (by kernel_rfl) (by kernel_rfl) (by kernel_rfl) (fun _ _ _ h => h) rfl (by rfl) ?_ hHeld ?_
    rotate_left 1
    · intro w hSw; (try dsimp only at hSw); go_simp; with_reducible rfl
    simp only [List.setIfInBounds_toArray, List.set_cons_zero, List.set_cons_succ]
    refine takeTF (i := 12) (t := 6) (v := ?_) rfl (by kernel_rfl) (by kernel_rfl) (by kernel_rfl) (fun _ _ _ h => h) rfl (by rfl) ?_ hHeld ?_
    rotate_left 1
    · intro w hSw; (try dsimp only at hSw); go_simp; with_reducible rfl
    simp only [List.setIfInBounds_toArray, List.set_cons_zero, List.set_cons_succ]
    refine wpAnyH_done (by kernel_rfl) ?_ _
    have hf := below_then HT0.out HS4.out
    go_wp2_with fail
    go_ret
    exact ⟨by rw [hd1]; try rfl, hf⟩
  · have hd1 : decide (X1 < 0) = false := decide_eq_false c1
    have h1' : (X1 < 0) = False := eq_false c1
    refine wp_region_held_drew (S := (fun w' => w'.cell? ⟨w.heap.size, 0, none⟩ = some (.bool vb) ∧ w'.cell? ⟨w.heap.size, 1, none⟩ = some (.slice vA vn vc) ∧ w'.cell? ⟨w.heap.size, 2, none⟩ = some (.slice vD vm vk))) (by kernel_rfl) (HKS.out _ HS0.out) (fun hHeld => ?_)
    show wpAnyH _ _ _ _ _ 13 _ _ _
    refine takeTF (i := 0) (t := 7) (v := ?_) rfl (by kernel_rfl) (by kernel_rfl) (by kernel_rfl) (fun _ _ _ h => h) rfl (by rfl) ?_ hHeld ?_
    rotate_left 1
    · intro w hSw; (try dsimp only at hSw); go_simp; with_reducible rfl
    simp only [List.setIfInBounds_toArray, List.set_cons_zero, List.set_cons_succ]
    refine takeTF (i := 2) (t := 9) (v := ?_) rfl (by kernel_rfl) (by kernel_rfl) (by kernel_rfl) (fun _ _ _ h => h) rfl (by rfl) ?_ hHeld ?_
    rotate_left 1
    · intro w hSw; (try dsimp only at hSw); go_simp; with_reducible rfl
    simp only [List.setIfInBounds_toArray, List.set_cons_zero, List.set_cons_succ]
    refine wpAnyH_ready (rs := [1]) (by kernel_rfl) (by simp) ?_
    refine AllReadyH.cons rfl (fun K hK => ?_) AllReadyH.nil
    simp only [List.getElem_toArray, List.getElem_cons_succ, List.getElem_cons_zero]
    go_simp
    (have HX := HS0.out; refine (HI1.out _).mono ?_; rintro e u1 ⟨x0, x1, x2, rfl, ox, hb1⟩; obtain ⟨xb, xA, xn, xc, xD, xm, xk, rfl, rfl, rfl⟩ := ox.cut; have qx := ox.in_ (intQ_fit _) (Nat.le_refl _); have HS1 := hide (below_then HX hb1); clear HX)
    go_wp2_with fail
    refine hK.out _ _ (HKS.out _ HS1.out) (fun hHeld => ?_)
    clear hK K
    refine wpAnyH_ready (rs := [3]) (by kernel_rfl) (by simp) ?_
    refine AllReadyH.cons rfl (fun K hK => ?_) AllReadyH.nil
    simp only [List.getElem_toArray, List.getElem_cons_succ, List.getElem_cons_zero]
    go_simp
    (have HX := HS1.out; refine (HC1.out _ (below_then HT0.out HX) _ _ _ qx).mono ?_; rintro e u2 ⟨rfl, hb2⟩; have HS2 := hide (below_then HX hb2); clear HX)
    go_wp2_with fail
    refine hK.out _ _ (HKS.out _ HS2.out) (fun hHeld => ?_)
    clear hK K
    refine takeTF (i := 4) (t := 11) (v := ?_) rfl (by kernel_rfl) (by kernel_rfl) (by kernel_rfl) (fun _ _ _ h => h) rfl (by rfl) ?_ hHeld ?_
    rotate_left 1
    · intro w hSw; (try dsimp only at hSw); go_simp; with_reducible rfl
    simp only [List.setIfInBounds_toArray, List.set_cons_zero, List.set_cons_succ]
    refine takeTF (i := 5) (t := 12) (v := ?_) rfl (by kernel_rfl) (by kernel_rfl) (by kernel_rfl) (fun _ _ _ h => h) rfl (by rfl) ?_ hHeld ?_
    rotate_left 1
    · intro w hSw; (try dsimp only at hSw); go_simp; with_reducible rfl
    simp only [List.setIfInBounds_toArray, List.set_cons_zero, List.set_cons_succ]
    refine skipTF (i := 6) (t := 13) rfl (by kernel_rfl) (by kernel_rfl) (by kernel_rfl) (fun _ _ _ h => h) rfl (by rfl) hHeld ?_
    simp only [List.setIfInBounds_toArray, List.set_cons_zero, List.set_cons_succ]
    refine skipTF (i := 7) (t := 14) rfl (by kernel_rfl) (by kernel_rfl) (by kernel_rfl) (fun _ _ _ h => h) rfl (by rfl) hHeld ?_
    simp only [List.setIfInBounds_toArray, List.set_cons_zero, List.set_cons_succ]
    refine skipCF (i := 8) (t := 15) (by kernel_rfl) rfl rfl (by rfl) hHeld ?_
    simp only [List.setIfInBounds_toArray, List.set_cons_zero, List.set_cons_succ]
    refine skipCF (i := 9) (t := 16) (by kernel_rfl) rfl rfl (by rfl) hHeld ?_
    simp only [List.setIfInBounds_toArray, List.set_cons_zero, List.set_cons_succ]
    refine skipTF (i := 10) (t := 17) rfl (by kernel_rfl) (by kernel_rfl) (by kernel_rfl) (fun _ _ _ h => h) rfl (by rfl) hHeld ?_
    simp only [List.setIfInBounds_toArray, List.set_cons_zero, List.set_cons_succ]
    refine takeTF (i := 11) (t := 18) (v := ?_) rfl (by kernel_rfl) (by kernel_rfl) (by kernel_rfl) (fun _ _ _ h => h) rfl (by rfl) ?_ hHeld ?_
    rotate_left 1
    · intro w hSw; (try dsimp only at hSw); go_simp; with_reducible rfl
    simp only [List.setIfInBounds_toArray, List.set_cons_zero, List.set_cons_succ]
    refine takeTF (i := 12) (t := 6) (v := ?_) rfl (by kernel_rfl) (by kernel_rfl) (by kernel_rfl) (fun _ _ _ h => h) rfl (by rfl) ?_ hHeld ?_
    rotate_left 1
    · intro w hSw; (try dsimp only at hSw); go_simp; with_reducible rfl
    simp only [List.setIfInBounds_toArray, List.set_cons_zero, List.set_cons_succ]
    refine wpAnyH_done (by kernel_rfl) ?_ _
    have hf := below_then HT0.out HS2.out
    go_wp2_with fail
    go_ret
    exact ⟨by rw [hd1]; try rfl, hf⟩
set_option maxRecDepth 100000 in
set_option maxHeartbeats 3200000 in
theorem impl_InBox (w : World) (B : Nat) (hB : B ≤ w.heap.size) (x y u v : Int) (hx : (Lit.int .i64 x).wf = true) (hy : (Lit.int .i64 y).wf = true) (hu : (Lit.int .i64 u).wf = true) (hv : (Lit.int .i64 v).wf = true) {p0 p1 p2 p3 p4 p5 : Value} {P : PQ} (h : PIn w B p0 p1 p2 p3 p4 p5 P) :
    Calls Try.prog 17 #[.agg #[.int .i64 x, .int .i64 y, .int .i64 u, .int .i64 v], .agg #[p0, p1, p2, p3, p4, p5]] w fun e w' => e = .returned (.bool (boxB x y u v P)) ∧ Below w.heap.size w w' := by
  have HE : Hid (boxB x y u v P = (btwQ P.1 x u && btwQ P.2 y v)) := rfl
  rw [HE.out]
  clear HE
  have HC1 := hide (fun (W : World) (hq : Below w.heap.size w W) => impl_isBetween W B (Nat.le_trans hB hq.size) (h.1.below (hq.mono hB)) x u hx hu)
  have HC2 := hide (fun (W : World) (hq : Below w.heap.size w W) => impl_isBetween W B (Nat.le_trans hB hq.size) (h.2.below (hq.mono hB)) y v hy hv)
  obtain ⟨pb, pA, pn, pc, pD, pm, pk, qb, qA, qn, qc, qD, qm, qk, rfl, rfl, rfl, rfl, rfl, rfl⟩ := h.cut
  clear h hx hy hu hv
  generalize btwQ P.1 x u = b1 at *
  generalize btwQ P.2 y v = b2 at *
  obtain ⟨W0, hW0⟩ : ∃ W0, W0 = (w.alloc (.cells #[.int .i64 x, .int .i64 y, .int .i64 u, .int .i64 v] 52)).alloc (.cells #[.bool pb, .slice pA pn pc, .slice pD pm pk, .bool qb, .slice qA qn qc, .slice qD qm qk] 58) := ⟨_, rfl⟩
  have hT0 : Below w.heap.size w W0 := by rw [hW0]; exact below_alloc (below_new _ _) _
  have kb : Box W0 w.heap.size 52 #[.int .i64 x, .int .i64 y, .int .i64 u, .int .i64 v] := by rw [hW0]; exact (Box.last _ _ _ rfl).alloc _
  have kp : Box W0 (w.heap.size + 1) 58 #[.bool pb, .slice pA pn pc, .slice pD pm pk, .bool qb, .slice qA qn qc, .slice qD qm qk] := by rw [hW0]; exact Box.last _ _ _ (alloc_size _ _).symm
  go_enter Try.func17, Try.ntmps17
  go_upto_region 1 with fail
  rw [← hW0]
  clear hW0
  obtain ⟨k0, k1, k2, k3⟩ := kb.cells4
  obtain ⟨y0, y1, y2, y3, y4, y5⟩ := kp.cells6
  cases b1 with
  | false =>
    go_wp2_with fail
    refine (HC1.out _ hT0).mono ?_
    rintro e w1 ⟨rfl, hb1⟩
    go_wp2_with fail
    go_ret
    exact ⟨rfl, below_then hT0 hb1⟩
  | true =>
    go_wp2_with fail
    refine (HC1.out _ hT0).mono ?_
    rintro e w1 ⟨rfl, hb1⟩
    clear k0 k1 k2 k3 y0 y1 y2 y3 y4 y5
    have kb := kb.below hb1 kb.lt
    have kp := kp.below hb1 kp.lt
    have hT1 := below_then hT0 hb1
    obtain ⟨k0, k1, k2, k3⟩ := kb.cells4
    obtain ⟨y0, y1, y2, y3, y4, y5⟩ := kp.cells6
    clear kb kp hb1 hT0
    go_wp2_with fail
    refine (HC2.out _ hT1).mono ?_
    rintro e w2 ⟨rfl, hb2⟩
    go_wp2_with fail
    go_ret
    exact ⟨rfl, below_then hT1 hb2⟩
end Go.Proofs.Ytocllmaikngoaaa
