/-
  The program's edges: contracts: IsValidEdge, SpansX.
-/
import Derived.Test.YtdcceppednngjabED
import Derived.Test.YtdcceppednngjabFreT
import Derived.Test.YtdcceppednngjabPI
import Derived.Deep.RegionHeld3
import Derived.Deep.CutRange
import Derived.Sort.AtCall
namespace Go.Proofs.Ytdcceppednngjab
open Go.RowKit
set_option linter.unusedVariables false
theorem impl_cqM (w : World) (B : Nat) (hB : B ≤ w.heap.size) {v0 v1 v2 : Value} {Z : RQ} (h : QIn w B v0 v1 v2 Z) (hz : ratQ Z = true) {u0 u1 u2 : Value} {Y : RQ} (h' : QIn w B u0 u1 u2 Y) (hy : ratQ Y = true) :
    Calls Try.prog 25 #[.agg #[v0, v1, v2], .agg #[u0, u1, u2]] w fun e w' => e = .returned (.int .i64 (cqR Z Y)) ∧ Below w.heap.size w w' := by
  have e : cqR Z Y = cmpW Z.1.1 Z.1.2 Z.2 Y.1.1 Y.1.2 Y.2 := by
    unfold cqR cmpR
    unfold ratQ at hz hy
    rw [hz, hy]; rfl
  rw [e]
  obtain ⟨A, n, c, D, m, k, rfl, rfl, rfl, r1, r2, _⟩ := h
  obtain ⟨A', n', c', D', m', k', rfl, rfl, rfl, r3, r4, _⟩ := h'
  exact impl_ratCompare w B hB _ A n c _ r1 D m k _ r2 hz _ A' n' c' _ r3 D' m' k' _ r4 hy
set_option maxHeartbeats 1600000 in
theorem impl_IsValidEdge (w : World) (a b c d k : Int) (l : Bool) (ha : (Lit.int .i64 a).wf = true) (hb : (Lit.int .i64 b).wf = true) (hc : (Lit.int .i64 c).wf = true) (hd : (Lit.int .i64 d).wf = true) :
    Calls Try.prog 10 #[.agg #[.int .i64 a, .int .i64 b, .int .i64 c, .int .i64 d, .int .i64 k, .bool l]] w fun e w' => e = .returned (.bool (edgeB a b c d)) ∧ Below w.heap.size w w' := by
  have HE : Hid (edgeB a b c d = ((vecB a b && vecB c d) && decide (a < c))) := rfl
  rw [HE.out]
  clear HE
  have H1 := hide (fun (W : World) => impl_IsValidVec W a b ha hb)
  have H2 := hide (fun (W : World) => impl_IsValidVec W c d hc hd)
  generalize vecB a b = V1 at *
  generalize vecB c d = V2 at *
  obtain ⟨W0, hW0⟩ : ∃ W0, W0 = w.alloc (.cells #[.int .i64 a, .int .i64 b, .int .i64 c, .int .i64 d, .int .i64 k, .bool l] 26) := ⟨_, rfl⟩
  have hT0 : Below w.heap.size w W0 := by rw [hW0]; exact below_new _ _
  have ke : Box W0 w.heap.size 26 #[.int .i64 a, .int .i64 b, .int .i64 c, .int .i64 d, .int .i64 k, .bool l] := by rw [hW0]; exact Box.last _ _ _ rfl
  go_enter Try.func10, Try.ntmps10
  go_upto_region 1 with fail
  rw [← hW0]
  clear hW0
  obtain ⟨y0, y1, y2, y3, y4, y5⟩ := ke.cells6
  go_wp2_with fail
  refine (H1.out _).mono ?_
  rintro e w1 ⟨rfl, hb1⟩
  clear y0 y1 y2 y3 y4 y5
  have ke := ke.below hb1 ke.lt
  have hT1 := below_then hT0 hb1
  obtain ⟨y0, y1, y2, y3, y4, y5⟩ := ke.cells6
  clear hb1 hT0
  cases V1 with
  | false =>
    go_wp2_with fail
    go_ret
    exact ⟨rfl, hT1⟩
  | true =>
    go_wp2_with fail
    refine (H2.out _).mono ?_
    rintro e w2 ⟨rfl, hb2⟩
    clear y0 y1 y2 y3 y4 y5
    have ke := ke.below hb2 ke.lt
    have hT2 := below_then hT1 hb2
    obtain ⟨y0, y1, y2, y3, y4, y5⟩ := ke.cells6
    clear hb2 hT1
    cases V2 with
    | false =>
      go_wp2_with fail
      go_ret
      exact ⟨rfl, hT2⟩
    | true =>
      go_wp2_with fail
      go_ret
      exact ⟨rfl, hT2⟩
set_option maxRecDepth 100000 in
set_option maxHeartbeats 6400000 in
theorem impl_SpansX (w : World) (B : Nat) (hB : B ≤ w.heap.size) (a b c d k : Int) (l : Bool) (ha : (Lit.int .i64 a).wf = true) (hb : (Lit.int .i64 b).wf = true) (hc : (Lit.int .i64 c).wf = true) (hd : (Lit.int .i64 d).wf = true) {p0 p1 p2 : Value} {Z : RQ} (h : QIn w B p0 p1 p2 Z) {q0 q1 q2 : Value} {Y : RQ} (h' : QIn w B q0 q1 q2 Y) :
    Calls Try.prog 11 #[.agg #[.int .i64 a, .int .i64 b, .int .i64 c, .int .i64 d, .int .i64 k, .bool l], .agg #[p0, p1, p2], .agg #[q0, q1, q2]] w fun e w' => e = .returned (.bool (spanB a b c d Z Y)) ∧ Below w.heap.size w w' := by
  have HE : Hid (spanB a b c d Z Y = (edgeB a b c d && (ratQ Z && (ratQ Y && (decide (cqR (intQ a) Z ≤ 0) && decide (cqR (intQ c) Y ≥ 0)))))) := rfl
  rw [HE.out]
  clear HE
  have HV := hide (fun (W : World) => impl_IsValidEdge W a b c d k l ha hb hc hd)
  have HI1 := hide (fun (W : World) => impl_intQ W a ha)
  have HI2 := hide (fun (W : World) => impl_intQ W c hc)
  have HZ := hide (fun (W : World) (hq : Below w.heap.size w W) => (h.below (hq.mono hB)).wider (Nat.le_trans hB hq.size))
  have HY := hide (fun (W : World) (hq : Below w.heap.size w W) => (h'.below (hq.mono hB)).wider (Nat.le_trans hB hq.size))
  have HO1 := hide (fun (W : World) (hq : Below w.heap.size w W) => impl_ratQ W W.heap.size (Nat.le_refl _) (HZ.out W hq))
  have HO2 := hide (fun (W : World) (hq : Below w.heap.size w W) => impl_ratQ W W.heap.size (Nat.le_refl _) (HY.out W hq))
  have HC1 := hide (fun (W : World) (hq : Below w.heap.size w W) (he : edgeB a b c d = true) (hz : ratQ Z = true) (x0 x1 x2 : Value) (r : QIn W W.heap.size x0 x1 x2 (intQ a)) => impl_cqM W W.heap.size (Nat.le_refl _) r (int_V (edge_iff.1 he).1.1).ok (HZ.out W hq) hz)
  have HC2 := hide (fun (W : World) (hq : Below w.heap.size w W) (he : edgeB a b c d = true) (hz : ratQ Y = true) (x0 x1 x2 : Value) (r : QIn W W.heap.size x0 x1 x2 (intQ c)) => impl_cqM W W.heap.size (Nat.le_refl _) r (int_V (edge_iff.1 he).2.1.1).ok (HY.out W hq) hz)
  obtain ⟨pb, pA, pn, pc, pD, pm, pk, rfl, rfl, rfl⟩ := h.cut
  obtain ⟨qb, qA, qn, qc, qD, qm, qk, rfl, rfl, rfl⟩ := h'.cut
  clear h h' hb hd HZ HY
  generalize cqR (intQ a) Z = X1 at *
  generalize cqR (intQ c) Y = X2 at *
  generalize edgeB a b c d = E1 at *
  generalize ratQ Z = E2 at *
  generalize ratQ Y = E3 at *
  clear ha hc
  obtain ⟨W0, hW0⟩ : ∃ W0, W0 = (((w.alloc (.cells #[.int .i64 a, .int .i64 b, .int .i64 c, .int .i64 d, .int .i64 k, .bool l] 26)).alloc (.cells #[.bool pb, .slice pA pn pc, .slice pD pm pk] 32)).alloc (.cells #[.bool qb, .slice qA qn qc, .slice qD qm qk] 32)) := ⟨_, rfl⟩
  have hT0 : Below w.heap.size w W0 := by rw [hW0]; exact below_alloc (below_alloc (below_new _ _) _) _
  have ke : Box W0 w.heap.size 26 #[.int .i64 a, .int .i64 b, .int .i64 c, .int .i64 d, .int .i64 k, .bool l] := by rw [hW0]; exact ((Box.last _ _ _ rfl).alloc _).alloc _
  have kp : Box W0 (w.heap.size + 1) 32 #[.bool pb, .slice pA pn pc, .slice pD pm pk] := by rw [hW0]; exact (Box.last _ _ _ (alloc_size _ _).symm).alloc _
  have kq : Box W0 (w.heap.size + 2) 32 #[.bool qb, .slice qA qn qc, .slice qD qm qk] := by rw [hW0]; exact Box.last _ _ _ (by rw [alloc_size, alloc_size])
  have HBe := hide ke
  have HBp := hide kp
  have HBq := hide kq
  have HT0 := hide hT0
  go_enter Try.func11, Try.ntmps11
  go_upto_region 1 with fail
  rw [← hW0]
  clear hW0 hT0 ke kp kq
  have HKS := hide (fun (W : World) (hq : Below W0.heap.size W0 W) => (⟨(HBe.out.below hq HBe.out.lt).cell 0, (HBe.out.below hq HBe.out.lt).cell 1, (HBe.out.below hq HBe.out.lt).cell 2, (HBe.out.below hq HBe.out.lt).cell 3, (HBe.out.below hq HBe.out.lt).cell 4, (HBe.out.below hq HBe.out.lt).cell 5, (HBp.out.below hq HBp.out.lt).cell 0, (HBp.out.below hq HBp.out.lt).cell 1, (HBp.out.below hq HBp.out.lt).cell 2, (HBq.out.below hq HBq.out.lt).cell 0, (HBq.out.below hq HBq.out.lt).cell 1, (HBq.out.below hq HBq.out.lt).cell 2⟩ : W.cell? ⟨w.heap.size, 0, none⟩ = some (.int .i64 a) ∧ W.cell? ⟨w.heap.size, 1, none⟩ = some (.int .i64 b) ∧ W.cell? ⟨w.heap.size, 2, none⟩ = some (.int .i64 c) ∧ W.cell? ⟨w.heap.size, 3, none⟩ = some (.int .i64 d) ∧ W.cell? ⟨w.heap.size, 4, none⟩ = some (.int .i64 k) ∧ W.cell? ⟨w.heap.size, 5, none⟩ = some (.bool l) ∧ W.cell? ⟨w.heap.size + 1, 0, none⟩ = some (.bool pb) ∧ W.cell? ⟨w.heap.size + 1, 1, none⟩ = some (.slice pA pn pc) ∧ W.cell? ⟨w.heap.size + 1, 2, none⟩ = some (.slice pD pm pk) ∧ W.cell? ⟨w.heap.size + 2, 0, none⟩ = some (.bool qb) ∧ W.cell? ⟨w.heap.size + 2, 1, none⟩ = some (.slice qA qn qc) ∧ W.cell? ⟨w.heap.size + 2, 2, none⟩ = some (.slice qD qm qk)))
  have HS0 : Hid (Below W0.heap.size W0 W0) := Below.refl _ _
  obtain ⟨ye0, ye1, ye2, ye3, ye4, ye5, yp0, yp1, yp2, yq0, yq1, yq2⟩ := HKS.out W0 HS0.out
  cases E1 with
  | false =>
    go_wp2_with fail
    have HX := HS0.out
    refine (HV.out _).mono ?_
    rintro e u1 ⟨rfl, hb1⟩
    have HS1 := hide (below_then HX hb1)
    clear HX
    clear ye0 ye1 ye2 ye3 ye4 ye5 yp0 yp1 yp2 yq0 yq1 yq2
    obtain ⟨ye0, ye1, ye2, ye3, ye4, ye5, yp0, yp1, yp2, yq0, yq1, yq2⟩ := HKS.out u1 HS1.out
    have hf := below_then HT0.out HS1.out
    go_wp2_with fail
    go_ret
    exact ⟨rfl, hf⟩
  | true =>
    go_wp2_with fail
    have HX := HS0.out
    refine (HV.out _).mono ?_
    rintro e u1 ⟨rfl, hb1⟩
    have HS1 := hide (below_then HX hb1)
    clear HX
    clear ye0 ye1 ye2 ye3 ye4 ye5 yp0 yp1 yp2 yq0 yq1 yq2
    obtain ⟨ye0, ye1, ye2, ye3, ye4, ye5, yp0, yp1, yp2, yq0, yq1, yq2⟩ := HKS.out u1 HS1.out
    cases E2 with
    | false =>
      go_wp2_with fail
      have HX := HS1.out
      refine (HO1.out _ (below_then HT0.out HX)).mono ?_
      rintro e u2 ⟨rfl, hb2⟩
      have HS2 := hide (below_then HX hb2)
      clear HX
      clear ye0 ye1 ye2 ye3 ye4 ye5 yp0 yp1 yp2 yq0 yq1 yq2
      obtain ⟨ye0, ye1, ye2, ye3, ye4, ye5, yp0, yp1, yp2, yq0, yq1, yq2⟩ := HKS.out u2 HS2.out
      have hf := below_then HT0.out HS2.out
      go_wp2_with fail
      go_ret
      exact ⟨rfl, hf⟩
    | true =>
      go_wp2_with fail
      have HX := HS1.out
      refine (HO1.out _ (below_then HT0.out HX)).mono ?_
      rintro e u2 ⟨rfl, hb2⟩
      have HS2 := hide (below_then HX hb2)
      clear HX
      clear ye0 ye1 ye2 ye3 ye4 ye5 yp0 yp1 yp2 yq0 yq1 yq2
      obtain ⟨ye0, ye1, ye2, ye3, ye4, ye5, yp0, yp1, yp2, yq0, yq1, yq2⟩ := HKS.out u2 HS2.out
      cases E3 with
      | false =>
        go_wp2_with fail
        have HX := HS2.out
        refine (HO2.out _ (below_then HT0.out HX)).mono ?_
        rintro e u3 ⟨rfl, hb3⟩
        have HS3 := hide (below_then HX hb3)
        clear HX
        clear ye0 ye1 ye2 ye3 ye4 ye5 yp0 yp1 yp2 yq0 yq1 yq2
        obtain ⟨ye0, ye1, ye2, ye3, ye4, ye5, yp0, yp1, yp2, yq0, yq1, yq2⟩ := HKS.out u3 HS3.out
        have hf := below_then HT0.out HS3.out
        go_wp2_with fail
        go_ret
        exact ⟨rfl, hf⟩
      | true =>
        go_wp2_with fail
        have HX := HS2.out
        refine (HO2.out _ (below_then HT0.out HX)).mono ?_
        rintro e u3 ⟨rfl, hb3⟩
        have HS3 := hide (below_then HX hb3)
        clear HX
        clear ye0 ye1 ye2 ye3 ye4 ye5 yp0 yp1 yp2 yq0 yq1 yq2
        obtain ⟨ye0, ye1, ye2, ye3, ye4, ye5, yp0, yp1, yp2, yq0, yq1, yq2⟩ := HKS.out u3 HS3.out
        go_upto_region 3 with fail
        have hG := HS3.out
        have HS4 : Hid (Below W0.heap.size W0 u3.drew) := hG.drew
        clear hG
        by_cases c1 : X1 ≤ 0
        · have hd1 : decide (X1 ≤ 0) = true := decide_eq_true c1
          refine wp_region_held_drew (S := (fun w' => w'.cell? ⟨w.heap.size, 0, none⟩ = some (.int .i64 a) ∧ w'.cell? ⟨w.heap.size, 1, none⟩ = some (.int .i64 b) ∧ w'.cell? ⟨w.heap.size, 2, none⟩ = some (.int .i64 c) ∧ w'.cell? ⟨w.heap.size, 3, none⟩ = some (.int .i64 d) ∧ w'.cell? ⟨w.heap.size, 4, none⟩ = some (.int .i64 k) ∧ w'.cell? ⟨w.heap.size, 5, none⟩ = some (.bool l) ∧ w'.cell? ⟨w.heap.size + 1, 0, none⟩ = some (.bool pb) ∧ w'.cell? ⟨w.heap.size + 1, 1, none⟩ = some (.slice pA pn pc) ∧ w'.cell? ⟨w.heap.size + 1, 2, none⟩ = some (.slice pD pm pk) ∧ w'.cell? ⟨w.heap.size + 2, 0, none⟩ = some (.bool qb) ∧ w'.cell? ⟨w.heap.size + 2, 1, none⟩ = some (.slice qA qn qc) ∧ w'.cell? ⟨w.heap.size + 2, 2, none⟩ = some (.slice qD qm qk))) (by kernel_rfl) (HKS.out _ HS4.out) (fun hHeld => ?_)
          show wpAnyH _ _ _ _ _ 17 _ _ _
          refine takeTF (i := 0) (t := 20) (v := ?_) rfl (by kernel_rfl) (by kernel_rfl) (by kernel_rfl) (fun _ _ _ h => h) rfl (by rfl) ?_ hHeld ?_
          rotate_left 1
          · intro w hSw; (try dsimp only at hSw); go_simp; with_reducible rfl
          simp only [List.setIfInBounds_toArray, List.set_cons_zero, List.set_cons_succ]
          refine takeTF (i := 1) (t := 21) (v := ?_) rfl (by kernel_rfl) (by kernel_rfl) (by kernel_rfl) (fun _ _ _ h => h) rfl (by rfl) ?_ hHeld ?_
          rotate_left 1
          · intro w hSw; (try dsimp only at hSw); go_simp; with_reducible rfl
          simp only [List.setIfInBounds_toArray, List.set_cons_zero, List.set_cons_succ]
          refine takeTF (i := 2) (t := 22) (v := ?_) rfl (by kernel_rfl) (by kernel_rfl) (by kernel_rfl) (fun _ _ _ h => h) rfl (by rfl) ?_ hHeld ?_
          rotate_left 1
          · intro w hSw; (try dsimp only at hSw); go_simp; with_reducible rfl
          simp only [List.setIfInBounds_toArray, List.set_cons_zero, List.set_cons_succ]
          refine takeTF (i := 4) (t := 24) (v := ?_) rfl (by kernel_rfl) (by kernel_rfl) (by kernel_rfl) (fun _ _ _ h => h) rfl (by rfl) ?_ hHeld ?_
          rotate_left 1
          · intro w hSw; (try dsimp only at hSw); go_simp; with_reducible rfl
          simp only [List.setIfInBounds_toArray, List.set_cons_zero, List.set_cons_succ]
          refine wpAnyH_ready (rs := [3]) (by kernel_rfl) (by simp) ?_
          refine AllReadyH.cons rfl (fun K hK => ?_) AllReadyH.nil
          simp only [List.getElem_toArray, List.getElem_cons_succ, List.getElem_cons_zero]
          go_simp
          (have HX := HS4.out; refine (HI1.out _).mono ?_; rintro e u5 ⟨g0, g1, g2, rfl, og, hb5⟩; obtain ⟨gb, gA, gn, gc, gD, gm, gk, rfl, rfl, rfl⟩ := og.cut; have qg := og.in_ (intQ_fit _) (Nat.le_refl _); have HS5 := hide (below_then HX hb5); clear HX)
          go_wp2_with fail
          refine hK.out _ _ (HKS.out _ HS5.out) (fun hHeld => ?_)
          clear hK K
          refine wpAnyH_ready (rs := [5]) (by kernel_rfl) (by simp) ?_
          refine AllReadyH.cons rfl (fun K hK => ?_) AllReadyH.nil
          simp only [List.getElem_toArray, List.getElem_cons_succ, List.getElem_cons_zero]
          go_simp
          (have HX := HS5.out; refine (HC1.out _ (below_then HT0.out HX) (by trivial) (by trivial) _ _ _ qg).mono ?_; rintro e u6 ⟨rfl, hb6⟩; have HS6 := hide (below_then HX hb6); clear HX)
          go_wp2_with fail
          refine hK.out _ _ (HKS.out _ HS6.out) (fun hHeld => ?_)
          clear hK K
          refine takeTF (i := 6) (t := 26) (v := ?_) rfl (by kernel_rfl) (by kernel_rfl) (by kernel_rfl) (fun _ _ _ h => h) rfl (by rfl) ?_ hHeld ?_
          rotate_left 1
          · intro w hSw; (try dsimp only at hSw); go_simp; with_reducible rfl
          simp only [List.setIfInBounds_toArray, List.set_cons_zero, List.set_cons_succ]
          refine takeTF (i := 7) (t := 27) (v := ?_) rfl (by kernel_rfl) (by kernel_rfl) (by kernel_rfl) (fun _ _ _ h => h) rfl (by rfl) ?_ hHeld ?_
          rotate_left 1
          · intro w hSw; (try dsimp only at hSw); go_simp; with_reducible rfl
          simp only [List.setIfInBounds_toArray, List.set_cons_zero, List.set_cons_succ]
          refine takeTF (i := 8) (t := 28) (v := ?_) rfl (by kernel_rfl) (by kernel_rfl) (by kernel_rfl) (fun _ _ _ h => h) rfl (by rfl) ?_ hHeld ?_
          rotate_left 1
          · intro w hSw; (try dsimp only at hSw); go_simp; with_reducible rfl
          simp only [List.setIfInBounds_toArray, List.set_cons_zero, List.set_cons_succ]
          refine takeTF (i := 9) (t := 29) (v := ?_) rfl (by kernel_rfl) (by kernel_rfl) (by kernel_rfl) (fun _ _ _ h => h) rfl (by rfl) ?_ hHeld ?_
          rotate_left 1
          · intro w hSw; (try dsimp only at hSw); go_simp; with_reducible rfl
          simp only [List.setIfInBounds_toArray, List.set_cons_zero, List.set_cons_succ]
          refine takeTF (i := 10) (t := 30) (v := ?_) rfl (by kernel_rfl) (by kernel_rfl) (by kernel_rfl) (fun _ _ _ h => h) rfl (by rfl) ?_ hHeld ?_
          rotate_left 1
          · intro w hSw; (try dsimp only at hSw); go_simp; with_reducible rfl
          simp only [List.setIfInBounds_toArray, List.set_cons_zero, List.set_cons_succ]
          refine takeTF (i := 12) (t := 32) (v := ?_) rfl (by kernel_rfl) (by kernel_rfl) (by kernel_rfl) (fun _ _ _ h => h) rfl (by rfl) ?_ hHeld ?_
          rotate_left 1
          · intro w hSw; (try dsimp only at hSw); go_simp; with_reducible rfl
          simp only [List.setIfInBounds_toArray, List.set_cons_zero, List.set_cons_succ]
          refine wpAnyH_ready (rs := [11]) (by kernel_rfl) (by simp) ?_
          refine AllReadyH.cons rfl (fun K hK => ?_) AllReadyH.nil
          simp only [List.getElem_toArray, List.getElem_cons_succ, List.getElem_cons_zero]
          go_simp
          (have HX := HS6.out; refine (HI2.out _).mono ?_; rintro e u7 ⟨h0, h1, h2, rfl, oh, hb7⟩; obtain ⟨hb, hA, hn, hc, hD, hm, hk, rfl, rfl, rfl⟩ := oh.cut; have qh := oh.in_ (intQ_fit _) (Nat.le_refl _); have HS7 := hide (below_then HX hb7); clear HX)
          go_wp2_with fail
          refine hK.out _ _ (HKS.out _ HS7.out) (fun hHeld => ?_)
          clear hK K
          refine wpAnyH_ready (rs := [13]) (by kernel_rfl) (by simp) ?_
          refine AllReadyH.cons rfl (fun K hK => ?_) AllReadyH.nil
          simp only [List.getElem_toArray, List.getElem_cons_succ, List.getElem_cons_zero]
          go_simp
          (have HX := HS7.out; refine (HC2.out _ (below_then HT0.out HX) (by trivial) (by trivial) _ _ _ qh).mono ?_; rintro e u8 ⟨rfl, hb8⟩; have HS8 := hide (below_then HX hb8); clear HX)
          go_wp2_with fail
          refine hK.out _ _ (HKS.out _ HS8.out) (fun hHeld => ?_)
          clear hK K
          refine takeTF (i := 14) (t := 34) (v := ?_) rfl (by kernel_rfl) (by kernel_rfl) (by kernel_rfl) (fun _ _ _ h => h) rfl (by rfl) ?_ hHeld ?_
          rotate_left 1
          · intro w hSw; (try dsimp only at hSw); go_simp; with_reducible rfl
          simp only [List.setIfInBounds_toArray, List.set_cons_zero, List.set_cons_succ]
          refine takeTF (i := 15) (t := 35) (v := ?_) rfl (by kernel_rfl) (by kernel_rfl) (by kernel_rfl) (fun _ _ _ h => h) rfl (by rfl) ?_ hHeld ?_
          rotate_left 1
          · intro w hSw; (try dsimp only at hSw); go_simp; with_reducible rfl
          simp only [List.setIfInBounds_toArray, List.set_cons_zero, List.set_cons_succ]
          refine takeTF (i := 16) (t := 6) (v := ?_) rfl (by kernel_rfl) (by kernel_rfl) (by kernel_rfl) (fun _ _ _ h => h) rfl (by rfl) ?_ hHeld ?_
          rotate_left 1
          · intro w hSw; (try dsimp only at hSw); go_simp; with_reducible rfl
          simp only [List.setIfInBounds_toArray, List.set_cons_zero, List.set_cons_succ]
          refine wpAnyH_done (by kernel_rfl) ?_ _
          have hf := below_then HT0.out HS8.out
          go_wp2_with fail
          go_ret
          exact ⟨by rw [hd1]; try rfl, hf⟩
        · have hd1 : decide (X1 ≤ 0) = false := decide_eq_false c1
          have h1' : (X1 ≤ 0) = False := eq_false c1
          refine wp_region_held_drew (S := (fun w' => w'.cell? ⟨w.heap.size, 0, none⟩ = some (.int .i64 a) ∧ w'.cell? ⟨w.heap.size, 1, none⟩ = some (.int .i64 b) ∧ w'.cell? ⟨w.heap.size, 2, none⟩ = some (.int .i64 c) ∧ w'.cell? ⟨w.heap.size, 3, none⟩ = some (.int .i64 d) ∧ w'.cell? ⟨w.heap.size, 4, none⟩ = some (.int .i64 k) ∧ w'.cell? ⟨w.heap.size, 5, none⟩ = some (.bool l) ∧ w'.cell? ⟨w.heap.size + 1, 0, none⟩ = some (.bool pb) ∧ w'.cell? ⟨w.heap.size + 1, 1, none⟩ = some (.slice pA pn pc) ∧ w'.cell? ⟨w.heap.size + 1, 2, none⟩ = some (.slice pD pm pk) ∧ w'.cell? ⟨w.heap.size + 2, 0, none⟩ = some (.bool qb) ∧ w'.cell? ⟨w.heap.size + 2, 1, none⟩ = some (.slice qA qn qc) ∧ w'.cell? ⟨w.heap.size + 2, 2, none⟩ = some (.slice qD qm qk))) (by kernel_rfl) (HKS.out _ HS4.out) (fun hHeld => ?_)
          show wpAnyH _ _ _ _ _ 17 _ _ _
          refine takeTF (i := 0) (t := 20) (v := ?_) rfl (by kernel_rfl) (by kernel_rfl) (by kernel_rfl) (fun _ _ _ h => h) rfl (by rfl) ?_ hHeld ?_
          rotate_left 1
          · intro w hSw; (try dsimp only at hSw); go_simp; with_reducible rfl
          simp only [List.setIfInBounds_toArray, List.set_cons_zero, List.set_cons_succ]
          refine takeTF (i := 1) (t := 21) (v := ?_) rfl (by kernel_rfl) (by kernel_rfl) (by kernel_rfl) (fun _ _ _ h => h) rfl (by rfl) ?_ hHeld ?_
          rotate_left 1
          · intro w hSw; (try dsimp only at hSw); go_simp; with_reducible rfl
          simp only [List.setIfInBounds_toArray, List.set_cons_zero, List.set_cons_succ]
          refine takeTF (i := 2) (t := 22) (v := ?_) rfl (by kernel_rfl) (by kernel_rfl) (by kernel_rfl) (fun _ _ _ h => h) rfl (by rfl) ?_ hHeld ?_
          rotate_left 1
          · intro w hSw; (try dsimp only at hSw); go_simp; with_reducible rfl
          simp only [List.setIfInBounds_toArray, List.set_cons_zero, List.set_cons_succ]
          refine takeTF (i := 4) (t := 24) (v := ?_) rfl (by kernel_rfl) (by kernel_rfl) (by kernel_rfl) (fun _ _ _ h => h) rfl (by rfl) ?_ hHeld ?_
          rotate_left 1
          · intro w hSw; (try dsimp only at hSw); go_simp; with_reducible rfl
          simp only [List.setIfInBounds_toArray, List.set_cons_zero, List.set_cons_succ]
          refine wpAnyH_ready (rs := [3]) (by kernel_rfl) (by simp) ?_
          refine AllReadyH.cons rfl (fun K hK => ?_) AllReadyH.nil
          simp only [List.getElem_toArray, List.getElem_cons_succ, List.getElem_cons_zero]
          go_simp
          (have HX := HS4.out; refine (HI1.out _).mono ?_; rintro e u5 ⟨g0, g1, g2, rfl, og, hb5⟩; obtain ⟨gb, gA, gn, gc, gD, gm, gk, rfl, rfl, rfl⟩ := og.cut; have qg := og.in_ (intQ_fit _) (Nat.le_refl _); have HS5 := hide (below_then HX hb5); clear HX)
          go_wp2_with fail
          refine hK.out _ _ (HKS.out _ HS5.out) (fun hHeld => ?_)
          clear hK K
          refine wpAnyH_ready (rs := [5]) (by kernel_rfl) (by simp) ?_
          refine AllReadyH.cons rfl (fun K hK => ?_) AllReadyH.nil
          simp only [List.getElem_toArray, List.getElem_cons_succ, List.getElem_cons_zero]
          go_simp
          (have HX := HS5.out; refine (HC1.out _ (below_then HT0.out HX) (by trivial) (by trivial) _ _ _ qg).mono ?_; rintro e u6 ⟨rfl, hb6⟩; have HS6 := hide (below_then HX hb6); clear HX)
          go_wp2_with fail
          refine hK.out _ _ (HKS.out _ HS6.out) (fun hHeld => ?_)
          clear hK K
          refine takeTF (i := 6) (t := 26) (v := ?_) rfl (by kernel_rfl) (by kernel_rfl) (by kernel_rfl) (fun _ _ _ h => h) rfl (by rfl) ?_ hHeld ?_
          rotate_left 1
          · intro w hSw; (try dsimp only at hSw); go_simp; with_reducible rfl
          simp only [List.setIfInBounds_toArray, List.set_cons_zero, List.set_cons_succ]
          refine takeTF (i := 7) (t := 27) (v := ?_) rfl (by kernel_rfl) (by kernel_rfl) (by kernel_rfl) (fun _ _ _ h => h) rfl (by rfl) ?_ hHeld ?_
          rotate_left 1
          · intro w hSw; (try dsimp only at hSw); go_simp; with_reducible rfl
          simp only [List.setIfInBounds_toArray, List.set_cons_zero, List.set_cons_succ]
          refine skipTF (i := 8) (t := 28) rfl (by kernel_rfl) (by kernel_rfl) (by kernel_rfl) (fun _ _ _ h => h) rfl (by rfl) hHeld ?_
          simp only [List.setIfInBounds_toArray, List.set_cons_zero, List.set_cons_succ]
          refine skipTF (i := 9) (t := 29) rfl (by kernel_rfl) (by kernel_rfl) (by kernel_rfl) (fun _ _ _ h => h) rfl (by rfl) hHeld ?_
          simp only [List.setIfInBounds_toArray, List.set_cons_zero, List.set_cons_succ]
          refine skipTF (i := 10) (t := 30) rfl (by kernel_rfl) (by kernel_rfl) (by kernel_rfl) (fun _ _ _ h => h) rfl (by rfl) hHeld ?_
          simp only [List.setIfInBounds_toArray, List.set_cons_zero, List.set_cons_succ]
          refine skipTF (i := 12) (t := 32) rfl (by kernel_rfl) (by kernel_rfl) (by kernel_rfl) (fun _ _ _ h => h) rfl (by rfl) hHeld ?_
          simp only [List.setIfInBounds_toArray, List.set_cons_zero, List.set_cons_succ]
          refine skipCF (i := 11) (t := 31) (by kernel_rfl) rfl rfl (by rfl) hHeld ?_
          simp only [List.setIfInBounds_toArray, List.set_cons_zero, List.set_cons_succ]
          refine skipCF (i := 13) (t := 33) (by kernel_rfl) rfl rfl (by rfl) hHeld ?_
          simp only [List.setIfInBounds_toArray, List.set_cons_zero, List.set_cons_succ]
          refine skipTF (i := 14) (t := 34) rfl (by kernel_rfl) (by kernel_rfl) (by kernel_rfl) (fun _ _ _ h => h) rfl (by rfl) hHeld ?_
          simp only [List.setIfInBounds_toArray, List.set_cons_zero, List.set_cons_succ]
          refine takeTF (i := 15) (t := 35) (v := ?_) rfl (by kernel_rfl) (by kernel_rfl) (by kernel_rfl) (fun _ _ _ h => h) rfl (by rfl) ?_ hHeld ?_
          rotate_left 1
          · intro w hSw; (try dsimp only at hSw); go_simp; with_reducible rfl
          simp only [List.setIfInBounds_toArray, List.set_cons_zero, List.set_cons_succ]
          refine takeTF (i := 16) (t := 6) (v := ?_) rfl (by kernel_rfl) (by kernel_rfl) (by kernel_rfl) (fun _ _ _ h => h) rfl (by rfl) ?_ hHeld ?_
          rotate_left 1
          · intro w hSw; (try dsimp only at hSw); go_simp; with_reducible rfl
          simp only [List.setIfInBounds_toArray, List.set_cons_zero, List.set_cons_succ]
          refine wpAnyH_done (by kernel_rfl) ?_ _
          have hf := below_then HT0.out HS6.out
          go_wp2_with fail
          go_ret
          exact ⟨by rw [hd1]; try rfl, hf⟩
end Go.Proofs.Ytdcceppednngjab
