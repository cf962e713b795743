/-
  The texts PtI3, PtI4, put together; each has its own heading below. No condition of ours.
-/
import Derived.Test.YtcpncoonbdbkmaaGreatPI
import Derived.Deep.RegionHeld3
import Derived.Deep.CutRange
import Derived.Sort.AtCall
/-
  The program's points: contracts (3): differences, Side, SquareDistance.
-/




namespace Go.Proofs.YtcpncoonbdbkmaaGreat
open Go.RowKit
set_option linter.unusedVariables false
theorem results_cell_cell {P : Program} {fn : Func} {p q : Tmp} {ty : TypeId} (h : fn.results = #[.cell p ty, .cell q ty]) (tmps : Array Value) (w : World) (g g' : Nat) (t t' : TypeId) (cs cs' : Array Value) (fr fr' : Nat × Nat) (d : TypeDesc)
    (hp : tmps.getD p undef = .pointer (some ⟨g, 0, none⟩)) (hg : w.heap[g]? = some (.cells cs t fr)) (hq : tmps.getD q undef = .pointer (some ⟨g', 0, none⟩)) (hg' : w.heap[g']? = some (.cells cs' t' fr'))
    (hu : P.underlying ty = some d) (hd : (match d with | .struct _ | .array _ _ => true | _ => false) = true) (hi : (P.info? ty).map (·.size) = some cs.size) (hi' : (P.info? ty).map (·.size) = some cs'.size) :
    (results fn tmps).run P w = .ok (.tuple #[.agg cs, .agg cs']) w := by
  have hp' : tmps[p]?.getD undef = .pointer (some ⟨g, 0, none⟩) := by simpa using hp
  have hq' : tmps[q]?.getD undef = .pointer (some ⟨g', 0, none⟩) := by simpa using hq
  simp [results, h, hp', hq', asAddr, run_loadVar_row w g t ty cs fr d hg hu hd hi, run_loadVar_row w g' t' ty cs' fr' d hg' hu hd hi']
end Go.Proofs.YtcpncoonbdbkmaaGreat

/-
  The program's points: contracts (4): validPoint, MovePoint.
-/




namespace Go.Proofs.YtcpncoonbdbkmaaGreat
open Go.RowKit
set_option linter.unusedVariables false
set_option maxRecDepth 100000 in
set_option maxHeartbeats 1600000 in
theorem impl_validPoint (w : World) (lo hi : Nat) {x0 x1 x2 y0 y1 y2 : Value} {P : PQ} (o : POwn w lo hi 3 x0 x1 x2 y0 y1 y2 P) (hf : PFit P) (hl : lo ≤ hi) (hh : hi ≤ w.heap.size) :
    Calls Tryz.prog 34 #[.agg #[x0, x1, x2], .agg #[y0, y1, y2]] w fun e w' => ∃ v0 v1 v2 v3 v4 v5, e = .returned (.agg #[v0, v1, v2, v3, v4, v5]) ∧ POwn w' lo hi 3 v0 v1 v2 v3 v4 v5 (sureP P) ∧ Below w.heap.size w w' := by
  obtain ⟨xb, xA, xn, xc, xD, xm, xk, yb, yA, yn, yc, yD, ym, yk, rfl, rfl, rfl, rfl, rfl, rfl⟩ := o.cut
  have hB : w.heap.size ≤ w.heap.size := Nat.le_refl _
  have HSV : Hid (sureP P = if ratQ P.1 && ratQ P.2 then P else (noR, noR)) := rfl
  generalize sureP P = SP at HSV ⊢
  obtain ⟨W0, hW0⟩ : ∃ W0, W0 = (((w.alloc (.cells #[.bool xb, .slice xA xn xc, .slice xD xm xk] 27)).alloc (.cells #[.bool yb, .slice yA yn yc, .slice yD ym yk] 27)).alloc (.cells #[.bool false, .slice none 0 0, .slice none 0 0, .bool false, .slice none 0 0, .slice none 0 0] 29)) := ⟨_, rfl⟩
  have hT0 : Below w.heap.size w W0 := by rw [hW0]; exact below_alloc (below_alloc (below_new _ _) _) _
  have kx : Box W0 (w.heap.size) 27 #[.bool xb, .slice xA xn xc, .slice xD xm xk] := by rw [hW0]; exact ((Box.last _ _ _ rfl).alloc _).alloc _
  have ky : Box W0 (w.heap.size + 1) 27 #[.bool yb, .slice yA yn yc, .slice yD ym yk] := by rw [hW0]; exact (Box.last _ _ _ (alloc_size _ _).symm).alloc _
  have kr : Box W0 (w.heap.size + 2) 29 #[.bool false, .slice none 0 0, .slice none 0 0, .bool false, .slice none 0 0, .slice none 0 0] := by rw [hW0]; exact Box.last _ _ _ (by rw [alloc_size, alloc_size])
  have hs0 : W0.heap.size = w.heap.size + 3 := by rw [hW0, alloc_size, alloc_size, alloc_size]
  have o := o.below hT0 hh
  go_enter Tryz.func34, Tryz.ntmps34
  go_upto_region 1 with fail
  rw [← hW0]
  clear hW0
  obtain ⟨yx0, yx1, yx2⟩ := kx.cells3
  obtain ⟨yy0, yy1, yy2⟩ := ky.cells3
  obtain ⟨w1, hw1⟩ : ∃ x, x = (W0.alloc (.cells #[.bool xb, .slice xA xn xc, .slice xD xm xk, .bool yb, .slice yA yn yc, .slice yD ym yk] 29)) := ⟨_, rfl⟩
  have hb1 : Below W0.heap.size W0 w1 := by rw [hw1]; exact below_new _ _
  have hq1 : w1.heap.size = W0.heap.size + 1 := by rw [hw1, alloc_size]
  have kv : Box w1 (w.heap.size + 3) 29 #[.bool xb, .slice xA xn xc, .slice xD xm xk, .bool yb, .slice yA yn yc, .slice yD ym yk] := by rw [hw1]; exact Box.last _ _ _ (by omega)
  have hs1 := hb1.size
  have hT1 := below_then hT0 hb1
  have kx := kx.below hb1 kx.lt
  have ky := ky.below hb1 ky.lt
  have kr := kr.below hb1 kr.lt
  clear hT0
  go_upto_region 2 with fail
  rw [← hw1]
  clear hw1
  clear yx0 yx1 yx2 yy0 yy1 yy2
  have o := o.below hb1 (by omega)
  clear hb1
  have hI : PIn w1 w1.heap.size (.bool xb) (.slice xA xn xc) (.slice xD xm xk) (.bool yb) (.slice yA yn yc) (.slice yD ym yk) P := o.in_ hf (by omega)
  obtain ⟨yv0, yv1, yv2, yv3, yv4, yv5⟩ := kv.cells6
  go_wp2_with fail
  refine (impl_IsValidPoint w1 w1.heap.size (Nat.le_refl _) hI).mono ?_
  rintro e w2 ⟨rfl, hb2⟩
  clear yv0 yv1 yv2 yv3 yv4 yv5
  clear hI
  have hs2 := hb2.size
  have hT2 := below_then hT1 hb2
  have kx := kx.below hb2 kx.lt
  have ky := ky.below hb2 ky.lt
  have kr := kr.below hb2 kr.lt
  have kv := kv.below hb2 kv.lt
  clear hT1
  have o := o.below hb2 (by omega)
  clear hb2
  by_cases hv : (ratQ P.1 && ratQ P.2) = true
  · rw [hv]
    have hz : SP = P := by rw [HSV.out, hv]; rfl
    subst hz
    obtain ⟨⟨yr0, yr1, yr2, yr3, yr4, yr5⟩, zr0, zr1, zr2, zr3, zr4, zr5⟩ := kr.facts6
    obtain ⟨yv0, yv1, yv2, yv3, yv4, yv5⟩ := kv.cells6
    clear HSV hv
    have HO := hide (⟨((((((kr.set 0 _).set 1 _).set 2 _).set 3 _).set 4 _).set 5 _), ((((((o.setv (.inr (by omega)) 0 _).setv (.inr (by omega)) 1 _).setv (.inr (by omega)) 2 _).setv (.inr (by omega)) 3 _).setv (.inr (by omega)) 4 _).setv (.inr (by omega)) 5 _), ((((((hT2.setCell (p := ⟨w.heap.size + 2, 0, none⟩) (show w.heap.size ≤ w.heap.size + 2 by omega) _).setCell (p := ⟨w.heap.size + 2, 1, none⟩) (show w.heap.size ≤ w.heap.size + 2 by omega) _).setCell (p := ⟨w.heap.size + 2, 2, none⟩) (show w.heap.size ≤ w.heap.size + 2 by omega) _).setCell (p := ⟨w.heap.size + 2, 3, none⟩) (show w.heap.size ≤ w.heap.size + 2 by omega) _).setCell (p := ⟨w.heap.size + 2, 4, none⟩) (show w.heap.size ≤ w.heap.size + 2 by omega) _).setCell (p := ⟨w.heap.size + 2, 5, none⟩) (show w.heap.size ≤ w.heap.size + 2 by omega) _)⟩ : Box ((((((w2.setCell ⟨w.heap.size + 2, 0, none⟩ (.bool xb)).setCell ⟨w.heap.size + 2, 1, none⟩ (.slice xA xn xc)).setCell ⟨w.heap.size + 2, 2, none⟩ (.slice xD xm xk)).setCell ⟨w.heap.size + 2, 3, none⟩ (.bool yb)).setCell ⟨w.heap.size + 2, 4, none⟩ (.slice yA yn yc)).setCell ⟨w.heap.size + 2, 5, none⟩ (.slice yD ym yk)) (w.heap.size + 2) 29 #[.bool xb, .slice xA xn xc, .slice xD xm xk, .bool yb, .slice yA yn yc, .slice yD ym yk] ∧ POwn ((((((w2.setCell ⟨w.heap.size + 2, 0, none⟩ (.bool xb)).setCell ⟨w.heap.size + 2, 1, none⟩ (.slice xA xn xc)).setCell ⟨w.heap.size + 2, 2, none⟩ (.slice xD xm xk)).setCell ⟨w.heap.size + 2, 3, none⟩ (.bool yb)).setCell ⟨w.heap.size + 2, 4, none⟩ (.slice yA yn yc)).setCell ⟨w.heap.size + 2, 5, none⟩ (.slice yD ym yk)) lo hi 3 (.bool xb) (.slice xA xn xc) (.slice xD xm xk) (.bool yb) (.slice yA yn yc) (.slice yD ym yk) SP ∧ Below w.heap.size w ((((((w2.setCell ⟨w.heap.size + 2, 0, none⟩ (.bool xb)).setCell ⟨w.heap.size + 2, 1, none⟩ (.slice xA xn xc)).setCell ⟨w.heap.size + 2, 2, none⟩ (.slice xD xm xk)).setCell ⟨w.heap.size + 2, 3, none⟩ (.bool yb)).setCell ⟨w.heap.size + 2, 4, none⟩ (.slice yA yn yc)).setCell ⟨w.heap.size + 2, 5, none⟩ (.slice yD ym yk)))
    clear o hf
    go_wp2_with fail
    refine bodyPost_ret (results_cell_row rfl _ _ (w.heap.size + 2) _ #[.bool xb, .slice xA xn xc, .slice xD xm xk, .bool yb, .slice yA yn yc, .slice yD ym yk] (0, 0) _ rfl HO.out.1 Tryz.underlying29 rfl Tryz.sizePoint) rfl ?_
    exact ⟨_, _, _, _, _, _, rfl, HO.out.2.1, HO.out.2.2⟩
  · have hv : (ratQ P.1 && ratQ P.2) = false := by simpa using hv
    rw [hv]
    have hz : SP = (noR, noR) := by rw [HSV.out, hv]; rfl
    subst hz
    have oz := POwn.zero w2 lo hi 3 hl
    obtain ⟨⟨yr0, yr1, yr2, yr3, yr4, yr5⟩, zr0, zr1, zr2, zr3, zr4, zr5⟩ := kr.facts6
    clear HSV hv
    have HO := hide (⟨((((((kr.set 0 _).set 1 _).set 2 _).set 3 _).set 4 _).set 5 _), ((((((oz.setv (.inr (by omega)) 0 _).setv (.inr (by omega)) 1 _).setv (.inr (by omega)) 2 _).setv (.inr (by omega)) 3 _).setv (.inr (by omega)) 4 _).setv (.inr (by omega)) 5 _), ((((((hT2.setCell (p := ⟨w.heap.size + 2, 0, none⟩) (show w.heap.size ≤ w.heap.size + 2 by omega) _).setCell (p := ⟨w.heap.size + 2, 1, none⟩) (show w.heap.size ≤ w.heap.size + 2 by omega) _).setCell (p := ⟨w.heap.size + 2, 2, none⟩) (show w.heap.size ≤ w.heap.size + 2 by omega) _).setCell (p := ⟨w.heap.size + 2, 3, none⟩) (show w.heap.size ≤ w.heap.size + 2 by omega) _).setCell (p := ⟨w.heap.size + 2, 4, none⟩) (show w.heap.size ≤ w.heap.size + 2 by omega) _).setCell (p := ⟨w.heap.size + 2, 5, none⟩) (show w.heap.size ≤ w.heap.size + 2 by omega) _)⟩ : Box ((((((w2.setCell ⟨w.heap.size + 2, 0, none⟩ (.bool false)).setCell ⟨w.heap.size + 2, 1, none⟩ (.slice none 0 0)).setCell ⟨w.heap.size + 2, 2, none⟩ (.slice none 0 0)).setCell ⟨w.heap.size + 2, 3, none⟩ (.bool false)).setCell ⟨w.heap.size + 2, 4, none⟩ (.slice none 0 0)).setCell ⟨w.heap.size + 2, 5, none⟩ (.slice none 0 0)) (w.heap.size + 2) 29 #[.bool false, .slice none 0 0, .slice none 0 0, .bool false, .slice none 0 0, .slice none 0 0] ∧ POwn ((((((w2.setCell ⟨w.heap.size + 2, 0, none⟩ (.bool false)).setCell ⟨w.heap.size + 2, 1, none⟩ (.slice none 0 0)).setCell ⟨w.heap.size + 2, 2, none⟩ (.slice none 0 0)).setCell ⟨w.heap.size + 2, 3, none⟩ (.bool false)).setCell ⟨w.heap.size + 2, 4, none⟩ (.slice none 0 0)).setCell ⟨w.heap.size + 2, 5, none⟩ (.slice none 0 0)) lo hi 3 (.bool false) (.slice none 0 0) (.slice none 0 0) (.bool false) (.slice none 0 0) (.slice none 0 0) (noR, noR) ∧ Below w.heap.size w ((((((w2.setCell ⟨w.heap.size + 2, 0, none⟩ (.bool false)).setCell ⟨w.heap.size + 2, 1, none⟩ (.slice none 0 0)).setCell ⟨w.heap.size + 2, 2, none⟩ (.slice none 0 0)).setCell ⟨w.heap.size + 2, 3, none⟩ (.bool false)).setCell ⟨w.heap.size + 2, 4, none⟩ (.slice none 0 0)).setCell ⟨w.heap.size + 2, 5, none⟩ (.slice none 0 0)))
    clear o hf oz
    go_wp2_with fail
    refine bodyPost_ret (results_cell_row rfl _ _ (w.heap.size + 2) _ #[.bool false, .slice none 0 0, .slice none 0 0, .bool false, .slice none 0 0, .slice none 0 0] (0, 0) _ rfl HO.out.1 Tryz.underlying29 rfl Tryz.sizePoint) rfl ?_
    exact ⟨_, _, _, _, _, _, rfl, HO.out.2.1, HO.out.2.2⟩
end Go.Proofs.YtcpncoonbdbkmaaGreat
