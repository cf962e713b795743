/-
  The texts PtI3, PtI4, put together; each has its own heading below. No condition of ours.
-/
import Derived.Test.YtnbaookdeijhhaaGreatDoorPI
import Derived.Deep.RegionHeld3
import Derived.Deep.CutRange
import Derived.Sort.AtCall
/-
  The program's points: contracts (3): differences, Side, SquareDistance.
-/




namespace Go.Proofs.YtnbaookdeijhhaaGreatDoor
open Go.RowKit
set_option linter.unusedVariables false
theorem results_cell_cell {P : Program} {fn : Func} {p q : Tmp} {ty : TypeId} (h : fn.results = #[.cell p ty, .cell q ty]) (tmps : Array Value) (w : World) (g g' : Nat) (t t' : TypeId) (cs cs' : Array Value) (fr fr' : Nat × Nat) (d : TypeDesc)
    (hp : tmps.getD p undef = .pointer (some ⟨g, 0, none⟩)) (hg : w.heap[g]? = some (.cells cs t fr)) (hq : tmps.getD q undef = .pointer (some ⟨g', 0, none⟩)) (hg' : w.heap[g']? = some (.cells cs' t' fr'))
    (hu : P.underlying ty = some d) (hd : (match d with | .struct _ | .array _ _ => true | _ => false) = true) (hi : (P.info? ty).map (·.size) = some cs.size) (hi' : (P.info? ty).map (·.size) = some cs'.size) :
    (results fn tmps).run P w = .ok (.tuple #[.agg cs, .agg cs']) w := by
  have hp' : tmps[p]?.getD undef = .pointer (some ⟨g, 0, none⟩) := by simpa using hp
  have hq' : tmps[q]?.getD undef = .pointer (some ⟨g', 0, none⟩) := by simpa using hq
  simp [results, h, hp', hq', asAddr, run_loadVar_row w g t ty cs fr d hg hu hd hi, run_loadVar_row w g' t' ty cs' fr' d hg' hu hd hi']
/-- two results of three cells, each stored into its variable -/
theorem ret_qq {w W : World} {g g' lo hi lo' hi' : Nat} {E F : TypeId} {x0 x1 x2 y0 y1 y2 v0 v1 v2 u0 u1 u2 : Value} {Z Y : RQ} (k : Box W g E #[x0, x1, x2]) (k' : Box W g' E #[y0, y1, y2]) (o : QOwn W lo hi F v0 v1 v2 Z) (o' : QOwn W lo' hi' F u0 u1 u2 Y) (hb : Below w.heap.size w W) (hg : w.heap.size ≤ g) (hg' : w.heap.size ≤ g') (hne : g ≠ g') (hl : w.heap.size ≤ lo) (hh : hi ≤ W.heap.size) (hl' : w.heap.size ≤ lo') (hh' : hi' ≤ W.heap.size) (hd : (g < lo ∨ hi ≤ g) ∧ (g' < lo ∨ hi ≤ g')) (hd' : (g < lo' ∨ hi' ≤ g) ∧ (g' < lo' ∨ hi' ≤ g')) :
    ∃ W', W' = ((((((W.setCell ⟨g, 0, none⟩ v0).setCell ⟨g, 1, none⟩ v1).setCell ⟨g, 2, none⟩ v2).setCell ⟨g', 0, none⟩ u0).setCell ⟨g', 1, none⟩ u1).setCell ⟨g', 2, none⟩ u2) ∧ Box W' g E #[v0, v1, v2] ∧ Box W' g' E #[u0, u1, u2] ∧ QOwn W' lo hi F v0 v1 v2 Z ∧ QOwn W' lo' hi' F u0 u1 u2 Y ∧ hi ≤ W'.heap.size ∧ hi' ≤ W'.heap.size ∧ Below w.heap.size w W' := by
  refine ⟨_, rfl, ?_, ?_, ?_, ?_, ?_, ?_, ?_⟩
  · exact ((((((k.set 0 _).set 1 _).set 2 _).setv hne 0 _).setv hne 1 _).setv hne 2 _)
  · exact ((((((k'.setv (Ne.symm hne) 0 _).setv (Ne.symm hne) 1 _).setv (Ne.symm hne) 2 _).set 0 _).set 1 _).set 2 _)
  · exact ((((((o.setv hd.1 0 _).setv hd.1 1 _).setv hd.1 2 _).setv hd.2 0 _).setv hd.2 1 _).setv hd.2 2 _)
  · exact ((((((o'.setv hd'.1 0 _).setv hd'.1 1 _).setv hd'.1 2 _).setv hd'.2 0 _).setv hd'.2 1 _).setv hd'.2 2 _)
  · simp only [setCell_size]; exact hh
  · simp only [setCell_size]; exact hh'
  · exact ((((((hb.setCell (p := ⟨g, 0, none⟩) hg _).setCell (p := ⟨g, 1, none⟩) hg _).setCell (p := ⟨g, 2, none⟩) hg _).setCell (p := ⟨g', 0, none⟩) hg' _).setCell (p := ⟨g', 1, none⟩) hg' _).setCell (p := ⟨g', 2, none⟩) hg' _)
/-- the two differences, handed back -/
def DiffRes (TI : TypeId) (w w' : World) (e : Ending) (Z Y : RQ) : Prop :=
  ∃ x0 x1 x2 y0 y1 y2 l1 h1 l2 h2, e = .returned (.tuple #[.agg #[x0, x1, x2], .agg #[y0, y1, y2]]) ∧ QOwn w' l1 h1 TI x0 x1 x2 Z ∧ QOwn w' l2 h2 TI y0 y1 y2 Y ∧ w.heap.size ≤ l1 ∧ w.heap.size ≤ l2 ∧ h1 ≤ w'.heap.size ∧ h2 ≤ w'.heap.size ∧ Below w.heap.size w w'
set_option maxRecDepth 100000 in
set_option maxHeartbeats 3200000 in
theorem impl_differences (w : World) (B : Nat) (hB : B ≤ w.heap.size) {p0 p1 p2 p3 p4 p5 : Value} {pZ : PQ} (hp : PIn w B p0 p1 p2 p3 p4 p5 pZ) {q0 q1 q2 q3 q4 q5 : Value} {qZ : PQ} (hq : PIn w B q0 q1 q2 q3 q4 q5 qZ) :
    Calls Tryz.prog 65 #[.agg #[p0, p1, p2, p3, p4, p5], .agg #[q0, q1, q2, q3, q4, q5]] w fun e w' => DiffRes 3 w w' e (subQ qZ.1 pZ.1) (subQ qZ.2 pZ.2) := by
  obtain ⟨W0, hW0⟩ : ∃ W0, W0 = ((((w.alloc (.cells #[p0, p1, p2, p3, p4, p5] 38)).alloc (.cells #[q0, q1, q2, q3, q4, q5] 38)).alloc (.cells #[.bool false, .slice none 0 0, .slice none 0 0] 27)).alloc (.cells #[.bool false, .slice none 0 0, .slice none 0 0] 27)) := ⟨_, rfl⟩
  have hT0 : Below w.heap.size w W0 := by rw [hW0]; exact below_alloc (below_alloc (below_alloc (below_new _ _) _) _) _
  have kp : Box W0 (w.heap.size) 38 #[p0, p1, p2, p3, p4, p5] := by rw [hW0]; exact (((Box.last _ _ _ rfl).alloc _).alloc _).alloc _
  have kq : Box W0 (w.heap.size + 1) 38 #[q0, q1, q2, q3, q4, q5] := by rw [hW0]; exact ((Box.last _ _ _ (alloc_size _ _).symm).alloc _).alloc _
  have kr : Box W0 (w.heap.size + 2) 27 #[.bool false, .slice none 0 0, .slice none 0 0] := by rw [hW0]; exact (Box.last _ _ _ (by rw [alloc_size, alloc_size])).alloc _
  have ko : Box W0 (w.heap.size + 3) 27 #[.bool false, .slice none 0 0, .slice none 0 0] := by rw [hW0]; exact Box.last _ _ _ (by rw [alloc_size, alloc_size, alloc_size])
  have hs0 : W0.heap.size = w.heap.size + 4 := by rw [hW0, alloc_size, alloc_size, alloc_size, alloc_size]
  have hp := hp.below (hT0.mono hB)
  have hq := hq.below (hT0.mono hB)
  go_enter Tryz.func65, Tryz.ntmps65
  go_upto_region 1 with fail
  rw [← hW0]
  clear hW0
  have HC1 := hide (fun (W : World) (h : Below W0.heap.size W0 W) => impl_subQ W B (by have := h.size; omega) (hq.1.below (h.mono (by omega))) (hp.1.below (h.mono (by omega))))
  have HC2 := hide (fun (W : World) (h : Below W0.heap.size W0 W) => impl_subQ W B (by have := h.size; omega) (hq.2.below (h.mono (by omega))) (hp.2.below (h.mono (by omega))))
  have HBp := hide kp
  have HBq := hide kq
  have HS0 : Hid (Below W0.heap.size W0 W0.drew) := (Below.refl _ _).drew
  have HKS := hide (fun (W : World) (hq : Below W0.heap.size W0 W) => (⟨(HBp.out.below hq HBp.out.lt).cell 0, (HBp.out.below hq HBp.out.lt).cell 1, (HBp.out.below hq HBp.out.lt).cell 2, (HBp.out.below hq HBp.out.lt).cell 3, (HBp.out.below hq HBp.out.lt).cell 4, (HBp.out.below hq HBp.out.lt).cell 5, (HBq.out.below hq HBq.out.lt).cell 0, (HBq.out.below hq HBq.out.lt).cell 1, (HBq.out.below hq HBq.out.lt).cell 2, (HBq.out.below hq HBq.out.lt).cell 3, (HBq.out.below hq HBq.out.lt).cell 4, (HBq.out.below hq HBq.out.lt).cell 5⟩ : W.cell? ⟨w.heap.size, 0, none⟩ = some (p0) ∧ W.cell? ⟨w.heap.size, 1, none⟩ = some (p1) ∧ W.cell? ⟨w.heap.size, 2, none⟩ = some (p2) ∧ W.cell? ⟨w.heap.size, 3, none⟩ = some (p3) ∧ W.cell? ⟨w.heap.size, 4, none⟩ = some (p4) ∧ W.cell? ⟨w.heap.size, 5, none⟩ = some (p5) ∧ W.cell? ⟨w.heap.size + 1, 0, none⟩ = some (q0) ∧ W.cell? ⟨w.heap.size + 1, 1, none⟩ = some (q1) ∧ W.cell? ⟨w.heap.size + 1, 2, none⟩ = some (q2) ∧ W.cell? ⟨w.heap.size + 1, 3, none⟩ = some (q3) ∧ W.cell? ⟨w.heap.size + 1, 4, none⟩ = some (q4) ∧ W.cell? ⟨w.heap.size + 1, 5, none⟩ = some (q5)))
  have HRr := hide kr
  have HRo := hide ko
  have HKT0 := hide (fun (W : World) (hq : Below W0.heap.size W0 W) (x0 x1 x2 : Value) => (⟨((((HBp.out.below hq HBp.out.lt).setv (show w.heap.size ≠ w.heap.size + 2 by omega) 0 x0).setv (show w.heap.size ≠ w.heap.size + 2 by omega) 1 x1).setv (show w.heap.size ≠ w.heap.size + 2 by omega) 2 x2).cell 0, ((((HBp.out.below hq HBp.out.lt).setv (show w.heap.size ≠ w.heap.size + 2 by omega) 0 x0).setv (show w.heap.size ≠ w.heap.size + 2 by omega) 1 x1).setv (show w.heap.size ≠ w.heap.size + 2 by omega) 2 x2).cell 1, ((((HBp.out.below hq HBp.out.lt).setv (show w.heap.size ≠ w.heap.size + 2 by omega) 0 x0).setv (show w.heap.size ≠ w.heap.size + 2 by omega) 1 x1).setv (show w.heap.size ≠ w.heap.size + 2 by omega) 2 x2).cell 2, ((((HBp.out.below hq HBp.out.lt).setv (show w.heap.size ≠ w.heap.size + 2 by omega) 0 x0).setv (show w.heap.size ≠ w.heap.size + 2 by omega) 1 x1).setv (show w.heap.size ≠ w.heap.size + 2 by omega) 2 x2).cell 3, ((((HBp.out.below hq HBp.out.lt).setv (show w.heap.size ≠ w.heap.size + 2 by omega) 0 x0).setv (show w.heap.size ≠ w.heap.size + 2 by omega) 1 x1).setv (show w.heap.size ≠ w.heap.size + 2 by omega) 2 x2).cell 4, ((((HBp.out.below hq HBp.out.lt).setv (show w.heap.size ≠ w.heap.size + 2 by omega) 0 x0).setv (show w.heap.size ≠ w.heap.size + 2 by omega) 1 x1).setv (show w.heap.size ≠ w.heap.size + 2 by omega) 2 x2).cell 5, ((((HBq.out.below hq HBq.out.lt).setv (show w.heap.size + 1 ≠ w.heap.size + 2 by omega) 0 x0).setv (show w.heap.size + 1 ≠ w.heap.size + 2 by omega) 1 x1).setv (show w.heap.size + 1 ≠ w.heap.size + 2 by omega) 2 x2).cell 0, ((((HBq.out.below hq HBq.out.lt).setv (show w.heap.size + 1 ≠ w.heap.size + 2 by omega) 0 x0).setv (show w.heap.size + 1 ≠ w.heap.size + 2 by omega) 1 x1).setv (show w.heap.size + 1 ≠ w.heap.size + 2 by omega) 2 x2).cell 1, ((((HBq.out.below hq HBq.out.lt).setv (show w.heap.size + 1 ≠ w.heap.size + 2 by omega) 0 x0).setv (show w.heap.size + 1 ≠ w.heap.size + 2 by omega) 1 x1).setv (show w.heap.size + 1 ≠ w.heap.size + 2 by omega) 2 x2).cell 2, ((((HBq.out.below hq HBq.out.lt).setv (show w.heap.size + 1 ≠ w.heap.size + 2 by omega) 0 x0).setv (show w.heap.size + 1 ≠ w.heap.size + 2 by omega) 1 x1).setv (show w.heap.size + 1 ≠ w.heap.size + 2 by omega) 2 x2).cell 3, ((((HBq.out.below hq HBq.out.lt).setv (show w.heap.size + 1 ≠ w.heap.size + 2 by omega) 0 x0).setv (show w.heap.size + 1 ≠ w.heap.size + 2 by omega) 1 x1).setv (show w.heap.size + 1 ≠ w.heap.size + 2 by omega) 2 x2).cell 4, ((((HBq.out.below hq HBq.out.lt).setv (show w.heap.size + 1 ≠ w.heap.size + 2 by omega) 0 x0).setv (show w.heap.size + 1 ≠ w.heap.size + 2 by omega) 1 x1).setv (show w.heap.size + 1 ≠ w.heap.size + 2 by omega) 2 x2).cell 5⟩ : (((W.setCell ⟨w.heap.size + 2, 0, none⟩ x0).setCell ⟨w.heap.size + 2, 1, none⟩ x1).setCell ⟨w.heap.size + 2, 2, none⟩ x2).cell? ⟨w.heap.size, 0, none⟩ = some (p0) ∧ (((W.setCell ⟨w.heap.size + 2, 0, none⟩ x0).setCell ⟨w.heap.size + 2, 1, none⟩ x1).setCell ⟨w.heap.size + 2, 2, none⟩ x2).cell? ⟨w.heap.size, 1, none⟩ = some (p1) ∧ (((W.setCell ⟨w.heap.size + 2, 0, none⟩ x0).setCell ⟨w.heap.size + 2, 1, none⟩ x1).setCell ⟨w.heap.size + 2, 2, none⟩ x2).cell? ⟨w.heap.size, 2, none⟩ = some (p2) ∧ (((W.setCell ⟨w.heap.size + 2, 0, none⟩ x0).setCell ⟨w.heap.size + 2, 1, none⟩ x1).setCell ⟨w.heap.size + 2, 2, none⟩ x2).cell? ⟨w.heap.size, 3, none⟩ = some (p3) ∧ (((W.setCell ⟨w.heap.size + 2, 0, none⟩ x0).setCell ⟨w.heap.size + 2, 1, none⟩ x1).setCell ⟨w.heap.size + 2, 2, none⟩ x2).cell? ⟨w.heap.size, 4, none⟩ = some (p4) ∧ (((W.setCell ⟨w.heap.size + 2, 0, none⟩ x0).setCell ⟨w.heap.size + 2, 1, none⟩ x1).setCell ⟨w.heap.size + 2, 2, none⟩ x2).cell? ⟨w.heap.size, 5, none⟩ = some (p5) ∧ (((W.setCell ⟨w.heap.size + 2, 0, none⟩ x0).setCell ⟨w.heap.size + 2, 1, none⟩ x1).setCell ⟨w.heap.size + 2, 2, none⟩ x2).cell? ⟨w.heap.size + 1, 0, none⟩ = some (q0) ∧ (((W.setCell ⟨w.heap.size + 2, 0, none⟩ x0).setCell ⟨w.heap.size + 2, 1, none⟩ x1).setCell ⟨w.heap.size + 2, 2, none⟩ x2).cell? ⟨w.heap.size + 1, 1, none⟩ = some (q1) ∧ (((W.setCell ⟨w.heap.size + 2, 0, none⟩ x0).setCell ⟨w.heap.size + 2, 1, none⟩ x1).setCell ⟨w.heap.size + 2, 2, none⟩ x2).cell? ⟨w.heap.size + 1, 2, none⟩ = some (q2) ∧ (((W.setCell ⟨w.heap.size + 2, 0, none⟩ x0).setCell ⟨w.heap.size + 2, 1, none⟩ x1).setCell ⟨w.heap.size + 2, 2, none⟩ x2).cell? ⟨w.heap.size + 1, 3, none⟩ = some (q3) ∧ (((W.setCell ⟨w.heap.size + 2, 0, none⟩ x0).setCell ⟨w.heap.size + 2, 1, none⟩ x1).setCell ⟨w.heap.size + 2, 2, none⟩ x2).cell? ⟨w.heap.size + 1, 4, none⟩ = some (q4) ∧ (((W.setCell ⟨w.heap.size + 2, 0, none⟩ x0).setCell ⟨w.heap.size + 2, 1, none⟩ x1).setCell ⟨w.heap.size + 2, 2, none⟩ x2).cell? ⟨w.heap.size + 1, 5, none⟩ = some (q5)))
  have HKT1 := hide (fun (W : World) (hq : Below W0.heap.size W0 W) (x0 x1 x2 : Value) => (⟨((((HBp.out.below hq HBp.out.lt).setv (show w.heap.size ≠ w.heap.size + 3 by omega) 0 x0).setv (show w.heap.size ≠ w.heap.size + 3 by omega) 1 x1).setv (show w.heap.size ≠ w.heap.size + 3 by omega) 2 x2).cell 0, ((((HBp.out.below hq HBp.out.lt).setv (show w.heap.size ≠ w.heap.size + 3 by omega) 0 x0).setv (show w.heap.size ≠ w.heap.size + 3 by omega) 1 x1).setv (show w.heap.size ≠ w.heap.size + 3 by omega) 2 x2).cell 1, ((((HBp.out.below hq HBp.out.lt).setv (show w.heap.size ≠ w.heap.size + 3 by omega) 0 x0).setv (show w.heap.size ≠ w.heap.size + 3 by omega) 1 x1).setv (show w.heap.size ≠ w.heap.size + 3 by omega) 2 x2).cell 2, ((((HBp.out.below hq HBp.out.lt).setv (show w.heap.size ≠ w.heap.size + 3 by omega) 0 x0).setv (show w.heap.size ≠ w.heap.size + 3 by omega) 1 x1).setv (show w.heap.size ≠ w.heap.size + 3 by omega) 2 x2).cell 3, ((((HBp.out.below hq HBp.out.lt).setv (show w.heap.size ≠ w.heap.size + 3 by omega) 0 x0).setv (show w.heap.size ≠ w.heap.size + 3 by omega) 1 x1).setv (show w.heap.size ≠ w.heap.size + 3 by omega) 2 x2).cell 4, ((((HBp.out.below hq HBp.out.lt).setv (show w.heap.size ≠ w.heap.size + 3 by omega) 0 x0).setv (show w.heap.size ≠ w.heap.size + 3 by omega) 1 x1).setv (show w.heap.size ≠ w.heap.size + 3 by omega) 2 x2).cell 5, ((((HBq.out.below hq HBq.out.lt).setv (show w.heap.size + 1 ≠ w.heap.size + 3 by omega) 0 x0).setv (show w.heap.size + 1 ≠ w.heap.size + 3 by omega) 1 x1).setv (show w.heap.size + 1 ≠ w.heap.size + 3 by omega) 2 x2).cell 0, ((((HBq.out.below hq HBq.out.lt).setv (show w.heap.size + 1 ≠ w.heap.size + 3 by omega) 0 x0).setv (show w.heap.size + 1 ≠ w.heap.size + 3 by omega) 1 x1).setv (show w.heap.size + 1 ≠ w.heap.size + 3 by omega) 2 x2).cell 1, ((((HBq.out.below hq HBq.out.lt).setv (show w.heap.size + 1 ≠ w.heap.size + 3 by omega) 0 x0).setv (show w.heap.size + 1 ≠ w.heap.size + 3 by omega) 1 x1).setv (show w.heap.size + 1 ≠ w.heap.size + 3 by omega) 2 x2).cell 2, ((((HBq.out.below hq HBq.out.lt).setv (show w.heap.size + 1 ≠ w.heap.size + 3 by omega) 0 x0).setv (show w.heap.size + 1 ≠ w.heap.size + 3 by omega) 1 x1).setv (show w.heap.size + 1 ≠ w.heap.size + 3 by omega) 2 x2).cell 3, ((((HBq.out.below hq HBq.out.lt).setv (show w.heap.size + 1 ≠ w.heap.size + 3 by omega) 0 x0).setv (show w.heap.size + 1 ≠ w.heap.size + 3 by omega) 1 x1).setv (show w.heap.size + 1 ≠ w.heap.size + 3 by omega) 2 x2).cell 4, ((((HBq.out.below hq HBq.out.lt).setv (show w.heap.size + 1 ≠ w.heap.size + 3 by omega) 0 x0).setv (show w.heap.size + 1 ≠ w.heap.size + 3 by omega) 1 x1).setv (show w.heap.size + 1 ≠ w.heap.size + 3 by omega) 2 x2).cell 5⟩ : (((W.setCell ⟨w.heap.size + 3, 0, none⟩ x0).setCell ⟨w.heap.size + 3, 1, none⟩ x1).setCell ⟨w.heap.size + 3, 2, none⟩ x2).cell? ⟨w.heap.size, 0, none⟩ = some (p0) ∧ (((W.setCell ⟨w.heap.size + 3, 0, none⟩ x0).setCell ⟨w.heap.size + 3, 1, none⟩ x1).setCell ⟨w.heap.size + 3, 2, none⟩ x2).cell? ⟨w.heap.size, 1, none⟩ = some (p1) ∧ (((W.setCell ⟨w.heap.size + 3, 0, none⟩ x0).setCell ⟨w.heap.size + 3, 1, none⟩ x1).setCell ⟨w.heap.size + 3, 2, none⟩ x2).cell? ⟨w.heap.size, 2, none⟩ = some (p2) ∧ (((W.setCell ⟨w.heap.size + 3, 0, none⟩ x0).setCell ⟨w.heap.size + 3, 1, none⟩ x1).setCell ⟨w.heap.size + 3, 2, none⟩ x2).cell? ⟨w.heap.size, 3, none⟩ = some (p3) ∧ (((W.setCell ⟨w.heap.size + 3, 0, none⟩ x0).setCell ⟨w.heap.size + 3, 1, none⟩ x1).setCell ⟨w.heap.size + 3, 2, none⟩ x2).cell? ⟨w.heap.size, 4, none⟩ = some (p4) ∧ (((W.setCell ⟨w.heap.size + 3, 0, none⟩ x0).setCell ⟨w.heap.size + 3, 1, none⟩ x1).setCell ⟨w.heap.size + 3, 2, none⟩ x2).cell? ⟨w.heap.size, 5, none⟩ = some (p5) ∧ (((W.setCell ⟨w.heap.size + 3, 0, none⟩ x0).setCell ⟨w.heap.size + 3, 1, none⟩ x1).setCell ⟨w.heap.size + 3, 2, none⟩ x2).cell? ⟨w.heap.size + 1, 0, none⟩ = some (q0) ∧ (((W.setCell ⟨w.heap.size + 3, 0, none⟩ x0).setCell ⟨w.heap.size + 3, 1, none⟩ x1).setCell ⟨w.heap.size + 3, 2, none⟩ x2).cell? ⟨w.heap.size + 1, 1, none⟩ = some (q1) ∧ (((W.setCell ⟨w.heap.size + 3, 0, none⟩ x0).setCell ⟨w.heap.size + 3, 1, none⟩ x1).setCell ⟨w.heap.size + 3, 2, none⟩ x2).cell? ⟨w.heap.size + 1, 2, none⟩ = some (q2) ∧ (((W.setCell ⟨w.heap.size + 3, 0, none⟩ x0).setCell ⟨w.heap.size + 3, 1, none⟩ x1).setCell ⟨w.heap.size + 3, 2, none⟩ x2).cell? ⟨w.heap.size + 1, 3, none⟩ = some (q3) ∧ (((W.setCell ⟨w.heap.size + 3, 0, none⟩ x0).setCell ⟨w.heap.size + 3, 1, none⟩ x1).setCell ⟨w.heap.size + 3, 2, none⟩ x2).cell? ⟨w.heap.size + 1, 4, none⟩ = some (q4) ∧ (((W.setCell ⟨w.heap.size + 3, 0, none⟩ x0).setCell ⟨w.heap.size + 3, 1, none⟩ x1).setCell ⟨w.heap.size + 3, 2, none⟩ x2).cell? ⟨w.heap.size + 1, 5, none⟩ = some (q5)))
  have HKT2 := hide (fun (W : World) (hq : Below W0.heap.size W0 W) (x0 x1 x2 x3 x4 x5 : Value) => (⟨(((((((HBp.out.below hq HBp.out.lt).setv (show w.heap.size ≠ w.heap.size + 2 by omega) 0 x0).setv (show w.heap.size ≠ w.heap.size + 2 by omega) 1 x1).setv (show w.heap.size ≠ w.heap.size + 2 by omega) 2 x2).setv (show w.heap.size ≠ w.heap.size + 3 by omega) 0 x3).setv (show w.heap.size ≠ w.heap.size + 3 by omega) 1 x4).setv (show w.heap.size ≠ w.heap.size + 3 by omega) 2 x5).cell 0, (((((((HBp.out.below hq HBp.out.lt).setv (show w.heap.size ≠ w.heap.size + 2 by omega) 0 x0).setv (show w.heap.size ≠ w.heap.size + 2 by omega) 1 x1).setv (show w.heap.size ≠ w.heap.size + 2 by omega) 2 x2).setv (show w.heap.size ≠ w.heap.size + 3 by omega) 0 x3).setv (show w.heap.size ≠ w.heap.size + 3 by omega) 1 x4).setv (show w.heap.size ≠ w.heap.size + 3 by omega) 2 x5).cell 1, (((((((HBp.out.below hq HBp.out.lt).setv (show w.heap.size ≠ w.heap.size + 2 by omega) 0 x0).setv (show w.heap.size ≠ w.heap.size + 2 by omega) 1 x1).setv (show w.heap.size ≠ w.heap.size + 2 by omega) 2 x2).setv (show w.heap.size ≠ w.heap.size + 3 by omega) 0 x3).setv (show w.heap.size ≠ w.heap.size + 3 by omega) 1 x4).setv (show w.heap.size ≠ w.heap.size + 3 by omega) 2 x5).cell 2, (((((((HBp.out.below hq HBp.out.lt).setv (show w.heap.size ≠ w.heap.size + 2 by omega) 0 x0).setv (show w.heap.size ≠ w.heap.size + 2 by omega) 1 x1).setv (show w.heap.size ≠ w.heap.size + 2 by omega) 2 x2).setv (show w.heap.size ≠ w.heap.size + 3 by omega) 0 x3).setv (show w.heap.size ≠ w.heap.size + 3 by omega) 1 x4).setv (show w.heap.size ≠ w.heap.size + 3 by omega) 2 x5).cell 3, (((((((HBp.out.below hq HBp.out.lt).setv (show w.heap.size ≠ w.heap.size + 2 by omega) 0 x0).setv (show w.heap.size ≠ w.heap.size + 2 by omega) 1 x1).setv (show w.heap.size ≠ w.heap.size + 2 by omega) 2 x2).setv (show w.heap.size ≠ w.heap.size + 3 by omega) 0 x3).setv (show w.heap.size ≠ w.heap.size + 3 by omega) 1 x4).setv (show w.heap.size ≠ w.heap.size + 3 by omega) 2 x5).cell 4, (((((((HBp.out.below hq HBp.out.lt).setv (show w.heap.size ≠ w.heap.size + 2 by omega) 0 x0).setv (show w.heap.size ≠ w.heap.size + 2 by omega) 1 x1).setv (show w.heap.size ≠ w.heap.size + 2 by omega) 2 x2).setv (show w.heap.size ≠ w.heap.size + 3 by omega) 0 x3).setv (show w.heap.size ≠ w.heap.size + 3 by omega) 1 x4).setv (show w.heap.size ≠ w.heap.size + 3 by omega) 2 x5).cell 5, (((((((HBq.out.below hq HBq.out.lt).setv (show w.heap.size + 1 ≠ w.heap.size + 2 by omega) 0 x0).setv (show w.heap.size + 1 ≠ w.heap.size + 2 by omega) 1 x1).setv (show w.heap.size + 1 ≠ w.heap.size + 2 by omega) 2 x2).setv (show w.heap.size + 1 ≠ w.heap.size + 3 by omega) 0 x3).setv (show w.heap.size + 1 ≠ w.heap.size + 3 by omega) 1 x4).setv (show w.heap.size + 1 ≠ w.heap.size + 3 by omega) 2 x5).cell 0, (((((((HBq.out.below hq HBq.out.lt).setv (show w.heap.size + 1 ≠ w.heap.size + 2 by omega) 0 x0).setv (show w.heap.size + 1 ≠ w.heap.size + 2 by omega) 1 x1).setv (show w.heap.size + 1 ≠ w.heap.size + 2 by omega) 2 x2).setv (show w.heap.size + 1 ≠ w.heap.size + 3 by omega) 0 x3).setv (show w.heap.size + 1 ≠ w.heap.size + 3 by omega) 1 x4).setv (show w.heap.size + 1 ≠ w.heap.size + 3 by omega) 2 x5).cell 1, (((((((HBq.out.below hq HBq.out.lt).setv (show w.heap.size + 1 ≠ w.heap.size + 2 by omega) 0 x0).setv (show w.heap.size + 1 ≠ w.heap.size + 2 by omega) 1 x1).setv (show w.heap.size + 1 ≠ w.heap.size + 2 by omega) 2 x2).setv (show w.heap.size + 1 ≠ w.heap.size + 3 by omega) 0 x3).setv (show w.heap.size + 1 ≠ w.heap.size + 3 by omega) 1 x4).setv (show w.heap.size + 1 ≠ w.heap.size + 3 by omega) 2 x5).cell 2, (((((((HBq.out.below hq HBq.out.lt).setv (show w.heap.size + 1 ≠ w.heap.size + 2 by omega) 0 x0).setv (show w.heap.size + 1 ≠ w.heap.size + 2 by omega) 1 x1).setv (show w.heap.size + 1 ≠ w.heap.size + 2 by omega) 2 x2).setv (show w.heap.size + 1 ≠ w.heap.size + 3 by omega) 0 x3).setv (show w.heap.size + 1 ≠ w.heap.size + 3 by omega) 1 x4).setv (show w.heap.size + 1 ≠ w.heap.size + 3 by omega) 2 x5).cell 3, (((((((HBq.out.below hq HBq.out.lt).setv (show w.heap.size + 1 ≠ w.heap.size + 2 by omega) 0 x0).setv (show w.heap.size + 1 ≠ w.heap.size + 2 by omega) 1 x1).setv (show w.heap.size + 1 ≠ w.heap.size + 2 by omega) 2 x2).setv (show w.heap.size + 1 ≠ w.heap.size + 3 by omega) 0 x3).setv (show w.heap.size + 1 ≠ w.heap.size + 3 by omega) 1 x4).setv (show w.heap.size + 1 ≠ w.heap.size + 3 by omega) 2 x5).cell 4, (((((((HBq.out.below hq HBq.out.lt).setv (show w.heap.size + 1 ≠ w.heap.size + 2 by omega) 0 x0).setv (show w.heap.size + 1 ≠ w.heap.size + 2 by omega) 1 x1).setv (show w.heap.size + 1 ≠ w.heap.size + 2 by omega) 2 x2).setv (show w.heap.size + 1 ≠ w.heap.size + 3 by omega) 0 x3).setv (show w.heap.size + 1 ≠ w.heap.size + 3 by omega) 1 x4).setv (show w.heap.size + 1 ≠ w.heap.size + 3 by omega) 2 x5).cell 5⟩ : ((((((W.setCell ⟨w.heap.size + 2, 0, none⟩ x0).setCell ⟨w.heap.size + 2, 1, none⟩ x1).setCell ⟨w.heap.size + 2, 2, none⟩ x2).setCell ⟨w.heap.size + 3, 0, none⟩ x3).setCell ⟨w.heap.size + 3, 1, none⟩ x4).setCell ⟨w.heap.size + 3, 2, none⟩ x5).cell? ⟨w.heap.size, 0, none⟩ = some (p0) ∧ ((((((W.setCell ⟨w.heap.size + 2, 0, none⟩ x0).setCell ⟨w.heap.size + 2, 1, none⟩ x1).setCell ⟨w.heap.size + 2, 2, none⟩ x2).setCell ⟨w.heap.size + 3, 0, none⟩ x3).setCell ⟨w.heap.size + 3, 1, none⟩ x4).setCell ⟨w.heap.size + 3, 2, none⟩ x5).cell? ⟨w.heap.size, 1, none⟩ = some (p1) ∧ ((((((W.setCell ⟨w.heap.size + 2, 0, none⟩ x0).setCell ⟨w.heap.size + 2, 1, none⟩ x1).setCell ⟨w.heap.size + 2, 2, none⟩ x2).setCell ⟨w.heap.size + 3, 0, none⟩ x3).setCell ⟨w.heap.size + 3, 1, none⟩ x4).setCell ⟨w.heap.size + 3, 2, none⟩ x5).cell? ⟨w.heap.size, 2, none⟩ = some (p2) ∧ ((((((W.setCell ⟨w.heap.size + 2, 0, none⟩ x0).setCell ⟨w.heap.size + 2, 1, none⟩ x1).setCell ⟨w.heap.size + 2, 2, none⟩ x2).setCell ⟨w.heap.size + 3, 0, none⟩ x3).setCell ⟨w.heap.size + 3, 1, none⟩ x4).setCell ⟨w.heap.size + 3, 2, none⟩ x5).cell? ⟨w.heap.size, 3, none⟩ = some (p3) ∧ ((((((W.setCell ⟨w.heap.size + 2, 0, none⟩ x0).setCell ⟨w.heap.size + 2, 1, none⟩ x1).setCell ⟨w.heap.size + 2, 2, none⟩ x2).setCell ⟨w.heap.size + 3, 0, none⟩ x3).setCell ⟨w.heap.size + 3, 1, none⟩ x4).setCell ⟨w.heap.size + 3, 2, none⟩ x5).cell? ⟨w.heap.size, 4, none⟩ = some (p4) ∧ ((((((W.setCell ⟨w.heap.size + 2, 0, none⟩ x0).setCell ⟨w.heap.size + 2, 1, none⟩ x1).setCell ⟨w.heap.size + 2, 2, none⟩ x2).setCell ⟨w.heap.size + 3, 0, none⟩ x3).setCell ⟨w.heap.size + 3, 1, none⟩ x4).setCell ⟨w.heap.size + 3, 2, none⟩ x5).cell? ⟨w.heap.size, 5, none⟩ = some (p5) ∧ ((((((W.setCell ⟨w.heap.size + 2, 0, none⟩ x0).setCell ⟨w.heap.size + 2, 1, none⟩ x1).setCell ⟨w.heap.size + 2, 2, none⟩ x2).setCell ⟨w.heap.size + 3, 0, none⟩ x3).setCell ⟨w.heap.size + 3, 1, none⟩ x4).setCell ⟨w.heap.size + 3, 2, none⟩ x5).cell? ⟨w.heap.size + 1, 0, none⟩ = some (q0) ∧ ((((((W.setCell ⟨w.heap.size + 2, 0, none⟩ x0).setCell ⟨w.heap.size + 2, 1, none⟩ x1).setCell ⟨w.heap.size + 2, 2, none⟩ x2).setCell ⟨w.heap.size + 3, 0, none⟩ x3).setCell ⟨w.heap.size + 3, 1, none⟩ x4).setCell ⟨w.heap.size + 3, 2, none⟩ x5).cell? ⟨w.heap.size + 1, 1, none⟩ = some (q1) ∧ ((((((W.setCell ⟨w.heap.size + 2, 0, none⟩ x0).setCell ⟨w.heap.size + 2, 1, none⟩ x1).setCell ⟨w.heap.size + 2, 2, none⟩ x2).setCell ⟨w.heap.size + 3, 0, none⟩ x3).setCell ⟨w.heap.size + 3, 1, none⟩ x4).setCell ⟨w.heap.size + 3, 2, none⟩ x5).cell? ⟨w.heap.size + 1, 2, none⟩ = some (q2) ∧ ((((((W.setCell ⟨w.heap.size + 2, 0, none⟩ x0).setCell ⟨w.heap.size + 2, 1, none⟩ x1).setCell ⟨w.heap.size + 2, 2, none⟩ x2).setCell ⟨w.heap.size + 3, 0, none⟩ x3).setCell ⟨w.heap.size + 3, 1, none⟩ x4).setCell ⟨w.heap.size + 3, 2, none⟩ x5).cell? ⟨w.heap.size + 1, 3, none⟩ = some (q3) ∧ ((((((W.setCell ⟨w.heap.size + 2, 0, none⟩ x0).setCell ⟨w.heap.size + 2, 1, none⟩ x1).setCell ⟨w.heap.size + 2, 2, none⟩ x2).setCell ⟨w.heap.size + 3, 0, none⟩ x3).setCell ⟨w.heap.size + 3, 1, none⟩ x4).setCell ⟨w.heap.size + 3, 2, none⟩ x5).cell? ⟨w.heap.size + 1, 4, none⟩ = some (q4) ∧ ((((((W.setCell ⟨w.heap.size + 2, 0, none⟩ x0).setCell ⟨w.heap.size + 2, 1, none⟩ x1).setCell ⟨w.heap.size + 2, 2, none⟩ x2).setCell ⟨w.heap.size + 3, 0, none⟩ x3).setCell ⟨w.heap.size + 3, 1, none⟩ x4).setCell ⟨w.heap.size + 3, 2, none⟩ x5).cell? ⟨w.heap.size + 1, 5, none⟩ = some (q5)))
  have HKT3 := hide (fun (W : World) (hq : Below W0.heap.size W0 W) (x0 x1 x2 x3 x4 x5 : Value) => (⟨(((((((HBp.out.below hq HBp.out.lt).setv (show w.heap.size ≠ w.heap.size + 3 by omega) 0 x0).setv (show w.heap.size ≠ w.heap.size + 3 by omega) 1 x1).setv (show w.heap.size ≠ w.heap.size + 3 by omega) 2 x2).setv (show w.heap.size ≠ w.heap.size + 2 by omega) 0 x3).setv (show w.heap.size ≠ w.heap.size + 2 by omega) 1 x4).setv (show w.heap.size ≠ w.heap.size + 2 by omega) 2 x5).cell 0, (((((((HBp.out.below hq HBp.out.lt).setv (show w.heap.size ≠ w.heap.size + 3 by omega) 0 x0).setv (show w.heap.size ≠ w.heap.size + 3 by omega) 1 x1).setv (show w.heap.size ≠ w.heap.size + 3 by omega) 2 x2).setv (show w.heap.size ≠ w.heap.size + 2 by omega) 0 x3).setv (show w.heap.size ≠ w.heap.size + 2 by omega) 1 x4).setv (show w.heap.size ≠ w.heap.size + 2 by omega) 2 x5).cell 1, (((((((HBp.out.below hq HBp.out.lt).setv (show w.heap.size ≠ w.heap.size + 3 by omega) 0 x0).setv (show w.heap.size ≠ w.heap.size + 3 by omega) 1 x1).setv (show w.heap.size ≠ w.heap.size + 3 by omega) 2 x2).setv (show w.heap.size ≠ w.heap.size + 2 by omega) 0 x3).setv (show w.heap.size ≠ w.heap.size + 2 by omega) 1 x4).setv (show w.heap.size ≠ w.heap.size + 2 by omega) 2 x5).cell 2, (((((((HBp.out.below hq HBp.out.lt).setv (show w.heap.size ≠ w.heap.size + 3 by omega) 0 x0).setv (show w.heap.size ≠ w.heap.size + 3 by omega) 1 x1).setv (show w.heap.size ≠ w.heap.size + 3 by omega) 2 x2).setv (show w.heap.size ≠ w.heap.size + 2 by omega) 0 x3).setv (show w.heap.size ≠ w.heap.size + 2 by omega) 1 x4).setv (show w.heap.size ≠ w.heap.size + 2 by omega) 2 x5).cell 3, (((((((HBp.out.below hq HBp.out.lt).setv (show w.heap.size ≠ w.heap.size + 3 by omega) 0 x0).setv (show w.heap.size ≠ w.heap.size + 3 by omega) 1 x1).setv (show w.heap.size ≠ w.heap.size + 3 by omega) 2 x2).setv (show w.heap.size ≠ w.heap.size + 2 by omega) 0 x3).setv (show w.heap.size ≠ w.heap.size + 2 by omega) 1 x4).setv (show w.heap.size ≠ w.heap.size + 2 by omega) 2 x5).cell 4, (((((((HBp.out.below hq HBp.out.lt).setv (show w.heap.size ≠ w.heap.size + 3 by omega) 0 x0).setv (show w.heap.size ≠ w.heap.size + 3 by omega) 1 x1).setv (show w.heap.size ≠ w.heap.size + 3 by omega) 2 x2).setv (show w.heap.size ≠ w.heap.size + 2 by omega) 0 x3).setv (show w.heap.size ≠ w.heap.size + 2 by omega) 1 x4).setv (show w.heap.size ≠ w.heap.size + 2 by omega) 2 x5).cell 5, (((((((HBq.out.below hq HBq.out.lt).setv (show w.heap.size + 1 ≠ w.heap.size + 3 by omega) 0 x0).setv (show w.heap.size + 1 ≠ w.heap.size + 3 by omega) 1 x1).setv (show w.heap.size + 1 ≠ w.heap.size + 3 by omega) 2 x2).setv (show w.heap.size + 1 ≠ w.heap.size + 2 by omega) 0 x3).setv (show w.heap.size + 1 ≠ w.heap.size + 2 by omega) 1 x4).setv (show w.heap.size + 1 ≠ w.heap.size + 2 by omega) 2 x5).cell 0, (((((((HBq.out.below hq HBq.out.lt).setv (show w.heap.size + 1 ≠ w.heap.size + 3 by omega) 0 x0).setv (show w.heap.size + 1 ≠ w.heap.size + 3 by omega) 1 x1).setv (show w.heap.size + 1 ≠ w.heap.size + 3 by omega) 2 x2).setv (show w.heap.size + 1 ≠ w.heap.size + 2 by omega) 0 x3).setv (show w.heap.size + 1 ≠ w.heap.size + 2 by omega) 1 x4).setv (show w.heap.size + 1 ≠ w.heap.size + 2 by omega) 2 x5).cell 1, (((((((HBq.out.below hq HBq.out.lt).setv (show w.heap.size + 1 ≠ w.heap.size + 3 by omega) 0 x0).setv (show w.heap.size + 1 ≠ w.heap.size + 3 by omega) 1 x1).setv (show w.heap.size + 1 ≠ w.heap.size + 3 by omega) 2 x2).setv (show w.heap.size + 1 ≠ w.heap.size + 2 by omega) 0 x3).setv (show w.heap.size + 1 ≠ w.heap.size + 2 by omega) 1 x4).setv (show w.heap.size + 1 ≠ w.heap.size + 2 by omega) 2 x5).cell 2, (((((((HBq.out.below hq HBq.out.lt).setv (show w.heap.size + 1 ≠ w.heap.size + 3 by omega) 0 x0).setv (show w.heap.size + 1 ≠ w.heap.size + 3 by omega) 1 x1).setv (show w.heap.size + 1 ≠ w.heap.size + 3 by omega) 2 x2).setv (show w.heap.size + 1 ≠ w.heap.size + 2 by omega) 0 x3).setv (show w.heap.size + 1 ≠ w.heap.size + 2 by omega) 1 x4).setv (show w.heap.size + 1 ≠ w.heap.size + 2 by omega) 2 x5).cell 3, (((((((HBq.out.below hq HBq.out.lt).setv (show w.heap.size + 1 ≠ w.heap.size + 3 by omega) 0 x0).setv (show w.heap.size + 1 ≠ w.heap.size + 3 by omega) 1 x1).setv (show w.heap.size + 1 ≠ w.heap.size + 3 by omega) 2 x2).setv (show w.heap.size + 1 ≠ w.heap.size + 2 by omega) 0 x3).setv (show w.heap.size + 1 ≠ w.heap.size + 2 by omega) 1 x4).setv (show w.heap.size + 1 ≠ w.heap.size + 2 by omega) 2 x5).cell 4, (((((((HBq.out.below hq HBq.out.lt).setv (show w.heap.size + 1 ≠ w.heap.size + 3 by omega) 0 x0).setv (show w.heap.size + 1 ≠ w.heap.size + 3 by omega) 1 x1).setv (show w.heap.size + 1 ≠ w.heap.size + 3 by omega) 2 x2).setv (show w.heap.size + 1 ≠ w.heap.size + 2 by omega) 0 x3).setv (show w.heap.size + 1 ≠ w.heap.size + 2 by omega) 1 x4).setv (show w.heap.size + 1 ≠ w.heap.size + 2 by omega) 2 x5).cell 5⟩ : ((((((W.setCell ⟨w.heap.size + 3, 0, none⟩ x0).setCell ⟨w.heap.size + 3, 1, none⟩ x1).setCell ⟨w.heap.size + 3, 2, none⟩ x2).setCell ⟨w.heap.size + 2, 0, none⟩ x3).setCell ⟨w.heap.size + 2, 1, none⟩ x4).setCell ⟨w.heap.size + 2, 2, none⟩ x5).cell? ⟨w.heap.size, 0, none⟩ = some (p0) ∧ ((((((W.setCell ⟨w.heap.size + 3, 0, none⟩ x0).setCell ⟨w.heap.size + 3, 1, none⟩ x1).setCell ⟨w.heap.size + 3, 2, none⟩ x2).setCell ⟨w.heap.size + 2, 0, none⟩ x3).setCell ⟨w.heap.size + 2, 1, none⟩ x4).setCell ⟨w.heap.size + 2, 2, none⟩ x5).cell? ⟨w.heap.size, 1, none⟩ = some (p1) ∧ ((((((W.setCell ⟨w.heap.size + 3, 0, none⟩ x0).setCell ⟨w.heap.size + 3, 1, none⟩ x1).setCell ⟨w.heap.size + 3, 2, none⟩ x2).setCell ⟨w.heap.size + 2, 0, none⟩ x3).setCell ⟨w.heap.size + 2, 1, none⟩ x4).setCell ⟨w.heap.size + 2, 2, none⟩ x5).cell? ⟨w.heap.size, 2, none⟩ = some (p2) ∧ ((((((W.setCell ⟨w.heap.size + 3, 0, none⟩ x0).setCell ⟨w.heap.size + 3, 1, none⟩ x1).setCell ⟨w.heap.size + 3, 2, none⟩ x2).setCell ⟨w.heap.size + 2, 0, none⟩ x3).setCell ⟨w.heap.size + 2, 1, none⟩ x4).setCell ⟨w.heap.size + 2, 2, none⟩ x5).cell? ⟨w.heap.size, 3, none⟩ = some (p3) ∧ ((((((W.setCell ⟨w.heap.size + 3, 0, none⟩ x0).setCell ⟨w.heap.size + 3, 1, none⟩ x1).setCell ⟨w.heap.size + 3, 2, none⟩ x2).setCell ⟨w.heap.size + 2, 0, none⟩ x3).setCell ⟨w.heap.size + 2, 1, none⟩ x4).setCell ⟨w.heap.size + 2, 2, none⟩ x5).cell? ⟨w.heap.size, 4, none⟩ = some (p4) ∧ ((((((W.setCell ⟨w.heap.size + 3, 0, none⟩ x0).setCell ⟨w.heap.size + 3, 1, none⟩ x1).setCell ⟨w.heap.size + 3, 2, none⟩ x2).setCell ⟨w.heap.size + 2, 0, none⟩ x3).setCell ⟨w.heap.size + 2, 1, none⟩ x4).setCell ⟨w.heap.size + 2, 2, none⟩ x5).cell? ⟨w.heap.size, 5, none⟩ = some (p5) ∧ ((((((W.setCell ⟨w.heap.size + 3, 0, none⟩ x0).setCell ⟨w.heap.size + 3, 1, none⟩ x1).setCell ⟨w.heap.size + 3, 2, none⟩ x2).setCell ⟨w.heap.size + 2, 0, none⟩ x3).setCell ⟨w.heap.size + 2, 1, none⟩ x4).setCell ⟨w.heap.size + 2, 2, none⟩ x5).cell? ⟨w.heap.size + 1, 0, none⟩ = some (q0) ∧ ((((((W.setCell ⟨w.heap.size + 3, 0, none⟩ x0).setCell ⟨w.heap.size + 3, 1, none⟩ x1).setCell ⟨w.heap.size + 3, 2, none⟩ x2).setCell ⟨w.heap.size + 2, 0, none⟩ x3).setCell ⟨w.heap.size + 2, 1, none⟩ x4).setCell ⟨w.heap.size + 2, 2, none⟩ x5).cell? ⟨w.heap.size + 1, 1, none⟩ = some (q1) ∧ ((((((W.setCell ⟨w.heap.size + 3, 0, none⟩ x0).setCell ⟨w.heap.size + 3, 1, none⟩ x1).setCell ⟨w.heap.size + 3, 2, none⟩ x2).setCell ⟨w.heap.size + 2, 0, none⟩ x3).setCell ⟨w.heap.size + 2, 1, none⟩ x4).setCell ⟨w.heap.size + 2, 2, none⟩ x5).cell? ⟨w.heap.size + 1, 2, none⟩ = some (q2) ∧ ((((((W.setCell ⟨w.heap.size + 3, 0, none⟩ x0).setCell ⟨w.heap.size + 3, 1, none⟩ x1).setCell ⟨w.heap.size + 3, 2, none⟩ x2).setCell ⟨w.heap.size + 2, 0, none⟩ x3).setCell ⟨w.heap.size + 2, 1, none⟩ x4).setCell ⟨w.heap.size + 2, 2, none⟩ x5).cell? ⟨w.heap.size + 1, 3, none⟩ = some (q3) ∧ ((((((W.setCell ⟨w.heap.size + 3, 0, none⟩ x0).setCell ⟨w.heap.size + 3, 1, none⟩ x1).setCell ⟨w.heap.size + 3, 2, none⟩ x2).setCell ⟨w.heap.size + 2, 0, none⟩ x3).setCell ⟨w.heap.size + 2, 1, none⟩ x4).setCell ⟨w.heap.size + 2, 2, none⟩ x5).cell? ⟨w.heap.size + 1, 4, none⟩ = some (q4) ∧ ((((((W.setCell ⟨w.heap.size + 3, 0, none⟩ x0).setCell ⟨w.heap.size + 3, 1, none⟩ x1).setCell ⟨w.heap.size + 3, 2, none⟩ x2).setCell ⟨w.heap.size + 2, 0, none⟩ x3).setCell ⟨w.heap.size + 2, 1, none⟩ x4).setCell ⟨w.heap.size + 2, 2, none⟩ x5).cell? ⟨w.heap.size + 1, 5, none⟩ = some (q5)))
  have HIp := hide hp
  have HIq := hide hq
  obtain ⟨yp0, yp1, yp2, yp3, yp4, yp5⟩ := kp.cells6
  obtain ⟨yq0, yq1, yq2, yq3, yq4, yq5⟩ := kq.cells6
  go_region_held3 (fun w' => w'.cell? ⟨w.heap.size, 0, none⟩ = some (p0) ∧ w'.cell? ⟨w.heap.size, 1, none⟩ = some (p1) ∧ w'.cell? ⟨w.heap.size, 2, none⟩ = some (p2) ∧ w'.cell? ⟨w.heap.size, 3, none⟩ = some (p3) ∧ w'.cell? ⟨w.heap.size, 4, none⟩ = some (p4) ∧ w'.cell? ⟨w.heap.size, 5, none⟩ = some (p5) ∧ w'.cell? ⟨w.heap.size + 1, 0, none⟩ = some (q0) ∧ w'.cell? ⟨w.heap.size + 1, 1, none⟩ = some (q1) ∧ w'.cell? ⟨w.heap.size + 1, 2, none⟩ = some (q2) ∧ w'.cell? ⟨w.heap.size + 1, 3, none⟩ = some (q3) ∧ w'.cell? ⟨w.heap.size + 1, 4, none⟩ = some (q4) ∧ w'.cell? ⟨w.heap.size + 1, 5, none⟩ = some (q5))
      (first | (with_reducible exact HKT3.out _ HS2.out _ _ _ _ _ _) | (with_reducible exact HKT2.out _ HS2.out _ _ _ _ _ _) | (with_reducible exact HKT1.out _ HS2.out _ _ _) | (with_reducible exact HKT0.out _ HS2.out _ _ _) | (with_reducible exact HKS.out _ HS2.out) | (with_reducible exact HKS.out _ HS1.out) | (with_reducible exact HKS.out _ HS0.out))
      (first
        | (go_at_call 11; have HX := HS1.out; refine (HC2.out _ HS1.out).mono ?_; rintro e u2 ⟨y0, y1, y2, rfl, oy, hb2⟩; obtain ⟨yb, yA, yn, yc, yD, ym, yk, rfl, rfl, rfl⟩ := oy.cut; have oy : QOwn u2 u1.heap.size u2.heap.size 3 (.bool yb) (.slice yA yn yc) (.slice yD ym yk) (subQ qZ.2 pZ.2) := oy; have qy := oy.in_ (subQ_fit _ _) (Nat.le_refl _); have qx := qx.up hb2; have ox := ox.below hb2 (by omega); have hz2 : u1.heap.size ≤ u2.heap.size := hb2.size; have HS2 := hide (below_then HX hb2); clear HX; have hTT := below_then hT0 HS2.out; have kRr := HRr.out.below HS2.out HRr.out.lt; obtain ⟨tr0, tr1, tr2, fr0, fr1, fr2⟩ := kRr.facts3; have kRo := HRo.out.below HS2.out HRo.out.lt; obtain ⟨to0, to1, to2, fo0, fo1, fo2⟩ := kRo.facts3)
        | (go_at_call 11; have HX := HS0.out; refine (HC1.out _ HS0.out).mono ?_; rintro e u1 ⟨x0, x1, x2, rfl, ox, hb1⟩; obtain ⟨xb, xA, xn, xc, xD, xm, xk, rfl, rfl, rfl⟩ := ox.cut; have ox : QOwn u1 W0.heap.size u1.heap.size 3 (.bool xb) (.slice xA xn xc) (.slice xD xm xk) (subQ qZ.1 pZ.1) := ox; have qx := ox.in_ (subQ_fit _ _) (Nat.le_refl _); have hz1 : W0.heap.size ≤ u1.heap.size := hb1.size; have HS1 := hide (below_then HX hb1); clear HX))
  have HO := hide (ret_qq kRr kRo ox oy hTT (by omega) (by omega) (by omega) (by omega) (by omega) (by omega) (Nat.le_refl _) ⟨.inl (by omega), .inl (by omega)⟩ ⟨.inl (by omega), .inl (by omega)⟩)
  clear kRr kRo ox oy qx qy hTT hb1 hb2
  go_wp2_with fail
  obtain ⟨W', hW', g1, g2, g3, g4, g5, g6, g7⟩ := HO.out
  rw [← hW']
  refine bodyPost_ret (results_cell_cell rfl _ _ (w.heap.size + 2) (w.heap.size + 3) _ _ #[.bool xb, .slice xA xn xc, .slice xD xm xk] #[.bool yb, .slice yA yn yc, .slice yD ym yk] (0, 0) (0, 0) _ rfl g1 rfl g2 Tryz.underlying27 rfl Tryz.sizeRat Tryz.sizeRat) rfl ?_
  exact ⟨_, _, _, _, _, _, _, _, _, _, rfl, g3, g4, by omega, by omega, g5, g6, g7⟩
set_option maxRecDepth 100000 in
set_option maxHeartbeats 3200000 in
theorem impl_Side (w : World) (B : Nat) (hB : B ≤ w.heap.size) {p0 p1 p2 p3 p4 p5 : Value} {pZ : PQ} (hp : PIn w B p0 p1 p2 p3 p4 p5 pZ) {q0 q1 q2 q3 q4 q5 : Value} {qZ : PQ} (hq : PIn w B q0 q1 q2 q3 q4 q5 qZ) {r0 r1 r2 r3 r4 r5 : Value} {rZ : PQ} (hr : PIn w B r0 r1 r2 r3 r4 r5 rZ) :
    Calls Tryz.prog 27 #[.agg #[p0, p1, p2, p3, p4, p5], .agg #[q0, q1, q2, q3, q4, q5], .agg #[r0, r1, r2, r3, r4, r5]] w fun e w' => e = .returned (.int .i64 (sideP pZ qZ rZ)) ∧ Below w.heap.size w w' := by
  obtain ⟨W0, hW0⟩ : ∃ W0, W0 = (((w.alloc (.cells #[p0, p1, p2, p3, p4, p5] 38)).alloc (.cells #[q0, q1, q2, q3, q4, q5] 38)).alloc (.cells #[r0, r1, r2, r3, r4, r5] 38)) := ⟨_, rfl⟩
  have hT0 : Below w.heap.size w W0 := by rw [hW0]; exact below_alloc (below_alloc (below_new _ _) _) _
  have kp : Box W0 (w.heap.size) 38 #[p0, p1, p2, p3, p4, p5] := by rw [hW0]; exact ((Box.last _ _ _ rfl).alloc _).alloc _
  have kq : Box W0 (w.heap.size + 1) 38 #[q0, q1, q2, q3, q4, q5] := by rw [hW0]; exact (Box.last _ _ _ (alloc_size _ _).symm).alloc _
  have kr : Box W0 (w.heap.size + 2) 38 #[r0, r1, r2, r3, r4, r5] := by rw [hW0]; exact Box.last _ _ _ (by rw [alloc_size, alloc_size])
  have hs0 : W0.heap.size = w.heap.size + 3 := by rw [hW0, alloc_size, alloc_size, alloc_size]
  have hp := hp.below (hT0.mono hB)
  have hq := hq.below (hT0.mono hB)
  have hr := hr.below (hT0.mono hB)
  go_enter Tryz.func27, Tryz.ntmps27
  go_upto_region 1 with fail
  rw [← hW0]
  clear hW0
  obtain ⟨yp0, yp1, yp2, yp3, yp4, yp5⟩ := kp.cells6
  obtain ⟨yq0, yq1, yq2, yq3, yq4, yq5⟩ := kq.cells6
  go_wp2_with fail
  refine (impl_differences W0 B (by omega) hp hq).mono ?_
  rintro e w1 ⟨fx0, fx1, fx2, fy0, fy1, fy2, lfx, hfxi, lfy, hfyi, rfl, ofx, ofy, glfx, glfy, ghfx, ghfy, hb1⟩
  clear yp0 yp1 yp2 yp3 yp4 yp5 yq0 yq1 yq2 yq3 yq4 yq5
  obtain ⟨fxb, fxA, fxn, fxc, fxD, fxm, fxk, rfl, rfl, rfl⟩ := ofx.cut
  obtain ⟨fyb, fyA, fyn, fyc, fyD, fym, fyk, rfl, rfl, rfl⟩ := ofy.cut
  have hs1 := hb1.size
  have hT1 := below_then hT0 hb1
  have kp := kp.below hb1 kp.lt
  have kq := kq.below hb1 kq.lt
  have kr := kr.below hb1 kr.lt
  have hp := hp.below (hb1.mono (by omega))
  have hq := hq.below (hb1.mono (by omega))
  have hr := hr.below (hb1.mono (by omega))
  clear hT0
  clear hb1
  obtain ⟨w2, hw2⟩ : ∃ x, x = ((w1.alloc (.cells #[.bool fxb, .slice fxA fxn fxc, .slice fxD fxm fxk] 27)).alloc (.cells #[.bool fyb, .slice fyA fyn fyc, .slice fyD fym fyk] 27)) := ⟨_, rfl⟩
  have hb2 : Below w1.heap.size w1 w2 := by rw [hw2]; exact below_alloc (below_new _ _) _
  have hq2 : w2.heap.size = w1.heap.size + 2 := by rw [hw2, alloc_size, alloc_size]
  have kfx : Box w2 (w1.heap.size) 27 #[.bool fxb, .slice fxA fxn fxc, .slice fxD fxm fxk] := by rw [hw2]; exact (Box.last _ _ _ (by omega)).alloc _
  have kfy : Box w2 (w1.heap.size + 1) 27 #[.bool fyb, .slice fyA fyn fyc, .slice fyD fym fyk] := by rw [hw2]; exact Box.last _ _ _ (by rw [alloc_size]; try omega)
  have hs2 := hb2.size
  have hT2 := below_then hT1 hb2
  have kp := kp.below hb2 kp.lt
  have kq := kq.below hb2 kq.lt
  have kr := kr.below hb2 kr.lt
  have hp := hp.below (hb2.mono (by omega))
  have hq := hq.below (hb2.mono (by omega))
  have hr := hr.below (hb2.mono (by omega))
  have ofx := ofx.below hb2 (by omega)
  have ofy := ofy.below hb2 (by omega)
  clear hT1
  go_upto_region 2 with fail
  rw [← hw2]
  clear hw2 hb2
  obtain ⟨yp0, yp1, yp2, yp3, yp4, yp5⟩ := kp.cells6
  obtain ⟨yr0, yr1, yr2, yr3, yr4, yr5⟩ := kr.cells6
  go_wp2_with fail
  refine (impl_differences w2 B (by omega) hp hr).mono ?_
  rintro e w3 ⟨sx0, sx1, sx2, sy0, sy1, sy2, lsx, hsxi, lsy, hsyi, rfl, osx, osy, glsx, glsy, ghsx, ghsy, hb3⟩
  clear yp0 yp1 yp2 yp3 yp4 yp5 yr0 yr1 yr2 yr3 yr4 yr5
  obtain ⟨sxb, sxA, sxn, sxc, sxD, sxm, sxk, rfl, rfl, rfl⟩ := osx.cut
  obtain ⟨syb, syA, syn, syc, syD, sym, syk, rfl, rfl, rfl⟩ := osy.cut
  have hs3 := hb3.size
  have hT3 := below_then hT2 hb3
  have kp := kp.below hb3 kp.lt
  have kq := kq.below hb3 kq.lt
  have kr := kr.below hb3 kr.lt
  have kfx := kfx.below hb3 kfx.lt
  have kfy := kfy.below hb3 kfy.lt
  have hp := hp.below (hb3.mono (by omega))
  have hq := hq.below (hb3.mono (by omega))
  have hr := hr.below (hb3.mono (by omega))
  have ofx := ofx.below hb3 (by omega)
  have ofy := ofy.below hb3 (by omega)
  clear hT2
  clear hb3
  obtain ⟨w4, hw4⟩ : ∃ x, x = ((w3.alloc (.cells #[.bool sxb, .slice sxA sxn sxc, .slice sxD sxm sxk] 27)).alloc (.cells #[.bool syb, .slice syA syn syc, .slice syD sym syk] 27)) := ⟨_, rfl⟩
  have hb4 : Below w3.heap.size w3 w4 := by rw [hw4]; exact below_alloc (below_new _ _) _
  have hq4 : w4.heap.size = w3.heap.size + 2 := by rw [hw4, alloc_size, alloc_size]
  have ksx : Box w4 (w3.heap.size) 27 #[.bool sxb, .slice sxA sxn sxc, .slice sxD sxm sxk] := by rw [hw4]; exact (Box.last _ _ _ (by omega)).alloc _
  have ksy : Box w4 (w3.heap.size + 1) 27 #[.bool syb, .slice syA syn syc, .slice syD sym syk] := by rw [hw4]; exact Box.last _ _ _ (by rw [alloc_size]; try omega)
  have hs4 := hb4.size
  have hT4 := below_then hT3 hb4
  have kp := kp.below hb4 kp.lt
  have kq := kq.below hb4 kq.lt
  have kr := kr.below hb4 kr.lt
  have kfx := kfx.below hb4 kfx.lt
  have kfy := kfy.below hb4 kfy.lt
  have hp := hp.below (hb4.mono (by omega))
  have hq := hq.below (hb4.mono (by omega))
  have hr := hr.below (hb4.mono (by omega))
  have ofx := ofx.below hb4 (by omega)
  have ofy := ofy.below hb4 (by omega)
  have osx := osx.below hb4 (by omega)
  have osy := osy.below hb4 (by omega)
  clear hT3
  go_upto_region 3 with fail
  rw [← hw4]
  clear hw4 hb4
  have hfx : QIn w4 w4.heap.size (.bool fxb) (.slice fxA fxn fxc) (.slice fxD fxm fxk) _ := ofx.in_ (subQ_fit _ _) (by omega)
  have hfy : QIn w4 w4.heap.size (.bool fyb) (.slice fyA fyn fyc) (.slice fyD fym fyk) _ := ofy.in_ (subQ_fit _ _) (by omega)
  have hsx : QIn w4 w4.heap.size (.bool sxb) (.slice sxA sxn sxc) (.slice sxD sxm sxk) _ := osx.in_ (subQ_fit _ _) (by omega)
  have hsy : QIn w4 w4.heap.size (.bool syb) (.slice syA syn syc) (.slice syD sym syk) _ := osy.in_ (subQ_fit _ _) (by omega)
  have HC1 := hide (fun (W : World) (h : Below w4.heap.size w4 W) => impl_mulQ W w4.heap.size h.size (hfx.below h) (hsy.below h))
  have HC2 := hide (fun (W : World) (h : Below w4.heap.size w4 W) => impl_mulQ W w4.heap.size h.size (hfy.below h) (hsx.below h))
  clear hp hq hr kp kq kr hfx ofx hfy ofy hsx osx hsy osy
  have HBfx := hide kfx
  have HBfy := hide kfy
  have HBsx := hide ksx
  have HBsy := hide ksy
  have HS0 : Hid (Below w4.heap.size w4 w4.drew) := (Below.refl _ _).drew
  have HKS := hide (fun (W : World) (hq : Below w4.heap.size w4 W) => (⟨(HBfx.out.below hq HBfx.out.lt).cell 0, (HBfx.out.below hq HBfx.out.lt).cell 1, (HBfx.out.below hq HBfx.out.lt).cell 2, (HBfy.out.below hq HBfy.out.lt).cell 0, (HBfy.out.below hq HBfy.out.lt).cell 1, (HBfy.out.below hq HBfy.out.lt).cell 2, (HBsx.out.below hq HBsx.out.lt).cell 0, (HBsx.out.below hq HBsx.out.lt).cell 1, (HBsx.out.below hq HBsx.out.lt).cell 2, (HBsy.out.below hq HBsy.out.lt).cell 0, (HBsy.out.below hq HBsy.out.lt).cell 1, (HBsy.out.below hq HBsy.out.lt).cell 2⟩ : W.cell? ⟨w1.heap.size, 0, none⟩ = some (.bool fxb) ∧ W.cell? ⟨w1.heap.size, 1, none⟩ = some (.slice fxA fxn fxc) ∧ W.cell? ⟨w1.heap.size, 2, none⟩ = some (.slice fxD fxm fxk) ∧ W.cell? ⟨w1.heap.size + 1, 0, none⟩ = some (.bool fyb) ∧ W.cell? ⟨w1.heap.size + 1, 1, none⟩ = some (.slice fyA fyn fyc) ∧ W.cell? ⟨w1.heap.size + 1, 2, none⟩ = some (.slice fyD fym fyk) ∧ W.cell? ⟨w3.heap.size, 0, none⟩ = some (.bool sxb) ∧ W.cell? ⟨w3.heap.size, 1, none⟩ = some (.slice sxA sxn sxc) ∧ W.cell? ⟨w3.heap.size, 2, none⟩ = some (.slice sxD sxm sxk) ∧ W.cell? ⟨w3.heap.size + 1, 0, none⟩ = some (.bool syb) ∧ W.cell? ⟨w3.heap.size + 1, 1, none⟩ = some (.slice syA syn syc) ∧ W.cell? ⟨w3.heap.size + 1, 2, none⟩ = some (.slice syD sym syk)))
  obtain ⟨yfx0, yfx1, yfx2⟩ := kfx.cells3
  obtain ⟨yfy0, yfy1, yfy2⟩ := kfy.cells3
  obtain ⟨ysx0, ysx1, ysx2⟩ := ksx.cells3
  obtain ⟨ysy0, ysy1, ysy2⟩ := ksy.cells3
  go_region_held3 (fun w' => w'.cell? ⟨w1.heap.size, 0, none⟩ = some (.bool fxb) ∧ w'.cell? ⟨w1.heap.size, 1, none⟩ = some (.slice fxA fxn fxc) ∧ w'.cell? ⟨w1.heap.size, 2, none⟩ = some (.slice fxD fxm fxk) ∧ w'.cell? ⟨w1.heap.size + 1, 0, none⟩ = some (.bool fyb) ∧ w'.cell? ⟨w1.heap.size + 1, 1, none⟩ = some (.slice fyA fyn fyc) ∧ w'.cell? ⟨w1.heap.size + 1, 2, none⟩ = some (.slice fyD fym fyk) ∧ w'.cell? ⟨w3.heap.size, 0, none⟩ = some (.bool sxb) ∧ w'.cell? ⟨w3.heap.size, 1, none⟩ = some (.slice sxA sxn sxc) ∧ w'.cell? ⟨w3.heap.size, 2, none⟩ = some (.slice sxD sxm sxk) ∧ w'.cell? ⟨w3.heap.size + 1, 0, none⟩ = some (.bool syb) ∧ w'.cell? ⟨w3.heap.size + 1, 1, none⟩ = some (.slice syA syn syc) ∧ w'.cell? ⟨w3.heap.size + 1, 2, none⟩ = some (.slice syD sym syk))
      (first | (with_reducible exact HKS.out _ HS4.out) | (with_reducible exact HKS.out _ HS3.out) | (with_reducible exact HKS.out _ HS2.out) | (with_reducible exact HKS.out _ HS1.out) | (with_reducible exact HKS.out _ HS0.out))
      (first
        | (go_at_call 14; have HX := HS3.out; refine (impl_signQ u3 u3.heap.size (Nat.le_refl _) qz).mono ?_; rintro e u4 ⟨rfl, hb4⟩; have qx := qx.up hb4; have ox := ox.below hb4 (by omega); have qy := qy.up hb4; have oy := oy.below hb4 (by omega); have qz := qz.up hb4; have oz := oz.below hb4 (by omega); have hz4 : u3.heap.size ≤ u4.heap.size := hb4.size; have HS4 := hide (below_then HX hb4); clear HX)
        | (go_at_call 11; have HX := HS2.out; refine (impl_subQ u2 u2.heap.size (Nat.le_refl _) qx qy).mono ?_; rintro e u3 ⟨z0, z1, z2, rfl, oz, hb3⟩; obtain ⟨zb, zA, zn, zc, zD, zm, zk, rfl, rfl, rfl⟩ := oz.cut; have oz : QOwn u3 u2.heap.size u3.heap.size 3 (.bool zb) (.slice zA zn zc) (.slice zD zm zk) (subQ (mulQ (subQ qZ.1 pZ.1) (subQ rZ.2 pZ.2)) (mulQ (subQ qZ.2 pZ.2) (subQ rZ.1 pZ.1))) := oz; have qz := oz.in_ (subQ_fit _ _) (Nat.le_refl _); have qx := qx.up hb3; have ox := ox.below hb3 (by omega); have qy := qy.up hb3; have oy := oy.below hb3 (by omega); have hz3 : u2.heap.size ≤ u3.heap.size := hb3.size; have HS3 := hide (below_then HX hb3); clear HX)
        | (go_at_call 17; have HX := HS1.out; refine (HC2.out _ HS1.out).mono ?_; rintro e u2 ⟨y0, y1, y2, rfl, oy, hb2⟩; obtain ⟨yb, yA, yn, yc, yD, ym, yk, rfl, rfl, rfl⟩ := oy.cut; have oy : QOwn u2 u1.heap.size u2.heap.size 3 (.bool yb) (.slice yA yn yc) (.slice yD ym yk) (mulQ (subQ qZ.2 pZ.2) (subQ rZ.1 pZ.1)) := oy; have qy := oy.in_ (mulQ_fit _ _) (Nat.le_refl _); have qx := qx.up hb2; have ox := ox.below hb2 (by omega); have hz2 : u1.heap.size ≤ u2.heap.size := hb2.size; have HS2 := hide (below_then HX hb2); clear HX)
        | (go_at_call 17; have HX := HS0.out; refine (HC1.out _ HS0.out).mono ?_; rintro e u1 ⟨x0, x1, x2, rfl, ox, hb1⟩; obtain ⟨xb, xA, xn, xc, xD, xm, xk, rfl, rfl, rfl⟩ := ox.cut; have ox : QOwn u1 w4.heap.size u1.heap.size 3 (.bool xb) (.slice xA xn xc) (.slice xD xm xk) (mulQ (subQ qZ.1 pZ.1) (subQ rZ.2 pZ.2)) := ox; have qx := ox.in_ (mulQ_fit _ _) (Nat.le_refl _); have hz1 : w4.heap.size ≤ u1.heap.size := hb1.size; have HS1 := hide (below_then HX hb1); clear HX))
  have hTT := below_then hT4 HS4.out
  go_wp2_with fail
  go_ret
  exact ⟨rfl, hTT⟩
set_option maxRecDepth 100000 in
set_option maxHeartbeats 3200000 in
theorem impl_SquareDistance (w : World) (B : Nat) (hB : B ≤ w.heap.size) {p0 p1 p2 p3 p4 p5 : Value} {pZ : PQ} (hp : PIn w B p0 p1 p2 p3 p4 p5 pZ) {q0 q1 q2 q3 q4 q5 : Value} {qZ : PQ} (hq : PIn w B q0 q1 q2 q3 q4 q5 qZ) :
    Calls Tryz.prog 28 #[.agg #[p0, p1, p2, p3, p4, p5], .agg #[q0, q1, q2, q3, q4, q5]] w fun e w' => QRes 3 w w' e (distP pZ qZ) := by
  obtain ⟨W0, hW0⟩ : ∃ W0, W0 = (((w.alloc (.cells #[p0, p1, p2, p3, p4, p5] 38)).alloc (.cells #[q0, q1, q2, q3, q4, q5] 38)).alloc (.cells #[.bool false, .slice none 0 0, .slice none 0 0] 27)) := ⟨_, rfl⟩
  have hT0 : Below w.heap.size w W0 := by rw [hW0]; exact below_alloc (below_alloc (below_new _ _) _) _
  have kp : Box W0 (w.heap.size) 38 #[p0, p1, p2, p3, p4, p5] := by rw [hW0]; exact ((Box.last _ _ _ rfl).alloc _).alloc _
  have kq : Box W0 (w.heap.size + 1) 38 #[q0, q1, q2, q3, q4, q5] := by rw [hW0]; exact (Box.last _ _ _ (alloc_size _ _).symm).alloc _
  have kr : Box W0 (w.heap.size + 2) 27 #[.bool false, .slice none 0 0, .slice none 0 0] := by rw [hW0]; exact Box.last _ _ _ (by rw [alloc_size, alloc_size])
  have hs0 : W0.heap.size = w.heap.size + 3 := by rw [hW0, alloc_size, alloc_size, alloc_size]
  have hp := hp.below (hT0.mono hB)
  have hq := hq.below (hT0.mono hB)
  go_enter Tryz.func28, Tryz.ntmps28
  go_upto_region 1 with fail
  rw [← hW0]
  clear hW0
  obtain ⟨yp0, yp1, yp2, yp3, yp4, yp5⟩ := kp.cells6
  obtain ⟨yq0, yq1, yq2, yq3, yq4, yq5⟩ := kq.cells6
  go_wp2_with fail
  refine (impl_differences W0 B (by omega) hp hq).mono ?_
  rintro e w1 ⟨fx0, fx1, fx2, fy0, fy1, fy2, lfx, hfxi, lfy, hfyi, rfl, ofx, ofy, glfx, glfy, ghfx, ghfy, hb1⟩
  clear yp0 yp1 yp2 yp3 yp4 yp5 yq0 yq1 yq2 yq3 yq4 yq5
  obtain ⟨fxb, fxA, fxn, fxc, fxD, fxm, fxk, rfl, rfl, rfl⟩ := ofx.cut
  obtain ⟨fyb, fyA, fyn, fyc, fyD, fym, fyk, rfl, rfl, rfl⟩ := ofy.cut
  have hs1 := hb1.size
  have hT1 := below_then hT0 hb1
  have kp := kp.below hb1 kp.lt
  have kq := kq.below hb1 kq.lt
  have kr := kr.below hb1 kr.lt
  have hp := hp.below (hb1.mono (by omega))
  have hq := hq.below (hb1.mono (by omega))
  clear hT0
  clear hb1
  obtain ⟨w2, hw2⟩ : ∃ x, x = ((w1.alloc (.cells #[.bool fxb, .slice fxA fxn fxc, .slice fxD fxm fxk] 27)).alloc (.cells #[.bool fyb, .slice fyA fyn fyc, .slice fyD fym fyk] 27)) := ⟨_, rfl⟩
  have hb2 : Below w1.heap.size w1 w2 := by rw [hw2]; exact below_alloc (below_new _ _) _
  have hq2 : w2.heap.size = w1.heap.size + 2 := by rw [hw2, alloc_size, alloc_size]
  have kfx : Box w2 (w1.heap.size) 27 #[.bool fxb, .slice fxA fxn fxc, .slice fxD fxm fxk] := by rw [hw2]; exact (Box.last _ _ _ (by omega)).alloc _
  have kfy : Box w2 (w1.heap.size + 1) 27 #[.bool fyb, .slice fyA fyn fyc, .slice fyD fym fyk] := by rw [hw2]; exact Box.last _ _ _ (by rw [alloc_size]; try omega)
  have hs2 := hb2.size
  have hT2 := below_then hT1 hb2
  have kp := kp.below hb2 kp.lt
  have kq := kq.below hb2 kq.lt
  have kr := kr.below hb2 kr.lt
  have hp := hp.below (hb2.mono (by omega))
  have hq := hq.below (hb2.mono (by omega))
  have ofx := ofx.below hb2 (by omega)
  have ofy := ofy.below hb2 (by omega)
  clear hT1
  go_upto_region 2 with fail
  rw [← hw2]
  clear hw2 hb2
  have hfx : QIn w2 w2.heap.size (.bool fxb) (.slice fxA fxn fxc) (.slice fxD fxm fxk) _ := ofx.in_ (subQ_fit _ _) (by omega)
  have hfy : QIn w2 w2.heap.size (.bool fyb) (.slice fyA fyn fyc) (.slice fyD fym fyk) _ := ofy.in_ (subQ_fit _ _) (by omega)
  have HC1 := hide (fun (W : World) (h : Below w2.heap.size w2 W) => impl_mulQ W w2.heap.size h.size (hfx.below h) (hfx.below h))
  have HC2 := hide (fun (W : World) (h : Below w2.heap.size w2 W) => impl_mulQ W w2.heap.size h.size (hfy.below h) (hfy.below h))
  clear hp hq kp kq hfx ofx hfy ofy
  have HBfx := hide kfx
  have HBfy := hide kfy
  have HS0 : Hid (Below w2.heap.size w2 w2.drew) := (Below.refl _ _).drew
  have HKS := hide (fun (W : World) (hq : Below w2.heap.size w2 W) => (⟨(HBfx.out.below hq HBfx.out.lt).cell 0, (HBfx.out.below hq HBfx.out.lt).cell 1, (HBfx.out.below hq HBfx.out.lt).cell 2, (HBfy.out.below hq HBfy.out.lt).cell 0, (HBfy.out.below hq HBfy.out.lt).cell 1, (HBfy.out.below hq HBfy.out.lt).cell 2⟩ : W.cell? ⟨w1.heap.size, 0, none⟩ = some (.bool fxb) ∧ W.cell? ⟨w1.heap.size, 1, none⟩ = some (.slice fxA fxn fxc) ∧ W.cell? ⟨w1.heap.size, 2, none⟩ = some (.slice fxD fxm fxk) ∧ W.cell? ⟨w1.heap.size + 1, 0, none⟩ = some (.bool fyb) ∧ W.cell? ⟨w1.heap.size + 1, 1, none⟩ = some (.slice fyA fyn fyc) ∧ W.cell? ⟨w1.heap.size + 1, 2, none⟩ = some (.slice fyD fym fyk)))
  have HRr := hide kr
  have HKT0 := hide (fun (W : World) (hq : Below w2.heap.size w2 W) (x0 x1 x2 : Value) => (⟨((((HBfx.out.below hq HBfx.out.lt).setv (show w1.heap.size ≠ w.heap.size + 2 by omega) 0 x0).setv (show w1.heap.size ≠ w.heap.size + 2 by omega) 1 x1).setv (show w1.heap.size ≠ w.heap.size + 2 by omega) 2 x2).cell 0, ((((HBfx.out.below hq HBfx.out.lt).setv (show w1.heap.size ≠ w.heap.size + 2 by omega) 0 x0).setv (show w1.heap.size ≠ w.heap.size + 2 by omega) 1 x1).setv (show w1.heap.size ≠ w.heap.size + 2 by omega) 2 x2).cell 1, ((((HBfx.out.below hq HBfx.out.lt).setv (show w1.heap.size ≠ w.heap.size + 2 by omega) 0 x0).setv (show w1.heap.size ≠ w.heap.size + 2 by omega) 1 x1).setv (show w1.heap.size ≠ w.heap.size + 2 by omega) 2 x2).cell 2, ((((HBfy.out.below hq HBfy.out.lt).setv (show w1.heap.size + 1 ≠ w.heap.size + 2 by omega) 0 x0).setv (show w1.heap.size + 1 ≠ w.heap.size + 2 by omega) 1 x1).setv (show w1.heap.size + 1 ≠ w.heap.size + 2 by omega) 2 x2).cell 0, ((((HBfy.out.below hq HBfy.out.lt).setv (show w1.heap.size + 1 ≠ w.heap.size + 2 by omega) 0 x0).setv (show w1.heap.size + 1 ≠ w.heap.size + 2 by omega) 1 x1).setv (show w1.heap.size + 1 ≠ w.heap.size + 2 by omega) 2 x2).cell 1, ((((HBfy.out.below hq HBfy.out.lt).setv (show w1.heap.size + 1 ≠ w.heap.size + 2 by omega) 0 x0).setv (show w1.heap.size + 1 ≠ w.heap.size + 2 by omega) 1 x1).setv (show w1.heap.size + 1 ≠ w.heap.size + 2 by omega) 2 x2).cell 2⟩ : (((W.setCell ⟨w.heap.size + 2, 0, none⟩ x0).setCell ⟨w.heap.size + 2, 1, none⟩ x1).setCell ⟨w.heap.size + 2, 2, none⟩ x2).cell? ⟨w1.heap.size, 0, none⟩ = some (.bool fxb) ∧ (((W.setCell ⟨w.heap.size + 2, 0, none⟩ x0).setCell ⟨w.heap.size + 2, 1, none⟩ x1).setCell ⟨w.heap.size + 2, 2, none⟩ x2).cell? ⟨w1.heap.size, 1, none⟩ = some (.slice fxA fxn fxc) ∧ (((W.setCell ⟨w.heap.size + 2, 0, none⟩ x0).setCell ⟨w.heap.size + 2, 1, none⟩ x1).setCell ⟨w.heap.size + 2, 2, none⟩ x2).cell? ⟨w1.heap.size, 2, none⟩ = some (.slice fxD fxm fxk) ∧ (((W.setCell ⟨w.heap.size + 2, 0, none⟩ x0).setCell ⟨w.heap.size + 2, 1, none⟩ x1).setCell ⟨w.heap.size + 2, 2, none⟩ x2).cell? ⟨w1.heap.size + 1, 0, none⟩ = some (.bool fyb) ∧ (((W.setCell ⟨w.heap.size + 2, 0, none⟩ x0).setCell ⟨w.heap.size + 2, 1, none⟩ x1).setCell ⟨w.heap.size + 2, 2, none⟩ x2).cell? ⟨w1.heap.size + 1, 1, none⟩ = some (.slice fyA fyn fyc) ∧ (((W.setCell ⟨w.heap.size + 2, 0, none⟩ x0).setCell ⟨w.heap.size + 2, 1, none⟩ x1).setCell ⟨w.heap.size + 2, 2, none⟩ x2).cell? ⟨w1.heap.size + 1, 2, none⟩ = some (.slice fyD fym fyk)))
  obtain ⟨yfx0, yfx1, yfx2⟩ := kfx.cells3
  obtain ⟨yfy0, yfy1, yfy2⟩ := kfy.cells3
  go_region_held3 (fun w' => w'.cell? ⟨w1.heap.size, 0, none⟩ = some (.bool fxb) ∧ w'.cell? ⟨w1.heap.size, 1, none⟩ = some (.slice fxA fxn fxc) ∧ w'.cell? ⟨w1.heap.size, 2, none⟩ = some (.slice fxD fxm fxk) ∧ w'.cell? ⟨w1.heap.size + 1, 0, none⟩ = some (.bool fyb) ∧ w'.cell? ⟨w1.heap.size + 1, 1, none⟩ = some (.slice fyA fyn fyc) ∧ w'.cell? ⟨w1.heap.size + 1, 2, none⟩ = some (.slice fyD fym fyk))
      (first | (with_reducible exact HKT0.out _ HS3.out _ _ _) | (with_reducible exact HKS.out _ HS3.out) | (with_reducible exact HKS.out _ HS2.out) | (with_reducible exact HKS.out _ HS1.out) | (with_reducible exact HKS.out _ HS0.out))
      (first
        | (go_at_call 12; have HX := HS2.out; refine (impl_addQ u2 u2.heap.size (Nat.le_refl _) qx qy).mono ?_; rintro e u3 ⟨z0, z1, z2, rfl, oz, hb3⟩; obtain ⟨zb, zA, zn, zc, zD, zm, zk, rfl, rfl, rfl⟩ := oz.cut; have oz : QOwn u3 u2.heap.size u3.heap.size 3 (.bool zb) (.slice zA zn zc) (.slice zD zm zk) (addQ (mulQ (subQ qZ.1 pZ.1) (subQ qZ.1 pZ.1)) (mulQ (subQ qZ.2 pZ.2) (subQ qZ.2 pZ.2))) := oz; have qz := oz.in_ (addQ_fit _ _) (Nat.le_refl _); have qx := qx.up hb3; have ox := ox.below hb3 (by omega); have qy := qy.up hb3; have oy := oy.below hb3 (by omega); have hz3 : u2.heap.size ≤ u3.heap.size := hb3.size; have HS3 := hide (below_then HX hb3); clear HX; have hTT := below_then hT2 HS3.out; have kR := HRr.out.below HS3.out HRr.out.lt; obtain ⟨tr0, tr1, tr2, fr0, fr1, fr2⟩ := kR.facts3)
        | (go_at_call 17; have HX := HS1.out; refine (HC2.out _ HS1.out).mono ?_; rintro e u2 ⟨y0, y1, y2, rfl, oy, hb2⟩; obtain ⟨yb, yA, yn, yc, yD, ym, yk, rfl, rfl, rfl⟩ := oy.cut; have oy : QOwn u2 u1.heap.size u2.heap.size 3 (.bool yb) (.slice yA yn yc) (.slice yD ym yk) (mulQ (subQ qZ.2 pZ.2) (subQ qZ.2 pZ.2)) := oy; have qy := oy.in_ (mulQ_fit _ _) (Nat.le_refl _); have qx := qx.up hb2; have ox := ox.below hb2 (by omega); have hz2 : u1.heap.size ≤ u2.heap.size := hb2.size; have HS2 := hide (below_then HX hb2); clear HX)
        | (go_at_call 17; have HX := HS0.out; refine (HC1.out _ HS0.out).mono ?_; rintro e u1 ⟨x0, x1, x2, rfl, ox, hb1⟩; obtain ⟨xb, xA, xn, xc, xD, xm, xk, rfl, rfl, rfl⟩ := ox.cut; have ox : QOwn u1 w2.heap.size u1.heap.size 3 (.bool xb) (.slice xA xn xc) (.slice xD xm xk) (mulQ (subQ qZ.1 pZ.1) (subQ qZ.1 pZ.1)) := ox; have qx := ox.in_ (mulQ_fit _ _) (Nat.le_refl _); have hz1 : w2.heap.size ≤ u1.heap.size := hb1.size; have HS1 := hide (below_then HX hb1); clear HX))
  have HO := hide (ret_q kR oz hTT (by omega) (by omega) (Nat.le_refl _) (.inl (by omega)))
  clear kR ox oy oz qx qy qz hTT hb1 hb2 hb3
  go_wp2_with fail
  refine bodyPost_ret (results_cell_row rfl _ _ (w.heap.size + 2) _ #[.bool zb, .slice zA zn zc, .slice zD zm zk] (0, 0) _ rfl HO.out.1 Tryz.underlying27 rfl Tryz.sizeRat) rfl ?_
  exact ⟨_, _, _, rfl, HO.out.2.1, HO.out.2.2⟩
end Go.Proofs.YtnbaookdeijhhaaGreatDoor

/-
  The program's points: contracts (4): validPoint, MovePoint.
-/




namespace Go.Proofs.YtnbaookdeijhhaaGreatDoor
open Go.RowKit
set_option linter.unusedVariables false
set_option maxRecDepth 100000 in
set_option maxHeartbeats 1600000 in
theorem impl_validPoint (w : World) (lo hi : Nat) {x0 x1 x2 y0 y1 y2 : Value} {P : PQ} (o : POwn w lo hi 3 x0 x1 x2 y0 y1 y2 P) (hf : PFit P) (hl : lo ≤ hi) (hh : hi ≤ w.heap.size) :
    Calls Tryz.prog 64 #[.agg #[x0, x1, x2], .agg #[y0, y1, y2]] w fun e w' => ∃ v0 v1 v2 v3 v4 v5, e = .returned (.agg #[v0, v1, v2, v3, v4, v5]) ∧ POwn w' lo hi 3 v0 v1 v2 v3 v4 v5 (sureP P) ∧ Below w.heap.size w w' := by
  obtain ⟨xb, xA, xn, xc, xD, xm, xk, yb, yA, yn, yc, yD, ym, yk, rfl, rfl, rfl, rfl, rfl, rfl⟩ := o.cut
  have hB : w.heap.size ≤ w.heap.size := Nat.le_refl _
  have HSV : Hid (sureP P = if ratQ P.1 && ratQ P.2 then P else (noR, noR)) := rfl
  generalize sureP P = SP at HSV ⊢
  obtain ⟨W0, hW0⟩ : ∃ W0, W0 = (((w.alloc (.cells #[.bool xb, .slice xA xn xc, .slice xD xm xk] 27)).alloc (.cells #[.bool yb, .slice yA yn yc, .slice yD ym yk] 27)).alloc (.cells #[.bool false, .slice none 0 0, .slice none 0 0, .bool false, .slice none 0 0, .slice none 0 0] 38)) := ⟨_, rfl⟩
  have hT0 : Below w.heap.size w W0 := by rw [hW0]; exact below_alloc (below_alloc (below_new _ _) _) _
  have kx : Box W0 (w.heap.size) 27 #[.bool xb, .slice xA xn xc, .slice xD xm xk] := by rw [hW0]; exact ((Box.last _ _ _ rfl).alloc _).alloc _
  have ky : Box W0 (w.heap.size + 1) 27 #[.bool yb, .slice yA yn yc, .slice yD ym yk] := by rw [hW0]; exact (Box.last _ _ _ (alloc_size _ _).symm).alloc _
  have kr : Box W0 (w.heap.size + 2) 38 #[.bool false, .slice none 0 0, .slice none 0 0, .bool false, .slice none 0 0, .slice none 0 0] := by rw [hW0]; exact Box.last _ _ _ (by rw [alloc_size, alloc_size])
  have hs0 : W0.heap.size = w.heap.size + 3 := by rw [hW0, alloc_size, alloc_size, alloc_size]
  have o := o.below hT0 hh
  go_enter Tryz.func64, Tryz.ntmps64
  go_upto_region 1 with fail
  rw [← hW0]
  clear hW0
  obtain ⟨yx0, yx1, yx2⟩ := kx.cells3
  obtain ⟨yy0, yy1, yy2⟩ := ky.cells3
  obtain ⟨w1, hw1⟩ : ∃ x, x = (W0.alloc (.cells #[.bool xb, .slice xA xn xc, .slice xD xm xk, .bool yb, .slice yA yn yc, .slice yD ym yk] 38)) := ⟨_, rfl⟩
  have hb1 : Below W0.heap.size W0 w1 := by rw [hw1]; exact below_new _ _
  have hq1 : w1.heap.size = W0.heap.size + 1 := by rw [hw1, alloc_size]
  have kv : Box w1 (w.heap.size + 3) 38 #[.bool xb, .slice xA xn xc, .slice xD xm xk, .bool yb, .slice yA yn yc, .slice yD ym yk] := by rw [hw1]; exact Box.last _ _ _ (by omega)
  have hs1 := hb1.size
  have hT1 := below_then hT0 hb1
  have kx := kx.below hb1 kx.lt
  have ky := ky.below hb1 ky.lt
  have kr := kr.below hb1 kr.lt
  clear hT0
  go_upto_region 2 with fail
  rw [← hw1]
  clear hw1
  clear yx0 yx1 yx2 yy0 yy1 yy2
  have o := o.below hb1 (by omega)
  clear hb1
  have hI : PIn w1 w1.heap.size (.bool xb) (.slice xA xn xc) (.slice xD xm xk) (.bool yb) (.slice yA yn yc) (.slice yD ym yk) P := o.in_ hf (by omega)
  obtain ⟨yv0, yv1, yv2, yv3, yv4, yv5⟩ := kv.cells6
  go_wp2_with fail
  refine (impl_IsValidPoint w1 w1.heap.size (Nat.le_refl _) hI).mono ?_
  rintro e w2 ⟨rfl, hb2⟩
  clear yv0 yv1 yv2 yv3 yv4 yv5
  clear hI
  have hs2 := hb2.size
  have hT2 := below_then hT1 hb2
  have kx := kx.below hb2 kx.lt
  have ky := ky.below hb2 ky.lt
  have kr := kr.below hb2 kr.lt
  have kv := kv.below hb2 kv.lt
  clear hT1
  have o := o.below hb2 (by omega)
  clear hb2
  by_cases hv : (ratQ P.1 && ratQ P.2) = true
  · rw [hv]
    have hz : SP = P := by rw [HSV.out, hv]; rfl
    subst hz
    obtain ⟨⟨yr0, yr1, yr2, yr3, yr4, yr5⟩, zr0, zr1, zr2, zr3, zr4, zr5⟩ := kr.facts6
    obtain ⟨yv0, yv1, yv2, yv3, yv4, yv5⟩ := kv.cells6
    clear HSV hv
    have HO := hide (⟨((((((kr.set 0 _).set 1 _).set 2 _).set 3 _).set 4 _).set 5 _), ((((((o.setv (.inr (by omega)) 0 _).setv (.inr (by omega)) 1 _).setv (.inr (by omega)) 2 _).setv (.inr (by omega)) 3 _).setv (.inr (by omega)) 4 _).setv (.inr (by omega)) 5 _), ((((((hT2.setCell (p := ⟨w.heap.size + 2, 0, none⟩) (show w.heap.size ≤ w.heap.size + 2 by omega) _).setCell (p := ⟨w.heap.size + 2, 1, none⟩) (show w.heap.size ≤ w.heap.size + 2 by omega) _).setCell (p := ⟨w.heap.size + 2, 2, none⟩) (show w.heap.size ≤ w.heap.size + 2 by omega) _).setCell (p := ⟨w.heap.size + 2, 3, none⟩) (show w.heap.size ≤ w.heap.size + 2 by omega) _).setCell (p := ⟨w.heap.size + 2, 4, none⟩) (show w.heap.size ≤ w.heap.size + 2 by omega) _).setCell (p := ⟨w.heap.size + 2, 5, none⟩) (show w.heap.size ≤ w.heap.size + 2 by omega) _)⟩ : Box ((((((w2.setCell ⟨w.heap.size + 2, 0, none⟩ (.bool xb)).setCell ⟨w.heap.size + 2, 1, none⟩ (.slice xA xn xc)).setCell ⟨w.heap.size + 2, 2, none⟩ (.slice xD xm xk)).setCell ⟨w.heap.size + 2, 3, none⟩ (.bool yb)).setCell ⟨w.heap.size + 2, 4, none⟩ (.slice yA yn yc)).setCell ⟨w.heap.size + 2, 5, none⟩ (.slice yD ym yk)) (w.heap.size + 2) 38 #[.bool xb, .slice xA xn xc, .slice xD xm xk, .bool yb, .slice yA yn yc, .slice yD ym yk] ∧ POwn ((((((w2.setCell ⟨w.heap.size + 2, 0, none⟩ (.bool xb)).setCell ⟨w.heap.size + 2, 1, none⟩ (.slice xA xn xc)).setCell ⟨w.heap.size + 2, 2, none⟩ (.slice xD xm xk)).setCell ⟨w.heap.size + 2, 3, none⟩ (.bool yb)).setCell ⟨w.heap.size + 2, 4, none⟩ (.slice yA yn yc)).setCell ⟨w.heap.size + 2, 5, none⟩ (.slice yD ym yk)) lo hi 3 (.bool xb) (.slice xA xn xc) (.slice xD xm xk) (.bool yb) (.slice yA yn yc) (.slice yD ym yk) SP ∧ Below w.heap.size w ((((((w2.setCell ⟨w.heap.size + 2, 0, none⟩ (.bool xb)).setCell ⟨w.heap.size + 2, 1, none⟩ (.slice xA xn xc)).setCell ⟨w.heap.size + 2, 2, none⟩ (.slice xD xm xk)).setCell ⟨w.heap.size + 2, 3, none⟩ (.bool yb)).setCell ⟨w.heap.size + 2, 4, none⟩ (.slice yA yn yc)).setCell ⟨w.heap.size + 2, 5, none⟩ (.slice yD ym yk)))
    clear o hf
    go_wp2_with fail
    refine bodyPost_ret (results_cell_row rfl _ _ (w.heap.size + 2) _ #[.bool xb, .slice xA xn xc, .slice xD xm xk, .bool yb, .slice yA yn yc, .slice yD ym yk] (0, 0) _ rfl HO.out.1 Tryz.underlying38 rfl Tryz.sizePoint) rfl ?_
    exact ⟨_, _, _, _, _, _, rfl, HO.out.2.1, HO.out.2.2⟩
  · have hv : (ratQ P.1 && ratQ P.2) = false := by simpa using hv
    rw [hv]
    have hz : SP = (noR, noR) := by rw [HSV.out, hv]; rfl
    subst hz
    have oz := POwn.zero w2 lo hi 3 hl
    obtain ⟨⟨yr0, yr1, yr2, yr3, yr4, yr5⟩, zr0, zr1, zr2, zr3, zr4, zr5⟩ := kr.facts6
    clear HSV hv
    have HO := hide (⟨((((((kr.set 0 _).set 1 _).set 2 _).set 3 _).set 4 _).set 5 _), ((((((oz.setv (.inr (by omega)) 0 _).setv (.inr (by omega)) 1 _).setv (.inr (by omega)) 2 _).setv (.inr (by omega)) 3 _).setv (.inr (by omega)) 4 _).setv (.inr (by omega)) 5 _), ((((((hT2.setCell (p := ⟨w.heap.size + 2, 0, none⟩) (show w.heap.size ≤ w.heap.size + 2 by omega) _).setCell (p := ⟨w.heap.size + 2, 1, none⟩) (show w.heap.size ≤ w.heap.size + 2 by omega) _).setCell (p := ⟨w.heap.size + 2, 2, none⟩) (show w.heap.size ≤ w.heap.size + 2 by omega) _).setCell (p := ⟨w.heap.size + 2, 3, none⟩) (show w.heap.size ≤ w.heap.size + 2 by omega) _).setCell (p := ⟨w.heap.size + 2, 4, none⟩) (show w.heap.size ≤ w.heap.size + 2 by omega) _).setCell (p := ⟨w.heap.size + 2, 5, none⟩) (show w.heap.size ≤ w.heap.size + 2 by omega) _)⟩ : Box ((((((w2.setCell ⟨w.heap.size + 2, 0, none⟩ (.bool false)).setCell ⟨w.heap.size + 2, 1, none⟩ (.slice none 0 0)).setCell ⟨w.heap.size + 2, 2, none⟩ (.slice none 0 0)).setCell ⟨w.heap.size + 2, 3, none⟩ (.bool false)).setCell ⟨w.heap.size + 2, 4, none⟩ (.slice none 0 0)).setCell ⟨w.heap.size + 2, 5, none⟩ (.slice none 0 0)) (w.heap.size + 2) 38 #[.bool false, .slice none 0 0, .slice none 0 0, .bool false, .slice none 0 0, .slice none 0 0] ∧ POwn ((((((w2.setCell ⟨w.heap.size + 2, 0, none⟩ (.bool false)).setCell ⟨w.heap.size + 2, 1, none⟩ (.slice none 0 0)).setCell ⟨w.heap.size + 2, 2, none⟩ (.slice none 0 0)).setCell ⟨w.heap.size + 2, 3, none⟩ (.bool false)).setCell ⟨w.heap.size + 2, 4, none⟩ (.slice none 0 0)).setCell ⟨w.heap.size + 2, 5, none⟩ (.slice none 0 0)) lo hi 3 (.bool false) (.slice none 0 0) (.slice none 0 0) (.bool false) (.slice none 0 0) (.slice none 0 0) (noR, noR) ∧ Below w.heap.size w ((((((w2.setCell ⟨w.heap.size + 2, 0, none⟩ (.bool false)).setCell ⟨w.heap.size + 2, 1, none⟩ (.slice none 0 0)).setCell ⟨w.heap.size + 2, 2, none⟩ (.slice none 0 0)).setCell ⟨w.heap.size + 2, 3, none⟩ (.bool false)).setCell ⟨w.heap.size + 2, 4, none⟩ (.slice none 0 0)).setCell ⟨w.heap.size + 2, 5, none⟩ (.slice none 0 0)))
    clear o hf oz
    go_wp2_with fail
    refine bodyPost_ret (results_cell_row rfl _ _ (w.heap.size + 2) _ #[.bool false, .slice none 0 0, .slice none 0 0, .bool false, .slice none 0 0, .slice none 0 0] (0, 0) _ rfl HO.out.1 Tryz.underlying38 rfl Tryz.sizePoint) rfl ?_
    exact ⟨_, _, _, _, _, _, rfl, HO.out.2.1, HO.out.2.2⟩
set_option maxRecDepth 100000 in
set_option maxHeartbeats 3200000 in
theorem impl_MovePoint (w : World) (B : Nat) (hB : B ≤ w.heap.size) {p0 p1 p2 p3 p4 p5 : Value} {pZ : PQ} (hp : PIn w B p0 p1 p2 p3 p4 p5 pZ) (mx my : Int) (hmx : (Lit.int .i64 mx).wf = true) (hmy : (Lit.int .i64 my).wf = true) :
    Calls Tryz.prog 29 #[.agg #[p0, p1, p2, p3, p4, p5], .agg #[.int .i64 mx, .int .i64 my]] w fun e w' => PRes 3 w w' e (moveP pZ mx my) := by
  rw [show moveP pZ mx my = sureP (addQ pZ.1 (intQ mx), addQ pZ.2 (intQ my)) from rfl]
  obtain ⟨W0, hW0⟩ : ∃ W0, W0 = (((w.alloc (.cells #[p0, p1, p2, p3, p4, p5] 38)).alloc (.cells #[.int .i64 mx, .int .i64 my] 41)).alloc (.cells #[.bool false, .slice none 0 0, .slice none 0 0, .bool false, .slice none 0 0, .slice none 0 0] 38)) := ⟨_, rfl⟩
  have hT0 : Below w.heap.size w W0 := by rw [hW0]; exact below_alloc (below_alloc (below_new _ _) _) _
  have kp : Box W0 (w.heap.size) 38 #[p0, p1, p2, p3, p4, p5] := by rw [hW0]; exact ((Box.last _ _ _ rfl).alloc _).alloc _
  have km : Box W0 (w.heap.size + 1) 41 #[.int .i64 mx, .int .i64 my] := by rw [hW0]; exact (Box.last _ _ _ (alloc_size _ _).symm).alloc _
  have kr : Box W0 (w.heap.size + 2) 38 #[.bool false, .slice none 0 0, .slice none 0 0, .bool false, .slice none 0 0, .slice none 0 0] := by rw [hW0]; exact Box.last _ _ _ (by rw [alloc_size, alloc_size])
  have hs0 : W0.heap.size = w.heap.size + 3 := by rw [hW0, alloc_size, alloc_size, alloc_size]
  have hp := hp.below (hT0.mono hB)
  go_enter Tryz.func29, Tryz.ntmps29
  go_upto_region 1 with fail
  rw [← hW0]
  clear hW0
  obtain ⟨ym0, ym1⟩ := km.cells2
  go_wp2_with fail
  refine (impl_PointOf W0 mx my hmx hmy).mono ?_
  rintro e w1 ⟨b0, b1, b2, b3, b4, b5, rfl, ob, hb1⟩
  clear ym0 ym1
  obtain ⟨bb, bA, bn, bc, bD, bm, bk, byb, byA, byn, byc, byD, bym, byk, rfl, rfl, rfl, rfl, rfl, rfl⟩ := ob.cut
  have hs1 := hb1.size
  have hT1 := below_then hT0 hb1
  have kp := kp.below hb1 kp.lt
  have km := km.below hb1 km.lt
  have kr := kr.below hb1 kr.lt
  have hp := hp.below (hb1.mono (by omega))
  clear hT0
  clear hb1
  obtain ⟨w2, hw2⟩ : ∃ x, x = (w1.alloc (.cells #[.bool bb, .slice bA bn bc, .slice bD bm bk, .bool byb, .slice byA byn byc, .slice byD bym byk] 38)) := ⟨_, rfl⟩
  have hb2 : Below w1.heap.size w1 w2 := by rw [hw2]; exact below_new _ _
  have hq2 : w2.heap.size = w1.heap.size + 1 := by rw [hw2, alloc_size]
  have kb : Box w2 (w1.heap.size) 38 #[.bool bb, .slice bA bn bc, .slice bD bm bk, .bool byb, .slice byA byn byc, .slice byD bym byk] := by rw [hw2]; exact Box.last _ _ _ (by omega)
  have hs2 := hb2.size
  have hT2 := below_then hT1 hb2
  have kp := kp.below hb2 kp.lt
  have km := km.below hb2 km.lt
  have kr := kr.below hb2 kr.lt
  have hp := hp.below (hb2.mono (by omega))
  have ob := ob.below hb2 (by omega)
  clear hT1
  go_upto_region 2 with fail
  rw [← hw2]
  clear hw2 hb2
  have hb : PIn w2 w2.heap.size (.bool bb) (.slice bA bn bc) (.slice bD bm bk) (.bool byb) (.slice byA byn byc) (.slice byD bym byk) (vecP mx my) := ob.in_ (vecP_fit _ _) (by omega)
  have HC1 := hide (fun (W : World) (h : Below w2.heap.size w2 W) => impl_addQ W w2.heap.size h.size ((hp.1.wider (by omega)).below h) (hb.1.below h))
  have HC2 := hide (fun (W : World) (h : Below w2.heap.size w2 W) => impl_addQ W w2.heap.size h.size ((hp.2.wider (by omega)).below h) (hb.2.below h))
  clear hp hb ob km
  have HBp := hide kp
  have HBb := hide kb
  have HS0 : Hid (Below w2.heap.size w2 w2.drew) := (Below.refl _ _).drew
  have HKS := hide (fun (W : World) (hq : Below w2.heap.size w2 W) => (⟨(HBp.out.below hq HBp.out.lt).cell 0, (HBp.out.below hq HBp.out.lt).cell 1, (HBp.out.below hq HBp.out.lt).cell 2, (HBp.out.below hq HBp.out.lt).cell 3, (HBp.out.below hq HBp.out.lt).cell 4, (HBp.out.below hq HBp.out.lt).cell 5, (HBb.out.below hq HBb.out.lt).cell 0, (HBb.out.below hq HBb.out.lt).cell 1, (HBb.out.below hq HBb.out.lt).cell 2, (HBb.out.below hq HBb.out.lt).cell 3, (HBb.out.below hq HBb.out.lt).cell 4, (HBb.out.below hq HBb.out.lt).cell 5⟩ : W.cell? ⟨w.heap.size, 0, none⟩ = some (p0) ∧ W.cell? ⟨w.heap.size, 1, none⟩ = some (p1) ∧ W.cell? ⟨w.heap.size, 2, none⟩ = some (p2) ∧ W.cell? ⟨w.heap.size, 3, none⟩ = some (p3) ∧ W.cell? ⟨w.heap.size, 4, none⟩ = some (p4) ∧ W.cell? ⟨w.heap.size, 5, none⟩ = some (p5) ∧ W.cell? ⟨w1.heap.size, 0, none⟩ = some (.bool bb) ∧ W.cell? ⟨w1.heap.size, 1, none⟩ = some (.slice bA bn bc) ∧ W.cell? ⟨w1.heap.size, 2, none⟩ = some (.slice bD bm bk) ∧ W.cell? ⟨w1.heap.size, 3, none⟩ = some (.bool byb) ∧ W.cell? ⟨w1.heap.size, 4, none⟩ = some (.slice byA byn byc) ∧ W.cell? ⟨w1.heap.size, 5, none⟩ = some (.slice byD bym byk)))
  have HRr := hide kr
  have HKT0 := hide (fun (W : World) (hq : Below w2.heap.size w2 W) (x0 x1 x2 x3 x4 x5 : Value) => (⟨(((((((HBp.out.below hq HBp.out.lt).setv (show w.heap.size ≠ w.heap.size + 2 by omega) 0 x0).setv (show w.heap.size ≠ w.heap.size + 2 by omega) 1 x1).setv (show w.heap.size ≠ w.heap.size + 2 by omega) 2 x2).setv (show w.heap.size ≠ w.heap.size + 2 by omega) 3 x3).setv (show w.heap.size ≠ w.heap.size + 2 by omega) 4 x4).setv (show w.heap.size ≠ w.heap.size + 2 by omega) 5 x5).cell 0, (((((((HBp.out.below hq HBp.out.lt).setv (show w.heap.size ≠ w.heap.size + 2 by omega) 0 x0).setv (show w.heap.size ≠ w.heap.size + 2 by omega) 1 x1).setv (show w.heap.size ≠ w.heap.size + 2 by omega) 2 x2).setv (show w.heap.size ≠ w.heap.size + 2 by omega) 3 x3).setv (show w.heap.size ≠ w.heap.size + 2 by omega) 4 x4).setv (show w.heap.size ≠ w.heap.size + 2 by omega) 5 x5).cell 1, (((((((HBp.out.below hq HBp.out.lt).setv (show w.heap.size ≠ w.heap.size + 2 by omega) 0 x0).setv (show w.heap.size ≠ w.heap.size + 2 by omega) 1 x1).setv (show w.heap.size ≠ w.heap.size + 2 by omega) 2 x2).setv (show w.heap.size ≠ w.heap.size + 2 by omega) 3 x3).setv (show w.heap.size ≠ w.heap.size + 2 by omega) 4 x4).setv (show w.heap.size ≠ w.heap.size + 2 by omega) 5 x5).cell 2, (((((((HBp.out.below hq HBp.out.lt).setv (show w.heap.size ≠ w.heap.size + 2 by omega) 0 x0).setv (show w.heap.size ≠ w.heap.size + 2 by omega) 1 x1).setv (show w.heap.size ≠ w.heap.size + 2 by omega) 2 x2).setv (show w.heap.size ≠ w.heap.size + 2 by omega) 3 x3).setv (show w.heap.size ≠ w.heap.size + 2 by omega) 4 x4).setv (show w.heap.size ≠ w.heap.size + 2 by omega) 5 x5).cell 3, (((((((HBp.out.below hq HBp.out.lt).setv (show w.heap.size ≠ w.heap.size + 2 by omega) 0 x0).setv (show w.heap.size ≠ w.heap.size + 2 by omega) 1 x1).setv (show w.heap.size ≠ w.heap.size + 2 by omega) 2 x2).setv (show w.heap.size ≠ w.heap.size + 2 by omega) 3 x3).setv (show w.heap.size ≠ w.heap.size + 2 by omega) 4 x4).setv (show w.heap.size ≠ w.heap.size + 2 by omega) 5 x5).cell 4, (((((((HBp.out.below hq HBp.out.lt).setv (show w.heap.size ≠ w.heap.size + 2 by omega) 0 x0).setv (show w.heap.size ≠ w.heap.size + 2 by omega) 1 x1).setv (show w.heap.size ≠ w.heap.size + 2 by omega) 2 x2).setv (show w.heap.size ≠ w.heap.size + 2 by omega) 3 x3).setv (show w.heap.size ≠ w.heap.size + 2 by omega) 4 x4).setv (show w.heap.size ≠ w.heap.size + 2 by omega) 5 x5).cell 5, (((((((HBb.out.below hq HBb.out.lt).setv (show w1.heap.size ≠ w.heap.size + 2 by omega) 0 x0).setv (show w1.heap.size ≠ w.heap.size + 2 by omega) 1 x1).setv (show w1.heap.size ≠ w.heap.size + 2 by omega) 2 x2).setv (show w1.heap.size ≠ w.heap.size + 2 by omega) 3 x3).setv (show w1.heap.size ≠ w.heap.size + 2 by omega) 4 x4).setv (show w1.heap.size ≠ w.heap.size + 2 by omega) 5 x5).cell 0, (((((((HBb.out.below hq HBb.out.lt).setv (show w1.heap.size ≠ w.heap.size + 2 by omega) 0 x0).setv (show w1.heap.size ≠ w.heap.size + 2 by omega) 1 x1).setv (show w1.heap.size ≠ w.heap.size + 2 by omega) 2 x2).setv (show w1.heap.size ≠ w.heap.size + 2 by omega) 3 x3).setv (show w1.heap.size ≠ w.heap.size + 2 by omega) 4 x4).setv (show w1.heap.size ≠ w.heap.size + 2 by omega) 5 x5).cell 1, (((((((HBb.out.below hq HBb.out.lt).setv (show w1.heap.size ≠ w.heap.size + 2 by omega) 0 x0).setv (show w1.heap.size ≠ w.heap.size + 2 by omega) 1 x1).setv (show w1.heap.size ≠ w.heap.size + 2 by omega) 2 x2).setv (show w1.heap.size ≠ w.heap.size + 2 by omega) 3 x3).setv (show w1.heap.size ≠ w.heap.size + 2 by omega) 4 x4).setv (show w1.heap.size ≠ w.heap.size + 2 by omega) 5 x5).cell 2, (((((((HBb.out.below hq HBb.out.lt).setv (show w1.heap.size ≠ w.heap.size + 2 by omega) 0 x0).setv (show w1.heap.size ≠ w.heap.size + 2 by omega) 1 x1).setv (show w1.heap.size ≠ w.heap.size + 2 by omega) 2 x2).setv (show w1.heap.size ≠ w.heap.size + 2 by omega) 3 x3).setv (show w1.heap.size ≠ w.heap.size + 2 by omega) 4 x4).setv (show w1.heap.size ≠ w.heap.size + 2 by omega) 5 x5).cell 3, (((((((HBb.out.below hq HBb.out.lt).setv (show w1.heap.size ≠ w.heap.size + 2 by omega) 0 x0).setv (show w1.heap.size ≠ w.heap.size + 2 by omega) 1 x1).setv (show w1.heap.size ≠ w.heap.size + 2 by omega) 2 x2).setv (show w1.heap.size ≠ w.heap.size + 2 by omega) 3 x3).setv (show w1.heap.size ≠ w.heap.size + 2 by omega) 4 x4).setv (show w1.heap.size ≠ w.heap.size + 2 by omega) 5 x5).cell 4, (((((((HBb.out.below hq HBb.out.lt).setv (show w1.heap.size ≠ w.heap.size + 2 by omega) 0 x0).setv (show w1.heap.size ≠ w.heap.size + 2 by omega) 1 x1).setv (show w1.heap.size ≠ w.heap.size + 2 by omega) 2 x2).setv (show w1.heap.size ≠ w.heap.size + 2 by omega) 3 x3).setv (show w1.heap.size ≠ w.heap.size + 2 by omega) 4 x4).setv (show w1.heap.size ≠ w.heap.size + 2 by omega) 5 x5).cell 5⟩ : ((((((W.setCell ⟨w.heap.size + 2, 0, none⟩ x0).setCell ⟨w.heap.size + 2, 1, none⟩ x1).setCell ⟨w.heap.size + 2, 2, none⟩ x2).setCell ⟨w.heap.size + 2, 3, none⟩ x3).setCell ⟨w.heap.size + 2, 4, none⟩ x4).setCell ⟨w.heap.size + 2, 5, none⟩ x5).cell? ⟨w.heap.size, 0, none⟩ = some (p0) ∧ ((((((W.setCell ⟨w.heap.size + 2, 0, none⟩ x0).setCell ⟨w.heap.size + 2, 1, none⟩ x1).setCell ⟨w.heap.size + 2, 2, none⟩ x2).setCell ⟨w.heap.size + 2, 3, none⟩ x3).setCell ⟨w.heap.size + 2, 4, none⟩ x4).setCell ⟨w.heap.size + 2, 5, none⟩ x5).cell? ⟨w.heap.size, 1, none⟩ = some (p1) ∧ ((((((W.setCell ⟨w.heap.size + 2, 0, none⟩ x0).setCell ⟨w.heap.size + 2, 1, none⟩ x1).setCell ⟨w.heap.size + 2, 2, none⟩ x2).setCell ⟨w.heap.size + 2, 3, none⟩ x3).setCell ⟨w.heap.size + 2, 4, none⟩ x4).setCell ⟨w.heap.size + 2, 5, none⟩ x5).cell? ⟨w.heap.size, 2, none⟩ = some (p2) ∧ ((((((W.setCell ⟨w.heap.size + 2, 0, none⟩ x0).setCell ⟨w.heap.size + 2, 1, none⟩ x1).setCell ⟨w.heap.size + 2, 2, none⟩ x2).setCell ⟨w.heap.size + 2, 3, none⟩ x3).setCell ⟨w.heap.size + 2, 4, none⟩ x4).setCell ⟨w.heap.size + 2, 5, none⟩ x5).cell? ⟨w.heap.size, 3, none⟩ = some (p3) ∧ ((((((W.setCell ⟨w.heap.size + 2, 0, none⟩ x0).setCell ⟨w.heap.size + 2, 1, none⟩ x1).setCell ⟨w.heap.size + 2, 2, none⟩ x2).setCell ⟨w.heap.size + 2, 3, none⟩ x3).setCell ⟨w.heap.size + 2, 4, none⟩ x4).setCell ⟨w.heap.size + 2, 5, none⟩ x5).cell? ⟨w.heap.size, 4, none⟩ = some (p4) ∧ ((((((W.setCell ⟨w.heap.size + 2, 0, none⟩ x0).setCell ⟨w.heap.size + 2, 1, none⟩ x1).setCell ⟨w.heap.size + 2, 2, none⟩ x2).setCell ⟨w.heap.size + 2, 3, none⟩ x3).setCell ⟨w.heap.size + 2, 4, none⟩ x4).setCell ⟨w.heap.size + 2, 5, none⟩ x5).cell? ⟨w.heap.size, 5, none⟩ = some (p5) ∧ ((((((W.setCell ⟨w.heap.size + 2, 0, none⟩ x0).setCell ⟨w.heap.size + 2, 1, none⟩ x1).setCell ⟨w.heap.size + 2, 2, none⟩ x2).setCell ⟨w.heap.size + 2, 3, none⟩ x3).setCell ⟨w.heap.size + 2, 4, none⟩ x4).setCell ⟨w.heap.size + 2, 5, none⟩ x5).cell? ⟨w1.heap.size, 0, none⟩ = some (.bool bb) ∧ ((((((W.setCell ⟨w.heap.size + 2, 0, none⟩ x0).setCell ⟨w.heap.size + 2, 1, none⟩ x1).setCell ⟨w.heap.size + 2, 2, none⟩ x2).setCell ⟨w.heap.size + 2, 3, none⟩ x3).setCell ⟨w.heap.size + 2, 4, none⟩ x4).setCell ⟨w.heap.size + 2, 5, none⟩ x5).cell? ⟨w1.heap.size, 1, none⟩ = some (.slice bA bn bc) ∧ ((((((W.setCell ⟨w.heap.size + 2, 0, none⟩ x0).setCell ⟨w.heap.size + 2, 1, none⟩ x1).setCell ⟨w.heap.size + 2, 2, none⟩ x2).setCell ⟨w.heap.size + 2, 3, none⟩ x3).setCell ⟨w.heap.size + 2, 4, none⟩ x4).setCell ⟨w.heap.size + 2, 5, none⟩ x5).cell? ⟨w1.heap.size, 2, none⟩ = some (.slice bD bm bk) ∧ ((((((W.setCell ⟨w.heap.size + 2, 0, none⟩ x0).setCell ⟨w.heap.size + 2, 1, none⟩ x1).setCell ⟨w.heap.size + 2, 2, none⟩ x2).setCell ⟨w.heap.size + 2, 3, none⟩ x3).setCell ⟨w.heap.size + 2, 4, none⟩ x4).setCell ⟨w.heap.size + 2, 5, none⟩ x5).cell? ⟨w1.heap.size, 3, none⟩ = some (.bool byb) ∧ ((((((W.setCell ⟨w.heap.size + 2, 0, none⟩ x0).setCell ⟨w.heap.size + 2, 1, none⟩ x1).setCell ⟨w.heap.size + 2, 2, none⟩ x2).setCell ⟨w.heap.size + 2, 3, none⟩ x3).setCell ⟨w.heap.size + 2, 4, none⟩ x4).setCell ⟨w.heap.size + 2, 5, none⟩ x5).cell? ⟨w1.heap.size, 4, none⟩ = some (.slice byA byn byc) ∧ ((((((W.setCell ⟨w.heap.size + 2, 0, none⟩ x0).setCell ⟨w.heap.size + 2, 1, none⟩ x1).setCell ⟨w.heap.size + 2, 2, none⟩ x2).setCell ⟨w.heap.size + 2, 3, none⟩ x3).setCell ⟨w.heap.size + 2, 4, none⟩ x4).setCell ⟨w.heap.size + 2, 5, none⟩ x5).cell? ⟨w1.heap.size, 5, none⟩ = some (.slice byD bym byk)))
  obtain ⟨yp0, yp1, yp2, yp3, yp4, yp5⟩ := kp.cells6
  obtain ⟨yb0, yb1, yb2, yb3, yb4, yb5⟩ := kb.cells6
  go_region_held3 (fun w' => w'.cell? ⟨w.heap.size, 0, none⟩ = some (p0) ∧ w'.cell? ⟨w.heap.size, 1, none⟩ = some (p1) ∧ w'.cell? ⟨w.heap.size, 2, none⟩ = some (p2) ∧ w'.cell? ⟨w.heap.size, 3, none⟩ = some (p3) ∧ w'.cell? ⟨w.heap.size, 4, none⟩ = some (p4) ∧ w'.cell? ⟨w.heap.size, 5, none⟩ = some (p5) ∧ w'.cell? ⟨w1.heap.size, 0, none⟩ = some (.bool bb) ∧ w'.cell? ⟨w1.heap.size, 1, none⟩ = some (.slice bA bn bc) ∧ w'.cell? ⟨w1.heap.size, 2, none⟩ = some (.slice bD bm bk) ∧ w'.cell? ⟨w1.heap.size, 3, none⟩ = some (.bool byb) ∧ w'.cell? ⟨w1.heap.size, 4, none⟩ = some (.slice byA byn byc) ∧ w'.cell? ⟨w1.heap.size, 5, none⟩ = some (.slice byD bym byk))
      (first | (with_reducible exact HKT0.out _ HS3.out _ _ _ _ _ _) | (with_reducible exact HKS.out _ HS3.out) | (with_reducible exact HKS.out _ HS2.out) | (with_reducible exact HKS.out _ HS1.out) | (with_reducible exact HKS.out _ HS0.out))
      (first
        | (go_at_call 64; have HX := HS2.out; have OP : POwn u2 w2.heap.size u2.heap.size 3 (.bool xb) (.slice xA xn xc) (.slice xD xm xk) (.bool yb) (.slice yA yn yc) (.slice yD ym yk) (addQ pZ.1 (intQ mx), addQ pZ.2 (intQ my)) := ⟨_, _, _, _, ox, oy, by omega, by omega, by omega, by omega, .inl (by omega)⟩; refine (impl_validPoint u2 w2.heap.size u2.heap.size OP ⟨addQ_fit _ _, addQ_fit _ _⟩ (by omega) (Nat.le_refl _)).mono ?_; rintro e u3 ⟨z0, z1, z2, z3, z4, z5, rfl, oz, hb3⟩; obtain ⟨zb, zA, zn, zc, zD, zm, zk, zyb, zyA, zyn, zyc, zyD, zym, zyk, rfl, rfl, rfl, rfl, rfl, rfl⟩ := oz.cut; have oz : POwn u3 w2.heap.size u2.heap.size 3 (.bool zb) (.slice zA zn zc) (.slice zD zm zk) (.bool zyb) (.slice zyA zyn zyc) (.slice zyD zym zyk) (sureP (addQ pZ.1 (intQ mx), addQ pZ.2 (intQ my))) := oz; have qx := qx.up hb3; have ox := ox.below hb3 (by omega); have qy := qy.up hb3; have oy := oy.below hb3 (by omega); have hz3 : u2.heap.size ≤ u3.heap.size := hb3.size; have HS3 := hide (below_then HX hb3); clear HX; have hTT := below_then hT2 HS3.out; have kR := HRr.out.below HS3.out HRr.out.lt; obtain ⟨⟨tr0, tr1, tr2, tr3, tr4, tr5⟩, fr0, fr1, fr2, fr3, fr4, fr5⟩ := kR.facts6)
        | (go_at_call 12; have HX := HS1.out; refine (HC2.out _ HS1.out).mono ?_; rintro e u2 ⟨y0, y1, y2, rfl, oy, hb2⟩; obtain ⟨yb, yA, yn, yc, yD, ym, yk, rfl, rfl, rfl⟩ := oy.cut; have oy : QOwn u2 u1.heap.size u2.heap.size 3 (.bool yb) (.slice yA yn yc) (.slice yD ym yk) (addQ pZ.2 (intQ my)) := oy; have qy := oy.in_ (addQ_fit _ _) (Nat.le_refl _); have qx := qx.up hb2; have ox := ox.below hb2 (by omega); have hz2 : u1.heap.size ≤ u2.heap.size := hb2.size; have HS2 := hide (below_then HX hb2); clear HX)
        | (go_at_call 12; have HX := HS0.out; refine (HC1.out _ HS0.out).mono ?_; rintro e u1 ⟨x0, x1, x2, rfl, ox, hb1⟩; obtain ⟨xb, xA, xn, xc, xD, xm, xk, rfl, rfl, rfl⟩ := ox.cut; have ox : QOwn u1 w2.heap.size u1.heap.size 3 (.bool xb) (.slice xA xn xc) (.slice xD xm xk) (addQ pZ.1 (intQ mx)) := ox; have qx := ox.in_ (addQ_fit _ _) (Nat.le_refl _); have hz1 : w2.heap.size ≤ u1.heap.size := hb1.size; have HS1 := hide (below_then HX hb1); clear HX))
  have HO := hide (ret_pt kR oz hTT (by omega) (by omega) (by omega) (.inl (by omega)))
  clear kR ox oy oz qx qy hTT hb1 hb2 hb3
  go_wp2_with fail
  refine bodyPost_ret (results_cell_row rfl _ _ (w.heap.size + 2) _ #[.bool zb, .slice zA zn zc, .slice zD zm zk, .bool zyb, .slice zyA zyn zyc, .slice zyD zym zyk] (0, 0) _ rfl HO.out.1 Tryz.underlying38 rfl Tryz.sizePoint) rfl ?_
  exact ⟨_, _, _, _, _, _, rfl, HO.out.2.1, HO.out.2.2⟩
end Go.Proofs.YtnbaookdeijhhaaGreatDoor
