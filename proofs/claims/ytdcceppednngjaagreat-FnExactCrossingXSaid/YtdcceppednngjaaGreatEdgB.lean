/-
  The laws' copies of an edge.
-/
import Derived.Test.YtdcceppednngjaaGreatEdgM
import Derived.Test.YtdcceppednngjaaGreatLB
namespace Go.Proofs.YtdcceppednngjaaGreat
open Go.RowKit
set_option linter.unusedVariables false
set_option maxHeartbeats 1600000 in
theorem toEdge_any (w : World) (x y u v k : Int) (l : Bool) (hx : (Lit.int .i64 x).wf = true) (hy : (Lit.int .i64 y).wf = true) (hu : (Lit.int .i64 u).wf = true) (hv : (Lit.int .i64 v).wf = true) :
    Calls Tryz.prog 6 #[.agg #[.int .i64 x, .int .i64 y, .int .i64 u, .int .i64 v, .int .i64 k, .bool l]] w fun e w' => e = .returned (.agg #[.int .i64 x, .int .i64 y, .int .i64 u, .int .i64 v, .int .i64 k, .bool l]) ∧ Below w.heap.size w w' := by
  have H1 := hide (fun (W : World) => toVec_any W x y hx hy)
  have H2 := hide (fun (W : World) => toVec_any W u v hu hv)
  clear hx hy hu hv
  obtain ⟨W0, hW0⟩ : ∃ W0, W0 = ((w.alloc (.cells #[.int .i64 x, .int .i64 y, .int .i64 u, .int .i64 v, .int .i64 k, .bool l] 25)).alloc (.cells #[.int .i64 0, .int .i64 0, .int .i64 0, .int .i64 0, .int .i64 0, .bool false] 35)).alloc (.cells #[.int .i64 0, .int .i64 0, .int .i64 0, .int .i64 0, .int .i64 0, .bool false] 35) := ⟨_, rfl⟩
  have hT0 : Below w.heap.size w W0 := by rw [hW0]; exact below_alloc (below_alloc (below_new _ _) _) _
  have ka : Box W0 w.heap.size 25 #[.int .i64 x, .int .i64 y, .int .i64 u, .int .i64 v, .int .i64 k, .bool l] := by rw [hW0]; exact ((Box.last _ _ _ rfl).alloc _).alloc _
  have kr : Box W0 (w.heap.size + 1) 35 #[.int .i64 0, .int .i64 0, .int .i64 0, .int .i64 0, .int .i64 0, .bool false] := by rw [hW0]; exact (Box.last _ _ _ (alloc_size _ _).symm).alloc _
  have ko : Box W0 (w.heap.size + 2) 35 #[.int .i64 0, .int .i64 0, .int .i64 0, .int .i64 0, .int .i64 0, .bool false] := by rw [hW0]; exact Box.last _ _ _ (by rw [alloc_size, alloc_size])
  go_enter Tryz.func6, Tryz.ntmps6
  go_upto_region 2 with fail
  rw [← hW0]
  clear hW0
  obtain ⟨a0, a1, a2, a3, a4, a5⟩ := ka.cells6
  go_wp2_with fail
  refine (H1.out _).mono ?_
  rintro e w1 ⟨rfl, hb1⟩
  clear a0 a1 a2 a3 a4 a5
  have ka := ka.below hb1 ka.lt
  have kr := kr.below hb1 kr.lt
  have ko := ko.below hb1 ko.lt
  have hT1 := below_then hT0 hb1
  clear hb1 hT0
  obtain ⟨⟨o0, o1, o2, o3, o4, o5⟩, z0, z1, z2, z3, z4, z5⟩ := ko.facts6
  obtain ⟨W2, hW2⟩ : ∃ W2, W2 = ((w1.setCell ⟨w.heap.size + 2, 0, none⟩ (.int .i64 x)).setCell ⟨w.heap.size + 2, 1, none⟩ (.int .i64 y)) := ⟨_, rfl⟩
  have ko2 : Box W2 (w.heap.size + 2) 35 #[.int .i64 x, .int .i64 y, .int .i64 0, .int .i64 0, .int .i64 0, .bool false] := by
    have k0 : Box (w1.setCell ⟨w.heap.size + 2, 0, none⟩ (.int .i64 x)) (w.heap.size + 2) 35 #[.int .i64 x, .int .i64 0, .int .i64 0, .int .i64 0, .int .i64 0, .bool false] := ko.set 0 _
    have k1 : Box ((w1.setCell ⟨w.heap.size + 2, 0, none⟩ (.int .i64 x)).setCell ⟨w.heap.size + 2, 1, none⟩ (.int .i64 y)) (w.heap.size + 2) 35 #[.int .i64 x, .int .i64 y, .int .i64 0, .int .i64 0, .int .i64 0, .bool false] := k0.set 1 _
    rw [hW2]; exact k1
  have ka2 : Box W2 w.heap.size 25 #[.int .i64 x, .int .i64 y, .int .i64 u, .int .i64 v, .int .i64 k, .bool l] := by rw [hW2]; exact ((ka.setv (by omega) 0 _).setv (by omega) 1 _)
  have kr2 : Box W2 (w.heap.size + 1) 35 #[.int .i64 0, .int .i64 0, .int .i64 0, .int .i64 0, .int .i64 0, .bool false] := by rw [hW2]; exact ((kr.setv (by omega) 0 _).setv (by omega) 1 _)
  have hT2 : Below w.heap.size w W2 := by rw [hW2]; exact ((hT1.setCell (p := ⟨w.heap.size + 2, 0, none⟩) (by show w.heap.size ≤ w.heap.size + 2; omega) _).setCell (p := ⟨w.heap.size + 2, 1, none⟩) (by show w.heap.size ≤ w.heap.size + 2; omega) _)
  go_upto_region 3 with fail
  rw [← hW2]
  clear hW2 o0 o1 o2 o3 o4 o5 z0 z1 z2 z3 z4 z5 ka kr ko hT1
  obtain ⟨a0, a1, a2, a3, a4, a5⟩ := ka2.cells6
  go_wp2_with fail
  refine (H2.out _).mono ?_
  rintro e w3 ⟨rfl, hb3⟩
  clear a0 a1 a2 a3 a4 a5
  have ka := ka2.below hb3 ka2.lt
  have kr := kr2.below hb3 kr2.lt
  have ko := ko2.below hb3 ko2.lt
  have hT3 := below_then hT2 hb3
  clear hb3 hT2 ka2 kr2 ko2
  obtain ⟨a0, a1, a2, a3, a4, a5⟩ := ka.cells6
  obtain ⟨⟨o0, o1, o2, o3, o4, o5⟩, z0, z1, z2, z3, z4, z5⟩ := ko.facts6
  obtain ⟨W4, hW4⟩ : ∃ W4, W4 = ((((w3.setCell ⟨w.heap.size + 2, 2, none⟩ (.int .i64 u)).setCell ⟨w.heap.size + 2, 3, none⟩ (.int .i64 v)).setCell ⟨w.heap.size + 2, 4, none⟩ (.int .i64 k)).setCell ⟨w.heap.size + 2, 5, none⟩ (.bool l)) := ⟨_, rfl⟩
  have ko2 : Box W4 (w.heap.size + 2) 35 #[.int .i64 x, .int .i64 y, .int .i64 u, .int .i64 v, .int .i64 k, .bool l] := by
    have k0 : Box (w3.setCell ⟨w.heap.size + 2, 2, none⟩ (.int .i64 u)) (w.heap.size + 2) 35 #[.int .i64 x, .int .i64 y, .int .i64 u, .int .i64 0, .int .i64 0, .bool false] := ko.set 2 _
    have k1 : Box ((w3.setCell ⟨w.heap.size + 2, 2, none⟩ (.int .i64 u)).setCell ⟨w.heap.size + 2, 3, none⟩ (.int .i64 v)) (w.heap.size + 2) 35 #[.int .i64 x, .int .i64 y, .int .i64 u, .int .i64 v, .int .i64 0, .bool false] := k0.set 3 _
    have k2 : Box (((w3.setCell ⟨w.heap.size + 2, 2, none⟩ (.int .i64 u)).setCell ⟨w.heap.size + 2, 3, none⟩ (.int .i64 v)).setCell ⟨w.heap.size + 2, 4, none⟩ (.int .i64 k)) (w.heap.size + 2) 35 #[.int .i64 x, .int .i64 y, .int .i64 u, .int .i64 v, .int .i64 k, .bool false] := k1.set 4 _
    have k3 : Box ((((w3.setCell ⟨w.heap.size + 2, 2, none⟩ (.int .i64 u)).setCell ⟨w.heap.size + 2, 3, none⟩ (.int .i64 v)).setCell ⟨w.heap.size + 2, 4, none⟩ (.int .i64 k)).setCell ⟨w.heap.size + 2, 5, none⟩ (.bool l)) (w.heap.size + 2) 35 #[.int .i64 x, .int .i64 y, .int .i64 u, .int .i64 v, .int .i64 k, .bool l] := k2.set 5 _
    rw [hW4]; exact k3
  have ka2 : Box W4 w.heap.size 25 #[.int .i64 x, .int .i64 y, .int .i64 u, .int .i64 v, .int .i64 k, .bool l] := by rw [hW4]; exact ((((ka.setv (by omega) 2 _).setv (by omega) 3 _).setv (by omega) 4 _).setv (by omega) 5 _)
  have kr2 : Box W4 (w.heap.size + 1) 35 #[.int .i64 0, .int .i64 0, .int .i64 0, .int .i64 0, .int .i64 0, .bool false] := by rw [hW4]; exact ((((kr.setv (by omega) 2 _).setv (by omega) 3 _).setv (by omega) 4 _).setv (by omega) 5 _)
  have hT4 : Below w.heap.size w W4 := by rw [hW4]; exact ((((hT3.setCell (p := ⟨w.heap.size + 2, 2, none⟩) (by show w.heap.size ≤ w.heap.size + 2; omega) _).setCell (p := ⟨w.heap.size + 2, 3, none⟩) (by show w.heap.size ≤ w.heap.size + 2; omega) _).setCell (p := ⟨w.heap.size + 2, 4, none⟩) (by show w.heap.size ≤ w.heap.size + 2; omega) _).setCell (p := ⟨w.heap.size + 2, 5, none⟩) (by show w.heap.size ≤ w.heap.size + 2; omega) _)
  go_upto_region 6 with fail
  rw [← hW4]
  clear hW4 o0 o1 o2 o3 o4 o5 z0 z1 z2 z3 z4 z5 ka kr ko hT3
  have HKR := hide kr2
  obtain ⟨o0, o1, o2, o3, o4, o5⟩ := ko2.cells6
  obtain ⟨⟨r0, r1, r2, r3, r4, r5⟩, f0, f1, f2, f3, f4, f5⟩ := kr2.facts6
  clear kr2 ko2
  go_wp2_with fail
  refine bodyPost_ret (results_cell_row rfl _ _ (w.heap.size + 1) _ #[.int .i64 x, .int .i64 y, .int .i64 u, .int .i64 v, .int .i64 k, .bool l] (0, 0) _ rfl (show Box _ _ 35 #[.int .i64 x, .int .i64 y, .int .i64 u, .int .i64 v, .int .i64 k, .bool l] from HKR.out.set6E) Tryz.underlying35 rfl Tryz.sizeEdge) rfl ?_
  exact ⟨rfl, set6E_below hT4 (Nat.le_succ _) _ _ _ _ _ _⟩
end Go.Proofs.YtdcceppednngjaaGreat
