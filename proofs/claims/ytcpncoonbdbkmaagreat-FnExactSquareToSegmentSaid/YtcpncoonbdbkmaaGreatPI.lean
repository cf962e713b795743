/-
  The texts PtI2, put together; each has its own heading below. No condition of ours.
-/
import Derived.Test.YtcpncoonbdbkmaaGreatPtQ
import Derived.Test.YtcpncoonbdbkmaaGreatLB
import Derived.Test.YtcpncoonbdbkmaaGreatMem
import Derived.Deep.RegionHeld3
import Derived.Deep.CutRange
import Derived.Sort.AtCall
import Derived.Laws.StructEq
/-
  The program's points: contracts (2): Turn, PointOf, SamePoint.
-/




namespace Go.Proofs.YtcpncoonbdbkmaaGreat
open Go.RowKit
set_option linter.unusedVariables false
set_option maxRecDepth 100000 in
set_option maxHeartbeats 1600000 in
theorem impl_SamePoint (w : World) (B : Nat) (hB : B ≤ w.heap.size) {p0 p1 p2 p3 p4 p5 : Value} {pZ : PQ} (hp : PIn w B p0 p1 p2 p3 p4 p5 pZ) {q0 q1 q2 q3 q4 q5 : Value} {qZ : PQ} (hq : PIn w B q0 q1 q2 q3 q4 q5 qZ) :
    Calls Tryz.prog 56 #[.agg #[p0, p1, p2, p3, p4, p5], .agg #[q0, q1, q2, q3, q4, q5]] w fun e w' => e = .returned (.bool (sameP pZ qZ)) ∧ Below w.heap.size w w' := by
  obtain ⟨W0, hW0⟩ : ∃ W0, W0 = ((w.alloc (.cells #[p0, p1, p2, p3, p4, p5] 29)).alloc (.cells #[q0, q1, q2, q3, q4, q5] 29)) := ⟨_, rfl⟩
  have hT0 : Below w.heap.size w W0 := by rw [hW0]; exact below_alloc (below_new _ _) _
  have kp : Box W0 (w.heap.size) 29 #[p0, p1, p2, p3, p4, p5] := by rw [hW0]; exact (Box.last _ _ _ rfl).alloc _
  have kq : Box W0 (w.heap.size + 1) 29 #[q0, q1, q2, q3, q4, q5] := by rw [hW0]; exact Box.last _ _ _ (alloc_size _ _).symm
  have hs0 : W0.heap.size = w.heap.size + 2 := by rw [hW0, alloc_size, alloc_size]
  have hp := hp.below (hT0.mono hB)
  have hq := hq.below (hT0.mono hB)
  go_enter Tryz.func56, Tryz.ntmps56
  go_upto_region 1 with fail
  rw [← hW0]
  clear hW0
  obtain ⟨yp0, yp1, yp2, yp3, yp4, yp5⟩ := kp.cells6
  obtain ⟨yq0, yq1, yq2, yq3, yq4, yq5⟩ := kq.cells6
  go_wp2_with fail
  refine (impl_sameQ W0 B (by omega) hp.1 hq.1).mono ?_
  rintro e w1 ⟨rfl, hb1⟩
  clear yp0 yp1 yp2 yp3 yp4 yp5 yq0 yq1 yq2 yq3 yq4 yq5
  have hs1 := hb1.size
  have hT1 := below_then hT0 hb1
  have kp := kp.below hb1 kp.lt
  have kq := kq.below hb1 kq.lt
  have hp := hp.below (hb1.mono (by omega))
  have hq := hq.below (hb1.mono (by omega))
  clear hT0
  clear hb1
  by_cases hr : sameQ pZ.1 qZ.1 = true
  · rw [hr]
    obtain ⟨yp0, yp1, yp2, yp3, yp4, yp5⟩ := kp.cells6
    obtain ⟨yq0, yq1, yq2, yq3, yq4, yq5⟩ := kq.cells6
    go_wp2_with fail
    refine (impl_sameQ w1 B (by omega) hp.2 hq.2).mono ?_
    rintro e w2 ⟨rfl, hb2⟩
    clear yp0 yp1 yp2 yp3 yp4 yp5 yq0 yq1 yq2 yq3 yq4 yq5
    have hs2 := hb2.size
    have hT2 := below_then hT1 hb2
    have kp := kp.below hb2 kp.lt
    have kq := kq.below hb2 kq.lt
    have hp := hp.below (hb2.mono (by omega))
    have hq := hq.below (hb2.mono (by omega))
    clear hT1
    clear hb2
    go_wp2_with fail
    go_ret
    exact ⟨ret_bool (a := sameQ pZ.2 qZ.2) (by rw [sameP, hr]; rfl), hT2⟩
  · have hr : sameQ pZ.1 qZ.1 = false := by simpa using hr
    rw [hr]
    go_wp2_with fail
    go_ret
    exact ⟨ret_bool (a := false) (by rw [sameP, hr]; rfl), hT1⟩
end Go.Proofs.YtcpncoonbdbkmaaGreat
