/-
  The reference's points: contracts (1): IsValidVec, IsValidPoint, Turn, SamePoint, PointOf, l05Valid.
-/
import Derived.Test.YtnbaookdeijhhaaGreatDoorPtI
import Derived.Deep.RegionHeld3
import Derived.Deep.CutRange
import Derived.Sort.AtCall
namespace Go.Proofs.YtnbaookdeijhhaaGreatDoor
open Go.RowKit
set_option linter.unusedVariables false
set_option maxRecDepth 100000 in
set_option maxHeartbeats 1600000 in
theorem spec_IsValidPoint (w : World) (B : Nat) (hB : B ≤ w.heap.size) {p0 p1 p2 p3 p4 p5 : Value} {pZ : PQ} (hp : PIn w B p0 p1 p2 p3 p4 p5 pZ) :
    Calls Tryz.prog 68 #[.agg #[p0, p1, p2, p3, p4, p5]] w fun e w' => e = .returned (.bool (ratQ pZ.1 && ratQ pZ.2)) ∧ Below w.heap.size w w' := by
  obtain ⟨W0, hW0⟩ : ∃ W0, W0 = (w.alloc (.cells #[p0, p1, p2, p3, p4, p5] 38)) := ⟨_, rfl⟩
  have hT0 : Below w.heap.size w W0 := by rw [hW0]; exact below_new _ _
  have kp : Box W0 (w.heap.size) 38 #[p0, p1, p2, p3, p4, p5] := by rw [hW0]; exact Box.last _ _ _ rfl
  have hs0 : W0.heap.size = w.heap.size + 1 := by rw [hW0, alloc_size]
  have hp := hp.below (hT0.mono hB)
  go_enter Tryz.func68, Tryz.ntmps68
  go_upto_region 1 with fail
  rw [← hW0]
  clear hW0
  obtain ⟨yp0, yp1, yp2, yp3, yp4, yp5⟩ := kp.cells6
  go_wp2_with fail
  refine (spec_ratQ W0 B (by omega) hp.1).mono ?_
  rintro e w1 ⟨rfl, hb1⟩
  clear yp0 yp1 yp2 yp3 yp4 yp5
  have hs1 := hb1.size
  have hT1 := below_then hT0 hb1
  have kp := kp.below hb1 kp.lt
  have hp := hp.below (hb1.mono (by omega))
  clear hT0
  clear hb1
  by_cases hr : ratQ pZ.1 = true
  · rw [hr]
    obtain ⟨yp0, yp1, yp2, yp3, yp4, yp5⟩ := kp.cells6
    go_wp2_with fail
    refine (spec_ratQ w1 B (by omega) hp.2).mono ?_
    rintro e w2 ⟨rfl, hb2⟩
    clear yp0 yp1 yp2 yp3 yp4 yp5
    have hs2 := hb2.size
    have hT2 := below_then hT1 hb2
    have kp := kp.below hb2 kp.lt
    have hp := hp.below (hb2.mono (by omega))
    clear hT1
    clear hb2
    go_wp2_with fail
    go_ret
    exact ⟨ret_bool (a := ratQ pZ.2) (by rw [hr]; rfl), hT2⟩
  · have hr : ratQ pZ.1 = false := by simpa using hr
    rw [hr]
    go_wp2_with fail
    go_ret
    exact ⟨ret_bool (a := false) (by rw [hr]; rfl), hT1⟩
end Go.Proofs.YtnbaookdeijhhaaGreatDoor
