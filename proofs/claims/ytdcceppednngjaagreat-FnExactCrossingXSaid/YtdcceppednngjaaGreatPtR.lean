/-
  The reference's points: contracts (1): IsValidVec, IsValidPoint, Turn, SamePoint, PointOf, l05Valid.
-/
import Derived.Test.YtdcceppednngjaaGreatPI
import Derived.Deep.RegionHeld3
import Derived.Deep.CutRange
import Derived.Sort.AtCall
namespace Go.Proofs.YtdcceppednngjaaGreat
open Go.RowKit
set_option linter.unusedVariables false
set_option maxRecDepth 100000 in
set_option maxHeartbeats 1600000 in
theorem spec_IsValidVec (w : World) (px py : Int) (hpx : (Lit.int .i64 px).wf = true) (hpy : (Lit.int .i64 py).wf = true) :
    Calls Tryz.prog 33 #[.agg #[.int .i64 px, .int .i64 py]] w fun e w' => e = .returned (.bool (vecB px py)) ∧ Below w.heap.size w w' := by
  have HC1 := hide (fun (W : World) (b : Bool) (h : Hid (b = decide (-1000 ≤ px ∧ px ≤ 1000))) => l01In_all px (-1000) 1000 W b h)
  have HC2 := hide (fun (W : World) (b : Bool) (h : Hid (b = decide (-1000 ≤ py ∧ py ≤ 1000))) => l01In_all py (-1000) 1000 W b h)
  have HV : Hid (vecB px py = (decide (-1000 ≤ px ∧ px ≤ 1000) && decide (-1000 ≤ py ∧ py ≤ 1000))) := rfl
  generalize vecB px py = V at HV ⊢
  obtain ⟨b1, hb1⟩ : ∃ b, b = decide (-1000 ≤ px ∧ px ≤ 1000) := ⟨_, rfl⟩
  obtain ⟨b2, hb2⟩ : ∃ b, b = decide (-1000 ≤ py ∧ py ≤ 1000) := ⟨_, rfl⟩
  have hV : V = (b1 && b2) := by rw [HV.out, hb1, hb2]
  clear HV
  have D1 := hide (hide hb1)
  have D2 := hide (hide hb2)
  clear hb1 hb2
  obtain ⟨W0, hW0⟩ : ∃ W0, W0 = (w.alloc (.cells #[.int .i64 px, .int .i64 py] 33)) := ⟨_, rfl⟩
  have hT0 : Below w.heap.size w W0 := by rw [hW0]; exact below_new _ _
  have kp : Box W0 (w.heap.size) 33 #[.int .i64 px, .int .i64 py] := by rw [hW0]; exact Box.last _ _ _ rfl
  have hs0 : W0.heap.size = w.heap.size + 1 := by rw [hW0, alloc_size]
  go_enter Tryz.func33, Tryz.ntmps33
  cases b1
  · subst hV
    obtain ⟨yp0, yp1⟩ := kp.cells2
    rw [hW0] at yp0 yp1 hT0
    go_wp2_with fail
    refine (HC1.out _ _ D1.out).mono ?_
    rintro e w1 ⟨rfl, rfl⟩
    go_wp2_with fail
    go_ret
    exact ⟨ret_bool (by first | rfl | cases b2 <;> rfl), hT0⟩
  · subst hV
    obtain ⟨yp0, yp1⟩ := kp.cells2
    rw [hW0] at yp0 yp1 hT0
    go_wp2_with fail
    refine (HC1.out _ _ D1.out).mono ?_
    rintro e w1 ⟨rfl, rfl⟩
    go_wp2_with fail
    refine (HC2.out _ _ D2.out).mono ?_
    rintro e w2 ⟨rfl, rfl⟩
    go_wp2_with fail
    go_ret
    exact ⟨ret_bool (by first | rfl | cases b2 <;> rfl), hT0⟩
end Go.Proofs.YtdcceppednngjaaGreat
