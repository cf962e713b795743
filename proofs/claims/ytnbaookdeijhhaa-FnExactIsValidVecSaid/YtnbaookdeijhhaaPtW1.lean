/-
  The walk of the exact law of IsValidVec.
-/
import Derived.Test.YtnbaookdeijhhaaPtS
import Derived.Test.YtnbaookdeijhhaaPtR
import Derived.Deep.RegionHeld3
import Derived.Deep.CutRange
import Derived.Sort.AtCall
namespace Go.Proofs.Ytnbaookdeijhhaa
open Go.RowKit
set_option linter.unusedVariables false
set_option maxRecDepth 100000 in
set_option maxHeartbeats 16000000 in
theorem FnExactIsValidVec_walk (w : World) (ax ay : Int) (hax : (Lit.int .i64 ax).wf = true) (hay : (Lit.int .i64 ay).wf = true) :
    Calls Try.prog 3 #[.agg #[.int .i64 ax, .int .i64 ay]] w fun e w' => e = .returned (.bool true) ∧ Below w.heap.size w w' := by
  obtain ⟨W0, hW0⟩ : ∃ W0, W0 = (w.alloc (.cells #[.int .i64 ax, .int .i64 ay] 23)) := ⟨_, rfl⟩
  have hT0 : Below w.heap.size w W0 := by rw [hW0]; exact below_new _ _
  have ka : Box W0 (w.heap.size) 23 #[.int .i64 ax, .int .i64 ay] := by rw [hW0]; exact Box.last _ _ _ rfl
  have hs0 : W0.heap.size = w.heap.size + 1 := by rw [hW0, alloc_size]
  go_enter Try.func3, Try.ntmps3
  go_upto_region 1 with fail
  rw [← hW0]
  clear hW0
  have HCa := hide (fun (W : World) => toVec_any W ax ay hax hay)
  obtain ⟨ya0, ya1⟩ := ka.cells2
  go_wp2_with fail
  refine (toVec_any W0 ax ay hax hay).mono ?_
  rintro e w1 ⟨rfl, hb1⟩
  clear ya0 ya1
  have hs1 := hb1.size
  have hT1 := below_then hT0 hb1
  have ka := ka.below hb1 ka.lt
  clear hT0
  clear hb1
  clear HCa
  go_wp2_with fail
  refine (spec_IsValidVec w1 ax ay hax hay).mono ?_
  rintro e w2 ⟨rfl, hb2⟩
  have hs2 := hb2.size
  have hT2 := below_then hT1 hb2
  have ka := ka.below hb2 ka.lt
  clear hT1
  clear hb2
  have HCa := hide (fun (W : World) => toVec_any W ax ay hax hay)
  obtain ⟨ya0, ya1⟩ := ka.cells2
  go_wp2_with fail
  refine (toVec_any w2 ax ay hax hay).mono ?_
  rintro e w3 ⟨rfl, hb3⟩
  clear ya0 ya1
  have hs3 := hb3.size
  have hT3 := below_then hT2 hb3
  have ka := ka.below hb3 ka.lt
  clear hT2
  clear hb3
  clear HCa
  go_wp2_with fail
  refine (impl_IsValidVec w3 ax ay hax hay).mono ?_
  rintro e w4 ⟨rfl, hb4⟩
  have hs4 := hb4.size
  have hT4 := below_then hT3 hb4
  have ka := ka.below hb4 ka.lt
  clear hT3
  clear hb4
  go_wp2
  go_ret
  exact ⟨rfl, hT4⟩
end Go.Proofs.Ytnbaookdeijhhaa
