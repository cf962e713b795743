/-
  The exact laws' walks: TurnVec.
-/
import Derived.Test.YtafhhemojdblpaaDoorLB
import Derived.Test.YtafhhemojdblpaaDoorHedI3
import Derived.Test.YtafhhemojdblpaaDoorHedR
namespace Go.Proofs.YtafhhemojdblpaaDoor
open Go.RowKit
set_option linter.unusedVariables false
set_option maxHeartbeats 4000000 in
set_option maxRecDepth 100000 in
theorem FnExactTurnVec_walk (w : World) (ax ay : Int) (hax : (Lit.int .i64 ax).wf = true) (hay : (Lit.int .i64 ay).wf = true) (k : Int) (hk : (Lit.int .i64 k).wf = true) (hQ : QTab w) :
    Calls Tryd.prog 4 #[.agg #[.int .i64 ax, .int .i64 ay], .int .i64 k] w fun e w' => e = .returned (.bool true) ∧ Below w.heap.size w w' := by
  obtain ⟨W0, hW0⟩ : ∃ W0, W0 = (w.alloc (.cells #[.int .i64 ax, .int .i64 ay] 35)) := ⟨_, rfl⟩
  have hT0 : Below w.heap.size w W0 := by rw [hW0]; exact below_new _ _
  have ka : Box W0 (w.heap.size) 35 #[.int .i64 ax, .int .i64 ay] := by rw [hW0]; exact Box.last _ _ _ rfl
  have HC := hide (fun (W : World) => toVec_any W ax ay hax hay)
  have HS := hide (fun (W : World) => spec_TurnVec W ax ay k hax hay hk)
  have HI := hide (fun (W : World) (hb : Below w.heap.size w W) => impl_TurnVec W ax ay k hax hay (hQ.below hb (Nat.le_refl _)))
  have hv := vecB_bounds (show vecB (turnV (ax, ay) k).1 (turnV (ax, ay) k).2 = true from turnV_vec (ax, ay) k)
  have HE := hide (fun (W : World) => eqVec_any W (turnV (ax, ay) k).1 (turnV (ax, ay) k).2 (WalkArith.wf_i64 ⟨by omega, by omega⟩) (WalkArith.wf_i64 ⟨by omega, by omega⟩))
  generalize (turnV (ax, ay) k).1 = u at *
  generalize (turnV (ax, ay) k).2 = v at *
  clear hQ hax hay hk hv
  go_enter Tryd.func4, Tryd.ntmps4
  go_upto_region 1 with fail
  rw [← hW0]
  clear hW0
  obtain ⟨y0, y1⟩ := ka.cells2
  go_wp2_with fail
  refine (HC.out _).mono ?_
  rintro e w1 ⟨rfl, hb1⟩
  have ka := ka.below hb1 ka.lt
  have hT1 := below_then hT0 hb1
  clear y0 y1 hb1 hT0
  go_wp2_with fail
  refine (HS.out _).mono ?_
  rintro e w2 ⟨rfl, hb2⟩
  have ka := ka.below hb2 ka.lt
  have hT2 := below_then hT1 hb2
  clear hb2 hT1
  obtain ⟨W3, hW3⟩ : ∃ W3, W3 = w2.alloc (.cells #[.int .i64 u, .int .i64 v] 36) := ⟨_, rfl⟩
  have hb23 : Below w2.heap.size w2 W3 := by rw [hW3]; exact below_new _ _
  have kb : Box W3 w2.heap.size 36 #[.int .i64 u, .int .i64 v] := by rw [hW3]; exact Box.last _ _ _ rfl
  have ka := ka.below hb23 ka.lt
  have hT3 := below_then hT2 hb23
  go_upto_region 2 with fail
  rw [← hW3]
  clear hW3 hb23 hT2
  obtain ⟨y0, y1⟩ := ka.cells2
  go_wp2_with fail
  refine (HC.out _).mono ?_
  rintro e w4 ⟨rfl, hb4⟩
  have kb := kb.below hb4 kb.lt
  have hT4 := below_then hT3 hb4
  clear y0 y1 hb4 hT3 ka
  go_wp2_with fail
  refine (HI.out _ hT4).mono ?_
  rintro e w5 ⟨rfl, hb5⟩
  have kb := kb.below hb5 kb.lt
  have hT5 := below_then hT4 hb5
  clear hb5 hT4
  obtain ⟨W6, hW6⟩ : ∃ W6, W6 = w5.alloc (.cells #[.int .i64 u, .int .i64 v] 36) := ⟨_, rfl⟩
  have hb56 : Below w5.heap.size w5 W6 := by rw [hW6]; exact below_new _ _
  have kc : Box W6 w5.heap.size 36 #[.int .i64 u, .int .i64 v] := by rw [hW6]; exact Box.last _ _ _ rfl
  have kb := kb.below hb56 kb.lt
  have hT6 := below_then hT5 hb56
  go_upto_region 3 with fail
  rw [← hW6]
  clear hW6 hb56 hT5
  obtain ⟨y0, y1⟩ := kb.cells2
  obtain ⟨z0, z1⟩ := kc.cells2
  go_wp2_with fail
  refine (HE.out _).mono ?_
  rintro e w7 ⟨rfl, hb7⟩
  go_wp2_with fail
  go_ret
  exact ⟨rfl, below_then hT6 hb7⟩
end Go.Proofs.YtafhhemojdblpaaDoor
