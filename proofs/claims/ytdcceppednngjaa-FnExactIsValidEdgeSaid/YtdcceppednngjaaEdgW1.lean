/-
  The walk of the exact law of IsValidEdge.
-/
import Derived.Test.YtdcceppednngjaaEdgI
import Derived.Test.YtdcceppednngjaaEdgR
import Derived.Test.YtdcceppednngjaaEdgB
import Derived.Deep.RegionHeld3
import Derived.Deep.CutRange
import Derived.Sort.AtCall
namespace Go.Proofs.Ytdcceppednngjaa
open Go.RowKit
set_option linter.unusedVariables false
set_option maxRecDepth 100000 in
set_option maxHeartbeats 16000000 in
theorem FnExactIsValidEdge_walk (w : World) (rx ry ru rv rk : Int) (rl : Bool) (hrx : (Lit.int .i64 rx).wf = true) (hry : (Lit.int .i64 ry).wf = true) (hru : (Lit.int .i64 ru).wf = true) (hrv : (Lit.int .i64 rv).wf = true) (hrk : (Lit.int .i64 rk).wf = true) :
    Calls Try.prog 3 #[.agg #[.int .i64 rx, .int .i64 ry, .int .i64 ru, .int .i64 rv, .int .i64 rk, .bool rl]] w fun e w' => e = .returned (.bool true) ∧ Below w.heap.size w w' := by
  obtain ⟨W0, hW0⟩ : ∃ W0, W0 = (w.alloc (.cells #[.int .i64 rx, .int .i64 ry, .int .i64 ru, .int .i64 rv, .int .i64 rk, .bool rl] 25)) := ⟨_, rfl⟩
  have hT0 : Below w.heap.size w W0 := by rw [hW0]; exact below_new _ _
  have kr : Box W0 (w.heap.size) 25 #[.int .i64 rx, .int .i64 ry, .int .i64 ru, .int .i64 rv, .int .i64 rk, .bool rl] := by rw [hW0]; exact Box.last _ _ _ rfl
  have hs0 : W0.heap.size = w.heap.size + 1 := by rw [hW0, alloc_size]
  go_enter Try.func3, Try.ntmps3
  go_upto_region 1 with fail
  rw [← hW0]
  clear hW0
  obtain ⟨yr0, yr1, yr2, yr3, yr4, yr5⟩ := kr.cells6
  go_wp2_with fail
  refine (toEdge_any W0 rx ry ru rv rk rl hrx hry hru hrv).mono ?_
  rintro e w1 ⟨rfl, hb1⟩
  clear yr0 yr1 yr2 yr3 yr4 yr5
  have hs1 := hb1.size
  have hT1 := below_then hT0 hb1
  have kr := kr.below hb1 kr.lt
  clear hT0
  clear hb1
  go_wp2_with fail
  refine (spec_IsValidEdge w1 rx ry ru rv rk rl hrx hry hru hrv).mono ?_
  rintro e w2 ⟨rfl, hb2⟩
  have hs2 := hb2.size
  have hT2 := below_then hT1 hb2
  have kr := kr.below hb2 kr.lt
  clear hT1
  clear hb2
  obtain ⟨yr0, yr1, yr2, yr3, yr4, yr5⟩ := kr.cells6
  go_wp2_with fail
  refine (toEdge_any w2 rx ry ru rv rk rl hrx hry hru hrv).mono ?_
  rintro e w3 ⟨rfl, hb3⟩
  clear yr0 yr1 yr2 yr3 yr4 yr5
  have hs3 := hb3.size
  have hT3 := below_then hT2 hb3
  have kr := kr.below hb3 kr.lt
  clear hT2
  clear hb3
  go_wp2_with fail
  refine (impl_IsValidEdge w3 rx ry ru rv rk rl hrx hry hru hrv).mono ?_
  rintro e w4 ⟨rfl, hb4⟩
  have hs4 := hb4.size
  have hT4 := below_then hT3 hb4
  have kr := kr.below hb4 kr.lt
  clear hT3
  clear hb4
  go_wp2
  go_ret
  exact ⟨rfl, hT4⟩
end Go.Proofs.Ytdcceppednngjaa
