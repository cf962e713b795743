/-
  The program's scenes: contracts (6): hasObstacle, RemoveObstacle.
-/
import Derived.Test.YtocllmaikngoaaaScnE
import Derived.Test.YtocllmaikngoaaaSC
import Derived.Test.YtocllmaikngoaaaSB
import Derived.Deep.RegionLaw
import Derived.Lib.SliceRun
namespace Go.Proofs.Ytocllmaikngoaaa
open Go.RowKit
set_option linter.unusedVariables false
set_option maxHeartbeats 1600000 in
theorem impl_hasObstacle (w : World) {v0 v1 v2 v3 v4 v5 v6 : Value} {S : Scn} {B : Nat} (h : SIn w B v0 v1 v2 v3 v4 v5 v6 S) (k : Int) (fk : (Lit.int .i64 k).wf = true) :
    Calls Try.prog 30 #[.agg #[v0, v1, v2, v3, v4, v5, v6], .int .i64 k] w fun e w' => e = .returned (.bool (hasB S k)) ∧ Below w.heap.size w w' := by
  obtain ⟨RA, rc, OA, oc, TA, tc, os, ⟨rfl, rfl, rfl, rfl, rfl, rfl, rfl⟩, hR, ⟨hO, hc⟩, hT, _⟩ := h
  have hol := hO.2.2.1
  obtain ⟨k1, k2⟩ := bounds_i64 fk
  have HE : Hid (hasB S k = (decide (0 ≤ k) && decide (k < (S.o.length : Int)))) := rfl
  rw [HE.out]
  clear HE hR hO hT hc
  generalize S.o.length = on at *
  have kp : Box (w.alloc (.cells #[.int .i64 S.lx, .int .i64 S.ly, .int .i64 S.hx, .int .i64 S.hy, .slice RA S.r.length rc, .slice OA on oc, .slice TA S.t.length tc] 33)) w.heap.size 33 #[.int .i64 S.lx, .int .i64 S.ly, .int .i64 S.hx, .int .i64 S.hy, .slice RA S.r.length rc, .slice OA on oc, .slice TA S.t.length tc] := Box.last _ _ _ rfl
  have hb := below_new w (.cells #[.int .i64 S.lx, .int .i64 S.ly, .int .i64 S.hx, .int .i64 S.hy, .slice RA S.r.length rc, .slice OA on oc, .slice TA S.t.length tc] 33)
  obtain ⟨yp0, yp1, yp2, yp3, yp4, yp5, yp6⟩ := kp.cells7
  by_cases c1 : 0 ≤ k
  · by_cases c2 : k < (on : Int)
    · rw [decide_eq_true c1, decide_eq_true c2]
      go_enter Try.func30, Try.ntmps30
      go_wp2_with fail
      go_ret
      exact ⟨rfl, hb⟩
    · rw [decide_eq_true c1, decide_eq_false c2]
      go_enter Try.func30, Try.ntmps30
      go_wp2_with fail
      go_ret
      exact ⟨rfl, hb⟩
  · rw [decide_eq_false c1]
    go_enter Try.func30, Try.ntmps30
    go_wp2_with fail
    go_ret
    exact ⟨rfl, hb⟩
end Go.Proofs.Ytocllmaikngoaaa
