/-
  The program's sums of polygons: contracts: arePolygons, areRightOf, SeparatingEdge, Touches.
-/
import Derived.Test.YtocllmaikngoaaaDoorSP
import Derived.Test.YtocllmaikngoaaaDoorPolI
import Derived.Test.YtocllmaikngoaaaDoorLB
namespace Go.Proofs.YtocllmaikngoaaaDoor
open Go.RowKit
set_option linter.unusedVariables false
theorem impl_arePolygons (w : World) (B : Nat) (hB : B ≤ w.heap.size) (A : Option Addr) (n c : Nat) (l : List V2) (R : RdV w B A n l) (D : Option Addr) (m d : Nat) (k : List V2) (S : RdV w B D m k) :
    Calls Tryd.prog 66 #[.slice A n c, .slice D m d] w fun e w' => e = .returned (.bool (polyB l && polyB k)) ∧ Below w.heap.size w w' := by
  have H1 := hide (impl_IsPolygon w B hB A n c l R)
  have H2 := hide (fun (W : World) (h : Below w.heap.size w W) => impl_IsPolygon W B (Nat.le_trans hB h.size) D m d k (S.below (h.mono hB)))
  cases e1 : polyB l with
  | false =>
    rw [e1] at H1
    go_enter Tryd.func66, Tryd.ntmps66
    go_wp2_with fail
    refine H1.out.mono ?_
    rintro e w1 ⟨rfl, hb1⟩
    go_wp2_with fail
    go_ret
    exact ⟨rfl, hb1⟩
  | true =>
    rw [e1] at H1
    go_enter Tryd.func66, Tryd.ntmps66
    go_wp2_with fail
    refine H1.out.mono ?_
    rintro e w1 ⟨rfl, hb1⟩
    go_wp2_with fail
    refine (H2.out _ hb1).mono ?_
    rintro e w2 ⟨rfl, hb2⟩
    go_wp2_with fail
    go_ret
    exact ⟨rfl, below_then hb1 hb2⟩
end Go.Proofs.YtocllmaikngoaaaDoor
