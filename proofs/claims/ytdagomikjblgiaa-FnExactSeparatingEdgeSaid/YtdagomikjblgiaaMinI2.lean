/-
  The program's sums of polygons: contracts: Touches.
-/
import Derived.Test.YtdagomikjblgiaaMinI
namespace Go.Proofs.Ytdagomikjblgiaa
open Go.RowKit
set_option linter.unusedVariables false
theorem impl_Touches (w : World) (B : Nat) (hB : B ≤ w.heap.size) (A : Option Addr) (n c : Nat) (l : List V2) (R : RdV w B A n l) (D : Option Addr) (m d : Nat) (t : List V2) (S : RdV w B D m t) :
    Calls Try.prog 23 #[.slice A n c, .slice D m d] w fun e w' => e = .returned (.bool (touB l t)) ∧ Below w.heap.size w w' := by
  have HP := hide (impl_arePolygons w B hB A n c l R D m d t S)
  have HA := hide (fun (W : World) (h : Below w.heap.size w W) => impl_SeparatingEdge W B (Nat.le_trans hB h.size) A n c l (R.below (h.mono hB)) D m d t (S.below (h.mono hB)))
  have HC := hide (fun (W : World) (h : Below w.heap.size w W) => impl_SeparatingEdge W B (Nat.le_trans hB h.size) D m d t (S.below (h.mono hB)) A n c l (R.below (h.mono hB)))
  have HT : Hid (touB l t = ((polyB l && polyB t) && (decide (sepL l t < 0) && decide (sepL t l < 0)))) := by show _ = _; unfold touB; rw [Bool.and_assoc]
  generalize (polyB l && polyB t) = p at *
  generalize touB l t = r at *
  generalize sepL l t = x at *
  generalize sepL t l = y at *
  clear R S
  cases p with
  | false =>
    have HN : Hid (false = r) := by show _ = _; rw [HT.out]; rfl
    go_enter Try.func23, Try.ntmps23
    go_wp2_with fail
    refine HP.out.mono ?_
    rintro e w1 ⟨rfl, hb1⟩
    go_wp2_with fail
    go_ret
    exact ⟨ret_bool HN.out, hb1⟩
  | true =>
    by_cases hx : x < 0
    case neg =>
      have hx' : decide (x < 0) = false := by simpa using hx
      have HN : Hid (false = r) := by show _ = _; rw [HT.out, hx']; rfl
      go_enter Try.func23, Try.ntmps23
      go_wp2_with fail
      refine HP.out.mono ?_
      rintro e w1 ⟨rfl, hb1⟩
      go_wp2_with fail
      refine (HA.out _ hb1).mono ?_
      rintro e w2 ⟨rfl, hb2⟩
      go_wp2_with fail
      go_ret
      exact ⟨ret_bool HN.out, below_then hb1 hb2⟩
    have hx' : decide (x < 0) = true := by simpa using hx
    have HN : Hid (decide (y < 0) = r) := by show _ = _; rw [HT.out, hx']; simp
    go_enter Try.func23, Try.ntmps23
    go_wp2_with fail
    refine HP.out.mono ?_
    rintro e w1 ⟨rfl, hb1⟩
    go_wp2_with fail
    refine (HA.out _ hb1).mono ?_
    rintro e w2 ⟨rfl, hb2⟩
    go_wp2_with fail
    refine (HC.out _ (below_then hb1 hb2)).mono ?_
    rintro e w3 ⟨rfl, hb3⟩
    go_wp2_with fail
    go_ret
    exact ⟨ret_bool HN.out, below_then (below_then hb1 hb2) hb3⟩
end Go.Proofs.Ytdagomikjblgiaa
