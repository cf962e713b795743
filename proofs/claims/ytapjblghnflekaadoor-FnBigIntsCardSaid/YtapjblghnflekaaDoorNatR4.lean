/-
  The reference's natural numbers: contracts (4): l02Trim on the call's own, l02Sub, NatSub.
-/
import Derived.Test.YtapjblghnflekaaDoorNatR3
namespace Go.Proofs.YtapjblghnflekaaDoor
open Go.RowKit
set_option linter.unusedVariables false

set_option maxHeartbeats 400000 in
theorem spec_TrimOwn (w : World) (lo n c : Nat) (A : Option Addr) (xs : List Int) (ho : w.ownsRow lo 3 1 (.slice A n c) n (iv xs)) :
    Calls Tryd.prog 46 #[.slice A n c] w fun e w' => ∃ v, e = .returned v ∧ w.ownsRow lo 3 1 v (trim xs).length (iv (trim xs)) ∧ w = w' := by
  have hn : xs.length = n := by have := ho.1; rw [iv_len] at this; omega
  have hcc : n ≤ c ∧ c ≤ maxLen := by
    rcases ho.2 with ⟨h', h0⟩ | ⟨g', c', cur, hv, _, _, hnc, hcm, _⟩
    · injection h' with h1 h2 h3; subst h3; unfold maxLen; omega
    · injection hv with h1 h2 h3; subst h3; exact ⟨hnc, hcm⟩
  refine (spec_Trim w w.heap.size A n c xs hn (own_rd ho) hcc.1 hcc.2).mono ?_
  rintro e w' ⟨m, rfl, hm, hT, rfl⟩
  have hml : (trim xs).length = m := by rw [hT, List.length_take]; omega
  refine ⟨_, rfl, ?_, rfl⟩
  rw [hml, hT]
  rcases own_form ho with ⟨h', h0, hx0⟩ | ⟨g, c', h', _, _⟩
  · injection h' with h1 h2 h3
    subst h1 h3
    obtain rfl : m = 0 := by omega
    exact World.ownsRow_nil _ _ _ _
  · injection h' with h1 h2 h3
    subst h1 h3
    have := own_cut ho hm
    rwa [show iv (xs.take m) = (iv xs).take m by simp [iv, List.map_take]]
end Go.Proofs.YtapjblghnflekaaDoor
