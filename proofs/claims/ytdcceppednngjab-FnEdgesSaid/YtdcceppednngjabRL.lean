/-
  The texts RatR4, put together; each has its own heading below. No condition of ours.
-/
import Derived.Test.YtdcceppednngjabPB
import Derived.Test.YtdcceppednngjabNatLen
import Derived.Test.YtdcceppednngjabIA
import Derived.Laws.AppendOwnNone
import Derived.Test.YtdcceppednngjabIntI
import Derived.Deep.CutRange
/-
  The reference's fractions: contracts (4): l04Copy, l04Neg.
-/


namespace Go.Proofs.Ytdcceppednngjab
open Go.RowKit
set_option linter.unusedVariables false
/-- a fraction of the reference's: its two lists need not lie apart -/
def RatRef (TI : TypeId) (w w' : World) (e : Ending) (Z : (Bool × List Int) × List Int) : Prop :=
  ∃ v d, e = .returned (.agg #[.bool Z.1.1, v, d]) ∧ Both w' w.heap.size TI v Z.1.2 d Z.2 ∧ Below w.heap.size w w'
section
variable {w w' : World} {B B' g : Nat} {E : TypeId} {v1 v2 : Value} {xs ys : List Int}
theorem Both.below (h : Both w B E v1 xs v2 ys) (hb : Below w.heap.size w w') : Both w' B E v1 xs v2 ys :=
  ⟨(h.1.below hb (Nat.le_refl _)).wider (Nat.le_refl _) hb.size, (h.2.below hb (Nat.le_refl _)).wider (Nat.le_refl _) hb.size⟩
theorem Both.form (h : Both w B E v1 xs v2 ys) : ∃ A1 c1 A2 c2, v1 = .slice A1 xs.length c1 ∧ v2 = .slice A2 ys.length c2 := by
  obtain ⟨A1, c1, e1⟩ := h.1.form
  obtain ⟨A2, c2, e2⟩ := h.2.form
  exact ⟨A1, c1, A2, c2, e1, e2⟩
end
end Go.Proofs.Ytdcceppednngjab
