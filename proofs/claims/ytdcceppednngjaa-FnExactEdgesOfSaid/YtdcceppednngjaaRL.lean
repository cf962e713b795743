/-
  The texts RatR4, put together; each has its own heading below. No condition of ours.
-/
import Derived.Test.YtdcceppednngjaaPB
import Derived.Test.YtdcceppednngjaaBigR
import Derived.Test.YtdcceppednngjaaIA
import Derived.Laws.CopyOwn
import Derived.Test.YtdcceppednngjaaRA
import Derived.Laws.AppendOwnNone
import Derived.Test.YtdcceppednngjaaMem
import Derived.Deep.CutRange
/-
  The reference's fractions: contracts (4): l04Copy, l04Neg.
-/


namespace Go.Proofs.Ytdcceppednngjaa
open Go.RowKit
set_option linter.unusedVariables false
section
variable {w w' : World} {B B' g : Nat} {E : TypeId} {v1 v2 : Value} {xs ys : List Int}
theorem Both.below (h : Both w B E v1 xs v2 ys) (hb : Below w.heap.size w w') : Both w' B E v1 xs v2 ys :=
  ⟨(h.1.below hb (Nat.le_refl _)).wider (Nat.le_refl _) hb.size, (h.2.below hb (Nat.le_refl _)).wider (Nat.le_refl _) hb.size⟩
theorem Both.form (h : Both w B E v1 xs v2 ys) : ∃ A1 c1 A2 c2, v1 = .slice A1 xs.length c1 ∧ v2 = .slice A2 ys.length c2 := by
  obtain ⟨A1, c1, e1⟩ := h.1.form
  obtain ⟨A2, c2, e2⟩ := h.2.form
  exact ⟨A1, c1, A2, c2, e1, e2⟩
theorem Both.rd {A1 A2 : Option Addr} {c1 c2 : Nat} (h : Both w B E (.slice A1 xs.length c1) xs (.slice A2 ys.length c2) ys) : Rd w w.heap.size A1 (iv xs) ∧ Rd w w.heap.size A2 (iv ys) := ⟨h.1.rd, h.2.rd⟩
end
end Go.Proofs.Ytdcceppednngjaa
