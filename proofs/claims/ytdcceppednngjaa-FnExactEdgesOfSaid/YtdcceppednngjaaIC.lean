/-
  The texts NatI10, put together; each has its own heading below. No condition of ours.
-/
import Derived.Test.YtdcceppednngjaaIB
import Derived.Test.YtdcceppednngjaaPB
import Derived.Sort.AtCall
/-
  The program's natural numbers: contracts (10): combined, remaindersAfter.
-/


namespace Go.Proofs.Ytdcceppednngjaa
open Go.RowKit
set_option linter.unusedVariables false

/-- the slice value v can be read as the number Y -/
def RdN (w : World) (v : Value) (Y : Nat) : Prop := ∃ A c, v = .slice A (limbs Y).length c ∧ Rd w w.heap.size A (iv (limbs Y))
theorem RdN.below {w w' : World} {v : Value} {Y : Nat} (h : RdN w v Y) (hb : Below w.heap.size w w') : RdN w' v Y := by
  obtain ⟨A, c, rfl, hr⟩ := h
  exact ⟨A, c, rfl, (hr.below hb).wider hb.size⟩
end Go.Proofs.Ytdcceppednngjaa
