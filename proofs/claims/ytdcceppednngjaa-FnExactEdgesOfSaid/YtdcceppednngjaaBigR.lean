/-
  The reference's big integers: contracts (1): Ok, l03Make.
-/
import Derived.Test.YtdcceppednngjaaRA
import Derived.Test.YtdcceppednngjaaPB
namespace Go.Proofs.Ytdcceppednngjaa
open Go.RowKit
set_option linter.unusedVariables false

theorem Rd.take {w : World} {B : Nat} {A : Option Addr} {xs : List Value} (h : Rd w B A xs) (m : Nat) : Rd w B A (xs.take m) := by
  rcases h with e | ⟨ad, hA, hb, hc⟩
  · subst e; exact .inl (by simp)
  · refine .inr ⟨ad, hA, hb, fun k u hu => hc k u ?_⟩
    rw [List.getElem?_take] at hu
    split at hu
    · exact hu
    · cases hu
end Go.Proofs.Ytdcceppednngjaa
