/-
  Fractions as text: ParseRat: what both sides' contracts say.
-/
import Derived.Test.YtfajcogkbmefjaaDoorRatT
import Derived.Test.YtfajcogkbmefjaaDoorPB
namespace Go.Proofs.YtfajcogkbmefjaaDoor
open Go.RowKit
set_option linter.unusedVariables false

def ParsRes (TI : TypeId) (w w' : World) (e : Ending) (s : ByteArray) : Prop :=
  ∃ v d, e = .returned (.tuple #[.agg #[.bool (parR s).1.1, v, d], .bool (okRB s)]) ∧ Pair w' w.heap.size TI v (parR s).1.2 d (parR s).2 ∧ Below w.heap.size w w'
theorem ParsRes.of {TI : TypeId} {w w' : World} {e : Ending} {s : ByteArray} {v d : Value} {Z : (Bool × List Int) × List Int} {k : Bool} (hz : parR s = Z) (hk : okRB s = k) (he : e = .returned (.tuple #[.agg #[.bool Z.1.1, v, d], .bool k])) (hp : Pair w' w.heap.size TI v Z.1.2 d Z.2) (hb : Below w.heap.size w w') : ParsRes TI w w' e s := by
  subst hz; subst hk; exact ⟨v, d, he, hp, hb⟩
end Go.Proofs.YtfajcogkbmefjaaDoor
