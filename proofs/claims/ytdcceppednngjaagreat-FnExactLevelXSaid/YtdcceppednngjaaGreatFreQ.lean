/-
  Points strictly inside a rectangle: plain; fractions compared: contracts.
-/
import Derived.Test.YtdcceppednngjaaGreatPT
import Derived.Test.YtdcceppednngjaaGreatPB
import Derived.Test.YtdcceppednngjaaGreatRJ
import Derived.Test.YtdcceppednngjaaGreatIA
import Derived.Test.YtdcceppednngjaaGreatBX
import Derived.Deep.CutRange
import Derived.Test.YtdcceppednngjaaGreatIntI
import Derived.Test.YtdcceppednngjaaGreatRS
namespace Go.Proofs.YtdcceppednngjaaGreat
open Go.RowKit
set_option linter.unusedVariables false
/-- two fractions compared -/
def cqR (Z Y : RQ) : Int := cmpR Z.1.1 Z.1.2 Z.2 Y.1.1 Y.1.2 Y.2
theorem spec_cqR (w : World) (B : Nat) (hB : B ≤ w.heap.size) {v0 v1 v2 : Value} {Z : RQ} (h : QIn w B v0 v1 v2 Z) {u0 u1 u2 : Value} {Y : RQ} (h' : QIn w B u0 u1 u2 Y) :
    Calls Tryz.prog 15 #[.agg #[v0, v1, v2], .agg #[u0, u1, u2]] w fun e w' => e = .returned (.int .i64 (cqR Z Y)) ∧ Below w.heap.size w w' := by
  obtain ⟨A, n, c, D, m, k, rfl, rfl, rfl, r1, r2, _⟩ := h
  obtain ⟨A', n', c', D', m', k', rfl, rfl, rfl, r3, r4, _⟩ := h'
  exact spec_RatCmp w B hB _ A n c _ r1 D m k _ r2 _ A' n' c' _ r3 D' m' k' _ r4
end Go.Proofs.YtdcceppednngjaaGreat
