/-
  Points strictly inside a rectangle: plain; fractions compared: contracts.
-/
import Derived.Test.YtocllmaikngoaaaPT
import Derived.Test.YtocllmaikngoaaaPB
import Derived.Test.YtocllmaikngoaaaRX
import Derived.Test.YtocllmaikngoaaaRatR7
namespace Go.Proofs.Ytocllmaikngoaaa
open Go.RowKit
set_option linter.unusedVariables false
/-- two fractions compared -/
def cqR (Z Y : RQ) : Int := cmpR Z.1.1 Z.1.2 Z.2 Y.1.1 Y.1.2 Y.2
theorem cqR_flip (Z Y : RQ) : cqR Y Z = -cqR Z Y := by
  unfold cqR cmpR
  rw [Bool.and_comm (ratB Y.1.1 Y.1.2 Y.2)]
  split
  · exact cmpW_flip _ _ _ _ _ _
  · rfl
/-- strictly between two whole numbers -/
def btwQ (Z : RQ) (a b : Int) : Bool := decide (cqR (intQ a) Z < 0) && decide (cqR Z (intQ b) < 0)
def boxB (x y u v : Int) (P : PQ) : Bool := btwQ P.1 x u && btwQ P.2 y v
theorem impl_cqR (w : World) (B : Nat) (hB : B ≤ w.heap.size) {v0 v1 v2 : Value} {Z : RQ} (h : QIn w B v0 v1 v2 Z) {u0 u1 u2 : Value} {Y : RQ} (h' : QIn w B u0 u1 u2 Y) :
    Calls Try.prog 61 #[.agg #[v0, v1, v2], .agg #[u0, u1, u2]] w fun e w' => e = .returned (.int .i64 (cqR Z Y)) ∧ Below w.heap.size w w' := by
  obtain ⟨A, n, c, D, m, k, rfl, rfl, rfl, r1, r2, _⟩ := h
  obtain ⟨A', n', c', D', m', k', rfl, rfl, rfl, r3, r4, _⟩ := h'
  exact impl_RatCmp w B hB _ A n c _ r1 D m k _ r2 _ A' n' c' _ r3 D' m' k' _ r4
theorem spec_cqR (w : World) (B : Nat) (hB : B ≤ w.heap.size) {v0 v1 v2 : Value} {Z : RQ} (h : QIn w B v0 v1 v2 Z) {u0 u1 u2 : Value} {Y : RQ} (h' : QIn w B u0 u1 u2 Y) :
    Calls Try.prog 43 #[.agg #[v0, v1, v2], .agg #[u0, u1, u2]] w fun e w' => e = .returned (.int .i64 (cqR Z Y)) ∧ Below w.heap.size w w' := by
  obtain ⟨A, n, c, D, m, k, rfl, rfl, rfl, r1, r2, _⟩ := h
  obtain ⟨A', n', c', D', m', k', rfl, rfl, rfl, r3, r4, _⟩ := h'
  exact spec_RatCmp w B hB _ A n c _ r1 D m k _ r2 _ A' n' c' _ r3 D' m' k' _ r4
end Go.Proofs.Ytocllmaikngoaaa
