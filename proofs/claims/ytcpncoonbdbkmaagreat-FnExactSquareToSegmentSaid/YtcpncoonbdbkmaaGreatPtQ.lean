/-
  The contracts on fractions, told over whole fractions: both sides.
-/
import Derived.Test.YtcpncoonbdbkmaaGreatPtM
import Derived.Test.YtcpncoonbdbkmaaGreatRX
import Derived.Test.YtcpncoonbdbkmaaGreatRatR7
namespace Go.Proofs.YtcpncoonbdbkmaaGreat
open Go.RowKit
set_option linter.unusedVariables false
theorem impl_addQ (w : World) (B : Nat) (hB : B ≤ w.heap.size) {v0 v1 v2 : Value} {Z : RQ} (h : QIn w B v0 v1 v2 Z) {u0 u1 u2 : Value} {Y : RQ} (h' : QIn w B u0 u1 u2 Y) :
    Calls Tryz.prog 36 #[.agg #[v0, v1, v2], .agg #[u0, u1, u2]] w fun e w' => QRes 3 w w' e (addQ Z Y) := by
  obtain ⟨A, n, c, D, m, k, rfl, rfl, rfl, r1, r2, c1, c2⟩ := h
  obtain ⟨A', n', c', D', m', k', rfl, rfl, rfl, r1', r2', c1', c2'⟩ := h'
  exact (impl_RatAdd w B hB Z.1.1 A n c Z.1.2 r1 D m k Z.2 r2 Y.1.1 A' n' c' Y.1.2 r1' D' m' k' Y.2 r2').mono fun e w' h => QRes.of h
theorem impl_subQ (w : World) (B : Nat) (hB : B ≤ w.heap.size) {v0 v1 v2 : Value} {Z : RQ} (h : QIn w B v0 v1 v2 Z) {u0 u1 u2 : Value} {Y : RQ} (h' : QIn w B u0 u1 u2 Y) :
    Calls Tryz.prog 112 #[.agg #[v0, v1, v2], .agg #[u0, u1, u2]] w fun e w' => QRes 3 w w' e (subQ Z Y) := by
  obtain ⟨A, n, c, D, m, k, rfl, rfl, rfl, r1, r2, c1, c2⟩ := h
  obtain ⟨A', n', c', D', m', k', rfl, rfl, rfl, r1', r2', c1', c2'⟩ := h'
  exact (impl_RatSub w B hB Z.1.1 A n c Z.1.2 r1 D m k Z.2 r2 Y.1.1 A' n' c' Y.1.2 r1' D' m' k' Y.2 r2').mono fun e w' h => QRes.of h
theorem impl_mulQ (w : World) (B : Nat) (hB : B ≤ w.heap.size) {v0 v1 v2 : Value} {Z : RQ} (h : QIn w B v0 v1 v2 Z) {u0 u1 u2 : Value} {Y : RQ} (h' : QIn w B u0 u1 u2 Y) :
    Calls Tryz.prog 35 #[.agg #[v0, v1, v2], .agg #[u0, u1, u2]] w fun e w' => QRes 3 w w' e (mulQ Z Y) := by
  obtain ⟨A, n, c, D, m, k, rfl, rfl, rfl, r1, r2, c1, c2⟩ := h
  obtain ⟨A', n', c', D', m', k', rfl, rfl, rfl, r1', r2', c1', c2'⟩ := h'
  exact (impl_RatMul w B hB Z.1.1 A n c Z.1.2 r1 D m k Z.2 r2 Y.1.1 A' n' c' Y.1.2 r1' D' m' k' Y.2 r2').mono fun e w' h => QRes.of h
theorem impl_sameQ (w : World) (B : Nat) (hB : B ≤ w.heap.size) {v0 v1 v2 : Value} {Z : RQ} (h : QIn w B v0 v1 v2 Z) {u0 u1 u2 : Value} {Y : RQ} (h' : QIn w B u0 u1 u2 Y) :
    Calls Tryz.prog 20 #[.agg #[v0, v1, v2], .agg #[u0, u1, u2]] w fun e w' => e = .returned (.bool (sameQ Z Y)) ∧ Below w.heap.size w w' := by
  obtain ⟨A, n, c, D, m, k, rfl, rfl, rfl, r1, r2, c1, c2⟩ := h
  obtain ⟨A', n', c', D', m', k', rfl, rfl, rfl, r1', r2', c1', c2'⟩ := h'
  exact impl_RatEqual w B hB Z.1.1 A n c Z.1.2 r1 D m k Z.2 r2 Y.1.1 A' n' c' Y.1.2 r1' D' m' k' Y.2 r2'
theorem impl_intQ (w : World) (n : Int) (hn : (Lit.int .i64 n).wf = true) :
    Calls Tryz.prog 45 #[.int .i64 n] w fun e w' => QRes 3 w w' e (intQ n) :=
  (impl_RatFromInt w n hn).mono fun e w' h => QRes.of h
theorem spec_addQ (w : World) (B : Nat) (hB : B ≤ w.heap.size) {v0 v1 v2 : Value} {Z : RQ} (h : QIn w B v0 v1 v2 Z) {u0 u1 u2 : Value} {Y : RQ} (h' : QIn w B u0 u1 u2 Y) :
    Calls Tryz.prog 64 #[.agg #[v0, v1, v2], .agg #[u0, u1, u2]] w fun e w' => QRes 3 w w' e (addQ Z Y) := by
  obtain ⟨A, n, c, D, m, k, rfl, rfl, rfl, r1, r2, c1, c2⟩ := h
  obtain ⟨A', n', c', D', m', k', rfl, rfl, rfl, r1', r2', c1', c2'⟩ := h'
  exact (spec_RatAdd w B hB Z.1.1 A n c Z.1.2 r1 D m k Z.2 r2 Y.1.1 A' n' c' Y.1.2 r1' D' m' k' Y.2 r2').mono fun e w' h => QRes.of h
theorem spec_subQ (w : World) (B : Nat) (hB : B ≤ w.heap.size) {v0 v1 v2 : Value} {Z : RQ} (h : QIn w B v0 v1 v2 Z) {u0 u1 u2 : Value} {Y : RQ} (h' : QIn w B u0 u1 u2 Y) :
    Calls Tryz.prog 71 #[.agg #[v0, v1, v2], .agg #[u0, u1, u2]] w fun e w' => QRes 3 w w' e (subQ Z Y) := by
  obtain ⟨A, n, c, D, m, k, rfl, rfl, rfl, r1, r2, c1, c2⟩ := h
  obtain ⟨A', n', c', D', m', k', rfl, rfl, rfl, r1', r2', c1', c2'⟩ := h'
  exact (spec_RatSub w B hB Z.1.1 A n c Z.1.2 r1 D m k Z.2 r2 Y.1.1 A' n' c' Y.1.2 r1' D' m' k' Y.2 r2' c1').mono fun e w' h => QRes.of h
theorem spec_mulQ (w : World) (B : Nat) (hB : B ≤ w.heap.size) {v0 v1 v2 : Value} {Z : RQ} (h : QIn w B v0 v1 v2 Z) {u0 u1 u2 : Value} {Y : RQ} (h' : QIn w B u0 u1 u2 Y) :
    Calls Tryz.prog 65 #[.agg #[v0, v1, v2], .agg #[u0, u1, u2]] w fun e w' => QRes 3 w w' e (mulQ Z Y) := by
  obtain ⟨A, n, c, D, m, k, rfl, rfl, rfl, r1, r2, c1, c2⟩ := h
  obtain ⟨A', n', c', D', m', k', rfl, rfl, rfl, r1', r2', c1', c2'⟩ := h'
  exact (spec_RatMul w B hB Z.1.1 A n c Z.1.2 r1 D m k Z.2 r2 Y.1.1 A' n' c' Y.1.2 r1' D' m' k' Y.2 r2').mono fun e w' h => QRes.of h
theorem spec_signQ (w : World) (B : Nat) (hB : B ≤ w.heap.size) {v0 v1 v2 : Value} {Z : RQ} (h : QIn w B v0 v1 v2 Z) :
    Calls Tryz.prog 63 #[.agg #[v0, v1, v2]] w fun e w' => e = .returned (.int .i64 (signQ Z)) ∧ Below w.heap.size w w' := by
  obtain ⟨A, n, c, D, m, k, rfl, rfl, rfl, r1, r2, c1, c2⟩ := h
  exact spec_RatSign w B hB Z.1.1 A n c Z.1.2 r1 D m k Z.2 r2
theorem spec_intQ (w : World) (n : Int) (hn : (Lit.int .i64 n).wf = true) :
    Calls Tryz.prog 70 #[.int .i64 n] w fun e w' => QRes 3 w w' e (intQ n) :=
  (spec_RatFromInt w n hn).mono fun e w' h => QRes.of h
end Go.Proofs.YtcpncoonbdbkmaaGreat
