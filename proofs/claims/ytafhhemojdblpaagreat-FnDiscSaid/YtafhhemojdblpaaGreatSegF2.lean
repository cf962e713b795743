/-
  The program's segments: SegmentMeets, for polygons and points over small scales.
-/
import Derived.Test.YtafhhemojdblpaaGreatSGK
import Derived.Deep.RegionHeld3
import Derived.Deep.CutRange
import Derived.Sort.AtCall
namespace Go.Proofs.YtafhhemojdblpaaGreat
open Go.RowKit
set_option linter.unusedVariables false
/-- a valid point over a small scale -/
def SmallP (P : PQ) (T : Int × Int × Int) : Prop := (ratQ P.1 = true ∧ ratQ P.2 = true) ∧ scP P = T ∧ T.1.natAbs ≤ 1000000 ∧ T.2.1.natAbs ≤ 1000000 ∧ 0 < T.2.2 ∧ T.2.2 ≤ 1000
theorem contains_small (w : World) (B : Nat) (hB : B ≤ w.heap.size) (A : Option Addr) (n c : Nat) (l : List V2) (R : RdV w B A n l) {p0 p1 p2 p3 p4 p5 : Value} {P : PQ} (hP : PIn w B p0 p1 p2 p3 p4 p5 P) {T : Int × Int × Int} (h : SmallP P T) :
    Calls Tryz.prog 14 #[.slice A n c, .agg #[p0, p1, p2, p3, p4, p5]] w fun e w' => e = .returned (.int .i64 (contS l T)) ∧ Below w.heap.size w w' := by
  obtain ⟨x, y, z⟩ := T
  obtain ⟨hv, hs, h1, h2, h3⟩ := h
  exact impl_ContainsS w B hB A n c l R hP hv.1 hv.2 hs h1 h2 h3
end Go.Proofs.YtafhhemojdblpaaGreat
