/-
  Edges in memory: six cells; the line of an edge: three ints.
-/
import Derived.Test.YtdcceppednngjaaGreatPT
import Derived.Test.YtdcceppednngjaaGreatLB
namespace Go.Proofs.YtdcceppednngjaaGreat
open Go.RowKit
set_option linter.unusedVariables false
def set6E (w : World) (g : Nat) (a b c d e f : Value) : World := (((((w.setCell ⟨g, 0, none⟩ a).setCell ⟨g, 1, none⟩ b).setCell ⟨g, 2, none⟩ c).setCell ⟨g, 3, none⟩ d).setCell ⟨g, 4, none⟩ e).setCell ⟨g, 5, none⟩ f
theorem Box.set6E {w : World} {g : Nat} {E : TypeId} {a b c d e f a' b' c' d' e' f' : Value} (h : Box w g E #[a', b', c', d', e', f']) : Box (set6E w g a b c d e f) g E #[a, b, c, d, e, f] := by
  have k0 : Box (w.setCell ⟨g, 0, none⟩ a) g E #[a, b', c', d', e', f'] := h.set 0 _
  have k1 : Box ((w.setCell ⟨g, 0, none⟩ a).setCell ⟨g, 1, none⟩ b) g E #[a, b, c', d', e', f'] := k0.set 1 _
  have k2 : Box (((w.setCell ⟨g, 0, none⟩ a).setCell ⟨g, 1, none⟩ b).setCell ⟨g, 2, none⟩ c) g E #[a, b, c, d', e', f'] := k1.set 2 _
  have k3 : Box ((((w.setCell ⟨g, 0, none⟩ a).setCell ⟨g, 1, none⟩ b).setCell ⟨g, 2, none⟩ c).setCell ⟨g, 3, none⟩ d) g E #[a, b, c, d, e', f'] := k2.set 3 _
  have k4 : Box (((((w.setCell ⟨g, 0, none⟩ a).setCell ⟨g, 1, none⟩ b).setCell ⟨g, 2, none⟩ c).setCell ⟨g, 3, none⟩ d).setCell ⟨g, 4, none⟩ e) g E #[a, b, c, d, e, f'] := k3.set 4 _
  have k5 : Box ((((((w.setCell ⟨g, 0, none⟩ a).setCell ⟨g, 1, none⟩ b).setCell ⟨g, 2, none⟩ c).setCell ⟨g, 3, none⟩ d).setCell ⟨g, 4, none⟩ e).setCell ⟨g, 5, none⟩ f) g E #[a, b, c, d, e, f] := k4.set 5 _
  exact k5
theorem set6E_below {w W : World} {B g : Nat} (hb : Below B w W) (hg : B ≤ g) (a b c d e f : Value) : Below B w (set6E W g a b c d e f) := (((((hb.setCell (p := ⟨g, 0, none⟩) hg a).setCell (p := ⟨g, 1, none⟩) hg b).setCell (p := ⟨g, 2, none⟩) hg c).setCell (p := ⟨g, 3, none⟩) hg d).setCell (p := ⟨g, 4, none⟩) hg e).setCell (p := ⟨g, 5, none⟩) hg f
theorem Tryz.sizeEdge : (Tryz.prog.info? 35).map (·.size) = some 6 := by kernel_rfl
def set3E (w : World) (g : Nat) (a b c : Value) : World := ((w.setCell ⟨g, 0, none⟩ a).setCell ⟨g, 1, none⟩ b).setCell ⟨g, 2, none⟩ c
theorem Box.set3E {w : World} {g : Nat} {E : TypeId} {a b c a' b' c' : Value} (h : Box w g E #[a', b', c']) : Box (set3E w g a b c) g E #[a, b, c] := by
  have k0 : Box (w.setCell ⟨g, 0, none⟩ a) g E #[a, b', c'] := h.set 0 _
  have k1 : Box ((w.setCell ⟨g, 0, none⟩ a).setCell ⟨g, 1, none⟩ b) g E #[a, b, c'] := k0.set 1 _
  have k2 : Box (((w.setCell ⟨g, 0, none⟩ a).setCell ⟨g, 1, none⟩ b).setCell ⟨g, 2, none⟩ c) g E #[a, b, c] := k1.set 2 _
  exact k2
theorem set3E_size {w : World} {g : Nat} {a b c : Value} : (set3E w g a b c).heap.size = w.heap.size := by unfold set3E; simp only [setCell_size]
theorem Box.setv3E {w : World} {g g' : Nat} {E : TypeId} {cs : Array Value} (h : Box w g E cs) (hg : g ≠ g') (a b c : Value) : Box (Go.Proofs.YtdcceppednngjaaGreat.set3E w g' a b c) g E cs := ((h.setv hg 0 a).setv hg 1 b).setv hg 2 c
theorem set3E_below {w W : World} {B g : Nat} (hb : Below B w W) (hg : B ≤ g) (a b c : Value) : Below B w (set3E W g a b c) := ((hb.setCell (p := ⟨g, 0, none⟩) hg a).setCell (p := ⟨g, 1, none⟩) hg b).setCell (p := ⟨g, 2, none⟩) hg c
theorem Tryz.sizeLine : (Tryz.prog.info? 51).map (·.size) = some 3 := by kernel_rfl
/-- a fraction of one's own, beside a Bool -/
def XRes (TI : TypeId) (w w' : World) (e : Ending) (Z : RQ) (b : Bool) : Prop :=
  ∃ v0 v1 v2, e = .returned (.tuple #[.agg #[v0, v1, v2], .bool b]) ∧ QOwn w' w.heap.size w'.heap.size TI v0 v1 v2 Z ∧ Below w.heap.size w w'
end Go.Proofs.YtdcceppednngjaaGreat
