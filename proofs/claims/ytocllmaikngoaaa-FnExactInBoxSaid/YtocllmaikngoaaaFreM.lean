/-
  Rectangles in memory: four cells; the differences of a rectangle.
-/
import Derived.Test.YtocllmaikngoaaaScnP
import Derived.Test.YtocllmaikngoaaaScnL
import Derived.Test.YtocllmaikngoaaaHedP
import Derived.Test.YtocllmaikngoaaaSP
import Derived.Test.YtocllmaikngoaaaScnS
namespace Go.Proofs.Ytocllmaikngoaaa
open Go.RowKit
set_option linter.unusedVariables false
theorem Box.cells4 {w : World} {g : Nat} {E : TypeId} {a b c d : Value} (h : Box w g E #[a, b, c, d]) : w.cell? ⟨g, 0, none⟩ = some a ∧ w.cell? ⟨g, 1, none⟩ = some b ∧ w.cell? ⟨g, 2, none⟩ = some c ∧ w.cell? ⟨g, 3, none⟩ = some d := ⟨h.cell 0, h.cell 1, h.cell 2, h.cell 3⟩
theorem Box.frz4 {w : World} {g : Nat} {E : TypeId} {a b c d : Value} (h : Box w g E #[a, b, c, d]) : w.frozen? ⟨g, 0, none⟩ = false ∧ w.frozen? ⟨g, 1, none⟩ = false ∧ w.frozen? ⟨g, 2, none⟩ = false ∧ w.frozen? ⟨g, 3, none⟩ = false := ⟨h.frozen 0, h.frozen 1, h.frozen 2, h.frozen 3⟩
def set4 (w : World) (g : Nat) (a b c d : Value) : World := (((w.setCell ⟨g, 0, none⟩ a).setCell ⟨g, 1, none⟩ b).setCell ⟨g, 2, none⟩ c).setCell ⟨g, 3, none⟩ d
theorem Box.set4 {w : World} {g : Nat} {E : TypeId} {a b c d a' b' c' d' : Value} (h : Box w g E #[a', b', c', d']) : Box (set4 w g a b c d) g E #[a, b, c, d] := by
  have k0 : Box (w.setCell ⟨g, 0, none⟩ a) g E #[a, b', c', d'] := h.set 0 _
  have k1 : Box ((w.setCell ⟨g, 0, none⟩ a).setCell ⟨g, 1, none⟩ b) g E #[a, b, c', d'] := k0.set 1 _
  have k2 : Box (((w.setCell ⟨g, 0, none⟩ a).setCell ⟨g, 1, none⟩ b).setCell ⟨g, 2, none⟩ c) g E #[a, b, c, d'] := k1.set 2 _
  have k3 : Box ((((w.setCell ⟨g, 0, none⟩ a).setCell ⟨g, 1, none⟩ b).setCell ⟨g, 2, none⟩ c).setCell ⟨g, 3, none⟩ d) g E #[a, b, c, d] := k2.set 3 _
  exact k3
theorem set4_below {w W : World} {B g : Nat} (hb : Below B w W) (hg : B ≤ g) (a b c d : Value) : Below B w (set4 W g a b c d) := (((hb.setCell (p := ⟨g, 0, none⟩) hg a).setCell (p := ⟨g, 1, none⟩) hg b).setCell (p := ⟨g, 2, none⟩) hg c).setCell (p := ⟨g, 3, none⟩) hg d
theorem Try.sizeBox : (Try.prog.info? 52).map (·.size) = some 4 := by kernel_rfl
/-- a rectangle's variable that a drawn region has made -/
def VarB (w wx : World) (sx : Value) (a b c d : Value) (T : TypeId) : Prop :=
  ∃ g, sx = .pointer (some ⟨g, 0, none⟩) ∧ Box wx g T #[a, b, c, d] ∧ w.heap.size ≤ g ∧ Below w.heap.size w wx
theorem VarB.drew {w wx : World} {sx a b c d : Value} {T : TypeId} (h : VarB w wx sx a b c d T) : VarB w wx.drew sx a b c d T := by
  obtain ⟨g, e, k, h1, h2⟩ := h
  exact ⟨g, e, k.drew, h1, h2.drew⟩
end Go.Proofs.Ytocllmaikngoaaa
