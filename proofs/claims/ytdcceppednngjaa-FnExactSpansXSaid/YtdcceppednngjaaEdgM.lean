/-
  Edges in memory: six cells; the line of an edge: three ints.
-/
import Derived.Test.YtdcceppednngjaaPT
import Derived.Test.YtdcceppednngjaaLB
namespace Go.Proofs.Ytdcceppednngjaa
open Go.RowKit
set_option linter.unusedVariables false
def set6E (w : World) (g : Nat) (a b c d e f : Value) : World := (((((w.setCell ⟨g, 0, none⟩ a).setCell ⟨g, 1, none⟩ b).setCell ⟨g, 2, none⟩ c).setCell ⟨g, 3, none⟩ d).setCell ⟨g, 4, none⟩ e).setCell ⟨g, 5, none⟩ f
theorem Box.set6E {w : World} {g : Nat} {E : TypeId} {a b c d e f a' b' c' d' e' f' : Value} (h : Box w g E #[a', b', c', d', e', f']) : Box (set6E w g a b c d e f) g E #[a, b, c, d, e, f] := by
  have k0 : Box (w.setCell ⟨g, 0, none⟩ a) g E #[a, b', c', d', e', f'] := h.set 0 _
  have k1 : Box ((w.setCell ⟨g, 0, none⟩ a).setCell ⟨g, 1, none⟩ b) g E #[a, b, c', d', e', f'] := k0.set 1 _
  have k2 : Box (((w.setCell ⟨g, 0, none⟩ a).setCell ⟨g, 1, none⟩ b).setCell ⟨g, 2, none⟩ c) g E #[a, b, c, d', e', f'] := k1.set 2 _
  have k3 : Box ((((w.setCell ⟨g, 0, none⟩ a).setCell ⟨g, 1, none⟩ b).setCell ⟨g, 2, none⟩ c).setCell ⟨g, 3, none⟩ d) g E #[a, b, c, d, e', f'] := k2.set 3 _
  have k4 : Box (((((w.setCell ⟨g, 0, none⟩ a).setCell ⟨g, 1, none⟩ b).setCell ⟨g, 2, none⟩ c).setCell ⟨g, 3, none⟩ d).setCell ⟨g, 4, none⟩ e) g E #[a, b, c, d, e, f'] := k3.set 4 _
  have k5 : Box ((((((w.setCell ⟨g, 0, none⟩ a).setCell ⟨g, 1, none⟩ b).setCell ⟨g, 2, none⟩ c).setCell ⟨g, 3, none⟩ d).setCell ⟨g, 4, none⟩ e).setCell ⟨g, 5, none⟩ f) g E #[a, b, c, d, e, f] := k4.set 5 _
  exact k5
theorem set6E_below {w W : World} {B g : Nat} (hb : Below B w W) (hg : B ≤ g) (a b c d e f : Value) : Below B w (set6E W g a b c d e f) := (((((hb.setCell (p := ⟨g, 0, none⟩) hg a).setCell (p := ⟨g, 1, none⟩) hg b).setCell (p := ⟨g, 2, none⟩) hg c).setCell (p := ⟨g, 3, none⟩) hg d).setCell (p := ⟨g, 4, none⟩) hg e).setCell (p := ⟨g, 5, none⟩) hg f
theorem Try.sizeEdge : (Try.prog.info? 29).map (·.size) = some 6 := by kernel_rfl
end Go.Proofs.Ytdcceppednngjaa
