/-
  Polygons, said of lists of vectors.
-/
import Derived.Test.YtfajcogkbmefjaaVecM
import Derived.Test.YtfajcogkbmefjaaPtI2
namespace Go.Proofs.Ytfajcogkbmefjaa
open Go.RowKit
set_option linter.unusedVariables false
def vecV (v : V2) : Bool := vecB v.1 v.2
def tV (a b c : V2) : Int := turnI a.1 a.2 b.1 b.2 c.1 c.2
theorem tV_tn {a b c : V2} (ha : vecV a = true) (hb : vecV b = true) (hc : vecV c = true) : tV a b c = tn a b c := by
  unfold tV turnI tn
  unfold vecV at ha hb hc
  rw [if_pos (by simp [ha, hb, hc])]
/-- all of them are valid -/
def allV (l : List V2) : Bool := l.all vecV
theorem allV_at {l : List V2} (h : allV l = true) {k : Nat} (hk : k < l.length) : vecV l[k] = true := List.all_eq_true.1 h _ (List.getElem_mem hk)
theorem allV_no {l : List V2} {k : Nat} (hk : k < l.length) (h : vecV l[k] = false) : allV l = false := by
  cases e : allV l with
  | false => rfl
  | true => rw [allV_at e hk] at h; cases h
end Go.Proofs.Ytfajcogkbmefjaa
