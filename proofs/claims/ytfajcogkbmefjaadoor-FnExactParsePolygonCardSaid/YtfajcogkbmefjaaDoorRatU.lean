/-
  Fractions as text: ParseRat: what both sides' contracts say.
-/
import Derived.Test.YtfajcogkbmefjaaDoorRatT
import Derived.Test.YtfajcogkbmefjaaDoorPB
namespace Go.Proofs.YtfajcogkbmefjaaDoor
open Go.RowKit
set_option linter.unusedVariables false

def ParsRes (TI : TypeId) (w w' : World) (e : Ending) (s : ByteArray) : Prop :=
  ∃ v d, e = .returned (.tuple #[.agg #[.bool (parR s).1.1, v, d], .bool (okRB s)]) ∧ Pair w' w.heap.size TI v (parR s).1.2 d (parR s).2 ∧ Below w.heap.size w w'
theorem ParsRes.of {TI : TypeId} {w w' : World} {e : Ending} {s : ByteArray} {v d : Value} {Z : (Bool × List Int) × List Int} {k : Bool} (hz : parR s = Z) (hk : okRB s = k) (he : e = .returned (.tuple #[.agg #[.bool Z.1.1, v, d], .bool k])) (hp : Pair w' w.heap.size TI v Z.1.2 d Z.2) (hb : Below w.heap.size w w') : ParsRes TI w w' e s := by
  subst hz; subst hk; exact ⟨v, d, he, hp, hb⟩
theorem below_drewNT {B : Nat} {a w : World} (h : Below B a w) (n : Nat) : Below B a (w.drewN n) := ⟨h.os, h.tape, h.output, h.size, h.block⟩
theorem str_nil {a : ByteArray} (h : a = ⟨#[]⟩) : a.toList = [] := by
  subst h
  rw [ByteArray.toList, ByteArray.toList.loop]; rfl
theorem str_nilE {a : ByteArray} (h : a = ⟨#[]⟩) : a.toList.isEmpty = true := by rw [str_nil h]; rfl
theorem str_some {a : ByteArray} (h : ¬ a = ⟨#[]⟩) : ¬ a.toList = [] := fun e => by
  have h1 := str_ne h
  rw [e, str_nil (rfl : (⟨#[]⟩ : ByteArray) = ⟨#[]⟩)] at h1
  cases h1
theorem str_someE {a : ByteArray} (h : ¬ a = ⟨#[]⟩) : a.toList.isEmpty = false := by
  have := str_some h
  cases hl : a.toList with
  | nil => exact absurd hl this
  | cons x y => rfl
end Go.Proofs.YtfajcogkbmefjaaDoor
