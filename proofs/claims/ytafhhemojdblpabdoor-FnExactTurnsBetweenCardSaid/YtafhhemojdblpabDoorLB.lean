/-
  The texts RatL, PtL, put together; each has its own heading below. No condition of ours.
-/
import Derived.Test.YtafhhemojdblpabDoorMarkI
import Derived.Test.YtafhhemojdblpabDoorPB
import Derived.Deep.CutRange
import Derived.Test.YtafhhemojdblpabDoorPtM
/-
  The laws' helpers for fractions: szRat, toRat, eqRat, markRat, heldRat: contracts.
-/



namespace Go.Proofs.YtafhhemojdblpabDoor
open Go.RowKit
set_option linter.unusedVariables false
/-- two lists of the call's own, in stretches apart, all from block lo up to hi -/
def PairH (w : World) (lo hi : Nat) (E : TypeId) (v1 : Value) (n1 : Nat) (X1 : List Value) (v2 : Value) (n2 : Nat) (X2 : List Value) : Prop :=
  ∃ l1 h1 l2 h2, Own w l1 h1 E v1 n1 X1 ∧ Own w l2 h2 E v2 n2 X2 ∧ lo ≤ l1 ∧ lo ≤ l2 ∧ h1 ≤ hi ∧ h2 ≤ hi ∧ (h1 ≤ l2 ∨ h2 ≤ l1)
def BothH (w : World) (lo hi : Nat) (E : TypeId) (v1 : Value) (n1 : Nat) (X1 : List Value) (v2 : Value) (n2 : Nat) (X2 : List Value) : Prop :=
  Own w lo hi E v1 n1 X1 ∧ Own w lo hi E v2 n2 X2
section
variable {w w' : World} {lo hi lo' hi' n1 n2 B c1 c2 : Nat} {E : TypeId} {v1 v2 : Value} {X1 X2 : List Value} {A1 A2 : Option Addr}
theorem PairH.below (h : PairH w lo hi E v1 n1 X1 v2 n2 X2) (hb : Below B w w') (hh : hi ≤ B) : PairH w' lo hi E v1 n1 X1 v2 n2 X2 := by
  obtain ⟨l1, h1, l2, h2, o1, o2, a, b, c, d, e⟩ := h
  exact ⟨l1, h1, l2, h2, o1.below hb (by omega), o2.below hb (by omega), a, b, c, d, e⟩
theorem BothH.below (h : BothH w lo hi E v1 n1 X1 v2 n2 X2) (hb : Below B w w') (hh : hi ≤ B) : BothH w' lo hi E v1 n1 X1 v2 n2 X2 := ⟨h.1.below hb hh, h.2.below hb hh⟩
theorem PairH.aside (h : PairH w lo hi E v1 n1 X1 v2 n2 X2) (ha : Aside lo' hi' w w') (hd : hi ≤ lo' ∨ hi' ≤ lo) : PairH w' lo hi E v1 n1 X1 v2 n2 X2 := by
  obtain ⟨l1, h1, l2, h2, o1, o2, a, b, c, d, e⟩ := h
  exact ⟨l1, h1, l2, h2, o1.aside ha (by omega), o2.aside ha (by omega), a, b, c, d, e⟩
theorem BothH.aside (h : BothH w lo hi E v1 n1 X1 v2 n2 X2) (ha : Aside lo' hi' w w') (hd : hi ≤ lo' ∨ hi' ≤ lo) : BothH w' lo hi E v1 n1 X1 v2 n2 X2 := ⟨h.1.aside ha hd, h.2.aside ha hd⟩
theorem PairH.form (h : PairH w lo hi E v1 n1 X1 v2 n2 X2) : ∃ A1 c1 A2 c2, v1 = .slice A1 n1 c1 ∧ v2 = .slice A2 n2 c2 := by
  obtain ⟨l1, h1, l2, h2, o1, o2, _⟩ := h
  obtain ⟨A1, c1, e1⟩ := o1.form
  obtain ⟨A2, c2, e2⟩ := o2.form
  exact ⟨A1, c1, A2, c2, e1, e2⟩
theorem BothH.form (h : BothH w lo hi E v1 n1 X1 v2 n2 X2) : ∃ A1 c1 A2 c2, v1 = .slice A1 n1 c1 ∧ v2 = .slice A2 n2 c2 := by
  obtain ⟨A1, c1, e1⟩ := h.1.form
  obtain ⟨A2, c2, e2⟩ := h.2.form
  exact ⟨A1, c1, A2, c2, e1, e2⟩
end
end Go.Proofs.YtafhhemojdblpabDoor

/-
  The laws' helpers told over whole fractions, and the same for vectors and points: szPoint, toVec, toPoint, eqVec, eqPoint, markPoint, heldPoint.
-/


namespace Go.Proofs.YtafhhemojdblpabDoor
open Go.RowKit
set_option linter.unusedVariables false
/-! vectors -/
theorem Tryd.sizeVec : (Tryd.prog.info? 30).map (·.size) = some 2 := by kernel_rfl
end Go.Proofs.YtafhhemojdblpabDoor
