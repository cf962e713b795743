/-
  The texts NatI2, put together; each has its own heading below. No condition of ours.
-/
import Derived.Test.YtafhhemojdblpabPB
import Derived.Laws.CopyOwn
/-
  The program's natural numbers: contracts (2): addTimes.
-/

namespace Go.Proofs.Ytafhhemojdblpab
open Go.RowKit
set_option linter.unusedVariables false

/-- the low limbs done, and the carry behind them -/
def AddI (mid ys : List Int) (f : Int) (done : List Int) (k : Nat) (q : Int) : Prop := done.length = k ∧ Limbs done ∧ val done + 1000000000 ^ k * q = val (mid.take k) + f * val (ys.take k)
theorem AddI.next {mid ys done : List Int} {f q d y s : Int} {k : Nat} (h : AddI mid ys f done k q) (hd : mid.getD k 0 = d) (hy : ys.getD k 0 = y) (hs : s = d + f * y + q) : AddI mid ys f (done ++ [s % 1000000000]) (k + 1) (s / 1000000000) := by
  obtain ⟨h1, h2, h3⟩ := h
  refine ⟨by rw [List.length_append, h1]; rfl, h2.append (Limbs.mk (by omega) Limbs.nil), ?_⟩
  have := add_step (P := 1000000000 ^ k) (x := d) (y := f * y) (N := s) h3 (by omega)
  rw [val_snoc, h1, val_take_step, val_take_step, hd, hy, Int.pow_succ, Int.mul_add, Int.mul_left_comm f]
  exact this
end Go.Proofs.Ytafhhemojdblpab
