/-
  The texts NatI2, NatI4, put together; each has its own heading below. No condition of ours.
-/
import Derived.Test.YtdcceppednngjaaPB
import Derived.Laws.CopyOwn
/-
  The program's natural numbers: contracts (2): addTimes.
-/

namespace Go.Proofs.Ytdcceppednngjaa
open Go.RowKit
set_option linter.unusedVariables false

theorem Rd.aside {w w' : World} {B lo hi : Nat} {A : Option Addr} {xs : List Value} (h : Rd w B A xs) (ha : Aside lo hi w w') (hB : B ≤ w.heap.size) (hs : ∀ ad, A = some ad → ad.block < lo ∨ hi ≤ ad.block) : Rd w' B A xs := by
  rcases h with e | ⟨ad, e, hb, hc⟩
  · exact .inl e
  · refine .inr ⟨ad, e, hb, fun k u hu => ?_⟩
    rw [World.cell?_of_block (w := w) (w' := w') (ha.block _ (by rw [add_block]; omega) (by rw [add_block]; exact hs ad e))]
    exact hc k u hu
/-- the low limbs done, and the carry behind them -/
def AddI (mid ys : List Int) (f : Int) (done : List Int) (k : Nat) (q : Int) : Prop := done.length = k ∧ Limbs done ∧ val done + 1000000000 ^ k * q = val (mid.take k) + f * val (ys.take k)
theorem AddI.next {mid ys done : List Int} {f q d y s : Int} {k : Nat} (h : AddI mid ys f done k q) (hd : mid.getD k 0 = d) (hy : ys.getD k 0 = y) (hs : s = d + f * y + q) : AddI mid ys f (done ++ [s % 1000000000]) (k + 1) (s / 1000000000) := by
  obtain ⟨h1, h2, h3⟩ := h
  refine ⟨by rw [List.length_append, h1]; rfl, h2.append (Limbs.mk (by omega) Limbs.nil), ?_⟩
  have := add_step (P := 1000000000 ^ k) (x := d) (y := f * y) (N := s) h3 (by omega)
  rw [val_snoc, h1, val_take_step, val_take_step, hd, hy, Int.pow_succ, Int.mul_add, Int.mul_left_comm f]
  exact this
theorem blk_set (pre done mid post : List Int) (k : Nat) (d : Int) (h : done.length = k) (hk : k < mid.length) : (pre ++ (done ++ mid.drop k) ++ post).set (pre.length + k) d = pre ++ ((done ++ [d]) ++ mid.drop (k + 1)) ++ post := by
  rw [List.set_append_left _ _ (by simp only [List.length_append, List.length_drop]; omega), List.set_append_right _ _ (by omega), List.set_append_right _ _ (by omega), List.drop_eq_getElem_cons hk]
  rw [show pre.length + k - pre.length - done.length = 0 by omega, List.set_cons_zero]
  simp
/-- the row and the carry, told for a round of addTimes -/
structure AddR (w wr : World) (g : Nat) (E : TypeId) (pre mid post done : List Int) (k : Nat) : Prop where
  blk : Blk wr g E (pre ++ (done ++ mid.drop k) ++ post)
  aside : Aside g (g + 1) w wr
  len : done.length = k
theorem AddR.stored {w wr : World} {g : Nat} {E : TypeId} {pre mid post done : List Int} {k : Nat} (h : AddR w wr g E pre mid post done k) (hk : k < mid.length) (d : Int) : AddR w (wr.setCell ⟨g, pre.length + k, none⟩ (.int .i64 d)) g E pre mid post (done ++ [d]) (k + 1) :=
  ⟨by rw [← blk_set _ _ _ _ _ _ h.len hk]; exact h.blk.set _ _, h.aside.setCell (Nat.le_refl _) (Nat.lt_succ_self _) _, by rw [List.length_append, h.len]; rfl⟩

end Go.Proofs.Ytdcceppednngjaa

/-
  The program's natural numbers: contracts (4): NatToInt, NatAdd, NatSub, NatMul.
-/

namespace Go.Proofs.Ytdcceppednngjaa
open Go.RowKit
set_option linter.unusedVariables false

/-! ### rows with zeros behind -/
theorem Limbs.last {l : List Int} (h : Limbs l) : ∀ d, l.getLast? = some d → -1000000000000000000 ≤ d ∧ d ≤ 1000000000000000000 := fun d hd => by
  have := h d (List.mem_of_getLast? hd); omega
/-! ### NatAdd -/
/-! ### NatSub -/
end Go.Proofs.Ytdcceppednngjaa
