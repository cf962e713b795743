/-
  The texts NatI2, NatI3, NatI4, put together; each has its own heading below. No condition of ours.
-/
import Derived.Test.YtocllmaikngoaaaDoorPB
import Derived.Laws.CopyOwn
/-
  The program's natural numbers: contracts (2): addTimes.
-/

namespace Go.Proofs.YtocllmaikngoaaaDoor
open Go.RowKit
set_option linter.unusedVariables false

theorem Rd.aside {w w' : World} {B lo hi : Nat} {A : Option Addr} {xs : List Value} (h : Rd w B A xs) (ha : Aside lo hi w w') (hB : B ≤ w.heap.size) (hs : ∀ ad, A = some ad → ad.block < lo ∨ hi ≤ ad.block) : Rd w' B A xs := by
  rcases h with e | ⟨ad, e, hb, hc⟩
  · exact .inl e
  · refine .inr ⟨ad, e, hb, fun k u hu => ?_⟩
    rw [World.cell?_of_block (w := w) (w' := w') (ha.block _ (by rw [add_block]; omega) (by rw [add_block]; exact hs ad e))]
    exact hc k u hu
/-- the low limbs done, and the carry behind them -/
def AddI (mid ys : List Int) (f : Int) (done : List Int) (k : Nat) (q : Int) : Prop := done.length = k ∧ Limbs done ∧ val done + 1000000000 ^ k * q = val (mid.take k) + f * val (ys.take k)
theorem AddI.next {mid ys done : List Int} {f q d y s : Int} {k : Nat} (h : AddI mid ys f done k q) (hd : mid.getD k 0 = d) (hy : ys.getD k 0 = y) (hs : s = d + f * y + q) : AddI mid ys f (done ++ [s % 1000000000]) (k + 1) (s / 1000000000) := by
  obtain ⟨h1, h2, h3⟩ := h
  refine ⟨by rw [List.length_append, h1]; rfl, h2.append (Limbs.mk (by omega) Limbs.nil), ?_⟩
  have := add_step (P := 1000000000 ^ k) (x := d) (y := f * y) (N := s) h3 (by omega)
  rw [val_snoc, h1, val_take_step, val_take_step, hd, hy, Int.pow_succ, Int.mul_add, Int.mul_left_comm f]
  exact this
theorem blk_len (pre done mid post : List Int) (k : Nat) (h : done.length = k) (hk : k ≤ mid.length) : (pre ++ (done ++ mid.drop k) ++ post).length = pre.length + mid.length + post.length := by
  simp only [List.length_append, List.length_drop]; omega
theorem blk_at (pre done mid post : List Int) (k : Nat) (h : done.length = k) (hk : k < mid.length) : (pre ++ (done ++ mid.drop k) ++ post)[pre.length + k]'(by rw [blk_len pre done mid post k h (by omega)]; omega) = mid[k] := by
  rw [List.getElem_append_left (by simp only [List.length_append, List.length_drop]; omega), List.getElem_append_right (by omega), List.getElem_append_right (by omega), List.getElem_drop]
  congr 1; omega
theorem blk_set (pre done mid post : List Int) (k : Nat) (d : Int) (h : done.length = k) (hk : k < mid.length) : (pre ++ (done ++ mid.drop k) ++ post).set (pre.length + k) d = pre ++ ((done ++ [d]) ++ mid.drop (k + 1)) ++ post := by
  rw [List.set_append_left _ _ (by simp only [List.length_append, List.length_drop]; omega), List.set_append_right _ _ (by omega), List.set_append_right _ _ (by omega), List.drop_eq_getElem_cons hk]
  rw [show pre.length + k - pre.length - done.length = 0 by omega, List.set_cons_zero]
  simp
/-- the row and the carry, told for a round of addTimes -/
structure AddR (w wr : World) (g : Nat) (E : TypeId) (pre mid post done : List Int) (k : Nat) : Prop where
  blk : Blk wr g E (pre ++ (done ++ mid.drop k) ++ post)
  aside : Aside g (g + 1) w wr
  len : done.length = k
theorem AddR.reads {w wr : World} {g : Nat} {E : TypeId} {pre mid post done : List Int} {k : Nat} (h : AddR w wr g E pre mid post done k) (hk : k < mid.length) : wr.cell? ⟨g, pre.length + k, none⟩ = some (.int .i64 mid[k]) := by
  rw [h.blk.cell (j := pre.length + k) (by rw [blk_len _ _ _ _ _ h.len (by omega)]; omega), blk_at _ _ _ _ _ h.len hk]
theorem AddR.stored {w wr : World} {g : Nat} {E : TypeId} {pre mid post done : List Int} {k : Nat} (h : AddR w wr g E pre mid post done k) (hk : k < mid.length) (d : Int) : AddR w (wr.setCell ⟨g, pre.length + k, none⟩ (.int .i64 d)) g E pre mid post (done ++ [d]) (k + 1) :=
  ⟨by rw [← blk_set _ _ _ _ _ _ h.len hk]; exact h.blk.set _ _, h.aside.setCell (Nat.le_refl _) (Nat.lt_succ_self _) _, by rw [List.length_append, h.len]; rfl⟩

end Go.Proofs.YtocllmaikngoaaaDoor

/-
  The program's natural numbers: contracts (3): NatOk, NatOf, cmp.Compare, compareLimbs, NatCmp.
-/

namespace Go.Proofs.YtocllmaikngoaaaDoor
open Go.RowKit
set_option linter.unusedVariables false

/-! ### NatOf -/
/-! ### cmp.Compare, compareLimbs, NatCmp -/
theorem impl_isNaN (w : World) (x : Int) : Calls Tryd.prog 97 #[.int .i64 x] w fun e w' => e = .returned (.bool false) ∧ w = w' := by
  have h : (x != x) = false := by simp
  go_enter Tryd.func97, Tryd.ntmps97
  go_wp2_with fail
  go_ret
  exact ⟨rfl, rfl⟩
set_option maxHeartbeats 800000 in
theorem impl_Compare (w : World) (x y : Int) : Calls Tryd.prog 86 #[.int .i64 x, .int .i64 y] w fun e w' => e = .returned (.int .i64 (cmpV x y)) ∧ w = w' := by
  have H1 := hide (impl_isNaN w x)
  have H2 := hide (impl_isNaN w y)
  by_cases h1 : x < y
  · have HE := hide (cmpV_lt h1)
    go_enter Tryd.func86, Tryd.ntmps86
    go_wp2_with fail
    refine H1.out.mono ?_
    rintro e w' ⟨rfl, rfl⟩
    go_wp2_with fail
    refine H2.out.mono ?_
    rintro e w' ⟨rfl, rfl⟩
    go_wp2_with fail
    go_ret
    exact ⟨ret_int HE.out.symm, rfl⟩
  · by_cases h2 : y < x
    · have HE := hide (cmpV_gt h2)
      go_enter Tryd.func86, Tryd.ntmps86
      go_wp2_with fail
      refine H1.out.mono ?_
      rintro e w' ⟨rfl, rfl⟩
      go_wp2_with fail
      refine H2.out.mono ?_
      rintro e w' ⟨rfl, rfl⟩
      go_wp2_with fail
      go_ret
      exact ⟨ret_int HE.out.symm, rfl⟩
    · have e : x = y := by omega
      have HE : Hid (cmpV x y = 0) := by show _ = _; rw [e]; exact cmpV_eq _
      clear e
      go_enter Tryd.func86, Tryd.ntmps86
      go_wp2_with fail
      refine H1.out.mono ?_
      rintro e w' ⟨rfl, rfl⟩
      go_wp2_with fail
      refine H2.out.mono ?_
      rintro e w' ⟨rfl, rfl⟩
      go_wp2_with fail
      go_ret
      exact ⟨ret_int HE.out.symm, rfl⟩
end Go.Proofs.YtocllmaikngoaaaDoor

/-
  The program's natural numbers: contracts (4): NatToInt, NatAdd, NatSub, NatMul.
-/

namespace Go.Proofs.YtocllmaikngoaaaDoor
open Go.RowKit
set_option linter.unusedVariables false

/-! ### rows with zeros behind -/
theorem Limbs.last {l : List Int} (h : Limbs l) : ∀ d, l.getLast? = some d → -1000000000000000000 ≤ d ∧ d ≤ 1000000000000000000 := fun d hd => by
  have := h d (List.mem_of_getLast? hd); omega
/-! ### NatAdd -/
/-! ### NatSub -/
end Go.Proofs.YtocllmaikngoaaaDoor
