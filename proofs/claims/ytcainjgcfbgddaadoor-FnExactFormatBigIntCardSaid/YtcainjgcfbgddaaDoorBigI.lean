/-
  The program's big integers: contracts (1): signedOf, isNatural, isZero, isValid, bigInt.
-/
import Derived.Test.YtcainjgcfbgddaaDoorNatI3
import Derived.Test.YtcainjgcfbgddaaDoorBigM
import Derived.Test.YtcainjgcfbgddaaDoorBigP
import Derived.Deep.RegionHeld3
namespace Go.Proofs.YtcainjgcfbgddaaDoor
open Go.RowKit
set_option maxHeartbeats 400000 in
theorem impl_signedOf (w : World) (s : Bool) (A : Option Addr) (n c : Nat) :
    Calls Tryd.prog 13 #[.agg #[.bool s, .slice A n c]] w fun e w' => e = .returned (.agg #[.slice A n c, .bool s]) ∧ Below w.heap.size w w' := by
  go_enter Tryd.func13, Tryd.ntmps13
  go_wp2_with fail
  refine bodyPost_ret (results_cell_row rfl _ _ (w.heap.size + 1) _ #[.slice A n c, .bool s] (0, 0) _ rfl (heap_last (alloc_size _ _).symm) Tryd.underlying37 rfl Tryd.sizeSigned) rfl ?_
  exact ⟨rfl, ((Below.refl _ _).alloc (Nat.le_refl _) _).alloc (by rw [alloc_size]; omega) _⟩
set_option maxHeartbeats 400000 in
theorem impl_isNatural (w : World) (B : Nat) (hB : B ≤ w.heap.size) (A : Option Addr) (n c : Nat) (xs : List Int) (R : RdI w B A n xs) :
    Calls Tryd.prog 20 #[.slice A n c] w fun e w' => e = .returned (.bool (natB xs)) ∧ w = w' := by
  go_enter Tryd.func20, Tryd.ntmps20
  go_wp2_with fail
  refine (impl_NatOk w B hB A n c xs R).mono ?_
  rintro e w1 ⟨rfl, rfl⟩
  go_wp2_with fail
  go_ret
  exact ⟨rfl, rfl⟩
theorem isEmpty_len {xs : List Int} {n : Nat} (h : xs.length = n) : xs.isEmpty = ((n : Int) == 0) := by
  subst h; cases xs with
  | nil => rfl
  | cons a l => simp; omega
set_option maxHeartbeats 400000 in
theorem impl_isZero (w : World) (A : Option Addr) (n c : Nat) (xs : List Int) (hn : xs.length = n) :
    Calls Tryd.prog 21 #[.slice A n c] w fun e w' => e = .returned (.bool xs.isEmpty) ∧ w = w' := by
  rw [isEmpty_len hn]
  go_enter Tryd.func21, Tryd.ntmps21
  go_wp2_with fail
  go_ret
  exact ⟨rfl, rfl⟩
set_option maxHeartbeats 400000 in
theorem impl_isValid (w : World) (B : Nat) (hB : B ≤ w.heap.size) (s : Bool) (A : Option Addr) (n c : Nat) (xs : List Int) (R : RdI w B A n xs) :
    Calls Tryd.prog 14 #[.agg #[.slice A n c, .bool s]] w fun e w' => e = .returned (.bool (bigB s xs)) ∧ Below w.heap.size w w' := by
  have hb0 : Below w.heap.size w (w.alloc (.cells #[.slice A n c, .bool s] 37)) := (Below.refl _ _).alloc (Nat.le_refl _) _
  have hs := alloc_size w (.cells #[.slice A n c, .bool s] 37)
  have R1 := R.below (hb0.mono hB)
  by_cases hn : natB xs = true
  · cases s
    · have hv : bigB false xs = true := by rw [bigB, hn]; rfl
      rw [hv]
      go_enter Tryd.func14, Tryd.ntmps14
      go_wp2_with fail
      refine (impl_isNatural _ B (by omega) A n c xs R1).mono ?_
      rintro e w1 ⟨rfl, rfl⟩
      rw [hn]
      go_wp2_with fail
      go_ret
      exact ⟨rfl, hb0⟩
    · have hv : bigB true xs = !xs.isEmpty := by rw [bigB, hn]; rfl
      rw [hv]
      go_enter Tryd.func14, Tryd.ntmps14
      go_wp2_with fail
      refine (impl_isNatural _ B (by omega) A n c xs R1).mono ?_
      rintro e w1 ⟨rfl, rfl⟩
      rw [hn]
      go_wp2_with fail
      refine (impl_isZero _ A n c xs R.1).mono ?_
      rintro e w1 ⟨rfl, rfl⟩
      go_wp2_with fail
      go_ret
      exact ⟨rfl, hb0⟩
  · have hn : natB xs = false := by simpa using hn
    rw [bigB_bad hn]
    go_enter Tryd.func14, Tryd.ntmps14
    go_wp2_with fail
    refine (impl_isNatural _ B (by omega) A n c xs R1).mono ?_
    rintro e w1 ⟨rfl, rfl⟩
    rw [hn]
    go_wp2_with fail
    go_ret
    exact ⟨rfl, hb0⟩
end Go.Proofs.YtcainjgcfbgddaaDoor
