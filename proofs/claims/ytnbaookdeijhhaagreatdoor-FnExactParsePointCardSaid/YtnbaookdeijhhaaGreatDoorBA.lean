/-
  The texts BigI, BigI2, put together; each has its own heading below. No condition of ours.
-/
import Derived.Test.YtnbaookdeijhhaaGreatDoorIA
import Derived.Test.YtnbaookdeijhhaaGreatDoorPB
import Derived.Deep.RegionHeld3
/-
  The program's big integers: contracts (1): signedOf, isNatural, isZero, isValid, bigInt.
-/




namespace Go.Proofs.YtnbaookdeijhhaaGreatDoor
open Go.RowKit
set_option maxHeartbeats 400000 in
theorem impl_signedOf (w : World) (s : Bool) (A : Option Addr) (n c : Nat) :
    Calls Tryz.prog 89 #[.agg #[.bool s, .slice A n c]] w fun e w' => e = .returned (.agg #[.slice A n c, .bool s]) ∧ Below w.heap.size w w' := by
  go_enter Tryz.func89, Tryz.ntmps89
  go_wp2_with fail
  refine bodyPost_ret (results_cell_row rfl _ _ (w.heap.size + 1) _ #[.slice A n c, .bool s] (0, 0) _ rfl (heap_last (alloc_size _ _).symm) Tryz.underlying111 rfl Tryz.sizeSigned) rfl ?_
  exact ⟨rfl, ((Below.refl _ _).alloc (Nat.le_refl _) _).alloc (by rw [alloc_size]; omega) _⟩
set_option maxHeartbeats 400000 in
theorem impl_isNatural (w : World) (B : Nat) (hB : B ≤ w.heap.size) (A : Option Addr) (n c : Nat) (xs : List Int) (R : RdI w B A n xs) :
    Calls Tryz.prog 139 #[.slice A n c] w fun e w' => e = .returned (.bool (natB xs)) ∧ w = w' := by
  go_enter Tryz.func139, Tryz.ntmps139
  go_wp2_with fail
  refine (impl_NatOk w B hB A n c xs R).mono ?_
  rintro e w1 ⟨rfl, rfl⟩
  go_wp2_with fail
  go_ret
  exact ⟨rfl, rfl⟩
set_option maxHeartbeats 400000 in
theorem impl_isZero (w : World) (A : Option Addr) (n c : Nat) (xs : List Int) (hn : xs.length = n) :
    Calls Tryz.prog 140 #[.slice A n c] w fun e w' => e = .returned (.bool xs.isEmpty) ∧ w = w' := by
  rw [isEmpty_len hn]
  go_enter Tryz.func140, Tryz.ntmps140
  go_wp2_with fail
  go_ret
  exact ⟨rfl, rfl⟩
set_option maxHeartbeats 400000 in
theorem impl_isValid (w : World) (B : Nat) (hB : B ≤ w.heap.size) (s : Bool) (A : Option Addr) (n c : Nat) (xs : List Int) (R : RdI w B A n xs) :
    Calls Tryz.prog 90 #[.agg #[.slice A n c, .bool s]] w fun e w' => e = .returned (.bool (bigB s xs)) ∧ Below w.heap.size w w' := by
  have hb0 : Below w.heap.size w (w.alloc (.cells #[.slice A n c, .bool s] 111)) := (Below.refl _ _).alloc (Nat.le_refl _) _
  have hs := alloc_size w (.cells #[.slice A n c, .bool s] 111)
  have R1 := R.below (hb0.mono hB)
  by_cases hn : natB xs = true
  · cases s
    · have hv : bigB false xs = true := by rw [bigB, hn]; rfl
      rw [hv]
      go_enter Tryz.func90, Tryz.ntmps90
      go_wp2_with fail
      refine (impl_isNatural _ B (by omega) A n c xs R1).mono ?_
      rintro e w1 ⟨rfl, rfl⟩
      rw [hn]
      go_wp2_with fail
      go_ret
      exact ⟨rfl, hb0⟩
    · have hv : bigB true xs = !xs.isEmpty := by rw [bigB, hn]; rfl
      rw [hv]
      go_enter Tryz.func90, Tryz.ntmps90
      go_wp2_with fail
      refine (impl_isNatural _ B (by omega) A n c xs R1).mono ?_
      rintro e w1 ⟨rfl, rfl⟩
      rw [hn]
      go_wp2_with fail
      refine (impl_isZero _ A n c xs R.1).mono ?_
      rintro e w1 ⟨rfl, rfl⟩
      go_wp2_with fail
      go_ret
      exact ⟨rfl, hb0⟩
  · have hn : natB xs = false := by simpa using hn
    rw [bigB_bad hn]
    go_enter Tryz.func90, Tryz.ntmps90
    go_wp2_with fail
    refine (impl_isNatural _ B (by omega) A n c xs R1).mono ?_
    rintro e w1 ⟨rfl, rfl⟩
    rw [hn]
    go_wp2_with fail
    go_ret
    exact ⟨rfl, hb0⟩
end Go.Proofs.YtnbaookdeijhhaaGreatDoor

/-
  The program's big integers: contracts (2): BigIntOk, magnitudeOf, BigIntOf, toInt, BigIntToInt, copied, compare.
-/



namespace Go.Proofs.YtnbaookdeijhhaaGreatDoor
open Go.RowKit
set_option linter.unusedVariables false

set_option maxHeartbeats 400000 in
theorem impl_BigIntOk (w : World) (B : Nat) (hB : B ≤ w.heap.size) (s : Bool) (A : Option Addr) (n c : Nat) (xs : List Int) (R : RdI w B A n xs) :
    Calls Tryz.prog 83 #[.agg #[.bool s, .slice A n c]] w fun e w' => e = .returned (.bool (bigB s xs)) ∧ Below w.heap.size w w' := by
  have hb0 := below_new w (.cells #[.bool s, .slice A n c] 25)
  go_enter Tryz.func83, Tryz.ntmps83
  go_wp2_with fail
  refine (impl_signedOf _ s A n c).mono ?_
  rintro e w1 ⟨rfl, hb1⟩
  have hb1' := below_then hb0 hb1
  have hs1 := hb1'.size
  have R1 := R.below (hb1'.mono hB)
  go_wp2_with fail
  refine (impl_isValid w1 B (by omega) s A n c xs R1).mono ?_
  rintro e w2 ⟨rfl, hb2⟩
  have hb2' := below_then hb1' hb2
  go_wp2_with fail
  go_ret
  exact ⟨rfl, hb2'⟩

end Go.Proofs.YtnbaookdeijhhaaGreatDoor
