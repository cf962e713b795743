/-
  The reference's big integers: contracts (1): Ok, l03Make.
-/
import Derived.Test.YtnbaookdeijhhaaGreatDoorRA
import Derived.Test.YtnbaookdeijhhaaGreatDoorNatLen
import Derived.Test.YtnbaookdeijhhaaGreatDoorPB
namespace Go.Proofs.YtnbaookdeijhhaaGreatDoor
open Go.RowKit
set_option linter.unusedVariables false

theorem notEmpty_len {xs : List Int} {n : Nat} (h : xs.length = n) : (!xs.isEmpty) = decide (0 < (n : Int)) := by
  subst h; cases xs with
  | nil => rfl
  | cons a l => simp
theorem Rd.take {w : World} {B : Nat} {A : Option Addr} {xs : List Value} (h : Rd w B A xs) (m : Nat) : Rd w B A (xs.take m) := by
  rcases h with e | ⟨ad, hA, hb, hc⟩
  · subst e; exact .inl (by simp)
  · refine .inr ⟨ad, hA, hb, fun k u hu => hc k u ?_⟩
    rw [List.getElem?_take] at hu
    split at hu
    · exact hu
    · cases hu
set_option maxHeartbeats 800000 in
theorem spec_BigIntOk (w : World) (B : Nat) (hB : B ≤ w.heap.size) (s : Bool) (A : Option Addr) (n c : Nat) (xs : List Int) (R : RdI w B A n xs) :
    Calls Tryz.prog 158 #[.agg #[.bool s, .slice A n c]] w fun e w' => e = .returned (.bool (bigB s xs)) ∧ Below w.heap.size w w' := by
  have hb0 := below_new w (.cells #[.bool s, .slice A n c] 25)
  have hs0 := hb0.size
  have R1 := R.below (hb0.mono hB)
  have HC := hide (spec_NatOk _ B (by omega) A n c xs R1)
  have hxl := R.1
  clear R1
  by_cases hn : natB xs = true
  · rw [hn] at HC
    cases s
    · have hv : bigB false xs = true := by rw [bigB, hn]; rfl
      rw [hv]
      go_enter Tryz.func158, Tryz.ntmps158
      go_wp2_with fail
      refine HC.out.mono ?_
      rintro e w1 ⟨rfl, rfl⟩
      go_wp2_with fail
      go_ret
      exact ⟨rfl, hb0⟩
    · have hv : bigB true xs = decide (0 < (n : Int)) := by rw [bigB, hn, ← notEmpty_len hxl]; rfl
      rw [hv]
      clear hv
      go_enter Tryz.func158, Tryz.ntmps158
      go_wp2_with fail
      refine HC.out.mono ?_
      rintro e w1 ⟨rfl, rfl⟩
      by_cases h0 : 0 < (n : Int)
      · go_wp2_with fail
        go_ret
        exact ⟨by simp, hb0⟩
      · go_wp2_with fail
        go_ret
        exact ⟨by simp, hb0⟩
  · have hn : natB xs = false := by simpa using hn
    rw [hn] at HC
    rw [bigB_bad hn]
    go_enter Tryz.func158, Tryz.ntmps158
    go_wp2_with fail
    refine HC.out.mono ?_
    rintro e w1 ⟨rfl, rfl⟩
    go_wp2_with fail
    go_ret
    exact ⟨rfl, hb0⟩
end Go.Proofs.YtnbaookdeijhhaaGreatDoor
