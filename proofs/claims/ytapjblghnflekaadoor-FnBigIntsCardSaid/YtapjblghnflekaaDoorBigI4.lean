/-
  The program's big integers: contracts (4): BigIntToInt, BigIntNeg.
-/
import Derived.Test.YtapjblghnflekaaDoorBigI3
namespace Go.Proofs.YtapjblghnflekaaDoor
open Go.RowKit
set_option linter.unusedVariables false

theorem natInt_zero {xs : List Int} (h : natIntOk xs = false) : natInt xs = 0 := by rw [natInt, h]; rfl
theorem intZ_true {xs : List Int} (hv : bigB true xs = true) : intZ true xs = -natInt xs := by
  rw [intZ, intOkZ, hv, natInt]
  cases natIntOk xs <;> simp [zv]
theorem intZ_false {xs : List Int} (hv : bigB false xs = true) : intZ false xs = natInt xs := by
  rw [intZ, intOkZ, hv, natInt]
  cases natIntOk xs <;> simp [zv]
theorem natInt_b (xs : List Int) : 0 ≤ natInt xs ∧ natInt xs ≤ 9223372036854775807 := by
  unfold natInt; split
  · rename_i h
    unfold natIntOk at h; simp at h
    exact ⟨natV_nonneg h.1, h.2⟩
  · omega
theorem negZ_no {s : Bool} {xs : List Int} (h : bigB s xs = false) : negZ s xs = noZ := by rw [negZ, h]; rfl
end Go.Proofs.YtapjblghnflekaaDoor
