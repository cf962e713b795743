/-
  Where a whole point lies: ContainsPoint at PointOf.
-/
import Derived.Test.YtcpncoonbdbkmaaGreatPC
import Derived.Test.YtcpncoonbdbkmaaGreatSP
namespace Go.Proofs.YtcpncoonbdbkmaaGreat
open Go.RowKit
set_option linter.unusedVariables false
theorem inR_vec {x : Int} (h : -1000 ≤ x) (h' : x ≤ 1000) : inRc x := inR_small (by omega)
theorem ratQ_int {x : Int} (h : -1000 ≤ x) (h' : x ≤ 1000) : ratQ (intQ x) = true := by
  have hr := inR_vec h h'
  have hb := bigB_capC hr
  have e := capZ_inC hr
  have hN : natB (capZ x).2 = true := by rw [e]; exact natB_limbs hr
  have hV : natV (capZ x).2 = x.natAbs := by rw [e]; exact natV_limbs _
  have hl : (capZ x).2.length ≤ 24 := by rw [e]; exact limbs_len.2 (Nat.lt_of_le_of_lt (show x.natAbs ≤ 1000 by omega) (by decide))
  have h1 : natB [1] = true := by decide
  have h2 : natV [1] = 1 := by decide
  unfold ratQ intQ ratB
  rw [hb]
  have hg : gcdL (capZ x).2 [1] = [1] := by rw [gcdL, hN, h1, hV, h2, Nat.gcd_one_right]; simp [limbs]
  simp only [hg]
  unfold shortB
  simp [hl]
end Go.Proofs.YtcpncoonbdbkmaaGreat
