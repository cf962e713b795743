/-
  The reference's big integers: contracts (2): BigIntOf, BigIntToInt, BigIntNeg.
-/
import Derived.Test.YtcpncoonbdbkmaaBigR
import Derived.Test.YtcpncoonbdbkmaaRA
namespace Go.Proofs.Ytcpncoonbdbkmaa
open Go.RowKit
set_option linter.unusedVariables false

theorem make_limbs (s : Bool) (k : Nat) : (s && !(capT (limbs k)).isEmpty, capT (limbs k)) = capZ (if s then -(k : Int) else k) := by
  rw [capT_capL (limbs_ok k) (val_limbs k)]; exact capZ_make s k
theorem make_eq {s : Bool} {xs : List Int} (h : Limbs xs) {k : Nat} (hk : val xs = k) : (s && !(capT xs).isEmpty, capT xs) = capZ (if s then -(k : Int) else k) := by
  rw [capT_capL h hk]; exact capZ_make s k
end Go.Proofs.Ytcpncoonbdbkmaa
