/-
  The program's big integers: contracts (2): BigIntOk, magnitudeOf, BigIntOf, toInt, BigIntToInt, copied, compare.
-/
import Derived.Test.YtapjblghnflekaaDoorBigI
import Derived.Test.YtapjblghnflekaaDoorNatI4
import Derived.Test.YtapjblghnflekaaDoorNatI4x
namespace Go.Proofs.YtapjblghnflekaaDoor
open Go.RowKit
set_option linter.unusedVariables false

set_option maxHeartbeats 400000 in
theorem impl_BigIntOk (w : World) (B : Nat) (hB : B ≤ w.heap.size) (s : Bool) (A : Option Addr) (n c : Nat) (xs : List Int) (R : RdI w B A n xs) :
    Calls Tryd.prog 15 #[.agg #[.bool s, .slice A n c]] w fun e w' => e = .returned (.bool (bigB s xs)) ∧ Below w.heap.size w w' := by
  have hb0 := below_new w (.cells #[.bool s, .slice A n c] 25)
  go_enter Tryd.func15, Tryd.ntmps15
  go_wp2_with fail
  refine (impl_signedOf _ s A n c).mono ?_
  rintro e w1 ⟨rfl, hb1⟩
  have hb1' := below_then hb0 hb1
  have hs1 := hb1'.size
  have R1 := R.below (hb1'.mono hB)
  go_wp2_with fail
  refine (impl_isValid w1 B (by omega) s A n c xs R1).mono ?_
  rintro e w2 ⟨rfl, hb2⟩
  have hb2' := below_then hb1' hb2
  go_wp2_with fail
  go_ret
  exact ⟨rfl, hb2'⟩

set_option maxHeartbeats 400000 in
theorem impl_compare (w : World) (B : Nat) (A A' : Option Addr) (n m c c' : Nat) (xs ys : List Int) (hn : xs.length = n) (hm : ys.length = m) (hx : Rd w B A (iv xs)) (hy : Rd w B A' (iv ys)) (hl : n ≤ 100000000) (hl' : m ≤ 100000000) (hcx : Canon xs) (hcy : Canon ys) :
    Calls Tryd.prog 38 #[.slice A n c, .slice A' m c'] w fun e w' => e = .returned (.int .i64 (cmpV (val xs) (val ys))) ∧ ∃ d, w' = w.drewN d := by
  go_enter Tryd.func38, Tryd.ntmps38
  go_wp2_with fail
  refine (impl_Cmp w B A A' n m c c' xs ys hn hm hx hy hl hl' hcx hcy).mono ?_
  rintro e w1 ⟨rfl, hd⟩
  have HD := hide hd
  clear hd
  go_wp2_with fail
  go_ret
  exact ⟨rfl, HD.out⟩

end Go.Proofs.YtapjblghnflekaaDoor
