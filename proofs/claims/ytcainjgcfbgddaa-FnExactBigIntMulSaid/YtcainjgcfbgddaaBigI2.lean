/-
  The program's big integers: contracts (2): BigIntOk, magnitudeOf, BigIntOf, toInt, BigIntToInt, copied, compare.
-/
import Derived.Test.YtcainjgcfbgddaaBigI
import Derived.Test.YtcainjgcfbgddaaNatI4
import Derived.Test.YtcainjgcfbgddaaNatI4x
namespace Go.Proofs.Ytcainjgcfbgddaa
open Go.RowKit
set_option linter.unusedVariables false

set_option maxHeartbeats 400000 in
theorem impl_BigIntOk (w : World) (B : Nat) (hB : B ≤ w.heap.size) (s : Bool) (A : Option Addr) (n c : Nat) (xs : List Int) (R : RdI w B A n xs) :
    Calls Try.prog 16 #[.agg #[.bool s, .slice A n c]] w fun e w' => e = .returned (.bool (bigB s xs)) ∧ Below w.heap.size w w' := by
  have hb0 := below_new w (.cells #[.bool s, .slice A n c] 27)
  go_enter Try.func16, Try.ntmps16
  go_wp2_with fail
  refine (impl_signedOf _ s A n c).mono ?_
  rintro e w1 ⟨rfl, hb1⟩
  have hb1' := below_then hb0 hb1
  have hs1 := hb1'.size
  have R1 := R.below (hb1'.mono hB)
  go_wp2_with fail
  refine (impl_isValid w1 B (by omega) s A n c xs R1).mono ?_
  rintro e w2 ⟨rfl, hb2⟩
  have hb2' := below_then hb1' hb2
  go_wp2_with fail
  go_ret
  exact ⟨rfl, hb2'⟩

set_option maxHeartbeats 400000 in
theorem impl_compare (w : World) (B : Nat) (A A' : Option Addr) (n m c c' : Nat) (xs ys : List Int) (hn : xs.length = n) (hm : ys.length = m) (hx : Rd w B A (iv xs)) (hy : Rd w B A' (iv ys)) (hl : n ≤ 100000000) (hl' : m ≤ 100000000) (hcx : Canon xs) (hcy : Canon ys) :
    Calls Try.prog 77 #[.slice A n c, .slice A' m c'] w fun e w' => e = .returned (.int .i64 (cmpV (val xs) (val ys))) ∧ ∃ d, w' = w.drewN d := by
  go_enter Try.func77, Try.ntmps77
  go_wp2_with fail
  refine (impl_Cmp w B A A' n m c c' xs ys hn hm hx hy hl hl' hcx hcy).mono ?_
  rintro e w1 ⟨rfl, hd⟩
  have HD := hide hd
  clear hd
  go_wp2_with fail
  go_ret
  exact ⟨rfl, HD.out⟩

set_option maxHeartbeats 400000 in
theorem impl_toInt (w : World) (B : Nat) (hB : B ≤ w.heap.size) (A0 : Option Addr) (n0 c0 : Nat) (xs0 : List Int) (R0 : RdI w B A0 n0 xs0) :
    Calls Try.prog 51 #[.slice A0 n0 c0] w fun e w' => e = .returned (.tuple #[.int .i64 (natInt xs0), .bool (natIntOk xs0)]) ∧ Below w.heap.size w w' := by
  go_enter Try.func51, Try.ntmps51
  go_wp2_with fail
  refine (impl_NatToInt w B hB A0 n0 c0 xs0 R0).mono ?_
  rintro e w1 ⟨rfl, hb⟩
  go_wp2_with fail
  go_ret2
  exact ⟨rfl, hb⟩

set_option maxHeartbeats 400000 in
theorem impl_copied (w : World) (B : Nat) (hB : B ≤ w.heap.size) (A : Option Addr) (n c : Nat) (xs : List Int) (R : RdI w B A n xs) (hl : n ≤ 1000000) :
    Calls Try.prog 52 #[.slice A n c] w fun e w' => ∃ v, e = .returned v ∧ Own w' w.heap.size w'.heap.size 3 v n (iv xs) ∧ Below w.heap.size w w' := by
  have HC := hide (impl_widened w B hB A n c n xs R.1 R.2.1 (Nat.le_refl _) hl)
  have hxl := R.1
  go_enter Try.func52, Try.ntmps52
  go_wp2_with fail
  refine HC.out.mono ?_
  rintro e w1 ⟨g, rfl, hg, hblk, hb⟩
  rw [Nat.sub_self, List.replicate_zero, List.append_nil] at hblk
  have hlt := hblk.lt
  have ho := (hblk.own n n (by omega)).wider hg (show g + 1 ≤ w1.heap.size by omega)
  rw [List.take_of_length_le (by omega)] at ho
  have HO := hide ho
  clear hblk ho
  go_wp2_with fail
  go_ret
  exact ⟨_, rfl, HO.out, hb⟩
end Go.Proofs.Ytcainjgcfbgddaa
