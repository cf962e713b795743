/-
  The laws' helpers for big integers: szBigInt, toBigInt, eqBigInt, markBigInt, heldBigInt: contracts.
-/
import Derived.Test.YtiiedfhcandjdaaGreatDoorMarkI
import Derived.Test.YtiiedfhcandjdaaGreatDoorPB
import Derived.Deep.CutRange
namespace Go.Proofs.YtiiedfhcandjdaaGreatDoor
open Go.RowKit
set_option linter.unusedVariables false

set_option maxHeartbeats 800000 in
theorem eqBigInt_any (w : World) (B : Nat) (hB : B ≤ w.heap.size) (s : Bool) (A A' : Option Addr) (n c c' : Nat) (xs : List Int) (hn : xs.length = n) (hx : Rd w B A (iv xs)) (hy : Rd w B A' (iv xs)) (hl : n ≤ 1000000000) :
    Calls Tryz.prog 17 #[.agg #[.bool s, .slice A n c], .agg #[.bool s, .slice A' n c']] w fun e w' => e = .returned (.bool true) ∧ Below w.heap.size w w' := by
  obtain ⟨W0, hW0⟩ : ∃ W0, W0 = (w.alloc (.cells #[.bool s, .slice A n c] 24)).alloc (.cells #[.bool s, .slice A' n c'] 24) := ⟨_, rfl⟩
  have hb0 : Below w.heap.size w W0 := by rw [hW0]; exact below_alloc (below_new _ _) _
  have HC := hide (eqIntS_below A A' n n c c' xs xs B W0 hn hn (hx.below (hb0.mono hB)) (hy.below (hb0.mono hB)) (by unfold maxLen; omega) (by unfold maxLen; omega) true (decide_eq_true rfl))
  have hss : (s != s) = false := by cases s <;> rfl
  clear hx hy
  go_enter Tryz.func17, Tryz.ntmps17
  go_wp2_with fail
  rw [← hW0]
  clear hW0
  refine HC.out.mono ?_
  rintro e w1 ⟨rfl, hb1⟩
  have hb1' := below_then hb0 hb1
  go_wp2_with fail
  go_ret
  exact ⟨rfl, hb1'⟩
theorem aside_new (w : World) (lo hi : Nat) (o : Obj) : Aside lo hi w (w.alloc o) :=
  ⟨rfl, rfl, rfl, by rw [alloc_size]; omega, fun k hk _ => by show (w.heap.push o)[k]? = _; rw [Array.getElem?_push, if_neg (by omega)]⟩
set_option maxHeartbeats 800000 in
theorem markBigInt_own (w : World) (s : Bool) (A : Option Addr) (n c k E lo hi : Nat) (xs : List Value) (o : Own w lo hi E (.slice A n c) n xs) (hhi : hi ≤ w.heap.size) (hl : n ≤ 1000000000) (hk : k ≤ 1000000000) :
    Calls Tryz.prog 19 #[.agg #[.bool s, .slice A n c], .int .i64 k] w fun e w' => e = .returned (.int .i64 ((k + n : Nat) : Int)) ∧ Own w' lo hi E (.slice A n c) n (iv (marksI k n)) ∧ Aside lo hi w w' := by
  have ha0 := aside_new w lo hi (.cells #[.bool s, .slice A n c] 24)
  have HC := hide (markIntS_own (.slice A n c) n k E lo hi xs _ (o.below (below_new w (.cells #[.bool s, .slice A n c] 24)) hhi) hl hk)
  go_enter Tryz.func19, Tryz.ntmps19
  go_wp2_with fail
  refine HC.out.mono ?_
  rintro e w1 ⟨rfl, p1, ha1⟩
  have ha2 := ha0.trans ha1
  have HP := hide p1
  clear p1 ha0 ha1 HC o
  go_wp2_with fail
  go_ret
  exact ⟨rfl, HP.out, ha2⟩
set_option maxHeartbeats 800000 in
theorem heldBigInt_any (w : World) (s : Bool) (A : Option Addr) (n c k B : Nat) (hB : B ≤ w.heap.size) (hx : Rd w B A (iv (marksI k n))) (hl : n ≤ 1000000000) (hk : k ≤ 1000000000) :
    Calls Tryz.prog 21 #[.agg #[.bool s, .slice A n c], .int .i64 k] w fun e w' => e = .returned (.int .i64 ((k + n : Nat) : Int)) ∧ Below w.heap.size w w' := by
  have hb0 := below_new w (.cells #[.bool s, .slice A n c] 24)
  have HC := hide (heldIntS_any A n c k B _ (hx.below (hb0.mono hB)) hl hk)
  obtain ⟨K, hK⟩ : ∃ K : Nat, K = k + n := ⟨_, rfl⟩
  rw [← hK] at HC ⊢
  have hneg : ¬ (K : Int) < 0 := by omega
  clear hK hx
  go_enter Tryz.func21, Tryz.ntmps21
  go_wp2_with fail
  refine HC.out.mono ?_
  rintro e w1 ⟨rfl, rfl⟩
  go_wp2_with fail
  go_ret
  exact ⟨rfl, hb0⟩
end Go.Proofs.YtiiedfhcandjdaaGreatDoor
