/-
  The laws' helpers for big integers: szBigInt, toBigInt, eqBigInt, markBigInt, heldBigInt: contracts.
-/
import Derived.Test.YtnbaookdeijhhaaMarkI
import Derived.Test.YtnbaookdeijhhaaPB
import Derived.Deep.CutRange
namespace Go.Proofs.Ytnbaookdeijhhaa
open Go.RowKit
set_option linter.unusedVariables false

set_option maxHeartbeats 400000 in
theorem szIntS_any (w : World) (A : Option Addr) (n c : Nat) (k : Nat) (hn : n ≤ 9223372036854775807) (hk : k ≤ 1000000000000) :
    Calls Try.prog 64 #[.slice A n c, .int .i64 k] w fun e w' => e = .returned (.int .i64 (if n ≤ k then (k : Int) - n else -1)) ∧ w = w' := by
  by_cases h : n ≤ k
  · have h1 : ¬ (k : Int) - (n : Int) < 0 := by omega
    rw [if_pos h]
    go_enter Try.func64, Try.ntmps64
    go_wp2_with fail
    go_ret
    exact ⟨rfl, rfl⟩
  · have h1 : (k : Int) - (n : Int) < 0 := by omega
    rw [if_neg h]
    go_enter Try.func64, Try.ntmps64
    go_wp2_with fail
    go_ret
    exact ⟨rfl, rfl⟩
/-- what is left of the size that may be drawn -/
def leftI (k n : Nat) : Int := if n ≤ k then (k : Int) - n else -1
set_option maxHeartbeats 400000 in
theorem szBigInt_any (w : World) (s : Bool) (A : Option Addr) (n c : Nat) (k : Nat) (hn : n ≤ 9223372036854775807) (hk : k ≤ 1000000000000) :
    Calls Try.prog 63 #[.agg #[.bool s, .slice A n c], .int .i64 k] w fun e w' => e = .returned (.int .i64 (leftI k n)) ∧ Below w.heap.size w w' := by
  have hb0 := below_new w (.cells #[.bool s, .slice A n c] 30)
  unfold leftI
  by_cases h : n ≤ k
  · rw [if_pos h]
    have h1 : ¬ (k : Int) - (n : Int) < 0 := by omega
    have HC := hide (szIntS_any (w.alloc (.cells #[.bool s, .slice A n c] 30)) A n c k hn hk)
    rw [if_pos h] at HC
    go_enter Try.func63, Try.ntmps63
    go_wp2_with fail
    refine HC.out.mono ?_
    rintro e w1 ⟨rfl, rfl⟩
    go_wp2_with fail
    go_ret
    exact ⟨rfl, hb0⟩
  · rw [if_neg h]
    have HC := hide (szIntS_any (w.alloc (.cells #[.bool s, .slice A n c] 30)) A n c k hn hk)
    rw [if_neg h] at HC
    go_enter Try.func63, Try.ntmps63
    go_wp2_with fail
    refine HC.out.mono ?_
    rintro e w1 ⟨rfl, rfl⟩
    go_wp2_with fail
    go_ret
    exact ⟨rfl, hb0⟩
set_option maxHeartbeats 800000 in
theorem toBigInt_any (w : World) (B : Nat) (hB : B ≤ w.heap.size) (s : Bool) (A : Option Addr) (n c : Nat) (xs : List Int) (R : RdI w B A n xs) :
    Calls Try.prog 69 #[.agg #[.bool s, .slice A n c]] w fun e w' => ∃ g, e = .returned (.agg #[.bool s, .slice (some ⟨g, 0, none⟩) n n]) ∧ Own w' w.heap.size w'.heap.size 3 (.slice (some ⟨g, 0, none⟩) n n) n (iv xs) ∧ Below w.heap.size w w' := by
  have hl := R.2.2.1
  obtain ⟨W0, hW0⟩ : ∃ W0, W0 = ((w.alloc (.cells #[.bool s, .slice A n c] 30)).alloc (.cells #[.bool false, .slice none 0 0] 37)).alloc (.cells #[.bool s, .slice none 0 0] 37) := ⟨_, rfl⟩
  have hb0 : Below w.heap.size w W0 := by rw [hW0]; exact below_alloc (below_alloc (below_new _ _) _) _
  have kr : Box W0 (w.heap.size + 1) 37 #[.bool false, .slice none 0 0] := by rw [hW0]; exact (Box.last _ _ _ (alloc_size _ _).symm).alloc _
  have ko : Box W0 (w.heap.size + 2) 37 #[.bool s, .slice none 0 0] := by rw [hW0]; exact Box.last _ _ _ (by rw [alloc_size, alloc_size])
  have hs0 : W0.heap.size = w.heap.size + 3 := by rw [hW0, alloc_size, alloc_size, alloc_size]
  have HC := hide (toIntS_any A n c B xs W0 R.1 (R.2.1.below (hb0.mono hB)) (by omega) (by omega))
  have hnl : xs.length = n := R.1
  go_enter Try.func69, Try.ntmps69
  go_wp2_with fail
  rw [← hW0]
  clear hW0
  refine HC.out.mono ?_
  rintro e w1 ⟨g, rfl, q1, hb1⟩
  have o1 := Own.of_row q1 (Nat.le_refl _)
  have kr1 := kr.below hb1 kr.lt
  have ko1 := ko.below hb1 ko.lt
  have hb1' := below_then hb0 hb1
  have hs1 := hb1.size
  clear kr ko hb0 hb1 q1 HC R
  obtain ⟨t0, t1, z0, z1⟩ := kr1.facts
  obtain ⟨u0, u1, y0, y1⟩ := ko1.facts
  have ko2 : Box (w1.setCell ⟨w.heap.size + 2, 1, none⟩ (.slice (some ⟨g, 0, none⟩) n n)) (w.heap.size + 2) 37 #[.bool s, .slice (some ⟨g, 0, none⟩) n n] := ko1.set 1 _
  have kr2 := kr1.setv (show w.heap.size + 1 ≠ w.heap.size + 2 by omega) 1 (.slice (some ⟨g, 0, none⟩) n n)
  have o2 := o1.setv (g := w.heap.size + 2) (.inl (by omega)) 1 (.slice (some ⟨g, 0, none⟩) n n)
  have hb2 := hb1'.setCell (p := ⟨w.heap.size + 2, 1, none⟩) (show w.heap.size ≤ w.heap.size + 2 by omega) (.slice (some ⟨g, 0, none⟩) n n)
  have HO := hide (ret_big (x := .bool s) kr2 o2 hb2 (show w.heap.size ≤ w.heap.size + 1 by omega) (by omega) (by rw [setCell_size]; exact Nat.le_refl _))
  have HK2 := hide ko2
  obtain ⟨W2, hW2⟩ : ∃ W2, W2 = w1.setCell ⟨w.heap.size + 2, 1, none⟩ (.slice (some ⟨g, 0, none⟩) n n) := ⟨_, rfl⟩
  rw [← hW2] at HK2 HO
  have HKR := hide kr2
  rw [← hW2] at HKR
  clear kr1 ko1 ko2 kr2 o1 o2 hb2 hb1'
  go_upto_region 4 with fail
  rw [← hW2]
  clear hW2 t0 t1 z0 z1 u0 u1 y0 y1
  obtain ⟨t0, t1, z0, z1⟩ := HKR.out.facts
  obtain ⟨u0, u1, y0, y1⟩ := HK2.out.facts
  go_wp2_with fail
  refine bodyPost_ret (results_cell_row rfl _ _ (w.heap.size + 1) _ #[.bool s, .slice (some ⟨g, 0, none⟩) n n] (0, 0) _ rfl HO.out.1 Try.underlying37 rfl Try.sizeBig) rfl ?_
  exact ⟨_, rfl, HO.out.2.1, HO.out.2.2⟩
set_option maxHeartbeats 800000 in
theorem eqBigInt_any (w : World) (B : Nat) (hB : B ≤ w.heap.size) (s : Bool) (A A' : Option Addr) (n c c' : Nat) (xs : List Int) (hn : xs.length = n) (hx : Rd w B A (iv xs)) (hy : Rd w B A' (iv xs)) (hl : n ≤ 1000000000) :
    Calls Try.prog 57 #[.agg #[.bool s, .slice A n c], .agg #[.bool s, .slice A' n c']] w fun e w' => e = .returned (.bool true) ∧ Below w.heap.size w w' := by
  obtain ⟨W0, hW0⟩ : ∃ W0, W0 = (w.alloc (.cells #[.bool s, .slice A n c] 37)).alloc (.cells #[.bool s, .slice A' n c'] 37) := ⟨_, rfl⟩
  have hb0 : Below w.heap.size w W0 := by rw [hW0]; exact below_alloc (below_new _ _) _
  have HC := hide (eqIntS_below A A' n n c c' xs xs B W0 hn hn (hx.below (hb0.mono hB)) (hy.below (hb0.mono hB)) (by unfold maxLen; omega) (by unfold maxLen; omega) true (decide_eq_true rfl))
  have hss : (s != s) = false := by cases s <;> rfl
  clear hx hy
  go_enter Try.func57, Try.ntmps57
  go_wp2_with fail
  rw [← hW0]
  clear hW0
  refine HC.out.mono ?_
  rintro e w1 ⟨rfl, hb1⟩
  have hb1' := below_then hb0 hb1
  go_wp2_with fail
  go_ret
  exact ⟨rfl, hb1'⟩
theorem aside_new (w : World) (lo hi : Nat) (o : Obj) : Aside lo hi w (w.alloc o) :=
  ⟨rfl, rfl, rfl, by rw [alloc_size]; omega, fun k hk _ => by show (w.heap.push o)[k]? = _; rw [Array.getElem?_push, if_neg (by omega)]⟩
set_option maxHeartbeats 800000 in
theorem markBigInt_own (w : World) (s : Bool) (A : Option Addr) (n c k E lo hi : Nat) (xs : List Value) (o : Own w lo hi E (.slice A n c) n xs) (hhi : hi ≤ w.heap.size) (hl : n ≤ 1000000000) (hk : k ≤ 1000000000) :
    Calls Try.prog 59 #[.agg #[.bool s, .slice A n c], .int .i64 k] w fun e w' => e = .returned (.int .i64 ((k + n : Nat) : Int)) ∧ Own w' lo hi E (.slice A n c) n (iv (marksI k n)) ∧ Aside lo hi w w' := by
  have ha0 := aside_new w lo hi (.cells #[.bool s, .slice A n c] 37)
  have HC := hide (markIntS_own (.slice A n c) n k E lo hi xs _ (o.below (below_new w (.cells #[.bool s, .slice A n c] 37)) hhi) hl hk)
  go_enter Try.func59, Try.ntmps59
  go_wp2_with fail
  refine HC.out.mono ?_
  rintro e w1 ⟨rfl, p1, ha1⟩
  have ha2 := ha0.trans ha1
  have HP := hide p1
  clear p1 ha0 ha1 HC o
  go_wp2_with fail
  go_ret
  exact ⟨rfl, HP.out, ha2⟩
set_option maxHeartbeats 800000 in
theorem heldBigInt_any (w : World) (s : Bool) (A : Option Addr) (n c k B : Nat) (hB : B ≤ w.heap.size) (hx : Rd w B A (iv (marksI k n))) (hl : n ≤ 1000000000) (hk : k ≤ 1000000000) :
    Calls Try.prog 61 #[.agg #[.bool s, .slice A n c], .int .i64 k] w fun e w' => e = .returned (.int .i64 ((k + n : Nat) : Int)) ∧ Below w.heap.size w w' := by
  have hb0 := below_new w (.cells #[.bool s, .slice A n c] 37)
  have HC := hide (heldIntS_any A n c k B _ (hx.below (hb0.mono hB)) hl hk)
  obtain ⟨K, hK⟩ : ∃ K : Nat, K = k + n := ⟨_, rfl⟩
  rw [← hK] at HC ⊢
  have hneg : ¬ (K : Int) < 0 := by omega
  clear hK hx
  go_enter Try.func61, Try.ntmps61
  go_wp2_with fail
  refine HC.out.mono ?_
  rintro e w1 ⟨rfl, rfl⟩
  go_wp2_with fail
  go_ret
  exact ⟨rfl, hb0⟩
end Go.Proofs.Ytnbaookdeijhhaa
