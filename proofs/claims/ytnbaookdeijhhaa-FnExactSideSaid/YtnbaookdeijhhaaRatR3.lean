/-
  The reference's fractions: contracts (3): RatMake, RatOf, RatFromInt.
-/
import Derived.Test.YtnbaookdeijhhaaRL
import Derived.Test.YtnbaookdeijhhaaBigR2
namespace Go.Proofs.Ytnbaookdeijhhaa
open Go.RowKit
set_option linter.unusedVariables false
set_option maxHeartbeats 1600000 in
theorem spec_RatFromInt (w : World) (n : Int) (hn : (Lit.int .i64 n).wf = true) :
    Calls Try.prog 42 #[.int .i64 n] w fun e w' => RatRes 3 w w' e (capZ n, [1]) := by
  have l1 := ofZ_len n
  obtain ⟨W0, hW0⟩ : ∃ W0, W0 = (w.alloc (.cells #[.bool false, .slice none 0 0, .slice none 0 0] 39)) := ⟨_, rfl⟩
  have hb0 : Below w.heap.size w W0 := by rw [hW0]; exact below_new _ _
  have kr : Box W0 (w.heap.size) 39 #[.bool false, .slice none 0 0, .slice none 0 0] := by rw [hW0]; exact Box.last _ _ _ rfl
  have hs0 : W0.heap.size = w.heap.size + 1 := by rw [hW0, alloc_size]
  have HC1 := hide (spec_BigIntOf W0 W0.heap.size (Nat.le_refl _) n hn)
  clear hn
  generalize capZ n = N at *
  go_enter Try.func42, Try.ntmps42
  go_upto_region 1 with fail
  rw [← hW0]
  clear hW0
  go_wp2_with fail
  refine HC1.out.mono ?_
  rintro e w1 ⟨v1, rfl, o1, hb1⟩
  obtain ⟨A1, c1, rfl⟩ := o1.form
  have hs1 := hb1.size
  obtain ⟨w2, hw2⟩ : ∃ x, x = w1.alloc (.cells #[.int .i64 1] 3) := ⟨_, rfl⟩
  have hb2 : Below w1.heap.size w1 w2 := by rw [hw2]; exact below_new _ _
  have hown : w2.ownsRow w1.heap.size 3 1 (.slice (some ⟨w1.heap.size, 0, none⟩) 1 1) 1 (iv [1]) := by rw [hw2]; exact own_one w1 3 (.int .i64 1)
  have hs2 := hb2.size
  have o2 : Own w2 w1.heap.size w2.heap.size 3 (.slice (some ⟨w1.heap.size, 0, none⟩) 1 1) ([1] : List Int).length (iv [1]) := Own.of_row hown (Nat.le_refl _)
  have p2 := Pair.of o1 o2 hb2 (Nat.le_refl _) hs1
  have hb2' := below_then (below_then hb0 hb1) hb2
  have kr1 := kr.below hb1 kr.lt
  have kr2 := kr1.below hb2 kr1.lt
  obtain ⟨y0, y1, y2, y3, y4, y5⟩ := kr1.facts3
  obtain ⟨z0, z1, z2, z3, z4, z5⟩ := kr2.facts3
  have HO := hide (ret_rat kr2 p2 hb2' (x := N.1) (Nat.le_refl _) (by omega))
  rw [hw2] at HO
  rw [hw2] at z0 z1 z2 z3 z4 z5
  clear o1 o2 hown hb1 hb2 hb0 kr HC1 p2 hb2' kr1 kr2 hw2 hs2
  go_wp2_with fail
  refine bodyPost_ret (results_cell_row rfl _ _ (w.heap.size) _ #[.bool N.1, .slice A1 N.2.length c1, .slice (some ⟨w1.heap.size, 0, none⟩) 1 1] (0, 0) _ rfl HO.out.1 Try.underlying39 rfl Try.sizeRat) rfl ?_
  exact ⟨_, _, rfl, HO.out.2.1, HO.out.2.2⟩
end Go.Proofs.Ytnbaookdeijhhaa
