/-
  The texts RatI4, put together; each has its own heading below. No condition of ours.
-/
import Derived.Test.YtocllmaikngoaaaGreatDoorRK
import Derived.Test.YtocllmaikngoaaaGreatDoorBX
/-
  The program's fractions: contracts (4): numeratorOverBoth, compare, negated, copied.
-/



namespace Go.Proofs.YtocllmaikngoaaaGreatDoor
open Go.RowKit
set_option linter.unusedVariables false
set_option maxHeartbeats 1600000 in
theorem impl_numeratorOverBoth (w : World) (B : Nat) (hB : B ≤ w.heap.size) (s : Bool) (A : Option Addr) (n c : Nat) (xs : List Int) (Rx : RdI w B A n xs) (D : Option Addr) (m k : Nat) (ds : List Int) (Rd' : RdI w B D m ds) (t : Bool) (A' : Option Addr) (n' c' : Nat) (ys : List Int) (Ry : RdI w B A' n' ys) (D' : Option Addr) (m' k' : Nat) (es : List Int) (Re' : RdI w B D' m' es) :
    Calls Tryz.prog 156 #[.agg #[.bool s, .slice A n c, .slice D m k], .agg #[.bool t, .slice A' n' c', .slice D' m' k']] w fun e w' => ∃ v, e = .returned (.agg #[.bool (mulZ s xs false es).1, v]) ∧ Own w' w.heap.size w'.heap.size 3 v (mulZ s xs false es).2.length (iv (mulZ s xs false es).2) ∧ Below w.heap.size w w' := by
  obtain ⟨W0, hW0⟩ : ∃ W0, W0 = (((w.alloc (.cells #[.bool s, .slice A n c, .slice D m k] 47)).alloc (.cells #[.bool t, .slice A' n' c', .slice D' m' k'] 47)).alloc (.cells #[.bool false, .slice none 0 0] 45)) := ⟨_, rfl⟩
  have hb0 : Below w.heap.size w W0 := by rw [hW0]; exact below_alloc (below_alloc (below_new _ _) _) _
  have kx : Box W0 (w.heap.size) 47 #[.bool s, .slice A n c, .slice D m k] := by rw [hW0]; exact ((Box.last _ _ _ rfl).alloc _).alloc _
  have ky : Box W0 (w.heap.size + 1) 47 #[.bool t, .slice A' n' c', .slice D' m' k'] := by rw [hW0]; exact (Box.last _ _ _ (alloc_size _ _).symm).alloc _
  have kr : Box W0 (w.heap.size + 2) 45 #[.bool false, .slice none 0 0] := by rw [hW0]; exact Box.last _ _ _ (by rw [alloc_size, alloc_size])
  have hs0 : W0.heap.size = w.heap.size + 3 := by rw [hW0, alloc_size, alloc_size, alloc_size]
  go_enter Tryz.func156, Tryz.ntmps156
  go_upto_region 1 with fail
  rw [← hW0]
  clear hW0
  obtain ⟨a0, a1, a2⟩ := kx.cells3
  obtain ⟨b0, b1, b2⟩ := ky.cells3
  go_wp2_with fail
  refine (impl_BigIntMul W0 B (by omega) s A n c xs (Rx.below (hb0.mono hB)) false D' m' k' es (Re'.below (hb0.mono hB))).mono ?_
  rintro e w1 ⟨v1, rfl, o1, hb1⟩
  obtain ⟨A1, c1, rfl⟩ := o1.form
  have kr1 := kr.below hb1 kr.lt
  have hb1' := below_then hb0 hb1
  obtain ⟨z0, z1, z2, z3⟩ := kr1.facts
  have HO := hide (ret_big (x := .bool (mulZ s xs false es).1) kr1 o1 hb1' (show w.heap.size ≤ w.heap.size + 2 by omega) (by omega) (Nat.le_refl _))
  clear kr1 o1 hb1' kx ky kr hb0 hb1 a0 a1 a2 b0 b1 b2
  go_wp2_with fail
  refine bodyPost_ret (results_cell_row rfl _ _ (w.heap.size + 2) _ #[.bool (mulZ s xs false es).1, .slice A1 (mulZ s xs false es).2.length c1] (0, 0) _ rfl HO.out.1 Tryz.underlying45 rfl Tryz.sizeBig) rfl ?_
  exact ⟨_, rfl, HO.out.2.1, HO.out.2.2⟩
end Go.Proofs.YtocllmaikngoaaaGreatDoor
