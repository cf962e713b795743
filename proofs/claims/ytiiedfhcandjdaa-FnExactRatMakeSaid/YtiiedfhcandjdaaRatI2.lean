/-
  The program's fractions: contracts (2): reduced.
-/
import Derived.Test.YtiiedfhcandjdaaRatI
import Derived.Test.YtiiedfhcandjdaaNatI8
import Derived.Test.YtiiedfhcandjdaaPB
namespace Go.Proofs.Ytiiedfhcandjdaa
open Go.RowKit
set_option linter.unusedVariables false
set_option maxHeartbeats 3200000 in
theorem impl_reduced (w : World) (B : Nat) (hB : B ≤ w.heap.size) (s : Bool) (A : Option Addr) (n c : Nat) (xs : List Int) (Rx : RdI w B A n xs) (hx : bigB s xs = true) (D : Option Addr) (m k : Nat) (ds : List Int) (Rd' : RdI w B D m ds) (hd : natB ds = true) (h0 : ds.isEmpty = false) :
    Calls Try.prog 65 #[.agg #[.bool s, .slice A n c], .slice D m k] w fun e w' => RatRes 3 w w' e (lowR (zv s xs) (natV ds)) := by
  have hn := bigB_nat hx
  obtain ⟨g1, g2, g3, g4⟩ := natB_gcd hn hd h0
  have hz := low_prog hx hd h0
  have hla := quoL_60 hn g1
  have hlb := quoL_60 hd g1
  generalize lowR (zv s xs) (natV ds) = Z at hz ⊢
  obtain ⟨W0, hW0⟩ : ∃ W0, W0 = ((w.alloc (.cells #[.bool s, .slice A n c] 29)).alloc (.cells #[.bool false, .slice none 0 0, .slice none 0 0] 31)) := ⟨_, rfl⟩
  have hb0 : Below w.heap.size w W0 := by rw [hW0]; exact below_alloc (below_new _ _) _
  have kx : Box W0 (w.heap.size) 29 #[.bool s, .slice A n c] := by rw [hW0]; exact (Box.last _ _ _ rfl).alloc _
  have kr : Box W0 (w.heap.size + 1) 31 #[.bool false, .slice none 0 0, .slice none 0 0] := by rw [hW0]; exact Box.last _ _ _ (alloc_size _ _).symm
  have hs0 : W0.heap.size = w.heap.size + 2 := by rw [hW0, alloc_size, alloc_size]
  go_enter Try.func65, Try.ntmps65
  go_upto_region 1 with fail
  rw [← hW0]
  clear hW0
  obtain ⟨a0, a1⟩ := kx.cells2
  go_wp2_with fail
  refine (impl_NatGcd W0 B (by omega) A n c xs (Rx.below (hb0.mono hB)) D m k ds (Rd'.below (hb0.mono hB))).mono ?_
  rintro e w1 ⟨v1, rfl, o1, hb1⟩
  obtain ⟨A1, c1, rfl⟩ := o1.form
  have hs1 := hb1.size
  have kx1 := kx.below hb1 kx.lt
  have kr1 := kr.below hb1 kr.lt
  have hb1' := below_then hb0 hb1
  have R1 := RdI.of_own o1 (gcdL_len _ _) (limbs_gcdL _ _)
  clear a0 a1 kx kr hb0 hb1
  obtain ⟨a0, a1⟩ := kx1.cells2
  go_wp2_with fail
  refine (impl_NatDiv w1 w1.heap.size (Nat.le_refl _) A n c xs (pair_up (Rx.below (hb1'.mono hB)) (by omega)) A1 _ c1 (gcdL xs ds) R1).mono ?_
  rintro e w2 ⟨v2, v2', rfl, ⟨l2, h2, _, _, o2, _, hl2, _, hh2, _, _⟩, hb2⟩
  obtain ⟨A2, c2, rfl⟩ := o2.form
  have hs2 := hb2.size
  have kx2 := kx1.below hb2 kx1.lt
  have kr2 := kr1.below hb2 kr1.lt
  have hb2' := below_then hb1' hb2
  have R2 := pair_up (R1.below (hb2.mono (Nat.le_refl _))) hs2
  clear a0 a1 kx1 kr1 hb1' hb2 R1 o1
  obtain ⟨a0, a1⟩ := kx2.cells2
  go_wp2_with fail
  refine (impl_NatDiv w2 w2.heap.size (Nat.le_refl _) D m k ds (pair_up (Rd'.below (hb2'.mono hB)) (by omega)) A1 _ c1 (gcdL xs ds) R2).mono ?_
  rintro e w3 ⟨v3, v3', rfl, ⟨l3, h3, _, _, o3, _, hl3, _, hh3, _, _⟩, hb3⟩
  obtain ⟨A3, c3, rfl⟩ := o3.form
  have hs3 := hb3.size
  have kx3 := kx2.below hb3 kx2.lt
  have kr3 := kr2.below hb3 kr2.lt
  have hb3' := below_then hb2' hb3
  have P3 : Pair w3 W0.heap.size 3 (.slice A2 (quoL xs (gcdL xs ds)).length c2) (quoL xs (gcdL xs ds)) (.slice A3 (quoL ds (gcdL xs ds)).length c3) (quoL ds (gcdL xs ds)) := ⟨l2, h2, l3, h3, o2.below hb3 hh2, o3, by omega, by omega, by omega, hh3, .inl (by omega)⟩
  clear a0 a1 kx2 kr2 hb2' hb3 R2 o2 o3 Rx Rd' g1 g2 g3 g4 hx hd h0 hn
  generalize quoL xs (gcdL xs ds) = L at *
  generalize quoL ds (gcdL xs ds) = K at *
  obtain ⟨a0, a1⟩ := kx3.cells2
  obtain ⟨w4, hw4⟩ : ∃ x, x = w3.alloc (.cells #[.bool s, .slice A2 L.length c2, .slice A3 K.length c3] 31) := ⟨_, rfl⟩
  have k4 : Box w4 w3.heap.size 31 #[.bool s, .slice A2 L.length c2, .slice A3 K.length c3] := by rw [hw4]; exact Box.last _ _ _ rfl
  have b4 : Below w3.heap.size w3 w4 := by rw [hw4]; exact below_new _ _
  have hs4 : w4.heap.size = w3.heap.size + 1 := by rw [hw4, alloc_size]
  have kr4 := kr3.below b4 kr3.lt
  have hb4' := below_then hb3' b4
  have P4 := P3.below b4
  clear kr3 P3 b4 hb3'
  go_upto_region 5 with fail
  rw [← hw4]
  clear hw4 a0 a1 kx3
  obtain ⟨a0, a1, a2⟩ := k4.cells3
  go_wp2_with fail
  refine (impl_isShort w4 s A2 _ c2 L rfl A3 _ c3 K rfl).mono ?_
  rintro e w5 ⟨rfl, hb5⟩
  have k5 := k4.below hb5 k4.lt
  have kr5 := kr4.below hb5 kr4.lt
  have hb5' := below_then hb4' hb5
  have P5 := P4.below hb5
  have hs5 := hb5.size
  clear a0 a1 a2 k4 kr4 P4 hb4' hb5
  by_cases hsh : shortB L K = true
  · rw [hsh, if_pos rfl] at hz
    subst hz
    rw [hsh]
    obtain ⟨a0, a1, a2⟩ := k5.cells3
    obtain ⟨z0, z1, z2, z3, z4, z5⟩ := kr5.facts3
    have HO := hide (ret_rat kr5 P5 hb5' (x := s) (show w.heap.size ≤ w.heap.size + 1 by omega) (by omega))
    clear kr5 P5 hb5' k5
    go_wp2_with fail
    refine bodyPost_ret (results_cell_row rfl _ _ (w.heap.size + 1) _ #[.bool s, .slice A2 L.length c2, .slice A3 K.length c3] (0, 0) _ rfl HO.out.1 Try.underlying31 rfl Try.sizeRat) rfl ?_
    exact ⟨_, _, rfl, HO.out.2.1, HO.out.2.2⟩
  · have hsh : shortB L K = false := by simpa using hsh
    rw [hsh, if_neg (by simp)] at hz
    subst hz
    rw [hsh]
    have HO := hide (ret_rat0 (F := 3) kr5 hb5' (show w.heap.size ≤ w.heap.size + 1 by omega))
    obtain ⟨z0, z1, z2, z3, z4, z5⟩ := kr5.facts3
    clear kr5 P5 hb5' k5
    go_wp2_with fail
    refine bodyPost_ret (results_cell_row rfl _ _ (w.heap.size + 1) _ #[.bool false, .slice none 0 0, .slice none 0 0] (0, 0) _ rfl HO.out.1 Try.underlying31 rfl Try.sizeRat) rfl ?_
    exact ⟨_, _, rfl, HO.out.2.1, HO.out.2.2⟩
end Go.Proofs.Ytiiedfhcandjdaa
