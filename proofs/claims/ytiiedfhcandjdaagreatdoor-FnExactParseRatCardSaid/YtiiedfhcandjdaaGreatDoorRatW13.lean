/-
  The exact laws' walks: fractions, RatW13.
-/
import Derived.Test.YtiiedfhcandjdaaGreatDoorRatL
import Derived.Test.YtiiedfhcandjdaaGreatDoorRatU1
import Derived.Test.YtiiedfhcandjdaaGreatDoorRatU2
import Derived.Deep.CutRange
import Derived.Deep.RegionHeld3
import Derived.Sort.AtCall
namespace Go.Proofs.YtiiedfhcandjdaaGreatDoor
open Go.RowKit
set_option linter.unusedVariables false

set_option maxHeartbeats 16000000 in
set_option maxRecDepth 100000 in
theorem FnExactParseRat_walk (w : World) (a0 : ByteArray) (f0 : a0.size ≤ maxLen) (hPT : PowTab w) (ml : Int) (hML : w.cell? ⟨0, 0, none⟩ = some (.int .i64 ml)) (hg0 : 0 < w.heap.size) :
    Calls Tryz.prog 3 #[.string a0] w fun e w' => e = .returned (.bool true) ∧ Below w.heap.size w w' := by
  have hm0 := f0
  unfold maxLen at hm0
  by_cases c0 : 1048576 < a0.size
  · go_enter Tryz.func3, Tryz.ntmps3
    go_wp2
    go_ret
    exact ⟨rfl, Below.refl _ _⟩
  have hn0 : a0.size ≤ 1048576 := by omega
  clear c0
  have hT0 : Below w.heap.size w w := Below.refl _ _
  go_enter Tryz.func3, Tryz.ntmps3
  obtain ⟨hL_0, hM_0⟩ : (parR a0).1.2.length ≤ 1048576 ∧ (parR a0).2.length ≤ 1048576 := parR_len a0
  go_wp2_with fail
  refine (spec_ParseRat w w.heap.size (Nat.le_refl _) a0 hn0).mono ?_
  rintro e w1 ⟨v0, u0, rfl, q0, hb1⟩
  have o0_1 := (Pair.hull q0).both
  obtain ⟨A0, c0, B0, k0, rfl, rfl⟩ := o0_1.form
  clear q0
  have hs1 := hb1.size
  have hT1 := hT0.trans (Below.mono hb1 (by omega))
  clear hT0
  clear hb1
  obtain ⟨w2, hw2⟩ : ∃ x, x = w1.alloc (.cells #[.bool (parR a0).1.1, .slice A0 (parR a0).1.2.length c0, .slice B0 (parR a0).2.length k0] 26) := ⟨_, rfl⟩
  have hb2 : Below w1.heap.size w1 w2 := by rw [hw2]; exact below_new _ _
  have hq2 : w1.heap.size < w2.heap.size := by rw [hw2, alloc_size]; omega
  have bn : Box w2 w1.heap.size 26 #[.bool (parR a0).1.1, .slice A0 (parR a0).1.2.length c0, .slice B0 (parR a0).2.length k0] := by rw [hw2]; exact Box.last _ _ _ rfl
  have hs2 := hb2.size
  have o0_2 := o0_1.below hb2 (by omega)
  clear o0_1
  have hT2 := hT1.trans (Below.mono hb2 (by omega))
  clear hT1
  have bs1_0_2 := bn
  have ls1_0_2 := bs1_0_2.lt
  clear bn hb2 hs2
  go_upto_region 4 with fail
  rw [← hw2]
  clear hw2
  go_wp2_with fail
  refine (impl_ParseRat w2 w2.heap.size (Nat.le_refl _) a0 hn0 (hPT.below hT2 hPT.lt) ml ((hT2.cell hg0).trans hML) (Nat.lt_of_lt_of_le hg0 hT2.size)).mono ?_
  rintro e w3 ⟨v2, u2, rfl, q2, hb3⟩
  have o2_3 := Pair.hull q2
  obtain ⟨A2, c2, B2, k2, rfl, rfl⟩ := o2_3.form
  clear q2
  have hs3 := hb3.size
  have o0_3 := o0_2.below hb3 (by omega)
  clear o0_2
  have bs1_0_3 := bs1_0_2.below hb3 bs1_0_2.lt
  have ls1_0_3 := bs1_0_3.lt
  clear bs1_0_2 ls1_0_2
  have hT3 := hT2.trans (Below.mono hb3 (by omega))
  clear hT2
  clear hb3
  obtain ⟨w4, hw4⟩ : ∃ x, x = w3.alloc (.cells #[.bool (parR a0).1.1, .slice A2 (parR a0).1.2.length c2, .slice B2 (parR a0).2.length k2] 26) := ⟨_, rfl⟩
  have hb4 : Below w3.heap.size w3 w4 := by rw [hw4]; exact below_new _ _
  have hq4 : w3.heap.size < w4.heap.size := by rw [hw4, alloc_size]; omega
  have bn : Box w4 w3.heap.size 26 #[.bool (parR a0).1.1, .slice A2 (parR a0).1.2.length c2, .slice B2 (parR a0).2.length k2] := by rw [hw4]; exact Box.last _ _ _ rfl
  have hs4 := hb4.size
  have o0_4 := o0_3.below hb4 (by omega)
  clear o0_3
  have o2_4 := o2_3.below hb4 (by omega)
  clear o2_3
  have bs1_0_4 := bs1_0_3.below hb4 bs1_0_3.lt
  have ls1_0_4 := bs1_0_4.lt
  clear bs1_0_3 ls1_0_3
  have hT4 := hT3.trans (Below.mono hb4 (by omega))
  clear hT3
  have bi3_0_4 := bn
  have li3_0_4 := bi3_0_4.lt
  clear bn hb4 hs4
  go_upto_region 5 with fail
  rw [← hw4]
  clear hw4
  obtain ⟨yi3_0_0, yi3_0_1, yi3_0_2⟩ := bi3_0_4.cells3
  obtain ⟨ys1_0_0, ys1_0_1, ys1_0_2⟩ := bs1_0_4.cells3
  go_wp2_with fail
  refine (eqRat_any w4 w4.heap.size (Nat.le_refl _) (parR a0).1.1 A2 A0 _ c2 c0 (parR a0).1.2 rfl o2_4.rd1 o0_4.rd1 B2 B0 _ k2 k0 (parR a0).2 rfl o2_4.rd2 o0_4.rd2 (by omega) (by omega)).mono ?_
  rintro e w5 ⟨rfl, hb5⟩
  have hs5 := hb5.size
  have o0_5 := o0_4.below hb5 (by omega)
  clear o0_4
  have o2_5 := o2_4.below hb5 (by omega)
  clear o2_4
  have bs1_0_5 := bs1_0_4.below hb5 bs1_0_4.lt
  have ls1_0_5 := bs1_0_5.lt
  clear bs1_0_4 ls1_0_4
  have bi3_0_5 := bi3_0_4.below hb5 bi3_0_4.lt
  have li3_0_5 := bi3_0_5.lt
  clear bi3_0_4 li3_0_4
  have hT5 := hT4.trans (Below.mono hb5 (by omega))
  clear hT4
  clear hb5
  clear yi3_0_0 yi3_0_1 yi3_0_2 ys1_0_0 ys1_0_1 ys1_0_2
  obtain ⟨yi3_0_0, yi3_0_1, yi3_0_2⟩ := bi3_0_5.cells3
  go_wp2_with fail
  refine (markRat_own w5 ((parR a0).1.1) A2 (parR a0).1.2.length c2 B2 (parR a0).2.length k2 1 _ _ _ _ _ o2_5 (by omega) (by omega) (by omega) (by omega)).mono ?_
  rintro e w6 ⟨he, p2, ha6⟩
  obtain ⟨K1, hK1⟩ : ∃ K : Nat, K = 1 + ((parR a0).1.2.length + (parR a0).2.length) := ⟨_, rfl⟩
  have bK1 : K1 ≤ 3000010 := by omega
  rw [← hK1] at he
  subst he
  have HK1 := hide hK1
  clear hK1
  clear yi3_0_0 yi3_0_1 yi3_0_2
  have hs6 := ha6.size
  have o0_6 := o0_5.aside ha6 (by omega)
  clear o0_5
  have bs1_0_6 := bs1_0_5.aside ha6 (by omega)
  have ls1_0_6 := bs1_0_6.lt
  clear bs1_0_5 ls1_0_5
  have bi3_0_6 := bi3_0_5.aside ha6 (by omega)
  have li3_0_6 := bi3_0_6.lt
  clear bi3_0_5 li3_0_5
  have hT6 := hT5.trans (Aside.below ha6 (by omega) (by omega))
  clear hT5
  clear ha6
  have o2_6 := p2
  clear p2 o2_5
  obtain ⟨yi3_0_0, yi3_0_1, yi3_0_2⟩ := bi3_0_6.cells3
  have hNK1 : ¬ (K1 : Int) < 0 := by omega
  go_wp2_with fail
  refine (heldRat_any w6 ((parR a0).1.1) A2 (parR a0).1.2.length c2 B2 (parR a0).2.length k2 1 _ (Nat.le_refl _) o2_6.rd1 o2_6.rd2 (by omega) (by omega) (by omega)).mono ?_
  rintro e w7 ⟨he, hb7⟩
  rw [← HK1.out] at he
  subst he
  clear yi3_0_0 yi3_0_1 yi3_0_2
  have hs7 := hb7.size
  have o0_7 := o0_6.below hb7 (by omega)
  clear o0_6
  have o2_7 := o2_6.below hb7 (by omega)
  clear o2_6
  have bs1_0_7 := bs1_0_6.below hb7 bs1_0_6.lt
  have ls1_0_7 := bs1_0_7.lt
  clear bs1_0_6 ls1_0_6
  have bi3_0_7 := bi3_0_6.below hb7 bi3_0_6.lt
  have li3_0_7 := bi3_0_7.lt
  clear bi3_0_6 li3_0_6
  have hT7 := hT6.trans (Below.mono hb7 (by omega))
  clear hT6
  clear hb7
  go_wp2_with fail
  refine (impl_ParseRat w7 w7.heap.size (Nat.le_refl _) a0 hn0 (hPT.below hT7 hPT.lt) ml ((hT7.cell hg0).trans hML) (Nat.lt_of_lt_of_le hg0 hT7.size)).mono ?_
  rintro e w8 ⟨v4, u4, rfl, q4, hb8⟩
  have o4_8 := Pair.hull q4
  obtain ⟨A4, c4, B4, k4, rfl, rfl⟩ := o4_8.form
  clear q4
  have hs8 := hb8.size
  have o0_8 := o0_7.below hb8 (by omega)
  clear o0_7
  have o2_8 := o2_7.below hb8 (by omega)
  clear o2_7
  have bs1_0_8 := bs1_0_7.below hb8 bs1_0_7.lt
  have ls1_0_8 := bs1_0_8.lt
  clear bs1_0_7 ls1_0_7
  have bi3_0_8 := bi3_0_7.below hb8 bi3_0_7.lt
  have li3_0_8 := bi3_0_8.lt
  clear bi3_0_7 li3_0_7
  have hT8 := hT7.trans (Below.mono hb8 (by omega))
  clear hT7
  clear hb8
  obtain ⟨w9, hw9⟩ : ∃ x, x = w8.alloc (.cells #[.bool (parR a0).1.1, .slice A4 (parR a0).1.2.length c4, .slice B4 (parR a0).2.length k4] 26) := ⟨_, rfl⟩
  have hb9 : Below w8.heap.size w8 w9 := by rw [hw9]; exact below_new _ _
  have hq9 : w8.heap.size < w9.heap.size := by rw [hw9, alloc_size]; omega
  have bn : Box w9 w8.heap.size 26 #[.bool (parR a0).1.1, .slice A4 (parR a0).1.2.length c4, .slice B4 (parR a0).2.length k4] := by rw [hw9]; exact Box.last _ _ _ rfl
  have hs9 := hb9.size
  have o0_9 := o0_8.below hb9 (by omega)
  clear o0_8
  have o2_9 := o2_8.below hb9 (by omega)
  clear o2_8
  have o4_9 := o4_8.below hb9 (by omega)
  clear o4_8
  have bs1_0_9 := bs1_0_8.below hb9 bs1_0_8.lt
  have ls1_0_9 := bs1_0_9.lt
  clear bs1_0_8 ls1_0_8
  have bi3_0_9 := bi3_0_8.below hb9 bi3_0_8.lt
  have li3_0_9 := bi3_0_9.lt
  clear bi3_0_8 li3_0_8
  have hT9 := hT8.trans (Below.mono hb9 (by omega))
  clear hT8
  have bi5_0_9 := bn
  have li5_0_9 := bi5_0_9.lt
  clear bn hb9 hs9
  go_upto_region 16 with fail
  rw [← hw9]
  clear hw9
  obtain ⟨yi5_0_0, yi5_0_1, yi5_0_2⟩ := bi5_0_9.cells3
  obtain ⟨ys1_0_0, ys1_0_1, ys1_0_2⟩ := bs1_0_9.cells3
  go_wp2_with fail
  refine (eqRat_any w9 w9.heap.size (Nat.le_refl _) (parR a0).1.1 A4 A0 _ c4 c0 (parR a0).1.2 rfl o4_9.rd1 o0_9.rd1 B4 B0 _ k4 k0 (parR a0).2 rfl o4_9.rd2 o0_9.rd2 (by omega) (by omega)).mono ?_
  rintro e w10 ⟨rfl, hb10⟩
  have hs10 := hb10.size
  have o0_10 := o0_9.below hb10 (by omega)
  clear o0_9
  have o2_10 := o2_9.below hb10 (by omega)
  clear o2_9
  have o4_10 := o4_9.below hb10 (by omega)
  clear o4_9
  have bs1_0_10 := bs1_0_9.below hb10 bs1_0_9.lt
  have ls1_0_10 := bs1_0_10.lt
  clear bs1_0_9 ls1_0_9
  have bi3_0_10 := bi3_0_9.below hb10 bi3_0_9.lt
  have li3_0_10 := bi3_0_10.lt
  clear bi3_0_9 li3_0_9
  have bi5_0_10 := bi5_0_9.below hb10 bi5_0_9.lt
  have li5_0_10 := bi5_0_10.lt
  clear bi5_0_9 li5_0_9
  have hT10 := hT9.trans (Below.mono hb10 (by omega))
  clear hT9
  clear hb10
  clear yi5_0_0 yi5_0_1 yi5_0_2 ys1_0_0 ys1_0_1 ys1_0_2
  obtain ⟨yi3_0_0, yi3_0_1, yi3_0_2⟩ := bi3_0_10.cells3
  have hNK1 : ¬ (K1 : Int) < 0 := by omega
  go_wp2_with fail
  refine (heldRat_any w10 ((parR a0).1.1) A2 (parR a0).1.2.length c2 B2 (parR a0).2.length k2 1 _ (Nat.le_refl _) o2_10.rd1 o2_10.rd2 (by omega) (by omega) (by omega)).mono ?_
  rintro e w11 ⟨he, hb11⟩
  rw [← HK1.out] at he
  subst he
  clear yi3_0_0 yi3_0_1 yi3_0_2
  have hs11 := hb11.size
  have o0_11 := o0_10.below hb11 (by omega)
  clear o0_10
  have o2_11 := o2_10.below hb11 (by omega)
  clear o2_10
  have o4_11 := o4_10.below hb11 (by omega)
  clear o4_10
  have bs1_0_11 := bs1_0_10.below hb11 bs1_0_10.lt
  have ls1_0_11 := bs1_0_11.lt
  clear bs1_0_10 ls1_0_10
  have bi3_0_11 := bi3_0_10.below hb11 bi3_0_10.lt
  have li3_0_11 := bi3_0_11.lt
  clear bi3_0_10 li3_0_10
  have bi5_0_11 := bi5_0_10.below hb11 bi5_0_10.lt
  have li5_0_11 := bi5_0_11.lt
  clear bi5_0_10 li5_0_10
  have hT11 := hT10.trans (Below.mono hb11 (by omega))
  clear hT10
  clear hb11
  go_wp2
  go_ret
  exact ⟨rfl, hT11⟩
end Go.Proofs.YtiiedfhcandjdaaGreatDoor
