/-
  The exact laws' walks: big integers, BigW2.
-/
import Derived.Test.YtcainjgcfbgddaaBigL
import Derived.Test.YtcainjgcfbgddaaBigR2
import Derived.Test.YtcainjgcfbgddaaBigR6
import Derived.Test.YtcainjgcfbgddaaBigR7
import Derived.Test.YtcainjgcfbgddaaBigI3
import Derived.Test.YtcainjgcfbgddaaBigI4
import Derived.Test.YtcainjgcfbgddaaBigI10
import Derived.Test.YtcainjgcfbgddaaBigI11
import Derived.Test.YtcainjgcfbgddaaNatLen
import Derived.Deep.CutRange
import Derived.Deep.RegionHeld3
import Derived.Sort.AtCall
namespace Go.Proofs.Ytcainjgcfbgddaa
open Go.RowKit
set_option linter.unusedVariables false

set_option maxHeartbeats 8000000 in
set_option maxRecDepth 100000 in
theorem FnExactBigIntOf_walk (w : World) (a0 : Int) (f0 : (Lit.int .i64 a0).wf = true) :
    Calls Try.prog 4 #[.int .i64 a0] w fun e w' => e = .returned (.bool true) ∧ Below w.heap.size w w' := by
  obtain ⟨hm0, hM0⟩ := bounds_i64 f0
  have hT0 : Below w.heap.size w w := Below.refl _ _
  go_enter Try.func4, Try.ntmps4
  have hL_0 : (capZ a0).2.length ≤ 1048576 := ofZ_len a0
  go_wp2_with fail
  refine (spec_BigIntOf w w.heap.size (Nat.le_refl _) a0 f0).mono ?_
  rintro e w1 ⟨v0, rfl, o0_1, hb1⟩
  obtain ⟨A0, c0, rfl⟩ := o0_1.form
  have hs1 := hb1.size
  have hT1 := hT0.trans (Below.mono hb1 (by omega))
  clear hT0
  clear hb1
  obtain ⟨w2, hw2⟩ : ∃ x, x = w1.alloc (.cells #[.bool (capZ a0).1, .slice A0 (capZ a0).2.length c0] 27) := ⟨_, rfl⟩
  have hb2 : Below w1.heap.size w1 w2 := by rw [hw2]; exact below_new _ _
  have hq2 : w1.heap.size < w2.heap.size := by rw [hw2, alloc_size]; omega
  have bn : Box w2 w1.heap.size 27 #[.bool (capZ a0).1, .slice A0 (capZ a0).2.length c0] := by rw [hw2]; exact Box.last _ _ _ rfl
  have hs2 := hb2.size
  have o0_2 := o0_1.below hb2 (by omega)
  clear o0_1
  have hT2 := hT1.trans (Below.mono hb2 (by omega))
  clear hT1
  have bs1_0_2 := bn
  have ls1_0_2 := bs1_0_2.lt
  clear bn hb2 hs2
  go_upto_region 2 with fail
  rw [← hw2]
  clear hw2
  go_wp2_with fail
  refine (impl_BigIntOf w2 w2.heap.size (Nat.le_refl _) a0 f0).mono ?_
  rintro e w3 ⟨v2, rfl, o2_3, hb3⟩
  obtain ⟨A2, c2, rfl⟩ := o2_3.form
  have hs3 := hb3.size
  have o0_3 := o0_2.below hb3 (by omega)
  clear o0_2
  have bs1_0_3 := bs1_0_2.below hb3 bs1_0_2.lt
  have ls1_0_3 := bs1_0_3.lt
  clear bs1_0_2 ls1_0_2
  have hT3 := hT2.trans (Below.mono hb3 (by omega))
  clear hT2
  clear hb3
  obtain ⟨w4, hw4⟩ : ∃ x, x = w3.alloc (.cells #[.bool (capZ a0).1, .slice A2 (capZ a0).2.length c2] 27) := ⟨_, rfl⟩
  have hb4 : Below w3.heap.size w3 w4 := by rw [hw4]; exact below_new _ _
  have hq4 : w3.heap.size < w4.heap.size := by rw [hw4, alloc_size]; omega
  have bn : Box w4 w3.heap.size 27 #[.bool (capZ a0).1, .slice A2 (capZ a0).2.length c2] := by rw [hw4]; exact Box.last _ _ _ rfl
  have hs4 := hb4.size
  have o0_4 := o0_3.below hb4 (by omega)
  clear o0_3
  have o2_4 := o2_3.below hb4 (by omega)
  clear o2_3
  have bs1_0_4 := bs1_0_3.below hb4 bs1_0_3.lt
  have ls1_0_4 := bs1_0_4.lt
  clear bs1_0_3 ls1_0_3
  have hT4 := hT3.trans (Below.mono hb4 (by omega))
  clear hT3
  have bi3_0_4 := bn
  have li3_0_4 := bi3_0_4.lt
  clear bn hb4 hs4
  go_upto_region 3 with fail
  rw [← hw4]
  clear hw4
  obtain ⟨yi3_0_0, yi3_0_1, _, _⟩ := bi3_0_4.facts
  obtain ⟨ys1_0_0, ys1_0_1, _, _⟩ := bs1_0_4.facts
  go_wp2_with fail
  refine (eqBigInt_any w4 w4.heap.size (Nat.le_refl _) (capZ a0).1 A2 A0 _ c2 c0 (capZ a0).2 rfl o2_4.rd o0_4.rd (by omega)).mono ?_
  rintro e w5 ⟨rfl, hb5⟩
  have hs5 := hb5.size
  have o0_5 := o0_4.below hb5 (by omega)
  clear o0_4
  have o2_5 := o2_4.below hb5 (by omega)
  clear o2_4
  have bs1_0_5 := bs1_0_4.below hb5 bs1_0_4.lt
  have ls1_0_5 := bs1_0_5.lt
  clear bs1_0_4 ls1_0_4
  have bi3_0_5 := bi3_0_4.below hb5 bi3_0_4.lt
  have li3_0_5 := bi3_0_5.lt
  clear bi3_0_4 li3_0_4
  have hT5 := hT4.trans (Below.mono hb5 (by omega))
  clear hT4
  clear hb5
  clear yi3_0_0 yi3_0_1 ys1_0_0 ys1_0_1
  obtain ⟨yi3_0_0, yi3_0_1, _, _⟩ := bi3_0_5.facts
  go_wp2_with fail
  refine (markBigInt_own w5 ((capZ a0).1) A2 (capZ a0).2.length c2 1 _ _ _ _ o2_5 (by omega) (by omega) (by omega)).mono ?_
  rintro e w6 ⟨he, p2, ha6⟩
  obtain ⟨K1, hK1⟩ : ∃ K : Nat, K = 1 + (capZ a0).2.length := ⟨_, rfl⟩
  have bK1 : K1 ≤ 2000010 := by omega
  rw [← hK1] at he
  subst he
  have HK1 := hide hK1
  clear hK1
  clear yi3_0_0 yi3_0_1
  have hs6 := ha6.size
  have o0_6 := o0_5.aside ha6 (by omega)
  clear o0_5
  have bs1_0_6 := bs1_0_5.aside ha6 (by omega)
  have ls1_0_6 := bs1_0_6.lt
  clear bs1_0_5 ls1_0_5
  have bi3_0_6 := bi3_0_5.aside ha6 (by omega)
  have li3_0_6 := bi3_0_6.lt
  clear bi3_0_5 li3_0_5
  have hT6 := hT5.trans (Aside.below ha6 (by omega) (by omega))
  clear hT5
  clear ha6
  have o2_6 := p2
  clear p2 o2_5
  obtain ⟨yi3_0_0, yi3_0_1, _, _⟩ := bi3_0_6.facts
  have hNK1 : ¬ (K1 : Int) < 0 := by omega
  go_wp2_with fail
  refine (heldBigInt_any w6 ((capZ a0).1) A2 (capZ a0).2.length c2 1 _ (Nat.le_refl _) o2_6.rd (by omega) (by omega)).mono ?_
  rintro e w7 ⟨he, hb7⟩
  rw [← HK1.out] at he
  subst he
  clear yi3_0_0 yi3_0_1
  have hs7 := hb7.size
  have o0_7 := o0_6.below hb7 (by omega)
  clear o0_6
  have o2_7 := o2_6.below hb7 (by omega)
  clear o2_6
  have bs1_0_7 := bs1_0_6.below hb7 bs1_0_6.lt
  have ls1_0_7 := bs1_0_7.lt
  clear bs1_0_6 ls1_0_6
  have bi3_0_7 := bi3_0_6.below hb7 bi3_0_6.lt
  have li3_0_7 := bi3_0_7.lt
  clear bi3_0_6 li3_0_6
  have hT7 := hT6.trans (Below.mono hb7 (by omega))
  clear hT6
  clear hb7
  go_wp2_with fail
  refine (impl_BigIntOf w7 w7.heap.size (Nat.le_refl _) a0 f0).mono ?_
  rintro e w8 ⟨v4, rfl, o4_8, hb8⟩
  obtain ⟨A4, c4, rfl⟩ := o4_8.form
  have hs8 := hb8.size
  have o0_8 := o0_7.below hb8 (by omega)
  clear o0_7
  have o2_8 := o2_7.below hb8 (by omega)
  clear o2_7
  have bs1_0_8 := bs1_0_7.below hb8 bs1_0_7.lt
  have ls1_0_8 := bs1_0_8.lt
  clear bs1_0_7 ls1_0_7
  have bi3_0_8 := bi3_0_7.below hb8 bi3_0_7.lt
  have li3_0_8 := bi3_0_8.lt
  clear bi3_0_7 li3_0_7
  have hT8 := hT7.trans (Below.mono hb8 (by omega))
  clear hT7
  clear hb8
  obtain ⟨w9, hw9⟩ : ∃ x, x = w8.alloc (.cells #[.bool (capZ a0).1, .slice A4 (capZ a0).2.length c4] 27) := ⟨_, rfl⟩
  have hb9 : Below w8.heap.size w8 w9 := by rw [hw9]; exact below_new _ _
  have hq9 : w8.heap.size < w9.heap.size := by rw [hw9, alloc_size]; omega
  have bn : Box w9 w8.heap.size 27 #[.bool (capZ a0).1, .slice A4 (capZ a0).2.length c4] := by rw [hw9]; exact Box.last _ _ _ rfl
  have hs9 := hb9.size
  have o0_9 := o0_8.below hb9 (by omega)
  clear o0_8
  have o2_9 := o2_8.below hb9 (by omega)
  clear o2_8
  have o4_9 := o4_8.below hb9 (by omega)
  clear o4_8
  have bs1_0_9 := bs1_0_8.below hb9 bs1_0_8.lt
  have ls1_0_9 := bs1_0_9.lt
  clear bs1_0_8 ls1_0_8
  have bi3_0_9 := bi3_0_8.below hb9 bi3_0_8.lt
  have li3_0_9 := bi3_0_9.lt
  clear bi3_0_8 li3_0_8
  have hT9 := hT8.trans (Below.mono hb9 (by omega))
  clear hT8
  have bi5_0_9 := bn
  have li5_0_9 := bi5_0_9.lt
  clear bn hb9 hs9
  go_upto_region 14 with fail
  rw [← hw9]
  clear hw9
  obtain ⟨yi5_0_0, yi5_0_1, _, _⟩ := bi5_0_9.facts
  obtain ⟨ys1_0_0, ys1_0_1, _, _⟩ := bs1_0_9.facts
  go_wp2_with fail
  refine (eqBigInt_any w9 w9.heap.size (Nat.le_refl _) (capZ a0).1 A4 A0 _ c4 c0 (capZ a0).2 rfl o4_9.rd o0_9.rd (by omega)).mono ?_
  rintro e w10 ⟨rfl, hb10⟩
  have hs10 := hb10.size
  have o0_10 := o0_9.below hb10 (by omega)
  clear o0_9
  have o2_10 := o2_9.below hb10 (by omega)
  clear o2_9
  have o4_10 := o4_9.below hb10 (by omega)
  clear o4_9
  have bs1_0_10 := bs1_0_9.below hb10 bs1_0_9.lt
  have ls1_0_10 := bs1_0_10.lt
  clear bs1_0_9 ls1_0_9
  have bi3_0_10 := bi3_0_9.below hb10 bi3_0_9.lt
  have li3_0_10 := bi3_0_10.lt
  clear bi3_0_9 li3_0_9
  have bi5_0_10 := bi5_0_9.below hb10 bi5_0_9.lt
  have li5_0_10 := bi5_0_10.lt
  clear bi5_0_9 li5_0_9
  have hT10 := hT9.trans (Below.mono hb10 (by omega))
  clear hT9
  clear hb10
  clear yi5_0_0 yi5_0_1 ys1_0_0 ys1_0_1
  obtain ⟨yi3_0_0, yi3_0_1, _, _⟩ := bi3_0_10.facts
  have hNK1 : ¬ (K1 : Int) < 0 := by omega
  go_wp2_with fail
  refine (heldBigInt_any w10 ((capZ a0).1) A2 (capZ a0).2.length c2 1 _ (Nat.le_refl _) o2_10.rd (by omega) (by omega)).mono ?_
  rintro e w11 ⟨he, hb11⟩
  rw [← HK1.out] at he
  subst he
  clear yi3_0_0 yi3_0_1
  have hs11 := hb11.size
  have o0_11 := o0_10.below hb11 (by omega)
  clear o0_10
  have o2_11 := o2_10.below hb11 (by omega)
  clear o2_10
  have o4_11 := o4_10.below hb11 (by omega)
  clear o4_10
  have bs1_0_11 := bs1_0_10.below hb11 bs1_0_10.lt
  have ls1_0_11 := bs1_0_11.lt
  clear bs1_0_10 ls1_0_10
  have bi3_0_11 := bi3_0_10.below hb11 bi3_0_10.lt
  have li3_0_11 := bi3_0_11.lt
  clear bi3_0_10 li3_0_10
  have bi5_0_11 := bi5_0_10.below hb11 bi5_0_10.lt
  have li5_0_11 := bi5_0_11.lt
  clear bi5_0_10 li5_0_10
  have hT11 := hT10.trans (Below.mono hb11 (by omega))
  clear hT10
  clear hb11
  go_wp2
  go_ret
  exact ⟨rfl, hT11⟩

set_option maxHeartbeats 8000000 in
set_option maxRecDepth 100000 in
theorem FnExactBigIntNeg_walk (w : World) (s0 : Bool) (a0 : Option Addr) (len0 cap0 : Nat) (z0 : List Int) (f0 : IsRow .i64 w a0 len0 cap0 z0) :
    Calls Try.prog 6 #[.agg #[.bool s0, .slice a0 len0 cap0]] w fun e w' => e = .returned (.bool true) ∧ Below w.heap.size w w' := by
  have hm0 := f0.rd.2.2.1
  unfold maxLen at hm0
  obtain ⟨w1, hw1⟩ : ∃ x, x = (w.alloc (.cells #[.bool s0, .slice a0 len0 cap0] 24)) := ⟨_, rfl⟩
  have hT1 : Below w.heap.size w w1 := by rw [hw1]; exact below_new _ _
  have bP0_1 : Box w1 (w.heap.size) 24 #[.bool s0, .slice a0 len0 cap0] := by rw [hw1]; exact Box.last _ _ _ rfl
  have lP0_1 := bP0_1.lt
  have lqP0 := bP0_1.lt
  have hs1 := hT1.size
  have hJ : ∀ W : World, Below w.heap.size w W → Below w.heap.size w W := fun _ h => h
  go_enter Try.func6, Try.ntmps6
  go_upto_region 1 with fail
  rw [← hw1]
  clear hw1 hJ
  obtain ⟨yP0_0, yP0_1, _, _⟩ := bP0_1.facts
  go_wp2_with fail
  refine (szBigInt_any w1 s0 a0 len0 cap0 1048576 (by omega) (by omega)).mono ?_
  rintro e w2 ⟨rfl, hb2⟩
  clear yP0_0 yP0_1
  have hs2 := hb2.size
  have bP0_2 := bP0_1.below hb2 bP0_1.lt
  have lP0_2 := bP0_2.lt
  clear bP0_1 lP0_1
  have hT2 := hT1.trans (Below.mono hb2 (by omega))
  clear hT1 hb2
  by_cases cz0 : ¬ len0 ≤ 1048576
  · have hle : leftI 1048576 len0 = -1 := if_neg cz0
    rw [hle]
    clear hle
    go_wp2_with fail
    go_ret
    exact ⟨rfl, hT2⟩
  have cz0 := Decidable.not_not.1 cz0
  obtain ⟨L0, hL0⟩ : ∃ L : Nat, L + len0 = 1048576 := ⟨1048576 - len0, by omega⟩
  have hle : leftI 1048576 len0 = (L0 : Int) := by rw [leftI, if_pos cz0]; omega
  rw [hle]
  clear hle
  have hng0 : ¬ (L0 : Int) < 0 := by omega
  have hn0 : len0 ≤ 1048576 := by omega
  have HLe0 := hide hL0
  have hLb0 : L0 ≤ 1048576 := by omega
  clear hL0
  obtain ⟨xs0, J0⟩ := f0.rdI hn0
  have I0_2 := J0.below hT2
  clear J0 f0
  have hL_0 : (negZ s0 xs0).2.length ≤ 1048576 := negZ_len s0 xs0
  obtain ⟨yP0_0, yP0_1, _, _⟩ := bP0_2.facts
  go_wp2_with fail
  refine (toBigInt_any w2 w.heap.size hT2.size s0 a0 len0 cap0 xs0 I0_2).mono ?_
  rintro e w3 ⟨g0, rfl, o0_3, hb3⟩
  have hs3 := hb3.size
  have bP0_3 := bP0_2.below hb3 bP0_2.lt
  have lP0_3 := bP0_3.lt
  clear bP0_2 lP0_2
  have I0_3 := I0_2.below (Below.mono hb3 (by omega))
  clear I0_2
  have hT3 := hT2.trans (Below.mono hb3 (by omega))
  clear hT2
  clear hb3
  clear yP0_0 yP0_1
  go_wp2_with fail
  refine (spec_BigIntNeg w3 w3.heap.size (Nat.le_refl _) s0 (some ⟨g0, 0, none⟩) len0 len0 xs0 (I0_3.at_ o0_3.rd) (Nat.le_refl _) (by unfold maxLen; omega)).mono ?_
  rintro e w4 ⟨v1, rfl, o1_4, hb4⟩
  obtain ⟨A1, c1, rfl⟩ := o1_4.form
  have hs4 := hb4.size
  clear o0_3
  have bP0_4 := bP0_3.below hb4 bP0_3.lt
  have lP0_4 := bP0_4.lt
  clear bP0_3 lP0_3
  have I0_4 := I0_3.below (Below.mono hb4 (by omega))
  clear I0_3
  have hT4 := hT3.trans (Below.mono hb4 (by omega))
  clear hT3
  clear hb4
  obtain ⟨w5, hw5⟩ : ∃ x, x = w4.alloc (.cells #[.bool (negZ s0 xs0).1, .slice A1 (negZ s0 xs0).2.length c1] 27) := ⟨_, rfl⟩
  have hb5 : Below w4.heap.size w4 w5 := by rw [hw5]; exact below_new _ _
  have hq5 : w4.heap.size < w5.heap.size := by rw [hw5, alloc_size]; omega
  have bn : Box w5 w4.heap.size 27 #[.bool (negZ s0 xs0).1, .slice A1 (negZ s0 xs0).2.length c1] := by rw [hw5]; exact Box.last _ _ _ rfl
  have hs5 := hb5.size
  have o1_5 := o1_4.below hb5 (by omega)
  clear o1_4
  have bP0_5 := bP0_4.below hb5 bP0_4.lt
  have lP0_5 := bP0_5.lt
  clear bP0_4 lP0_4
  have I0_5 := I0_4.below (Below.mono hb5 (by omega))
  clear I0_4
  have hT5 := hT4.trans (Below.mono hb5 (by omega))
  clear hT4
  have bs2_0_5 := bn
  have ls2_0_5 := bs2_0_5.lt
  clear bn hb5 hs5
  go_upto_region 6 with fail
  rw [← hw5]
  clear hw5
  obtain ⟨yP0_0, yP0_1, _, _⟩ := bP0_5.facts
  go_wp2_with fail
  refine (toBigInt_any w5 w.heap.size hT5.size s0 a0 len0 cap0 xs0 I0_5).mono ?_
  rintro e w6 ⟨g3, rfl, o3_6, hb6⟩
  have hs6 := hb6.size
  have o1_6 := o1_5.below hb6 (by omega)
  clear o1_5
  have bP0_6 := bP0_5.below hb6 bP0_5.lt
  have lP0_6 := bP0_6.lt
  clear bP0_5 lP0_5
  have bs2_0_6 := bs2_0_5.below hb6 bs2_0_5.lt
  have ls2_0_6 := bs2_0_6.lt
  clear bs2_0_5 ls2_0_5
  have I0_6 := I0_5.below (Below.mono hb6 (by omega))
  clear I0_5
  have hT6 := hT5.trans (Below.mono hb6 (by omega))
  clear hT5
  clear hb6
  clear yP0_0 yP0_1
  obtain ⟨w7, hw7⟩ : ∃ x, x = w6.alloc (.cells #[.bool s0, .slice (some ⟨g3, 0, none⟩) len0 len0] 27) := ⟨_, rfl⟩
  have hb7 : Below w6.heap.size w6 w7 := by rw [hw7]; exact below_new _ _
  have hq7 : w6.heap.size < w7.heap.size := by rw [hw7, alloc_size]; omega
  have bn : Box w7 w6.heap.size 27 #[.bool s0, .slice (some ⟨g3, 0, none⟩) len0 len0] := by rw [hw7]; exact Box.last _ _ _ rfl
  have hs7 := hb7.size
  have o1_7 := o1_6.below hb7 (by omega)
  clear o1_6
  have o3_7 := o3_6.below hb7 (by omega)
  clear o3_6
  have bP0_7 := bP0_6.below hb7 bP0_6.lt
  have lP0_7 := bP0_7.lt
  clear bP0_6 lP0_6
  have bs2_0_7 := bs2_0_6.below hb7 bs2_0_6.lt
  have ls2_0_7 := bs2_0_7.lt
  clear bs2_0_6 ls2_0_6
  have I0_7 := I0_6.below (Below.mono hb7 (by omega))
  clear I0_6
  have hT7 := hT6.trans (Below.mono hb7 (by omega))
  clear hT6
  have bx0_7 := bn
  have lx0_7 := bx0_7.lt
  clear bn hb7 hs7
  go_upto_region 7 with fail
  rw [← hw7]
  clear hw7
  obtain ⟨yx0_0, yx0_1, _, _⟩ := bx0_7.facts
  go_wp2_with fail
  refine (impl_BigIntNeg w7 w7.heap.size (Nat.le_refl _) s0 (some ⟨g3, 0, none⟩) len0 len0 xs0 (I0_7.at_ o3_7.rd)).mono ?_
  rintro e w8 ⟨v4, rfl, o4_8, hb8⟩
  obtain ⟨A4, c4, rfl⟩ := o4_8.form
  have hs8 := hb8.size
  have o1_8 := o1_7.below hb8 (by omega)
  clear o1_7
  have o3_8 := o3_7.below hb8 (by omega)
  clear o3_7
  have bP0_8 := bP0_7.below hb8 bP0_7.lt
  have lP0_8 := bP0_8.lt
  clear bP0_7 lP0_7
  have bs2_0_8 := bs2_0_7.below hb8 bs2_0_7.lt
  have ls2_0_8 := bs2_0_8.lt
  clear bs2_0_7 ls2_0_7
  have bx0_8 := bx0_7.below hb8 bx0_7.lt
  have lx0_8 := bx0_8.lt
  clear bx0_7 lx0_7
  have I0_8 := I0_7.below (Below.mono hb8 (by omega))
  clear I0_7
  have hT8 := hT7.trans (Below.mono hb8 (by omega))
  clear hT7
  clear hb8
  clear yx0_0 yx0_1
  obtain ⟨w9, hw9⟩ : ∃ x, x = w8.alloc (.cells #[.bool (negZ s0 xs0).1, .slice A4 (negZ s0 xs0).2.length c4] 27) := ⟨_, rfl⟩
  have hb9 : Below w8.heap.size w8 w9 := by rw [hw9]; exact below_new _ _
  have hq9 : w8.heap.size < w9.heap.size := by rw [hw9, alloc_size]; omega
  have bn : Box w9 w8.heap.size 27 #[.bool (negZ s0 xs0).1, .slice A4 (negZ s0 xs0).2.length c4] := by rw [hw9]; exact Box.last _ _ _ rfl
  have hs9 := hb9.size
  have o1_9 := o1_8.below hb9 (by omega)
  clear o1_8
  have o3_9 := o3_8.below hb9 (by omega)
  clear o3_8
  have o4_9 := o4_8.below hb9 (by omega)
  clear o4_8
  have bP0_9 := bP0_8.below hb9 bP0_8.lt
  have lP0_9 := bP0_9.lt
  clear bP0_8 lP0_8
  have bs2_0_9 := bs2_0_8.below hb9 bs2_0_8.lt
  have ls2_0_9 := bs2_0_9.lt
  clear bs2_0_8 ls2_0_8
  have bx0_9 := bx0_8.below hb9 bx0_8.lt
  have lx0_9 := bx0_9.lt
  clear bx0_8 lx0_8
  have I0_9 := I0_8.below (Below.mono hb9 (by omega))
  clear I0_8
  have hT9 := hT8.trans (Below.mono hb9 (by omega))
  clear hT8
  have bi5_0_9 := bn
  have li5_0_9 := bi5_0_9.lt
  clear bn hb9 hs9
  go_upto_region 8 with fail
  rw [← hw9]
  clear hw9
  obtain ⟨yi5_0_0, yi5_0_1, _, _⟩ := bi5_0_9.facts
  obtain ⟨ys2_0_0, ys2_0_1, _, _⟩ := bs2_0_9.facts
  go_wp2_with fail
  refine (eqBigInt_any w9 w9.heap.size (Nat.le_refl _) (negZ s0 xs0).1 A4 A1 _ c4 c1 (negZ s0 xs0).2 rfl o4_9.rd o1_9.rd (by omega)).mono ?_
  rintro e w10 ⟨rfl, hb10⟩
  have hs10 := hb10.size
  have o1_10 := o1_9.below hb10 (by omega)
  clear o1_9
  have o3_10 := o3_9.below hb10 (by omega)
  clear o3_9
  have o4_10 := o4_9.below hb10 (by omega)
  clear o4_9
  have bP0_10 := bP0_9.below hb10 bP0_9.lt
  have lP0_10 := bP0_10.lt
  clear bP0_9 lP0_9
  have bs2_0_10 := bs2_0_9.below hb10 bs2_0_9.lt
  have ls2_0_10 := bs2_0_10.lt
  clear bs2_0_9 ls2_0_9
  have bx0_10 := bx0_9.below hb10 bx0_9.lt
  have lx0_10 := bx0_10.lt
  clear bx0_9 lx0_9
  have bi5_0_10 := bi5_0_9.below hb10 bi5_0_9.lt
  have li5_0_10 := bi5_0_10.lt
  clear bi5_0_9 li5_0_9
  have I0_10 := I0_9.below (Below.mono hb10 (by omega))
  clear I0_9
  have hT10 := hT9.trans (Below.mono hb10 (by omega))
  clear hT9
  clear hb10
  clear yi5_0_0 yi5_0_1 ys2_0_0 ys2_0_1
  go_upto_region 10 with fail
  obtain ⟨yP0_0, yP0_1, _, _⟩ := bP0_10.facts
  obtain ⟨yx0_0, yx0_1, _, _⟩ := bx0_10.facts
  have HPi := hide bP0_10
  have HPj := hide bx0_10
  have HKS := hide (fun (W : World) (hq : Below w10.heap.size w10 W) => (⟨(HPj.out.below hq HPj.out.lt).cell 0, (HPj.out.below hq HPj.out.lt).cell 1, (HPi.out.below hq HPi.out.lt).cell 0, (HPi.out.below hq HPi.out.lt).cell 1⟩ : W.cell? ⟨w6.heap.size, 0, none⟩ = some (.bool s0) ∧ W.cell? ⟨w6.heap.size, 1, none⟩ = some (.slice (some ⟨g3, 0, none⟩) len0 len0) ∧ W.cell? ⟨w.heap.size, 0, none⟩ = some (.bool s0) ∧ W.cell? ⟨w.heap.size, 1, none⟩ = some (.slice a0 len0 cap0)))
  have HCi := hide (fun (W : World) (hq : Below w10.heap.size w10 W) => toBigInt_any W w.heap.size (by have := hT10.size; have := hq.size; omega) s0 a0 len0 cap0 xs0 (I0_10.below (hq.mono hT10.size)))
  have HF := hide (fun (W : World) (p : Nat) (hq : Below w10.heap.size w10 W) (r : Rd W W.heap.size (some ⟨p, 0, none⟩) (iv xs0)) => eqBigInt_any W W.heap.size (Nat.le_refl _) s0 (some ⟨g3, 0, none⟩) (some ⟨p, 0, none⟩) len0 len0 len0 xs0 I0_10.1 (o3_10.below hq (by omega)).rd r (by omega))
  have HS0 : Hid (Below w10.heap.size w10 w10.drew) := (Below.refl _ _).drew
  go_region_held3 (fun w' => w'.cell? ⟨w6.heap.size, 0, none⟩ = some (.bool s0) ∧ w'.cell? ⟨w6.heap.size, 1, none⟩ = some (.slice (some ⟨g3, 0, none⟩) len0 len0) ∧ w'.cell? ⟨w.heap.size, 0, none⟩ = some (.bool s0) ∧ w'.cell? ⟨w.heap.size, 1, none⟩ = some (.slice a0 len0 cap0))
      (first | (with_reducible exact HKS.out _ HS2.out) | (with_reducible exact HKS.out _ HS1.out) | (with_reducible exact HKS.out _ HS0.out))
      (first
        | (go_at_call 15; refine (HCi.out _ HS0.out).mono ?_; rintro e u1 ⟨p1, rfl, e1, hb1⟩; have HS1 := hide (below_then HS0.out hb1))
        | (go_at_call 17; refine (HF.out _ _ HS1.out e1.rd).mono ?_; rintro e u2 ⟨rfl, hb2⟩; have HS2 := hide (below_then HS1.out hb2)))
  have hb11 := HS2.out
  obtain ⟨w11, hw11⟩ : ∃ x, x = u2 := ⟨_, rfl⟩
  subst hw11
  clear HKS HCi HF HS0 HPi HPj HS1 HS2 hb1 hb2 e1
  clear yP0_0 yP0_1 yx0_0 yx0_1
  have hs11 := hb11.size
  have o1_11 := o1_10.below hb11 (by omega)
  clear o1_10
  have o3_11 := o3_10.below hb11 (by omega)
  clear o3_10
  have o4_11 := o4_10.below hb11 (by omega)
  clear o4_10
  have bP0_11 := bP0_10.below hb11 bP0_10.lt
  have lP0_11 := bP0_11.lt
  clear bP0_10 lP0_10
  have bs2_0_11 := bs2_0_10.below hb11 bs2_0_10.lt
  have ls2_0_11 := bs2_0_11.lt
  clear bs2_0_10 ls2_0_10
  have bx0_11 := bx0_10.below hb11 bx0_10.lt
  have lx0_11 := bx0_11.lt
  clear bx0_10 lx0_10
  have bi5_0_11 := bi5_0_10.below hb11 bi5_0_10.lt
  have li5_0_11 := bi5_0_11.lt
  clear bi5_0_10 li5_0_10
  have I0_11 := I0_10.below (Below.mono hb11 (by omega))
  clear I0_10
  have hT11 := hT10.trans (Below.mono hb11 (by omega))
  clear hT10
  clear hb11
  obtain ⟨yx0_0, yx0_1, _, _⟩ := bx0_11.facts
  go_wp2_with fail
  refine (markBigInt_own w11 (s0) (some ⟨g3, 0, none⟩) len0 len0 1 _ _ _ _ o3_11 (by omega) (by omega) (by omega)).mono ?_
  rintro e w12 ⟨he, p3, ha12⟩
  obtain ⟨K1, hK1⟩ : ∃ K : Nat, K = 1 + len0 := ⟨_, rfl⟩
  have bK1 : K1 ≤ 2000010 := by omega
  rw [← hK1] at he
  subst he
  have HK1 := hide hK1
  clear hK1
  clear yx0_0 yx0_1
  have hs12 := ha12.size
  have o1_12 := o1_11.aside ha12 (by omega)
  clear o1_11
  have o4_12 := o4_11.aside ha12 (by omega)
  clear o4_11
  have bP0_12 := bP0_11.aside ha12 (by omega)
  have lP0_12 := bP0_12.lt
  clear bP0_11 lP0_11
  have bs2_0_12 := bs2_0_11.aside ha12 (by omega)
  have ls2_0_12 := bs2_0_12.lt
  clear bs2_0_11 ls2_0_11
  have bx0_12 := bx0_11.aside ha12 (by omega)
  have lx0_12 := bx0_12.lt
  clear bx0_11 lx0_11
  have bi5_0_12 := bi5_0_11.aside ha12 (by omega)
  have li5_0_12 := bi5_0_12.lt
  clear bi5_0_11 li5_0_11
  have I0_12 := I0_11.below (Aside.below ha12 (by omega) (by omega))
  clear I0_11
  have hT12 := hT11.trans (Aside.below ha12 (by omega) (by omega))
  clear hT11
  clear ha12
  have o3_12 := p3
  clear p3 o3_11
  have hnk : ¬ (K1 : Int) < 0 := by omega
  obtain ⟨yi5_0_0, yi5_0_1, _, _⟩ := bi5_0_12.facts
  obtain ⟨ys2_0_0, ys2_0_1, _, _⟩ := bs2_0_12.facts
  go_wp2_with fail
  refine (eqBigInt_any w12 w12.heap.size (Nat.le_refl _) (negZ s0 xs0).1 A4 A1 _ c4 c1 (negZ s0 xs0).2 rfl o4_12.rd o1_12.rd (by omega)).mono ?_
  rintro e w13 ⟨rfl, hb13⟩
  have hs13 := hb13.size
  have o1_13 := o1_12.below hb13 (by omega)
  clear o1_12
  have o3_13 := o3_12.below hb13 (by omega)
  clear o3_12
  have o4_13 := o4_12.below hb13 (by omega)
  clear o4_12
  have bP0_13 := bP0_12.below hb13 bP0_12.lt
  have lP0_13 := bP0_13.lt
  clear bP0_12 lP0_12
  have bs2_0_13 := bs2_0_12.below hb13 bs2_0_12.lt
  have ls2_0_13 := bs2_0_13.lt
  clear bs2_0_12 ls2_0_12
  have bx0_13 := bx0_12.below hb13 bx0_12.lt
  have lx0_13 := bx0_13.lt
  clear bx0_12 lx0_12
  have bi5_0_13 := bi5_0_12.below hb13 bi5_0_12.lt
  have li5_0_13 := bi5_0_13.lt
  clear bi5_0_12 li5_0_12
  have I0_13 := I0_12.below (Below.mono hb13 (by omega))
  clear I0_12
  have hT13 := hT12.trans (Below.mono hb13 (by omega))
  clear hT12
  clear hb13
  clear yi5_0_0 yi5_0_1 ys2_0_0 ys2_0_1
  obtain ⟨yi5_0_0, yi5_0_1, _, _⟩ := bi5_0_13.facts
  go_wp2_with fail
  refine (markBigInt_own w13 ((negZ s0 xs0).1) A4 (negZ s0 xs0).2.length c4 1 _ _ _ _ o4_13 (by omega) (by omega) (by omega)).mono ?_
  rintro e w14 ⟨he, p4, ha14⟩
  obtain ⟨K2, hK2⟩ : ∃ K : Nat, K = 1 + (negZ s0 xs0).2.length := ⟨_, rfl⟩
  have bK2 : K2 ≤ 4000010 := by omega
  rw [← hK2] at he
  subst he
  have HK2 := hide hK2
  clear hK2
  clear yi5_0_0 yi5_0_1
  have hs14 := ha14.size
  have o1_14 := o1_13.aside ha14 (by omega)
  clear o1_13
  have o3_14 := o3_13.aside ha14 (by omega)
  clear o3_13
  have bP0_14 := bP0_13.aside ha14 (by omega)
  have lP0_14 := bP0_14.lt
  clear bP0_13 lP0_13
  have bs2_0_14 := bs2_0_13.aside ha14 (by omega)
  have ls2_0_14 := bs2_0_14.lt
  clear bs2_0_13 ls2_0_13
  have bx0_14 := bx0_13.aside ha14 (by omega)
  have lx0_14 := bx0_14.lt
  clear bx0_13 lx0_13
  have bi5_0_14 := bi5_0_13.aside ha14 (by omega)
  have li5_0_14 := bi5_0_14.lt
  clear bi5_0_13 li5_0_13
  have I0_14 := I0_13.below (Aside.below ha14 (by omega) (by omega))
  clear I0_13
  have hT14 := hT13.trans (Aside.below ha14 (by omega) (by omega))
  clear hT13
  clear ha14
  have o4_14 := p4
  clear p4 o4_13
  obtain ⟨yi5_0_0, yi5_0_1, _, _⟩ := bi5_0_14.facts
  have hNK2 : ¬ (K2 : Int) < 0 := by omega
  go_wp2_with fail
  refine (heldBigInt_any w14 ((negZ s0 xs0).1) A4 (negZ s0 xs0).2.length c4 1 _ (Nat.le_refl _) o4_14.rd (by omega) (by omega)).mono ?_
  rintro e w15 ⟨he, hb15⟩
  rw [← HK2.out] at he
  subst he
  clear yi5_0_0 yi5_0_1
  have hs15 := hb15.size
  have o1_15 := o1_14.below hb15 (by omega)
  clear o1_14
  have o3_15 := o3_14.below hb15 (by omega)
  clear o3_14
  have o4_15 := o4_14.below hb15 (by omega)
  clear o4_14
  have bP0_15 := bP0_14.below hb15 bP0_14.lt
  have lP0_15 := bP0_15.lt
  clear bP0_14 lP0_14
  have bs2_0_15 := bs2_0_14.below hb15 bs2_0_14.lt
  have ls2_0_15 := bs2_0_15.lt
  clear bs2_0_14 ls2_0_14
  have bx0_15 := bx0_14.below hb15 bx0_14.lt
  have lx0_15 := bx0_15.lt
  clear bx0_14 lx0_14
  have bi5_0_15 := bi5_0_14.below hb15 bi5_0_14.lt
  have li5_0_15 := bi5_0_15.lt
  clear bi5_0_14 li5_0_14
  have I0_15 := I0_14.below (Below.mono hb15 (by omega))
  clear I0_14
  have hT15 := hT14.trans (Below.mono hb15 (by omega))
  clear hT14
  clear hb15
  obtain ⟨yP0_0, yP0_1, _, _⟩ := bP0_15.facts
  go_wp2_with fail
  refine (toBigInt_any w15 w.heap.size hT15.size s0 a0 len0 cap0 xs0 I0_15).mono ?_
  rintro e w16 ⟨g6, rfl, o6_16, hb16⟩
  have hs16 := hb16.size
  have o1_16 := o1_15.below hb16 (by omega)
  clear o1_15
  have o3_16 := o3_15.below hb16 (by omega)
  clear o3_15
  have o4_16 := o4_15.below hb16 (by omega)
  clear o4_15
  have bP0_16 := bP0_15.below hb16 bP0_15.lt
  have lP0_16 := bP0_16.lt
  clear bP0_15 lP0_15
  have bs2_0_16 := bs2_0_15.below hb16 bs2_0_15.lt
  have ls2_0_16 := bs2_0_16.lt
  clear bs2_0_15 ls2_0_15
  have bx0_16 := bx0_15.below hb16 bx0_15.lt
  have lx0_16 := bx0_16.lt
  clear bx0_15 lx0_15
  have bi5_0_16 := bi5_0_15.below hb16 bi5_0_15.lt
  have li5_0_16 := bi5_0_16.lt
  clear bi5_0_15 li5_0_15
  have I0_16 := I0_15.below (Below.mono hb16 (by omega))
  clear I0_15
  have hT16 := hT15.trans (Below.mono hb16 (by omega))
  clear hT15
  clear hb16
  clear yP0_0 yP0_1
  go_wp2_with fail
  refine (impl_BigIntNeg w16 w16.heap.size (Nat.le_refl _) s0 (some ⟨g6, 0, none⟩) len0 len0 xs0 (I0_16.at_ o6_16.rd)).mono ?_
  rintro e w17 ⟨v7, rfl, o7_17, hb17⟩
  obtain ⟨A7, c7, rfl⟩ := o7_17.form
  have hs17 := hb17.size
  have o1_17 := o1_16.below hb17 (by omega)
  clear o1_16
  have o3_17 := o3_16.below hb17 (by omega)
  clear o3_16
  have o4_17 := o4_16.below hb17 (by omega)
  clear o4_16
  clear o6_16
  have bP0_17 := bP0_16.below hb17 bP0_16.lt
  have lP0_17 := bP0_17.lt
  clear bP0_16 lP0_16
  have bs2_0_17 := bs2_0_16.below hb17 bs2_0_16.lt
  have ls2_0_17 := bs2_0_17.lt
  clear bs2_0_16 ls2_0_16
  have bx0_17 := bx0_16.below hb17 bx0_16.lt
  have lx0_17 := bx0_17.lt
  clear bx0_16 lx0_16
  have bi5_0_17 := bi5_0_16.below hb17 bi5_0_16.lt
  have li5_0_17 := bi5_0_17.lt
  clear bi5_0_16 li5_0_16
  have I0_17 := I0_16.below (Below.mono hb17 (by omega))
  clear I0_16
  have hT17 := hT16.trans (Below.mono hb17 (by omega))
  clear hT16
  clear hb17
  obtain ⟨w18, hw18⟩ : ∃ x, x = w17.alloc (.cells #[.bool (negZ s0 xs0).1, .slice A7 (negZ s0 xs0).2.length c7] 27) := ⟨_, rfl⟩
  have hb18 : Below w17.heap.size w17 w18 := by rw [hw18]; exact below_new _ _
  have hq18 : w17.heap.size < w18.heap.size := by rw [hw18, alloc_size]; omega
  have bn : Box w18 w17.heap.size 27 #[.bool (negZ s0 xs0).1, .slice A7 (negZ s0 xs0).2.length c7] := by rw [hw18]; exact Box.last _ _ _ rfl
  have hs18 := hb18.size
  have o1_18 := o1_17.below hb18 (by omega)
  clear o1_17
  have o3_18 := o3_17.below hb18 (by omega)
  clear o3_17
  have o4_18 := o4_17.below hb18 (by omega)
  clear o4_17
  have o7_18 := o7_17.below hb18 (by omega)
  clear o7_17
  have bP0_18 := bP0_17.below hb18 bP0_17.lt
  have lP0_18 := bP0_18.lt
  clear bP0_17 lP0_17
  have bs2_0_18 := bs2_0_17.below hb18 bs2_0_17.lt
  have ls2_0_18 := bs2_0_18.lt
  clear bs2_0_17 ls2_0_17
  have bx0_18 := bx0_17.below hb18 bx0_17.lt
  have lx0_18 := bx0_18.lt
  clear bx0_17 lx0_17
  have bi5_0_18 := bi5_0_17.below hb18 bi5_0_17.lt
  have li5_0_18 := bi5_0_18.lt
  clear bi5_0_17 li5_0_17
  have I0_18 := I0_17.below (Below.mono hb18 (by omega))
  clear I0_17
  have hT18 := hT17.trans (Below.mono hb18 (by omega))
  clear hT17
  have bi8_0_18 := bn
  have li8_0_18 := bi8_0_18.lt
  clear bn hb18 hs18
  go_upto_region 25 with fail
  rw [← hw18]
  clear hw18
  obtain ⟨yi8_0_0, yi8_0_1, _, _⟩ := bi8_0_18.facts
  obtain ⟨ys2_0_0, ys2_0_1, _, _⟩ := bs2_0_18.facts
  go_wp2_with fail
  refine (eqBigInt_any w18 w18.heap.size (Nat.le_refl _) (negZ s0 xs0).1 A7 A1 _ c7 c1 (negZ s0 xs0).2 rfl o7_18.rd o1_18.rd (by omega)).mono ?_
  rintro e w19 ⟨rfl, hb19⟩
  have hs19 := hb19.size
  have o1_19 := o1_18.below hb19 (by omega)
  clear o1_18
  have o3_19 := o3_18.below hb19 (by omega)
  clear o3_18
  have o4_19 := o4_18.below hb19 (by omega)
  clear o4_18
  have o7_19 := o7_18.below hb19 (by omega)
  clear o7_18
  have bP0_19 := bP0_18.below hb19 bP0_18.lt
  have lP0_19 := bP0_19.lt
  clear bP0_18 lP0_18
  have bs2_0_19 := bs2_0_18.below hb19 bs2_0_18.lt
  have ls2_0_19 := bs2_0_19.lt
  clear bs2_0_18 ls2_0_18
  have bx0_19 := bx0_18.below hb19 bx0_18.lt
  have lx0_19 := bx0_19.lt
  clear bx0_18 lx0_18
  have bi5_0_19 := bi5_0_18.below hb19 bi5_0_18.lt
  have li5_0_19 := bi5_0_19.lt
  clear bi5_0_18 li5_0_18
  have bi8_0_19 := bi8_0_18.below hb19 bi8_0_18.lt
  have li8_0_19 := bi8_0_19.lt
  clear bi8_0_18 li8_0_18
  have I0_19 := I0_18.below (Below.mono hb19 (by omega))
  clear I0_18
  have hT19 := hT18.trans (Below.mono hb19 (by omega))
  clear hT18
  clear hb19
  clear yi8_0_0 yi8_0_1 ys2_0_0 ys2_0_1
  obtain ⟨yi5_0_0, yi5_0_1, _, _⟩ := bi5_0_19.facts
  have hNK2 : ¬ (K2 : Int) < 0 := by omega
  go_wp2_with fail
  refine (heldBigInt_any w19 ((negZ s0 xs0).1) A4 (negZ s0 xs0).2.length c4 1 _ (Nat.le_refl _) o4_19.rd (by omega) (by omega)).mono ?_
  rintro e w20 ⟨he, hb20⟩
  rw [← HK2.out] at he
  subst he
  clear yi5_0_0 yi5_0_1
  have hs20 := hb20.size
  have o1_20 := o1_19.below hb20 (by omega)
  clear o1_19
  have o3_20 := o3_19.below hb20 (by omega)
  clear o3_19
  have o4_20 := o4_19.below hb20 (by omega)
  clear o4_19
  have o7_20 := o7_19.below hb20 (by omega)
  clear o7_19
  have bP0_20 := bP0_19.below hb20 bP0_19.lt
  have lP0_20 := bP0_20.lt
  clear bP0_19 lP0_19
  have bs2_0_20 := bs2_0_19.below hb20 bs2_0_19.lt
  have ls2_0_20 := bs2_0_20.lt
  clear bs2_0_19 ls2_0_19
  have bx0_20 := bx0_19.below hb20 bx0_19.lt
  have lx0_20 := bx0_20.lt
  clear bx0_19 lx0_19
  have bi5_0_20 := bi5_0_19.below hb20 bi5_0_19.lt
  have li5_0_20 := bi5_0_20.lt
  clear bi5_0_19 li5_0_19
  have bi8_0_20 := bi8_0_19.below hb20 bi8_0_19.lt
  have li8_0_20 := bi8_0_20.lt
  clear bi8_0_19 li8_0_19
  have I0_20 := I0_19.below (Below.mono hb20 (by omega))
  clear I0_19
  have hT20 := hT19.trans (Below.mono hb20 (by omega))
  clear hT19
  clear hb20
  go_wp2
  go_ret
  exact ⟨rfl, hT20⟩

set_option maxHeartbeats 8000000 in
set_option maxRecDepth 100000 in
theorem FnExactParseBigInt_walk (w : World) (a0 : ByteArray) (f0 : a0.size ≤ maxLen) :
    Calls Try.prog 11 #[.string a0] w fun e w' => e = .returned (.bool true) ∧ Below w.heap.size w w' := by
  have hm0 := f0
  unfold maxLen at hm0
  by_cases c0 : 1048576 < a0.size
  · go_enter Try.func11, Try.ntmps11
    go_wp2
    go_ret
    exact ⟨rfl, Below.refl _ _⟩
  have hn0 : a0.size ≤ 1048576 := by omega
  clear c0
  have hT0 : Below w.heap.size w w := Below.refl _ _
  go_enter Try.func11, Try.ntmps11
  have hL_0 : (parseZ a0).2.length ≤ 1048576 := parseZ_len a0
  go_wp2_with fail
  refine (spec_ParseBigInt w w.heap.size (Nat.le_refl _) a0 hn0).mono ?_
  rintro e w1 ⟨v0, rfl, o0_1, hb1⟩
  obtain ⟨A0, c0, rfl⟩ := o0_1.form
  have hs1 := hb1.size
  have hT1 := hT0.trans (Below.mono hb1 (by omega))
  clear hT0
  clear hb1
  obtain ⟨w2, hw2⟩ : ∃ x, x = w1.alloc (.cells #[.bool (parseZ a0).1, .slice A0 (parseZ a0).2.length c0] 27) := ⟨_, rfl⟩
  have hb2 : Below w1.heap.size w1 w2 := by rw [hw2]; exact below_new _ _
  have hq2 : w1.heap.size < w2.heap.size := by rw [hw2, alloc_size]; omega
  have bn : Box w2 w1.heap.size 27 #[.bool (parseZ a0).1, .slice A0 (parseZ a0).2.length c0] := by rw [hw2]; exact Box.last _ _ _ rfl
  have hs2 := hb2.size
  have o0_2 := o0_1.below hb2 (by omega)
  clear o0_1
  have hT2 := hT1.trans (Below.mono hb2 (by omega))
  clear hT1
  have bs1_0_2 := bn
  have ls1_0_2 := bs1_0_2.lt
  clear bn hb2 hs2
  go_upto_region 4 with fail
  rw [← hw2]
  clear hw2
  go_wp2_with fail
  refine (impl_ParseBigInt w2 w2.heap.size (Nat.le_refl _) a0 hn0).mono ?_
  rintro e w3 ⟨v2, rfl, o2_3, hb3⟩
  obtain ⟨A2, c2, rfl⟩ := o2_3.form
  have hs3 := hb3.size
  have o0_3 := o0_2.below hb3 (by omega)
  clear o0_2
  have bs1_0_3 := bs1_0_2.below hb3 bs1_0_2.lt
  have ls1_0_3 := bs1_0_3.lt
  clear bs1_0_2 ls1_0_2
  have hT3 := hT2.trans (Below.mono hb3 (by omega))
  clear hT2
  clear hb3
  obtain ⟨w4, hw4⟩ : ∃ x, x = w3.alloc (.cells #[.bool (parseZ a0).1, .slice A2 (parseZ a0).2.length c2] 27) := ⟨_, rfl⟩
  have hb4 : Below w3.heap.size w3 w4 := by rw [hw4]; exact below_new _ _
  have hq4 : w3.heap.size < w4.heap.size := by rw [hw4, alloc_size]; omega
  have bn : Box w4 w3.heap.size 27 #[.bool (parseZ a0).1, .slice A2 (parseZ a0).2.length c2] := by rw [hw4]; exact Box.last _ _ _ rfl
  have hs4 := hb4.size
  have o0_4 := o0_3.below hb4 (by omega)
  clear o0_3
  have o2_4 := o2_3.below hb4 (by omega)
  clear o2_3
  have bs1_0_4 := bs1_0_3.below hb4 bs1_0_3.lt
  have ls1_0_4 := bs1_0_4.lt
  clear bs1_0_3 ls1_0_3
  have hT4 := hT3.trans (Below.mono hb4 (by omega))
  clear hT3
  have bi3_0_4 := bn
  have li3_0_4 := bi3_0_4.lt
  clear bn hb4 hs4
  go_upto_region 5 with fail
  rw [← hw4]
  clear hw4
  obtain ⟨yi3_0_0, yi3_0_1, _, _⟩ := bi3_0_4.facts
  obtain ⟨ys1_0_0, ys1_0_1, _, _⟩ := bs1_0_4.facts
  go_wp2_with fail
  refine (eqBigInt_any w4 w4.heap.size (Nat.le_refl _) (parseZ a0).1 A2 A0 _ c2 c0 (parseZ a0).2 rfl o2_4.rd o0_4.rd (by omega)).mono ?_
  rintro e w5 ⟨rfl, hb5⟩
  have hs5 := hb5.size
  have o0_5 := o0_4.below hb5 (by omega)
  clear o0_4
  have o2_5 := o2_4.below hb5 (by omega)
  clear o2_4
  have bs1_0_5 := bs1_0_4.below hb5 bs1_0_4.lt
  have ls1_0_5 := bs1_0_5.lt
  clear bs1_0_4 ls1_0_4
  have bi3_0_5 := bi3_0_4.below hb5 bi3_0_4.lt
  have li3_0_5 := bi3_0_5.lt
  clear bi3_0_4 li3_0_4
  have hT5 := hT4.trans (Below.mono hb5 (by omega))
  clear hT4
  clear hb5
  clear yi3_0_0 yi3_0_1 ys1_0_0 ys1_0_1
  obtain ⟨yi3_0_0, yi3_0_1, _, _⟩ := bi3_0_5.facts
  go_wp2_with fail
  refine (markBigInt_own w5 ((parseZ a0).1) A2 (parseZ a0).2.length c2 1 _ _ _ _ o2_5 (by omega) (by omega) (by omega)).mono ?_
  rintro e w6 ⟨he, p2, ha6⟩
  obtain ⟨K1, hK1⟩ : ∃ K : Nat, K = 1 + (parseZ a0).2.length := ⟨_, rfl⟩
  have bK1 : K1 ≤ 2000010 := by omega
  rw [← hK1] at he
  subst he
  have HK1 := hide hK1
  clear hK1
  clear yi3_0_0 yi3_0_1
  have hs6 := ha6.size
  have o0_6 := o0_5.aside ha6 (by omega)
  clear o0_5
  have bs1_0_6 := bs1_0_5.aside ha6 (by omega)
  have ls1_0_6 := bs1_0_6.lt
  clear bs1_0_5 ls1_0_5
  have bi3_0_6 := bi3_0_5.aside ha6 (by omega)
  have li3_0_6 := bi3_0_6.lt
  clear bi3_0_5 li3_0_5
  have hT6 := hT5.trans (Aside.below ha6 (by omega) (by omega))
  clear hT5
  clear ha6
  have o2_6 := p2
  clear p2 o2_5
  obtain ⟨yi3_0_0, yi3_0_1, _, _⟩ := bi3_0_6.facts
  have hNK1 : ¬ (K1 : Int) < 0 := by omega
  go_wp2_with fail
  refine (heldBigInt_any w6 ((parseZ a0).1) A2 (parseZ a0).2.length c2 1 _ (Nat.le_refl _) o2_6.rd (by omega) (by omega)).mono ?_
  rintro e w7 ⟨he, hb7⟩
  rw [← HK1.out] at he
  subst he
  clear yi3_0_0 yi3_0_1
  have hs7 := hb7.size
  have o0_7 := o0_6.below hb7 (by omega)
  clear o0_6
  have o2_7 := o2_6.below hb7 (by omega)
  clear o2_6
  have bs1_0_7 := bs1_0_6.below hb7 bs1_0_6.lt
  have ls1_0_7 := bs1_0_7.lt
  clear bs1_0_6 ls1_0_6
  have bi3_0_7 := bi3_0_6.below hb7 bi3_0_6.lt
  have li3_0_7 := bi3_0_7.lt
  clear bi3_0_6 li3_0_6
  have hT7 := hT6.trans (Below.mono hb7 (by omega))
  clear hT6
  clear hb7
  go_wp2_with fail
  refine (impl_ParseBigInt w7 w7.heap.size (Nat.le_refl _) a0 hn0).mono ?_
  rintro e w8 ⟨v4, rfl, o4_8, hb8⟩
  obtain ⟨A4, c4, rfl⟩ := o4_8.form
  have hs8 := hb8.size
  have o0_8 := o0_7.below hb8 (by omega)
  clear o0_7
  have o2_8 := o2_7.below hb8 (by omega)
  clear o2_7
  have bs1_0_8 := bs1_0_7.below hb8 bs1_0_7.lt
  have ls1_0_8 := bs1_0_8.lt
  clear bs1_0_7 ls1_0_7
  have bi3_0_8 := bi3_0_7.below hb8 bi3_0_7.lt
  have li3_0_8 := bi3_0_8.lt
  clear bi3_0_7 li3_0_7
  have hT8 := hT7.trans (Below.mono hb8 (by omega))
  clear hT7
  clear hb8
  obtain ⟨w9, hw9⟩ : ∃ x, x = w8.alloc (.cells #[.bool (parseZ a0).1, .slice A4 (parseZ a0).2.length c4] 27) := ⟨_, rfl⟩
  have hb9 : Below w8.heap.size w8 w9 := by rw [hw9]; exact below_new _ _
  have hq9 : w8.heap.size < w9.heap.size := by rw [hw9, alloc_size]; omega
  have bn : Box w9 w8.heap.size 27 #[.bool (parseZ a0).1, .slice A4 (parseZ a0).2.length c4] := by rw [hw9]; exact Box.last _ _ _ rfl
  have hs9 := hb9.size
  have o0_9 := o0_8.below hb9 (by omega)
  clear o0_8
  have o2_9 := o2_8.below hb9 (by omega)
  clear o2_8
  have o4_9 := o4_8.below hb9 (by omega)
  clear o4_8
  have bs1_0_9 := bs1_0_8.below hb9 bs1_0_8.lt
  have ls1_0_9 := bs1_0_9.lt
  clear bs1_0_8 ls1_0_8
  have bi3_0_9 := bi3_0_8.below hb9 bi3_0_8.lt
  have li3_0_9 := bi3_0_9.lt
  clear bi3_0_8 li3_0_8
  have hT9 := hT8.trans (Below.mono hb9 (by omega))
  clear hT8
  have bi5_0_9 := bn
  have li5_0_9 := bi5_0_9.lt
  clear bn hb9 hs9
  go_upto_region 16 with fail
  rw [← hw9]
  clear hw9
  obtain ⟨yi5_0_0, yi5_0_1, _, _⟩ := bi5_0_9.facts
  obtain ⟨ys1_0_0, ys1_0_1, _, _⟩ := bs1_0_9.facts
  go_wp2_with fail
  refine (eqBigInt_any w9 w9.heap.size (Nat.le_refl _) (parseZ a0).1 A4 A0 _ c4 c0 (parseZ a0).2 rfl o4_9.rd o0_9.rd (by omega)).mono ?_
  rintro e w10 ⟨rfl, hb10⟩
  have hs10 := hb10.size
  have o0_10 := o0_9.below hb10 (by omega)
  clear o0_9
  have o2_10 := o2_9.below hb10 (by omega)
  clear o2_9
  have o4_10 := o4_9.below hb10 (by omega)
  clear o4_9
  have bs1_0_10 := bs1_0_9.below hb10 bs1_0_9.lt
  have ls1_0_10 := bs1_0_10.lt
  clear bs1_0_9 ls1_0_9
  have bi3_0_10 := bi3_0_9.below hb10 bi3_0_9.lt
  have li3_0_10 := bi3_0_10.lt
  clear bi3_0_9 li3_0_9
  have bi5_0_10 := bi5_0_9.below hb10 bi5_0_9.lt
  have li5_0_10 := bi5_0_10.lt
  clear bi5_0_9 li5_0_9
  have hT10 := hT9.trans (Below.mono hb10 (by omega))
  clear hT9
  clear hb10
  clear yi5_0_0 yi5_0_1 ys1_0_0 ys1_0_1
  obtain ⟨yi3_0_0, yi3_0_1, _, _⟩ := bi3_0_10.facts
  have hNK1 : ¬ (K1 : Int) < 0 := by omega
  go_wp2_with fail
  refine (heldBigInt_any w10 ((parseZ a0).1) A2 (parseZ a0).2.length c2 1 _ (Nat.le_refl _) o2_10.rd (by omega) (by omega)).mono ?_
  rintro e w11 ⟨he, hb11⟩
  rw [← HK1.out] at he
  subst he
  clear yi3_0_0 yi3_0_1
  have hs11 := hb11.size
  have o0_11 := o0_10.below hb11 (by omega)
  clear o0_10
  have o2_11 := o2_10.below hb11 (by omega)
  clear o2_10
  have o4_11 := o4_10.below hb11 (by omega)
  clear o4_10
  have bs1_0_11 := bs1_0_10.below hb11 bs1_0_10.lt
  have ls1_0_11 := bs1_0_11.lt
  clear bs1_0_10 ls1_0_10
  have bi3_0_11 := bi3_0_10.below hb11 bi3_0_10.lt
  have li3_0_11 := bi3_0_11.lt
  clear bi3_0_10 li3_0_10
  have bi5_0_11 := bi5_0_10.below hb11 bi5_0_10.lt
  have li5_0_11 := bi5_0_11.lt
  clear bi5_0_10 li5_0_10
  have hT11 := hT10.trans (Below.mono hb11 (by omega))
  clear hT10
  clear hb11
  go_wp2
  go_ret
  exact ⟨rfl, hT11⟩

set_option maxHeartbeats 8000000 in
set_option maxRecDepth 100000 in
theorem FnExactBigIntFloorDiv_walk (w : World) (s0 : Bool) (a0 : Option Addr) (len0 cap0 : Nat) (z0 : List Int) (f0 : IsRow .i64 w a0 len0 cap0 z0) (a1 : Option Addr) (len1 cap1 : Nat) (z1 : List Int) (f1 : IsRow .i64 w a1 len1 cap1 z1) :
    Calls Try.prog 12 #[.agg #[.bool s0, .slice a0 len0 cap0], .slice a1 len1 cap1] w fun e w' => e = .returned (.bool true) ∧ Below w.heap.size w w' := by
  have hm0 := f0.rd.2.2.1
  unfold maxLen at hm0
  have hm1 := f1.rd.2.2.1
  unfold maxLen at hm1
  by_cases c1 : 1048576 < len1
  · go_enter Try.func12, Try.ntmps12
    go_wp2
    go_ret
    exact ⟨rfl, below_new _ _⟩
  have hn1 : len1 ≤ 1048576 := by omega
  clear c1
  obtain ⟨w1, hw1⟩ : ∃ x, x = (w.alloc (.cells #[.bool s0, .slice a0 len0 cap0] 24)) := ⟨_, rfl⟩
  have hT1 : Below w.heap.size w w1 := by rw [hw1]; exact below_new _ _
  have bP0_1 : Box w1 (w.heap.size) 24 #[.bool s0, .slice a0 len0 cap0] := by rw [hw1]; exact Box.last _ _ _ rfl
  have lP0_1 := bP0_1.lt
  have lqP0 := bP0_1.lt
  have hs1 := hT1.size
  have hJ : ∀ W : World, Below w.heap.size w W → Below w.heap.size w W := fun _ h => h
  go_enter Try.func12, Try.ntmps12
  go_upto_region 1 with fail
  rw [← hw1]
  clear hw1 hJ
  obtain ⟨yP0_0, yP0_1, _, _⟩ := bP0_1.facts
  go_wp2_with fail
  refine (szBigInt_any w1 s0 a0 len0 cap0 1048576 (by omega) (by omega)).mono ?_
  rintro e w2 ⟨rfl, hb2⟩
  clear yP0_0 yP0_1
  have hs2 := hb2.size
  have bP0_2 := bP0_1.below hb2 bP0_1.lt
  have lP0_2 := bP0_2.lt
  clear bP0_1 lP0_1
  have hT2 := hT1.trans (Below.mono hb2 (by omega))
  clear hT1 hb2
  by_cases cz0 : ¬ len0 ≤ 1048576
  · have hle : leftI 1048576 len0 = -1 := if_neg cz0
    rw [hle]
    clear hle
    go_wp2_with fail
    go_ret
    exact ⟨rfl, hT2⟩
  have cz0 := Decidable.not_not.1 cz0
  obtain ⟨L0, hL0⟩ : ∃ L : Nat, L + len0 = 1048576 := ⟨1048576 - len0, by omega⟩
  have hle : leftI 1048576 len0 = (L0 : Int) := by rw [leftI, if_pos cz0]; omega
  rw [hle]
  clear hle
  have hng0 : ¬ (L0 : Int) < 0 := by omega
  have hn0 : len0 ≤ 1048576 := by omega
  have HLe0 := hide hL0
  have hLb0 : L0 ≤ 1048576 := by omega
  clear hL0
  obtain ⟨xs0, J0⟩ := f0.rdI hn0
  have I0_2 := J0.below hT2
  clear J0 f0
  obtain ⟨xs1, J1⟩ := f1.rdI hn1
  have I1_2 := J1.below hT2
  clear J1 f1
  have hL_0 : (floorZ s0 xs0 xs1).2.length ≤ 1048576 := floorZ_len s0 xs0 xs1
  have hL_1 : (restZ s0 xs0 xs1).length ≤ 1048576 := restZ_len s0 xs0 xs1
  obtain ⟨yP0_0, yP0_1, _, _⟩ := bP0_2.facts
  go_wp2_with fail
  refine (toBigInt_any w2 w.heap.size hT2.size s0 a0 len0 cap0 xs0 I0_2).mono ?_
  rintro e w3 ⟨g0, rfl, o0_3, hb3⟩
  have hs3 := hb3.size
  have bP0_3 := bP0_2.below hb3 bP0_2.lt
  have lP0_3 := bP0_3.lt
  clear bP0_2 lP0_2
  have I0_3 := I0_2.below (Below.mono hb3 (by omega))
  clear I0_2
  have I1_3 := I1_2.below (Below.mono hb3 (by omega))
  clear I1_2
  have hT3 := hT2.trans (Below.mono hb3 (by omega))
  clear hT2
  clear hb3
  clear yP0_0 yP0_1
  go_wp2_with fail
  refine (toIntS_any a1 len1 cap1 _ xs1 w3 I1_3.1 I1_3.2.1 hT3.size (by omega)).mono ?_
  rintro e w4 ⟨g1, rfl, q1, hb4⟩
  have o1_4 := Own.of q1
  clear q1
  have hs4 := hb4.size
  have o0_4 := o0_3.below hb4 (by omega)
  clear o0_3
  have bP0_4 := bP0_3.below hb4 bP0_3.lt
  have lP0_4 := bP0_4.lt
  clear bP0_3 lP0_3
  have I0_4 := I0_3.below (Below.mono hb4 (by omega))
  clear I0_3
  have I1_4 := I1_3.below (Below.mono hb4 (by omega))
  clear I1_3
  have hT4 := hT3.trans (Below.mono hb4 (by omega))
  clear hT3
  clear hb4
  go_wp2_with fail
  refine (spec_BigIntFloorDiv w4 w4.heap.size (Nat.le_refl _) s0 (some ⟨g0, 0, none⟩) len0 len0 xs0 (I0_4.at_ o0_4.rd) (some ⟨g1, 0, none⟩) len1 len1 xs1 (I1_4.at_ o1_4.rd)).mono ?_
  rintro e w5 ⟨v2, v3, rfl, ⟨lo2, hi2, lo3, hi3, o2_5, o3_5, hl2, hl3, hh2, hh3, hdis2⟩, hb5⟩
  obtain ⟨A2, c2, rfl⟩ := o2_5.form
  obtain ⟨A3, c3, rfl⟩ := o3_5.form
  have hs5 := hb5.size
  clear o0_4
  clear o1_4
  have bP0_5 := bP0_4.below hb5 bP0_4.lt
  have lP0_5 := bP0_5.lt
  clear bP0_4 lP0_4
  have I0_5 := I0_4.below (Below.mono hb5 (by omega))
  clear I0_4
  have I1_5 := I1_4.below (Below.mono hb5 (by omega))
  clear I1_4
  have hT5 := hT4.trans (Below.mono hb5 (by omega))
  clear hT4
  clear hb5
  obtain ⟨w6, hw6⟩ : ∃ x, x = w5.alloc (.cells #[.bool (floorZ s0 xs0 xs1).1, .slice A2 (floorZ s0 xs0 xs1).2.length c2] 27) := ⟨_, rfl⟩
  have hb6 : Below w5.heap.size w5 w6 := by rw [hw6]; exact below_new _ _
  have hq6 : w5.heap.size < w6.heap.size := by rw [hw6, alloc_size]; omega
  have bn : Box w6 w5.heap.size 27 #[.bool (floorZ s0 xs0 xs1).1, .slice A2 (floorZ s0 xs0 xs1).2.length c2] := by rw [hw6]; exact Box.last _ _ _ rfl
  have hs6 := hb6.size
  have o2_6 := o2_5.below hb6 (by omega)
  clear o2_5
  have o3_6 := o3_5.below hb6 (by omega)
  clear o3_5
  have bP0_6 := bP0_5.below hb6 bP0_5.lt
  have lP0_6 := bP0_6.lt
  clear bP0_5 lP0_5
  have I0_6 := I0_5.below (Below.mono hb6 (by omega))
  clear I0_5
  have I1_6 := I1_5.below (Below.mono hb6 (by omega))
  clear I1_5
  have hT6 := hT5.trans (Below.mono hb6 (by omega))
  clear hT5
  have bs4_0_6 := bn
  have ls4_0_6 := bs4_0_6.lt
  clear bn hb6 hs6
  go_upto_region 8 with fail
  rw [← hw6]
  clear hw6
  obtain ⟨yP0_0, yP0_1, _, _⟩ := bP0_6.facts
  go_wp2_with fail
  refine (toBigInt_any w6 w.heap.size hT6.size s0 a0 len0 cap0 xs0 I0_6).mono ?_
  rintro e w7 ⟨g5, rfl, o5_7, hb7⟩
  have hs7 := hb7.size
  have o2_7 := o2_6.below hb7 (by omega)
  clear o2_6
  have o3_7 := o3_6.below hb7 (by omega)
  clear o3_6
  have bP0_7 := bP0_6.below hb7 bP0_6.lt
  have lP0_7 := bP0_7.lt
  clear bP0_6 lP0_6
  have bs4_0_7 := bs4_0_6.below hb7 bs4_0_6.lt
  have ls4_0_7 := bs4_0_7.lt
  clear bs4_0_6 ls4_0_6
  have I0_7 := I0_6.below (Below.mono hb7 (by omega))
  clear I0_6
  have I1_7 := I1_6.below (Below.mono hb7 (by omega))
  clear I1_6
  have hT7 := hT6.trans (Below.mono hb7 (by omega))
  clear hT6
  clear hb7
  clear yP0_0 yP0_1
  obtain ⟨w8, hw8⟩ : ∃ x, x = w7.alloc (.cells #[.bool s0, .slice (some ⟨g5, 0, none⟩) len0 len0] 27) := ⟨_, rfl⟩
  have hb8 : Below w7.heap.size w7 w8 := by rw [hw8]; exact below_new _ _
  have hq8 : w7.heap.size < w8.heap.size := by rw [hw8, alloc_size]; omega
  have bn : Box w8 w7.heap.size 27 #[.bool s0, .slice (some ⟨g5, 0, none⟩) len0 len0] := by rw [hw8]; exact Box.last _ _ _ rfl
  have hs8 := hb8.size
  have o2_8 := o2_7.below hb8 (by omega)
  clear o2_7
  have o3_8 := o3_7.below hb8 (by omega)
  clear o3_7
  have o5_8 := o5_7.below hb8 (by omega)
  clear o5_7
  have bP0_8 := bP0_7.below hb8 bP0_7.lt
  have lP0_8 := bP0_8.lt
  clear bP0_7 lP0_7
  have bs4_0_8 := bs4_0_7.below hb8 bs4_0_7.lt
  have ls4_0_8 := bs4_0_8.lt
  clear bs4_0_7 ls4_0_7
  have I0_8 := I0_7.below (Below.mono hb8 (by omega))
  clear I0_7
  have I1_8 := I1_7.below (Below.mono hb8 (by omega))
  clear I1_7
  have hT8 := hT7.trans (Below.mono hb8 (by omega))
  clear hT7
  have bx0_8 := bn
  have lx0_8 := bx0_8.lt
  clear bn hb8 hs8
  go_upto_region 9 with fail
  rw [← hw8]
  clear hw8
  go_wp2_with fail
  refine (toIntS_any a1 len1 cap1 _ xs1 w8 I1_8.1 I1_8.2.1 hT8.size (by omega)).mono ?_
  rintro e w9 ⟨g6, rfl, q6, hb9⟩
  have o6_9 := Own.of q6
  clear q6
  have hs9 := hb9.size
  have o2_9 := o2_8.below hb9 (by omega)
  clear o2_8
  have o3_9 := o3_8.below hb9 (by omega)
  clear o3_8
  have o5_9 := o5_8.below hb9 (by omega)
  clear o5_8
  have bP0_9 := bP0_8.below hb9 bP0_8.lt
  have lP0_9 := bP0_9.lt
  clear bP0_8 lP0_8
  have bs4_0_9 := bs4_0_8.below hb9 bs4_0_8.lt
  have ls4_0_9 := bs4_0_9.lt
  clear bs4_0_8 ls4_0_8
  have bx0_9 := bx0_8.below hb9 bx0_8.lt
  have lx0_9 := bx0_9.lt
  clear bx0_8 lx0_8
  have I0_9 := I0_8.below (Below.mono hb9 (by omega))
  clear I0_8
  have I1_9 := I1_8.below (Below.mono hb9 (by omega))
  clear I1_8
  have hT9 := hT8.trans (Below.mono hb9 (by omega))
  clear hT8
  clear hb9
  obtain ⟨yx0_0, yx0_1, _, _⟩ := bx0_9.facts
  go_wp2_with fail
  refine (impl_BigIntFloorDiv w9 w9.heap.size (Nat.le_refl _) s0 (some ⟨g5, 0, none⟩) len0 len0 xs0 (I0_9.at_ o5_9.rd) (some ⟨g6, 0, none⟩) len1 len1 xs1 (I1_9.at_ o6_9.rd)).mono ?_
  rintro e w10 ⟨v7, v8, rfl, ⟨lo7, hi7, lo8, hi8, o7_10, o8_10, hl7, hl8, hh7, hh8, hdis7⟩, hb10⟩
  obtain ⟨A7, c7, rfl⟩ := o7_10.form
  obtain ⟨A8, c8, rfl⟩ := o8_10.form
  have hs10 := hb10.size
  have o2_10 := o2_9.below hb10 (by omega)
  clear o2_9
  have o3_10 := o3_9.below hb10 (by omega)
  clear o3_9
  have o5_10 := o5_9.below hb10 (by omega)
  clear o5_9
  have o6_10 := o6_9.below hb10 (by omega)
  clear o6_9
  have bP0_10 := bP0_9.below hb10 bP0_9.lt
  have lP0_10 := bP0_10.lt
  clear bP0_9 lP0_9
  have bs4_0_10 := bs4_0_9.below hb10 bs4_0_9.lt
  have ls4_0_10 := bs4_0_10.lt
  clear bs4_0_9 ls4_0_9
  have bx0_10 := bx0_9.below hb10 bx0_9.lt
  have lx0_10 := bx0_10.lt
  clear bx0_9 lx0_9
  have I0_10 := I0_9.below (Below.mono hb10 (by omega))
  clear I0_9
  have I1_10 := I1_9.below (Below.mono hb10 (by omega))
  clear I1_9
  have hT10 := hT9.trans (Below.mono hb10 (by omega))
  clear hT9
  clear hb10
  clear yx0_0 yx0_1
  obtain ⟨w11, hw11⟩ : ∃ x, x = w10.alloc (.cells #[.bool (floorZ s0 xs0 xs1).1, .slice A7 (floorZ s0 xs0 xs1).2.length c7] 27) := ⟨_, rfl⟩
  have hb11 : Below w10.heap.size w10 w11 := by rw [hw11]; exact below_new _ _
  have hq11 : w10.heap.size < w11.heap.size := by rw [hw11, alloc_size]; omega
  have bn : Box w11 w10.heap.size 27 #[.bool (floorZ s0 xs0 xs1).1, .slice A7 (floorZ s0 xs0 xs1).2.length c7] := by rw [hw11]; exact Box.last _ _ _ rfl
  have hs11 := hb11.size
  have o2_11 := o2_10.below hb11 (by omega)
  clear o2_10
  have o3_11 := o3_10.below hb11 (by omega)
  clear o3_10
  have o5_11 := o5_10.below hb11 (by omega)
  clear o5_10
  have o6_11 := o6_10.below hb11 (by omega)
  clear o6_10
  have o7_11 := o7_10.below hb11 (by omega)
  clear o7_10
  have o8_11 := o8_10.below hb11 (by omega)
  clear o8_10
  have bP0_11 := bP0_10.below hb11 bP0_10.lt
  have lP0_11 := bP0_11.lt
  clear bP0_10 lP0_10
  have bs4_0_11 := bs4_0_10.below hb11 bs4_0_10.lt
  have ls4_0_11 := bs4_0_11.lt
  clear bs4_0_10 ls4_0_10
  have bx0_11 := bx0_10.below hb11 bx0_10.lt
  have lx0_11 := bx0_11.lt
  clear bx0_10 lx0_10
  have I0_11 := I0_10.below (Below.mono hb11 (by omega))
  clear I0_10
  have I1_11 := I1_10.below (Below.mono hb11 (by omega))
  clear I1_10
  have hT11 := hT10.trans (Below.mono hb11 (by omega))
  clear hT10
  have bi9_0_11 := bn
  have li9_0_11 := bi9_0_11.lt
  clear bn hb11 hs11
  go_upto_region 11 with fail
  rw [← hw11]
  clear hw11
  obtain ⟨yi9_0_0, yi9_0_1, _, _⟩ := bi9_0_11.facts
  obtain ⟨ys4_0_0, ys4_0_1, _, _⟩ := bs4_0_11.facts
  go_wp2_with fail
  refine (eqBigInt_any w11 w11.heap.size (Nat.le_refl _) (floorZ s0 xs0 xs1).1 A7 A2 _ c7 c2 (floorZ s0 xs0 xs1).2 rfl o7_11.rd o2_11.rd (by omega)).mono ?_
  rintro e w12 ⟨rfl, hb12⟩
  have hs12 := hb12.size
  have o2_12 := o2_11.below hb12 (by omega)
  clear o2_11
  have o3_12 := o3_11.below hb12 (by omega)
  clear o3_11
  have o5_12 := o5_11.below hb12 (by omega)
  clear o5_11
  have o6_12 := o6_11.below hb12 (by omega)
  clear o6_11
  have o7_12 := o7_11.below hb12 (by omega)
  clear o7_11
  have o8_12 := o8_11.below hb12 (by omega)
  clear o8_11
  have bP0_12 := bP0_11.below hb12 bP0_11.lt
  have lP0_12 := bP0_12.lt
  clear bP0_11 lP0_11
  have bs4_0_12 := bs4_0_11.below hb12 bs4_0_11.lt
  have ls4_0_12 := bs4_0_12.lt
  clear bs4_0_11 ls4_0_11
  have bx0_12 := bx0_11.below hb12 bx0_11.lt
  have lx0_12 := bx0_12.lt
  clear bx0_11 lx0_11
  have bi9_0_12 := bi9_0_11.below hb12 bi9_0_11.lt
  have li9_0_12 := bi9_0_12.lt
  clear bi9_0_11 li9_0_11
  have I0_12 := I0_11.below (Below.mono hb12 (by omega))
  clear I0_11
  have I1_12 := I1_11.below (Below.mono hb12 (by omega))
  clear I1_11
  have hT12 := hT11.trans (Below.mono hb12 (by omega))
  clear hT11
  clear hb12
  clear yi9_0_0 yi9_0_1 ys4_0_0 ys4_0_1
  go_wp2_with fail
  refine (eqIntS_below A8 A3 (restZ s0 xs0 xs1).length (restZ s0 xs0 xs1).length c8 c3 (restZ s0 xs0 xs1) (restZ s0 xs0 xs1) _ w12 rfl rfl o8_12.rd o3_12.rd (by unfold maxLen; omega) (by unfold maxLen; omega) true (decide_eq_true rfl)).mono ?_
  rintro e w13 ⟨rfl, hb13⟩
  have hs13 := hb13.size
  have o2_13 := o2_12.below hb13 (by omega)
  clear o2_12
  have o3_13 := o3_12.below hb13 (by omega)
  clear o3_12
  have o5_13 := o5_12.below hb13 (by omega)
  clear o5_12
  have o6_13 := o6_12.below hb13 (by omega)
  clear o6_12
  have o7_13 := o7_12.below hb13 (by omega)
  clear o7_12
  have o8_13 := o8_12.below hb13 (by omega)
  clear o8_12
  have bP0_13 := bP0_12.below hb13 bP0_12.lt
  have lP0_13 := bP0_13.lt
  clear bP0_12 lP0_12
  have bs4_0_13 := bs4_0_12.below hb13 bs4_0_12.lt
  have ls4_0_13 := bs4_0_13.lt
  clear bs4_0_12 ls4_0_12
  have bx0_13 := bx0_12.below hb13 bx0_12.lt
  have lx0_13 := bx0_13.lt
  clear bx0_12 lx0_12
  have bi9_0_13 := bi9_0_12.below hb13 bi9_0_12.lt
  have li9_0_13 := bi9_0_13.lt
  clear bi9_0_12 li9_0_12
  have I0_13 := I0_12.below (Below.mono hb13 (by omega))
  clear I0_12
  have I1_13 := I1_12.below (Below.mono hb13 (by omega))
  clear I1_12
  have hT13 := hT12.trans (Below.mono hb13 (by omega))
  clear hT12
  clear hb13
  go_upto_region 13 with fail
  obtain ⟨yP0_0, yP0_1, _, _⟩ := bP0_13.facts
  obtain ⟨yx0_0, yx0_1, _, _⟩ := bx0_13.facts
  have HPi := hide bP0_13
  have HPj := hide bx0_13
  have HKS := hide (fun (W : World) (hq : Below w13.heap.size w13 W) => (⟨(HPj.out.below hq HPj.out.lt).cell 0, (HPj.out.below hq HPj.out.lt).cell 1, (HPi.out.below hq HPi.out.lt).cell 0, (HPi.out.below hq HPi.out.lt).cell 1⟩ : W.cell? ⟨w7.heap.size, 0, none⟩ = some (.bool s0) ∧ W.cell? ⟨w7.heap.size, 1, none⟩ = some (.slice (some ⟨g5, 0, none⟩) len0 len0) ∧ W.cell? ⟨w.heap.size, 0, none⟩ = some (.bool s0) ∧ W.cell? ⟨w.heap.size, 1, none⟩ = some (.slice a0 len0 cap0)))
  have HCi := hide (fun (W : World) (hq : Below w13.heap.size w13 W) => toBigInt_any W w.heap.size (by have := hT13.size; have := hq.size; omega) s0 a0 len0 cap0 xs0 (I0_13.below (hq.mono hT13.size)))
  have HF := hide (fun (W : World) (p : Nat) (hq : Below w13.heap.size w13 W) (r : Rd W W.heap.size (some ⟨p, 0, none⟩) (iv xs0)) => eqBigInt_any W W.heap.size (Nat.le_refl _) s0 (some ⟨g5, 0, none⟩) (some ⟨p, 0, none⟩) len0 len0 len0 xs0 I0_13.1 (o5_13.below hq (by omega)).rd r (by omega))
  have HS0 : Hid (Below w13.heap.size w13 w13.drew) := (Below.refl _ _).drew
  go_region_held3 (fun w' => w'.cell? ⟨w7.heap.size, 0, none⟩ = some (.bool s0) ∧ w'.cell? ⟨w7.heap.size, 1, none⟩ = some (.slice (some ⟨g5, 0, none⟩) len0 len0) ∧ w'.cell? ⟨w.heap.size, 0, none⟩ = some (.bool s0) ∧ w'.cell? ⟨w.heap.size, 1, none⟩ = some (.slice a0 len0 cap0))
      (first | (with_reducible exact HKS.out _ HS2.out) | (with_reducible exact HKS.out _ HS1.out) | (with_reducible exact HKS.out _ HS0.out))
      (first
        | (go_at_call 15; refine (HCi.out _ HS0.out).mono ?_; rintro e u1 ⟨p1, rfl, e1, hb1⟩; have HS1 := hide (below_then HS0.out hb1))
        | (go_at_call 17; refine (HF.out _ _ HS1.out e1.rd).mono ?_; rintro e u2 ⟨rfl, hb2⟩; have HS2 := hide (below_then HS1.out hb2)))
  have hb14 := HS2.out
  obtain ⟨w14, hw14⟩ : ∃ x, x = u2 := ⟨_, rfl⟩
  subst hw14
  clear HKS HCi HF HS0 HPi HPj HS1 HS2 hb1 hb2 e1
  clear yP0_0 yP0_1 yx0_0 yx0_1
  have hs14 := hb14.size
  have o2_14 := o2_13.below hb14 (by omega)
  clear o2_13
  have o3_14 := o3_13.below hb14 (by omega)
  clear o3_13
  have o5_14 := o5_13.below hb14 (by omega)
  clear o5_13
  have o6_14 := o6_13.below hb14 (by omega)
  clear o6_13
  have o7_14 := o7_13.below hb14 (by omega)
  clear o7_13
  have o8_14 := o8_13.below hb14 (by omega)
  clear o8_13
  have bP0_14 := bP0_13.below hb14 bP0_13.lt
  have lP0_14 := bP0_14.lt
  clear bP0_13 lP0_13
  have bs4_0_14 := bs4_0_13.below hb14 bs4_0_13.lt
  have ls4_0_14 := bs4_0_14.lt
  clear bs4_0_13 ls4_0_13
  have bx0_14 := bx0_13.below hb14 bx0_13.lt
  have lx0_14 := bx0_14.lt
  clear bx0_13 lx0_13
  have bi9_0_14 := bi9_0_13.below hb14 bi9_0_13.lt
  have li9_0_14 := bi9_0_14.lt
  clear bi9_0_13 li9_0_13
  have I0_14 := I0_13.below (Below.mono hb14 (by omega))
  clear I0_13
  have I1_14 := I1_13.below (Below.mono hb14 (by omega))
  clear I1_13
  have hT14 := hT13.trans (Below.mono hb14 (by omega))
  clear hT13
  clear hb14
  go_wp2_with fail
  refine (toIntS_any a1 len1 cap1 _ xs1 w14 I1_14.1 I1_14.2.1 hT14.size (by omega)).mono ?_
  rintro e w15 ⟨g10, rfl, q10, hb15⟩
  have o10_15 := Own.of q10
  clear q10
  have hs15 := hb15.size
  have o2_15 := o2_14.below hb15 (by omega)
  clear o2_14
  have o3_15 := o3_14.below hb15 (by omega)
  clear o3_14
  have o5_15 := o5_14.below hb15 (by omega)
  clear o5_14
  have o6_15 := o6_14.below hb15 (by omega)
  clear o6_14
  have o7_15 := o7_14.below hb15 (by omega)
  clear o7_14
  have o8_15 := o8_14.below hb15 (by omega)
  clear o8_14
  have bP0_15 := bP0_14.below hb15 bP0_14.lt
  have lP0_15 := bP0_15.lt
  clear bP0_14 lP0_14
  have bs4_0_15 := bs4_0_14.below hb15 bs4_0_14.lt
  have ls4_0_15 := bs4_0_15.lt
  clear bs4_0_14 ls4_0_14
  have bx0_15 := bx0_14.below hb15 bx0_14.lt
  have lx0_15 := bx0_15.lt
  clear bx0_14 lx0_14
  have bi9_0_15 := bi9_0_14.below hb15 bi9_0_14.lt
  have li9_0_15 := bi9_0_15.lt
  clear bi9_0_14 li9_0_14
  have I0_15 := I0_14.below (Below.mono hb15 (by omega))
  clear I0_14
  have I1_15 := I1_14.below (Below.mono hb15 (by omega))
  clear I1_14
  have hT15 := hT14.trans (Below.mono hb15 (by omega))
  clear hT14
  clear hb15
  go_wp2_with fail
  refine (eqIntS_below (some ⟨g6, 0, none⟩) (some ⟨g10, 0, none⟩) len1 len1 len1 len1 xs1 xs1 _ w15 I1_15.1 I1_15.1 o6_15.rd o10_15.rd (by unfold maxLen; omega) (by unfold maxLen; omega) true (decide_eq_true rfl)).mono ?_
  rintro e w16 ⟨rfl, hb16⟩
  have hs16 := hb16.size
  have o2_16 := o2_15.below hb16 (by omega)
  clear o2_15
  have o3_16 := o3_15.below hb16 (by omega)
  clear o3_15
  have o5_16 := o5_15.below hb16 (by omega)
  clear o5_15
  have o6_16 := o6_15.below hb16 (by omega)
  clear o6_15
  have o7_16 := o7_15.below hb16 (by omega)
  clear o7_15
  have o8_16 := o8_15.below hb16 (by omega)
  clear o8_15
  clear o10_15
  have bP0_16 := bP0_15.below hb16 bP0_15.lt
  have lP0_16 := bP0_16.lt
  clear bP0_15 lP0_15
  have bs4_0_16 := bs4_0_15.below hb16 bs4_0_15.lt
  have ls4_0_16 := bs4_0_16.lt
  clear bs4_0_15 ls4_0_15
  have bx0_16 := bx0_15.below hb16 bx0_15.lt
  have lx0_16 := bx0_16.lt
  clear bx0_15 lx0_15
  have bi9_0_16 := bi9_0_15.below hb16 bi9_0_15.lt
  have li9_0_16 := bi9_0_16.lt
  clear bi9_0_15 li9_0_15
  have I0_16 := I0_15.below (Below.mono hb16 (by omega))
  clear I0_15
  have I1_16 := I1_15.below (Below.mono hb16 (by omega))
  clear I1_15
  have hT16 := hT15.trans (Below.mono hb16 (by omega))
  clear hT15
  clear hb16
  obtain ⟨yx0_0, yx0_1, _, _⟩ := bx0_16.facts
  go_wp2_with fail
  refine (markBigInt_own w16 (s0) (some ⟨g5, 0, none⟩) len0 len0 1 _ _ _ _ o5_16 (by omega) (by omega) (by omega)).mono ?_
  rintro e w17 ⟨he, p5, ha17⟩
  obtain ⟨K1, hK1⟩ : ∃ K : Nat, K = 1 + len0 := ⟨_, rfl⟩
  have bK1 : K1 ≤ 2000010 := by omega
  rw [← hK1] at he
  subst he
  have HK1 := hide hK1
  clear hK1
  clear yx0_0 yx0_1
  have hs17 := ha17.size
  have o2_17 := o2_16.aside ha17 (by omega)
  clear o2_16
  have o3_17 := o3_16.aside ha17 (by omega)
  clear o3_16
  have o6_17 := o6_16.aside ha17 (by omega)
  clear o6_16
  have o7_17 := o7_16.aside ha17 (by omega)
  clear o7_16
  have o8_17 := o8_16.aside ha17 (by omega)
  clear o8_16
  have bP0_17 := bP0_16.aside ha17 (by omega)
  have lP0_17 := bP0_17.lt
  clear bP0_16 lP0_16
  have bs4_0_17 := bs4_0_16.aside ha17 (by omega)
  have ls4_0_17 := bs4_0_17.lt
  clear bs4_0_16 ls4_0_16
  have bx0_17 := bx0_16.aside ha17 (by omega)
  have lx0_17 := bx0_17.lt
  clear bx0_16 lx0_16
  have bi9_0_17 := bi9_0_16.aside ha17 (by omega)
  have li9_0_17 := bi9_0_17.lt
  clear bi9_0_16 li9_0_16
  have I0_17 := I0_16.below (Aside.below ha17 (by omega) (by omega))
  clear I0_16
  have I1_17 := I1_16.below (Aside.below ha17 (by omega) (by omega))
  clear I1_16
  have hT17 := hT16.trans (Aside.below ha17 (by omega) (by omega))
  clear hT16
  clear ha17
  have o5_17 := p5
  clear p5 o5_16
  go_wp2_with fail
  refine (markIntS_own (.slice (some ⟨g6, 0, none⟩) len1 len1) len1 K1 _ _ _ _ w17 o6_17 (by omega) (by omega)).mono ?_
  rintro e w18 ⟨he, p6, ha18⟩
  obtain ⟨K2, hK2⟩ : ∃ K : Nat, K = K1 + len1 := ⟨_, rfl⟩
  have bK2 : K2 ≤ 4000010 := by omega
  rw [← hK2] at he
  subst he
  have HK2 := hide hK2
  clear hK2
  have hs18 := ha18.size
  have o2_18 := o2_17.aside ha18 (by omega)
  clear o2_17
  have o3_18 := o3_17.aside ha18 (by omega)
  clear o3_17
  have o5_18 := o5_17.aside ha18 (by omega)
  clear o5_17
  have o7_18 := o7_17.aside ha18 (by omega)
  clear o7_17
  have o8_18 := o8_17.aside ha18 (by omega)
  clear o8_17
  have bP0_18 := bP0_17.aside ha18 (by omega)
  have lP0_18 := bP0_18.lt
  clear bP0_17 lP0_17
  have bs4_0_18 := bs4_0_17.aside ha18 (by omega)
  have ls4_0_18 := bs4_0_18.lt
  clear bs4_0_17 ls4_0_17
  have bx0_18 := bx0_17.aside ha18 (by omega)
  have lx0_18 := bx0_18.lt
  clear bx0_17 lx0_17
  have bi9_0_18 := bi9_0_17.aside ha18 (by omega)
  have li9_0_18 := bi9_0_18.lt
  clear bi9_0_17 li9_0_17
  have I0_18 := I0_17.below (Aside.below ha18 (by omega) (by omega))
  clear I0_17
  have I1_18 := I1_17.below (Aside.below ha18 (by omega) (by omega))
  clear I1_17
  have hT18 := hT17.trans (Aside.below ha18 (by omega) (by omega))
  clear hT17
  clear ha18
  have o6_18 := p6
  clear p6 o6_17
  have hnk : ¬ (K2 : Int) < 0 := by omega
  obtain ⟨yi9_0_0, yi9_0_1, _, _⟩ := bi9_0_18.facts
  obtain ⟨ys4_0_0, ys4_0_1, _, _⟩ := bs4_0_18.facts
  go_wp2_with fail
  refine (eqBigInt_any w18 w18.heap.size (Nat.le_refl _) (floorZ s0 xs0 xs1).1 A7 A2 _ c7 c2 (floorZ s0 xs0 xs1).2 rfl o7_18.rd o2_18.rd (by omega)).mono ?_
  rintro e w19 ⟨rfl, hb19⟩
  have hs19 := hb19.size
  have o2_19 := o2_18.below hb19 (by omega)
  clear o2_18
  have o3_19 := o3_18.below hb19 (by omega)
  clear o3_18
  have o5_19 := o5_18.below hb19 (by omega)
  clear o5_18
  have o6_19 := o6_18.below hb19 (by omega)
  clear o6_18
  have o7_19 := o7_18.below hb19 (by omega)
  clear o7_18
  have o8_19 := o8_18.below hb19 (by omega)
  clear o8_18
  have bP0_19 := bP0_18.below hb19 bP0_18.lt
  have lP0_19 := bP0_19.lt
  clear bP0_18 lP0_18
  have bs4_0_19 := bs4_0_18.below hb19 bs4_0_18.lt
  have ls4_0_19 := bs4_0_19.lt
  clear bs4_0_18 ls4_0_18
  have bx0_19 := bx0_18.below hb19 bx0_18.lt
  have lx0_19 := bx0_19.lt
  clear bx0_18 lx0_18
  have bi9_0_19 := bi9_0_18.below hb19 bi9_0_18.lt
  have li9_0_19 := bi9_0_19.lt
  clear bi9_0_18 li9_0_18
  have I0_19 := I0_18.below (Below.mono hb19 (by omega))
  clear I0_18
  have I1_19 := I1_18.below (Below.mono hb19 (by omega))
  clear I1_18
  have hT19 := hT18.trans (Below.mono hb19 (by omega))
  clear hT18
  clear hb19
  clear yi9_0_0 yi9_0_1 ys4_0_0 ys4_0_1
  go_wp2_with fail
  refine (eqIntS_below A8 A3 (restZ s0 xs0 xs1).length (restZ s0 xs0 xs1).length c8 c3 (restZ s0 xs0 xs1) (restZ s0 xs0 xs1) _ w19 rfl rfl o8_19.rd o3_19.rd (by unfold maxLen; omega) (by unfold maxLen; omega) true (decide_eq_true rfl)).mono ?_
  rintro e w20 ⟨rfl, hb20⟩
  have hs20 := hb20.size
  have o2_20 := o2_19.below hb20 (by omega)
  clear o2_19
  have o3_20 := o3_19.below hb20 (by omega)
  clear o3_19
  have o5_20 := o5_19.below hb20 (by omega)
  clear o5_19
  have o6_20 := o6_19.below hb20 (by omega)
  clear o6_19
  have o7_20 := o7_19.below hb20 (by omega)
  clear o7_19
  have o8_20 := o8_19.below hb20 (by omega)
  clear o8_19
  have bP0_20 := bP0_19.below hb20 bP0_19.lt
  have lP0_20 := bP0_20.lt
  clear bP0_19 lP0_19
  have bs4_0_20 := bs4_0_19.below hb20 bs4_0_19.lt
  have ls4_0_20 := bs4_0_20.lt
  clear bs4_0_19 ls4_0_19
  have bx0_20 := bx0_19.below hb20 bx0_19.lt
  have lx0_20 := bx0_20.lt
  clear bx0_19 lx0_19
  have bi9_0_20 := bi9_0_19.below hb20 bi9_0_19.lt
  have li9_0_20 := bi9_0_20.lt
  clear bi9_0_19 li9_0_19
  have I0_20 := I0_19.below (Below.mono hb20 (by omega))
  clear I0_19
  have I1_20 := I1_19.below (Below.mono hb20 (by omega))
  clear I1_19
  have hT20 := hT19.trans (Below.mono hb20 (by omega))
  clear hT19
  clear hb20
  obtain ⟨yi9_0_0, yi9_0_1, _, _⟩ := bi9_0_20.facts
  go_wp2_with fail
  refine (markBigInt_own w20 ((floorZ s0 xs0 xs1).1) A7 (floorZ s0 xs0 xs1).2.length c7 1 _ _ _ _ o7_20 (by omega) (by omega) (by omega)).mono ?_
  rintro e w21 ⟨he, p7, ha21⟩
  obtain ⟨K3, hK3⟩ : ∃ K : Nat, K = 1 + (floorZ s0 xs0 xs1).2.length := ⟨_, rfl⟩
  have bK3 : K3 ≤ 6000010 := by omega
  rw [← hK3] at he
  subst he
  have HK3 := hide hK3
  clear hK3
  clear yi9_0_0 yi9_0_1
  have hs21 := ha21.size
  have o2_21 := o2_20.aside ha21 (by omega)
  clear o2_20
  have o3_21 := o3_20.aside ha21 (by omega)
  clear o3_20
  have o5_21 := o5_20.aside ha21 (by omega)
  clear o5_20
  have o6_21 := o6_20.aside ha21 (by omega)
  clear o6_20
  have o8_21 := o8_20.aside ha21 (by omega)
  clear o8_20
  have bP0_21 := bP0_20.aside ha21 (by omega)
  have lP0_21 := bP0_21.lt
  clear bP0_20 lP0_20
  have bs4_0_21 := bs4_0_20.aside ha21 (by omega)
  have ls4_0_21 := bs4_0_21.lt
  clear bs4_0_20 ls4_0_20
  have bx0_21 := bx0_20.aside ha21 (by omega)
  have lx0_21 := bx0_21.lt
  clear bx0_20 lx0_20
  have bi9_0_21 := bi9_0_20.aside ha21 (by omega)
  have li9_0_21 := bi9_0_21.lt
  clear bi9_0_20 li9_0_20
  have I0_21 := I0_20.below (Aside.below ha21 (by omega) (by omega))
  clear I0_20
  have I1_21 := I1_20.below (Aside.below ha21 (by omega) (by omega))
  clear I1_20
  have hT21 := hT20.trans (Aside.below ha21 (by omega) (by omega))
  clear hT20
  clear ha21
  have o7_21 := p7
  clear p7 o7_20
  go_wp2_with fail
  refine (markIntS_own (.slice A8 (restZ s0 xs0 xs1).length c8) (restZ s0 xs0 xs1).length K3 _ _ _ _ w21 o8_21 (by omega) (by omega)).mono ?_
  rintro e w22 ⟨he, p8, ha22⟩
  obtain ⟨K4, hK4⟩ : ∃ K : Nat, K = K3 + (restZ s0 xs0 xs1).length := ⟨_, rfl⟩
  have bK4 : K4 ≤ 8000010 := by omega
  rw [← hK4] at he
  subst he
  have HK4 := hide hK4
  clear hK4
  have hs22 := ha22.size
  have o2_22 := o2_21.aside ha22 (by omega)
  clear o2_21
  have o3_22 := o3_21.aside ha22 (by omega)
  clear o3_21
  have o5_22 := o5_21.aside ha22 (by omega)
  clear o5_21
  have o6_22 := o6_21.aside ha22 (by omega)
  clear o6_21
  have o7_22 := o7_21.aside ha22 (by omega)
  clear o7_21
  have bP0_22 := bP0_21.aside ha22 (by omega)
  have lP0_22 := bP0_22.lt
  clear bP0_21 lP0_21
  have bs4_0_22 := bs4_0_21.aside ha22 (by omega)
  have ls4_0_22 := bs4_0_22.lt
  clear bs4_0_21 ls4_0_21
  have bx0_22 := bx0_21.aside ha22 (by omega)
  have lx0_22 := bx0_22.lt
  clear bx0_21 lx0_21
  have bi9_0_22 := bi9_0_21.aside ha22 (by omega)
  have li9_0_22 := bi9_0_22.lt
  clear bi9_0_21 li9_0_21
  have I0_22 := I0_21.below (Aside.below ha22 (by omega) (by omega))
  clear I0_21
  have I1_22 := I1_21.below (Aside.below ha22 (by omega) (by omega))
  clear I1_21
  have hT22 := hT21.trans (Aside.below ha22 (by omega) (by omega))
  clear hT21
  clear ha22
  have o8_22 := p8
  clear p8 o8_21
  obtain ⟨yi9_0_0, yi9_0_1, _, _⟩ := bi9_0_22.facts
  have hNK3 : ¬ (K3 : Int) < 0 := by omega
  go_wp2_with fail
  refine (heldBigInt_any w22 ((floorZ s0 xs0 xs1).1) A7 (floorZ s0 xs0 xs1).2.length c7 1 _ (Nat.le_refl _) o7_22.rd (by omega) (by omega)).mono ?_
  rintro e w23 ⟨he, hb23⟩
  rw [← HK3.out] at he
  subst he
  clear yi9_0_0 yi9_0_1
  have hs23 := hb23.size
  have o2_23 := o2_22.below hb23 (by omega)
  clear o2_22
  have o3_23 := o3_22.below hb23 (by omega)
  clear o3_22
  have o5_23 := o5_22.below hb23 (by omega)
  clear o5_22
  have o6_23 := o6_22.below hb23 (by omega)
  clear o6_22
  have o7_23 := o7_22.below hb23 (by omega)
  clear o7_22
  have o8_23 := o8_22.below hb23 (by omega)
  clear o8_22
  have bP0_23 := bP0_22.below hb23 bP0_22.lt
  have lP0_23 := bP0_23.lt
  clear bP0_22 lP0_22
  have bs4_0_23 := bs4_0_22.below hb23 bs4_0_22.lt
  have ls4_0_23 := bs4_0_23.lt
  clear bs4_0_22 ls4_0_22
  have bx0_23 := bx0_22.below hb23 bx0_22.lt
  have lx0_23 := bx0_23.lt
  clear bx0_22 lx0_22
  have bi9_0_23 := bi9_0_22.below hb23 bi9_0_22.lt
  have li9_0_23 := bi9_0_23.lt
  clear bi9_0_22 li9_0_22
  have I0_23 := I0_22.below (Below.mono hb23 (by omega))
  clear I0_22
  have I1_23 := I1_22.below (Below.mono hb23 (by omega))
  clear I1_22
  have hT23 := hT22.trans (Below.mono hb23 (by omega))
  clear hT22
  clear hb23
  have hNK4 : ¬ (K4 : Int) < 0 := by omega
  go_wp2_with fail
  refine (heldIntS_any A8 (restZ s0 xs0 xs1).length c8 K3 _ w23 o8_23.rd (by omega) (by omega)).mono ?_
  rintro e w' ⟨he, rfl⟩
  rw [← HK4.out] at he
  subst he
  obtain ⟨yP0_0, yP0_1, _, _⟩ := bP0_23.facts
  go_wp2_with fail
  refine (toBigInt_any w23 w.heap.size hT23.size s0 a0 len0 cap0 xs0 I0_23).mono ?_
  rintro e w24 ⟨g11, rfl, o11_24, hb24⟩
  have hs24 := hb24.size
  have o2_24 := o2_23.below hb24 (by omega)
  clear o2_23
  have o3_24 := o3_23.below hb24 (by omega)
  clear o3_23
  have o5_24 := o5_23.below hb24 (by omega)
  clear o5_23
  have o6_24 := o6_23.below hb24 (by omega)
  clear o6_23
  have o7_24 := o7_23.below hb24 (by omega)
  clear o7_23
  have o8_24 := o8_23.below hb24 (by omega)
  clear o8_23
  have bP0_24 := bP0_23.below hb24 bP0_23.lt
  have lP0_24 := bP0_24.lt
  clear bP0_23 lP0_23
  have bs4_0_24 := bs4_0_23.below hb24 bs4_0_23.lt
  have ls4_0_24 := bs4_0_24.lt
  clear bs4_0_23 ls4_0_23
  have bx0_24 := bx0_23.below hb24 bx0_23.lt
  have lx0_24 := bx0_24.lt
  clear bx0_23 lx0_23
  have bi9_0_24 := bi9_0_23.below hb24 bi9_0_23.lt
  have li9_0_24 := bi9_0_24.lt
  clear bi9_0_23 li9_0_23
  have I0_24 := I0_23.below (Below.mono hb24 (by omega))
  clear I0_23
  have I1_24 := I1_23.below (Below.mono hb24 (by omega))
  clear I1_23
  have hT24 := hT23.trans (Below.mono hb24 (by omega))
  clear hT23
  clear hb24
  clear yP0_0 yP0_1
  go_wp2_with fail
  refine (toIntS_any a1 len1 cap1 _ xs1 w24 I1_24.1 I1_24.2.1 hT24.size (by omega)).mono ?_
  rintro e w25 ⟨g12, rfl, q12, hb25⟩
  have o12_25 := Own.of q12
  clear q12
  have hs25 := hb25.size
  have o2_25 := o2_24.below hb25 (by omega)
  clear o2_24
  have o3_25 := o3_24.below hb25 (by omega)
  clear o3_24
  have o5_25 := o5_24.below hb25 (by omega)
  clear o5_24
  have o6_25 := o6_24.below hb25 (by omega)
  clear o6_24
  have o7_25 := o7_24.below hb25 (by omega)
  clear o7_24
  have o8_25 := o8_24.below hb25 (by omega)
  clear o8_24
  have o11_25 := o11_24.below hb25 (by omega)
  clear o11_24
  have bP0_25 := bP0_24.below hb25 bP0_24.lt
  have lP0_25 := bP0_25.lt
  clear bP0_24 lP0_24
  have bs4_0_25 := bs4_0_24.below hb25 bs4_0_24.lt
  have ls4_0_25 := bs4_0_25.lt
  clear bs4_0_24 ls4_0_24
  have bx0_25 := bx0_24.below hb25 bx0_24.lt
  have lx0_25 := bx0_25.lt
  clear bx0_24 lx0_24
  have bi9_0_25 := bi9_0_24.below hb25 bi9_0_24.lt
  have li9_0_25 := bi9_0_25.lt
  clear bi9_0_24 li9_0_24
  have I0_25 := I0_24.below (Below.mono hb25 (by omega))
  clear I0_24
  have I1_25 := I1_24.below (Below.mono hb25 (by omega))
  clear I1_24
  have hT25 := hT24.trans (Below.mono hb25 (by omega))
  clear hT24
  clear hb25
  go_wp2_with fail
  refine (impl_BigIntFloorDiv w25 w25.heap.size (Nat.le_refl _) s0 (some ⟨g11, 0, none⟩) len0 len0 xs0 (I0_25.at_ o11_25.rd) (some ⟨g12, 0, none⟩) len1 len1 xs1 (I1_25.at_ o12_25.rd)).mono ?_
  rintro e w26 ⟨v13, v14, rfl, ⟨lo13, hi13, lo14, hi14, o13_26, o14_26, hl13, hl14, hh13, hh14, hdis13⟩, hb26⟩
  obtain ⟨A13, c13, rfl⟩ := o13_26.form
  obtain ⟨A14, c14, rfl⟩ := o14_26.form
  have hs26 := hb26.size
  have o2_26 := o2_25.below hb26 (by omega)
  clear o2_25
  have o3_26 := o3_25.below hb26 (by omega)
  clear o3_25
  have o5_26 := o5_25.below hb26 (by omega)
  clear o5_25
  have o6_26 := o6_25.below hb26 (by omega)
  clear o6_25
  have o7_26 := o7_25.below hb26 (by omega)
  clear o7_25
  have o8_26 := o8_25.below hb26 (by omega)
  clear o8_25
  clear o11_25
  clear o12_25
  have bP0_26 := bP0_25.below hb26 bP0_25.lt
  have lP0_26 := bP0_26.lt
  clear bP0_25 lP0_25
  have bs4_0_26 := bs4_0_25.below hb26 bs4_0_25.lt
  have ls4_0_26 := bs4_0_26.lt
  clear bs4_0_25 ls4_0_25
  have bx0_26 := bx0_25.below hb26 bx0_25.lt
  have lx0_26 := bx0_26.lt
  clear bx0_25 lx0_25
  have bi9_0_26 := bi9_0_25.below hb26 bi9_0_25.lt
  have li9_0_26 := bi9_0_26.lt
  clear bi9_0_25 li9_0_25
  have I0_26 := I0_25.below (Below.mono hb26 (by omega))
  clear I0_25
  have I1_26 := I1_25.below (Below.mono hb26 (by omega))
  clear I1_25
  have hT26 := hT25.trans (Below.mono hb26 (by omega))
  clear hT25
  clear hb26
  obtain ⟨w27, hw27⟩ : ∃ x, x = w26.alloc (.cells #[.bool (floorZ s0 xs0 xs1).1, .slice A13 (floorZ s0 xs0 xs1).2.length c13] 27) := ⟨_, rfl⟩
  have hb27 : Below w26.heap.size w26 w27 := by rw [hw27]; exact below_new _ _
  have hq27 : w26.heap.size < w27.heap.size := by rw [hw27, alloc_size]; omega
  have bn : Box w27 w26.heap.size 27 #[.bool (floorZ s0 xs0 xs1).1, .slice A13 (floorZ s0 xs0 xs1).2.length c13] := by rw [hw27]; exact Box.last _ _ _ rfl
  have hs27 := hb27.size
  have o2_27 := o2_26.below hb27 (by omega)
  clear o2_26
  have o3_27 := o3_26.below hb27 (by omega)
  clear o3_26
  have o5_27 := o5_26.below hb27 (by omega)
  clear o5_26
  have o6_27 := o6_26.below hb27 (by omega)
  clear o6_26
  have o7_27 := o7_26.below hb27 (by omega)
  clear o7_26
  have o8_27 := o8_26.below hb27 (by omega)
  clear o8_26
  have o13_27 := o13_26.below hb27 (by omega)
  clear o13_26
  have o14_27 := o14_26.below hb27 (by omega)
  clear o14_26
  have bP0_27 := bP0_26.below hb27 bP0_26.lt
  have lP0_27 := bP0_27.lt
  clear bP0_26 lP0_26
  have bs4_0_27 := bs4_0_26.below hb27 bs4_0_26.lt
  have ls4_0_27 := bs4_0_27.lt
  clear bs4_0_26 ls4_0_26
  have bx0_27 := bx0_26.below hb27 bx0_26.lt
  have lx0_27 := bx0_27.lt
  clear bx0_26 lx0_26
  have bi9_0_27 := bi9_0_26.below hb27 bi9_0_26.lt
  have li9_0_27 := bi9_0_27.lt
  clear bi9_0_26 li9_0_26
  have I0_27 := I0_26.below (Below.mono hb27 (by omega))
  clear I0_26
  have I1_27 := I1_26.below (Below.mono hb27 (by omega))
  clear I1_26
  have hT27 := hT26.trans (Below.mono hb27 (by omega))
  clear hT26
  have bi15_0_27 := bn
  have li15_0_27 := bi15_0_27.lt
  clear bn hb27 hs27
  go_upto_region 35 with fail
  rw [← hw27]
  clear hw27
  obtain ⟨yi15_0_0, yi15_0_1, _, _⟩ := bi15_0_27.facts
  obtain ⟨ys4_0_0, ys4_0_1, _, _⟩ := bs4_0_27.facts
  go_wp2_with fail
  refine (eqBigInt_any w27 w27.heap.size (Nat.le_refl _) (floorZ s0 xs0 xs1).1 A13 A2 _ c13 c2 (floorZ s0 xs0 xs1).2 rfl o13_27.rd o2_27.rd (by omega)).mono ?_
  rintro e w28 ⟨rfl, hb28⟩
  have hs28 := hb28.size
  have o2_28 := o2_27.below hb28 (by omega)
  clear o2_27
  have o3_28 := o3_27.below hb28 (by omega)
  clear o3_27
  have o5_28 := o5_27.below hb28 (by omega)
  clear o5_27
  have o6_28 := o6_27.below hb28 (by omega)
  clear o6_27
  have o7_28 := o7_27.below hb28 (by omega)
  clear o7_27
  have o8_28 := o8_27.below hb28 (by omega)
  clear o8_27
  have o13_28 := o13_27.below hb28 (by omega)
  clear o13_27
  have o14_28 := o14_27.below hb28 (by omega)
  clear o14_27
  have bP0_28 := bP0_27.below hb28 bP0_27.lt
  have lP0_28 := bP0_28.lt
  clear bP0_27 lP0_27
  have bs4_0_28 := bs4_0_27.below hb28 bs4_0_27.lt
  have ls4_0_28 := bs4_0_28.lt
  clear bs4_0_27 ls4_0_27
  have bx0_28 := bx0_27.below hb28 bx0_27.lt
  have lx0_28 := bx0_28.lt
  clear bx0_27 lx0_27
  have bi9_0_28 := bi9_0_27.below hb28 bi9_0_27.lt
  have li9_0_28 := bi9_0_28.lt
  clear bi9_0_27 li9_0_27
  have bi15_0_28 := bi15_0_27.below hb28 bi15_0_27.lt
  have li15_0_28 := bi15_0_28.lt
  clear bi15_0_27 li15_0_27
  have I0_28 := I0_27.below (Below.mono hb28 (by omega))
  clear I0_27
  have I1_28 := I1_27.below (Below.mono hb28 (by omega))
  clear I1_27
  have hT28 := hT27.trans (Below.mono hb28 (by omega))
  clear hT27
  clear hb28
  clear yi15_0_0 yi15_0_1 ys4_0_0 ys4_0_1
  go_wp2_with fail
  refine (eqIntS_below A14 A3 (restZ s0 xs0 xs1).length (restZ s0 xs0 xs1).length c14 c3 (restZ s0 xs0 xs1) (restZ s0 xs0 xs1) _ w28 rfl rfl o14_28.rd o3_28.rd (by unfold maxLen; omega) (by unfold maxLen; omega) true (decide_eq_true rfl)).mono ?_
  rintro e w29 ⟨rfl, hb29⟩
  have hs29 := hb29.size
  have o2_29 := o2_28.below hb29 (by omega)
  clear o2_28
  have o3_29 := o3_28.below hb29 (by omega)
  clear o3_28
  have o5_29 := o5_28.below hb29 (by omega)
  clear o5_28
  have o6_29 := o6_28.below hb29 (by omega)
  clear o6_28
  have o7_29 := o7_28.below hb29 (by omega)
  clear o7_28
  have o8_29 := o8_28.below hb29 (by omega)
  clear o8_28
  have o13_29 := o13_28.below hb29 (by omega)
  clear o13_28
  have o14_29 := o14_28.below hb29 (by omega)
  clear o14_28
  have bP0_29 := bP0_28.below hb29 bP0_28.lt
  have lP0_29 := bP0_29.lt
  clear bP0_28 lP0_28
  have bs4_0_29 := bs4_0_28.below hb29 bs4_0_28.lt
  have ls4_0_29 := bs4_0_29.lt
  clear bs4_0_28 ls4_0_28
  have bx0_29 := bx0_28.below hb29 bx0_28.lt
  have lx0_29 := bx0_29.lt
  clear bx0_28 lx0_28
  have bi9_0_29 := bi9_0_28.below hb29 bi9_0_28.lt
  have li9_0_29 := bi9_0_29.lt
  clear bi9_0_28 li9_0_28
  have bi15_0_29 := bi15_0_28.below hb29 bi15_0_28.lt
  have li15_0_29 := bi15_0_29.lt
  clear bi15_0_28 li15_0_28
  have I0_29 := I0_28.below (Below.mono hb29 (by omega))
  clear I0_28
  have I1_29 := I1_28.below (Below.mono hb29 (by omega))
  clear I1_28
  have hT29 := hT28.trans (Below.mono hb29 (by omega))
  clear hT28
  clear hb29
  obtain ⟨yi9_0_0, yi9_0_1, _, _⟩ := bi9_0_29.facts
  have hNK3 : ¬ (K3 : Int) < 0 := by omega
  go_wp2_with fail
  refine (heldBigInt_any w29 ((floorZ s0 xs0 xs1).1) A7 (floorZ s0 xs0 xs1).2.length c7 1 _ (Nat.le_refl _) o7_29.rd (by omega) (by omega)).mono ?_
  rintro e w30 ⟨he, hb30⟩
  rw [← HK3.out] at he
  subst he
  clear yi9_0_0 yi9_0_1
  have hs30 := hb30.size
  have o2_30 := o2_29.below hb30 (by omega)
  clear o2_29
  have o3_30 := o3_29.below hb30 (by omega)
  clear o3_29
  have o5_30 := o5_29.below hb30 (by omega)
  clear o5_29
  have o6_30 := o6_29.below hb30 (by omega)
  clear o6_29
  have o7_30 := o7_29.below hb30 (by omega)
  clear o7_29
  have o8_30 := o8_29.below hb30 (by omega)
  clear o8_29
  have o13_30 := o13_29.below hb30 (by omega)
  clear o13_29
  have o14_30 := o14_29.below hb30 (by omega)
  clear o14_29
  have bP0_30 := bP0_29.below hb30 bP0_29.lt
  have lP0_30 := bP0_30.lt
  clear bP0_29 lP0_29
  have bs4_0_30 := bs4_0_29.below hb30 bs4_0_29.lt
  have ls4_0_30 := bs4_0_30.lt
  clear bs4_0_29 ls4_0_29
  have bx0_30 := bx0_29.below hb30 bx0_29.lt
  have lx0_30 := bx0_30.lt
  clear bx0_29 lx0_29
  have bi9_0_30 := bi9_0_29.below hb30 bi9_0_29.lt
  have li9_0_30 := bi9_0_30.lt
  clear bi9_0_29 li9_0_29
  have bi15_0_30 := bi15_0_29.below hb30 bi15_0_29.lt
  have li15_0_30 := bi15_0_30.lt
  clear bi15_0_29 li15_0_29
  have I0_30 := I0_29.below (Below.mono hb30 (by omega))
  clear I0_29
  have I1_30 := I1_29.below (Below.mono hb30 (by omega))
  clear I1_29
  have hT30 := hT29.trans (Below.mono hb30 (by omega))
  clear hT29
  clear hb30
  have hNK4 : ¬ (K4 : Int) < 0 := by omega
  go_wp2_with fail
  refine (heldIntS_any A8 (restZ s0 xs0 xs1).length c8 K3 _ w30 o8_30.rd (by omega) (by omega)).mono ?_
  rintro e w' ⟨he, rfl⟩
  rw [← HK4.out] at he
  subst he
  go_wp2
  go_ret
  exact ⟨rfl, hT30⟩
end Go.Proofs.Ytcainjgcfbgddaa
