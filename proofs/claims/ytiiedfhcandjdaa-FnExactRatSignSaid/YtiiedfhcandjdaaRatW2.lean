/-
  The exact laws' walks: fractions, RatW2.
-/
import Derived.Test.YtiiedfhcandjdaaRatV
import Derived.Test.YtiiedfhcandjdaaRatR7
import Derived.Test.YtiiedfhcandjdaaRatI9
import Derived.Deep.CutRange
import Derived.Deep.RegionHeld3
import Derived.Sort.AtCall
namespace Go.Proofs.Ytiiedfhcandjdaa
open Go.RowKit
set_option linter.unusedVariables false

set_option maxHeartbeats 16000000 in
set_option maxRecDepth 100000 in
theorem FnExactRatSign_walk (w : World) (s0 : Bool) (a0 : Option Addr) (len0 cap0 : Nat) (z0 : List Int) (f0 : IsRow .i64 w a0 len0 cap0 z0) (b0 : Option Addr) (blen0 bcap0 : Nat) (y0 : List Int) (h0 : IsRow .i64 w b0 blen0 bcap0 y0) :
    Calls Try.prog 13 #[.agg #[.bool s0, .slice a0 len0 cap0, .slice b0 blen0 bcap0]] w fun e w' => e = .returned (.bool true) ∧ Below w.heap.size w w' := by
  have hm0 := f0.rd.2.2.1
  unfold maxLen at hm0
  have hmb0 := h0.rd.2.2.1
  unfold maxLen at hmb0
  obtain ⟨w1, hw1⟩ : ∃ x, x = (w.alloc (.cells #[.bool s0, .slice a0 len0 cap0, .slice b0 blen0 bcap0] 26)) := ⟨_, rfl⟩
  have hT1 : Below w.heap.size w w1 := by rw [hw1]; exact below_new _ _
  have bP0_1 : Box w1 (w.heap.size) 26 #[.bool s0, .slice a0 len0 cap0, .slice b0 blen0 bcap0] := by rw [hw1]; exact Box.last _ _ _ rfl
  have lP0_1 := bP0_1.lt
  have lqP0 := bP0_1.lt
  have hs1 := hT1.size
  go_enter Try.func13, Try.ntmps13
  go_upto_region 1 with fail
  rw [← hw1]
  clear hw1
  obtain ⟨yP0_0, yP0_1, yP0_2⟩ := bP0_1.cells3
  go_wp2_with fail
  refine (szRat_any w1 s0 a0 len0 cap0 b0 blen0 bcap0 1048576 (by omega) (by omega) (by omega)).mono ?_
  rintro e w2 ⟨rfl, hb2⟩
  clear yP0_0 yP0_1 yP0_2
  have hs2 := hb2.size
  have bP0_2 := bP0_1.below hb2 bP0_1.lt
  have lP0_2 := bP0_2.lt
  clear bP0_1 lP0_1
  have hT2 := hT1.trans (Below.mono hb2 (by omega))
  clear hT1 hb2
  by_cases cz0 : ¬ (len0 + blen0) ≤ 1048576
  · have hle : leftI 1048576 (len0 + blen0) = -1 := if_neg cz0
    rw [hle]
    clear hle
    go_wp2_with fail
    go_ret
    exact ⟨rfl, hT2⟩
  have cz0 := Decidable.not_not.1 cz0
  obtain ⟨L0, hL0⟩ : ∃ L : Nat, L + (len0 + blen0) = 1048576 := ⟨1048576 - (len0 + blen0), by omega⟩
  have hle : leftI 1048576 (len0 + blen0) = (L0 : Int) := by rw [leftI, if_pos cz0]; omega
  rw [hle]
  clear hle
  have hng0 : ¬ (L0 : Int) < 0 := by omega
  have hn0 : len0 ≤ 1048576 := by omega
  have hbn0 : blen0 ≤ 1048576 := by omega
  have HLe0 := hide hL0
  have hLb0 : L0 ≤ 1048576 := by omega
  clear hL0 cz0
  obtain ⟨xs0, J0⟩ := f0.rdI hn0
  have I0_2 := J0.below hT2
  clear J0 f0
  obtain ⟨ds0, J0⟩ := h0.rdI hbn0
  have J0_2 := J0.below hT2
  clear J0 h0
  obtain ⟨yP0_0, yP0_1, yP0_2⟩ := bP0_2.cells3
  go_wp2_with fail
  refine (toRat_any w2 w.heap.size hT2.size s0 a0 len0 cap0 xs0 I0_2 b0 blen0 bcap0 ds0 J0_2).mono ?_
  rintro e w3 ⟨g0, j0, rfl, o0_3, hb3⟩
  have hs3 := hb3.size
  have bP0_3 := bP0_2.below hb3 bP0_2.lt
  have lP0_3 := bP0_3.lt
  clear bP0_2 lP0_2
  have I0_3 := I0_2.below (Below.mono hb3 (by omega))
  clear I0_2
  have J0_3 := J0_2.below (Below.mono hb3 (by omega))
  clear J0_2
  have hT3 := hT2.trans (Below.mono hb3 (by omega))
  clear hT2
  clear hb3
  clear yP0_0 yP0_1 yP0_2
  go_wp2_with fail
  refine (spec_RatSign w3 w3.heap.size (Nat.le_refl _) s0 (some ⟨g0, 0, none⟩) len0 len0 xs0 (I0_3.at_ o0_3.rd1) (some ⟨j0, 0, none⟩) blen0 blen0 ds0 (J0_3.at_ o0_3.rd2)).mono ?_
  rintro e w4 ⟨rfl, hb4⟩
  have hs4 := hb4.size
  clear o0_3
  have bP0_4 := bP0_3.below hb4 bP0_3.lt
  have lP0_4 := bP0_4.lt
  clear bP0_3 lP0_3
  have I0_4 := I0_3.below (Below.mono hb4 (by omega))
  clear I0_3
  have J0_4 := J0_3.below (Below.mono hb4 (by omega))
  clear J0_3
  have hT4 := hT3.trans (Below.mono hb4 (by omega))
  clear hT3
  clear hb4
  obtain ⟨yP0_0, yP0_1, yP0_2⟩ := bP0_4.cells3
  go_wp2_with fail
  refine (toRat_any w4 w.heap.size hT4.size s0 a0 len0 cap0 xs0 I0_4 b0 blen0 bcap0 ds0 J0_4).mono ?_
  rintro e w5 ⟨g1, j1, rfl, o1_5, hb5⟩
  have hs5 := hb5.size
  have bP0_5 := bP0_4.below hb5 bP0_4.lt
  have lP0_5 := bP0_5.lt
  clear bP0_4 lP0_4
  have I0_5 := I0_4.below (Below.mono hb5 (by omega))
  clear I0_4
  have J0_5 := J0_4.below (Below.mono hb5 (by omega))
  clear J0_4
  have hT5 := hT4.trans (Below.mono hb5 (by omega))
  clear hT4
  clear hb5
  clear yP0_0 yP0_1 yP0_2
  obtain ⟨w6, hw6⟩ : ∃ x, x = w5.alloc (.cells #[.bool s0, .slice (some ⟨g1, 0, none⟩) len0 len0, .slice (some ⟨j1, 0, none⟩) blen0 blen0] 31) := ⟨_, rfl⟩
  have hb6 : Below w5.heap.size w5 w6 := by rw [hw6]; exact below_new _ _
  have hq6 : w5.heap.size < w6.heap.size := by rw [hw6, alloc_size]; omega
  have bn : Box w6 w5.heap.size 31 #[.bool s0, .slice (some ⟨g1, 0, none⟩) len0 len0, .slice (some ⟨j1, 0, none⟩) blen0 blen0] := by rw [hw6]; exact Box.last _ _ _ rfl
  have hs6 := hb6.size
  have o1_6 := o1_5.below hb6 (by omega)
  clear o1_5
  have bP0_6 := bP0_5.below hb6 bP0_5.lt
  have lP0_6 := bP0_6.lt
  clear bP0_5 lP0_5
  have I0_6 := I0_5.below (Below.mono hb6 (by omega))
  clear I0_5
  have J0_6 := J0_5.below (Below.mono hb6 (by omega))
  clear J0_5
  have hT6 := hT5.trans (Below.mono hb6 (by omega))
  clear hT5
  have bx0_6 := bn
  have lx0_6 := bx0_6.lt
  clear bn hb6 hs6
  go_upto_region 7 with fail
  rw [← hw6]
  clear hw6
  obtain ⟨yx0_0, yx0_1, yx0_2⟩ := bx0_6.cells3
  go_wp2_with fail
  refine (impl_RatSign w6 w6.heap.size (Nat.le_refl _) s0 (some ⟨g1, 0, none⟩) len0 len0 xs0 (I0_6.at_ o1_6.rd1) (some ⟨j1, 0, none⟩) blen0 blen0 ds0 (J0_6.at_ o1_6.rd2)).mono ?_
  rintro e w7 ⟨rfl, hb7⟩
  have hs7 := hb7.size
  have o1_7 := o1_6.below hb7 (by omega)
  clear o1_6
  have bP0_7 := bP0_6.below hb7 bP0_6.lt
  have lP0_7 := bP0_7.lt
  clear bP0_6 lP0_6
  have bx0_7 := bx0_6.below hb7 bx0_6.lt
  have lx0_7 := bx0_7.lt
  clear bx0_6 lx0_6
  have I0_7 := I0_6.below (Below.mono hb7 (by omega))
  clear I0_6
  have J0_7 := J0_6.below (Below.mono hb7 (by omega))
  clear J0_6
  have hT7 := hT6.trans (Below.mono hb7 (by omega))
  clear hT6
  clear hb7
  clear yx0_0 yx0_1 yx0_2
  go_upto_region 10 with fail
  obtain ⟨yP0_0, yP0_1, yP0_2⟩ := bP0_7.cells3
  obtain ⟨yx0_0, yx0_1, yx0_2⟩ := bx0_7.cells3
  have HPi := hide bP0_7
  have HPj := hide bx0_7
  have HKS := hide (fun (W : World) (hq : Below w7.heap.size w7 W) => (⟨(HPj.out.below hq HPj.out.lt).cell 0, (HPj.out.below hq HPj.out.lt).cell 1, (HPj.out.below hq HPj.out.lt).cell 2, (HPi.out.below hq HPi.out.lt).cell 0, (HPi.out.below hq HPi.out.lt).cell 1, (HPi.out.below hq HPi.out.lt).cell 2⟩ : W.cell? ⟨w5.heap.size, 0, none⟩ = some (.bool s0) ∧ W.cell? ⟨w5.heap.size, 1, none⟩ = some (.slice (some ⟨g1, 0, none⟩) len0 len0) ∧ W.cell? ⟨w5.heap.size, 2, none⟩ = some (.slice (some ⟨j1, 0, none⟩) blen0 blen0) ∧ W.cell? ⟨w.heap.size, 0, none⟩ = some (.bool s0) ∧ W.cell? ⟨w.heap.size, 1, none⟩ = some (.slice a0 len0 cap0) ∧ W.cell? ⟨w.heap.size, 2, none⟩ = some (.slice b0 blen0 bcap0)))
  have HCi := hide (fun (W : World) (hq : Below w7.heap.size w7 W) => toRat_any W w.heap.size (by have := hT7.size; have := hq.size; omega) s0 a0 len0 cap0 xs0 (I0_7.below (hq.mono hT7.size)) b0 blen0 bcap0 ds0 (J0_7.below (hq.mono hT7.size)))
  have HF := hide (fun (W : World) (p p' : Nat) (hq : Below w7.heap.size w7 W) (r : Rd W W.heap.size (some ⟨p, 0, none⟩) (iv xs0)) (rd : Rd W W.heap.size (some ⟨p', 0, none⟩) (iv ds0)) => eqRat_any W W.heap.size (Nat.le_refl _) s0 (some ⟨g1, 0, none⟩) (some ⟨p, 0, none⟩) len0 len0 len0 xs0 I0_7.1 (o1_7.below hq (by omega)).rd1 r (some ⟨j1, 0, none⟩) (some ⟨p', 0, none⟩) blen0 blen0 blen0 ds0 J0_7.1 (o1_7.below hq (by omega)).rd2 rd (by omega) (by omega))
  have HS0 : Hid (Below w7.heap.size w7 w7.drew) := (Below.refl _ _).drew
  go_region_held3 (fun w' => w'.cell? ⟨w5.heap.size, 0, none⟩ = some (.bool s0) ∧ w'.cell? ⟨w5.heap.size, 1, none⟩ = some (.slice (some ⟨g1, 0, none⟩) len0 len0) ∧ w'.cell? ⟨w5.heap.size, 2, none⟩ = some (.slice (some ⟨j1, 0, none⟩) blen0 blen0) ∧ w'.cell? ⟨w.heap.size, 0, none⟩ = some (.bool s0) ∧ w'.cell? ⟨w.heap.size, 1, none⟩ = some (.slice a0 len0 cap0) ∧ w'.cell? ⟨w.heap.size, 2, none⟩ = some (.slice b0 blen0 bcap0))
      (first | (with_reducible exact HKS.out _ HS2.out) | (with_reducible exact HKS.out _ HS1.out) | (with_reducible exact HKS.out _ HS0.out))
      (first
        | (go_at_call 19; refine (HCi.out _ HS0.out).mono ?_; rintro e u1 ⟨p1, p1', rfl, e1, hb1⟩; have HS1 := hide (below_then HS0.out hb1))
        | (go_at_call 21; refine (HF.out _ _ _ HS1.out e1.rd1 e1.rd2).mono ?_; rintro e u2 ⟨rfl, hb2⟩; have HS2 := hide (below_then HS1.out hb2)))
  have hb8 := HS2.out
  obtain ⟨w8, hw8⟩ : ∃ x, x = u2 := ⟨_, rfl⟩
  subst hw8
  clear HKS HCi HF HS0 HPi HPj HS1 HS2 hb1 hb2 e1
  clear yP0_0 yP0_1 yP0_2 yx0_0 yx0_1 yx0_2
  have hs8 := hb8.size
  have o1_8 := o1_7.below hb8 (by omega)
  clear o1_7
  have bP0_8 := bP0_7.below hb8 bP0_7.lt
  have lP0_8 := bP0_8.lt
  clear bP0_7 lP0_7
  have bx0_8 := bx0_7.below hb8 bx0_7.lt
  have lx0_8 := bx0_8.lt
  clear bx0_7 lx0_7
  have I0_8 := I0_7.below (Below.mono hb8 (by omega))
  clear I0_7
  have J0_8 := J0_7.below (Below.mono hb8 (by omega))
  clear J0_7
  have hT8 := hT7.trans (Below.mono hb8 (by omega))
  clear hT7
  clear hb8
  go_wp2
  go_ret
  exact ⟨rfl, hT8⟩

set_option maxHeartbeats 16000000 in
set_option maxRecDepth 100000 in
theorem FnExactRatNeg_walk (w : World) (s0 : Bool) (a0 : Option Addr) (len0 cap0 : Nat) (z0 : List Int) (f0 : IsRow .i64 w a0 len0 cap0 z0) (b0 : Option Addr) (blen0 bcap0 : Nat) (y0 : List Int) (h0 : IsRow .i64 w b0 blen0 bcap0 y0) :
    Calls Try.prog 8 #[.agg #[.bool s0, .slice a0 len0 cap0, .slice b0 blen0 bcap0]] w fun e w' => e = .returned (.bool true) ∧ Below w.heap.size w w' := by
  have hm0 := f0.rd.2.2.1
  unfold maxLen at hm0
  have hmb0 := h0.rd.2.2.1
  unfold maxLen at hmb0
  obtain ⟨w1, hw1⟩ : ∃ x, x = (w.alloc (.cells #[.bool s0, .slice a0 len0 cap0, .slice b0 blen0 bcap0] 26)) := ⟨_, rfl⟩
  have hT1 : Below w.heap.size w w1 := by rw [hw1]; exact below_new _ _
  have bP0_1 : Box w1 (w.heap.size) 26 #[.bool s0, .slice a0 len0 cap0, .slice b0 blen0 bcap0] := by rw [hw1]; exact Box.last _ _ _ rfl
  have lP0_1 := bP0_1.lt
  have lqP0 := bP0_1.lt
  have hs1 := hT1.size
  go_enter Try.func8, Try.ntmps8
  go_upto_region 1 with fail
  rw [← hw1]
  clear hw1
  obtain ⟨yP0_0, yP0_1, yP0_2⟩ := bP0_1.cells3
  go_wp2_with fail
  refine (szRat_any w1 s0 a0 len0 cap0 b0 blen0 bcap0 1048576 (by omega) (by omega) (by omega)).mono ?_
  rintro e w2 ⟨rfl, hb2⟩
  clear yP0_0 yP0_1 yP0_2
  have hs2 := hb2.size
  have bP0_2 := bP0_1.below hb2 bP0_1.lt
  have lP0_2 := bP0_2.lt
  clear bP0_1 lP0_1
  have hT2 := hT1.trans (Below.mono hb2 (by omega))
  clear hT1 hb2
  by_cases cz0 : ¬ (len0 + blen0) ≤ 1048576
  · have hle : leftI 1048576 (len0 + blen0) = -1 := if_neg cz0
    rw [hle]
    clear hle
    go_wp2_with fail
    go_ret
    exact ⟨rfl, hT2⟩
  have cz0 := Decidable.not_not.1 cz0
  obtain ⟨L0, hL0⟩ : ∃ L : Nat, L + (len0 + blen0) = 1048576 := ⟨1048576 - (len0 + blen0), by omega⟩
  have hle : leftI 1048576 (len0 + blen0) = (L0 : Int) := by rw [leftI, if_pos cz0]; omega
  rw [hle]
  clear hle
  have hng0 : ¬ (L0 : Int) < 0 := by omega
  have hn0 : len0 ≤ 1048576 := by omega
  have hbn0 : blen0 ≤ 1048576 := by omega
  have HLe0 := hide hL0
  have hLb0 : L0 ≤ 1048576 := by omega
  clear hL0 cz0
  obtain ⟨xs0, J0⟩ := f0.rdI hn0
  have I0_2 := J0.below hT2
  clear J0 f0
  obtain ⟨ds0, J0⟩ := h0.rdI hbn0
  have J0_2 := J0.below hT2
  clear J0 h0
  obtain ⟨hL_0, hM_0⟩ : (negR s0 xs0 ds0).1.2.length ≤ 1048576 ∧ (negR s0 xs0 ds0).2.length ≤ 1048576 := negR_len s0 xs0 ds0
  obtain ⟨yP0_0, yP0_1, yP0_2⟩ := bP0_2.cells3
  go_wp2_with fail
  refine (toRat_any w2 w.heap.size hT2.size s0 a0 len0 cap0 xs0 I0_2 b0 blen0 bcap0 ds0 J0_2).mono ?_
  rintro e w3 ⟨g0, j0, rfl, o0_3, hb3⟩
  have hs3 := hb3.size
  have bP0_3 := bP0_2.below hb3 bP0_2.lt
  have lP0_3 := bP0_3.lt
  clear bP0_2 lP0_2
  have I0_3 := I0_2.below (Below.mono hb3 (by omega))
  clear I0_2
  have J0_3 := J0_2.below (Below.mono hb3 (by omega))
  clear J0_2
  have hT3 := hT2.trans (Below.mono hb3 (by omega))
  clear hT2
  clear hb3
  clear yP0_0 yP0_1 yP0_2
  go_wp2_with fail
  refine (spec_RatNeg w3 w3.heap.size (Nat.le_refl _) s0 (some ⟨g0, 0, none⟩) len0 len0 xs0 (I0_3.at_ o0_3.rd1) (some ⟨j0, 0, none⟩) blen0 blen0 ds0 (J0_3.at_ o0_3.rd2) ⟨Nat.le_refl _, by unfold maxLen; omega⟩).mono ?_
  rintro e w4 ⟨v1, u1, rfl, q1, hb4⟩
  have o1_4 := Both.hull q1
  obtain ⟨A1, c1, B1, k1, rfl, rfl⟩ := o1_4.form
  clear q1
  have hs4 := hb4.size
  clear o0_3
  have bP0_4 := bP0_3.below hb4 bP0_3.lt
  have lP0_4 := bP0_4.lt
  clear bP0_3 lP0_3
  have I0_4 := I0_3.below (Below.mono hb4 (by omega))
  clear I0_3
  have J0_4 := J0_3.below (Below.mono hb4 (by omega))
  clear J0_3
  have hT4 := hT3.trans (Below.mono hb4 (by omega))
  clear hT3
  clear hb4
  obtain ⟨w5, hw5⟩ : ∃ x, x = w4.alloc (.cells #[.bool (negR s0 xs0 ds0).1.1, .slice A1 (negR s0 xs0 ds0).1.2.length c1, .slice B1 (negR s0 xs0 ds0).2.length k1] 31) := ⟨_, rfl⟩
  have hb5 : Below w4.heap.size w4 w5 := by rw [hw5]; exact below_new _ _
  have hq5 : w4.heap.size < w5.heap.size := by rw [hw5, alloc_size]; omega
  have bn : Box w5 w4.heap.size 31 #[.bool (negR s0 xs0 ds0).1.1, .slice A1 (negR s0 xs0 ds0).1.2.length c1, .slice B1 (negR s0 xs0 ds0).2.length k1] := by rw [hw5]; exact Box.last _ _ _ rfl
  have hs5 := hb5.size
  have o1_5 := o1_4.below hb5 (by omega)
  clear o1_4
  have bP0_5 := bP0_4.below hb5 bP0_4.lt
  have lP0_5 := bP0_5.lt
  clear bP0_4 lP0_4
  have I0_5 := I0_4.below (Below.mono hb5 (by omega))
  clear I0_4
  have J0_5 := J0_4.below (Below.mono hb5 (by omega))
  clear J0_4
  have hT5 := hT4.trans (Below.mono hb5 (by omega))
  clear hT4
  have bs2_0_5 := bn
  have ls2_0_5 := bs2_0_5.lt
  clear bn hb5 hs5
  go_upto_region 6 with fail
  rw [← hw5]
  clear hw5
  obtain ⟨yP0_0, yP0_1, yP0_2⟩ := bP0_5.cells3
  go_wp2_with fail
  refine (toRat_any w5 w.heap.size hT5.size s0 a0 len0 cap0 xs0 I0_5 b0 blen0 bcap0 ds0 J0_5).mono ?_
  rintro e w6 ⟨g3, j3, rfl, o3_6, hb6⟩
  have hs6 := hb6.size
  have o1_6 := o1_5.below hb6 (by omega)
  clear o1_5
  have bP0_6 := bP0_5.below hb6 bP0_5.lt
  have lP0_6 := bP0_6.lt
  clear bP0_5 lP0_5
  have bs2_0_6 := bs2_0_5.below hb6 bs2_0_5.lt
  have ls2_0_6 := bs2_0_6.lt
  clear bs2_0_5 ls2_0_5
  have I0_6 := I0_5.below (Below.mono hb6 (by omega))
  clear I0_5
  have J0_6 := J0_5.below (Below.mono hb6 (by omega))
  clear J0_5
  have hT6 := hT5.trans (Below.mono hb6 (by omega))
  clear hT5
  clear hb6
  clear yP0_0 yP0_1 yP0_2
  obtain ⟨w7, hw7⟩ : ∃ x, x = w6.alloc (.cells #[.bool s0, .slice (some ⟨g3, 0, none⟩) len0 len0, .slice (some ⟨j3, 0, none⟩) blen0 blen0] 31) := ⟨_, rfl⟩
  have hb7 : Below w6.heap.size w6 w7 := by rw [hw7]; exact below_new _ _
  have hq7 : w6.heap.size < w7.heap.size := by rw [hw7, alloc_size]; omega
  have bn : Box w7 w6.heap.size 31 #[.bool s0, .slice (some ⟨g3, 0, none⟩) len0 len0, .slice (some ⟨j3, 0, none⟩) blen0 blen0] := by rw [hw7]; exact Box.last _ _ _ rfl
  have hs7 := hb7.size
  have o1_7 := o1_6.below hb7 (by omega)
  clear o1_6
  have o3_7 := o3_6.below hb7 (by omega)
  clear o3_6
  have bP0_7 := bP0_6.below hb7 bP0_6.lt
  have lP0_7 := bP0_7.lt
  clear bP0_6 lP0_6
  have bs2_0_7 := bs2_0_6.below hb7 bs2_0_6.lt
  have ls2_0_7 := bs2_0_7.lt
  clear bs2_0_6 ls2_0_6
  have I0_7 := I0_6.below (Below.mono hb7 (by omega))
  clear I0_6
  have J0_7 := J0_6.below (Below.mono hb7 (by omega))
  clear J0_6
  have hT7 := hT6.trans (Below.mono hb7 (by omega))
  clear hT6
  have bx0_7 := bn
  have lx0_7 := bx0_7.lt
  clear bn hb7 hs7
  go_upto_region 7 with fail
  rw [← hw7]
  clear hw7
  obtain ⟨yx0_0, yx0_1, yx0_2⟩ := bx0_7.cells3
  go_wp2_with fail
  refine (impl_RatNeg w7 w7.heap.size (Nat.le_refl _) s0 (some ⟨g3, 0, none⟩) len0 len0 xs0 (I0_7.at_ o3_7.rd1) (some ⟨j3, 0, none⟩) blen0 blen0 ds0 (J0_7.at_ o3_7.rd2)).mono ?_
  rintro e w8 ⟨v4, u4, rfl, q4, hb8⟩
  have o4_8 := Pair.hull q4
  obtain ⟨A4, c4, B4, k4, rfl, rfl⟩ := o4_8.form
  clear q4
  have hs8 := hb8.size
  have o1_8 := o1_7.below hb8 (by omega)
  clear o1_7
  have o3_8 := o3_7.below hb8 (by omega)
  clear o3_7
  have bP0_8 := bP0_7.below hb8 bP0_7.lt
  have lP0_8 := bP0_8.lt
  clear bP0_7 lP0_7
  have bs2_0_8 := bs2_0_7.below hb8 bs2_0_7.lt
  have ls2_0_8 := bs2_0_8.lt
  clear bs2_0_7 ls2_0_7
  have bx0_8 := bx0_7.below hb8 bx0_7.lt
  have lx0_8 := bx0_8.lt
  clear bx0_7 lx0_7
  have I0_8 := I0_7.below (Below.mono hb8 (by omega))
  clear I0_7
  have J0_8 := J0_7.below (Below.mono hb8 (by omega))
  clear J0_7
  have hT8 := hT7.trans (Below.mono hb8 (by omega))
  clear hT7
  clear hb8
  clear yx0_0 yx0_1 yx0_2
  obtain ⟨w9, hw9⟩ : ∃ x, x = w8.alloc (.cells #[.bool (negR s0 xs0 ds0).1.1, .slice A4 (negR s0 xs0 ds0).1.2.length c4, .slice B4 (negR s0 xs0 ds0).2.length k4] 31) := ⟨_, rfl⟩
  have hb9 : Below w8.heap.size w8 w9 := by rw [hw9]; exact below_new _ _
  have hq9 : w8.heap.size < w9.heap.size := by rw [hw9, alloc_size]; omega
  have bn : Box w9 w8.heap.size 31 #[.bool (negR s0 xs0 ds0).1.1, .slice A4 (negR s0 xs0 ds0).1.2.length c4, .slice B4 (negR s0 xs0 ds0).2.length k4] := by rw [hw9]; exact Box.last _ _ _ rfl
  have hs9 := hb9.size
  have o1_9 := o1_8.below hb9 (by omega)
  clear o1_8
  have o3_9 := o3_8.below hb9 (by omega)
  clear o3_8
  have o4_9 := o4_8.below hb9 (by omega)
  clear o4_8
  have bP0_9 := bP0_8.below hb9 bP0_8.lt
  have lP0_9 := bP0_9.lt
  clear bP0_8 lP0_8
  have bs2_0_9 := bs2_0_8.below hb9 bs2_0_8.lt
  have ls2_0_9 := bs2_0_9.lt
  clear bs2_0_8 ls2_0_8
  have bx0_9 := bx0_8.below hb9 bx0_8.lt
  have lx0_9 := bx0_9.lt
  clear bx0_8 lx0_8
  have I0_9 := I0_8.below (Below.mono hb9 (by omega))
  clear I0_8
  have J0_9 := J0_8.below (Below.mono hb9 (by omega))
  clear J0_8
  have hT9 := hT8.trans (Below.mono hb9 (by omega))
  clear hT8
  have bi5_0_9 := bn
  have li5_0_9 := bi5_0_9.lt
  clear bn hb9 hs9
  go_upto_region 8 with fail
  rw [← hw9]
  clear hw9
  obtain ⟨yi5_0_0, yi5_0_1, yi5_0_2⟩ := bi5_0_9.cells3
  obtain ⟨ys2_0_0, ys2_0_1, ys2_0_2⟩ := bs2_0_9.cells3
  go_wp2_with fail
  refine (eqRat_any w9 w9.heap.size (Nat.le_refl _) (negR s0 xs0 ds0).1.1 A4 A1 _ c4 c1 (negR s0 xs0 ds0).1.2 rfl o4_9.rd1 o1_9.rd1 B4 B1 _ k4 k1 (negR s0 xs0 ds0).2 rfl o4_9.rd2 o1_9.rd2 (by omega) (by omega)).mono ?_
  rintro e w10 ⟨rfl, hb10⟩
  have hs10 := hb10.size
  have o1_10 := o1_9.below hb10 (by omega)
  clear o1_9
  have o3_10 := o3_9.below hb10 (by omega)
  clear o3_9
  have o4_10 := o4_9.below hb10 (by omega)
  clear o4_9
  have bP0_10 := bP0_9.below hb10 bP0_9.lt
  have lP0_10 := bP0_10.lt
  clear bP0_9 lP0_9
  have bs2_0_10 := bs2_0_9.below hb10 bs2_0_9.lt
  have ls2_0_10 := bs2_0_10.lt
  clear bs2_0_9 ls2_0_9
  have bx0_10 := bx0_9.below hb10 bx0_9.lt
  have lx0_10 := bx0_10.lt
  clear bx0_9 lx0_9
  have bi5_0_10 := bi5_0_9.below hb10 bi5_0_9.lt
  have li5_0_10 := bi5_0_10.lt
  clear bi5_0_9 li5_0_9
  have I0_10 := I0_9.below (Below.mono hb10 (by omega))
  clear I0_9
  have J0_10 := J0_9.below (Below.mono hb10 (by omega))
  clear J0_9
  have hT10 := hT9.trans (Below.mono hb10 (by omega))
  clear hT9
  clear hb10
  clear yi5_0_0 yi5_0_1 yi5_0_2 ys2_0_0 ys2_0_1 ys2_0_2
  go_upto_region 10 with fail
  obtain ⟨yP0_0, yP0_1, yP0_2⟩ := bP0_10.cells3
  obtain ⟨yx0_0, yx0_1, yx0_2⟩ := bx0_10.cells3
  have HPi := hide bP0_10
  have HPj := hide bx0_10
  have HKS := hide (fun (W : World) (hq : Below w10.heap.size w10 W) => (⟨(HPj.out.below hq HPj.out.lt).cell 0, (HPj.out.below hq HPj.out.lt).cell 1, (HPj.out.below hq HPj.out.lt).cell 2, (HPi.out.below hq HPi.out.lt).cell 0, (HPi.out.below hq HPi.out.lt).cell 1, (HPi.out.below hq HPi.out.lt).cell 2⟩ : W.cell? ⟨w6.heap.size, 0, none⟩ = some (.bool s0) ∧ W.cell? ⟨w6.heap.size, 1, none⟩ = some (.slice (some ⟨g3, 0, none⟩) len0 len0) ∧ W.cell? ⟨w6.heap.size, 2, none⟩ = some (.slice (some ⟨j3, 0, none⟩) blen0 blen0) ∧ W.cell? ⟨w.heap.size, 0, none⟩ = some (.bool s0) ∧ W.cell? ⟨w.heap.size, 1, none⟩ = some (.slice a0 len0 cap0) ∧ W.cell? ⟨w.heap.size, 2, none⟩ = some (.slice b0 blen0 bcap0)))
  have HCi := hide (fun (W : World) (hq : Below w10.heap.size w10 W) => toRat_any W w.heap.size (by have := hT10.size; have := hq.size; omega) s0 a0 len0 cap0 xs0 (I0_10.below (hq.mono hT10.size)) b0 blen0 bcap0 ds0 (J0_10.below (hq.mono hT10.size)))
  have HF := hide (fun (W : World) (p p' : Nat) (hq : Below w10.heap.size w10 W) (r : Rd W W.heap.size (some ⟨p, 0, none⟩) (iv xs0)) (rd : Rd W W.heap.size (some ⟨p', 0, none⟩) (iv ds0)) => eqRat_any W W.heap.size (Nat.le_refl _) s0 (some ⟨g3, 0, none⟩) (some ⟨p, 0, none⟩) len0 len0 len0 xs0 I0_10.1 (o3_10.below hq (by omega)).rd1 r (some ⟨j3, 0, none⟩) (some ⟨p', 0, none⟩) blen0 blen0 blen0 ds0 J0_10.1 (o3_10.below hq (by omega)).rd2 rd (by omega) (by omega))
  have HS0 : Hid (Below w10.heap.size w10 w10.drew) := (Below.refl _ _).drew
  go_region_held3 (fun w' => w'.cell? ⟨w6.heap.size, 0, none⟩ = some (.bool s0) ∧ w'.cell? ⟨w6.heap.size, 1, none⟩ = some (.slice (some ⟨g3, 0, none⟩) len0 len0) ∧ w'.cell? ⟨w6.heap.size, 2, none⟩ = some (.slice (some ⟨j3, 0, none⟩) blen0 blen0) ∧ w'.cell? ⟨w.heap.size, 0, none⟩ = some (.bool s0) ∧ w'.cell? ⟨w.heap.size, 1, none⟩ = some (.slice a0 len0 cap0) ∧ w'.cell? ⟨w.heap.size, 2, none⟩ = some (.slice b0 blen0 bcap0))
      (first | (with_reducible exact HKS.out _ HS2.out) | (with_reducible exact HKS.out _ HS1.out) | (with_reducible exact HKS.out _ HS0.out))
      (first
        | (go_at_call 19; refine (HCi.out _ HS0.out).mono ?_; rintro e u1 ⟨p1, p1', rfl, e1, hb1⟩; have HS1 := hide (below_then HS0.out hb1))
        | (go_at_call 21; refine (HF.out _ _ _ HS1.out e1.rd1 e1.rd2).mono ?_; rintro e u2 ⟨rfl, hb2⟩; have HS2 := hide (below_then HS1.out hb2)))
  have hb11 := HS2.out
  obtain ⟨w11, hw11⟩ : ∃ x, x = u2 := ⟨_, rfl⟩
  subst hw11
  clear HKS HCi HF HS0 HPi HPj HS1 HS2 hb1 hb2 e1
  clear yP0_0 yP0_1 yP0_2 yx0_0 yx0_1 yx0_2
  have hs11 := hb11.size
  have o1_11 := o1_10.below hb11 (by omega)
  clear o1_10
  have o3_11 := o3_10.below hb11 (by omega)
  clear o3_10
  have o4_11 := o4_10.below hb11 (by omega)
  clear o4_10
  have bP0_11 := bP0_10.below hb11 bP0_10.lt
  have lP0_11 := bP0_11.lt
  clear bP0_10 lP0_10
  have bs2_0_11 := bs2_0_10.below hb11 bs2_0_10.lt
  have ls2_0_11 := bs2_0_11.lt
  clear bs2_0_10 ls2_0_10
  have bx0_11 := bx0_10.below hb11 bx0_10.lt
  have lx0_11 := bx0_11.lt
  clear bx0_10 lx0_10
  have bi5_0_11 := bi5_0_10.below hb11 bi5_0_10.lt
  have li5_0_11 := bi5_0_11.lt
  clear bi5_0_10 li5_0_10
  have I0_11 := I0_10.below (Below.mono hb11 (by omega))
  clear I0_10
  have J0_11 := J0_10.below (Below.mono hb11 (by omega))
  clear J0_10
  have hT11 := hT10.trans (Below.mono hb11 (by omega))
  clear hT10
  clear hb11
  obtain ⟨yx0_0, yx0_1, yx0_2⟩ := bx0_11.cells3
  go_wp2_with fail
  refine (markRat_own w11 (s0) (some ⟨g3, 0, none⟩) len0 len0 (some ⟨j3, 0, none⟩) blen0 blen0 1 _ _ _ _ _ o3_11 (by omega) (by omega) (by omega) (by omega)).mono ?_
  rintro e w12 ⟨he, p3, ha12⟩
  obtain ⟨K1, hK1⟩ : ∃ K : Nat, K = 1 + (len0 + blen0) := ⟨_, rfl⟩
  have bK1 : K1 ≤ 3000010 := by omega
  rw [← hK1] at he
  subst he
  have HK1 := hide hK1
  clear hK1
  clear yx0_0 yx0_1 yx0_2
  have hs12 := ha12.size
  have o1_12 := o1_11.aside ha12 (by omega)
  clear o1_11
  have o4_12 := o4_11.aside ha12 (by omega)
  clear o4_11
  have bP0_12 := bP0_11.aside ha12 (by omega)
  have lP0_12 := bP0_12.lt
  clear bP0_11 lP0_11
  have bs2_0_12 := bs2_0_11.aside ha12 (by omega)
  have ls2_0_12 := bs2_0_12.lt
  clear bs2_0_11 ls2_0_11
  have bx0_12 := bx0_11.aside ha12 (by omega)
  have lx0_12 := bx0_12.lt
  clear bx0_11 lx0_11
  have bi5_0_12 := bi5_0_11.aside ha12 (by omega)
  have li5_0_12 := bi5_0_12.lt
  clear bi5_0_11 li5_0_11
  have I0_12 := I0_11.below (Aside.below ha12 (by omega) (by omega))
  clear I0_11
  have J0_12 := J0_11.below (Aside.below ha12 (by omega) (by omega))
  clear J0_11
  have hT12 := hT11.trans (Aside.below ha12 (by omega) (by omega))
  clear hT11
  clear ha12
  have o3_12 := p3
  clear p3 o3_11
  have hnk : ¬ (K1 : Int) < 0 := by omega
  obtain ⟨yi5_0_0, yi5_0_1, yi5_0_2⟩ := bi5_0_12.cells3
  obtain ⟨ys2_0_0, ys2_0_1, ys2_0_2⟩ := bs2_0_12.cells3
  go_wp2_with fail
  refine (eqRat_any w12 w12.heap.size (Nat.le_refl _) (negR s0 xs0 ds0).1.1 A4 A1 _ c4 c1 (negR s0 xs0 ds0).1.2 rfl o4_12.rd1 o1_12.rd1 B4 B1 _ k4 k1 (negR s0 xs0 ds0).2 rfl o4_12.rd2 o1_12.rd2 (by omega) (by omega)).mono ?_
  rintro e w13 ⟨rfl, hb13⟩
  have hs13 := hb13.size
  have o1_13 := o1_12.below hb13 (by omega)
  clear o1_12
  have o3_13 := o3_12.below hb13 (by omega)
  clear o3_12
  have o4_13 := o4_12.below hb13 (by omega)
  clear o4_12
  have bP0_13 := bP0_12.below hb13 bP0_12.lt
  have lP0_13 := bP0_13.lt
  clear bP0_12 lP0_12
  have bs2_0_13 := bs2_0_12.below hb13 bs2_0_12.lt
  have ls2_0_13 := bs2_0_13.lt
  clear bs2_0_12 ls2_0_12
  have bx0_13 := bx0_12.below hb13 bx0_12.lt
  have lx0_13 := bx0_13.lt
  clear bx0_12 lx0_12
  have bi5_0_13 := bi5_0_12.below hb13 bi5_0_12.lt
  have li5_0_13 := bi5_0_13.lt
  clear bi5_0_12 li5_0_12
  have I0_13 := I0_12.below (Below.mono hb13 (by omega))
  clear I0_12
  have J0_13 := J0_12.below (Below.mono hb13 (by omega))
  clear J0_12
  have hT13 := hT12.trans (Below.mono hb13 (by omega))
  clear hT12
  clear hb13
  clear yi5_0_0 yi5_0_1 yi5_0_2 ys2_0_0 ys2_0_1 ys2_0_2
  obtain ⟨yi5_0_0, yi5_0_1, yi5_0_2⟩ := bi5_0_13.cells3
  go_wp2_with fail
  refine (markRat_own w13 ((negR s0 xs0 ds0).1.1) A4 (negR s0 xs0 ds0).1.2.length c4 B4 (negR s0 xs0 ds0).2.length k4 1 _ _ _ _ _ o4_13 (by omega) (by omega) (by omega) (by omega)).mono ?_
  rintro e w14 ⟨he, p4, ha14⟩
  obtain ⟨K2, hK2⟩ : ∃ K : Nat, K = 1 + ((negR s0 xs0 ds0).1.2.length + (negR s0 xs0 ds0).2.length) := ⟨_, rfl⟩
  have bK2 : K2 ≤ 6000010 := by omega
  rw [← hK2] at he
  subst he
  have HK2 := hide hK2
  clear hK2
  clear yi5_0_0 yi5_0_1 yi5_0_2
  have hs14 := ha14.size
  have o1_14 := o1_13.aside ha14 (by omega)
  clear o1_13
  have o3_14 := o3_13.aside ha14 (by omega)
  clear o3_13
  have bP0_14 := bP0_13.aside ha14 (by omega)
  have lP0_14 := bP0_14.lt
  clear bP0_13 lP0_13
  have bs2_0_14 := bs2_0_13.aside ha14 (by omega)
  have ls2_0_14 := bs2_0_14.lt
  clear bs2_0_13 ls2_0_13
  have bx0_14 := bx0_13.aside ha14 (by omega)
  have lx0_14 := bx0_14.lt
  clear bx0_13 lx0_13
  have bi5_0_14 := bi5_0_13.aside ha14 (by omega)
  have li5_0_14 := bi5_0_14.lt
  clear bi5_0_13 li5_0_13
  have I0_14 := I0_13.below (Aside.below ha14 (by omega) (by omega))
  clear I0_13
  have J0_14 := J0_13.below (Aside.below ha14 (by omega) (by omega))
  clear J0_13
  have hT14 := hT13.trans (Aside.below ha14 (by omega) (by omega))
  clear hT13
  clear ha14
  have o4_14 := p4
  clear p4 o4_13
  obtain ⟨yi5_0_0, yi5_0_1, yi5_0_2⟩ := bi5_0_14.cells3
  have hNK2 : ¬ (K2 : Int) < 0 := by omega
  go_wp2_with fail
  refine (heldRat_any w14 ((negR s0 xs0 ds0).1.1) A4 (negR s0 xs0 ds0).1.2.length c4 B4 (negR s0 xs0 ds0).2.length k4 1 _ (Nat.le_refl _) o4_14.rd1 o4_14.rd2 (by omega) (by omega) (by omega)).mono ?_
  rintro e w15 ⟨he, hb15⟩
  rw [← HK2.out] at he
  subst he
  clear yi5_0_0 yi5_0_1 yi5_0_2
  have hs15 := hb15.size
  have o1_15 := o1_14.below hb15 (by omega)
  clear o1_14
  have o3_15 := o3_14.below hb15 (by omega)
  clear o3_14
  have o4_15 := o4_14.below hb15 (by omega)
  clear o4_14
  have bP0_15 := bP0_14.below hb15 bP0_14.lt
  have lP0_15 := bP0_15.lt
  clear bP0_14 lP0_14
  have bs2_0_15 := bs2_0_14.below hb15 bs2_0_14.lt
  have ls2_0_15 := bs2_0_15.lt
  clear bs2_0_14 ls2_0_14
  have bx0_15 := bx0_14.below hb15 bx0_14.lt
  have lx0_15 := bx0_15.lt
  clear bx0_14 lx0_14
  have bi5_0_15 := bi5_0_14.below hb15 bi5_0_14.lt
  have li5_0_15 := bi5_0_15.lt
  clear bi5_0_14 li5_0_14
  have I0_15 := I0_14.below (Below.mono hb15 (by omega))
  clear I0_14
  have J0_15 := J0_14.below (Below.mono hb15 (by omega))
  clear J0_14
  have hT15 := hT14.trans (Below.mono hb15 (by omega))
  clear hT14
  clear hb15
  obtain ⟨yP0_0, yP0_1, yP0_2⟩ := bP0_15.cells3
  go_wp2_with fail
  refine (toRat_any w15 w.heap.size hT15.size s0 a0 len0 cap0 xs0 I0_15 b0 blen0 bcap0 ds0 J0_15).mono ?_
  rintro e w16 ⟨g6, j6, rfl, o6_16, hb16⟩
  have hs16 := hb16.size
  have o1_16 := o1_15.below hb16 (by omega)
  clear o1_15
  have o3_16 := o3_15.below hb16 (by omega)
  clear o3_15
  have o4_16 := o4_15.below hb16 (by omega)
  clear o4_15
  have bP0_16 := bP0_15.below hb16 bP0_15.lt
  have lP0_16 := bP0_16.lt
  clear bP0_15 lP0_15
  have bs2_0_16 := bs2_0_15.below hb16 bs2_0_15.lt
  have ls2_0_16 := bs2_0_16.lt
  clear bs2_0_15 ls2_0_15
  have bx0_16 := bx0_15.below hb16 bx0_15.lt
  have lx0_16 := bx0_16.lt
  clear bx0_15 lx0_15
  have bi5_0_16 := bi5_0_15.below hb16 bi5_0_15.lt
  have li5_0_16 := bi5_0_16.lt
  clear bi5_0_15 li5_0_15
  have I0_16 := I0_15.below (Below.mono hb16 (by omega))
  clear I0_15
  have J0_16 := J0_15.below (Below.mono hb16 (by omega))
  clear J0_15
  have hT16 := hT15.trans (Below.mono hb16 (by omega))
  clear hT15
  clear hb16
  clear yP0_0 yP0_1 yP0_2
  go_wp2_with fail
  refine (impl_RatNeg w16 w16.heap.size (Nat.le_refl _) s0 (some ⟨g6, 0, none⟩) len0 len0 xs0 (I0_16.at_ o6_16.rd1) (some ⟨j6, 0, none⟩) blen0 blen0 ds0 (J0_16.at_ o6_16.rd2)).mono ?_
  rintro e w17 ⟨v7, u7, rfl, q7, hb17⟩
  have o7_17 := Pair.hull q7
  obtain ⟨A7, c7, B7, k7, rfl, rfl⟩ := o7_17.form
  clear q7
  have hs17 := hb17.size
  have o1_17 := o1_16.below hb17 (by omega)
  clear o1_16
  have o3_17 := o3_16.below hb17 (by omega)
  clear o3_16
  have o4_17 := o4_16.below hb17 (by omega)
  clear o4_16
  clear o6_16
  have bP0_17 := bP0_16.below hb17 bP0_16.lt
  have lP0_17 := bP0_17.lt
  clear bP0_16 lP0_16
  have bs2_0_17 := bs2_0_16.below hb17 bs2_0_16.lt
  have ls2_0_17 := bs2_0_17.lt
  clear bs2_0_16 ls2_0_16
  have bx0_17 := bx0_16.below hb17 bx0_16.lt
  have lx0_17 := bx0_17.lt
  clear bx0_16 lx0_16
  have bi5_0_17 := bi5_0_16.below hb17 bi5_0_16.lt
  have li5_0_17 := bi5_0_17.lt
  clear bi5_0_16 li5_0_16
  have I0_17 := I0_16.below (Below.mono hb17 (by omega))
  clear I0_16
  have J0_17 := J0_16.below (Below.mono hb17 (by omega))
  clear J0_16
  have hT17 := hT16.trans (Below.mono hb17 (by omega))
  clear hT16
  clear hb17
  obtain ⟨w18, hw18⟩ : ∃ x, x = w17.alloc (.cells #[.bool (negR s0 xs0 ds0).1.1, .slice A7 (negR s0 xs0 ds0).1.2.length c7, .slice B7 (negR s0 xs0 ds0).2.length k7] 31) := ⟨_, rfl⟩
  have hb18 : Below w17.heap.size w17 w18 := by rw [hw18]; exact below_new _ _
  have hq18 : w17.heap.size < w18.heap.size := by rw [hw18, alloc_size]; omega
  have bn : Box w18 w17.heap.size 31 #[.bool (negR s0 xs0 ds0).1.1, .slice A7 (negR s0 xs0 ds0).1.2.length c7, .slice B7 (negR s0 xs0 ds0).2.length k7] := by rw [hw18]; exact Box.last _ _ _ rfl
  have hs18 := hb18.size
  have o1_18 := o1_17.below hb18 (by omega)
  clear o1_17
  have o3_18 := o3_17.below hb18 (by omega)
  clear o3_17
  have o4_18 := o4_17.below hb18 (by omega)
  clear o4_17
  have o7_18 := o7_17.below hb18 (by omega)
  clear o7_17
  have bP0_18 := bP0_17.below hb18 bP0_17.lt
  have lP0_18 := bP0_18.lt
  clear bP0_17 lP0_17
  have bs2_0_18 := bs2_0_17.below hb18 bs2_0_17.lt
  have ls2_0_18 := bs2_0_18.lt
  clear bs2_0_17 ls2_0_17
  have bx0_18 := bx0_17.below hb18 bx0_17.lt
  have lx0_18 := bx0_18.lt
  clear bx0_17 lx0_17
  have bi5_0_18 := bi5_0_17.below hb18 bi5_0_17.lt
  have li5_0_18 := bi5_0_18.lt
  clear bi5_0_17 li5_0_17
  have I0_18 := I0_17.below (Below.mono hb18 (by omega))
  clear I0_17
  have J0_18 := J0_17.below (Below.mono hb18 (by omega))
  clear J0_17
  have hT18 := hT17.trans (Below.mono hb18 (by omega))
  clear hT17
  have bi8_0_18 := bn
  have li8_0_18 := bi8_0_18.lt
  clear bn hb18 hs18
  go_upto_region 25 with fail
  rw [← hw18]
  clear hw18
  obtain ⟨yi8_0_0, yi8_0_1, yi8_0_2⟩ := bi8_0_18.cells3
  obtain ⟨ys2_0_0, ys2_0_1, ys2_0_2⟩ := bs2_0_18.cells3
  go_wp2_with fail
  refine (eqRat_any w18 w18.heap.size (Nat.le_refl _) (negR s0 xs0 ds0).1.1 A7 A1 _ c7 c1 (negR s0 xs0 ds0).1.2 rfl o7_18.rd1 o1_18.rd1 B7 B1 _ k7 k1 (negR s0 xs0 ds0).2 rfl o7_18.rd2 o1_18.rd2 (by omega) (by omega)).mono ?_
  rintro e w19 ⟨rfl, hb19⟩
  have hs19 := hb19.size
  have o1_19 := o1_18.below hb19 (by omega)
  clear o1_18
  have o3_19 := o3_18.below hb19 (by omega)
  clear o3_18
  have o4_19 := o4_18.below hb19 (by omega)
  clear o4_18
  have o7_19 := o7_18.below hb19 (by omega)
  clear o7_18
  have bP0_19 := bP0_18.below hb19 bP0_18.lt
  have lP0_19 := bP0_19.lt
  clear bP0_18 lP0_18
  have bs2_0_19 := bs2_0_18.below hb19 bs2_0_18.lt
  have ls2_0_19 := bs2_0_19.lt
  clear bs2_0_18 ls2_0_18
  have bx0_19 := bx0_18.below hb19 bx0_18.lt
  have lx0_19 := bx0_19.lt
  clear bx0_18 lx0_18
  have bi5_0_19 := bi5_0_18.below hb19 bi5_0_18.lt
  have li5_0_19 := bi5_0_19.lt
  clear bi5_0_18 li5_0_18
  have bi8_0_19 := bi8_0_18.below hb19 bi8_0_18.lt
  have li8_0_19 := bi8_0_19.lt
  clear bi8_0_18 li8_0_18
  have I0_19 := I0_18.below (Below.mono hb19 (by omega))
  clear I0_18
  have J0_19 := J0_18.below (Below.mono hb19 (by omega))
  clear J0_18
  have hT19 := hT18.trans (Below.mono hb19 (by omega))
  clear hT18
  clear hb19
  clear yi8_0_0 yi8_0_1 yi8_0_2 ys2_0_0 ys2_0_1 ys2_0_2
  obtain ⟨yi5_0_0, yi5_0_1, yi5_0_2⟩ := bi5_0_19.cells3
  have hNK2 : ¬ (K2 : Int) < 0 := by omega
  go_wp2_with fail
  refine (heldRat_any w19 ((negR s0 xs0 ds0).1.1) A4 (negR s0 xs0 ds0).1.2.length c4 B4 (negR s0 xs0 ds0).2.length k4 1 _ (Nat.le_refl _) o4_19.rd1 o4_19.rd2 (by omega) (by omega) (by omega)).mono ?_
  rintro e w20 ⟨he, hb20⟩
  rw [← HK2.out] at he
  subst he
  clear yi5_0_0 yi5_0_1 yi5_0_2
  have hs20 := hb20.size
  have o1_20 := o1_19.below hb20 (by omega)
  clear o1_19
  have o3_20 := o3_19.below hb20 (by omega)
  clear o3_19
  have o4_20 := o4_19.below hb20 (by omega)
  clear o4_19
  have o7_20 := o7_19.below hb20 (by omega)
  clear o7_19
  have bP0_20 := bP0_19.below hb20 bP0_19.lt
  have lP0_20 := bP0_20.lt
  clear bP0_19 lP0_19
  have bs2_0_20 := bs2_0_19.below hb20 bs2_0_19.lt
  have ls2_0_20 := bs2_0_20.lt
  clear bs2_0_19 ls2_0_19
  have bx0_20 := bx0_19.below hb20 bx0_19.lt
  have lx0_20 := bx0_20.lt
  clear bx0_19 lx0_19
  have bi5_0_20 := bi5_0_19.below hb20 bi5_0_19.lt
  have li5_0_20 := bi5_0_20.lt
  clear bi5_0_19 li5_0_19
  have bi8_0_20 := bi8_0_19.below hb20 bi8_0_19.lt
  have li8_0_20 := bi8_0_20.lt
  clear bi8_0_19 li8_0_19
  have I0_20 := I0_19.below (Below.mono hb20 (by omega))
  clear I0_19
  have J0_20 := J0_19.below (Below.mono hb20 (by omega))
  clear J0_19
  have hT20 := hT19.trans (Below.mono hb20 (by omega))
  clear hT19
  clear hb20
  go_wp2
  go_ret
  exact ⟨rfl, hT20⟩
end Go.Proofs.Ytiiedfhcandjdaa
