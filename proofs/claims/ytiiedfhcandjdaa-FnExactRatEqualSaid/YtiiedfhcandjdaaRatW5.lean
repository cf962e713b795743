/-
  The exact laws' walks: fractions, RatW5.
-/
import Derived.Test.YtiiedfhcandjdaaRatV
import Derived.Test.YtiiedfhcandjdaaRatR7
import Derived.Test.YtiiedfhcandjdaaRatI9
import Derived.Deep.CutRange
import Derived.Deep.RegionHeld3
import Derived.Sort.AtCall
namespace Go.Proofs.Ytiiedfhcandjdaa
open Go.RowKit
set_option linter.unusedVariables false

set_option maxHeartbeats 16000000 in
set_option maxRecDepth 100000 in
theorem FnExactRatCmp_walk (w : World) (s0 : Bool) (a0 : Option Addr) (len0 cap0 : Nat) (z0 : List Int) (f0 : IsRow .i64 w a0 len0 cap0 z0) (b0 : Option Addr) (blen0 bcap0 : Nat) (y0 : List Int) (h0 : IsRow .i64 w b0 blen0 bcap0 y0) (s1 : Bool) (a1 : Option Addr) (len1 cap1 : Nat) (z1 : List Int) (f1 : IsRow .i64 w a1 len1 cap1 z1) (b1 : Option Addr) (blen1 bcap1 : Nat) (y1 : List Int) (h1 : IsRow .i64 w b1 blen1 bcap1 y1) :
    Calls Try.prog 12 #[.agg #[.bool s0, .slice a0 len0 cap0, .slice b0 blen0 bcap0], .agg #[.bool s1, .slice a1 len1 cap1, .slice b1 blen1 bcap1]] w fun e w' => e = .returned (.bool true) ∧ Below w.heap.size w w' := by
  have hm0 := f0.rd.2.2.1
  unfold maxLen at hm0
  have hmb0 := h0.rd.2.2.1
  unfold maxLen at hmb0
  have hm1 := f1.rd.2.2.1
  unfold maxLen at hm1
  have hmb1 := h1.rd.2.2.1
  unfold maxLen at hmb1
  obtain ⟨w1, hw1⟩ : ∃ x, x = ((w.alloc (.cells #[.bool s0, .slice a0 len0 cap0, .slice b0 blen0 bcap0] 26)).alloc (.cells #[.bool s1, .slice a1 len1 cap1, .slice b1 blen1 bcap1] 26)) := ⟨_, rfl⟩
  have hT1 : Below w.heap.size w w1 := by rw [hw1]; exact below_alloc (below_new _ _) _
  have bP0_1 : Box w1 (w.heap.size) 26 #[.bool s0, .slice a0 len0 cap0, .slice b0 blen0 bcap0] := by rw [hw1]; exact (Box.last _ _ _ rfl).alloc _
  have lP0_1 := bP0_1.lt
  have lqP0 := bP0_1.lt
  have bP1_1 : Box w1 (w.heap.size + 1) 26 #[.bool s1, .slice a1 len1 cap1, .slice b1 blen1 bcap1] := by rw [hw1]; exact Box.last _ _ _ (by simp only [alloc_size])
  have lP1_1 := bP1_1.lt
  have lqP1 := bP1_1.lt
  have hs1 := hT1.size
  go_enter Try.func12, Try.ntmps12
  go_upto_region 1 with fail
  rw [← hw1]
  clear hw1
  obtain ⟨yP0_0, yP0_1, yP0_2⟩ := bP0_1.cells3
  go_wp2_with fail
  refine (szRat_any w1 s0 a0 len0 cap0 b0 blen0 bcap0 1048576 (by omega) (by omega) (by omega)).mono ?_
  rintro e w2 ⟨rfl, hb2⟩
  clear yP0_0 yP0_1 yP0_2
  have hs2 := hb2.size
  have bP0_2 := bP0_1.below hb2 bP0_1.lt
  have lP0_2 := bP0_2.lt
  clear bP0_1 lP0_1
  have bP1_2 := bP1_1.below hb2 bP1_1.lt
  have lP1_2 := bP1_2.lt
  clear bP1_1 lP1_1
  have hT2 := hT1.trans (Below.mono hb2 (by omega))
  clear hT1 hb2
  by_cases cz0 : ¬ (len0 + blen0) ≤ 1048576
  · have hle : leftI 1048576 (len0 + blen0) = -1 := if_neg cz0
    rw [hle]
    clear hle
    go_wp2_with fail
    go_ret
    exact ⟨rfl, hT2⟩
  have cz0 := Decidable.not_not.1 cz0
  obtain ⟨L0, hL0⟩ : ∃ L : Nat, L + (len0 + blen0) = 1048576 := ⟨1048576 - (len0 + blen0), by omega⟩
  have hle : leftI 1048576 (len0 + blen0) = (L0 : Int) := by rw [leftI, if_pos cz0]; omega
  rw [hle]
  clear hle
  have hng0 : ¬ (L0 : Int) < 0 := by omega
  have hn0 : len0 ≤ 1048576 := by omega
  have hbn0 : blen0 ≤ 1048576 := by omega
  have HLe0 := hide hL0
  have hLb0 : L0 ≤ 1048576 := by omega
  clear hL0 cz0
  obtain ⟨yP1_0, yP1_1, yP1_2⟩ := bP1_2.cells3
  go_wp2_with fail
  refine (szRat_any w2 s1 a1 len1 cap1 b1 blen1 bcap1 L0 (by omega) (by omega) (by omega)).mono ?_
  rintro e w3 ⟨rfl, hb3⟩
  clear yP1_0 yP1_1 yP1_2
  have hs3 := hb3.size
  have bP0_3 := bP0_2.below hb3 bP0_2.lt
  have lP0_3 := bP0_3.lt
  clear bP0_2 lP0_2
  have bP1_3 := bP1_2.below hb3 bP1_2.lt
  have lP1_3 := bP1_3.lt
  clear bP1_2 lP1_2
  have hT3 := hT2.trans (Below.mono hb3 (by omega))
  clear hT2 hb3
  by_cases cz1 : ¬ (len1 + blen1) ≤ L0
  · have hle : leftI L0 (len1 + blen1) = -1 := if_neg cz1
    rw [hle]
    clear hle
    go_wp2_with fail
    go_ret
    exact ⟨rfl, hT3⟩
  have cz1 := Decidable.not_not.1 cz1
  obtain ⟨L1, hL1⟩ : ∃ L : Nat, L + (len1 + blen1) = L0 := ⟨L0 - (len1 + blen1), by omega⟩
  have hle : leftI L0 (len1 + blen1) = (L1 : Int) := by rw [leftI, if_pos cz1]; omega
  rw [hle]
  clear hle
  have hng1 : ¬ (L1 : Int) < 0 := by omega
  have hn1 : len1 ≤ 1048576 := by omega
  have hbn1 : blen1 ≤ 1048576 := by omega
  have HLe1 := hide hL1
  have hLb1 : L1 ≤ 1048576 := by omega
  clear hL1 cz1
  obtain ⟨xs0, J0⟩ := f0.rdI hn0
  have I0_3 := J0.below hT3
  clear J0 f0
  obtain ⟨ds0, J0⟩ := h0.rdI hbn0
  have J0_3 := J0.below hT3
  clear J0 h0
  obtain ⟨xs1, J0⟩ := f1.rdI hn1
  have I1_3 := J0.below hT3
  clear J0 f1
  obtain ⟨ds1, J0⟩ := h1.rdI hbn1
  have J1_3 := J0.below hT3
  clear J0 h1
  go_upto_region 8 with fail
  obtain ⟨yP0_0, yP0_1, yP0_2⟩ := bP0_3.cells3
  obtain ⟨yP1_0, yP1_1, yP1_2⟩ := bP1_3.cells3
  have HPi := hide bP0_3
  have HPj := hide bP1_3
  have HKS := hide (fun (W : World) (hq : Below w3.heap.size w3 W) => (⟨(HPi.out.below hq HPi.out.lt).cell 0, (HPi.out.below hq HPi.out.lt).cell 1, (HPi.out.below hq HPi.out.lt).cell 2, (HPj.out.below hq HPj.out.lt).cell 0, (HPj.out.below hq HPj.out.lt).cell 1, (HPj.out.below hq HPj.out.lt).cell 2⟩ : W.cell? ⟨w.heap.size, 0, none⟩ = some (.bool s0) ∧ W.cell? ⟨w.heap.size, 1, none⟩ = some (.slice a0 len0 cap0) ∧ W.cell? ⟨w.heap.size, 2, none⟩ = some (.slice b0 blen0 bcap0) ∧ W.cell? ⟨w.heap.size + 1, 0, none⟩ = some (.bool s1) ∧ W.cell? ⟨w.heap.size + 1, 1, none⟩ = some (.slice a1 len1 cap1) ∧ W.cell? ⟨w.heap.size + 1, 2, none⟩ = some (.slice b1 blen1 bcap1)))
  have HCi := hide (fun (W : World) (hq : Below w3.heap.size w3 W) => toRat_any W w.heap.size (by have := hT3.size; have := hq.size; omega) s0 a0 len0 cap0 xs0 (I0_3.below (hq.mono hT3.size)) b0 blen0 bcap0 ds0 (J0_3.below (hq.mono hT3.size)))
  have HCj := hide (fun (W : World) (hq : Below w3.heap.size w3 W) => toRat_any W w.heap.size (by have := hT3.size; have := hq.size; omega) s1 a1 len1 cap1 xs1 (I1_3.below (hq.mono hT3.size)) b1 blen1 bcap1 ds1 (J1_3.below (hq.mono hT3.size)))
  have HF := hide (fun (W : World) (p : Nat) (r : Rd W W.heap.size (some ⟨p, 0, none⟩) (iv xs0)) (p' : Nat) (rd : Rd W W.heap.size (some ⟨p', 0, none⟩) (iv ds0)) (q : Nat) (r' : Rd W W.heap.size (some ⟨q, 0, none⟩) (iv xs1)) (q' : Nat) (r'd : Rd W W.heap.size (some ⟨q', 0, none⟩) (iv ds1)) => spec_RatCmp W W.heap.size (Nat.le_refl _) s0 (some ⟨p, 0, none⟩) len0 len0 xs0 (I0_3.at_ r) (some ⟨p', 0, none⟩) blen0 blen0 ds0 (J0_3.at_ rd) s1 (some ⟨q, 0, none⟩) len1 len1 xs1 (I1_3.at_ r') (some ⟨q', 0, none⟩) blen1 blen1 ds1 (J1_3.at_ r'd))
  have HS0 : Hid (Below w3.heap.size w3 w3.drew) := (Below.refl _ _).drew
  go_region_held3 (fun w' => w'.cell? ⟨w.heap.size, 0, none⟩ = some (.bool s0) ∧ w'.cell? ⟨w.heap.size, 1, none⟩ = some (.slice a0 len0 cap0) ∧ w'.cell? ⟨w.heap.size, 2, none⟩ = some (.slice b0 blen0 bcap0) ∧ w'.cell? ⟨w.heap.size + 1, 0, none⟩ = some (.bool s1) ∧ w'.cell? ⟨w.heap.size + 1, 1, none⟩ = some (.slice a1 len1 cap1) ∧ w'.cell? ⟨w.heap.size + 1, 2, none⟩ = some (.slice b1 blen1 bcap1))
      (first | (with_reducible exact HKS.out _ HS3.out) | (with_reducible exact HKS.out _ HS2.out) | (with_reducible exact HKS.out _ HS1.out) | (with_reducible exact HKS.out _ HS0.out))
      (first
        | (go_at_call_has 19 a0; refine (HCi.out _ HS0.out).mono ?_; rintro e u1 ⟨p1, p1', rfl, e1, hb1⟩; have hz1 := hb1.size; have HS1 := hide (below_then HS0.out hb1))
        | (go_at_call_has 19 a1; refine (HCj.out _ HS1.out).mono ?_; rintro e u2 ⟨p2, p2', rfl, e2, hb2⟩; have hz2 := hb2.size; have HS2 := hide (below_then HS1.out hb2); have r1 : Rd u2 u2.heap.size (some ⟨p1, 0, none⟩) (iv xs0) := (by first | (with_reducible exact (e1.below hb2 (Nat.le_refl _)).rd1) | (with_reducible exact ((e1.below (below_new u1 _) (Nat.le_refl _)).below hb2 (by rw [alloc_size]; omega)).rd1)); have r1d : Rd u2 u2.heap.size (some ⟨p1', 0, none⟩) (iv ds0) := (by first | (with_reducible exact (e1.below hb2 (Nat.le_refl _)).rd2) | (with_reducible exact ((e1.below (below_new u1 _) (Nat.le_refl _)).below hb2 (by rw [alloc_size]; omega)).rd2)); have r2 := e2.rd1; have r2d := e2.rd2)
        | (go_at_call 44; refine (HF.out _ _ r1 _ r1d _ r2 _ r2d).mono ?_; rintro e u3 ⟨rfl, hb3⟩; have hz3 := hb3.size; have HS3 := hide (below_then HS2.out hb3)))
  have hb4 := HS3.out
  obtain ⟨w4, hw4⟩ : ∃ x, x = u3 := ⟨_, rfl⟩
  subst hw4
  clear HKS HCi HCj HF HS0 HPi HPj HS1 HS2 HS3 hb1 hb2 hb3 e1 e2 r1 r2 hz1 hz2 hz3 r1d r2d
  clear yP0_0 yP0_1 yP0_2 yP1_0 yP1_1 yP1_2
  have hs4 := hb4.size
  have bP0_4 := bP0_3.below hb4 bP0_3.lt
  have lP0_4 := bP0_4.lt
  clear bP0_3 lP0_3
  have bP1_4 := bP1_3.below hb4 bP1_3.lt
  have lP1_4 := bP1_4.lt
  clear bP1_3 lP1_3
  have I0_4 := I0_3.below (Below.mono hb4 (by omega))
  clear I0_3
  have J0_4 := J0_3.below (Below.mono hb4 (by omega))
  clear J0_3
  have I1_4 := I1_3.below (Below.mono hb4 (by omega))
  clear I1_3
  have J1_4 := J1_3.below (Below.mono hb4 (by omega))
  clear J1_3
  have hT4 := hT3.trans (Below.mono hb4 (by omega))
  clear hT3
  clear hb4
  obtain ⟨yP0_0, yP0_1, yP0_2⟩ := bP0_4.cells3
  go_wp2_with fail
  refine (toRat_any w4 w.heap.size hT4.size s0 a0 len0 cap0 xs0 I0_4 b0 blen0 bcap0 ds0 J0_4).mono ?_
  rintro e w5 ⟨g1, j1, rfl, o1_5, hb5⟩
  have hs5 := hb5.size
  have bP0_5 := bP0_4.below hb5 bP0_4.lt
  have lP0_5 := bP0_5.lt
  clear bP0_4 lP0_4
  have bP1_5 := bP1_4.below hb5 bP1_4.lt
  have lP1_5 := bP1_5.lt
  clear bP1_4 lP1_4
  have I0_5 := I0_4.below (Below.mono hb5 (by omega))
  clear I0_4
  have J0_5 := J0_4.below (Below.mono hb5 (by omega))
  clear J0_4
  have I1_5 := I1_4.below (Below.mono hb5 (by omega))
  clear I1_4
  have J1_5 := J1_4.below (Below.mono hb5 (by omega))
  clear J1_4
  have hT5 := hT4.trans (Below.mono hb5 (by omega))
  clear hT4
  clear hb5
  clear yP0_0 yP0_1 yP0_2
  obtain ⟨w6, hw6⟩ : ∃ x, x = w5.alloc (.cells #[.bool s0, .slice (some ⟨g1, 0, none⟩) len0 len0, .slice (some ⟨j1, 0, none⟩) blen0 blen0] 31) := ⟨_, rfl⟩
  have hb6 : Below w5.heap.size w5 w6 := by rw [hw6]; exact below_new _ _
  have hq6 : w5.heap.size < w6.heap.size := by rw [hw6, alloc_size]; omega
  have bn : Box w6 w5.heap.size 31 #[.bool s0, .slice (some ⟨g1, 0, none⟩) len0 len0, .slice (some ⟨j1, 0, none⟩) blen0 blen0] := by rw [hw6]; exact Box.last _ _ _ rfl
  have hs6 := hb6.size
  have o1_6 := o1_5.below hb6 (by omega)
  clear o1_5
  have bP0_6 := bP0_5.below hb6 bP0_5.lt
  have lP0_6 := bP0_6.lt
  clear bP0_5 lP0_5
  have bP1_6 := bP1_5.below hb6 bP1_5.lt
  have lP1_6 := bP1_6.lt
  clear bP1_5 lP1_5
  have I0_6 := I0_5.below (Below.mono hb6 (by omega))
  clear I0_5
  have J0_6 := J0_5.below (Below.mono hb6 (by omega))
  clear J0_5
  have I1_6 := I1_5.below (Below.mono hb6 (by omega))
  clear I1_5
  have J1_6 := J1_5.below (Below.mono hb6 (by omega))
  clear J1_5
  have hT6 := hT5.trans (Below.mono hb6 (by omega))
  clear hT5
  have bx0_6 := bn
  have lx0_6 := bx0_6.lt
  clear bn hb6 hs6
  go_upto_region 10 with fail
  rw [← hw6]
  clear hw6
  obtain ⟨yP1_0, yP1_1, yP1_2⟩ := bP1_6.cells3
  go_wp2_with fail
  refine (toRat_any w6 w.heap.size hT6.size s1 a1 len1 cap1 xs1 I1_6 b1 blen1 bcap1 ds1 J1_6).mono ?_
  rintro e w7 ⟨g2, j2, rfl, o2_7, hb7⟩
  have hs7 := hb7.size
  have o1_7 := o1_6.below hb7 (by omega)
  clear o1_6
  have bP0_7 := bP0_6.below hb7 bP0_6.lt
  have lP0_7 := bP0_7.lt
  clear bP0_6 lP0_6
  have bP1_7 := bP1_6.below hb7 bP1_6.lt
  have lP1_7 := bP1_7.lt
  clear bP1_6 lP1_6
  have bx0_7 := bx0_6.below hb7 bx0_6.lt
  have lx0_7 := bx0_7.lt
  clear bx0_6 lx0_6
  have I0_7 := I0_6.below (Below.mono hb7 (by omega))
  clear I0_6
  have J0_7 := J0_6.below (Below.mono hb7 (by omega))
  clear J0_6
  have I1_7 := I1_6.below (Below.mono hb7 (by omega))
  clear I1_6
  have J1_7 := J1_6.below (Below.mono hb7 (by omega))
  clear J1_6
  have hT7 := hT6.trans (Below.mono hb7 (by omega))
  clear hT6
  clear hb7
  clear yP1_0 yP1_1 yP1_2
  obtain ⟨w8, hw8⟩ : ∃ x, x = w7.alloc (.cells #[.bool s1, .slice (some ⟨g2, 0, none⟩) len1 len1, .slice (some ⟨j2, 0, none⟩) blen1 blen1] 31) := ⟨_, rfl⟩
  have hb8 : Below w7.heap.size w7 w8 := by rw [hw8]; exact below_new _ _
  have hq8 : w7.heap.size < w8.heap.size := by rw [hw8, alloc_size]; omega
  have bn : Box w8 w7.heap.size 31 #[.bool s1, .slice (some ⟨g2, 0, none⟩) len1 len1, .slice (some ⟨j2, 0, none⟩) blen1 blen1] := by rw [hw8]; exact Box.last _ _ _ rfl
  have hs8 := hb8.size
  have o1_8 := o1_7.below hb8 (by omega)
  clear o1_7
  have o2_8 := o2_7.below hb8 (by omega)
  clear o2_7
  have bP0_8 := bP0_7.below hb8 bP0_7.lt
  have lP0_8 := bP0_8.lt
  clear bP0_7 lP0_7
  have bP1_8 := bP1_7.below hb8 bP1_7.lt
  have lP1_8 := bP1_8.lt
  clear bP1_7 lP1_7
  have bx0_8 := bx0_7.below hb8 bx0_7.lt
  have lx0_8 := bx0_8.lt
  clear bx0_7 lx0_7
  have I0_8 := I0_7.below (Below.mono hb8 (by omega))
  clear I0_7
  have J0_8 := J0_7.below (Below.mono hb8 (by omega))
  clear J0_7
  have I1_8 := I1_7.below (Below.mono hb8 (by omega))
  clear I1_7
  have J1_8 := J1_7.below (Below.mono hb8 (by omega))
  clear J1_7
  have hT8 := hT7.trans (Below.mono hb8 (by omega))
  clear hT7
  have bx1_8 := bn
  have lx1_8 := bx1_8.lt
  clear bn hb8 hs8
  go_upto_region 11 with fail
  rw [← hw8]
  clear hw8
  obtain ⟨yx0_0, yx0_1, yx0_2⟩ := bx0_8.cells3
  obtain ⟨yx1_0, yx1_1, yx1_2⟩ := bx1_8.cells3
  go_wp2_with fail
  refine (impl_RatCmp w8 w8.heap.size (Nat.le_refl _) s0 (some ⟨g1, 0, none⟩) len0 len0 xs0 (I0_8.at_ o1_8.rd1) (some ⟨j1, 0, none⟩) blen0 blen0 ds0 (J0_8.at_ o1_8.rd2) s1 (some ⟨g2, 0, none⟩) len1 len1 xs1 (I1_8.at_ o2_8.rd1) (some ⟨j2, 0, none⟩) blen1 blen1 ds1 (J1_8.at_ o2_8.rd2)).mono ?_
  rintro e w9 ⟨rfl, hb9⟩
  have hs9 := hb9.size
  have o1_9 := o1_8.below hb9 (by omega)
  clear o1_8
  have o2_9 := o2_8.below hb9 (by omega)
  clear o2_8
  have bP0_9 := bP0_8.below hb9 bP0_8.lt
  have lP0_9 := bP0_9.lt
  clear bP0_8 lP0_8
  have bP1_9 := bP1_8.below hb9 bP1_8.lt
  have lP1_9 := bP1_9.lt
  clear bP1_8 lP1_8
  have bx0_9 := bx0_8.below hb9 bx0_8.lt
  have lx0_9 := bx0_9.lt
  clear bx0_8 lx0_8
  have bx1_9 := bx1_8.below hb9 bx1_8.lt
  have lx1_9 := bx1_9.lt
  clear bx1_8 lx1_8
  have I0_9 := I0_8.below (Below.mono hb9 (by omega))
  clear I0_8
  have J0_9 := J0_8.below (Below.mono hb9 (by omega))
  clear J0_8
  have I1_9 := I1_8.below (Below.mono hb9 (by omega))
  clear I1_8
  have J1_9 := J1_8.below (Below.mono hb9 (by omega))
  clear J1_8
  have hT9 := hT8.trans (Below.mono hb9 (by omega))
  clear hT8
  clear hb9
  clear yx0_0 yx0_1 yx0_2 yx1_0 yx1_1 yx1_2
  go_upto_region 14 with fail
  obtain ⟨yP0_0, yP0_1, yP0_2⟩ := bP0_9.cells3
  obtain ⟨yx0_0, yx0_1, yx0_2⟩ := bx0_9.cells3
  have HPi := hide bP0_9
  have HPj := hide bx0_9
  have HKS := hide (fun (W : World) (hq : Below w9.heap.size w9 W) => (⟨(HPj.out.below hq HPj.out.lt).cell 0, (HPj.out.below hq HPj.out.lt).cell 1, (HPj.out.below hq HPj.out.lt).cell 2, (HPi.out.below hq HPi.out.lt).cell 0, (HPi.out.below hq HPi.out.lt).cell 1, (HPi.out.below hq HPi.out.lt).cell 2⟩ : W.cell? ⟨w5.heap.size, 0, none⟩ = some (.bool s0) ∧ W.cell? ⟨w5.heap.size, 1, none⟩ = some (.slice (some ⟨g1, 0, none⟩) len0 len0) ∧ W.cell? ⟨w5.heap.size, 2, none⟩ = some (.slice (some ⟨j1, 0, none⟩) blen0 blen0) ∧ W.cell? ⟨w.heap.size, 0, none⟩ = some (.bool s0) ∧ W.cell? ⟨w.heap.size, 1, none⟩ = some (.slice a0 len0 cap0) ∧ W.cell? ⟨w.heap.size, 2, none⟩ = some (.slice b0 blen0 bcap0)))
  have HCi := hide (fun (W : World) (hq : Below w9.heap.size w9 W) => toRat_any W w.heap.size (by have := hT9.size; have := hq.size; omega) s0 a0 len0 cap0 xs0 (I0_9.below (hq.mono hT9.size)) b0 blen0 bcap0 ds0 (J0_9.below (hq.mono hT9.size)))
  have HF := hide (fun (W : World) (p p' : Nat) (hq : Below w9.heap.size w9 W) (r : Rd W W.heap.size (some ⟨p, 0, none⟩) (iv xs0)) (rd : Rd W W.heap.size (some ⟨p', 0, none⟩) (iv ds0)) => eqRat_any W W.heap.size (Nat.le_refl _) s0 (some ⟨g1, 0, none⟩) (some ⟨p, 0, none⟩) len0 len0 len0 xs0 I0_9.1 (o1_9.below hq (by omega)).rd1 r (some ⟨j1, 0, none⟩) (some ⟨p', 0, none⟩) blen0 blen0 blen0 ds0 J0_9.1 (o1_9.below hq (by omega)).rd2 rd (by omega) (by omega))
  have HS0 : Hid (Below w9.heap.size w9 w9.drew) := (Below.refl _ _).drew
  go_region_held3 (fun w' => w'.cell? ⟨w5.heap.size, 0, none⟩ = some (.bool s0) ∧ w'.cell? ⟨w5.heap.size, 1, none⟩ = some (.slice (some ⟨g1, 0, none⟩) len0 len0) ∧ w'.cell? ⟨w5.heap.size, 2, none⟩ = some (.slice (some ⟨j1, 0, none⟩) blen0 blen0) ∧ w'.cell? ⟨w.heap.size, 0, none⟩ = some (.bool s0) ∧ w'.cell? ⟨w.heap.size, 1, none⟩ = some (.slice a0 len0 cap0) ∧ w'.cell? ⟨w.heap.size, 2, none⟩ = some (.slice b0 blen0 bcap0))
      (first | (with_reducible exact HKS.out _ HS2.out) | (with_reducible exact HKS.out _ HS1.out) | (with_reducible exact HKS.out _ HS0.out))
      (first
        | (go_at_call 19; refine (HCi.out _ HS0.out).mono ?_; rintro e u1 ⟨p1, p1', rfl, e1, hb1⟩; have HS1 := hide (below_then HS0.out hb1))
        | (go_at_call 21; refine (HF.out _ _ _ HS1.out e1.rd1 e1.rd2).mono ?_; rintro e u2 ⟨rfl, hb2⟩; have HS2 := hide (below_then HS1.out hb2)))
  have hb10 := HS2.out
  obtain ⟨w10, hw10⟩ : ∃ x, x = u2 := ⟨_, rfl⟩
  subst hw10
  clear HKS HCi HF HS0 HPi HPj HS1 HS2 hb1 hb2 e1
  clear yP0_0 yP0_1 yP0_2 yx0_0 yx0_1 yx0_2
  have hs10 := hb10.size
  have o1_10 := o1_9.below hb10 (by omega)
  clear o1_9
  have o2_10 := o2_9.below hb10 (by omega)
  clear o2_9
  have bP0_10 := bP0_9.below hb10 bP0_9.lt
  have lP0_10 := bP0_10.lt
  clear bP0_9 lP0_9
  have bP1_10 := bP1_9.below hb10 bP1_9.lt
  have lP1_10 := bP1_10.lt
  clear bP1_9 lP1_9
  have bx0_10 := bx0_9.below hb10 bx0_9.lt
  have lx0_10 := bx0_10.lt
  clear bx0_9 lx0_9
  have bx1_10 := bx1_9.below hb10 bx1_9.lt
  have lx1_10 := bx1_10.lt
  clear bx1_9 lx1_9
  have I0_10 := I0_9.below (Below.mono hb10 (by omega))
  clear I0_9
  have J0_10 := J0_9.below (Below.mono hb10 (by omega))
  clear J0_9
  have I1_10 := I1_9.below (Below.mono hb10 (by omega))
  clear I1_9
  have J1_10 := J1_9.below (Below.mono hb10 (by omega))
  clear J1_9
  have hT10 := hT9.trans (Below.mono hb10 (by omega))
  clear hT9
  clear hb10
  go_upto_region 16 with fail
  obtain ⟨yP1_0, yP1_1, yP1_2⟩ := bP1_10.cells3
  obtain ⟨yx1_0, yx1_1, yx1_2⟩ := bx1_10.cells3
  have HPi := hide bP1_10
  have HPj := hide bx1_10
  have HKS := hide (fun (W : World) (hq : Below w10.heap.size w10 W) => (⟨(HPj.out.below hq HPj.out.lt).cell 0, (HPj.out.below hq HPj.out.lt).cell 1, (HPj.out.below hq HPj.out.lt).cell 2, (HPi.out.below hq HPi.out.lt).cell 0, (HPi.out.below hq HPi.out.lt).cell 1, (HPi.out.below hq HPi.out.lt).cell 2⟩ : W.cell? ⟨w7.heap.size, 0, none⟩ = some (.bool s1) ∧ W.cell? ⟨w7.heap.size, 1, none⟩ = some (.slice (some ⟨g2, 0, none⟩) len1 len1) ∧ W.cell? ⟨w7.heap.size, 2, none⟩ = some (.slice (some ⟨j2, 0, none⟩) blen1 blen1) ∧ W.cell? ⟨w.heap.size + 1, 0, none⟩ = some (.bool s1) ∧ W.cell? ⟨w.heap.size + 1, 1, none⟩ = some (.slice a1 len1 cap1) ∧ W.cell? ⟨w.heap.size + 1, 2, none⟩ = some (.slice b1 blen1 bcap1)))
  have HCi := hide (fun (W : World) (hq : Below w10.heap.size w10 W) => toRat_any W w.heap.size (by have := hT10.size; have := hq.size; omega) s1 a1 len1 cap1 xs1 (I1_10.below (hq.mono hT10.size)) b1 blen1 bcap1 ds1 (J1_10.below (hq.mono hT10.size)))
  have HF := hide (fun (W : World) (p p' : Nat) (hq : Below w10.heap.size w10 W) (r : Rd W W.heap.size (some ⟨p, 0, none⟩) (iv xs1)) (rd : Rd W W.heap.size (some ⟨p', 0, none⟩) (iv ds1)) => eqRat_any W W.heap.size (Nat.le_refl _) s1 (some ⟨g2, 0, none⟩) (some ⟨p, 0, none⟩) len1 len1 len1 xs1 I1_10.1 (o2_10.below hq (by omega)).rd1 r (some ⟨j2, 0, none⟩) (some ⟨p', 0, none⟩) blen1 blen1 blen1 ds1 J1_10.1 (o2_10.below hq (by omega)).rd2 rd (by omega) (by omega))
  have HS0 : Hid (Below w10.heap.size w10 w10.drew) := (Below.refl _ _).drew
  go_region_held3 (fun w' => w'.cell? ⟨w7.heap.size, 0, none⟩ = some (.bool s1) ∧ w'.cell? ⟨w7.heap.size, 1, none⟩ = some (.slice (some ⟨g2, 0, none⟩) len1 len1) ∧ w'.cell? ⟨w7.heap.size, 2, none⟩ = some (.slice (some ⟨j2, 0, none⟩) blen1 blen1) ∧ w'.cell? ⟨w.heap.size + 1, 0, none⟩ = some (.bool s1) ∧ w'.cell? ⟨w.heap.size + 1, 1, none⟩ = some (.slice a1 len1 cap1) ∧ w'.cell? ⟨w.heap.size + 1, 2, none⟩ = some (.slice b1 blen1 bcap1))
      (first | (with_reducible exact HKS.out _ HS2.out) | (with_reducible exact HKS.out _ HS1.out) | (with_reducible exact HKS.out _ HS0.out))
      (first
        | (go_at_call 19; refine (HCi.out _ HS0.out).mono ?_; rintro e u1 ⟨p1, p1', rfl, e1, hb1⟩; have HS1 := hide (below_then HS0.out hb1))
        | (go_at_call 21; refine (HF.out _ _ _ HS1.out e1.rd1 e1.rd2).mono ?_; rintro e u2 ⟨rfl, hb2⟩; have HS2 := hide (below_then HS1.out hb2)))
  have hb11 := HS2.out
  obtain ⟨w11, hw11⟩ : ∃ x, x = u2 := ⟨_, rfl⟩
  subst hw11
  clear HKS HCi HF HS0 HPi HPj HS1 HS2 hb1 hb2 e1
  clear yP1_0 yP1_1 yP1_2 yx1_0 yx1_1 yx1_2
  have hs11 := hb11.size
  have o1_11 := o1_10.below hb11 (by omega)
  clear o1_10
  have o2_11 := o2_10.below hb11 (by omega)
  clear o2_10
  have bP0_11 := bP0_10.below hb11 bP0_10.lt
  have lP0_11 := bP0_11.lt
  clear bP0_10 lP0_10
  have bP1_11 := bP1_10.below hb11 bP1_10.lt
  have lP1_11 := bP1_11.lt
  clear bP1_10 lP1_10
  have bx0_11 := bx0_10.below hb11 bx0_10.lt
  have lx0_11 := bx0_11.lt
  clear bx0_10 lx0_10
  have bx1_11 := bx1_10.below hb11 bx1_10.lt
  have lx1_11 := bx1_11.lt
  clear bx1_10 lx1_10
  have I0_11 := I0_10.below (Below.mono hb11 (by omega))
  clear I0_10
  have J0_11 := J0_10.below (Below.mono hb11 (by omega))
  clear J0_10
  have I1_11 := I1_10.below (Below.mono hb11 (by omega))
  clear I1_10
  have J1_11 := J1_10.below (Below.mono hb11 (by omega))
  clear J1_10
  have hT11 := hT10.trans (Below.mono hb11 (by omega))
  clear hT10
  clear hb11
  go_wp2
  go_ret
  exact ⟨rfl, hT11⟩

set_option maxHeartbeats 16000000 in
set_option maxRecDepth 100000 in
theorem FnExactRatEqual_walk (w : World) (s0 : Bool) (a0 : Option Addr) (len0 cap0 : Nat) (z0 : List Int) (f0 : IsRow .i64 w a0 len0 cap0 z0) (b0 : Option Addr) (blen0 bcap0 : Nat) (y0 : List Int) (h0 : IsRow .i64 w b0 blen0 bcap0 y0) (s1 : Bool) (a1 : Option Addr) (len1 cap1 : Nat) (z1 : List Int) (f1 : IsRow .i64 w a1 len1 cap1 z1) (b1 : Option Addr) (blen1 bcap1 : Nat) (y1 : List Int) (h1 : IsRow .i64 w b1 blen1 bcap1 y1) :
    Calls Try.prog 14 #[.agg #[.bool s0, .slice a0 len0 cap0, .slice b0 blen0 bcap0], .agg #[.bool s1, .slice a1 len1 cap1, .slice b1 blen1 bcap1]] w fun e w' => e = .returned (.bool true) ∧ Below w.heap.size w w' := by
  have hm0 := f0.rd.2.2.1
  unfold maxLen at hm0
  have hmb0 := h0.rd.2.2.1
  unfold maxLen at hmb0
  have hm1 := f1.rd.2.2.1
  unfold maxLen at hm1
  have hmb1 := h1.rd.2.2.1
  unfold maxLen at hmb1
  obtain ⟨w1, hw1⟩ : ∃ x, x = ((w.alloc (.cells #[.bool s0, .slice a0 len0 cap0, .slice b0 blen0 bcap0] 26)).alloc (.cells #[.bool s1, .slice a1 len1 cap1, .slice b1 blen1 bcap1] 26)) := ⟨_, rfl⟩
  have hT1 : Below w.heap.size w w1 := by rw [hw1]; exact below_alloc (below_new _ _) _
  have bP0_1 : Box w1 (w.heap.size) 26 #[.bool s0, .slice a0 len0 cap0, .slice b0 blen0 bcap0] := by rw [hw1]; exact (Box.last _ _ _ rfl).alloc _
  have lP0_1 := bP0_1.lt
  have lqP0 := bP0_1.lt
  have bP1_1 : Box w1 (w.heap.size + 1) 26 #[.bool s1, .slice a1 len1 cap1, .slice b1 blen1 bcap1] := by rw [hw1]; exact Box.last _ _ _ (by simp only [alloc_size])
  have lP1_1 := bP1_1.lt
  have lqP1 := bP1_1.lt
  have hs1 := hT1.size
  go_enter Try.func14, Try.ntmps14
  go_upto_region 1 with fail
  rw [← hw1]
  clear hw1
  obtain ⟨yP0_0, yP0_1, yP0_2⟩ := bP0_1.cells3
  go_wp2_with fail
  refine (szRat_any w1 s0 a0 len0 cap0 b0 blen0 bcap0 1048576 (by omega) (by omega) (by omega)).mono ?_
  rintro e w2 ⟨rfl, hb2⟩
  clear yP0_0 yP0_1 yP0_2
  have hs2 := hb2.size
  have bP0_2 := bP0_1.below hb2 bP0_1.lt
  have lP0_2 := bP0_2.lt
  clear bP0_1 lP0_1
  have bP1_2 := bP1_1.below hb2 bP1_1.lt
  have lP1_2 := bP1_2.lt
  clear bP1_1 lP1_1
  have hT2 := hT1.trans (Below.mono hb2 (by omega))
  clear hT1 hb2
  by_cases cz0 : ¬ (len0 + blen0) ≤ 1048576
  · have hle : leftI 1048576 (len0 + blen0) = -1 := if_neg cz0
    rw [hle]
    clear hle
    go_wp2_with fail
    go_ret
    exact ⟨rfl, hT2⟩
  have cz0 := Decidable.not_not.1 cz0
  obtain ⟨L0, hL0⟩ : ∃ L : Nat, L + (len0 + blen0) = 1048576 := ⟨1048576 - (len0 + blen0), by omega⟩
  have hle : leftI 1048576 (len0 + blen0) = (L0 : Int) := by rw [leftI, if_pos cz0]; omega
  rw [hle]
  clear hle
  have hng0 : ¬ (L0 : Int) < 0 := by omega
  have hn0 : len0 ≤ 1048576 := by omega
  have hbn0 : blen0 ≤ 1048576 := by omega
  have HLe0 := hide hL0
  have hLb0 : L0 ≤ 1048576 := by omega
  clear hL0 cz0
  obtain ⟨yP1_0, yP1_1, yP1_2⟩ := bP1_2.cells3
  go_wp2_with fail
  refine (szRat_any w2 s1 a1 len1 cap1 b1 blen1 bcap1 L0 (by omega) (by omega) (by omega)).mono ?_
  rintro e w3 ⟨rfl, hb3⟩
  clear yP1_0 yP1_1 yP1_2
  have hs3 := hb3.size
  have bP0_3 := bP0_2.below hb3 bP0_2.lt
  have lP0_3 := bP0_3.lt
  clear bP0_2 lP0_2
  have bP1_3 := bP1_2.below hb3 bP1_2.lt
  have lP1_3 := bP1_3.lt
  clear bP1_2 lP1_2
  have hT3 := hT2.trans (Below.mono hb3 (by omega))
  clear hT2 hb3
  by_cases cz1 : ¬ (len1 + blen1) ≤ L0
  · have hle : leftI L0 (len1 + blen1) = -1 := if_neg cz1
    rw [hle]
    clear hle
    go_wp2_with fail
    go_ret
    exact ⟨rfl, hT3⟩
  have cz1 := Decidable.not_not.1 cz1
  obtain ⟨L1, hL1⟩ : ∃ L : Nat, L + (len1 + blen1) = L0 := ⟨L0 - (len1 + blen1), by omega⟩
  have hle : leftI L0 (len1 + blen1) = (L1 : Int) := by rw [leftI, if_pos cz1]; omega
  rw [hle]
  clear hle
  have hng1 : ¬ (L1 : Int) < 0 := by omega
  have hn1 : len1 ≤ 1048576 := by omega
  have hbn1 : blen1 ≤ 1048576 := by omega
  have HLe1 := hide hL1
  have hLb1 : L1 ≤ 1048576 := by omega
  clear hL1 cz1
  obtain ⟨xs0, J0⟩ := f0.rdI hn0
  have I0_3 := J0.below hT3
  clear J0 f0
  obtain ⟨ds0, J0⟩ := h0.rdI hbn0
  have J0_3 := J0.below hT3
  clear J0 h0
  obtain ⟨xs1, J0⟩ := f1.rdI hn1
  have I1_3 := J0.below hT3
  clear J0 f1
  obtain ⟨ds1, J0⟩ := h1.rdI hbn1
  have J1_3 := J0.below hT3
  clear J0 h1
  go_upto_region 8 with fail
  obtain ⟨yP0_0, yP0_1, yP0_2⟩ := bP0_3.cells3
  obtain ⟨yP1_0, yP1_1, yP1_2⟩ := bP1_3.cells3
  have HPi := hide bP0_3
  have HPj := hide bP1_3
  have HKS := hide (fun (W : World) (hq : Below w3.heap.size w3 W) => (⟨(HPi.out.below hq HPi.out.lt).cell 0, (HPi.out.below hq HPi.out.lt).cell 1, (HPi.out.below hq HPi.out.lt).cell 2, (HPj.out.below hq HPj.out.lt).cell 0, (HPj.out.below hq HPj.out.lt).cell 1, (HPj.out.below hq HPj.out.lt).cell 2⟩ : W.cell? ⟨w.heap.size, 0, none⟩ = some (.bool s0) ∧ W.cell? ⟨w.heap.size, 1, none⟩ = some (.slice a0 len0 cap0) ∧ W.cell? ⟨w.heap.size, 2, none⟩ = some (.slice b0 blen0 bcap0) ∧ W.cell? ⟨w.heap.size + 1, 0, none⟩ = some (.bool s1) ∧ W.cell? ⟨w.heap.size + 1, 1, none⟩ = some (.slice a1 len1 cap1) ∧ W.cell? ⟨w.heap.size + 1, 2, none⟩ = some (.slice b1 blen1 bcap1)))
  have HCi := hide (fun (W : World) (hq : Below w3.heap.size w3 W) => toRat_any W w.heap.size (by have := hT3.size; have := hq.size; omega) s0 a0 len0 cap0 xs0 (I0_3.below (hq.mono hT3.size)) b0 blen0 bcap0 ds0 (J0_3.below (hq.mono hT3.size)))
  have HCj := hide (fun (W : World) (hq : Below w3.heap.size w3 W) => toRat_any W w.heap.size (by have := hT3.size; have := hq.size; omega) s1 a1 len1 cap1 xs1 (I1_3.below (hq.mono hT3.size)) b1 blen1 bcap1 ds1 (J1_3.below (hq.mono hT3.size)))
  have HF := hide (fun (W : World) (p : Nat) (r : Rd W W.heap.size (some ⟨p, 0, none⟩) (iv xs0)) (p' : Nat) (rd : Rd W W.heap.size (some ⟨p', 0, none⟩) (iv ds0)) (q : Nat) (r' : Rd W W.heap.size (some ⟨q, 0, none⟩) (iv xs1)) (q' : Nat) (r'd : Rd W W.heap.size (some ⟨q', 0, none⟩) (iv ds1)) => spec_RatEqual W W.heap.size (Nat.le_refl _) s0 (some ⟨p, 0, none⟩) len0 len0 xs0 (I0_3.at_ r) (some ⟨p', 0, none⟩) blen0 blen0 ds0 (J0_3.at_ rd) s1 (some ⟨q, 0, none⟩) len1 len1 xs1 (I1_3.at_ r') (some ⟨q', 0, none⟩) blen1 blen1 ds1 (J1_3.at_ r'd))
  have HS0 : Hid (Below w3.heap.size w3 w3.drew) := (Below.refl _ _).drew
  go_region_held3 (fun w' => w'.cell? ⟨w.heap.size, 0, none⟩ = some (.bool s0) ∧ w'.cell? ⟨w.heap.size, 1, none⟩ = some (.slice a0 len0 cap0) ∧ w'.cell? ⟨w.heap.size, 2, none⟩ = some (.slice b0 blen0 bcap0) ∧ w'.cell? ⟨w.heap.size + 1, 0, none⟩ = some (.bool s1) ∧ w'.cell? ⟨w.heap.size + 1, 1, none⟩ = some (.slice a1 len1 cap1) ∧ w'.cell? ⟨w.heap.size + 1, 2, none⟩ = some (.slice b1 blen1 bcap1))
      (first | (with_reducible exact HKS.out _ HS3.out) | (with_reducible exact HKS.out _ HS2.out) | (with_reducible exact HKS.out _ HS1.out) | (with_reducible exact HKS.out _ HS0.out))
      (first
        | (go_at_call_has 19 a0; refine (HCi.out _ HS0.out).mono ?_; rintro e u1 ⟨p1, p1', rfl, e1, hb1⟩; have hz1 := hb1.size; have HS1 := hide (below_then HS0.out hb1))
        | (go_at_call_has 19 a1; refine (HCj.out _ HS1.out).mono ?_; rintro e u2 ⟨p2, p2', rfl, e2, hb2⟩; have hz2 := hb2.size; have HS2 := hide (below_then HS1.out hb2); have r1 : Rd u2 u2.heap.size (some ⟨p1, 0, none⟩) (iv xs0) := (by first | (with_reducible exact (e1.below hb2 (Nat.le_refl _)).rd1) | (with_reducible exact ((e1.below (below_new u1 _) (Nat.le_refl _)).below hb2 (by rw [alloc_size]; omega)).rd1)); have r1d : Rd u2 u2.heap.size (some ⟨p1', 0, none⟩) (iv ds0) := (by first | (with_reducible exact (e1.below hb2 (Nat.le_refl _)).rd2) | (with_reducible exact ((e1.below (below_new u1 _) (Nat.le_refl _)).below hb2 (by rw [alloc_size]; omega)).rd2)); have r2 := e2.rd1; have r2d := e2.rd2)
        | (go_at_call 48; refine (HF.out _ _ r1 _ r1d _ r2 _ r2d).mono ?_; rintro e u3 ⟨rfl, hb3⟩; have hz3 := hb3.size; have HS3 := hide (below_then HS2.out hb3)))
  have hb4 := HS3.out
  obtain ⟨w4, hw4⟩ : ∃ x, x = u3 := ⟨_, rfl⟩
  subst hw4
  clear HKS HCi HCj HF HS0 HPi HPj HS1 HS2 HS3 hb1 hb2 hb3 e1 e2 r1 r2 hz1 hz2 hz3 r1d r2d
  clear yP0_0 yP0_1 yP0_2 yP1_0 yP1_1 yP1_2
  have hs4 := hb4.size
  have bP0_4 := bP0_3.below hb4 bP0_3.lt
  have lP0_4 := bP0_4.lt
  clear bP0_3 lP0_3
  have bP1_4 := bP1_3.below hb4 bP1_3.lt
  have lP1_4 := bP1_4.lt
  clear bP1_3 lP1_3
  have I0_4 := I0_3.below (Below.mono hb4 (by omega))
  clear I0_3
  have J0_4 := J0_3.below (Below.mono hb4 (by omega))
  clear J0_3
  have I1_4 := I1_3.below (Below.mono hb4 (by omega))
  clear I1_3
  have J1_4 := J1_3.below (Below.mono hb4 (by omega))
  clear J1_3
  have hT4 := hT3.trans (Below.mono hb4 (by omega))
  clear hT3
  clear hb4
  obtain ⟨yP0_0, yP0_1, yP0_2⟩ := bP0_4.cells3
  go_wp2_with fail
  refine (toRat_any w4 w.heap.size hT4.size s0 a0 len0 cap0 xs0 I0_4 b0 blen0 bcap0 ds0 J0_4).mono ?_
  rintro e w5 ⟨g1, j1, rfl, o1_5, hb5⟩
  have hs5 := hb5.size
  have bP0_5 := bP0_4.below hb5 bP0_4.lt
  have lP0_5 := bP0_5.lt
  clear bP0_4 lP0_4
  have bP1_5 := bP1_4.below hb5 bP1_4.lt
  have lP1_5 := bP1_5.lt
  clear bP1_4 lP1_4
  have I0_5 := I0_4.below (Below.mono hb5 (by omega))
  clear I0_4
  have J0_5 := J0_4.below (Below.mono hb5 (by omega))
  clear J0_4
  have I1_5 := I1_4.below (Below.mono hb5 (by omega))
  clear I1_4
  have J1_5 := J1_4.below (Below.mono hb5 (by omega))
  clear J1_4
  have hT5 := hT4.trans (Below.mono hb5 (by omega))
  clear hT4
  clear hb5
  clear yP0_0 yP0_1 yP0_2
  obtain ⟨w6, hw6⟩ : ∃ x, x = w5.alloc (.cells #[.bool s0, .slice (some ⟨g1, 0, none⟩) len0 len0, .slice (some ⟨j1, 0, none⟩) blen0 blen0] 31) := ⟨_, rfl⟩
  have hb6 : Below w5.heap.size w5 w6 := by rw [hw6]; exact below_new _ _
  have hq6 : w5.heap.size < w6.heap.size := by rw [hw6, alloc_size]; omega
  have bn : Box w6 w5.heap.size 31 #[.bool s0, .slice (some ⟨g1, 0, none⟩) len0 len0, .slice (some ⟨j1, 0, none⟩) blen0 blen0] := by rw [hw6]; exact Box.last _ _ _ rfl
  have hs6 := hb6.size
  have o1_6 := o1_5.below hb6 (by omega)
  clear o1_5
  have bP0_6 := bP0_5.below hb6 bP0_5.lt
  have lP0_6 := bP0_6.lt
  clear bP0_5 lP0_5
  have bP1_6 := bP1_5.below hb6 bP1_5.lt
  have lP1_6 := bP1_6.lt
  clear bP1_5 lP1_5
  have I0_6 := I0_5.below (Below.mono hb6 (by omega))
  clear I0_5
  have J0_6 := J0_5.below (Below.mono hb6 (by omega))
  clear J0_5
  have I1_6 := I1_5.below (Below.mono hb6 (by omega))
  clear I1_5
  have J1_6 := J1_5.below (Below.mono hb6 (by omega))
  clear J1_5
  have hT6 := hT5.trans (Below.mono hb6 (by omega))
  clear hT5
  have bx0_6 := bn
  have lx0_6 := bx0_6.lt
  clear bn hb6 hs6
  go_upto_region 10 with fail
  rw [← hw6]
  clear hw6
  obtain ⟨yP1_0, yP1_1, yP1_2⟩ := bP1_6.cells3
  go_wp2_with fail
  refine (toRat_any w6 w.heap.size hT6.size s1 a1 len1 cap1 xs1 I1_6 b1 blen1 bcap1 ds1 J1_6).mono ?_
  rintro e w7 ⟨g2, j2, rfl, o2_7, hb7⟩
  have hs7 := hb7.size
  have o1_7 := o1_6.below hb7 (by omega)
  clear o1_6
  have bP0_7 := bP0_6.below hb7 bP0_6.lt
  have lP0_7 := bP0_7.lt
  clear bP0_6 lP0_6
  have bP1_7 := bP1_6.below hb7 bP1_6.lt
  have lP1_7 := bP1_7.lt
  clear bP1_6 lP1_6
  have bx0_7 := bx0_6.below hb7 bx0_6.lt
  have lx0_7 := bx0_7.lt
  clear bx0_6 lx0_6
  have I0_7 := I0_6.below (Below.mono hb7 (by omega))
  clear I0_6
  have J0_7 := J0_6.below (Below.mono hb7 (by omega))
  clear J0_6
  have I1_7 := I1_6.below (Below.mono hb7 (by omega))
  clear I1_6
  have J1_7 := J1_6.below (Below.mono hb7 (by omega))
  clear J1_6
  have hT7 := hT6.trans (Below.mono hb7 (by omega))
  clear hT6
  clear hb7
  clear yP1_0 yP1_1 yP1_2
  obtain ⟨w8, hw8⟩ : ∃ x, x = w7.alloc (.cells #[.bool s1, .slice (some ⟨g2, 0, none⟩) len1 len1, .slice (some ⟨j2, 0, none⟩) blen1 blen1] 31) := ⟨_, rfl⟩
  have hb8 : Below w7.heap.size w7 w8 := by rw [hw8]; exact below_new _ _
  have hq8 : w7.heap.size < w8.heap.size := by rw [hw8, alloc_size]; omega
  have bn : Box w8 w7.heap.size 31 #[.bool s1, .slice (some ⟨g2, 0, none⟩) len1 len1, .slice (some ⟨j2, 0, none⟩) blen1 blen1] := by rw [hw8]; exact Box.last _ _ _ rfl
  have hs8 := hb8.size
  have o1_8 := o1_7.below hb8 (by omega)
  clear o1_7
  have o2_8 := o2_7.below hb8 (by omega)
  clear o2_7
  have bP0_8 := bP0_7.below hb8 bP0_7.lt
  have lP0_8 := bP0_8.lt
  clear bP0_7 lP0_7
  have bP1_8 := bP1_7.below hb8 bP1_7.lt
  have lP1_8 := bP1_8.lt
  clear bP1_7 lP1_7
  have bx0_8 := bx0_7.below hb8 bx0_7.lt
  have lx0_8 := bx0_8.lt
  clear bx0_7 lx0_7
  have I0_8 := I0_7.below (Below.mono hb8 (by omega))
  clear I0_7
  have J0_8 := J0_7.below (Below.mono hb8 (by omega))
  clear J0_7
  have I1_8 := I1_7.below (Below.mono hb8 (by omega))
  clear I1_7
  have J1_8 := J1_7.below (Below.mono hb8 (by omega))
  clear J1_7
  have hT8 := hT7.trans (Below.mono hb8 (by omega))
  clear hT7
  have bx1_8 := bn
  have lx1_8 := bx1_8.lt
  clear bn hb8 hs8
  go_upto_region 11 with fail
  rw [← hw8]
  clear hw8
  obtain ⟨yx0_0, yx0_1, yx0_2⟩ := bx0_8.cells3
  obtain ⟨yx1_0, yx1_1, yx1_2⟩ := bx1_8.cells3
  go_wp2_with fail
  refine (impl_RatEqual w8 w8.heap.size (Nat.le_refl _) s0 (some ⟨g1, 0, none⟩) len0 len0 xs0 (I0_8.at_ o1_8.rd1) (some ⟨j1, 0, none⟩) blen0 blen0 ds0 (J0_8.at_ o1_8.rd2) s1 (some ⟨g2, 0, none⟩) len1 len1 xs1 (I1_8.at_ o2_8.rd1) (some ⟨j2, 0, none⟩) blen1 blen1 ds1 (J1_8.at_ o2_8.rd2)).mono ?_
  rintro e w9 ⟨rfl, hb9⟩
  have hs9 := hb9.size
  have o1_9 := o1_8.below hb9 (by omega)
  clear o1_8
  have o2_9 := o2_8.below hb9 (by omega)
  clear o2_8
  have bP0_9 := bP0_8.below hb9 bP0_8.lt
  have lP0_9 := bP0_9.lt
  clear bP0_8 lP0_8
  have bP1_9 := bP1_8.below hb9 bP1_8.lt
  have lP1_9 := bP1_9.lt
  clear bP1_8 lP1_8
  have bx0_9 := bx0_8.below hb9 bx0_8.lt
  have lx0_9 := bx0_9.lt
  clear bx0_8 lx0_8
  have bx1_9 := bx1_8.below hb9 bx1_8.lt
  have lx1_9 := bx1_9.lt
  clear bx1_8 lx1_8
  have I0_9 := I0_8.below (Below.mono hb9 (by omega))
  clear I0_8
  have J0_9 := J0_8.below (Below.mono hb9 (by omega))
  clear J0_8
  have I1_9 := I1_8.below (Below.mono hb9 (by omega))
  clear I1_8
  have J1_9 := J1_8.below (Below.mono hb9 (by omega))
  clear J1_8
  have hT9 := hT8.trans (Below.mono hb9 (by omega))
  clear hT8
  clear hb9
  clear yx0_0 yx0_1 yx0_2 yx1_0 yx1_1 yx1_2
  go_upto_region 14 with fail
  obtain ⟨yP0_0, yP0_1, yP0_2⟩ := bP0_9.cells3
  obtain ⟨yx0_0, yx0_1, yx0_2⟩ := bx0_9.cells3
  have HPi := hide bP0_9
  have HPj := hide bx0_9
  have HKS := hide (fun (W : World) (hq : Below w9.heap.size w9 W) => (⟨(HPj.out.below hq HPj.out.lt).cell 0, (HPj.out.below hq HPj.out.lt).cell 1, (HPj.out.below hq HPj.out.lt).cell 2, (HPi.out.below hq HPi.out.lt).cell 0, (HPi.out.below hq HPi.out.lt).cell 1, (HPi.out.below hq HPi.out.lt).cell 2⟩ : W.cell? ⟨w5.heap.size, 0, none⟩ = some (.bool s0) ∧ W.cell? ⟨w5.heap.size, 1, none⟩ = some (.slice (some ⟨g1, 0, none⟩) len0 len0) ∧ W.cell? ⟨w5.heap.size, 2, none⟩ = some (.slice (some ⟨j1, 0, none⟩) blen0 blen0) ∧ W.cell? ⟨w.heap.size, 0, none⟩ = some (.bool s0) ∧ W.cell? ⟨w.heap.size, 1, none⟩ = some (.slice a0 len0 cap0) ∧ W.cell? ⟨w.heap.size, 2, none⟩ = some (.slice b0 blen0 bcap0)))
  have HCi := hide (fun (W : World) (hq : Below w9.heap.size w9 W) => toRat_any W w.heap.size (by have := hT9.size; have := hq.size; omega) s0 a0 len0 cap0 xs0 (I0_9.below (hq.mono hT9.size)) b0 blen0 bcap0 ds0 (J0_9.below (hq.mono hT9.size)))
  have HF := hide (fun (W : World) (p p' : Nat) (hq : Below w9.heap.size w9 W) (r : Rd W W.heap.size (some ⟨p, 0, none⟩) (iv xs0)) (rd : Rd W W.heap.size (some ⟨p', 0, none⟩) (iv ds0)) => eqRat_any W W.heap.size (Nat.le_refl _) s0 (some ⟨g1, 0, none⟩) (some ⟨p, 0, none⟩) len0 len0 len0 xs0 I0_9.1 (o1_9.below hq (by omega)).rd1 r (some ⟨j1, 0, none⟩) (some ⟨p', 0, none⟩) blen0 blen0 blen0 ds0 J0_9.1 (o1_9.below hq (by omega)).rd2 rd (by omega) (by omega))
  have HS0 : Hid (Below w9.heap.size w9 w9.drew) := (Below.refl _ _).drew
  go_region_held3 (fun w' => w'.cell? ⟨w5.heap.size, 0, none⟩ = some (.bool s0) ∧ w'.cell? ⟨w5.heap.size, 1, none⟩ = some (.slice (some ⟨g1, 0, none⟩) len0 len0) ∧ w'.cell? ⟨w5.heap.size, 2, none⟩ = some (.slice (some ⟨j1, 0, none⟩) blen0 blen0) ∧ w'.cell? ⟨w.heap.size, 0, none⟩ = some (.bool s0) ∧ w'.cell? ⟨w.heap.size, 1, none⟩ = some (.slice a0 len0 cap0) ∧ w'.cell? ⟨w.heap.size, 2, none⟩ = some (.slice b0 blen0 bcap0))
      (first | (with_reducible exact HKS.out _ HS2.out) | (with_reducible exact HKS.out _ HS1.out) | (with_reducible exact HKS.out _ HS0.out))
      (first
        | (go_at_call 19; refine (HCi.out _ HS0.out).mono ?_; rintro e u1 ⟨p1, p1', rfl, e1, hb1⟩; have HS1 := hide (below_then HS0.out hb1))
        | (go_at_call 21; refine (HF.out _ _ _ HS1.out e1.rd1 e1.rd2).mono ?_; rintro e u2 ⟨rfl, hb2⟩; have HS2 := hide (below_then HS1.out hb2)))
  have hb10 := HS2.out
  obtain ⟨w10, hw10⟩ : ∃ x, x = u2 := ⟨_, rfl⟩
  subst hw10
  clear HKS HCi HF HS0 HPi HPj HS1 HS2 hb1 hb2 e1
  clear yP0_0 yP0_1 yP0_2 yx0_0 yx0_1 yx0_2
  have hs10 := hb10.size
  have o1_10 := o1_9.below hb10 (by omega)
  clear o1_9
  have o2_10 := o2_9.below hb10 (by omega)
  clear o2_9
  have bP0_10 := bP0_9.below hb10 bP0_9.lt
  have lP0_10 := bP0_10.lt
  clear bP0_9 lP0_9
  have bP1_10 := bP1_9.below hb10 bP1_9.lt
  have lP1_10 := bP1_10.lt
  clear bP1_9 lP1_9
  have bx0_10 := bx0_9.below hb10 bx0_9.lt
  have lx0_10 := bx0_10.lt
  clear bx0_9 lx0_9
  have bx1_10 := bx1_9.below hb10 bx1_9.lt
  have lx1_10 := bx1_10.lt
  clear bx1_9 lx1_9
  have I0_10 := I0_9.below (Below.mono hb10 (by omega))
  clear I0_9
  have J0_10 := J0_9.below (Below.mono hb10 (by omega))
  clear J0_9
  have I1_10 := I1_9.below (Below.mono hb10 (by omega))
  clear I1_9
  have J1_10 := J1_9.below (Below.mono hb10 (by omega))
  clear J1_9
  have hT10 := hT9.trans (Below.mono hb10 (by omega))
  clear hT9
  clear hb10
  go_upto_region 16 with fail
  obtain ⟨yP1_0, yP1_1, yP1_2⟩ := bP1_10.cells3
  obtain ⟨yx1_0, yx1_1, yx1_2⟩ := bx1_10.cells3
  have HPi := hide bP1_10
  have HPj := hide bx1_10
  have HKS := hide (fun (W : World) (hq : Below w10.heap.size w10 W) => (⟨(HPj.out.below hq HPj.out.lt).cell 0, (HPj.out.below hq HPj.out.lt).cell 1, (HPj.out.below hq HPj.out.lt).cell 2, (HPi.out.below hq HPi.out.lt).cell 0, (HPi.out.below hq HPi.out.lt).cell 1, (HPi.out.below hq HPi.out.lt).cell 2⟩ : W.cell? ⟨w7.heap.size, 0, none⟩ = some (.bool s1) ∧ W.cell? ⟨w7.heap.size, 1, none⟩ = some (.slice (some ⟨g2, 0, none⟩) len1 len1) ∧ W.cell? ⟨w7.heap.size, 2, none⟩ = some (.slice (some ⟨j2, 0, none⟩) blen1 blen1) ∧ W.cell? ⟨w.heap.size + 1, 0, none⟩ = some (.bool s1) ∧ W.cell? ⟨w.heap.size + 1, 1, none⟩ = some (.slice a1 len1 cap1) ∧ W.cell? ⟨w.heap.size + 1, 2, none⟩ = some (.slice b1 blen1 bcap1)))
  have HCi := hide (fun (W : World) (hq : Below w10.heap.size w10 W) => toRat_any W w.heap.size (by have := hT10.size; have := hq.size; omega) s1 a1 len1 cap1 xs1 (I1_10.below (hq.mono hT10.size)) b1 blen1 bcap1 ds1 (J1_10.below (hq.mono hT10.size)))
  have HF := hide (fun (W : World) (p p' : Nat) (hq : Below w10.heap.size w10 W) (r : Rd W W.heap.size (some ⟨p, 0, none⟩) (iv xs1)) (rd : Rd W W.heap.size (some ⟨p', 0, none⟩) (iv ds1)) => eqRat_any W W.heap.size (Nat.le_refl _) s1 (some ⟨g2, 0, none⟩) (some ⟨p, 0, none⟩) len1 len1 len1 xs1 I1_10.1 (o2_10.below hq (by omega)).rd1 r (some ⟨j2, 0, none⟩) (some ⟨p', 0, none⟩) blen1 blen1 blen1 ds1 J1_10.1 (o2_10.below hq (by omega)).rd2 rd (by omega) (by omega))
  have HS0 : Hid (Below w10.heap.size w10 w10.drew) := (Below.refl _ _).drew
  go_region_held3 (fun w' => w'.cell? ⟨w7.heap.size, 0, none⟩ = some (.bool s1) ∧ w'.cell? ⟨w7.heap.size, 1, none⟩ = some (.slice (some ⟨g2, 0, none⟩) len1 len1) ∧ w'.cell? ⟨w7.heap.size, 2, none⟩ = some (.slice (some ⟨j2, 0, none⟩) blen1 blen1) ∧ w'.cell? ⟨w.heap.size + 1, 0, none⟩ = some (.bool s1) ∧ w'.cell? ⟨w.heap.size + 1, 1, none⟩ = some (.slice a1 len1 cap1) ∧ w'.cell? ⟨w.heap.size + 1, 2, none⟩ = some (.slice b1 blen1 bcap1))
      (first | (with_reducible exact HKS.out _ HS2.out) | (with_reducible exact HKS.out _ HS1.out) | (with_reducible exact HKS.out _ HS0.out))
      (first
        | (go_at_call 19; refine (HCi.out _ HS0.out).mono ?_; rintro e u1 ⟨p1, p1', rfl, e1, hb1⟩; have HS1 := hide (below_then HS0.out hb1))
        | (go_at_call 21; refine (HF.out _ _ _ HS1.out e1.rd1 e1.rd2).mono ?_; rintro e u2 ⟨rfl, hb2⟩; have HS2 := hide (below_then HS1.out hb2)))
  have hb11 := HS2.out
  obtain ⟨w11, hw11⟩ : ∃ x, x = u2 := ⟨_, rfl⟩
  subst hw11
  clear HKS HCi HF HS0 HPi HPj HS1 HS2 hb1 hb2 e1
  clear yP1_0 yP1_1 yP1_2 yx1_0 yx1_1 yx1_2
  have hs11 := hb11.size
  have o1_11 := o1_10.below hb11 (by omega)
  clear o1_10
  have o2_11 := o2_10.below hb11 (by omega)
  clear o2_10
  have bP0_11 := bP0_10.below hb11 bP0_10.lt
  have lP0_11 := bP0_11.lt
  clear bP0_10 lP0_10
  have bP1_11 := bP1_10.below hb11 bP1_10.lt
  have lP1_11 := bP1_11.lt
  clear bP1_10 lP1_10
  have bx0_11 := bx0_10.below hb11 bx0_10.lt
  have lx0_11 := bx0_11.lt
  clear bx0_10 lx0_10
  have bx1_11 := bx1_10.below hb11 bx1_10.lt
  have lx1_11 := bx1_11.lt
  clear bx1_10 lx1_10
  have I0_11 := I0_10.below (Below.mono hb11 (by omega))
  clear I0_10
  have J0_11 := J0_10.below (Below.mono hb11 (by omega))
  clear J0_10
  have I1_11 := I1_10.below (Below.mono hb11 (by omega))
  clear I1_10
  have J1_11 := J1_10.below (Below.mono hb11 (by omega))
  clear J1_10
  have hT11 := hT10.trans (Below.mono hb11 (by omega))
  clear hT10
  clear hb11
  go_wp2
  go_ret
  exact ⟨rfl, hT11⟩
end Go.Proofs.Ytiiedfhcandjdaa
