/-
  The exact laws' walks: fractions, RatW12.
-/
import Derived.Test.YtiiedfhcandjdaaDoorRatL
import Derived.Test.YtiiedfhcandjdaaDoorRatS
import Derived.Deep.CutRange
import Derived.Deep.RegionHeld3
import Derived.Sort.AtCall
namespace Go.Proofs.YtiiedfhcandjdaaDoor
open Go.RowKit
set_option linter.unusedVariables false

set_option maxHeartbeats 16000000 in
set_option maxRecDepth 100000 in
theorem FnExactFormatRat_walk (w : World) (s0 : Bool) (a0 : Option Addr) (len0 cap0 : Nat) (z0 : List Int) (f0 : IsRow .i64 w a0 len0 cap0 z0) (b0 : Option Addr) (blen0 bcap0 : Nat) (y0 : List Int) (h0 : IsRow .i64 w b0 blen0 bcap0 y0) (hPT : PowTab w) :
    Calls Tryd.prog 3 #[.agg #[.bool s0, .slice a0 len0 cap0, .slice b0 blen0 bcap0]] w fun e w' => e = .returned (.bool true) ∧ Below w.heap.size w w' := by
  have hm0 := f0.rd.2.2.1
  unfold maxLen at hm0
  have hmb0 := h0.rd.2.2.1
  unfold maxLen at hmb0
  obtain ⟨w1, hw1⟩ : ∃ x, x = (w.alloc (.cells #[.bool s0, .slice a0 len0 cap0, .slice b0 blen0 bcap0] 26)) := ⟨_, rfl⟩
  have hT1 : Below w.heap.size w w1 := by rw [hw1]; exact below_new _ _
  have bP0_1 : Box w1 (w.heap.size) 26 #[.bool s0, .slice a0 len0 cap0, .slice b0 blen0 bcap0] := by rw [hw1]; exact Box.last _ _ _ rfl
  have lP0_1 := bP0_1.lt
  have lqP0 := bP0_1.lt
  have hs1 := hT1.size
  go_enter Tryd.func3, Tryd.ntmps3
  go_upto_region 1 with fail
  rw [← hw1]
  clear hw1
  obtain ⟨yP0_0, yP0_1, yP0_2⟩ := bP0_1.cells3
  go_wp2_with fail
  refine (szRat_any w1 s0 a0 len0 cap0 b0 blen0 bcap0 1048576 (by omega) (by omega) (by omega)).mono ?_
  rintro e w2 ⟨rfl, hb2⟩
  clear yP0_0 yP0_1 yP0_2
  have hs2 := hb2.size
  have bP0_2 := bP0_1.below hb2 bP0_1.lt
  have lP0_2 := bP0_2.lt
  clear bP0_1 lP0_1
  have hT2 := hT1.trans (Below.mono hb2 (by omega))
  clear hT1 hb2
  by_cases cz0 : ¬ (len0 + blen0) ≤ 1048576
  · have hle : leftI 1048576 (len0 + blen0) = -1 := if_neg cz0
    rw [hle]
    clear hle
    go_wp2_with fail
    go_ret
    exact ⟨rfl, hT2⟩
  have cz0 := Decidable.not_not.1 cz0
  obtain ⟨L0, hL0⟩ : ∃ L : Nat, L + (len0 + blen0) = 1048576 := ⟨1048576 - (len0 + blen0), by omega⟩
  have hle : leftI 1048576 (len0 + blen0) = (L0 : Int) := by rw [leftI, if_pos cz0]; omega
  rw [hle]
  clear hle
  have hng0 : ¬ (L0 : Int) < 0 := by omega
  have hn0 : len0 ≤ 1048576 := by omega
  have hbn0 : blen0 ≤ 1048576 := by omega
  have HLe0 := hide hL0
  have hLb0 : L0 ≤ 1048576 := by omega
  clear hL0 cz0
  obtain ⟨xs0, J0⟩ := f0.rdI hn0
  have I0_2 := J0.below hT2
  clear J0 f0
  obtain ⟨ds0, J0⟩ := h0.rdI hbn0
  have J0_2 := J0.below hT2
  clear J0 h0
  obtain ⟨yP0_0, yP0_1, yP0_2⟩ := bP0_2.cells3
  go_wp2_with fail
  refine (toRat_any w2 w.heap.size hT2.size s0 a0 len0 cap0 xs0 I0_2 b0 blen0 bcap0 ds0 J0_2).mono ?_
  rintro e w3 ⟨g0, j0, rfl, o0_3, hb3⟩
  have hs3 := hb3.size
  have bP0_3 := bP0_2.below hb3 bP0_2.lt
  have lP0_3 := bP0_3.lt
  clear bP0_2 lP0_2
  have I0_3 := I0_2.below (Below.mono hb3 (by omega))
  clear I0_2
  have J0_3 := J0_2.below (Below.mono hb3 (by omega))
  clear J0_2
  have hT3 := hT2.trans (Below.mono hb3 (by omega))
  clear hT2
  clear hb3
  clear yP0_0 yP0_1 yP0_2
  go_wp2_with fail
  refine (spec_FormatRat w3 w3.heap.size (Nat.le_refl _) s0 (some ⟨g0, 0, none⟩) len0 len0 xs0 (I0_3.at_ o0_3.rd1) (some ⟨j0, 0, none⟩) blen0 blen0 ds0 (J0_3.at_ o0_3.rd2)).mono ?_
  rintro e w4 ⟨rfl, hb4⟩
  have hs4 := hb4.size
  clear o0_3
  have bP0_4 := bP0_3.below hb4 bP0_3.lt
  have lP0_4 := bP0_4.lt
  clear bP0_3 lP0_3
  have I0_4 := I0_3.below (Below.mono hb4 (by omega))
  clear I0_3
  have J0_4 := J0_3.below (Below.mono hb4 (by omega))
  clear J0_3
  have hT4 := hT3.trans (Below.mono hb4 (by omega))
  clear hT3
  clear hb4
  obtain ⟨yP0_0, yP0_1, yP0_2⟩ := bP0_4.cells3
  go_wp2_with fail
  refine (toRat_any w4 w.heap.size hT4.size s0 a0 len0 cap0 xs0 I0_4 b0 blen0 bcap0 ds0 J0_4).mono ?_
  rintro e w5 ⟨g1, j1, rfl, o1_5, hb5⟩
  have hs5 := hb5.size
  have bP0_5 := bP0_4.below hb5 bP0_4.lt
  have lP0_5 := bP0_5.lt
  clear bP0_4 lP0_4
  have I0_5 := I0_4.below (Below.mono hb5 (by omega))
  clear I0_4
  have J0_5 := J0_4.below (Below.mono hb5 (by omega))
  clear J0_4
  have hT5 := hT4.trans (Below.mono hb5 (by omega))
  clear hT4
  clear hb5
  clear yP0_0 yP0_1 yP0_2
  obtain ⟨w6, hw6⟩ : ∃ x, x = w5.alloc (.cells #[.bool s0, .slice (some ⟨g1, 0, none⟩) len0 len0, .slice (some ⟨j1, 0, none⟩) blen0 blen0] 31) := ⟨_, rfl⟩
  have hb6 : Below w5.heap.size w5 w6 := by rw [hw6]; exact below_new _ _
  have hq6 : w5.heap.size < w6.heap.size := by rw [hw6, alloc_size]; omega
  have bn : Box w6 w5.heap.size 31 #[.bool s0, .slice (some ⟨g1, 0, none⟩) len0 len0, .slice (some ⟨j1, 0, none⟩) blen0 blen0] := by rw [hw6]; exact Box.last _ _ _ rfl
  have hs6 := hb6.size
  have o1_6 := o1_5.below hb6 (by omega)
  clear o1_5
  have bP0_6 := bP0_5.below hb6 bP0_5.lt
  have lP0_6 := bP0_6.lt
  clear bP0_5 lP0_5
  have I0_6 := I0_5.below (Below.mono hb6 (by omega))
  clear I0_5
  have J0_6 := J0_5.below (Below.mono hb6 (by omega))
  clear J0_5
  have hT6 := hT5.trans (Below.mono hb6 (by omega))
  clear hT5
  have bx0_6 := bn
  have lx0_6 := bx0_6.lt
  clear bn hb6 hs6
  go_upto_region 7 with fail
  rw [← hw6]
  clear hw6
  obtain ⟨yx0_0, yx0_1, yx0_2⟩ := bx0_6.cells3
  go_wp2_with fail
  refine (impl_FormatRat w6 w6.heap.size (Nat.le_refl _) s0 (some ⟨g1, 0, none⟩) len0 len0 xs0 (I0_6.at_ o1_6.rd1) (some ⟨j1, 0, none⟩) blen0 blen0 ds0 (J0_6.at_ o1_6.rd2) (hPT.below hT6 hPT.lt)).mono ?_
  rintro e w7 ⟨rfl, hb7⟩
  have hs7 := hb7.size
  have o1_7 := o1_6.below hb7 (by omega)
  clear o1_6
  have bP0_7 := bP0_6.below hb7 bP0_6.lt
  have lP0_7 := bP0_7.lt
  clear bP0_6 lP0_6
  have bx0_7 := bx0_6.below hb7 bx0_6.lt
  have lx0_7 := bx0_7.lt
  clear bx0_6 lx0_6
  have I0_7 := I0_6.below (Below.mono hb7 (by omega))
  clear I0_6
  have J0_7 := J0_6.below (Below.mono hb7 (by omega))
  clear J0_6
  have hT7 := hT6.trans (Below.mono hb7 (by omega))
  clear hT6
  clear hb7
  clear yx0_0 yx0_1 yx0_2
  go_upto_region 10 with fail
  obtain ⟨yP0_0, yP0_1, yP0_2⟩ := bP0_7.cells3
  obtain ⟨yx0_0, yx0_1, yx0_2⟩ := bx0_7.cells3
  have HPi := hide bP0_7
  have HPj := hide bx0_7
  have HKS := hide (fun (W : World) (hq : Below w7.heap.size w7 W) => (⟨(HPj.out.below hq HPj.out.lt).cell 0, (HPj.out.below hq HPj.out.lt).cell 1, (HPj.out.below hq HPj.out.lt).cell 2, (HPi.out.below hq HPi.out.lt).cell 0, (HPi.out.below hq HPi.out.lt).cell 1, (HPi.out.below hq HPi.out.lt).cell 2⟩ : W.cell? ⟨w5.heap.size, 0, none⟩ = some (.bool s0) ∧ W.cell? ⟨w5.heap.size, 1, none⟩ = some (.slice (some ⟨g1, 0, none⟩) len0 len0) ∧ W.cell? ⟨w5.heap.size, 2, none⟩ = some (.slice (some ⟨j1, 0, none⟩) blen0 blen0) ∧ W.cell? ⟨w.heap.size, 0, none⟩ = some (.bool s0) ∧ W.cell? ⟨w.heap.size, 1, none⟩ = some (.slice a0 len0 cap0) ∧ W.cell? ⟨w.heap.size, 2, none⟩ = some (.slice b0 blen0 bcap0)))
  have HCi := hide (fun (W : World) (hq : Below w7.heap.size w7 W) => toRat_any W w.heap.size (by have := hT7.size; have := hq.size; omega) s0 a0 len0 cap0 xs0 (I0_7.below (hq.mono hT7.size)) b0 blen0 bcap0 ds0 (J0_7.below (hq.mono hT7.size)))
  have HF := hide (fun (W : World) (p p' : Nat) (hq : Below w7.heap.size w7 W) (r : Rd W W.heap.size (some ⟨p, 0, none⟩) (iv xs0)) (rd : Rd W W.heap.size (some ⟨p', 0, none⟩) (iv ds0)) => eqRat_any W W.heap.size (Nat.le_refl _) s0 (some ⟨g1, 0, none⟩) (some ⟨p, 0, none⟩) len0 len0 len0 xs0 I0_7.1 (o1_7.below hq (by omega)).rd1 r (some ⟨j1, 0, none⟩) (some ⟨p', 0, none⟩) blen0 blen0 blen0 ds0 J0_7.1 (o1_7.below hq (by omega)).rd2 rd (by omega) (by omega))
  have HS0 : Hid (Below w7.heap.size w7 w7.drew) := (Below.refl _ _).drew
  go_region_held3 (fun w' => w'.cell? ⟨w5.heap.size, 0, none⟩ = some (.bool s0) ∧ w'.cell? ⟨w5.heap.size, 1, none⟩ = some (.slice (some ⟨g1, 0, none⟩) len0 len0) ∧ w'.cell? ⟨w5.heap.size, 2, none⟩ = some (.slice (some ⟨j1, 0, none⟩) blen0 blen0) ∧ w'.cell? ⟨w.heap.size, 0, none⟩ = some (.bool s0) ∧ w'.cell? ⟨w.heap.size, 1, none⟩ = some (.slice a0 len0 cap0) ∧ w'.cell? ⟨w.heap.size, 2, none⟩ = some (.slice b0 blen0 bcap0))
      (first | (with_reducible exact HKS.out _ HS2.out) | (with_reducible exact HKS.out _ HS1.out) | (with_reducible exact HKS.out _ HS0.out))
      (first
        | (go_at_call 6; refine (HCi.out _ HS0.out).mono ?_; rintro e u1 ⟨p1, p1', rfl, e1, hb1⟩; have HS1 := hide (below_then HS0.out hb1))
        | (go_at_call 8; refine (HF.out _ _ _ HS1.out e1.rd1 e1.rd2).mono ?_; rintro e u2 ⟨rfl, hb2⟩; have HS2 := hide (below_then HS1.out hb2)))
  have hb8 := HS2.out
  obtain ⟨w8, hw8⟩ : ∃ x, x = u2 := ⟨_, rfl⟩
  subst hw8
  clear HKS HCi HF HS0 HPi HPj HS1 HS2 hb1 hb2 e1
  clear yP0_0 yP0_1 yP0_2 yx0_0 yx0_1 yx0_2
  have hs8 := hb8.size
  have o1_8 := o1_7.below hb8 (by omega)
  clear o1_7
  have bP0_8 := bP0_7.below hb8 bP0_7.lt
  have lP0_8 := bP0_8.lt
  clear bP0_7 lP0_7
  have bx0_8 := bx0_7.below hb8 bx0_7.lt
  have lx0_8 := bx0_8.lt
  clear bx0_7 lx0_7
  have I0_8 := I0_7.below (Below.mono hb8 (by omega))
  clear I0_7
  have J0_8 := J0_7.below (Below.mono hb8 (by omega))
  clear J0_7
  have hT8 := hT7.trans (Below.mono hb8 (by omega))
  clear hT7
  clear hb8
  go_wp2
  go_ret
  exact ⟨rfl, hT8⟩
end Go.Proofs.YtiiedfhcandjdaaDoor
