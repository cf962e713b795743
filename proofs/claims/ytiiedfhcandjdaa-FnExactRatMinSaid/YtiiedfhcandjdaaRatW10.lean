/-
  The exact laws' walks: fractions, RatW10.
-/
import Derived.Test.YtiiedfhcandjdaaRatV
import Derived.Test.YtiiedfhcandjdaaRatR7
import Derived.Test.YtiiedfhcandjdaaRatI8
import Derived.Deep.CutRange
import Derived.Deep.RegionHeld3
import Derived.Sort.AtCall
namespace Go.Proofs.Ytiiedfhcandjdaa
open Go.RowKit
set_option linter.unusedVariables false

set_option maxHeartbeats 16000000 in
set_option maxRecDepth 100000 in
theorem FnExactRatMin_walk (w : World) (s0 : Bool) (a0 : Option Addr) (len0 cap0 : Nat) (z0 : List Int) (f0 : IsRow .i64 w a0 len0 cap0 z0) (b0 : Option Addr) (blen0 bcap0 : Nat) (y0 : List Int) (h0 : IsRow .i64 w b0 blen0 bcap0 y0) (s1 : Bool) (a1 : Option Addr) (len1 cap1 : Nat) (z1 : List Int) (f1 : IsRow .i64 w a1 len1 cap1 z1) (b1 : Option Addr) (blen1 bcap1 : Nat) (y1 : List Int) (h1 : IsRow .i64 w b1 blen1 bcap1 y1) :
    Calls Try.prog 15 #[.agg #[.bool s0, .slice a0 len0 cap0, .slice b0 blen0 bcap0], .agg #[.bool s1, .slice a1 len1 cap1, .slice b1 blen1 bcap1]] w fun e w' => e = .returned (.bool true) ∧ Below w.heap.size w w' := by
  have hm0 := f0.rd.2.2.1
  unfold maxLen at hm0
  have hmb0 := h0.rd.2.2.1
  unfold maxLen at hmb0
  have hm1 := f1.rd.2.2.1
  unfold maxLen at hm1
  have hmb1 := h1.rd.2.2.1
  unfold maxLen at hmb1
  obtain ⟨w1, hw1⟩ : ∃ x, x = ((w.alloc (.cells #[.bool s0, .slice a0 len0 cap0, .slice b0 blen0 bcap0] 26)).alloc (.cells #[.bool s1, .slice a1 len1 cap1, .slice b1 blen1 bcap1] 26)) := ⟨_, rfl⟩
  have hT1 : Below w.heap.size w w1 := by rw [hw1]; exact below_alloc (below_new _ _) _
  have bP0_1 : Box w1 (w.heap.size) 26 #[.bool s0, .slice a0 len0 cap0, .slice b0 blen0 bcap0] := by rw [hw1]; exact (Box.last _ _ _ rfl).alloc _
  have lP0_1 := bP0_1.lt
  have lqP0 := bP0_1.lt
  have bP1_1 : Box w1 (w.heap.size + 1) 26 #[.bool s1, .slice a1 len1 cap1, .slice b1 blen1 bcap1] := by rw [hw1]; exact Box.last _ _ _ (by simp only [alloc_size])
  have lP1_1 := bP1_1.lt
  have lqP1 := bP1_1.lt
  have hs1 := hT1.size
  go_enter Try.func15, Try.ntmps15
  go_upto_region 1 with fail
  rw [← hw1]
  clear hw1
  obtain ⟨yP0_0, yP0_1, yP0_2⟩ := bP0_1.cells3
  go_wp2_with fail
  refine (szRat_any w1 s0 a0 len0 cap0 b0 blen0 bcap0 1048576 (by omega) (by omega) (by omega)).mono ?_
  rintro e w2 ⟨rfl, hb2⟩
  clear yP0_0 yP0_1 yP0_2
  have hs2 := hb2.size
  have bP0_2 := bP0_1.below hb2 bP0_1.lt
  have lP0_2 := bP0_2.lt
  clear bP0_1 lP0_1
  have bP1_2 := bP1_1.below hb2 bP1_1.lt
  have lP1_2 := bP1_2.lt
  clear bP1_1 lP1_1
  have hT2 := hT1.trans (Below.mono hb2 (by omega))
  clear hT1 hb2
  by_cases cz0 : ¬ (len0 + blen0) ≤ 1048576
  · have hle : leftI 1048576 (len0 + blen0) = -1 := if_neg cz0
    rw [hle]
    clear hle
    go_wp2_with fail
    go_ret
    exact ⟨rfl, hT2⟩
  have cz0 := Decidable.not_not.1 cz0
  obtain ⟨L0, hL0⟩ : ∃ L : Nat, L + (len0 + blen0) = 1048576 := ⟨1048576 - (len0 + blen0), by omega⟩
  have hle : leftI 1048576 (len0 + blen0) = (L0 : Int) := by rw [leftI, if_pos cz0]; omega
  rw [hle]
  clear hle
  have hng0 : ¬ (L0 : Int) < 0 := by omega
  have hn0 : len0 ≤ 1048576 := by omega
  have hbn0 : blen0 ≤ 1048576 := by omega
  have HLe0 := hide hL0
  have hLb0 : L0 ≤ 1048576 := by omega
  clear hL0 cz0
  obtain ⟨yP1_0, yP1_1, yP1_2⟩ := bP1_2.cells3
  go_wp2_with fail
  refine (szRat_any w2 s1 a1 len1 cap1 b1 blen1 bcap1 L0 (by omega) (by omega) (by omega)).mono ?_
  rintro e w3 ⟨rfl, hb3⟩
  clear yP1_0 yP1_1 yP1_2
  have hs3 := hb3.size
  have bP0_3 := bP0_2.below hb3 bP0_2.lt
  have lP0_3 := bP0_3.lt
  clear bP0_2 lP0_2
  have bP1_3 := bP1_2.below hb3 bP1_2.lt
  have lP1_3 := bP1_3.lt
  clear bP1_2 lP1_2
  have hT3 := hT2.trans (Below.mono hb3 (by omega))
  clear hT2 hb3
  by_cases cz1 : ¬ (len1 + blen1) ≤ L0
  · have hle : leftI L0 (len1 + blen1) = -1 := if_neg cz1
    rw [hle]
    clear hle
    go_wp2_with fail
    go_ret
    exact ⟨rfl, hT3⟩
  have cz1 := Decidable.not_not.1 cz1
  obtain ⟨L1, hL1⟩ : ∃ L : Nat, L + (len1 + blen1) = L0 := ⟨L0 - (len1 + blen1), by omega⟩
  have hle : leftI L0 (len1 + blen1) = (L1 : Int) := by rw [leftI, if_pos cz1]; omega
  rw [hle]
  clear hle
  have hng1 : ¬ (L1 : Int) < 0 := by omega
  have hn1 : len1 ≤ 1048576 := by omega
  have hbn1 : blen1 ≤ 1048576 := by omega
  have HLe1 := hide hL1
  have hLb1 : L1 ≤ 1048576 := by omega
  clear hL1 cz1
  obtain ⟨xs0, J0⟩ := f0.rdI hn0
  have I0_3 := J0.below hT3
  clear J0 f0
  obtain ⟨ds0, J0⟩ := h0.rdI hbn0
  have J0_3 := J0.below hT3
  clear J0 h0
  obtain ⟨xs1, J0⟩ := f1.rdI hn1
  have I1_3 := J0.below hT3
  clear J0 f1
  obtain ⟨ds1, J0⟩ := h1.rdI hbn1
  have J1_3 := J0.below hT3
  clear J0 h1
  obtain ⟨hL_0, hM_0⟩ : (minR s0 xs0 ds0 s1 xs1 ds1).1.2.length ≤ 1048576 ∧ (minR s0 xs0 ds0 s1 xs1 ds1).2.length ≤ 1048576 := minR_len s0 xs0 ds0 s1 xs1 ds1
  go_upto_region 8 with fail
  obtain ⟨yP0_0, yP0_1, yP0_2⟩ := bP0_3.cells3
  obtain ⟨yP1_0, yP1_1, yP1_2⟩ := bP1_3.cells3
  have HPi := hide bP0_3
  have HPj := hide bP1_3
  have HKS := hide (fun (W : World) (hq : Below w3.heap.size w3 W) => (⟨(HPi.out.below hq HPi.out.lt).cell 0, (HPi.out.below hq HPi.out.lt).cell 1, (HPi.out.below hq HPi.out.lt).cell 2, (HPj.out.below hq HPj.out.lt).cell 0, (HPj.out.below hq HPj.out.lt).cell 1, (HPj.out.below hq HPj.out.lt).cell 2⟩ : W.cell? ⟨w.heap.size, 0, none⟩ = some (.bool s0) ∧ W.cell? ⟨w.heap.size, 1, none⟩ = some (.slice a0 len0 cap0) ∧ W.cell? ⟨w.heap.size, 2, none⟩ = some (.slice b0 blen0 bcap0) ∧ W.cell? ⟨w.heap.size + 1, 0, none⟩ = some (.bool s1) ∧ W.cell? ⟨w.heap.size + 1, 1, none⟩ = some (.slice a1 len1 cap1) ∧ W.cell? ⟨w.heap.size + 1, 2, none⟩ = some (.slice b1 blen1 bcap1)))
  have HCi := hide (fun (W : World) (hq : Below w3.heap.size w3 W) => toRat_any W w.heap.size (by have := hT3.size; have := hq.size; omega) s0 a0 len0 cap0 xs0 (I0_3.below (hq.mono hT3.size)) b0 blen0 bcap0 ds0 (J0_3.below (hq.mono hT3.size)))
  have HCj := hide (fun (W : World) (hq : Below w3.heap.size w3 W) => toRat_any W w.heap.size (by have := hT3.size; have := hq.size; omega) s1 a1 len1 cap1 xs1 (I1_3.below (hq.mono hT3.size)) b1 blen1 bcap1 ds1 (J1_3.below (hq.mono hT3.size)))
  have HF := hide (fun (W : World) (p : Nat) (r : Rd W W.heap.size (some ⟨p, 0, none⟩) (iv xs0)) (p' : Nat) (rd : Rd W W.heap.size (some ⟨p', 0, none⟩) (iv ds0)) (q : Nat) (r' : Rd W W.heap.size (some ⟨q, 0, none⟩) (iv xs1)) (q' : Nat) (r'd : Rd W W.heap.size (some ⟨q', 0, none⟩) (iv ds1)) => spec_RatMin W W.heap.size (Nat.le_refl _) s0 (some ⟨p, 0, none⟩) len0 len0 xs0 (I0_3.at_ r) (some ⟨p', 0, none⟩) blen0 blen0 ds0 (J0_3.at_ rd) s1 (some ⟨q, 0, none⟩) len1 len1 xs1 (I1_3.at_ r') (some ⟨q', 0, none⟩) blen1 blen1 ds1 (J1_3.at_ r'd))
  have HS0 : Hid (Below w3.heap.size w3 w3.drew) := (Below.refl _ _).drew
  have HS0a : Hid (Below w3.heap.size w3 (w3.alloc (.cells #[.bool false, .slice none 0 0, .slice none 0 0] 31)).drew) := (below_new _ _).drew
  go_cut [6] from 14 to 91 (fun sx wx => VarB w3 wx sx (minR s0 xs0 ds0 s1 xs1 ds1).1.1 (minR s0 xs0 ds0 s1 xs1 ds1).1.2 (minR s0 xs0 ds0 s1 xs1 ds1).2 31 3)
  case first =>
    go_region_held3 (fun w' => w'.cell? ⟨w.heap.size, 0, none⟩ = some (.bool s0) ∧ w'.cell? ⟨w.heap.size, 1, none⟩ = some (.slice a0 len0 cap0) ∧ w'.cell? ⟨w.heap.size, 2, none⟩ = some (.slice b0 blen0 bcap0) ∧ w'.cell? ⟨w.heap.size + 1, 0, none⟩ = some (.bool s1) ∧ w'.cell? ⟨w.heap.size + 1, 1, none⟩ = some (.slice a1 len1 cap1) ∧ w'.cell? ⟨w.heap.size + 1, 2, none⟩ = some (.slice b1 blen1 bcap1))
        (first | (with_reducible exact HKS.out _ (below_set3 HS3.out HS2.out.size _ _ _)) | (with_reducible exact HKS.out _ (below_set3 HS3.out HS1.out.size _ _ _)) | (with_reducible exact HKS.out _ (below_set3 HS3.out (Nat.le_refl _) _ _ _)) | (with_reducible exact HKS.out _ HS3.out) | (with_reducible exact HKS.out _ (below_alloc HS3.out _)) | (with_reducible exact HKS.out _ HS2.out) | (with_reducible exact HKS.out _ (below_alloc HS2.out _)) | (with_reducible exact HKS.out _ HS1.out) | (with_reducible exact HKS.out _ (below_alloc HS1.out _)) | (with_reducible exact HKS.out _ HS0.out) | (with_reducible exact HKS.out _ HS0a.out))
        (first
          | (go_at_call_has 19 a0; refine (HCi.out _ (by with_reducible first | exact HS0.out | exact HS0a.out)).mono ?_; rintro e u1 ⟨p1, p1', rfl, e1, hb1⟩; have hz1 := hb1.size; have HS1 := hide (below_then (by with_reducible first | exact HS0.out | exact HS0a.out) hb1))
          | (go_at_call_has 19 a1; refine (HCj.out _ (by with_reducible first | exact HS1.out | exact below_alloc HS1.out _)).mono ?_; rintro e u2 ⟨p2, p2', rfl, e2, hb2⟩; have hz2 := hb2.size; have HS2 := hide (below_then (by with_reducible first | exact HS1.out | exact below_alloc HS1.out _) hb2); have r1 : Rd u2 u2.heap.size (some ⟨p1, 0, none⟩) (iv xs0) := (by first | (with_reducible exact (e1.below hb2 (Nat.le_refl _)).rd1) | (with_reducible exact ((e1.below (below_new u1 _) (Nat.le_refl _)).below hb2 (by rw [alloc_size]; omega)).rd1)); have r1d : Rd u2 u2.heap.size (some ⟨p1', 0, none⟩) (iv ds0) := (by first | (with_reducible exact (e1.below hb2 (Nat.le_refl _)).rd2) | (with_reducible exact ((e1.below (below_new u1 _) (Nat.le_refl _)).below hb2 (by rw [alloc_size]; omega)).rd2)); have r2 := e2.rd1; have r2d := e2.rd2)
          | (go_at_call 50; refine (HF.out _ _ (by first | (with_reducible exact r1) | (with_reducible exact rd_alloc r1 _)) _ (by first | (with_reducible exact r1d) | (with_reducible exact rd_alloc r1d _)) _ (by first | (with_reducible exact r2) | (with_reducible exact rd_alloc r2 _)) _ (by first | (with_reducible exact r2d) | (with_reducible exact rd_alloc r2d _))).mono ?_; rintro e u3 ⟨v0, x0, rfl, q3, hb3⟩; have e3 := Both.hull q3; obtain ⟨A0, c0, B0, k0, rfl, rfl⟩ := e3.form; have hz3 := hb3.size; have HS3 := hide (below_then (by with_reducible first | exact HS2.out | exact below_alloc HS2.out _) hb3); first | (have kz := kz_new hb3; obtain ⟨t0, t1, t2, z0, z1, z2⟩ := kz.facts3) | (have kz := (kz_new hb2).below hb3 (kz_new hb2).lt; obtain ⟨t0, t1, t2, z0, z1, z2⟩ := kz.facts3) | (have kz := ((kz_drew hb1).below hb2 (kz_drew hb1).lt).below hb3 ((kz_drew hb1).below hb2 (kz_drew hb1).lt).lt; obtain ⟨t0, t1, t2, z0, z1, z2⟩ := kz.facts3) | skip))
    all_goals
      go_wp2_with fail
      go_meet
      case rel =>
        try simp only [drew_size, alloc_size] at hz1 hz2 hz3
        first
          | exact varb_set kz HS3.out e3 (by (try simp only [alloc_size]); omega) (Nat.le_refl _) (by omega) (by (try simp only [alloc_size]); omega)
          | exact varb_last HS3.out e3 (by (try simp only [alloc_size]); omega) (Nat.le_refl _)
  case rest =>
    obtain ⟨g0, A0, c0, B0, k0, lo0, hi0, rfl, bs1_0_4, o0_4, hlo0, hhi0, hgg0, hgl0, hb4⟩ := hcut
    obtain ⟨w4, hw4⟩ : ∃ x, x = wc := ⟨_, rfl⟩
    subst hw4
    clear HKS HCi HCj HF HS0 HS0a HPi HPj
    clear yP0_0 yP0_1 yP0_2 yP1_0 yP1_1 yP1_2
    have hs4 := hb4.size
    have bP0_4 := bP0_3.below hb4 bP0_3.lt
    have lP0_4 := bP0_4.lt
    clear bP0_3 lP0_3
    have bP1_4 := bP1_3.below hb4 bP1_3.lt
    have lP1_4 := bP1_4.lt
    clear bP1_3 lP1_3
    have I0_4 := I0_3.below (Below.mono hb4 (by omega))
    clear I0_3
    have J0_4 := J0_3.below (Below.mono hb4 (by omega))
    clear J0_3
    have I1_4 := I1_3.below (Below.mono hb4 (by omega))
    clear I1_3
    have J1_4 := J1_3.below (Below.mono hb4 (by omega))
    clear J1_3
    have hT4 := hT3.trans (Below.mono hb4 (by omega))
    clear hT3
    clear hb4
    have ls1_0_4 := bs1_0_4.lt
    have lqs1_0 := bs1_0_4.lt
    obtain ⟨yP0_0, yP0_1, yP0_2⟩ := bP0_4.cells3
    go_wp2_with fail
    refine (toRat_any w4 w.heap.size hT4.size s0 a0 len0 cap0 xs0 I0_4 b0 blen0 bcap0 ds0 J0_4).mono ?_
    rintro e w5 ⟨g2, j2, rfl, o2_5, hb5⟩
    have hs5 := hb5.size
    have o0_5 := o0_4.below hb5 (by omega)
    clear o0_4
    have bP0_5 := bP0_4.below hb5 bP0_4.lt
    have lP0_5 := bP0_5.lt
    clear bP0_4 lP0_4
    have bP1_5 := bP1_4.below hb5 bP1_4.lt
    have lP1_5 := bP1_5.lt
    clear bP1_4 lP1_4
    have bs1_0_5 := bs1_0_4.below hb5 bs1_0_4.lt
    have ls1_0_5 := bs1_0_5.lt
    clear bs1_0_4 ls1_0_4
    have I0_5 := I0_4.below (Below.mono hb5 (by omega))
    clear I0_4
    have J0_5 := J0_4.below (Below.mono hb5 (by omega))
    clear J0_4
    have I1_5 := I1_4.below (Below.mono hb5 (by omega))
    clear I1_4
    have J1_5 := J1_4.below (Below.mono hb5 (by omega))
    clear J1_4
    have hT5 := hT4.trans (Below.mono hb5 (by omega))
    clear hT4
    clear hb5
    clear yP0_0 yP0_1 yP0_2
    obtain ⟨w6, hw6⟩ : ∃ x, x = w5.alloc (.cells #[.bool s0, .slice (some ⟨g2, 0, none⟩) len0 len0, .slice (some ⟨j2, 0, none⟩) blen0 blen0] 31) := ⟨_, rfl⟩
    have hb6 : Below w5.heap.size w5 w6 := by rw [hw6]; exact below_new _ _
    have hq6 : w5.heap.size < w6.heap.size := by rw [hw6, alloc_size]; omega
    have bn : Box w6 w5.heap.size 31 #[.bool s0, .slice (some ⟨g2, 0, none⟩) len0 len0, .slice (some ⟨j2, 0, none⟩) blen0 blen0] := by rw [hw6]; exact Box.last _ _ _ rfl
    have hs6 := hb6.size
    have o0_6 := o0_5.below hb6 (by omega)
    clear o0_5
    have o2_6 := o2_5.below hb6 (by omega)
    clear o2_5
    have bP0_6 := bP0_5.below hb6 bP0_5.lt
    have lP0_6 := bP0_6.lt
    clear bP0_5 lP0_5
    have bP1_6 := bP1_5.below hb6 bP1_5.lt
    have lP1_6 := bP1_6.lt
    clear bP1_5 lP1_5
    have bs1_0_6 := bs1_0_5.below hb6 bs1_0_5.lt
    have ls1_0_6 := bs1_0_6.lt
    clear bs1_0_5 ls1_0_5
    have I0_6 := I0_5.below (Below.mono hb6 (by omega))
    clear I0_5
    have J0_6 := J0_5.below (Below.mono hb6 (by omega))
    clear J0_5
    have I1_6 := I1_5.below (Below.mono hb6 (by omega))
    clear I1_5
    have J1_6 := J1_5.below (Below.mono hb6 (by omega))
    clear J1_5
    have hT6 := hT5.trans (Below.mono hb6 (by omega))
    clear hT5
    have bx0_6 := bn
    have lx0_6 := bx0_6.lt
    clear bn hb6 hs6
    go_upto_region 10 with fail
    rw [← hw6]
    clear hw6
    obtain ⟨yP1_0, yP1_1, yP1_2⟩ := bP1_6.cells3
    go_wp2_with fail
    refine (toRat_any w6 w.heap.size hT6.size s1 a1 len1 cap1 xs1 I1_6 b1 blen1 bcap1 ds1 J1_6).mono ?_
    rintro e w7 ⟨g3, j3, rfl, o3_7, hb7⟩
    have hs7 := hb7.size
    have o0_7 := o0_6.below hb7 (by omega)
    clear o0_6
    have o2_7 := o2_6.below hb7 (by omega)
    clear o2_6
    have bP0_7 := bP0_6.below hb7 bP0_6.lt
    have lP0_7 := bP0_7.lt
    clear bP0_6 lP0_6
    have bP1_7 := bP1_6.below hb7 bP1_6.lt
    have lP1_7 := bP1_7.lt
    clear bP1_6 lP1_6
    have bs1_0_7 := bs1_0_6.below hb7 bs1_0_6.lt
    have ls1_0_7 := bs1_0_7.lt
    clear bs1_0_6 ls1_0_6
    have bx0_7 := bx0_6.below hb7 bx0_6.lt
    have lx0_7 := bx0_7.lt
    clear bx0_6 lx0_6
    have I0_7 := I0_6.below (Below.mono hb7 (by omega))
    clear I0_6
    have J0_7 := J0_6.below (Below.mono hb7 (by omega))
    clear J0_6
    have I1_7 := I1_6.below (Below.mono hb7 (by omega))
    clear I1_6
    have J1_7 := J1_6.below (Below.mono hb7 (by omega))
    clear J1_6
    have hT7 := hT6.trans (Below.mono hb7 (by omega))
    clear hT6
    clear hb7
    clear yP1_0 yP1_1 yP1_2
    obtain ⟨w8, hw8⟩ : ∃ x, x = w7.alloc (.cells #[.bool s1, .slice (some ⟨g3, 0, none⟩) len1 len1, .slice (some ⟨j3, 0, none⟩) blen1 blen1] 31) := ⟨_, rfl⟩
    have hb8 : Below w7.heap.size w7 w8 := by rw [hw8]; exact below_new _ _
    have hq8 : w7.heap.size < w8.heap.size := by rw [hw8, alloc_size]; omega
    have bn : Box w8 w7.heap.size 31 #[.bool s1, .slice (some ⟨g3, 0, none⟩) len1 len1, .slice (some ⟨j3, 0, none⟩) blen1 blen1] := by rw [hw8]; exact Box.last _ _ _ rfl
    have hs8 := hb8.size
    have o0_8 := o0_7.below hb8 (by omega)
    clear o0_7
    have o2_8 := o2_7.below hb8 (by omega)
    clear o2_7
    have o3_8 := o3_7.below hb8 (by omega)
    clear o3_7
    have bP0_8 := bP0_7.below hb8 bP0_7.lt
    have lP0_8 := bP0_8.lt
    clear bP0_7 lP0_7
    have bP1_8 := bP1_7.below hb8 bP1_7.lt
    have lP1_8 := bP1_8.lt
    clear bP1_7 lP1_7
    have bs1_0_8 := bs1_0_7.below hb8 bs1_0_7.lt
    have ls1_0_8 := bs1_0_8.lt
    clear bs1_0_7 ls1_0_7
    have bx0_8 := bx0_7.below hb8 bx0_7.lt
    have lx0_8 := bx0_8.lt
    clear bx0_7 lx0_7
    have I0_8 := I0_7.below (Below.mono hb8 (by omega))
    clear I0_7
    have J0_8 := J0_7.below (Below.mono hb8 (by omega))
    clear J0_7
    have I1_8 := I1_7.below (Below.mono hb8 (by omega))
    clear I1_7
    have J1_8 := J1_7.below (Below.mono hb8 (by omega))
    clear J1_7
    have hT8 := hT7.trans (Below.mono hb8 (by omega))
    clear hT7
    have bx1_8 := bn
    have lx1_8 := bx1_8.lt
    clear bn hb8 hs8
    go_upto_region 11 with fail
    rw [← hw8]
    clear hw8
    obtain ⟨yx0_0, yx0_1, yx0_2⟩ := bx0_8.cells3
    obtain ⟨yx1_0, yx1_1, yx1_2⟩ := bx1_8.cells3
    go_wp2_with fail
    refine (impl_RatMin w8 w8.heap.size (Nat.le_refl _) s0 (some ⟨g2, 0, none⟩) len0 len0 xs0 (I0_8.at_ o2_8.rd1) (some ⟨j2, 0, none⟩) blen0 blen0 ds0 (J0_8.at_ o2_8.rd2) s1 (some ⟨g3, 0, none⟩) len1 len1 xs1 (I1_8.at_ o3_8.rd1) (some ⟨j3, 0, none⟩) blen1 blen1 ds1 (J1_8.at_ o3_8.rd2)).mono ?_
    rintro e w9 ⟨v4, u4, rfl, q4, hb9⟩
    have o4_9 := Pair.hull q4
    obtain ⟨A4, c4, B4, k4, rfl, rfl⟩ := o4_9.form
    clear q4
    have hs9 := hb9.size
    have o0_9 := o0_8.below hb9 (by omega)
    clear o0_8
    have o2_9 := o2_8.below hb9 (by omega)
    clear o2_8
    have o3_9 := o3_8.below hb9 (by omega)
    clear o3_8
    have bP0_9 := bP0_8.below hb9 bP0_8.lt
    have lP0_9 := bP0_9.lt
    clear bP0_8 lP0_8
    have bP1_9 := bP1_8.below hb9 bP1_8.lt
    have lP1_9 := bP1_9.lt
    clear bP1_8 lP1_8
    have bs1_0_9 := bs1_0_8.below hb9 bs1_0_8.lt
    have ls1_0_9 := bs1_0_9.lt
    clear bs1_0_8 ls1_0_8
    have bx0_9 := bx0_8.below hb9 bx0_8.lt
    have lx0_9 := bx0_9.lt
    clear bx0_8 lx0_8
    have bx1_9 := bx1_8.below hb9 bx1_8.lt
    have lx1_9 := bx1_9.lt
    clear bx1_8 lx1_8
    have I0_9 := I0_8.below (Below.mono hb9 (by omega))
    clear I0_8
    have J0_9 := J0_8.below (Below.mono hb9 (by omega))
    clear J0_8
    have I1_9 := I1_8.below (Below.mono hb9 (by omega))
    clear I1_8
    have J1_9 := J1_8.below (Below.mono hb9 (by omega))
    clear J1_8
    have hT9 := hT8.trans (Below.mono hb9 (by omega))
    clear hT8
    clear hb9
    clear yx0_0 yx0_1 yx0_2 yx1_0 yx1_1 yx1_2
    obtain ⟨w10, hw10⟩ : ∃ x, x = w9.alloc (.cells #[.bool (minR s0 xs0 ds0 s1 xs1 ds1).1.1, .slice A4 (minR s0 xs0 ds0 s1 xs1 ds1).1.2.length c4, .slice B4 (minR s0 xs0 ds0 s1 xs1 ds1).2.length k4] 31) := ⟨_, rfl⟩
    have hb10 : Below w9.heap.size w9 w10 := by rw [hw10]; exact below_new _ _
    have hq10 : w9.heap.size < w10.heap.size := by rw [hw10, alloc_size]; omega
    have bn : Box w10 w9.heap.size 31 #[.bool (minR s0 xs0 ds0 s1 xs1 ds1).1.1, .slice A4 (minR s0 xs0 ds0 s1 xs1 ds1).1.2.length c4, .slice B4 (minR s0 xs0 ds0 s1 xs1 ds1).2.length k4] := by rw [hw10]; exact Box.last _ _ _ rfl
    have hs10 := hb10.size
    have o0_10 := o0_9.below hb10 (by omega)
    clear o0_9
    have o2_10 := o2_9.below hb10 (by omega)
    clear o2_9
    have o3_10 := o3_9.below hb10 (by omega)
    clear o3_9
    have o4_10 := o4_9.below hb10 (by omega)
    clear o4_9
    have bP0_10 := bP0_9.below hb10 bP0_9.lt
    have lP0_10 := bP0_10.lt
    clear bP0_9 lP0_9
    have bP1_10 := bP1_9.below hb10 bP1_9.lt
    have lP1_10 := bP1_10.lt
    clear bP1_9 lP1_9
    have bs1_0_10 := bs1_0_9.below hb10 bs1_0_9.lt
    have ls1_0_10 := bs1_0_10.lt
    clear bs1_0_9 ls1_0_9
    have bx0_10 := bx0_9.below hb10 bx0_9.lt
    have lx0_10 := bx0_10.lt
    clear bx0_9 lx0_9
    have bx1_10 := bx1_9.below hb10 bx1_9.lt
    have lx1_10 := bx1_10.lt
    clear bx1_9 lx1_9
    have I0_10 := I0_9.below (Below.mono hb10 (by omega))
    clear I0_9
    have J0_10 := J0_9.below (Below.mono hb10 (by omega))
    clear J0_9
    have I1_10 := I1_9.below (Below.mono hb10 (by omega))
    clear I1_9
    have J1_10 := J1_9.below (Below.mono hb10 (by omega))
    clear J1_9
    have hT10 := hT9.trans (Below.mono hb10 (by omega))
    clear hT9
    have bi5_0_10 := bn
    have li5_0_10 := bi5_0_10.lt
    clear bn hb10 hs10
    go_upto_region 12 with fail
    rw [← hw10]
    clear hw10
    obtain ⟨yi5_0_0, yi5_0_1, yi5_0_2⟩ := bi5_0_10.cells3
    obtain ⟨ys1_0_0, ys1_0_1, ys1_0_2⟩ := bs1_0_10.cells3
    go_wp2_with fail
    refine (eqRat_any w10 w10.heap.size (Nat.le_refl _) (minR s0 xs0 ds0 s1 xs1 ds1).1.1 A4 A0 _ c4 c0 (minR s0 xs0 ds0 s1 xs1 ds1).1.2 rfl o4_10.rd1 o0_10.rd1 B4 B0 _ k4 k0 (minR s0 xs0 ds0 s1 xs1 ds1).2 rfl o4_10.rd2 o0_10.rd2 (by omega) (by omega)).mono ?_
    rintro e w11 ⟨rfl, hb11⟩
    have hs11 := hb11.size
    have o0_11 := o0_10.below hb11 (by omega)
    clear o0_10
    have o2_11 := o2_10.below hb11 (by omega)
    clear o2_10
    have o3_11 := o3_10.below hb11 (by omega)
    clear o3_10
    have o4_11 := o4_10.below hb11 (by omega)
    clear o4_10
    have bP0_11 := bP0_10.below hb11 bP0_10.lt
    have lP0_11 := bP0_11.lt
    clear bP0_10 lP0_10
    have bP1_11 := bP1_10.below hb11 bP1_10.lt
    have lP1_11 := bP1_11.lt
    clear bP1_10 lP1_10
    have bs1_0_11 := bs1_0_10.below hb11 bs1_0_10.lt
    have ls1_0_11 := bs1_0_11.lt
    clear bs1_0_10 ls1_0_10
    have bx0_11 := bx0_10.below hb11 bx0_10.lt
    have lx0_11 := bx0_11.lt
    clear bx0_10 lx0_10
    have bx1_11 := bx1_10.below hb11 bx1_10.lt
    have lx1_11 := bx1_11.lt
    clear bx1_10 lx1_10
    have bi5_0_11 := bi5_0_10.below hb11 bi5_0_10.lt
    have li5_0_11 := bi5_0_11.lt
    clear bi5_0_10 li5_0_10
    have I0_11 := I0_10.below (Below.mono hb11 (by omega))
    clear I0_10
    have J0_11 := J0_10.below (Below.mono hb11 (by omega))
    clear J0_10
    have I1_11 := I1_10.below (Below.mono hb11 (by omega))
    clear I1_10
    have J1_11 := J1_10.below (Below.mono hb11 (by omega))
    clear J1_10
    have hT11 := hT10.trans (Below.mono hb11 (by omega))
    clear hT10
    clear hb11
    clear yi5_0_0 yi5_0_1 yi5_0_2 ys1_0_0 ys1_0_1 ys1_0_2
    go_upto_region 14 with fail
    obtain ⟨yP0_0, yP0_1, yP0_2⟩ := bP0_11.cells3
    obtain ⟨yx0_0, yx0_1, yx0_2⟩ := bx0_11.cells3
    have HPi := hide bP0_11
    have HPj := hide bx0_11
    have HKS := hide (fun (W : World) (hq : Below w11.heap.size w11 W) => (⟨(HPj.out.below hq HPj.out.lt).cell 0, (HPj.out.below hq HPj.out.lt).cell 1, (HPj.out.below hq HPj.out.lt).cell 2, (HPi.out.below hq HPi.out.lt).cell 0, (HPi.out.below hq HPi.out.lt).cell 1, (HPi.out.below hq HPi.out.lt).cell 2⟩ : W.cell? ⟨w5.heap.size, 0, none⟩ = some (.bool s0) ∧ W.cell? ⟨w5.heap.size, 1, none⟩ = some (.slice (some ⟨g2, 0, none⟩) len0 len0) ∧ W.cell? ⟨w5.heap.size, 2, none⟩ = some (.slice (some ⟨j2, 0, none⟩) blen0 blen0) ∧ W.cell? ⟨w.heap.size, 0, none⟩ = some (.bool s0) ∧ W.cell? ⟨w.heap.size, 1, none⟩ = some (.slice a0 len0 cap0) ∧ W.cell? ⟨w.heap.size, 2, none⟩ = some (.slice b0 blen0 bcap0)))
    have HCi := hide (fun (W : World) (hq : Below w11.heap.size w11 W) => toRat_any W w.heap.size (by have := hT11.size; have := hq.size; omega) s0 a0 len0 cap0 xs0 (I0_11.below (hq.mono hT11.size)) b0 blen0 bcap0 ds0 (J0_11.below (hq.mono hT11.size)))
    have HF := hide (fun (W : World) (p p' : Nat) (hq : Below w11.heap.size w11 W) (r : Rd W W.heap.size (some ⟨p, 0, none⟩) (iv xs0)) (rd : Rd W W.heap.size (some ⟨p', 0, none⟩) (iv ds0)) => eqRat_any W W.heap.size (Nat.le_refl _) s0 (some ⟨g2, 0, none⟩) (some ⟨p, 0, none⟩) len0 len0 len0 xs0 I0_11.1 (o2_11.below hq (by omega)).rd1 r (some ⟨j2, 0, none⟩) (some ⟨p', 0, none⟩) blen0 blen0 blen0 ds0 J0_11.1 (o2_11.below hq (by omega)).rd2 rd (by omega) (by omega))
    have HS0 : Hid (Below w11.heap.size w11 w11.drew) := (Below.refl _ _).drew
    go_region_held3 (fun w' => w'.cell? ⟨w5.heap.size, 0, none⟩ = some (.bool s0) ∧ w'.cell? ⟨w5.heap.size, 1, none⟩ = some (.slice (some ⟨g2, 0, none⟩) len0 len0) ∧ w'.cell? ⟨w5.heap.size, 2, none⟩ = some (.slice (some ⟨j2, 0, none⟩) blen0 blen0) ∧ w'.cell? ⟨w.heap.size, 0, none⟩ = some (.bool s0) ∧ w'.cell? ⟨w.heap.size, 1, none⟩ = some (.slice a0 len0 cap0) ∧ w'.cell? ⟨w.heap.size, 2, none⟩ = some (.slice b0 blen0 bcap0))
        (first | (with_reducible exact HKS.out _ HS2.out) | (with_reducible exact HKS.out _ HS1.out) | (with_reducible exact HKS.out _ HS0.out))
        (first
          | (go_at_call 19; refine (HCi.out _ HS0.out).mono ?_; rintro e u1 ⟨p1, p1', rfl, e1, hb1⟩; have HS1 := hide (below_then HS0.out hb1))
          | (go_at_call 21; refine (HF.out _ _ _ HS1.out e1.rd1 e1.rd2).mono ?_; rintro e u2 ⟨rfl, hb2⟩; have HS2 := hide (below_then HS1.out hb2)))
    have hb12 := HS2.out
    obtain ⟨w12, hw12⟩ : ∃ x, x = u2 := ⟨_, rfl⟩
    subst hw12
    clear HKS HCi HF HS0 HPi HPj HS1 HS2 hb1 hb2 e1
    clear yP0_0 yP0_1 yP0_2 yx0_0 yx0_1 yx0_2
    have hs12 := hb12.size
    have o0_12 := o0_11.below hb12 (by omega)
    clear o0_11
    have o2_12 := o2_11.below hb12 (by omega)
    clear o2_11
    have o3_12 := o3_11.below hb12 (by omega)
    clear o3_11
    have o4_12 := o4_11.below hb12 (by omega)
    clear o4_11
    have bP0_12 := bP0_11.below hb12 bP0_11.lt
    have lP0_12 := bP0_12.lt
    clear bP0_11 lP0_11
    have bP1_12 := bP1_11.below hb12 bP1_11.lt
    have lP1_12 := bP1_12.lt
    clear bP1_11 lP1_11
    have bs1_0_12 := bs1_0_11.below hb12 bs1_0_11.lt
    have ls1_0_12 := bs1_0_12.lt
    clear bs1_0_11 ls1_0_11
    have bx0_12 := bx0_11.below hb12 bx0_11.lt
    have lx0_12 := bx0_12.lt
    clear bx0_11 lx0_11
    have bx1_12 := bx1_11.below hb12 bx1_11.lt
    have lx1_12 := bx1_12.lt
    clear bx1_11 lx1_11
    have bi5_0_12 := bi5_0_11.below hb12 bi5_0_11.lt
    have li5_0_12 := bi5_0_12.lt
    clear bi5_0_11 li5_0_11
    have I0_12 := I0_11.below (Below.mono hb12 (by omega))
    clear I0_11
    have J0_12 := J0_11.below (Below.mono hb12 (by omega))
    clear J0_11
    have I1_12 := I1_11.below (Below.mono hb12 (by omega))
    clear I1_11
    have J1_12 := J1_11.below (Below.mono hb12 (by omega))
    clear J1_11
    have hT12 := hT11.trans (Below.mono hb12 (by omega))
    clear hT11
    clear hb12
    go_upto_region 16 with fail
    obtain ⟨yP1_0, yP1_1, yP1_2⟩ := bP1_12.cells3
    obtain ⟨yx1_0, yx1_1, yx1_2⟩ := bx1_12.cells3
    have HPi := hide bP1_12
    have HPj := hide bx1_12
    have HKS := hide (fun (W : World) (hq : Below w12.heap.size w12 W) => (⟨(HPj.out.below hq HPj.out.lt).cell 0, (HPj.out.below hq HPj.out.lt).cell 1, (HPj.out.below hq HPj.out.lt).cell 2, (HPi.out.below hq HPi.out.lt).cell 0, (HPi.out.below hq HPi.out.lt).cell 1, (HPi.out.below hq HPi.out.lt).cell 2⟩ : W.cell? ⟨w7.heap.size, 0, none⟩ = some (.bool s1) ∧ W.cell? ⟨w7.heap.size, 1, none⟩ = some (.slice (some ⟨g3, 0, none⟩) len1 len1) ∧ W.cell? ⟨w7.heap.size, 2, none⟩ = some (.slice (some ⟨j3, 0, none⟩) blen1 blen1) ∧ W.cell? ⟨w.heap.size + 1, 0, none⟩ = some (.bool s1) ∧ W.cell? ⟨w.heap.size + 1, 1, none⟩ = some (.slice a1 len1 cap1) ∧ W.cell? ⟨w.heap.size + 1, 2, none⟩ = some (.slice b1 blen1 bcap1)))
    have HCi := hide (fun (W : World) (hq : Below w12.heap.size w12 W) => toRat_any W w.heap.size (by have := hT12.size; have := hq.size; omega) s1 a1 len1 cap1 xs1 (I1_12.below (hq.mono hT12.size)) b1 blen1 bcap1 ds1 (J1_12.below (hq.mono hT12.size)))
    have HF := hide (fun (W : World) (p p' : Nat) (hq : Below w12.heap.size w12 W) (r : Rd W W.heap.size (some ⟨p, 0, none⟩) (iv xs1)) (rd : Rd W W.heap.size (some ⟨p', 0, none⟩) (iv ds1)) => eqRat_any W W.heap.size (Nat.le_refl _) s1 (some ⟨g3, 0, none⟩) (some ⟨p, 0, none⟩) len1 len1 len1 xs1 I1_12.1 (o3_12.below hq (by omega)).rd1 r (some ⟨j3, 0, none⟩) (some ⟨p', 0, none⟩) blen1 blen1 blen1 ds1 J1_12.1 (o3_12.below hq (by omega)).rd2 rd (by omega) (by omega))
    have HS0 : Hid (Below w12.heap.size w12 w12.drew) := (Below.refl _ _).drew
    go_region_held3 (fun w' => w'.cell? ⟨w7.heap.size, 0, none⟩ = some (.bool s1) ∧ w'.cell? ⟨w7.heap.size, 1, none⟩ = some (.slice (some ⟨g3, 0, none⟩) len1 len1) ∧ w'.cell? ⟨w7.heap.size, 2, none⟩ = some (.slice (some ⟨j3, 0, none⟩) blen1 blen1) ∧ w'.cell? ⟨w.heap.size + 1, 0, none⟩ = some (.bool s1) ∧ w'.cell? ⟨w.heap.size + 1, 1, none⟩ = some (.slice a1 len1 cap1) ∧ w'.cell? ⟨w.heap.size + 1, 2, none⟩ = some (.slice b1 blen1 bcap1))
        (first | (with_reducible exact HKS.out _ HS2.out) | (with_reducible exact HKS.out _ HS1.out) | (with_reducible exact HKS.out _ HS0.out))
        (first
          | (go_at_call 19; refine (HCi.out _ HS0.out).mono ?_; rintro e u1 ⟨p1, p1', rfl, e1, hb1⟩; have HS1 := hide (below_then HS0.out hb1))
          | (go_at_call 21; refine (HF.out _ _ _ HS1.out e1.rd1 e1.rd2).mono ?_; rintro e u2 ⟨rfl, hb2⟩; have HS2 := hide (below_then HS1.out hb2)))
    have hb13 := HS2.out
    obtain ⟨w13, hw13⟩ : ∃ x, x = u2 := ⟨_, rfl⟩
    subst hw13
    clear HKS HCi HF HS0 HPi HPj HS1 HS2 hb1 hb2 e1
    clear yP1_0 yP1_1 yP1_2 yx1_0 yx1_1 yx1_2
    have hs13 := hb13.size
    have o0_13 := o0_12.below hb13 (by omega)
    clear o0_12
    have o2_13 := o2_12.below hb13 (by omega)
    clear o2_12
    have o3_13 := o3_12.below hb13 (by omega)
    clear o3_12
    have o4_13 := o4_12.below hb13 (by omega)
    clear o4_12
    have bP0_13 := bP0_12.below hb13 bP0_12.lt
    have lP0_13 := bP0_13.lt
    clear bP0_12 lP0_12
    have bP1_13 := bP1_12.below hb13 bP1_12.lt
    have lP1_13 := bP1_13.lt
    clear bP1_12 lP1_12
    have bs1_0_13 := bs1_0_12.below hb13 bs1_0_12.lt
    have ls1_0_13 := bs1_0_13.lt
    clear bs1_0_12 ls1_0_12
    have bx0_13 := bx0_12.below hb13 bx0_12.lt
    have lx0_13 := bx0_13.lt
    clear bx0_12 lx0_12
    have bx1_13 := bx1_12.below hb13 bx1_12.lt
    have lx1_13 := bx1_13.lt
    clear bx1_12 lx1_12
    have bi5_0_13 := bi5_0_12.below hb13 bi5_0_12.lt
    have li5_0_13 := bi5_0_13.lt
    clear bi5_0_12 li5_0_12
    have I0_13 := I0_12.below (Below.mono hb13 (by omega))
    clear I0_12
    have J0_13 := J0_12.below (Below.mono hb13 (by omega))
    clear J0_12
    have I1_13 := I1_12.below (Below.mono hb13 (by omega))
    clear I1_12
    have J1_13 := J1_12.below (Below.mono hb13 (by omega))
    clear J1_12
    have hT13 := hT12.trans (Below.mono hb13 (by omega))
    clear hT12
    clear hb13
    obtain ⟨yx0_0, yx0_1, yx0_2⟩ := bx0_13.cells3
    go_wp2_with fail
    refine (markRat_own w13 (s0) (some ⟨g2, 0, none⟩) len0 len0 (some ⟨j2, 0, none⟩) blen0 blen0 1 _ _ _ _ _ o2_13 (by omega) (by omega) (by omega) (by omega)).mono ?_
    rintro e w14 ⟨he, p2, ha14⟩
    obtain ⟨K1, hK1⟩ : ∃ K : Nat, K = 1 + (len0 + blen0) := ⟨_, rfl⟩
    have bK1 : K1 ≤ 3000010 := by omega
    rw [← hK1] at he
    subst he
    have HK1 := hide hK1
    clear hK1
    clear yx0_0 yx0_1 yx0_2
    have hs14 := ha14.size
    have o0_14 := o0_13.aside ha14 (by omega)
    clear o0_13
    have o3_14 := o3_13.aside ha14 (by omega)
    clear o3_13
    have o4_14 := o4_13.aside ha14 (by omega)
    clear o4_13
    have bP0_14 := bP0_13.aside ha14 (by omega)
    have lP0_14 := bP0_14.lt
    clear bP0_13 lP0_13
    have bP1_14 := bP1_13.aside ha14 (by omega)
    have lP1_14 := bP1_14.lt
    clear bP1_13 lP1_13
    have bs1_0_14 := bs1_0_13.aside ha14 (by omega)
    have ls1_0_14 := bs1_0_14.lt
    clear bs1_0_13 ls1_0_13
    have bx0_14 := bx0_13.aside ha14 (by omega)
    have lx0_14 := bx0_14.lt
    clear bx0_13 lx0_13
    have bx1_14 := bx1_13.aside ha14 (by omega)
    have lx1_14 := bx1_14.lt
    clear bx1_13 lx1_13
    have bi5_0_14 := bi5_0_13.aside ha14 (by omega)
    have li5_0_14 := bi5_0_14.lt
    clear bi5_0_13 li5_0_13
    have I0_14 := I0_13.below (Aside.below ha14 (by omega) (by omega))
    clear I0_13
    have J0_14 := J0_13.below (Aside.below ha14 (by omega) (by omega))
    clear J0_13
    have I1_14 := I1_13.below (Aside.below ha14 (by omega) (by omega))
    clear I1_13
    have J1_14 := J1_13.below (Aside.below ha14 (by omega) (by omega))
    clear J1_13
    have hT14 := hT13.trans (Aside.below ha14 (by omega) (by omega))
    clear hT13
    clear ha14
    have o2_14 := p2
    clear p2 o2_13
    obtain ⟨yx1_0, yx1_1, yx1_2⟩ := bx1_14.cells3
    go_wp2_with fail
    refine (markRat_own w14 (s1) (some ⟨g3, 0, none⟩) len1 len1 (some ⟨j3, 0, none⟩) blen1 blen1 K1 _ _ _ _ _ o3_14 (by omega) (by omega) (by omega) (by omega)).mono ?_
    rintro e w15 ⟨he, p3, ha15⟩
    obtain ⟨K2, hK2⟩ : ∃ K : Nat, K = K1 + (len1 + blen1) := ⟨_, rfl⟩
    have bK2 : K2 ≤ 6000010 := by omega
    rw [← hK2] at he
    subst he
    have HK2 := hide hK2
    clear hK2
    clear yx1_0 yx1_1 yx1_2
    have hs15 := ha15.size
    have o0_15 := o0_14.aside ha15 (by omega)
    clear o0_14
    have o2_15 := o2_14.aside ha15 (by omega)
    clear o2_14
    have o4_15 := o4_14.aside ha15 (by omega)
    clear o4_14
    have bP0_15 := bP0_14.aside ha15 (by omega)
    have lP0_15 := bP0_15.lt
    clear bP0_14 lP0_14
    have bP1_15 := bP1_14.aside ha15 (by omega)
    have lP1_15 := bP1_15.lt
    clear bP1_14 lP1_14
    have bs1_0_15 := bs1_0_14.aside ha15 (by omega)
    have ls1_0_15 := bs1_0_15.lt
    clear bs1_0_14 ls1_0_14
    have bx0_15 := bx0_14.aside ha15 (by omega)
    have lx0_15 := bx0_15.lt
    clear bx0_14 lx0_14
    have bx1_15 := bx1_14.aside ha15 (by omega)
    have lx1_15 := bx1_15.lt
    clear bx1_14 lx1_14
    have bi5_0_15 := bi5_0_14.aside ha15 (by omega)
    have li5_0_15 := bi5_0_15.lt
    clear bi5_0_14 li5_0_14
    have I0_15 := I0_14.below (Aside.below ha15 (by omega) (by omega))
    clear I0_14
    have J0_15 := J0_14.below (Aside.below ha15 (by omega) (by omega))
    clear J0_14
    have I1_15 := I1_14.below (Aside.below ha15 (by omega) (by omega))
    clear I1_14
    have J1_15 := J1_14.below (Aside.below ha15 (by omega) (by omega))
    clear J1_14
    have hT15 := hT14.trans (Aside.below ha15 (by omega) (by omega))
    clear hT14
    clear ha15
    have o3_15 := p3
    clear p3 o3_14
    have hnk : ¬ (K2 : Int) < 0 := by omega
    obtain ⟨yi5_0_0, yi5_0_1, yi5_0_2⟩ := bi5_0_15.cells3
    obtain ⟨ys1_0_0, ys1_0_1, ys1_0_2⟩ := bs1_0_15.cells3
    go_wp2_with fail
    refine (eqRat_any w15 w15.heap.size (Nat.le_refl _) (minR s0 xs0 ds0 s1 xs1 ds1).1.1 A4 A0 _ c4 c0 (minR s0 xs0 ds0 s1 xs1 ds1).1.2 rfl o4_15.rd1 o0_15.rd1 B4 B0 _ k4 k0 (minR s0 xs0 ds0 s1 xs1 ds1).2 rfl o4_15.rd2 o0_15.rd2 (by omega) (by omega)).mono ?_
    rintro e w16 ⟨rfl, hb16⟩
    have hs16 := hb16.size
    have o0_16 := o0_15.below hb16 (by omega)
    clear o0_15
    have o2_16 := o2_15.below hb16 (by omega)
    clear o2_15
    have o3_16 := o3_15.below hb16 (by omega)
    clear o3_15
    have o4_16 := o4_15.below hb16 (by omega)
    clear o4_15
    have bP0_16 := bP0_15.below hb16 bP0_15.lt
    have lP0_16 := bP0_16.lt
    clear bP0_15 lP0_15
    have bP1_16 := bP1_15.below hb16 bP1_15.lt
    have lP1_16 := bP1_16.lt
    clear bP1_15 lP1_15
    have bs1_0_16 := bs1_0_15.below hb16 bs1_0_15.lt
    have ls1_0_16 := bs1_0_16.lt
    clear bs1_0_15 ls1_0_15
    have bx0_16 := bx0_15.below hb16 bx0_15.lt
    have lx0_16 := bx0_16.lt
    clear bx0_15 lx0_15
    have bx1_16 := bx1_15.below hb16 bx1_15.lt
    have lx1_16 := bx1_16.lt
    clear bx1_15 lx1_15
    have bi5_0_16 := bi5_0_15.below hb16 bi5_0_15.lt
    have li5_0_16 := bi5_0_16.lt
    clear bi5_0_15 li5_0_15
    have I0_16 := I0_15.below (Below.mono hb16 (by omega))
    clear I0_15
    have J0_16 := J0_15.below (Below.mono hb16 (by omega))
    clear J0_15
    have I1_16 := I1_15.below (Below.mono hb16 (by omega))
    clear I1_15
    have J1_16 := J1_15.below (Below.mono hb16 (by omega))
    clear J1_15
    have hT16 := hT15.trans (Below.mono hb16 (by omega))
    clear hT15
    clear hb16
    clear yi5_0_0 yi5_0_1 yi5_0_2 ys1_0_0 ys1_0_1 ys1_0_2
    obtain ⟨yi5_0_0, yi5_0_1, yi5_0_2⟩ := bi5_0_16.cells3
    go_wp2_with fail
    refine (markRat_own w16 ((minR s0 xs0 ds0 s1 xs1 ds1).1.1) A4 (minR s0 xs0 ds0 s1 xs1 ds1).1.2.length c4 B4 (minR s0 xs0 ds0 s1 xs1 ds1).2.length k4 1 _ _ _ _ _ o4_16 (by omega) (by omega) (by omega) (by omega)).mono ?_
    rintro e w17 ⟨he, p4, ha17⟩
    obtain ⟨K3, hK3⟩ : ∃ K : Nat, K = 1 + ((minR s0 xs0 ds0 s1 xs1 ds1).1.2.length + (minR s0 xs0 ds0 s1 xs1 ds1).2.length) := ⟨_, rfl⟩
    have bK3 : K3 ≤ 9000010 := by omega
    rw [← hK3] at he
    subst he
    have HK3 := hide hK3
    clear hK3
    clear yi5_0_0 yi5_0_1 yi5_0_2
    have hs17 := ha17.size
    have o0_17 := o0_16.aside ha17 (by omega)
    clear o0_16
    have o2_17 := o2_16.aside ha17 (by omega)
    clear o2_16
    have o3_17 := o3_16.aside ha17 (by omega)
    clear o3_16
    have bP0_17 := bP0_16.aside ha17 (by omega)
    have lP0_17 := bP0_17.lt
    clear bP0_16 lP0_16
    have bP1_17 := bP1_16.aside ha17 (by omega)
    have lP1_17 := bP1_17.lt
    clear bP1_16 lP1_16
    have bs1_0_17 := bs1_0_16.aside ha17 (by omega)
    have ls1_0_17 := bs1_0_17.lt
    clear bs1_0_16 ls1_0_16
    have bx0_17 := bx0_16.aside ha17 (by omega)
    have lx0_17 := bx0_17.lt
    clear bx0_16 lx0_16
    have bx1_17 := bx1_16.aside ha17 (by omega)
    have lx1_17 := bx1_17.lt
    clear bx1_16 lx1_16
    have bi5_0_17 := bi5_0_16.aside ha17 (by omega)
    have li5_0_17 := bi5_0_17.lt
    clear bi5_0_16 li5_0_16
    have I0_17 := I0_16.below (Aside.below ha17 (by omega) (by omega))
    clear I0_16
    have J0_17 := J0_16.below (Aside.below ha17 (by omega) (by omega))
    clear J0_16
    have I1_17 := I1_16.below (Aside.below ha17 (by omega) (by omega))
    clear I1_16
    have J1_17 := J1_16.below (Aside.below ha17 (by omega) (by omega))
    clear J1_16
    have hT17 := hT16.trans (Aside.below ha17 (by omega) (by omega))
    clear hT16
    clear ha17
    have o4_17 := p4
    clear p4 o4_16
    obtain ⟨yi5_0_0, yi5_0_1, yi5_0_2⟩ := bi5_0_17.cells3
    have hNK3 : ¬ (K3 : Int) < 0 := by omega
    go_wp2_with fail
    refine (heldRat_any w17 ((minR s0 xs0 ds0 s1 xs1 ds1).1.1) A4 (minR s0 xs0 ds0 s1 xs1 ds1).1.2.length c4 B4 (minR s0 xs0 ds0 s1 xs1 ds1).2.length k4 1 _ (Nat.le_refl _) o4_17.rd1 o4_17.rd2 (by omega) (by omega) (by omega)).mono ?_
    rintro e w18 ⟨he, hb18⟩
    rw [← HK3.out] at he
    subst he
    clear yi5_0_0 yi5_0_1 yi5_0_2
    have hs18 := hb18.size
    have o0_18 := o0_17.below hb18 (by omega)
    clear o0_17
    have o2_18 := o2_17.below hb18 (by omega)
    clear o2_17
    have o3_18 := o3_17.below hb18 (by omega)
    clear o3_17
    have o4_18 := o4_17.below hb18 (by omega)
    clear o4_17
    have bP0_18 := bP0_17.below hb18 bP0_17.lt
    have lP0_18 := bP0_18.lt
    clear bP0_17 lP0_17
    have bP1_18 := bP1_17.below hb18 bP1_17.lt
    have lP1_18 := bP1_18.lt
    clear bP1_17 lP1_17
    have bs1_0_18 := bs1_0_17.below hb18 bs1_0_17.lt
    have ls1_0_18 := bs1_0_18.lt
    clear bs1_0_17 ls1_0_17
    have bx0_18 := bx0_17.below hb18 bx0_17.lt
    have lx0_18 := bx0_18.lt
    clear bx0_17 lx0_17
    have bx1_18 := bx1_17.below hb18 bx1_17.lt
    have lx1_18 := bx1_18.lt
    clear bx1_17 lx1_17
    have bi5_0_18 := bi5_0_17.below hb18 bi5_0_17.lt
    have li5_0_18 := bi5_0_18.lt
    clear bi5_0_17 li5_0_17
    have I0_18 := I0_17.below (Below.mono hb18 (by omega))
    clear I0_17
    have J0_18 := J0_17.below (Below.mono hb18 (by omega))
    clear J0_17
    have I1_18 := I1_17.below (Below.mono hb18 (by omega))
    clear I1_17
    have J1_18 := J1_17.below (Below.mono hb18 (by omega))
    clear J1_17
    have hT18 := hT17.trans (Below.mono hb18 (by omega))
    clear hT17
    clear hb18
    go_upto_region 31 with fail
    obtain ⟨yP0_0, yP0_1, yP0_2⟩ := bP0_18.cells3
    obtain ⟨yP1_0, yP1_1, yP1_2⟩ := bP1_18.cells3
    have HPi := hide bP0_18
    have HPj := hide bP1_18
    have HKS := hide (fun (W : World) (hq : Below w18.heap.size w18 W) => (⟨(HPi.out.below hq HPi.out.lt).cell 0, (HPi.out.below hq HPi.out.lt).cell 1, (HPi.out.below hq HPi.out.lt).cell 2, (HPj.out.below hq HPj.out.lt).cell 0, (HPj.out.below hq HPj.out.lt).cell 1, (HPj.out.below hq HPj.out.lt).cell 2⟩ : W.cell? ⟨w.heap.size, 0, none⟩ = some (.bool s0) ∧ W.cell? ⟨w.heap.size, 1, none⟩ = some (.slice a0 len0 cap0) ∧ W.cell? ⟨w.heap.size, 2, none⟩ = some (.slice b0 blen0 bcap0) ∧ W.cell? ⟨w.heap.size + 1, 0, none⟩ = some (.bool s1) ∧ W.cell? ⟨w.heap.size + 1, 1, none⟩ = some (.slice a1 len1 cap1) ∧ W.cell? ⟨w.heap.size + 1, 2, none⟩ = some (.slice b1 blen1 bcap1)))
    have HCi := hide (fun (W : World) (hq : Below w18.heap.size w18 W) => toRat_any W w.heap.size (by have := hT18.size; have := hq.size; omega) s0 a0 len0 cap0 xs0 (I0_18.below (hq.mono hT18.size)) b0 blen0 bcap0 ds0 (J0_18.below (hq.mono hT18.size)))
    have HCj := hide (fun (W : World) (hq : Below w18.heap.size w18 W) => toRat_any W w.heap.size (by have := hT18.size; have := hq.size; omega) s1 a1 len1 cap1 xs1 (I1_18.below (hq.mono hT18.size)) b1 blen1 bcap1 ds1 (J1_18.below (hq.mono hT18.size)))
    have HF := hide (fun (W : World) (p : Nat) (r : Rd W W.heap.size (some ⟨p, 0, none⟩) (iv xs0)) (p' : Nat) (rd : Rd W W.heap.size (some ⟨p', 0, none⟩) (iv ds0)) (q : Nat) (r' : Rd W W.heap.size (some ⟨q, 0, none⟩) (iv xs1)) (q' : Nat) (r'd : Rd W W.heap.size (some ⟨q', 0, none⟩) (iv ds1)) => impl_RatMin W W.heap.size (Nat.le_refl _) s0 (some ⟨p, 0, none⟩) len0 len0 xs0 (I0_18.at_ r) (some ⟨p', 0, none⟩) blen0 blen0 ds0 (J0_18.at_ rd) s1 (some ⟨q, 0, none⟩) len1 len1 xs1 (I1_18.at_ r') (some ⟨q', 0, none⟩) blen1 blen1 ds1 (J1_18.at_ r'd))
    have HS0 : Hid (Below w18.heap.size w18 w18.drew) := (Below.refl _ _).drew
    have HS0a : Hid (Below w18.heap.size w18 (w18.alloc (.cells #[.bool false, .slice none 0 0, .slice none 0 0] 31)).drew) := (below_new _ _).drew
    go_cut [13] from 14 to 91 (fun sx wx => VarP w18 wx sx (minR s0 xs0 ds0 s1 xs1 ds1).1.1 (minR s0 xs0 ds0 s1 xs1 ds1).1.2 (minR s0 xs0 ds0 s1 xs1 ds1).2 31 3)
    case first =>
      go_region_held3 (fun w' => w'.cell? ⟨w.heap.size, 0, none⟩ = some (.bool s0) ∧ w'.cell? ⟨w.heap.size, 1, none⟩ = some (.slice a0 len0 cap0) ∧ w'.cell? ⟨w.heap.size, 2, none⟩ = some (.slice b0 blen0 bcap0) ∧ w'.cell? ⟨w.heap.size + 1, 0, none⟩ = some (.bool s1) ∧ w'.cell? ⟨w.heap.size + 1, 1, none⟩ = some (.slice a1 len1 cap1) ∧ w'.cell? ⟨w.heap.size + 1, 2, none⟩ = some (.slice b1 blen1 bcap1))
          (first | (with_reducible exact HKS.out _ (below_set3 HS3.out HS2.out.size _ _ _)) | (with_reducible exact HKS.out _ (below_set3 HS3.out HS1.out.size _ _ _)) | (with_reducible exact HKS.out _ (below_set3 HS3.out (Nat.le_refl _) _ _ _)) | (with_reducible exact HKS.out _ HS3.out) | (with_reducible exact HKS.out _ (below_alloc HS3.out _)) | (with_reducible exact HKS.out _ HS2.out) | (with_reducible exact HKS.out _ (below_alloc HS2.out _)) | (with_reducible exact HKS.out _ HS1.out) | (with_reducible exact HKS.out _ (below_alloc HS1.out _)) | (with_reducible exact HKS.out _ HS0.out) | (with_reducible exact HKS.out _ HS0a.out))
          (first
            | (go_at_call_has 19 a0; refine (HCi.out _ (by with_reducible first | exact HS0.out | exact HS0a.out)).mono ?_; rintro e u1 ⟨p1, p1', rfl, e1, hb1⟩; have hz1 := hb1.size; have HS1 := hide (below_then (by with_reducible first | exact HS0.out | exact HS0a.out) hb1))
            | (go_at_call_has 19 a1; refine (HCj.out _ (by with_reducible first | exact HS1.out | exact below_alloc HS1.out _)).mono ?_; rintro e u2 ⟨p2, p2', rfl, e2, hb2⟩; have hz2 := hb2.size; have HS2 := hide (below_then (by with_reducible first | exact HS1.out | exact below_alloc HS1.out _) hb2); have r1 : Rd u2 u2.heap.size (some ⟨p1, 0, none⟩) (iv xs0) := (by first | (with_reducible exact (e1.below hb2 (Nat.le_refl _)).rd1) | (with_reducible exact ((e1.below (below_new u1 _) (Nat.le_refl _)).below hb2 (by rw [alloc_size]; omega)).rd1)); have r1d : Rd u2 u2.heap.size (some ⟨p1', 0, none⟩) (iv ds0) := (by first | (with_reducible exact (e1.below hb2 (Nat.le_refl _)).rd2) | (with_reducible exact ((e1.below (below_new u1 _) (Nat.le_refl _)).below hb2 (by rw [alloc_size]; omega)).rd2)); have r2 := e2.rd1; have r2d := e2.rd2)
            | (go_at_call 51; refine (HF.out _ _ (by first | (with_reducible exact r1) | (with_reducible exact rd_alloc r1 _)) _ (by first | (with_reducible exact r1d) | (with_reducible exact rd_alloc r1d _)) _ (by first | (with_reducible exact r2) | (with_reducible exact rd_alloc r2 _)) _ (by first | (with_reducible exact r2d) | (with_reducible exact rd_alloc r2d _))).mono ?_; rintro e u3 ⟨v6, x6, rfl, q3, hb3⟩; have e3 := Pair.hull q3; obtain ⟨A6, c6, B6, k6, rfl, rfl⟩ := e3.form; have hz3 := hb3.size; have HS3 := hide (below_then (by with_reducible first | exact HS2.out | exact below_alloc HS2.out _) hb3); first | (have kz := kz_new hb3; obtain ⟨t0, t1, t2, z0, z1, z2⟩ := kz.facts3) | (have kz := (kz_new hb2).below hb3 (kz_new hb2).lt; obtain ⟨t0, t1, t2, z0, z1, z2⟩ := kz.facts3) | (have kz := ((kz_drew hb1).below hb2 (kz_drew hb1).lt).below hb3 ((kz_drew hb1).below hb2 (kz_drew hb1).lt).lt; obtain ⟨t0, t1, t2, z0, z1, z2⟩ := kz.facts3) | skip))
      all_goals
        go_wp2_with fail
        go_meet
        case rel =>
          try simp only [drew_size, alloc_size] at hz1 hz2 hz3
          first
            | exact varp_set kz HS3.out e3 (by (try simp only [alloc_size]); omega) (Nat.le_refl _) (by omega) (by (try simp only [alloc_size]); omega)
            | exact varp_last HS3.out e3 (by (try simp only [alloc_size]); omega) (Nat.le_refl _)
    case rest =>
      obtain ⟨g6, A6, c6, B6, k6, lo6, hi6, rfl, bi7_0_19, o6_19, hlo6, hhi6, hgg6, hgl6, hb19⟩ := hcut
      obtain ⟨w19, hw19⟩ : ∃ x, x = wc := ⟨_, rfl⟩
      subst hw19
      clear HKS HCi HCj HF HS0 HS0a HPi HPj
      clear yP0_0 yP0_1 yP0_2 yP1_0 yP1_1 yP1_2
      have hs19 := hb19.size
      have o0_19 := o0_18.below hb19 (by omega)
      clear o0_18
      have o2_19 := o2_18.below hb19 (by omega)
      clear o2_18
      have o3_19 := o3_18.below hb19 (by omega)
      clear o3_18
      have o4_19 := o4_18.below hb19 (by omega)
      clear o4_18
      have bP0_19 := bP0_18.below hb19 bP0_18.lt
      have lP0_19 := bP0_19.lt
      clear bP0_18 lP0_18
      have bP1_19 := bP1_18.below hb19 bP1_18.lt
      have lP1_19 := bP1_19.lt
      clear bP1_18 lP1_18
      have bs1_0_19 := bs1_0_18.below hb19 bs1_0_18.lt
      have ls1_0_19 := bs1_0_19.lt
      clear bs1_0_18 ls1_0_18
      have bx0_19 := bx0_18.below hb19 bx0_18.lt
      have lx0_19 := bx0_19.lt
      clear bx0_18 lx0_18
      have bx1_19 := bx1_18.below hb19 bx1_18.lt
      have lx1_19 := bx1_19.lt
      clear bx1_18 lx1_18
      have bi5_0_19 := bi5_0_18.below hb19 bi5_0_18.lt
      have li5_0_19 := bi5_0_19.lt
      clear bi5_0_18 li5_0_18
      have I0_19 := I0_18.below (Below.mono hb19 (by omega))
      clear I0_18
      have J0_19 := J0_18.below (Below.mono hb19 (by omega))
      clear J0_18
      have I1_19 := I1_18.below (Below.mono hb19 (by omega))
      clear I1_18
      have J1_19 := J1_18.below (Below.mono hb19 (by omega))
      clear J1_18
      have hT19 := hT18.trans (Below.mono hb19 (by omega))
      clear hT18
      clear hb19
      have li7_0_19 := bi7_0_19.lt
      have lqi7_0 := bi7_0_19.lt
      obtain ⟨yi7_0_0, yi7_0_1, yi7_0_2⟩ := bi7_0_19.cells3
      obtain ⟨ys1_0_0, ys1_0_1, ys1_0_2⟩ := bs1_0_19.cells3
      go_wp2_with fail
      refine (eqRat_any w19 w19.heap.size (Nat.le_refl _) (minR s0 xs0 ds0 s1 xs1 ds1).1.1 A6 A0 _ c6 c0 (minR s0 xs0 ds0 s1 xs1 ds1).1.2 rfl o6_19.rd1 o0_19.rd1 B6 B0 _ k6 k0 (minR s0 xs0 ds0 s1 xs1 ds1).2 rfl o6_19.rd2 o0_19.rd2 (by omega) (by omega)).mono ?_
      rintro e w20 ⟨rfl, hb20⟩
      have hs20 := hb20.size
      have o0_20 := o0_19.below hb20 (by omega)
      clear o0_19
      have o2_20 := o2_19.below hb20 (by omega)
      clear o2_19
      have o3_20 := o3_19.below hb20 (by omega)
      clear o3_19
      have o4_20 := o4_19.below hb20 (by omega)
      clear o4_19
      have o6_20 := o6_19.below hb20 (by omega)
      clear o6_19
      have bP0_20 := bP0_19.below hb20 bP0_19.lt
      have lP0_20 := bP0_20.lt
      clear bP0_19 lP0_19
      have bP1_20 := bP1_19.below hb20 bP1_19.lt
      have lP1_20 := bP1_20.lt
      clear bP1_19 lP1_19
      have bs1_0_20 := bs1_0_19.below hb20 bs1_0_19.lt
      have ls1_0_20 := bs1_0_20.lt
      clear bs1_0_19 ls1_0_19
      have bx0_20 := bx0_19.below hb20 bx0_19.lt
      have lx0_20 := bx0_20.lt
      clear bx0_19 lx0_19
      have bx1_20 := bx1_19.below hb20 bx1_19.lt
      have lx1_20 := bx1_20.lt
      clear bx1_19 lx1_19
      have bi5_0_20 := bi5_0_19.below hb20 bi5_0_19.lt
      have li5_0_20 := bi5_0_20.lt
      clear bi5_0_19 li5_0_19
      have bi7_0_20 := bi7_0_19.below hb20 bi7_0_19.lt
      have li7_0_20 := bi7_0_20.lt
      clear bi7_0_19 li7_0_19
      have I0_20 := I0_19.below (Below.mono hb20 (by omega))
      clear I0_19
      have J0_20 := J0_19.below (Below.mono hb20 (by omega))
      clear J0_19
      have I1_20 := I1_19.below (Below.mono hb20 (by omega))
      clear I1_19
      have J1_20 := J1_19.below (Below.mono hb20 (by omega))
      clear J1_19
      have hT20 := hT19.trans (Below.mono hb20 (by omega))
      clear hT19
      clear hb20
      clear yi7_0_0 yi7_0_1 yi7_0_2 ys1_0_0 ys1_0_1 ys1_0_2
      obtain ⟨yi5_0_0, yi5_0_1, yi5_0_2⟩ := bi5_0_20.cells3
      have hNK3 : ¬ (K3 : Int) < 0 := by omega
      go_wp2_with fail
      refine (heldRat_any w20 ((minR s0 xs0 ds0 s1 xs1 ds1).1.1) A4 (minR s0 xs0 ds0 s1 xs1 ds1).1.2.length c4 B4 (minR s0 xs0 ds0 s1 xs1 ds1).2.length k4 1 _ (Nat.le_refl _) o4_20.rd1 o4_20.rd2 (by omega) (by omega) (by omega)).mono ?_
      rintro e w21 ⟨he, hb21⟩
      rw [← HK3.out] at he
      subst he
      clear yi5_0_0 yi5_0_1 yi5_0_2
      have hs21 := hb21.size
      have o0_21 := o0_20.below hb21 (by omega)
      clear o0_20
      have o2_21 := o2_20.below hb21 (by omega)
      clear o2_20
      have o3_21 := o3_20.below hb21 (by omega)
      clear o3_20
      have o4_21 := o4_20.below hb21 (by omega)
      clear o4_20
      have o6_21 := o6_20.below hb21 (by omega)
      clear o6_20
      have bP0_21 := bP0_20.below hb21 bP0_20.lt
      have lP0_21 := bP0_21.lt
      clear bP0_20 lP0_20
      have bP1_21 := bP1_20.below hb21 bP1_20.lt
      have lP1_21 := bP1_21.lt
      clear bP1_20 lP1_20
      have bs1_0_21 := bs1_0_20.below hb21 bs1_0_20.lt
      have ls1_0_21 := bs1_0_21.lt
      clear bs1_0_20 ls1_0_20
      have bx0_21 := bx0_20.below hb21 bx0_20.lt
      have lx0_21 := bx0_21.lt
      clear bx0_20 lx0_20
      have bx1_21 := bx1_20.below hb21 bx1_20.lt
      have lx1_21 := bx1_21.lt
      clear bx1_20 lx1_20
      have bi5_0_21 := bi5_0_20.below hb21 bi5_0_20.lt
      have li5_0_21 := bi5_0_21.lt
      clear bi5_0_20 li5_0_20
      have bi7_0_21 := bi7_0_20.below hb21 bi7_0_20.lt
      have li7_0_21 := bi7_0_21.lt
      clear bi7_0_20 li7_0_20
      have I0_21 := I0_20.below (Below.mono hb21 (by omega))
      clear I0_20
      have J0_21 := J0_20.below (Below.mono hb21 (by omega))
      clear J0_20
      have I1_21 := I1_20.below (Below.mono hb21 (by omega))
      clear I1_20
      have J1_21 := J1_20.below (Below.mono hb21 (by omega))
      clear J1_20
      have hT21 := hT20.trans (Below.mono hb21 (by omega))
      clear hT20
      clear hb21
      go_wp2
      go_ret
      exact ⟨rfl, hT21⟩
end Go.Proofs.Ytiiedfhcandjdaa
