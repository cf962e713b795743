/-
  The reference's sums of polygons: contracts: l07Min, l07Max, WidthOf.
-/
import Derived.Test.YtocllmaikngoaaaDoorMinI3
import Derived.Test.YtocllmaikngoaaaDoorPolR
namespace Go.Proofs.YtocllmaikngoaaaDoor
open Go.RowKit
set_option linter.unusedVariables false
theorem l07Min_any (w : World) (x y : Int) :
    Calls Tryd.prog 53 #[.int .i64 x, .int .i64 y] w fun e w' => e = .returned (.int .i64 (min x y)) ∧ w = w' := by
  by_cases h : x < y
  · have HM : Hid (x = min x y) := by show _ = _; omega
    go_enter Tryd.func53, Tryd.ntmps53
    go_wp2_with fail
    go_ret
    exact ⟨ret_int HM.out, rfl⟩
  · have HM : Hid (y = min x y) := by show _ = _; omega
    go_enter Tryd.func53, Tryd.ntmps53
    go_wp2_with fail
    go_ret
    exact ⟨ret_int HM.out, rfl⟩
theorem l07Max_any (w : World) (x y : Int) :
    Calls Tryd.prog 54 #[.int .i64 x, .int .i64 y] w fun e w' => e = .returned (.int .i64 (max x y)) ∧ w = w' := by
  by_cases h : y < x
  · have HM : Hid (x = max x y) := by show _ = _; omega
    go_enter Tryd.func54, Tryd.ntmps54
    go_wp2_with fail
    go_ret
    exact ⟨ret_int HM.out, rfl⟩
  · have HM : Hid (y = max x y) := by show _ = _; omega
    go_enter Tryd.func54, Tryd.ntmps54
    go_wp2_with fail
    go_ret
    exact ⟨ret_int HM.out, rfl⟩
set_option maxRecDepth 100000 in
set_option maxHeartbeats 3200000 in
theorem spec_WidthOf (w : World) (B : Nat) (hB : B ≤ w.heap.size) (A : Option Addr) (n c : Nat) (l : List V2) (R : RdV w B A n l) :
    Calls Tryd.prog 35 #[.slice A n c] w fun e w' => e = .returned (.tuple #[.agg #[.int .i64 (loB l).1, .int .i64 (loB l).2], .agg #[.int .i64 (hiB l).1, .int .i64 (hiB l).2], .bool (polyB l)]) ∧ Below w.heap.size w w' := by
  obtain ⟨W0, hW0⟩ : ∃ W0, W0 = (w.alloc (.cells #[.int .i64 0, .int .i64 0] 31)).alloc (.cells #[.int .i64 0, .int .i64 0] 31) := ⟨_, rfl⟩
  have hT0 : Below w.heap.size w W0 := by rw [hW0]; exact below_alloc (below_new _ _) _
  have k2 : Box W0 w.heap.size 31 #[.int .i64 0, .int .i64 0] := by rw [hW0]; exact (Box.last _ _ _ rfl).alloc _
  have k3 : Box W0 (w.heap.size + 1) 31 #[.int .i64 0, .int .i64 0] := by rw [hW0]; exact Box.last _ _ _ (alloc_size _ _).symm
  have R0 := R.below (hT0.mono hB)
  have HP := hide (spec_IsPolygon W0 B (Nat.le_trans hB hT0.size) A n c l R0)
  have hs0 : w.heap.size + 2 ≤ W0.heap.size := by rw [hW0, alloc_size, alloc_size]; omega
  clear R
  cases ep : polyB l with
  | false =>
    have H1 := hide (loB_no ep)
    have H2 := hide (hiB_no ep)
    rw [ep] at HP
    clear R0 ep
    go_enter Tryd.func35, Tryd.ntmps35
    go_upto_region 1 with fail
    rw [← hW0]
    clear hW0
    go_wp2_with fail
    refine HP.out.mono ?_
    rintro e w1 ⟨rfl, hb1⟩
    have k2' := k2.below hb1 k2.lt
    have k3' := k3.below hb1 k3.lt
    have HK2 := hide k2'
    have HK3 := hide k3'
    obtain ⟨a0, a1, a2, a3⟩ := k2'.facts
    obtain ⟨b0, b1, b2, b3⟩ := k3'.facts
    have hT1 := below_then hT0 hb1
    clear HP k2 k3 k2' k3' hb1 hs0 hT0
    go_wp2_with fail
    rw [H1.out, H2.out]
    refine bodyPost_ret (results_cct rfl _ _ w.heap.size (w.heap.size + 1) _ #[.int .i64 0, .int .i64 0] #[.int .i64 0, .int .i64 0] (0, 0) (0, 0) _ rfl rfl (show Box _ _ 31 #[.int .i64 0, .int .i64 0] from (((HK2.out.set2 _ _).setv (by omega) _ _).setv (by omega) _ _)) (show Box _ _ 31 #[.int .i64 0, .int .i64 0] from (((HK3.out.setv (by omega) _ _).setv (by omega) _ _).set2 _ _)) Tryd.underlying31 rfl Tryd.sizeVec Tryd.sizeVec) rfl ?_
    exact ⟨rfl, below_set2 (below_set2 hT1 (Nat.le_refl _) _ _) (Nat.le_succ _) _ _⟩
  | true =>
    have hpp := polyB_iff.1 ep
    have h3 := hpp.1
    have H1 := hide (loB_is ep)
    have H2 := hide (hiB_is ep)
    rw [ep] at HP
    obtain ⟨hn, hx, hl, hwf⟩ := R0
    have HV := hide (fun k (hk : k ≤ l.length) => And.intro (vecB_bounds (loN_vec hpp hk)) (vecB_bounds (hiN_vec hpp hk)))
    have HVX := hide (fun k (hk : k < l.length) => vecB_bounds (poly_vec hpp hk))
    clear ep hpp
    go_enter Tryd.func35, Tryd.ntmps35
    go_upto_region 1 with fail
    rw [← hW0]
    clear hW0
    go_wp2_with fail
    refine HP.out.mono ?_
    rintro e w1 ⟨rfl, hb1⟩
    have k2' := k2.below hb1 k2.lt
    have k3' := k3.below hb1 k3.lt
    have hT1 := below_then hT0 hb1
    have hs1 : w.heap.size + 2 ≤ w1.heap.size := Nat.le_trans hs0 hb1.size
    have hx1 := hx.below (hb1.mono (Nat.le_trans hB hT0.size))
    clear HP k2 k3 hb1 hs0 hT0 hx
    obtain ⟨ad, hA, hba, hc1, hc2⟩ := hx1.vec (k := 0) (by omega)
    have e0 : ad.add (0 * 2) = ad := add_zero' ad
    rw [e0] at hc1 hc2
    clear e0
    have hL0 : Hid (l[0]'(by omega) = atV l 0) := (atV_eq (by omega)).symm
    rw [hL0.out] at hc1 hc2
    clear hL0
    subst hA
    have hi0 : 0 < n := by omega
    have hi1 : (0 : Int) < (n : Int) := by omega
    have hba1 : ad.block < w1.heap.size := by omega
    obtain ⟨W1, hW1⟩ : ∃ W1, W1 = (w1.alloc (.cells #[.int .i64 (atV l 0).1, .int .i64 (atV l 0).2] 31)).alloc (.cells #[.int .i64 (atV l 0).1, .int .i64 (atV l 0).2] 31) := ⟨_, rfl⟩
    obtain ⟨g5, hg5⟩ : ∃ g5, g5 = w1.heap.size := ⟨_, rfl⟩
    obtain ⟨g6, hg6⟩ : ∃ g6, g6 = w1.heap.size + 1 := ⟨_, rfl⟩
    have k5 : Box W1 g5 31 #[.int .i64 (atV l 0).1, .int .i64 (atV l 0).2] := by rw [hW1, hg5]; exact (Box.last _ _ _ rfl).alloc _
    have k6 : Box W1 g6 31 #[.int .i64 (atV l 0).1, .int .i64 (atV l 0).2] := by rw [hW1, hg6]; exact Box.last _ _ _ (alloc_size _ _).symm
    have hb1 : Below w1.heap.size w1 W1 := by rw [hW1]; exact below_alloc (below_new _ _) _
    have h5 : w1.heap.size ≤ g5 := by omega
    have h6 : w1.heap.size ≤ g6 := by omega
    have h56 : g5 ≠ g6 := by omega
    have z5 : Box W1 g5 31 #[.int .i64 (loN l 0).1, .int .i64 (loN l 0).2] := k5
    have z6 : Box W1 g6 31 #[.int .i64 (hiN l 0).1, .int .i64 (hiN l 0).2] := k6
    clear k5 k6
    generalize (atV l 0).1 = x0 at *
    generalize (atV l 0).2 = y0 at *
    go_upto_region 5 with fail
    rw [← hW1, ← hg6, ← hg5]
    clear hW1 hg6 hg5 hc1 hc2
    obtain ⟨V1, hV⟩ : ∃ x, x = W1 := ⟨_, rfl⟩
    subst hV
    go_wp2_with fail
    go_loopw [22] (fun i wr => ∃ k : Nat, k ≤ n ∧ i = .int .i64 k ∧ Box wr g5 31 #[.int .i64 (loN l k).1, .int .i64 (loN l k).2] ∧ Box wr g6 31 #[.int .i64 (hiN l k).1, .int .i64 (hiN l k).2] ∧ Below w1.heap.size w1 wr) (fun i _ => n - (intOf i).toNat)
    case atStart => exact ⟨0, Nat.zero_le _, rfl, z5, z6, hb1⟩
    case round =>
      clear z5 z6 hb1
      obtain ⟨k, hk, rfl, k5, k6, hbel⟩ := hrel
      by_cases hlt : k < n
      · obtain ⟨ae, hE, hbb, hc1, hc2⟩ := (hx1.below (hbel.mono (Nat.le_trans hB (by have := hT1.size; omega)))).vec (k := k) (by omega)
        have hkl : k < l.length := by omega
        have hL1 : Box wr g5 31 #[.int .i64 (loN l k).1, .int .i64 (loN l k).2] := k5
        have HN1 : Hid (loN l (k + 1) = (min (loN l k).1 (atV l k).1, min (loN l k).2 (atV l k).2)) := rfl
        have HN2 : Hid (hiN l (k + 1) = (max (hiN l k).1 (atV l k).1, max (hiN l k).2 (atV l k).2)) := rfl
        have ea := atV_eq hkl
        rw [← ea] at hc1 hc2
        clear ea hL1
        generalize (atV l k).1 = x0 at *
        generalize (atV l k).2 = y0 at *
        generalize (loN l k).1 = a0 at *
        generalize (loN l k).2 = a1 at *
        generalize (hiN l k).1 = b0 at *
        generalize (hiN l k).2 = b1 at *
        have HM1 := hide (fun (W : World) => l07Min_any W a0 x0)
        have HM2 := hide (fun (W : World) => l07Min_any W a1 y0)
        have HM3 := hide (fun (W : World) => l07Max_any W b0 x0)
        have HM4 := hide (fun (W : World) => l07Max_any W b1 y0)
        generalize min a0 x0 = m0 at *
        generalize min a1 y0 = m1 at *
        generalize max b0 x0 = n0 at *
        generalize max b1 y0 = n1 at *
        obtain ⟨W1, hW1⟩ : ∃ W1, W1 = wr.alloc (.cells #[.int .i64 x0, .int .i64 y0] 31) := ⟨_, rfl⟩
        have kx : Box W1 wr.heap.size 31 #[.int .i64 x0, .int .i64 y0] := by rw [hW1]; exact Box.last _ _ _ rfl
        have k5' : Box W1 g5 31 #[.int .i64 a0, .int .i64 a1] := by rw [hW1]; exact k5.alloc _
        have k6' : Box W1 g6 31 #[.int .i64 b0, .int .i64 b1] := by rw [hW1]; exact k6.alloc _
        have hbW : Below w1.heap.size w1 W1 := by rw [hW1]; exact below_alloc hbel _
        have hn5 : g5 ≠ wr.heap.size := by have := k5.lt; omega
        have hn6 : g6 ≠ wr.heap.size := by have := k6.lt; omega
        clear k5 k6 hbel
        cases hE
        go_upto_region 8 with fail
        rw [← hW1]
        clear hW1 hc1 hc2
        have HK5 := hide k5'
        have HK6 := hide k6'
        have HKX := hide kx
        obtain ⟨p0, p1, p2, p3⟩ := k5'.facts
        obtain ⟨x0', x1', -, -⟩ := kx.facts
        clear k5' k6' kx
        go_wp2_with fail
        refine (HM1.out _).mono ?_
        rintro e w' ⟨rfl, rfl⟩
        clear HM1
        go_upto_region 9 with fail
        obtain ⟨W2, hW2⟩ : ∃ W2, W2 = W1.setCell ⟨g5, 0, none⟩ (.int .i64 m0) := ⟨_, rfl⟩
        have j5 : Box W2 g5 31 #[.int .i64 m0, .int .i64 a1] := by rw [hW2]; exact HK5.out.set 0 _
        have j6 : Box W2 g6 31 #[.int .i64 b0, .int .i64 b1] := by rw [hW2]; exact HK6.out.setv (Ne.symm h56) _ _
        have jx : Box W2 wr.heap.size 31 #[.int .i64 x0, .int .i64 y0] := by rw [hW2]; exact HKX.out.setv (Ne.symm hn5) _ _
        have hbW2 : Below w1.heap.size w1 W2 := by rw [hW2]; exact hbW.setCell (p := ⟨g5, 0, none⟩) h5 _
        rw [← hW2]
        clear hW2 hbW HK5 HK6 HKX p0 p1 p2 p3 x0' x1'
        have HK5 := hide j5
        have HK6 := hide j6
        have HKX := hide jx
        obtain ⟨p0, p1, p2, p3⟩ := j5.facts
        obtain ⟨x0', x1', -, -⟩ := jx.facts
        clear j5 j6 jx
        go_wp2_with fail
        refine (HM2.out _).mono ?_
        rintro e w' ⟨rfl, rfl⟩
        clear HM2
        go_upto_region 10 with fail
        obtain ⟨W3, hW3⟩ : ∃ W3, W3 = W2.setCell ⟨g5, 1, none⟩ (.int .i64 m1) := ⟨_, rfl⟩
        have j5 : Box W3 g5 31 #[.int .i64 m0, .int .i64 m1] := by rw [hW3]; exact HK5.out.set 1 _
        have j6 : Box W3 g6 31 #[.int .i64 b0, .int .i64 b1] := by rw [hW3]; exact HK6.out.setv (Ne.symm h56) _ _
        have jx : Box W3 wr.heap.size 31 #[.int .i64 x0, .int .i64 y0] := by rw [hW3]; exact HKX.out.setv (Ne.symm hn5) _ _
        have hbW3 : Below w1.heap.size w1 W3 := by rw [hW3]; exact hbW2.setCell (p := ⟨g5, 1, none⟩) h5 _
        rw [← hW3]
        clear hW3 hbW2 HK5 HK6 HKX p0 p1 p2 p3 x0' x1'
        have HK5 := hide j5
        have HK6 := hide j6
        have HKX := hide jx
        obtain ⟨p0, p1, p2, p3⟩ := j6.facts
        obtain ⟨x0', x1', -, -⟩ := jx.facts
        clear j5 j6 jx
        go_wp2_with fail
        refine (HM3.out _).mono ?_
        rintro e w' ⟨rfl, rfl⟩
        clear HM3
        go_upto_region 11 with fail
        obtain ⟨W4, hW4⟩ : ∃ W4, W4 = W3.setCell ⟨g6, 0, none⟩ (.int .i64 n0) := ⟨_, rfl⟩
        have j5 : Box W4 g5 31 #[.int .i64 m0, .int .i64 m1] := by rw [hW4]; exact HK5.out.setv h56 _ _
        have j6 : Box W4 g6 31 #[.int .i64 n0, .int .i64 b1] := by rw [hW4]; exact HK6.out.set 0 _
        have jx : Box W4 wr.heap.size 31 #[.int .i64 x0, .int .i64 y0] := by rw [hW4]; exact HKX.out.setv (Ne.symm hn6) _ _
        have hbW4 : Below w1.heap.size w1 W4 := by rw [hW4]; exact hbW3.setCell (p := ⟨g6, 0, none⟩) h6 _
        rw [← hW4]
        clear hW4 hbW3 HK5 HK6 HKX p0 p1 p2 p3 x0' x1'
        have HK5 := hide j5
        have HK6 := hide j6
        obtain ⟨p0, p1, p2, p3⟩ := j6.facts
        obtain ⟨x0', x1', -, -⟩ := jx.facts
        clear j5 j6 jx
        go_wp2_with fail
        refine (HM4.out _).mono ?_
        rintro e w' ⟨rfl, rfl⟩
        clear HM4
        go_wp2_with fail
        go_roundw
        case rel =>
          refine ⟨k + 1, by omega, by go_num, box_val (HK5.out.setv h56 _ _) ?_ ?_, box_val (HK6.out.set 1 _) ?_ ?_, hbW4.setCell (p := ⟨g6, 1, none⟩) h6 _⟩
          · rw [HN1.out]
          · rw [HN1.out]
          · rw [HN2.out]
          · rw [HN2.out]
        case measure => simp [intOf]; omega
      · obtain rfl : k = n := by omega
        have hkk : k = l.length := hn.symm
        rw [hkk] at k5 k6
        rw [← H1.out] at k5
        rw [← H2.out] at k6
        have q2 := k2'.below hbel k2'.lt
        have q3 := k3'.below hbel k3'.lt
        have hT2 := below_then hT1 hbel
        have HQ2 := hide q2
        have HQ3 := hide q3
        obtain ⟨a0, a1, a2, a3⟩ := q2.facts
        obtain ⟨b0, b1, b2, b3⟩ := q3.facts
        obtain ⟨p0, p1, -, -⟩ := k5.facts
        obtain ⟨x0', x1', -, -⟩ := k6.facts
        clear k2' k3' q2 q3 k5 k6 hx1 hbel hkk
        go_wp2_with fail
        go_region_with (fail)
        all_goals
          go_wp2_with fail
          obtain ⟨s1, s2, s3⟩ := store_two (x := .int .i64 (loB l).1) (y := .int .i64 (loB l).2) (u := .int .i64 (hiB l).1) (v := .int .i64 (hiB l).2) HQ2.out HQ3.out hT2 (Nat.le_refl _) (Nat.le_succ _) (by omega)
          refine bodyPost_ret (results_cct rfl _ _ w.heap.size (w.heap.size + 1) _ #[.int .i64 (loB l).1, .int .i64 (loB l).2] #[.int .i64 (hiB l).1, .int .i64 (hiB l).2] (0, 0) (0, 0) _ rfl rfl (show Box _ _ 31 _ from s1.drew) (show Box _ _ 31 _ from s2.drew) Tryd.underlying31 rfl Tryd.sizeVec Tryd.sizeVec) rfl ?_
          exact ⟨rfl, s3.drew⟩
end Go.Proofs.YtocllmaikngoaaaDoor
