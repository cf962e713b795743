/-
  The walk of the exact law of PointOf.
-/
import Derived.Test.YtnbaookdeijhhaaPtS
import Derived.Test.YtnbaookdeijhhaaPtR
import Derived.Deep.RegionHeld3
import Derived.Deep.CutRange
import Derived.Sort.AtCall
namespace Go.Proofs.Ytnbaookdeijhhaa
open Go.RowKit
set_option linter.unusedVariables false
set_option maxRecDepth 100000 in
set_option maxHeartbeats 16000000 in
theorem FnExactPointOf_walk (w : World) (ax ay : Int) (hax : (Lit.int .i64 ax).wf = true) (hay : (Lit.int .i64 ay).wf = true) :
    Calls Try.prog 6 #[.agg #[.int .i64 ax, .int .i64 ay]] w fun e w' => e = .returned (.bool true) ∧ Below w.heap.size w w' := by
  obtain ⟨W0, hW0⟩ : ∃ W0, W0 = (w.alloc (.cells #[.int .i64 ax, .int .i64 ay] 23)) := ⟨_, rfl⟩
  have hT0 : Below w.heap.size w W0 := by rw [hW0]; exact below_new _ _
  have ka : Box W0 (w.heap.size) 23 #[.int .i64 ax, .int .i64 ay] := by rw [hW0]; exact Box.last _ _ _ rfl
  have hs0 : W0.heap.size = w.heap.size + 1 := by rw [hW0, alloc_size]
  go_enter Try.func6, Try.ntmps6
  go_upto_region 1 with fail
  rw [← hW0]
  clear hW0
  have HCa := hide (fun (W : World) => toVec_any W ax ay hax hay)
  obtain ⟨ya0, ya1⟩ := ka.cells2
  go_wp2_with fail
  refine (toVec_any W0 ax ay hax hay).mono ?_
  rintro e w1 ⟨rfl, hb1⟩
  clear ya0 ya1
  have hs1 := hb1.size
  have hT1 := below_then hT0 hb1
  have ka := ka.below hb1 ka.lt
  clear hT0
  clear hb1
  clear HCa
  go_wp2_with fail
  refine (spec_PointOf w1 ax ay hax hay).mono ?_
  rintro e w2 ⟨w00, w01, w02, w03, w04, w05, rfl, ow0, hb2⟩
  obtain ⟨w0b, w0A, w0n, w0c, w0D, w0m, w0k, w0yb, w0yA, w0yn, w0yc, w0yD, w0ym, w0yk, rfl, rfl, rfl, rfl, rfl, rfl⟩ := ow0.cut
  have hs2 := hb2.size
  have hT2 := below_then hT1 hb2
  have ka := ka.below hb2 ka.lt
  clear hT1
  clear hb2
  obtain ⟨w3, hw3⟩ : ∃ x, x = (w2.alloc (.cells #[.bool w0b, .slice w0A w0n w0c, .slice w0D w0m w0k, .bool w0yb, .slice w0yA w0yn w0yc, .slice w0yD w0ym w0yk] 41)) := ⟨_, rfl⟩
  have hb3 : Below w2.heap.size w2 w3 := by rw [hw3]; exact below_new _ _
  have hq3 : w3.heap.size = w2.heap.size + 1 := by rw [hw3, alloc_size]
  have kw0 : Box w3 (w2.heap.size) 41 #[.bool w0b, .slice w0A w0n w0c, .slice w0D w0m w0k, .bool w0yb, .slice w0yA w0yn w0yc, .slice w0yD w0ym w0yk] := by rw [hw3]; exact Box.last _ _ _ (by omega)
  have hs3 := hb3.size
  have hT3 := below_then hT2 hb3
  have ka := ka.below hb3 ka.lt
  have ow0 := ow0.below hb3 (by omega)
  clear hT2
  go_upto_region 2 with fail
  rw [← hw3]
  clear hw3 hb3
  have HCa := hide (fun (W : World) => toVec_any W ax ay hax hay)
  obtain ⟨ya0, ya1⟩ := ka.cells2
  go_wp2_with fail
  refine (toVec_any w3 ax ay hax hay).mono ?_
  rintro e w4 ⟨rfl, hb4⟩
  clear ya0 ya1
  have hs4 := hb4.size
  have hT4 := below_then hT3 hb4
  have ka := ka.below hb4 ka.lt
  have kw0 := kw0.below hb4 kw0.lt
  have ow0 := ow0.below hb4 (by omega)
  clear hT3
  clear hb4
  clear HCa
  go_wp2_with fail
  refine (impl_PointOf w4 ax ay hax hay).mono ?_
  rintro e w5 ⟨h00, h01, h02, h03, h04, h05, rfl, oh0, hb5⟩
  obtain ⟨h0b, h0A, h0n, h0c, h0D, h0m, h0k, h0yb, h0yA, h0yn, h0yc, h0yD, h0ym, h0yk, rfl, rfl, rfl, rfl, rfl, rfl⟩ := oh0.cut
  have hs5 := hb5.size
  have hT5 := below_then hT4 hb5
  have ka := ka.below hb5 ka.lt
  have kw0 := kw0.below hb5 kw0.lt
  have ow0 := ow0.below hb5 (by omega)
  clear hT4
  clear hb5
  obtain ⟨w6, hw6⟩ : ∃ x, x = (w5.alloc (.cells #[.bool h0b, .slice h0A h0n h0c, .slice h0D h0m h0k, .bool h0yb, .slice h0yA h0yn h0yc, .slice h0yD h0ym h0yk] 41)) := ⟨_, rfl⟩
  have hb6 : Below w5.heap.size w5 w6 := by rw [hw6]; exact below_new _ _
  have hq6 : w6.heap.size = w5.heap.size + 1 := by rw [hw6, alloc_size]
  have kh0 : Box w6 (w5.heap.size) 41 #[.bool h0b, .slice h0A h0n h0c, .slice h0D h0m h0k, .bool h0yb, .slice h0yA h0yn h0yc, .slice h0yD h0ym h0yk] := by rw [hw6]; exact Box.last _ _ _ (by omega)
  have hs6 := hb6.size
  have hT6 := below_then hT5 hb6
  have ka := ka.below hb6 ka.lt
  have kw0 := kw0.below hb6 kw0.lt
  have ow0 := ow0.below hb6 (by omega)
  have oh0 := oh0.below hb6 (by omega)
  clear hT5
  go_upto_region 3 with fail
  rw [← hw6]
  clear hw6 hb6
  have kg0 := kh0
  have og0 := oh0
  clear kh0 oh0
  obtain ⟨yg00, yg01, yg02, yg03, yg04, yg05⟩ := kg0.cells6
  obtain ⟨yw00, yw01, yw02, yw03, yw04, yw05⟩ := kw0.cells6
  go_wp2_with fail
  refine (eqP_any w6 w6.heap.size (Nat.le_refl _) (og0.in_ (vecP_fit ax ay) (by omega)) (ow0.in_ (vecP_fit ax ay) (by omega))).mono ?_
  rintro e w7 ⟨rfl, hb7⟩
  clear yg00 yg01 yg02 yg03 yg04 yg05 yw00 yw01 yw02 yw03 yw04 yw05
  have hs7 := hb7.size
  have hT7 := below_then hT6 hb7
  have ka := ka.below hb7 ka.lt
  have kw0 := kw0.below hb7 kw0.lt
  have kg0 := kg0.below hb7 kg0.lt
  have ow0 := ow0.below hb7 (by omega)
  have og0 := og0.below hb7 (by omega)
  clear hT6
  clear hb7
  obtain ⟨yg00, yg01, yg02, yg03, yg04, yg05⟩ := kg0.cells6
  go_wp2_with fail
  refine (markP_own w7 (w4.heap.size) (w5.heap.size) 3 1 og0 (by omega) (vecP_fit ax ay) (by omega)).mono ?_
  rintro e w8 ⟨he, pg0, ha8⟩
  have hcz := sizP_le (vecP_fit ax ay)
  obtain ⟨K1, hK1⟩ : ∃ K : Nat, K = 1 + sizP (vecP ax ay) := ⟨_, rfl⟩
  have bK1 : K1 ≤ 4200010 := by omega
  rw [← hK1] at he
  subst he
  have HK1 := hide hK1
  clear hK1 hcz
  clear yg00 yg01 yg02 yg03 yg04 yg05
  have hs8 := ha8.size
  have hT8 := hT7.trans (Aside.below ha8 (by omega) (by omega))
  have ka := ka.aside ha8 (by omega)
  have kw0 := kw0.aside ha8 (by omega)
  have kg0 := kg0.aside ha8 (by omega)
  have ow0 := ow0.aside ha8 (by omega)
  clear hT7
  have og0 := pg0
  clear pg0 ha8
  obtain ⟨yg00, yg01, yg02, yg03, yg04, yg05⟩ := kg0.cells6
  have hNK1 : ¬ (K1 : Int) < 0 := by omega
  go_wp2_with fail
  refine (heldP_any w8 (w4.heap.size) (w5.heap.size) 3 1 og0 (by omega) (vecP_fit ax ay) (by omega)).mono ?_
  rintro e w9 ⟨he, hb9⟩
  rw [← HK1.out] at he
  subst he
  clear yg00 yg01 yg02 yg03 yg04 yg05
  have hs9 := hb9.size
  have hT9 := below_then hT8 hb9
  have ka := ka.below hb9 ka.lt
  have kw0 := kw0.below hb9 kw0.lt
  have kg0 := kg0.below hb9 kg0.lt
  have ow0 := ow0.below hb9 (by omega)
  have og0 := og0.below hb9 (by omega)
  clear hT8
  clear hb9
  have HCa := hide (fun (W : World) => toVec_any W ax ay hax hay)
  obtain ⟨ya0, ya1⟩ := ka.cells2
  go_wp2_with fail
  refine (toVec_any w9 ax ay hax hay).mono ?_
  rintro e w10 ⟨rfl, hb10⟩
  clear ya0 ya1
  have hs10 := hb10.size
  have hT10 := below_then hT9 hb10
  have ka := ka.below hb10 ka.lt
  have kw0 := kw0.below hb10 kw0.lt
  have kg0 := kg0.below hb10 kg0.lt
  have ow0 := ow0.below hb10 (by omega)
  have og0 := og0.below hb10 (by omega)
  clear hT9
  clear hb10
  clear HCa
  go_wp2_with fail
  refine (impl_PointOf w10 ax ay hax hay).mono ?_
  rintro e w11 ⟨h00, h01, h02, h03, h04, h05, rfl, oh0, hb11⟩
  obtain ⟨h0b, h0A, h0n, h0c, h0D, h0m, h0k, h0yb, h0yA, h0yn, h0yc, h0yD, h0ym, h0yk, rfl, rfl, rfl, rfl, rfl, rfl⟩ := oh0.cut
  have hs11 := hb11.size
  have hT11 := below_then hT10 hb11
  have ka := ka.below hb11 ka.lt
  have kw0 := kw0.below hb11 kw0.lt
  have kg0 := kg0.below hb11 kg0.lt
  have ow0 := ow0.below hb11 (by omega)
  have og0 := og0.below hb11 (by omega)
  clear hT10
  clear hb11
  obtain ⟨w12, hw12⟩ : ∃ x, x = (w11.alloc (.cells #[.bool h0b, .slice h0A h0n h0c, .slice h0D h0m h0k, .bool h0yb, .slice h0yA h0yn h0yc, .slice h0yD h0ym h0yk] 41)) := ⟨_, rfl⟩
  have hb12 : Below w11.heap.size w11 w12 := by rw [hw12]; exact below_new _ _
  have hq12 : w12.heap.size = w11.heap.size + 1 := by rw [hw12, alloc_size]
  have kh0 : Box w12 (w11.heap.size) 41 #[.bool h0b, .slice h0A h0n h0c, .slice h0D h0m h0k, .bool h0yb, .slice h0yA h0yn h0yc, .slice h0yD h0ym h0yk] := by rw [hw12]; exact Box.last _ _ _ (by omega)
  have hs12 := hb12.size
  have hT12 := below_then hT11 hb12
  have ka := ka.below hb12 ka.lt
  have kw0 := kw0.below hb12 kw0.lt
  have kg0 := kg0.below hb12 kg0.lt
  have ow0 := ow0.below hb12 (by omega)
  have og0 := og0.below hb12 (by omega)
  have oh0 := oh0.below hb12 (by omega)
  clear hT11
  go_upto_region 14 with fail
  rw [← hw12]
  clear hw12 hb12
  obtain ⟨yh00, yh01, yh02, yh03, yh04, yh05⟩ := kh0.cells6
  obtain ⟨yw00, yw01, yw02, yw03, yw04, yw05⟩ := kw0.cells6
  go_wp2_with fail
  refine (eqP_any w12 w12.heap.size (Nat.le_refl _) (oh0.in_ (vecP_fit ax ay) (by omega)) (ow0.in_ (vecP_fit ax ay) (by omega))).mono ?_
  rintro e w13 ⟨rfl, hb13⟩
  clear yh00 yh01 yh02 yh03 yh04 yh05 yw00 yw01 yw02 yw03 yw04 yw05
  have hs13 := hb13.size
  have hT13 := below_then hT12 hb13
  have ka := ka.below hb13 ka.lt
  have kw0 := kw0.below hb13 kw0.lt
  have kg0 := kg0.below hb13 kg0.lt
  have kh0 := kh0.below hb13 kh0.lt
  have ow0 := ow0.below hb13 (by omega)
  have og0 := og0.below hb13 (by omega)
  have oh0 := oh0.below hb13 (by omega)
  clear hT12
  clear hb13
  obtain ⟨yg00, yg01, yg02, yg03, yg04, yg05⟩ := kg0.cells6
  have hNK1 : ¬ (K1 : Int) < 0 := by omega
  go_wp2_with fail
  refine (heldP_any w13 (w4.heap.size) (w5.heap.size) 3 1 og0 (by omega) (vecP_fit ax ay) (by omega)).mono ?_
  rintro e w14 ⟨he, hb14⟩
  rw [← HK1.out] at he
  subst he
  clear yg00 yg01 yg02 yg03 yg04 yg05
  have hs14 := hb14.size
  have hT14 := below_then hT13 hb14
  have ka := ka.below hb14 ka.lt
  have kw0 := kw0.below hb14 kw0.lt
  have kg0 := kg0.below hb14 kg0.lt
  have kh0 := kh0.below hb14 kh0.lt
  have ow0 := ow0.below hb14 (by omega)
  have og0 := og0.below hb14 (by omega)
  have oh0 := oh0.below hb14 (by omega)
  clear hT13
  clear hb14
  go_wp2
  go_ret
  exact ⟨rfl, hT14⟩
end Go.Proofs.Ytnbaookdeijhhaa
