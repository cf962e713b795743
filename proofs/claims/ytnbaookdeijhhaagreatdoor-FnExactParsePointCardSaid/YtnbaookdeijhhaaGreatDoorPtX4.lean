/-
  The walk of the exact law of ParsePoint.
-/
import Derived.Test.YtnbaookdeijhhaaGreatDoorPtP2
import Derived.Test.YtnbaookdeijhhaaGreatDoorPtL
import Derived.Test.YtnbaookdeijhhaaGreatDoorPtS
import Derived.Deep.RegionHeld3
import Derived.Deep.CutRange
import Derived.Sort.AtCall
namespace Go.Proofs.YtnbaookdeijhhaaGreatDoor
open Go.RowKit
set_option linter.unusedVariables false
set_option maxRecDepth 100000 in
set_option maxHeartbeats 16000000 in
theorem FnExactParsePoint_walk (w : World) (s : ByteArray) (hs : s.size ≤ maxLen) (hPT : PowTab w) (ml : Int) (hML : w.cell? ⟨0, 0, none⟩ = some (.int .i64 ml)) (hg0 : 0 < w.heap.size) :
    Calls Tryz.prog 6 #[.string s] w fun e w' => e = .returned (.bool true) ∧ Below w.heap.size w w' := by
  have hm := hs
  unfold maxLen at hm
  by_cases c0 : 1048576 < s.size
  · clear hPT hML
    go_enter Tryz.func6, Tryz.ntmps6
    go_wp2
    go_ret
    exact ⟨rfl, Below.refl _ _⟩
  have hn : s.size ≤ 1048576 := by omega
  clear c0 hm hs
  have hT0 : Below w.heap.size w w := Below.refl _ _
  have PL := hPT.lt
  have HPT := hide hPT
  have HML := hide hML
  clear hPT hML
  go_enter Tryz.func6, Tryz.ntmps6
  go_wp2_with fail
  refine (spec_ParsePoint w s hn).mono ?_
  rintro e w1 ⟨v0, v1, v2, v3, v4, v5, rfl, ov, hb1⟩
  obtain ⟨vb, vA, vn, vc, vD, vm, vk, vyb, vyA, vyn, vyc, vyD, vym, vyk, rfl, rfl, rfl, rfl, rfl, rfl⟩ := ov.cut
  have hs1 := hb1.size
  have hT1 := below_then hT0 hb1
  clear hT0
  clear hb1
  obtain ⟨w2, hw2⟩ : ∃ xw, xw = (w1.alloc (.cells #[.bool vb, .slice vA vn vc, .slice vD vm vk, .bool vyb, .slice vyA vyn vyc, .slice vyD vym vyk] 38)) := ⟨_, rfl⟩
  have hb2 : Below w1.heap.size w1 w2 := by rw [hw2]; exact below_new _ _
  have hq2 : w2.heap.size = w1.heap.size + 1 := by rw [hw2, alloc_size]
  have kv : Box w2 (w1.heap.size) 38 #[.bool vb, .slice vA vn vc, .slice vD vm vk, .bool vyb, .slice vyA vyn vyc, .slice vyD vym vyk] := by rw [hw2]; exact Box.last _ _ _ (by omega)
  have hs2 := hb2.size
  have hT2 := below_then hT1 hb2
  have ov := ov.below hb2 (by omega)
  clear hT1
  go_upto_region 4 with fail
  rw [← hw2]
  clear hw2 hb2
  go_wp2_with fail
  refine (impl_ParsePoint w2 s hn (HPT.out.below hT2 PL) ml ((hT2.cell hg0).trans HML.out) (Nat.lt_of_lt_of_le hg0 hT2.size)).mono ?_
  rintro e w3 ⟨g0, g1, g2, g3, g4, g5, rfl, og, hb3⟩
  obtain ⟨gb, gA, gn, gc, gD, gm, gk, gyb, gyA, gyn, gyc, gyD, gym, gyk, rfl, rfl, rfl, rfl, rfl, rfl⟩ := og.cut
  have hs3 := hb3.size
  have hT3 := below_then hT2 hb3
  have kv := kv.below hb3 kv.lt
  have ov := ov.below hb3 (by omega)
  clear hT2
  clear hb3
  obtain ⟨w4, hw4⟩ : ∃ xw, xw = (w3.alloc (.cells #[.bool gb, .slice gA gn gc, .slice gD gm gk, .bool gyb, .slice gyA gyn gyc, .slice gyD gym gyk] 38)) := ⟨_, rfl⟩
  have hb4 : Below w3.heap.size w3 w4 := by rw [hw4]; exact below_new _ _
  have hq4 : w4.heap.size = w3.heap.size + 1 := by rw [hw4, alloc_size]
  have kg : Box w4 (w3.heap.size) 38 #[.bool gb, .slice gA gn gc, .slice gD gm gk, .bool gyb, .slice gyA gyn gyc, .slice gyD gym gyk] := by rw [hw4]; exact Box.last _ _ _ (by omega)
  have hs4 := hb4.size
  have hT4 := below_then hT3 hb4
  have kv := kv.below hb4 kv.lt
  have ov := ov.below hb4 (by omega)
  have og := og.below hb4 (by omega)
  clear hT3
  go_upto_region 5 with fail
  rw [← hw4]
  clear hw4 hb4
  obtain ⟨yg0, yg1, yg2, yg3, yg4, yg5⟩ := kg.cells6
  obtain ⟨yv0, yv1, yv2, yv3, yv4, yv5⟩ := kv.cells6
  go_wp2_with fail
  refine (eqP_any w4 w4.heap.size (Nat.le_refl _) (og.in_ (parP_fit s) (by omega)) (ov.in_ (parP_fit s) (by omega))).mono ?_
  rintro e w5 ⟨rfl, hb5⟩
  clear yg0 yg1 yg2 yg3 yg4 yg5 yv0 yv1 yv2 yv3 yv4 yv5
  have hs5 := hb5.size
  have hT5 := below_then hT4 hb5
  have kv := kv.below hb5 kv.lt
  have kg := kg.below hb5 kg.lt
  have ov := ov.below hb5 (by omega)
  have og := og.below hb5 (by omega)
  clear hT4
  clear hb5
  obtain ⟨yg0, yg1, yg2, yg3, yg4, yg5⟩ := kg.cells6
  go_wp2_with fail
  refine (markP_own w5 (w2.heap.size) (w3.heap.size) 3 1 og (by omega) (parP_fit s) (by omega)).mono ?_
  rintro e w6 ⟨he, pg, ha6⟩
  have hcz := sizP_le (parP_fit s)
  obtain ⟨K1, hK1⟩ : ∃ K : Nat, K = 1 + sizP (parP s) := ⟨_, rfl⟩
  have bK1 : K1 ≤ 4200010 := by omega
  rw [← hK1] at he
  subst he
  have HK1 := hide hK1
  clear hK1 hcz
  clear yg0 yg1 yg2 yg3 yg4 yg5
  have hs6 := ha6.size
  have hT6 := hT5.trans (Aside.below ha6 (by omega) (by omega))
  have kv := kv.aside ha6 (by omega)
  have kg := kg.aside ha6 (by omega)
  have ov := ov.aside ha6 (by omega)
  clear hT5
  have og := pg
  clear pg ha6
  obtain ⟨yg0, yg1, yg2, yg3, yg4, yg5⟩ := kg.cells6
  have hNK1 : ¬ (K1 : Int) < 0 := by omega
  go_wp2_with fail
  refine (heldP_any w6 (w2.heap.size) (w3.heap.size) 3 1 og (by omega) (parP_fit s) (by omega)).mono ?_
  rintro e w7 ⟨he, hb7⟩
  rw [← HK1.out] at he
  subst he
  clear yg0 yg1 yg2 yg3 yg4 yg5
  have hs7 := hb7.size
  have hT7 := below_then hT6 hb7
  have kv := kv.below hb7 kv.lt
  have kg := kg.below hb7 kg.lt
  have ov := ov.below hb7 (by omega)
  have og := og.below hb7 (by omega)
  clear hT6
  clear hb7
  go_wp2_with fail
  refine (impl_ParsePoint w7 s hn (HPT.out.below hT7 PL) ml ((hT7.cell hg0).trans HML.out) (Nat.lt_of_lt_of_le hg0 hT7.size)).mono ?_
  rintro e w8 ⟨h0, h1, h2, h3, h4, h5, rfl, oh, hb8⟩
  obtain ⟨hb, hA, hn, hc, hD, hm, hk, hyb, hyA, hyn, hyc, hyD, hym, hyk, rfl, rfl, rfl, rfl, rfl, rfl⟩ := oh.cut
  have hs8 := hb8.size
  have hT8 := below_then hT7 hb8
  have kv := kv.below hb8 kv.lt
  have kg := kg.below hb8 kg.lt
  have ov := ov.below hb8 (by omega)
  have og := og.below hb8 (by omega)
  clear hT7
  clear hb8
  obtain ⟨w9, hw9⟩ : ∃ xw, xw = (w8.alloc (.cells #[.bool hb, .slice hA hn hc, .slice hD hm hk, .bool hyb, .slice hyA hyn hyc, .slice hyD hym hyk] 38)) := ⟨_, rfl⟩
  have hb9 : Below w8.heap.size w8 w9 := by rw [hw9]; exact below_new _ _
  have hq9 : w9.heap.size = w8.heap.size + 1 := by rw [hw9, alloc_size]
  have kh : Box w9 (w8.heap.size) 38 #[.bool hb, .slice hA hn hc, .slice hD hm hk, .bool hyb, .slice hyA hyn hyc, .slice hyD hym hyk] := by rw [hw9]; exact Box.last _ _ _ (by omega)
  have hs9 := hb9.size
  have hT9 := below_then hT8 hb9
  have kv := kv.below hb9 kv.lt
  have kg := kg.below hb9 kg.lt
  have ov := ov.below hb9 (by omega)
  have og := og.below hb9 (by omega)
  have oh := oh.below hb9 (by omega)
  clear hT8
  go_upto_region 16 with fail
  rw [← hw9]
  clear hw9 hb9
  obtain ⟨yh0, yh1, yh2, yh3, yh4, yh5⟩ := kh.cells6
  obtain ⟨yv0, yv1, yv2, yv3, yv4, yv5⟩ := kv.cells6
  go_wp2_with fail
  refine (eqP_any w9 w9.heap.size (Nat.le_refl _) (oh.in_ (parP_fit s) (by omega)) (ov.in_ (parP_fit s) (by omega))).mono ?_
  rintro e w10 ⟨rfl, hb10⟩
  clear yh0 yh1 yh2 yh3 yh4 yh5 yv0 yv1 yv2 yv3 yv4 yv5
  have hs10 := hb10.size
  have hT10 := below_then hT9 hb10
  have kv := kv.below hb10 kv.lt
  have kg := kg.below hb10 kg.lt
  have kh := kh.below hb10 kh.lt
  have ov := ov.below hb10 (by omega)
  have og := og.below hb10 (by omega)
  have oh := oh.below hb10 (by omega)
  clear hT9
  clear hb10
  obtain ⟨yg0, yg1, yg2, yg3, yg4, yg5⟩ := kg.cells6
  have hNK1 : ¬ (K1 : Int) < 0 := by omega
  go_wp2_with fail
  refine (heldP_any w10 (w2.heap.size) (w3.heap.size) 3 1 og (by omega) (parP_fit s) (by omega)).mono ?_
  rintro e w11 ⟨he, hb11⟩
  rw [← HK1.out] at he
  subst he
  clear yg0 yg1 yg2 yg3 yg4 yg5
  have hs11 := hb11.size
  have hT11 := below_then hT10 hb11
  have kv := kv.below hb11 kv.lt
  have kg := kg.below hb11 kg.lt
  have kh := kh.below hb11 kh.lt
  have ov := ov.below hb11 (by omega)
  have og := og.below hb11 (by omega)
  have oh := oh.below hb11 (by omega)
  clear hT10
  clear hb11
  go_wp2
  go_ret
  exact ⟨rfl, hT11⟩
end Go.Proofs.YtnbaookdeijhhaaGreatDoor
