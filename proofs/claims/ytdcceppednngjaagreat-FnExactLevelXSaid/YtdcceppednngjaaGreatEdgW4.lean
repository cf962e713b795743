/-
  The walk of the exact law of LevelX.
-/
import Derived.Test.YtdcceppednngjaaGreatEdgC
import Derived.Test.YtdcceppednngjaaGreatEdgD2
import Derived.Test.YtdcceppednngjaaGreatEdgB
import Derived.Test.YtdcceppednngjaaGreatPtS
import Derived.Deep.RegionHeld3
import Derived.Deep.CutRange
import Derived.Sort.AtCall
namespace Go.Proofs.YtdcceppednngjaaGreat
open Go.RowKit
set_option linter.unusedVariables false
set_option maxRecDepth 100000 in
set_option maxHeartbeats 16000000 in
theorem FnExactLevelX_walk (w : World) (ex ey eu ev ek : Int) (el : Bool) (hex : (Lit.int .i64 ex).wf = true) (hey : (Lit.int .i64 ey).wf = true) (heu : (Lit.int .i64 eu).wf = true) (hev : (Lit.int .i64 ev).wf = true) (hek : (Lit.int .i64 ek).wf = true) (y : Int) (hy : (Lit.int .i64 y).wf = true) :
    Calls Tryz.prog 4 #[.agg #[.int .i64 ex, .int .i64 ey, .int .i64 eu, .int .i64 ev, .int .i64 ek, .bool el], .int .i64 y] w fun e w' => e = .returned (.bool true) ∧ Below w.heap.size w w' := by
  have HCe := hide (fun (W : World) => toEdge_any W ex ey eu ev ek el hex hey heu hev)
  have HS := hide (fun (W : World) => spec_LevelX W ex ey eu ev ek el hex hey heu hev y hy)
  have HG := hide (fun (W : World) => impl_LevelX W ex ey eu ev ek el hex hey heu hev y hy)
  have HFZ : Hid (QFit (lvlQ ex ey eu ev y)) := by show _; unfold lvlQ crossQ; exact fit_ite (ofQ_fit _ _) noR_fit
  generalize lvlB ex ey eu ev y = RB at *
  generalize lvlQ ex ey eu ev y = RZ at *
  clear hex hey heu hev hek hy
  obtain ⟨W0, hW0⟩ : ∃ W0, W0 = (w.alloc (.cells #[.int .i64 ex, .int .i64 ey, .int .i64 eu, .int .i64 ev, .int .i64 ek, .bool el] 25)) := ⟨_, rfl⟩
  have hT0 : Below w.heap.size w W0 := by rw [hW0]; exact below_new _ _
  have ke : Box W0 (w.heap.size) 25 #[.int .i64 ex, .int .i64 ey, .int .i64 eu, .int .i64 ev, .int .i64 ek, .bool el] := by rw [hW0]; exact Box.last _ _ _ rfl
  have hs0 : W0.heap.size = w.heap.size + 1 := by rw [hW0, alloc_size]
  go_enter Tryz.func4, Tryz.ntmps4
  go_upto_region 1 with fail
  rw [← hW0]
  clear hW0
  obtain ⟨ye0, ye1, ye2, ye3, ye4, ye5⟩ := ke.cells6
  go_wp2_with fail
  refine (HCe.out W0).mono ?_
  rintro e w1 ⟨rfl, hb1⟩
  clear ye0 ye1 ye2 ye3 ye4 ye5
  have hs1 := hb1.size
  have hT1 := below_then hT0 hb1
  have ke := ke.below hb1 ke.lt
  clear hT0
  clear hb1
  go_wp2_with fail
  refine (HS.out w1).mono ?_
  rintro e w2 ⟨v0, v1, v2, rfl, ov, hb2⟩
  obtain ⟨vb, vA, vn, vc, vD, vm, vk, rfl, rfl, rfl⟩ := ov.cut
  have hs2 := hb2.size
  have hT2 := below_then hT1 hb2
  have ke := ke.below hb2 ke.lt
  clear hT1
  clear hb2
  obtain ⟨w3, hw3⟩ : ∃ xw, xw = (w2.alloc (.cells #[.bool vb, .slice vA vn vc, .slice vD vm vk] 30)) := ⟨_, rfl⟩
  have hb3 : Below w2.heap.size w2 w3 := by rw [hw3]; exact below_new _ _
  have hq3 : w3.heap.size = w2.heap.size + 1 := by rw [hw3, alloc_size]
  have kv : Box w3 (w2.heap.size) 30 #[.bool vb, .slice vA vn vc, .slice vD vm vk] := by rw [hw3]; exact Box.last _ _ _ (by omega)
  have hs3 := hb3.size
  have hT3 := below_then hT2 hb3
  have ke := ke.below hb3 ke.lt
  have ov := ov.below hb3 (by omega)
  clear hT2
  go_upto_region 2 with fail
  rw [← hw3]
  clear hw3 hb3
  obtain ⟨ye0, ye1, ye2, ye3, ye4, ye5⟩ := ke.cells6
  go_wp2_with fail
  refine (HCe.out w3).mono ?_
  rintro e w4 ⟨rfl, hb4⟩
  clear ye0 ye1 ye2 ye3 ye4 ye5
  have hs4 := hb4.size
  have hT4 := below_then hT3 hb4
  have ke := ke.below hb4 ke.lt
  have kv := kv.below hb4 kv.lt
  have ov := ov.below hb4 (by omega)
  clear hT3
  clear hb4
  go_wp2_with fail
  refine (HG.out w4).mono ?_
  rintro e w5 ⟨g0, g1, g2, rfl, og, hb5⟩
  obtain ⟨gb, gA, gn, gc, gD, gm, gk, rfl, rfl, rfl⟩ := og.cut
  have hs5 := hb5.size
  have hT5 := below_then hT4 hb5
  have ke := ke.below hb5 ke.lt
  have kv := kv.below hb5 kv.lt
  have ov := ov.below hb5 (by omega)
  clear hT4
  clear hb5
  obtain ⟨w6, hw6⟩ : ∃ xw, xw = (w5.alloc (.cells #[.bool gb, .slice gA gn gc, .slice gD gm gk] 30)) := ⟨_, rfl⟩
  have hb6 : Below w5.heap.size w5 w6 := by rw [hw6]; exact below_new _ _
  have hq6 : w6.heap.size = w5.heap.size + 1 := by rw [hw6, alloc_size]
  have kg : Box w6 (w5.heap.size) 30 #[.bool gb, .slice gA gn gc, .slice gD gm gk] := by rw [hw6]; exact Box.last _ _ _ (by omega)
  have hs6 := hb6.size
  have hT6 := below_then hT5 hb6
  have ke := ke.below hb6 ke.lt
  have kv := kv.below hb6 kv.lt
  have ov := ov.below hb6 (by omega)
  have og := og.below hb6 (by omega)
  clear hT5
  go_upto_region 3 with fail
  rw [← hw6]
  clear hw6 hb6
  obtain ⟨yg0, yg1, yg2⟩ := kg.cells3
  obtain ⟨yv0, yv1, yv2⟩ := kv.cells3
  go_wp2_with fail
  refine (eqQ_any w6 w6.heap.size (Nat.le_refl _) (og.in_ (HFZ.out) (by omega)) (ov.in_ (HFZ.out) (by omega))).mono ?_
  rintro e w7 ⟨rfl, hb7⟩
  clear yg0 yg1 yg2 yv0 yv1 yv2
  have hs7 := hb7.size
  have hT7 := below_then hT6 hb7
  have ke := ke.below hb7 ke.lt
  have kv := kv.below hb7 kv.lt
  have kg := kg.below hb7 kg.lt
  have ov := ov.below hb7 (by omega)
  have og := og.below hb7 (by omega)
  clear hT6
  clear hb7
  obtain ⟨yg0, yg1, yg2⟩ := kg.cells3
  go_wp2_with fail
  refine (markQ_own w7 (w4.heap.size) (w5.heap.size) 3 1 og (by omega) ⟨by have := (HFZ.out).1; omega, by have := (HFZ.out).2.1; omega⟩ (by omega)).mono ?_
  rintro e w8 ⟨he, pg, ha8⟩
  have hcz := sizQ_le (HFZ.out)
  obtain ⟨K1, hK1⟩ : ∃ K : Nat, K = 1 + sizQ (RZ) := ⟨_, rfl⟩
  have bK1 : K1 ≤ 4200010 := by omega
  rw [← hK1] at he
  subst he
  have HK1 := hide hK1
  clear hK1 hcz
  clear yg0 yg1 yg2
  have hs8 := ha8.size
  have hT8 := hT7.trans (Aside.below ha8 (by omega) (by omega))
  have ke := ke.aside ha8 (by omega)
  have kv := kv.aside ha8 (by omega)
  have kg := kg.aside ha8 (by omega)
  have ov := ov.aside ha8 (by omega)
  clear hT7
  have og := pg
  clear pg ha8
  obtain ⟨yg0, yg1, yg2⟩ := kg.cells3
  have hNK1 : ¬ (K1 : Int) < 0 := by omega
  go_wp2_with fail
  refine (heldQ_any w8 (w4.heap.size) (w5.heap.size) 3 1 og (by omega) ⟨by have := (HFZ.out).1; omega, by have := (HFZ.out).2.1; omega⟩ (by omega)).mono ?_
  rintro e w9 ⟨he, hb9⟩
  rw [← HK1.out] at he
  subst he
  clear yg0 yg1 yg2
  have hs9 := hb9.size
  have hT9 := below_then hT8 hb9
  have ke := ke.below hb9 ke.lt
  have kv := kv.below hb9 kv.lt
  have kg := kg.below hb9 kg.lt
  have ov := ov.below hb9 (by omega)
  have og := og.below hb9 (by omega)
  clear hT8
  clear hb9
  go_upto_region 13 with fail
  obtain ⟨ye0, ye1, ye2, ye3, ye4, ye5⟩ := ke.cells6
  go_wp2_with fail
  refine (HCe.out w9).mono ?_
  rintro e w10 ⟨rfl, hb10⟩
  clear ye0 ye1 ye2 ye3 ye4 ye5
  have hs10 := hb10.size
  have hT10 := below_then hT9 hb10
  have ke := ke.below hb10 ke.lt
  have kv := kv.below hb10 kv.lt
  have kg := kg.below hb10 kg.lt
  have ov := ov.below hb10 (by omega)
  have og := og.below hb10 (by omega)
  clear hT9
  clear hb10
  go_wp2_with fail
  refine (HG.out w10).mono ?_
  rintro e w11 ⟨h0, h1, h2, rfl, oh, hb11⟩
  obtain ⟨hb, hA, hn, hc, hD, hm, hk, rfl, rfl, rfl⟩ := oh.cut
  have hs11 := hb11.size
  have hT11 := below_then hT10 hb11
  have ke := ke.below hb11 ke.lt
  have kv := kv.below hb11 kv.lt
  have kg := kg.below hb11 kg.lt
  have ov := ov.below hb11 (by omega)
  have og := og.below hb11 (by omega)
  clear hT10
  clear hb11
  obtain ⟨w12, hw12⟩ : ∃ xw, xw = (w11.alloc (.cells #[.bool hb, .slice hA hn hc, .slice hD hm hk] 30)) := ⟨_, rfl⟩
  have hb12 : Below w11.heap.size w11 w12 := by rw [hw12]; exact below_new _ _
  have hq12 : w12.heap.size = w11.heap.size + 1 := by rw [hw12, alloc_size]
  have kh : Box w12 (w11.heap.size) 30 #[.bool hb, .slice hA hn hc, .slice hD hm hk] := by rw [hw12]; exact Box.last _ _ _ (by omega)
  have hs12 := hb12.size
  have hT12 := below_then hT11 hb12
  have ke := ke.below hb12 ke.lt
  have kv := kv.below hb12 kv.lt
  have kg := kg.below hb12 kg.lt
  have ov := ov.below hb12 (by omega)
  have og := og.below hb12 (by omega)
  have oh := oh.below hb12 (by omega)
  clear hT11
  go_upto_region 14 with fail
  rw [← hw12]
  clear hw12 hb12
  obtain ⟨yh0, yh1, yh2⟩ := kh.cells3
  obtain ⟨yv0, yv1, yv2⟩ := kv.cells3
  go_wp2_with fail
  refine (eqQ_any w12 w12.heap.size (Nat.le_refl _) (oh.in_ (HFZ.out) (by omega)) (ov.in_ (HFZ.out) (by omega))).mono ?_
  rintro e w13 ⟨rfl, hb13⟩
  clear yh0 yh1 yh2 yv0 yv1 yv2
  have hs13 := hb13.size
  have hT13 := below_then hT12 hb13
  have ke := ke.below hb13 ke.lt
  have kv := kv.below hb13 kv.lt
  have kg := kg.below hb13 kg.lt
  have kh := kh.below hb13 kh.lt
  have ov := ov.below hb13 (by omega)
  have og := og.below hb13 (by omega)
  have oh := oh.below hb13 (by omega)
  clear hT12
  clear hb13
  obtain ⟨yg0, yg1, yg2⟩ := kg.cells3
  have hNK1 : ¬ (K1 : Int) < 0 := by omega
  go_wp2_with fail
  refine (heldQ_any w13 (w4.heap.size) (w5.heap.size) 3 1 og (by omega) ⟨by have := (HFZ.out).1; omega, by have := (HFZ.out).2.1; omega⟩ (by omega)).mono ?_
  rintro e w14 ⟨he, hb14⟩
  rw [← HK1.out] at he
  subst he
  clear yg0 yg1 yg2
  have hs14 := hb14.size
  have hT14 := below_then hT13 hb14
  have ke := ke.below hb14 ke.lt
  have kv := kv.below hb14 kv.lt
  have kg := kg.below hb14 kg.lt
  have kh := kh.below hb14 kh.lt
  have ov := ov.below hb14 (by omega)
  have og := og.below hb14 (by omega)
  have oh := oh.below hb14 (by omega)
  clear hT13
  clear hb14
  go_wp2_with fail
  go_ret
  exact ⟨rfl, hT14⟩
end Go.Proofs.YtdcceppednngjaaGreat
