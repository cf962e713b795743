/-
  Points as text: FormatVec, FormatPoint: both sides' contracts.
-/
import Derived.Test.YtfajcogkbmefjaaDoorPtT
import Derived.Test.YtfajcogkbmefjaaDoorRatT
import Derived.Test.YtfajcogkbmefjaaDoorRatU
import Derived.Test.YtfajcogkbmefjaaDoorPtM
import Derived.Test.YtfajcogkbmefjaaDoorPtI
import Derived.Test.YtfajcogkbmefjaaDoorPtR
import Derived.Test.YtfajcogkbmefjaaDoorRatS
import Derived.Test.YtfajcogkbmefjaaDoorFmtI
import Derived.Test.YtfajcogkbmefjaaDoorJoinI
import Derived.Deep.RegionHeld3
import Derived.Deep.RegionWith
import Derived.Sort.AtCall
namespace Go.Proofs.YtfajcogkbmefjaaDoor
open Go.RowKit
set_option linter.unusedVariables false
theorem itoaB_sz (n : Int) : (itoaB n).size ≤ n.natAbs + 2 := by
  rw [← ba_size, itoaB_data]
  unfold Lib.itoa
  split
  · have := dec_len n.natAbs
    have := dec_len (-n).toNat
    simp only [List.length_cons]
    omega
  · have := dec_len n.toNat
    have := dec_len n.natAbs
    omega
set_option maxRecDepth 100000 in
set_option maxHeartbeats 3200000 in
theorem spec_FormatVec (w : World) (px py : Int) (hpx : (Lit.int .i64 px).wf = true) (hpy : (Lit.int .i64 py).wf = true) :
    Calls Tryd.prog 15 #[.agg #[.int .i64 px, .int .i64 py]] w fun e w' => e = .returned (.string (fmtV px py)) ∧ Below w.heap.size w w' := by
  have HNO := hide (fmtV_no (x := px) (y := py))
  have HOK := hide (fmtV_ok (x := px) (y := py))
  generalize fmtV px py = Z at HNO HOK ⊢
  obtain ⟨mx1, mx2⟩ := bounds_i64 hpx
  obtain ⟨my1, my2⟩ := bounds_i64 hpy
  obtain ⟨W0, hW0⟩ : ∃ W0, W0 = (w.alloc (.cells #[.int .i64 px, .int .i64 py] 36)) := ⟨_, rfl⟩
  have hT0 : Below w.heap.size w W0 := by rw [hW0]; exact below_new _ _
  have kp : Box W0 (w.heap.size) 36 #[.int .i64 px, .int .i64 py] := by rw [hW0]; exact Box.last _ _ _ rfl
  have hs0 : W0.heap.size = w.heap.size + 1 := by rw [hW0, alloc_size]
  go_enter Tryd.func15, Tryd.ntmps15
  go_upto_region 1 with fail
  rw [← hW0]
  clear hW0
  obtain ⟨yp0, yp1⟩ := kp.cells2
  go_wp2_with fail
  refine (spec_IsValidVec W0 px py hpx hpy).mono ?_
  rintro e w1 ⟨rfl, hb1⟩
  clear yp0 yp1
  have hs1 := hb1.size
  have hT1 := below_then hT0 hb1
  have kp := kp.below hb1 kp.lt
  clear hT0
  clear hb1
  by_cases hv : vecB px py = true
  · rw [hv]
    have HZ := hide (HOK.out hv)
    have hvb := vecB_bounds hv
    have hzx := itoaB_sz px
    have hzy := itoaB_sz py
    have hzx : (itoaB px).size ≤ 3000 := by omega
    have hzy : (itoaB py).size ≤ 3000 := by omega
    clear hv HNO HOK
    have HC1 := hide (fun (W : World) (h : Below w1.heap.size w1 W) => spec_FormatInt px W hpx)
    have HC2 := hide (fun (W : World) (h : Below w1.heap.size w1 W) => spec_FormatInt py W hpy)
    have HX := hide kp
    obtain ⟨yp0, yp1⟩ := kp.cells2
    clear kp
    have HKS := hide (fun (W : World) (hq : Below w1.heap.size w1 W) => (⟨(HX.out.below hq HX.out.lt).cell 0, (HX.out.below hq HX.out.lt).cell 1⟩ : W.cell? ⟨w.heap.size, 0, none⟩ = some (.int .i64 px) ∧ W.cell? ⟨w.heap.size, 1, none⟩ = some (.int .i64 py)))
    have HS0 : Hid (Below w1.heap.size w1 w1.drew) := (Below.refl _ _).drew
    generalize hXX : itoaB px = XX at *
    generalize hYY : itoaB py = YY at *
    clear hXX hYY
    have hsum1 : ¬ 9223372036854775807 < XX.size + 1 := by omega
    have hsum2 : ¬ 9223372036854775807 < XX.size + 1 + YY.size := by omega
    go_wp2_with fail
    go_region_held3 (fun w' => w'.cell? ⟨w.heap.size, 0, none⟩ = some (.int .i64 px) ∧ w'.cell? ⟨w.heap.size, 1, none⟩ = some (.int .i64 py))
        (first | (with_reducible exact HKS.out _ HS2.out) | (with_reducible exact HKS.out _ HS1.out) | (with_reducible exact HKS.out _ HS0.out))
        (first
          | (go_at_call 29; have HX2 := HS1.out; refine (HC2.out _ HX2).mono ?_; rintro e u2 ⟨rfl, hb2⟩; have HS2 := hide (below_then HX2 hb2); clear HX2)
          | (go_at_call 29; refine (HC1.out _ HS0.out).mono ?_; rintro e u1 ⟨rfl, hb1⟩; have HS1 := hide (below_then HS0.out hb1)))
    have hTT := below_then hT1 HS2.out
    go_wp2_with fail
    go_ret
    exact ⟨ret_string HZ.out.symm, hTT⟩
  · have hv : vecB px py = false := by simpa using hv
    have hz := HNO.out hv
    subst hz
    rw [hv]
    clear HNO HOK
    go_wp2_with fail
    go_ret
    exact ⟨rfl, hT1⟩
end Go.Proofs.YtfajcogkbmefjaaDoor
