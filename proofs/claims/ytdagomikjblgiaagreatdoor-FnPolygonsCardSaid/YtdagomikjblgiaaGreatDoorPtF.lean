/-
  Points as text: FormatVec, FormatPoint: both sides' contracts.
-/
import Derived.Test.YtdagomikjblgiaaGreatDoorTX
import Derived.Test.YtdagomikjblgiaaGreatDoorRTU
import Derived.Test.YtdagomikjblgiaaGreatDoorPtM
import Derived.Test.YtdagomikjblgiaaGreatDoorPI
import Derived.Test.YtdagomikjblgiaaGreatDoorPtR
import Derived.Test.YtdagomikjblgiaaGreatDoorBS
import Derived.Test.YtdagomikjblgiaaGreatDoorFX
import Derived.Test.YtdagomikjblgiaaGreatDoorSJ
import Derived.Deep.RegionHeld3
import Derived.Deep.RegionWith
import Derived.Sort.AtCall
namespace Go.Proofs.YtdagomikjblgiaaGreatDoor
open Go.RowKit
set_option linter.unusedVariables false
theorem itoaB_sz (n : Int) : (itoaB n).size ≤ n.natAbs + 2 := by
  rw [← ba_size, itoaB_data]
  unfold Lib.itoa
  split
  · have := dec_len n.natAbs
    have := dec_len (-n).toNat
    simp only [List.length_cons]
    omega
  · have := dec_len n.toNat
    have := dec_len n.natAbs
    omega
theorem join_twoC (x y : ByteArray) : joinB [x, y] ⟨#[44]⟩ = (x ++ ⟨#[44]⟩) ++ y := by
  have h := joinL_snoc (xs := [x]) (by simp) y ⟨#[44]⟩
  rw [List.singleton_append, joinL_one] at h
  apply ByteArray.ext
  show (joinL [x, y] ⟨#[44]⟩).toArray = _
  rw [h]
  simp
set_option maxRecDepth 100000 in
set_option maxHeartbeats 3200000 in
theorem impl_FormatVec (w : World) (px py : Int) (hpx : (Lit.int .i64 px).wf = true) (hpy : (Lit.int .i64 py).wf = true) (hPT : PowTab w) :
    Calls Tryz.prog 26 #[.agg #[.int .i64 px, .int .i64 py]] w fun e w' => e = .returned (.string (fmtV px py)) ∧ Below w.heap.size w w' := by
  have HNO := hide (fmtV_no (x := px) (y := py))
  have HOK := hide (fmtV_ok (x := px) (y := py))
  generalize fmtV px py = Z at HNO HOK ⊢
  obtain ⟨mx1, mx2⟩ := bounds_i64 hpx
  obtain ⟨my1, my2⟩ := bounds_i64 hpy
  obtain ⟨W0, hW0⟩ : ∃ W0, W0 = (w.alloc (.cells #[.int .i64 px, .int .i64 py] 26)) := ⟨_, rfl⟩
  have hT0 : Below w.heap.size w W0 := by rw [hW0]; exact below_new _ _
  have kp : Box W0 (w.heap.size) 26 #[.int .i64 px, .int .i64 py] := by rw [hW0]; exact Box.last _ _ _ rfl
  have hs0 : W0.heap.size = w.heap.size + 1 := by rw [hW0, alloc_size]
  go_enter Tryz.func26, Tryz.ntmps26
  go_upto_region 1 with fail
  rw [← hW0]
  clear hW0
  have hPT0 := hPT.below hT0 hPT.lt
  obtain ⟨yp0, yp1⟩ := kp.cells2
  go_wp2_with fail
  refine (impl_IsValidVec W0 px py hpx hpy).mono ?_
  rintro e w1 ⟨rfl, hb1⟩
  clear yp0 yp1
  have hs1 := hb1.size
  have hPTz := hPT0.below hb1 hPT0.lt
  clear hPT0
  have hT1 := below_then hT0 hb1
  have kp := kp.below hb1 kp.lt
  clear hT0
  clear hb1
  by_cases hv : vecB px py = true
  · rw [hv]
    have HZ := hide (HOK.out hv)
    have hvb := vecB_bounds hv
    have hzx := itoaB_sz px
    have hzy := itoaB_sz py
    have hzx : (itoaB px).size ≤ 3000 := by omega
    have hzy : (itoaB py).size ≤ 3000 := by omega
    clear hv HNO HOK
    have hPTw : PowTab w1 := hPTz
    have HC1 := hide (fun (W : World) (h : Below w1.heap.size w1 W) => impl_FormatInt px W hpx (hPTw.below h (by have := hPTw.lt; omega)))
    have HC2 := hide (fun (W : World) (h : Below w1.heap.size w1 W) => impl_FormatInt py W hpy (hPTw.below h (by have := hPTw.lt; omega)))
    have HX := hide kp
    have HE := hide (join_twoC (itoaB px) (itoaB py)).symm
    have HSZ := hide (sum_two (itoaB px) (itoaB py))
    obtain ⟨yp0, yp1⟩ := kp.cells2
    clear kp
    have HKS := hide (fun (W : World) (hq : Below w1.heap.size w1 W) => (⟨(HX.out.below hq HX.out.lt).cell 0, (HX.out.below hq HX.out.lt).cell 1⟩ : W.cell? ⟨w.heap.size, 0, none⟩ = some (.int .i64 px) ∧ W.cell? ⟨w.heap.size, 1, none⟩ = some (.int .i64 py)))
    have HS0 : Hid (Below w1.heap.size w1 w1.drew) := (Below.refl _ _).drew
    generalize hXX : itoaB px = XX at *
    generalize hYY : itoaB py = YY at *
    clear hXX hYY
    have HCJ := hide (fun (W : World) (g : Nat) (hc : ∀ (j : Nat) x, ([XX, YY] : List ByteArray)[j]? = some x → W.cell? ⟨g, 0 + j, none⟩ = some (.string x)) (hg : g < W.heap.size) => joinWith_any g 2 2 [XX, YY] ⟨#[44]⟩ W rfl (Nat.le_refl _) hc hg (by omega) (join_bound _ _ (by show 2 ≤ _; omega) (by rw [HSZ.out]; omega) (by show 1 ≤ _; omega)))
    clear hzx hzy
    go_wp2_with fail
    go_region_held3 (fun w' => w'.cell? ⟨w.heap.size, 0, none⟩ = some (.int .i64 px) ∧ w'.cell? ⟨w.heap.size, 1, none⟩ = some (.int .i64 py))
        (first | (with_reducible exact HKS.out _ HS3.out) | (with_reducible exact HKS.out _ (below_alloc HS2.out _)) | (with_reducible exact HKS.out _ HS2.out) | (with_reducible exact HKS.out _ HS1.out) | (with_reducible exact HKS.out _ HS0.out))
        (first
          | (go_at_call 27; refine (HCJ.out (u2.alloc (.cells #[.string XX, .string YY] 9)) u2.heap.size (two_cells u2 _ _ _) (by rw [alloc_size]; omega)).mono ?_; rintro e u3 ⟨rfl, hb3⟩; have HS3 := hide (below_then (below_alloc HS2.out _) hb3))
          | (go_at_call 44; have HX2 := HS1.out; refine (HC2.out _ HX2).mono ?_; rintro e u2 ⟨rfl, hb2⟩; have HS2 := hide (below_then HX2 hb2); clear HX2)
          | (go_at_call 44; refine (HC1.out _ HS0.out).mono ?_; rintro e u1 ⟨rfl, hb1⟩; have HS1 := hide (below_then HS0.out hb1)))
    have hTT := below_then hT1 HS3.out
    go_wp2_with fail
    go_ret
    exact ⟨ret_string (HE.out.symm.trans HZ.out.symm), hTT⟩
  · have hv : vecB px py = false := by simpa using hv
    have hz := HNO.out hv
    subst hz
    rw [hv]
    clear HNO HOK
    go_wp2_with fail
    go_ret
    exact ⟨rfl, hT1⟩
end Go.Proofs.YtdagomikjblgiaaGreatDoor
