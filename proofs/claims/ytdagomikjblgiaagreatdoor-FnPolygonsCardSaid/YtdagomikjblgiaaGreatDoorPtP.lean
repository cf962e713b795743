/-
  Vectors as text: ParseVec: both sides' contracts.
-/
import Derived.Test.YtdagomikjblgiaaGreatDoorPtF
import Derived.Test.YtdagomikjblgiaaGreatDoorSplitP
import Derived.Test.YtdagomikjblgiaaGreatDoorPS
import Derived.Deep.CutRange
namespace Go.Proofs.YtdagomikjblgiaaGreatDoor
open Go.RowKit
set_option linter.unusedVariables false
set_option maxRecDepth 100000 in
set_option maxHeartbeats 6400000 in
theorem impl_ParseVec (w : World) (s : ByteArray) (hm : s.size ≤ 1048576) (hPT : PowTab w) (hE : Sent w "strconv.ErrSyntax") (hR : Sent w "strconv.ErrRange") (ml : Int) (hML : w.cell? ⟨0, 0, none⟩ = some (.int .i64 ml)) (hg0 : 0 < w.heap.size) :
    Calls Tryz.prog 24 #[.string s] w fun e w' => e = .returned (.tuple #[.agg #[.int .i64 (parV s).1, .int .i64 (parV s).2], .bool (okV s)]) ∧ Below w.heap.size w w' := by
  obtain ⟨W0, hW0⟩ : ∃ W0, W0 = (w.alloc (.cells #[.int .i64 0, .int .i64 0] 26)) := ⟨_, rfl⟩
  have hT0 : Below w.heap.size w W0 := by rw [hW0]; exact below_new _ _
  have kr : Box W0 (w.heap.size) 26 #[.int .i64 0, .int .i64 0] := by rw [hW0]; exact Box.last _ _ _ rfl
  have hs0 : W0.heap.size = w.heap.size + 1 := by rw [hW0, alloc_size]
  have hh : (headBC s).size ≤ 1048576 := by have := (head_leC s).1; omega
  have hd : (tailBC s).size ≤ 1048576 := by have := (head_leC s).2; omega
  have hml0 : W0.cell? ⟨0, 0, none⟩ = some (.int .i64 ml) := (hT0.cell hg0).trans hML
  have HCUT : Hid (Calls Tryz.prog 42 #[.string s, .string ⟨#[44]⟩] W0 fun e w' => e = .returned (.tuple #[.string (headBC s), .string (tailBC s), .bool (hasBC s)]) ∧ Below W0.heap.size W0 w') := (Tryz.strings_Cut s ⟨#[44]⟩ ml W0 (by omega) hml0).mono fun e w' h => ⟨h.1, by obtain ⟨_, n, hn⟩ := h; rw [hn]; exact below_drewNT (Below.refl _ _) n⟩
  have HOK : Hid (okV s = (pok (headBC s) && (pok (tailBC s) && vecB (pval (headBC s)) (pval (tailBC s))))) := rfl
  have HPV : Hid (parV s = if okV s then (pval (headBC s), pval (tailBC s)) else (0, 0)) := rfl
  have hx := pval_wf (headBC s)
  have hy := pval_wf (tailBC s)
  have PT0 := hPT.below hT0 hPT.lt
  have PL := PT0.lt
  have GL := Tryz.gltS
  have E0 := hE.below Tryz.gSyn hT0 (by have := hPT.lt; omega)
  have R0 := hR.below Tryz.gRng hT0 (by have := hPT.lt; omega)
  have HC1 := hide (fun (W : World) (h : Below W0.heap.size W0 W) => impl_ParseInt (headBC s) W hh (PT0.below h PL) (E0.below Tryz.gSyn h (by omega)) (R0.below Tryz.gRng h (by omega)))
  have HC2 := hide (fun (W : World) (h : Below W0.heap.size W0 W) => impl_ParseInt (tailBC s) W hd (PT0.below h PL) (E0.below Tryz.gSyn h (by omega)) (R0.below Tryz.gRng h (by omega)))
  clear hml0 hML hE hR hPT PT0 E0 R0 PL GL
  generalize okV s = OK at HOK HPV ⊢
  generalize parV s = PV at HPV ⊢
  generalize hasBC s = HB at HCUT
  generalize headBC s = H at *
  generalize tailBC s = TL at *
  generalize pval H = x at *
  generalize pval TL = y at *
  generalize pok H = b1 at *
  generalize pok TL = b2 at *
  have HCV := hide (fun (W : World) => impl_IsValidVec W x y hx hy)
  generalize vecB x y = b3 at *
  clear hh hd hm
  go_enter Tryz.func24, Tryz.ntmps24
  go_upto_region 1 with fail
  rw [← hW0]
  clear hW0
  go_wp2_with fail
  refine (HCUT.out).mono ?_
  rintro e w1 ⟨rfl, hb1⟩
  have hs1 := hb1.size
  have hT1 := below_then hT0 hb1
  have kr := kr.below hb1 kr.lt
  clear hT0
  have hq1 := hb1
  clear hb1
  go_wp2_with fail
  refine (HC1.out _ hq1).mono ?_
  rintro e w2 ⟨rfl, hb2⟩
  have hs2 := hb2.size
  have hT2 := below_then hT1 hb2
  have kr := kr.below hb2 kr.lt
  clear hT1
  have hq2 := below_then hq1 hb2
  clear hb2 hq1
  go_wp2_with fail
  refine (HC2.out _ hq2).mono ?_
  rintro e w3 ⟨rfl, hb3⟩
  have hs3 := hb3.size
  have hT3 := below_then hT2 hb3
  have kr := kr.below hb3 kr.lt
  clear hT2
  clear hb3
  clear hq2
  obtain ⟨w4, hw4⟩ : ∃ xw, xw = (w3.alloc (.cells #[.int .i64 x, .int .i64 y] 26)) := ⟨_, rfl⟩
  have hb4 : Below w3.heap.size w3 w4 := by rw [hw4]; exact below_new _ _
  have hq4 : w4.heap.size = w3.heap.size + 1 := by rw [hw4, alloc_size]
  have kv : Box w4 (w3.heap.size) 26 #[.int .i64 x, .int .i64 y] := by rw [hw4]; exact Box.last _ _ _ (by omega)
  have hs4 := hb4.size
  have hT4 := below_then hT3 hb4
  have kr := kr.below hb4 kr.lt
  clear hT3
  go_upto_region 5 with fail
  rw [← hw4]
  clear hw4 hb4
  cases b1
  · have HO := hide (⟨((kr.set 0 _).set 1 _), ((hT4.setCell (p := ⟨w.heap.size, 0, none⟩) (show w.heap.size ≤ w.heap.size by omega) _).setCell (p := ⟨w.heap.size, 1, none⟩) (show w.heap.size ≤ w.heap.size by omega) _)⟩ : Box ((w4.setCell ⟨w.heap.size, 0, none⟩ (.int .i64 0)).setCell ⟨w.heap.size, 1, none⟩ (.int .i64 0)) (w.heap.size) 26 #[.int .i64 0, .int .i64 0] ∧ Below w.heap.size w ((w4.setCell ⟨w.heap.size, 0, none⟩ (.int .i64 0)).setCell ⟨w.heap.size, 1, none⟩ (.int .i64 0)))
    obtain ⟨yr0, yr1, zr0, zr1⟩ := kr.facts
    clear kr kv
    go_wp2_with fail
    refine bodyPost_ret (results_cell_tmp rfl _ _ (w.heap.size) _ #[.int .i64 0, .int .i64 0] (0, 0) _ rfl HO.out.1 Tryz.underlying26 rfl Tryz.sizeVec) rfl ?_
    exact ⟨by obtain rfl : OK = false := HOK.out; obtain rfl : PV = (0, 0) := HPV.out; rfl, HO.out.2⟩
  · cases b2
    · have HO := hide (⟨((kr.set 0 _).set 1 _), ((hT4.setCell (p := ⟨w.heap.size, 0, none⟩) (show w.heap.size ≤ w.heap.size by omega) _).setCell (p := ⟨w.heap.size, 1, none⟩) (show w.heap.size ≤ w.heap.size by omega) _)⟩ : Box ((w4.setCell ⟨w.heap.size, 0, none⟩ (.int .i64 0)).setCell ⟨w.heap.size, 1, none⟩ (.int .i64 0)) (w.heap.size) 26 #[.int .i64 0, .int .i64 0] ∧ Below w.heap.size w ((w4.setCell ⟨w.heap.size, 0, none⟩ (.int .i64 0)).setCell ⟨w.heap.size, 1, none⟩ (.int .i64 0)))
      obtain ⟨yr0, yr1, zr0, zr1⟩ := kr.facts
      clear kr kv
      go_wp2_with fail
      refine bodyPost_ret (results_cell_tmp rfl _ _ (w.heap.size) _ #[.int .i64 0, .int .i64 0] (0, 0) _ rfl HO.out.1 Tryz.underlying26 rfl Tryz.sizeVec) rfl ?_
      exact ⟨by obtain rfl : OK = false := HOK.out; obtain rfl : PV = (0, 0) := HPV.out; rfl, HO.out.2⟩
    · obtain ⟨yv0, yv1⟩ := kv.cells2
      go_wp2_with fail
      refine (HCV.out w4).mono ?_
      rintro e w5 ⟨rfl, hb5⟩
      clear yv0 yv1
      have hs5 := hb5.size
      have hT5 := below_then hT4 hb5
      have kr := kr.below hb5 kr.lt
      have kv := kv.below hb5 kv.lt
      clear hT4
      clear hb5
      cases b3
      · have HO := hide (⟨((kr.set 0 _).set 1 _), ((hT5.setCell (p := ⟨w.heap.size, 0, none⟩) (show w.heap.size ≤ w.heap.size by omega) _).setCell (p := ⟨w.heap.size, 1, none⟩) (show w.heap.size ≤ w.heap.size by omega) _)⟩ : Box ((w5.setCell ⟨w.heap.size, 0, none⟩ (.int .i64 0)).setCell ⟨w.heap.size, 1, none⟩ (.int .i64 0)) (w.heap.size) 26 #[.int .i64 0, .int .i64 0] ∧ Below w.heap.size w ((w5.setCell ⟨w.heap.size, 0, none⟩ (.int .i64 0)).setCell ⟨w.heap.size, 1, none⟩ (.int .i64 0)))
        obtain ⟨yr0, yr1, zr0, zr1⟩ := kr.facts
        clear kr kv
        go_wp2_with fail
        refine bodyPost_ret (results_cell_tmp rfl _ _ (w.heap.size) _ #[.int .i64 0, .int .i64 0] (0, 0) _ rfl HO.out.1 Tryz.underlying26 rfl Tryz.sizeVec) rfl ?_
        exact ⟨by obtain rfl : OK = false := HOK.out; obtain rfl : PV = (0, 0) := HPV.out; rfl, HO.out.2⟩
      · have HO := hide (⟨((kr.set 0 _).set 1 _), ((hT5.setCell (p := ⟨w.heap.size, 0, none⟩) (show w.heap.size ≤ w.heap.size by omega) _).setCell (p := ⟨w.heap.size, 1, none⟩) (show w.heap.size ≤ w.heap.size by omega) _)⟩ : Box ((w5.setCell ⟨w.heap.size, 0, none⟩ (.int .i64 x)).setCell ⟨w.heap.size, 1, none⟩ (.int .i64 y)) (w.heap.size) 26 #[.int .i64 x, .int .i64 y] ∧ Below w.heap.size w ((w5.setCell ⟨w.heap.size, 0, none⟩ (.int .i64 x)).setCell ⟨w.heap.size, 1, none⟩ (.int .i64 y)))
        obtain ⟨yv0, yv1⟩ := kv.cells2
        obtain ⟨yr0, yr1, zr0, zr1⟩ := kr.facts
        clear kr kv
        go_wp2_with fail
        refine bodyPost_ret (results_cell_tmp rfl _ _ (w.heap.size) _ #[.int .i64 x, .int .i64 y] (0, 0) _ rfl HO.out.1 Tryz.underlying26 rfl Tryz.sizeVec) rfl ?_
        exact ⟨by obtain rfl : OK = true := HOK.out; obtain rfl : PV = (x, y) := HPV.out; rfl, HO.out.2⟩
end Go.Proofs.YtdagomikjblgiaaGreatDoor
