/-
  Vectors as text: ParseVec: both sides' contracts.
-/
import Derived.Test.YtfajcogkbmefjaaDoorPtF
import Derived.Test.YtfajcogkbmefjaaDoorSplitR
import Derived.Test.YtfajcogkbmefjaaDoorParse
import Derived.Deep.CutRange
namespace Go.Proofs.YtfajcogkbmefjaaDoor
open Go.RowKit
set_option linter.unusedVariables false
set_option maxRecDepth 100000 in
set_option maxHeartbeats 6400000 in
theorem impl_ParseVec (w : World) (s : ByteArray) (hm : s.size ≤ 1048576) (hPT : PowTab w) (hE : Sent w "strconv.ErrSyntax") (hR : Sent w "strconv.ErrRange") (ml : Int) (hML : w.cell? ⟨0, 0, none⟩ = some (.int .i64 ml)) (hg0 : 0 < w.heap.size) :
    Calls Tryd.prog 25 #[.string s] w fun e w' => e = .returned (.tuple #[.agg #[.int .i64 (parV s).1, .int .i64 (parV s).2], .bool (okV s)]) ∧ Below w.heap.size w w' := by
  obtain ⟨W0, hW0⟩ : ∃ W0, W0 = (w.alloc (.cells #[.int .i64 0, .int .i64 0] 36)) := ⟨_, rfl⟩
  have hT0 : Below w.heap.size w W0 := by rw [hW0]; exact below_new _ _
  have kr : Box W0 (w.heap.size) 36 #[.int .i64 0, .int .i64 0] := by rw [hW0]; exact Box.last _ _ _ rfl
  have hs0 : W0.heap.size = w.heap.size + 1 := by rw [hW0, alloc_size]
  have hh : (headBC s).size ≤ 1048576 := by have := (head_leC s).1; omega
  have hd : (tailBC s).size ≤ 1048576 := by have := (head_leC s).2; omega
  have hml0 : W0.cell? ⟨0, 0, none⟩ = some (.int .i64 ml) := (hT0.cell hg0).trans hML
  have HCUT : Hid (Calls Tryd.prog 35 #[.string s, .string ⟨#[44]⟩] W0 fun e w' => e = .returned (.tuple #[.string (headBC s), .string (tailBC s), .bool (hasBC s)]) ∧ Below W0.heap.size W0 w') := (Tryd.strings_Cut s ⟨#[44]⟩ ml W0 (by omega) hml0).mono fun e w' h => ⟨h.1, by obtain ⟨_, n, hn⟩ := h; rw [hn]; exact below_drewNT (Below.refl _ _) n⟩
  have HOK : Hid (okV s = (pok (headBC s) && (pok (tailBC s) && vecB (pval (headBC s)) (pval (tailBC s))))) := rfl
  have HPV : Hid (parV s = if okV s then (pval (headBC s), pval (tailBC s)) else (0, 0)) := rfl
  have hx := pval_wf (headBC s)
  have hy := pval_wf (tailBC s)
  have PT0 := hPT.below hT0 hPT.lt
  have PL := PT0.lt
  have GL := Tryd.gltS
  have E0 := hE.below Tryd.gSyn hT0 (by have := hPT.lt; omega)
  have R0 := hR.below Tryd.gRng hT0 (by have := hPT.lt; omega)
  have HC1 := hide (fun (W : World) (h : Below W0.heap.size W0 W) => impl_ParseInt (headBC s) W hh (PT0.below h PL) (E0.below Tryd.gSyn h (by omega)) (R0.below Tryd.gRng h (by omega)))
  have HC2 := hide (fun (W : World) (h : Below W0.heap.size W0 W) => impl_ParseInt (tailBC s) W hd (PT0.below h PL) (E0.below Tryd.gSyn h (by omega)) (R0.below Tryd.gRng h (by omega)))
  clear hml0 hML hE hR hPT PT0 E0 R0 PL GL
  generalize okV s = OK at HOK HPV ⊢
  generalize parV s = PV at HPV ⊢
  generalize hasBC s = HB at HCUT
  generalize headBC s = H at *
  generalize tailBC s = TL at *
  generalize pval H = x at *
  generalize pval TL = y at *
  generalize pok H = b1 at *
  generalize pok TL = b2 at *
  have HCV := hide (fun (W : World) => impl_IsValidVec W x y hx hy)
  generalize vecB x y = b3 at *
  clear hh hd hm
  go_enter Tryd.func25, Tryd.ntmps25
  go_upto_region 1 with fail
  rw [← hW0]
  clear hW0
  go_wp2_with fail
  refine (HCUT.out).mono ?_
  rintro e w1 ⟨rfl, hb1⟩
  have hs1 := hb1.size
  have hT1 := below_then hT0 hb1
  have kr := kr.below hb1 kr.lt
  clear hT0
  have hq1 := hb1
  clear hb1
  go_wp2_with fail
  refine (HC1.out _ hq1).mono ?_
  rintro e w2 ⟨rfl, hb2⟩
  have hs2 := hb2.size
  have hT2 := below_then hT1 hb2
  have kr := kr.below hb2 kr.lt
  clear hT1
  have hq2 := below_then hq1 hb2
  clear hb2 hq1
  go_wp2_with fail
  refine (HC2.out _ hq2).mono ?_
  rintro e w3 ⟨rfl, hb3⟩
  have hs3 := hb3.size
  have hT3 := below_then hT2 hb3
  have kr := kr.below hb3 kr.lt
  clear hT2
  clear hb3
  clear hq2
  obtain ⟨w4, hw4⟩ : ∃ xw, xw = (w3.alloc (.cells #[.int .i64 x, .int .i64 y] 36)) := ⟨_, rfl⟩
  have hb4 : Below w3.heap.size w3 w4 := by rw [hw4]; exact below_new _ _
  have hq4 : w4.heap.size = w3.heap.size + 1 := by rw [hw4, alloc_size]
  have kv : Box w4 (w3.heap.size) 36 #[.int .i64 x, .int .i64 y] := by rw [hw4]; exact Box.last _ _ _ (by omega)
  have hs4 := hb4.size
  have hT4 := below_then hT3 hb4
  have kr := kr.below hb4 kr.lt
  clear hT3
  go_upto_region 5 with fail
  rw [← hw4]
  clear hw4 hb4
  cases b1
  · have HO := hide (⟨((kr.set 0 _).set 1 _), ((hT4.setCell (p := ⟨w.heap.size, 0, none⟩) (show w.heap.size ≤ w.heap.size by omega) _).setCell (p := ⟨w.heap.size, 1, none⟩) (show w.heap.size ≤ w.heap.size by omega) _)⟩ : Box ((w4.setCell ⟨w.heap.size, 0, none⟩ (.int .i64 0)).setCell ⟨w.heap.size, 1, none⟩ (.int .i64 0)) (w.heap.size) 36 #[.int .i64 0, .int .i64 0] ∧ Below w.heap.size w ((w4.setCell ⟨w.heap.size, 0, none⟩ (.int .i64 0)).setCell ⟨w.heap.size, 1, none⟩ (.int .i64 0)))
    obtain ⟨yr0, yr1, zr0, zr1⟩ := kr.facts
    clear kr kv
    go_wp2_with fail
    refine bodyPost_ret (results_cell_tmp rfl _ _ (w.heap.size) _ #[.int .i64 0, .int .i64 0] (0, 0) _ rfl HO.out.1 Tryd.underlying36 rfl Tryd.sizeVec) rfl ?_
    exact ⟨by obtain rfl : OK = false := HOK.out; obtain rfl : PV = (0, 0) := HPV.out; rfl, HO.out.2⟩
  · cases b2
    · have HO := hide (⟨((kr.set 0 _).set 1 _), ((hT4.setCell (p := ⟨w.heap.size, 0, none⟩) (show w.heap.size ≤ w.heap.size by omega) _).setCell (p := ⟨w.heap.size, 1, none⟩) (show w.heap.size ≤ w.heap.size by omega) _)⟩ : Box ((w4.setCell ⟨w.heap.size, 0, none⟩ (.int .i64 0)).setCell ⟨w.heap.size, 1, none⟩ (.int .i64 0)) (w.heap.size) 36 #[.int .i64 0, .int .i64 0] ∧ Below w.heap.size w ((w4.setCell ⟨w.heap.size, 0, none⟩ (.int .i64 0)).setCell ⟨w.heap.size, 1, none⟩ (.int .i64 0)))
      obtain ⟨yr0, yr1, zr0, zr1⟩ := kr.facts
      clear kr kv
      go_wp2_with fail
      refine bodyPost_ret (results_cell_tmp rfl _ _ (w.heap.size) _ #[.int .i64 0, .int .i64 0] (0, 0) _ rfl HO.out.1 Tryd.underlying36 rfl Tryd.sizeVec) rfl ?_
      exact ⟨by obtain rfl : OK = false := HOK.out; obtain rfl : PV = (0, 0) := HPV.out; rfl, HO.out.2⟩
    · obtain ⟨yv0, yv1⟩ := kv.cells2
      go_wp2_with fail
      refine (HCV.out w4).mono ?_
      rintro e w5 ⟨rfl, hb5⟩
      clear yv0 yv1
      have hs5 := hb5.size
      have hT5 := below_then hT4 hb5
      have kr := kr.below hb5 kr.lt
      have kv := kv.below hb5 kv.lt
      clear hT4
      clear hb5
      cases b3
      · have HO := hide (⟨((kr.set 0 _).set 1 _), ((hT5.setCell (p := ⟨w.heap.size, 0, none⟩) (show w.heap.size ≤ w.heap.size by omega) _).setCell (p := ⟨w.heap.size, 1, none⟩) (show w.heap.size ≤ w.heap.size by omega) _)⟩ : Box ((w5.setCell ⟨w.heap.size, 0, none⟩ (.int .i64 0)).setCell ⟨w.heap.size, 1, none⟩ (.int .i64 0)) (w.heap.size) 36 #[.int .i64 0, .int .i64 0] ∧ Below w.heap.size w ((w5.setCell ⟨w.heap.size, 0, none⟩ (.int .i64 0)).setCell ⟨w.heap.size, 1, none⟩ (.int .i64 0)))
        obtain ⟨yr0, yr1, zr0, zr1⟩ := kr.facts
        clear kr kv
        go_wp2_with fail
        refine bodyPost_ret (results_cell_tmp rfl _ _ (w.heap.size) _ #[.int .i64 0, .int .i64 0] (0, 0) _ rfl HO.out.1 Tryd.underlying36 rfl Tryd.sizeVec) rfl ?_
        exact ⟨by obtain rfl : OK = false := HOK.out; obtain rfl : PV = (0, 0) := HPV.out; rfl, HO.out.2⟩
      · have HO := hide (⟨((kr.set 0 _).set 1 _), ((hT5.setCell (p := ⟨w.heap.size, 0, none⟩) (show w.heap.size ≤ w.heap.size by omega) _).setCell (p := ⟨w.heap.size, 1, none⟩) (show w.heap.size ≤ w.heap.size by omega) _)⟩ : Box ((w5.setCell ⟨w.heap.size, 0, none⟩ (.int .i64 x)).setCell ⟨w.heap.size, 1, none⟩ (.int .i64 y)) (w.heap.size) 36 #[.int .i64 x, .int .i64 y] ∧ Below w.heap.size w ((w5.setCell ⟨w.heap.size, 0, none⟩ (.int .i64 x)).setCell ⟨w.heap.size, 1, none⟩ (.int .i64 y)))
        obtain ⟨yv0, yv1⟩ := kv.cells2
        obtain ⟨yr0, yr1, zr0, zr1⟩ := kr.facts
        clear kr kv
        go_wp2_with fail
        refine bodyPost_ret (results_cell_tmp rfl _ _ (w.heap.size) _ #[.int .i64 x, .int .i64 y] (0, 0) _ rfl HO.out.1 Tryd.underlying36 rfl Tryd.sizeVec) rfl ?_
        exact ⟨by obtain rfl : OK = true := HOK.out; obtain rfl : PV = (x, y) := HPV.out; rfl, HO.out.2⟩
set_option maxRecDepth 100000 in
set_option maxHeartbeats 6400000 in
theorem spec_ParseVec (w : World) (s : ByteArray) (hm : s.size ≤ 1048576) :
    Calls Tryd.prog 23 #[.string s] w fun e w' => e = .returned (.tuple #[.agg #[.int .i64 (parV s).1, .int .i64 (parV s).2], .bool (okV s)]) ∧ Below w.heap.size w w' := by
  obtain ⟨W0, hW0⟩ : ∃ W0, W0 = (w.alloc (.cells #[.int .i64 0, .int .i64 0] 36)) := ⟨_, rfl⟩
  have hT0 : Below w.heap.size w W0 := by rw [hW0]; exact below_new _ _
  have kr : Box W0 (w.heap.size) 36 #[.int .i64 0, .int .i64 0] := by rw [hW0]; exact Box.last _ _ _ rfl
  have hs0 : W0.heap.size = w.heap.size + 1 := by rw [hW0, alloc_size]
  have HSP := hide (spec_SplitAny s ⟨#[44]⟩ W0 (by omega) (by show 1 ≤ _; omega))
  have HTW := hide (twoC s)
  have HPV : Hid (parV s = if okV s then (pval (headBC s), pval (tailBC s)) else (0, 0)) := rfl
  have hh : (headBC s).size ≤ 1048576 := by have := (head_leC s).1; omega
  have hd : (tailBC s).size ≤ 1048576 := by have := (head_leC s).2; omega
  have hx := pval_wf (headBC s)
  have hy := pval_wf (tailBC s)
  have HOKT := hide (okV_tail (s := s))
  have HOK2 := hide (okV_two (s := s))
  generalize okV s = OK at HOKT HOK2 HPV ⊢
  generalize parV s = PV at HPV ⊢
  clear hm
  go_enter Tryd.func23, Tryd.ntmps23
  go_upto_region 1 with fail
  rw [← hW0]
  clear hW0
  go_wp2_with fail
  refine HSP.out.mono ?_
  rintro e w1 ⟨v, rfl, q1, hb1⟩
  clear HSP
  have hs1 := hb1.size
  have hT1 := below_then hT0 hb1
  have kr := kr.below hb1 kr.lt
  clear hT0
  clear hb1
  rcases HTW.out with ⟨hl, ht⟩ | ⟨hs, he, hc⟩
  · have HOK := hide (HOKT.out ht)
    clear HOKT HOK2
    obtain ⟨A0, c0, rfl, g1, g2, hrd⟩ := own_reads q1
    clear q1 g1 g2 hrd HTW ht hh hd hx hy
    have hl : (splitL s ⟨#[44]⟩).length ≠ 2 := hl
    generalize (splitL s ⟨#[44]⟩).length = n at *
    have hl1 : ((n : Int) == 2) = false := by rw [beq_eq_false_iff_ne]; omega
    have hl2 : ¬ (n : Int) = 2 := by omega
    have hl3 : ((n : Int) != 2) = true := by rw [bne, hl1]; rfl
    clear hl
    have HO := hide (⟨((kr.set 0 _).set 1 _), ((hT1.setCell (p := ⟨w.heap.size, 0, none⟩) (show w.heap.size ≤ w.heap.size by omega) _).setCell (p := ⟨w.heap.size, 1, none⟩) (show w.heap.size ≤ w.heap.size by omega) _)⟩ : Box ((w1.setCell ⟨w.heap.size, 0, none⟩ (.int .i64 0)).setCell ⟨w.heap.size, 1, none⟩ (.int .i64 0)) (w.heap.size) 36 #[.int .i64 0, .int .i64 0] ∧ Below w.heap.size w ((w1.setCell ⟨w.heap.size, 0, none⟩ (.int .i64 0)).setCell ⟨w.heap.size, 1, none⟩ (.int .i64 0)))
    obtain ⟨yr0, yr1, zr0, zr1⟩ := kr.facts
    clear kr
    go_wp2_with fail
    refine bodyPost_ret (results_cell_tmp rfl _ _ (w.heap.size) _ #[.int .i64 0, .int .i64 0] (0, 0) _ rfl HO.out.1 Tryd.underlying36 rfl Tryd.sizeVec) rfl ?_
    exact ⟨by obtain rfl : OK = false := HOK.out; obtain rfl : PV = (0, 0) := HPV.out; rfl, HO.out.2⟩
  · have HOK := hide (HOK2.out he hc)
    clear HOKT HOK2
    have q2 : w1.ownsRow W0.heap.size 9 1 v 2 (sv [headBC s, tailBC s]) := by have q0 : w1.ownsRow W0.heap.size 9 1 v (splitL s slC).length (sv (splitL s slC)) := q1; rw [hs] at q0; exact q0
    clear q1 hs he hc HTW
    obtain ⟨A0, c0, rfl, g1, g2, hrd⟩ := own_reads q2
    have HRD := hide hrd
    clear g1 g2 hrd q2
    obtain ⟨ad, rfl, hab, hc0⟩ := HRD.out.str (k := 0) (by simp)
    obtain ⟨ad', e1, _, hc1⟩ := HRD.out.str (k := 1) (by simp)
    obtain rfl : ad = ad' := Option.some.inj e1
    rw [add_zero'] at hc0
    have hc0 : w1.cell? ad = some (.string (headBC s)) := hc0
    have hc1 : w1.cell? { block := ad.block, off := ad.off + 1, spot := none } = some (.string (tailBC s)) := hc1
    clear HRD e1
    have HC1 := hide (fun (W : World) => spec_ParseInt (headBC s) W hh)
    have HC2 := hide (fun (W : World) => spec_ParseInt (tailBC s) W hd)
    clear hh hd
    generalize headBC s = H at *
    generalize tailBC s = TL at *
    generalize pval H = x at *
    generalize pval TL = y at *
    generalize pok H = b1 at *
    generalize pok TL = b2 at *
    have HCF := hide (fun (W : World) => spec_FormatVec W x y hx hy)
    obtain ⟨w2, hw2⟩ : ∃ xw, xw = (w1.alloc (.cells #[.int .i64 0, .int .i64 0] 36)) := ⟨_, rfl⟩
    have hb2 : Below w1.heap.size w1 w2 := by rw [hw2]; exact below_new _ _
    have hq2 : w2.heap.size = w1.heap.size + 1 := by rw [hw2, alloc_size]
    have kv : Box w2 (w1.heap.size) 36 #[.int .i64 0, .int .i64 0] := by rw [hw2]; exact Box.last _ _ _ (by omega)
    have hc0 : w2.cell? ad = some (.string H) := (hb2.cell (p := ad) (show ad.block < _ by omega)).trans hc0
    have hc1 : w2.cell? { block := ad.block, off := ad.off + 1, spot := none } = some (.string TL) := (hb2.cell (p := { block := ad.block, off := ad.off + 1, spot := none }) (show ad.block < _ by omega)).trans hc1
    have hs2 := hb2.size
    have hT2 := below_then hT1 hb2
    have kr := kr.below hb2 kr.lt
    clear hT1
    go_upto_region 5 with fail
    rw [← hw2]
    clear hw2 hb2
    go_wp2_with fail
    refine (HC1.out w2).mono ?_
    rintro e w3 ⟨rfl, hb3⟩
    have hc0 : w3.cell? ad = some (.string H) := (hb3.cell (p := ad) (show ad.block < _ by omega)).trans hc0
    have hc1 : w3.cell? { block := ad.block, off := ad.off + 1, spot := none } = some (.string TL) := (hb3.cell (p := { block := ad.block, off := ad.off + 1, spot := none }) (show ad.block < _ by omega)).trans hc1
    have hs3 := hb3.size
    have hT3 := below_then hT2 hb3
    have kr := kr.below hb3 kr.lt
    have kv := kv.below hb3 kv.lt
    clear hT2
    clear hb3
    have hc0s : (w3.setCell ⟨w1.heap.size, 0, none⟩ (.int .i64 x)).cell? ad = some (.string H) := (((Below.refl w1.heap.size w3).setCell (p := ⟨w1.heap.size, 0, none⟩) (show w1.heap.size ≤ w1.heap.size by omega) _).cell (p := ad) hab).trans hc0
    have hc1s : (w3.setCell ⟨w1.heap.size, 0, none⟩ (.int .i64 x)).cell? { block := ad.block, off := ad.off + 1, spot := none } = some (.string TL) := (((Below.refl w1.heap.size w3).setCell (p := ⟨w1.heap.size, 0, none⟩) (show w1.heap.size ≤ w1.heap.size by omega) _).cell (p := { block := ad.block, off := ad.off + 1, spot := none }) hab).trans hc1
    obtain ⟨w4, hw4⟩ : ∃ xw, xw = (w3.setCell ⟨w1.heap.size, 0, none⟩ (.int .i64 x)) := ⟨_, rfl⟩
    have hbs : Below w.heap.size w3 w4 := by rw [hw4]; exact (Below.refl _ _).setCell (p := ⟨w1.heap.size, 0, none⟩) (show w.heap.size ≤ w1.heap.size by omega) _
    have hs4 : w4.heap.size = w3.heap.size := by rw [hw4, setCell_size]
    have hT4 := hT3.trans hbs
    have kr' : Box w4 (w.heap.size) 36 #[.int .i64 0, .int .i64 0] := by rw [hw4]; exact (kr.setv (show w.heap.size ≠ w1.heap.size by omega) 0 _)
    have kv' : Box w4 (w1.heap.size) 36 #[.int .i64 x, .int .i64 0] := by rw [hw4]; exact (kv.set 0 _)
    obtain ⟨yv0, yv1, zv0, zv1⟩ := kv.facts
    rw [← hw4] at hc0s
    rw [← hw4] at hc1s
    go_upto_region 6 with fail
    rw [← hw4]
    clear yv0 yv1 zv0 zv1
    clear hbs hT3 hw4
    clear kr
    have kr := kr'
    clear kr'
    clear kv
    have kv := kv'
    clear kv'
    clear hc0
    have hc0 := hc0s
    clear hc0s
    clear hc1
    have hc1 := hc1s
    clear hc1s
    go_wp2_with fail
    refine (HC2.out w4).mono ?_
    rintro e w5 ⟨rfl, hb5⟩
    have hc0 : w5.cell? ad = some (.string H) := (hb5.cell (p := ad) (show ad.block < _ by omega)).trans hc0
    have hc1 : w5.cell? { block := ad.block, off := ad.off + 1, spot := none } = some (.string TL) := (hb5.cell (p := { block := ad.block, off := ad.off + 1, spot := none }) (show ad.block < _ by omega)).trans hc1
    have hs5 := hb5.size
    have hT5 := below_then hT4 hb5
    have kr := kr.below hb5 kr.lt
    have kv := kv.below hb5 kv.lt
    clear hT4
    clear hb5
    have hc0s : (w5.setCell ⟨w1.heap.size, 1, none⟩ (.int .i64 y)).cell? ad = some (.string H) := (((Below.refl w1.heap.size w5).setCell (p := ⟨w1.heap.size, 1, none⟩) (show w1.heap.size ≤ w1.heap.size by omega) _).cell (p := ad) hab).trans hc0
    have hc1s : (w5.setCell ⟨w1.heap.size, 1, none⟩ (.int .i64 y)).cell? { block := ad.block, off := ad.off + 1, spot := none } = some (.string TL) := (((Below.refl w1.heap.size w5).setCell (p := ⟨w1.heap.size, 1, none⟩) (show w1.heap.size ≤ w1.heap.size by omega) _).cell (p := { block := ad.block, off := ad.off + 1, spot := none }) hab).trans hc1
    obtain ⟨w6, hw6⟩ : ∃ xw, xw = (w5.setCell ⟨w1.heap.size, 1, none⟩ (.int .i64 y)) := ⟨_, rfl⟩
    have hbs : Below w.heap.size w5 w6 := by rw [hw6]; exact (Below.refl _ _).setCell (p := ⟨w1.heap.size, 1, none⟩) (show w.heap.size ≤ w1.heap.size by omega) _
    have hs6 : w6.heap.size = w5.heap.size := by rw [hw6, setCell_size]
    have hT6 := hT5.trans hbs
    have kr' : Box w6 (w.heap.size) 36 #[.int .i64 0, .int .i64 0] := by rw [hw6]; exact (kr.setv (show w.heap.size ≠ w1.heap.size by omega) 1 _)
    have kv' : Box w6 (w1.heap.size) 36 #[.int .i64 x, .int .i64 y] := by rw [hw6]; exact (kv.set 1 _)
    obtain ⟨yv0, yv1, zv0, zv1⟩ := kv.facts
    rw [← hw6] at hc0s
    rw [← hw6] at hc1s
    go_upto_region 7 with fail
    rw [← hw6]
    clear yv0 yv1 zv0 zv1
    clear hbs hT5 hw6
    clear kr
    have kr := kr'
    clear kr'
    clear kv
    have kv := kv'
    clear kv'
    clear hc0
    have hc0 := hc0s
    clear hc0s
    clear hc1
    have hc1 := hc1s
    clear hc1s
    clear hc0 hc1
    obtain ⟨yv0, yv1⟩ := kv.cells2
    go_wp2_with fail
    refine (HCF.out w6).mono ?_
    rintro e w7 ⟨rfl, hb7⟩
    clear yv0 yv1
    have hs7 := hb7.size
    have hT7 := below_then hT6 hb7
    have kr := kr.below hb7 kr.lt
    have kv := kv.below hb7 kv.lt
    clear hT6
    clear hb7
    generalize fmtV x y = F at *
    by_cases hF : F = ⟨#[]⟩
    · have hq0 := str_nil hF
      have hq1 := str_nilE hF
      have HOK : Hid (OK = false) := by show _ = _; rw [HOK.out.1, decide_eq_false]; intro h; exact HOK.out.2 (h.symm.trans hF)
      have hF := hide hF
      have HO := hide (⟨((kr.set 0 _).set 1 _), ((hT7.setCell (p := ⟨w.heap.size, 0, none⟩) (show w.heap.size ≤ w.heap.size by omega) _).setCell (p := ⟨w.heap.size, 1, none⟩) (show w.heap.size ≤ w.heap.size by omega) _)⟩ : Box ((w7.setCell ⟨w.heap.size, 0, none⟩ (.int .i64 0)).setCell ⟨w.heap.size, 1, none⟩ (.int .i64 0)) (w.heap.size) 36 #[.int .i64 0, .int .i64 0] ∧ Below w.heap.size w ((w7.setCell ⟨w.heap.size, 0, none⟩ (.int .i64 0)).setCell ⟨w.heap.size, 1, none⟩ (.int .i64 0)))
      obtain ⟨yr0, yr1, zr0, zr1⟩ := kr.facts
      clear kr kv
      go_wp2_with fail
      refine bodyPost_ret (results_cell_tmp rfl _ _ (w.heap.size) _ #[.int .i64 0, .int .i64 0] (0, 0) _ rfl HO.out.1 Tryd.underlying36 rfl Tryd.sizeVec) rfl ?_
      exact ⟨by obtain rfl : OK = false := HOK.out; obtain rfl : PV = (0, 0) := HPV.out; rfl, HO.out.2⟩
    · have hq0 := str_some hF
      have hq1 := str_someE hF
      have hF := hide hF
      obtain ⟨yv0, yv1⟩ := kv.cells2
      go_wp2_with fail
      refine (HCF.out w7).mono ?_
      rintro e w8 ⟨rfl, hb8⟩
      clear yv0 yv1
      have hs8 := hb8.size
      have hT8 := below_then hT7 hb8
      have kr := kr.below hb8 kr.lt
      have kv := kv.below hb8 kv.lt
      clear hT7
      clear hb8
      clear HCF
      by_cases hf : F = s
      · have hq := str_eq hf
        have HOK : Hid (OK = true) := by show _ = _; rw [HOK.out.1]; exact decide_eq_true hf
        have hf := hide hf
        have HO := hide (⟨((kr.set 0 _).set 1 _), ((hT8.setCell (p := ⟨w.heap.size, 0, none⟩) (show w.heap.size ≤ w.heap.size by omega) _).setCell (p := ⟨w.heap.size, 1, none⟩) (show w.heap.size ≤ w.heap.size by omega) _)⟩ : Box ((w8.setCell ⟨w.heap.size, 0, none⟩ (.int .i64 x)).setCell ⟨w.heap.size, 1, none⟩ (.int .i64 y)) (w.heap.size) 36 #[.int .i64 x, .int .i64 y] ∧ Below w.heap.size w ((w8.setCell ⟨w.heap.size, 0, none⟩ (.int .i64 x)).setCell ⟨w.heap.size, 1, none⟩ (.int .i64 y)))
        obtain ⟨yv0, yv1⟩ := kv.cells2
        obtain ⟨yr0, yr1, zr0, zr1⟩ := kr.facts
        clear kr kv
        go_wp2_with fail
        refine bodyPost_ret (results_cell_tmp rfl _ _ (w.heap.size) _ #[.int .i64 x, .int .i64 y] (0, 0) _ rfl HO.out.1 Tryd.underlying36 rfl Tryd.sizeVec) rfl ?_
        exact ⟨by obtain rfl : OK = true := HOK.out; obtain rfl : PV = (x, y) := HPV.out; rfl, HO.out.2⟩
      · have hq := str_ne hf
        have HOK : Hid (OK = false) := by show _ = _; rw [HOK.out.1]; exact decide_eq_false hf
        have hf := hide hf
        have HO := hide (⟨((kr.set 0 _).set 1 _), ((hT8.setCell (p := ⟨w.heap.size, 0, none⟩) (show w.heap.size ≤ w.heap.size by omega) _).setCell (p := ⟨w.heap.size, 1, none⟩) (show w.heap.size ≤ w.heap.size by omega) _)⟩ : Box ((w8.setCell ⟨w.heap.size, 0, none⟩ (.int .i64 0)).setCell ⟨w.heap.size, 1, none⟩ (.int .i64 0)) (w.heap.size) 36 #[.int .i64 0, .int .i64 0] ∧ Below w.heap.size w ((w8.setCell ⟨w.heap.size, 0, none⟩ (.int .i64 0)).setCell ⟨w.heap.size, 1, none⟩ (.int .i64 0)))
        obtain ⟨yr0, yr1, zr0, zr1⟩ := kr.facts
        clear kr kv
        go_wp2_with fail
        refine bodyPost_ret (results_cell_tmp rfl _ _ (w.heap.size) _ #[.int .i64 0, .int .i64 0] (0, 0) _ rfl HO.out.1 Tryd.underlying36 rfl Tryd.sizeVec) rfl ?_
        exact ⟨by obtain rfl : OK = false := HOK.out; obtain rfl : PV = (0, 0) := HPV.out; rfl, HO.out.2⟩
end Go.Proofs.YtfajcogkbmefjaaDoor
