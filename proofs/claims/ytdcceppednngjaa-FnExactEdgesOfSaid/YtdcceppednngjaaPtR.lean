/-
  The reference's points: contracts (1): IsValidVec, IsValidPoint, Turn, SamePoint, PointOf, l05Valid.
-/
import Derived.Test.YtdcceppednngjaaPI
import Derived.Deep.RegionHeld3
import Derived.Deep.CutRange
import Derived.Sort.AtCall
namespace Go.Proofs.Ytdcceppednngjaa
open Go.RowKit
set_option linter.unusedVariables false
set_option maxRecDepth 100000 in
set_option maxHeartbeats 1600000 in
theorem spec_IsValidVec (w : World) (px py : Int) (hpx : (Lit.int .i64 px).wf = true) (hpy : (Lit.int .i64 py).wf = true) :
    Calls Try.prog 28 #[.agg #[.int .i64 px, .int .i64 py]] w fun e w' => e = .returned (.bool (vecB px py)) ∧ Below w.heap.size w w' := by
  have HC1 := hide (fun (W : World) (b : Bool) (h : Hid (b = decide (-1000 ≤ px ∧ px ≤ 1000))) => l01In_all px (-1000) 1000 W b h)
  have HC2 := hide (fun (W : World) (b : Bool) (h : Hid (b = decide (-1000 ≤ py ∧ py ≤ 1000))) => l01In_all py (-1000) 1000 W b h)
  have HV : Hid (vecB px py = (decide (-1000 ≤ px ∧ px ≤ 1000) && decide (-1000 ≤ py ∧ py ≤ 1000))) := rfl
  generalize vecB px py = V at HV ⊢
  obtain ⟨b1, hb1⟩ : ∃ b, b = decide (-1000 ≤ px ∧ px ≤ 1000) := ⟨_, rfl⟩
  obtain ⟨b2, hb2⟩ : ∃ b, b = decide (-1000 ≤ py ∧ py ≤ 1000) := ⟨_, rfl⟩
  have hV : V = (b1 && b2) := by rw [HV.out, hb1, hb2]
  clear HV
  have D1 := hide (hide hb1)
  have D2 := hide (hide hb2)
  clear hb1 hb2
  obtain ⟨W0, hW0⟩ : ∃ W0, W0 = (w.alloc (.cells #[.int .i64 px, .int .i64 py] 27)) := ⟨_, rfl⟩
  have hT0 : Below w.heap.size w W0 := by rw [hW0]; exact below_new _ _
  have kp : Box W0 (w.heap.size) 27 #[.int .i64 px, .int .i64 py] := by rw [hW0]; exact Box.last _ _ _ rfl
  have hs0 : W0.heap.size = w.heap.size + 1 := by rw [hW0, alloc_size]
  go_enter Try.func28, Try.ntmps28
  cases b1
  · subst hV
    obtain ⟨yp0, yp1⟩ := kp.cells2
    rw [hW0] at yp0 yp1 hT0
    go_wp2_with fail
    refine (HC1.out _ _ D1.out).mono ?_
    rintro e w1 ⟨rfl, rfl⟩
    go_wp2_with fail
    go_ret
    exact ⟨ret_bool (by first | rfl | cases b2 <;> rfl), hT0⟩
  · subst hV
    obtain ⟨yp0, yp1⟩ := kp.cells2
    rw [hW0] at yp0 yp1 hT0
    go_wp2_with fail
    refine (HC1.out _ _ D1.out).mono ?_
    rintro e w1 ⟨rfl, rfl⟩
    go_wp2_with fail
    refine (HC2.out _ _ D2.out).mono ?_
    rintro e w2 ⟨rfl, rfl⟩
    go_wp2_with fail
    go_ret
    exact ⟨ret_bool (by first | rfl | cases b2 <;> rfl), hT0⟩
set_option maxRecDepth 100000 in
set_option maxHeartbeats 1600000 in
theorem spec_Turn (w : World) (ax ay : Int) (hax : (Lit.int .i64 ax).wf = true) (hay : (Lit.int .i64 ay).wf = true) (bx b_y : Int) (hbx : (Lit.int .i64 bx).wf = true) (hb_y : (Lit.int .i64 b_y).wf = true) (cx cy : Int) (hcx : (Lit.int .i64 cx).wf = true) (hcy : (Lit.int .i64 cy).wf = true) :
    Calls Try.prog 70 #[.agg #[.int .i64 ax, .int .i64 ay], .agg #[.int .i64 bx, .int .i64 b_y], .agg #[.int .i64 cx, .int .i64 cy]] w fun e w' => e = .returned (.int .i64 (turnI ax ay bx b_y cx cy)) ∧ Below w.heap.size w w' := by
  have HCA := hide (fun (W : World) => spec_IsValidVec W ax ay hax hay)
  have HCB := hide (fun (W : World) => spec_IsValidVec W bx b_y hbx hb_y)
  have HCC := hide (fun (W : World) => spec_IsValidVec W cx cy hcx hcy)
  have HT : Hid (turnI ax ay bx b_y cx cy = if vecB ax ay && (vecB bx b_y && vecB cx cy) then (bx - ax) * (cy - ay) - (b_y - ay) * (cx - ax) else 0) := rfl
  generalize turnI ax ay bx b_y cx cy = T at HT ⊢
  obtain ⟨ma1, ma2⟩ := bounds_i64 hax
  obtain ⟨ma3, ma4⟩ := bounds_i64 hay
  obtain ⟨mb1, mb2⟩ := bounds_i64 hbx
  obtain ⟨mb3, mb4⟩ := bounds_i64 hb_y
  obtain ⟨mc1, mc2⟩ := bounds_i64 hcx
  obtain ⟨mc3, mc4⟩ := bounds_i64 hcy
  obtain ⟨W0, hW0⟩ : ∃ W0, W0 = (((w.alloc (.cells #[.int .i64 ax, .int .i64 ay] 27)).alloc (.cells #[.int .i64 bx, .int .i64 b_y] 27)).alloc (.cells #[.int .i64 cx, .int .i64 cy] 27)) := ⟨_, rfl⟩
  have hT0 : Below w.heap.size w W0 := by rw [hW0]; exact below_alloc (below_alloc (below_new _ _) _) _
  have ka : Box W0 (w.heap.size) 27 #[.int .i64 ax, .int .i64 ay] := by rw [hW0]; exact ((Box.last _ _ _ rfl).alloc _).alloc _
  have kb : Box W0 (w.heap.size + 1) 27 #[.int .i64 bx, .int .i64 b_y] := by rw [hW0]; exact (Box.last _ _ _ (alloc_size _ _).symm).alloc _
  have kc : Box W0 (w.heap.size + 2) 27 #[.int .i64 cx, .int .i64 cy] := by rw [hW0]; exact Box.last _ _ _ (by rw [alloc_size, alloc_size])
  have hs0 : W0.heap.size = w.heap.size + 3 := by rw [hW0, alloc_size, alloc_size, alloc_size]
  go_enter Try.func70, Try.ntmps70
  go_upto_region 1 with fail
  rw [← hW0]
  clear hW0
  obtain ⟨ya0, ya1⟩ := ka.cells2
  go_wp2_with fail
  refine (HCA.out _).mono ?_
  rintro e w1 ⟨rfl, hb1⟩
  clear ya0 ya1
  have hs1 := hb1.size
  have hT1 := below_then hT0 hb1
  have ka := ka.below hb1 ka.lt
  have kb := kb.below hb1 kb.lt
  have kc := kc.below hb1 kc.lt
  clear hT0
  clear hb1
  by_cases ea : vecB ax ay = true
  · rw [ea]
    obtain ⟨yb0, yb1⟩ := kb.cells2
    go_wp2_with fail
    refine (HCB.out _).mono ?_
    rintro e w2 ⟨rfl, hb2⟩
    clear yb0 yb1
    have hs2 := hb2.size
    have hT2 := below_then hT1 hb2
    have ka := ka.below hb2 ka.lt
    have kb := kb.below hb2 kb.lt
    have kc := kc.below hb2 kc.lt
    clear hT1
    clear hb2
    by_cases eb : vecB bx b_y = true
    · rw [eb]
      obtain ⟨yc0, yc1⟩ := kc.cells2
      go_wp2_with fail
      refine (HCC.out _).mono ?_
      rintro e w3 ⟨rfl, hb3⟩
      clear yc0 yc1
      have hs3 := hb3.size
      have hT3 := below_then hT2 hb3
      have ka := ka.below hb3 ka.lt
      have kb := kb.below hb3 kb.lt
      have kc := kc.below hb3 kc.lt
      clear hT2
      clear hb3
      by_cases ec : vecB cx cy = true
      · rw [ec]
        have ga := vecB_bounds ea
        have gb := vecB_bounds eb
        have gc := vecB_bounds ec
        have hm1 := mul_bounds (a := bx - ax) (b := cy - ay) (by omega) (by omega)
        have hm2 := mul_bounds (a := b_y - ay) (b := cx - ax) (by omega) (by omega)
        obtain ⟨ya0, ya1⟩ := ka.cells2
        obtain ⟨yb0, yb1⟩ := kb.cells2
        obtain ⟨yc0, yc1⟩ := kc.cells2
        go_wp2_with fail
        go_ret
        exact ⟨ret_int (by rw [HT.out, ea, eb, ec]; rfl), hT3⟩
      · have ec : vecB cx cy = false := by simpa using ec
        rw [ec]
        go_wp2_with fail
        go_ret
        exact ⟨ret_int (a := 0) (by rw [HT.out, ec]; simp), hT3⟩
    · have eb : vecB bx b_y = false := by simpa using eb
      rw [eb]
      go_wp2_with fail
      go_ret
      exact ⟨ret_int (a := 0) (by rw [HT.out, eb]; simp), hT2⟩
  · have ea : vecB ax ay = false := by simpa using ea
    rw [ea]
    go_wp2_with fail
    go_ret
    exact ⟨ret_int (a := 0) (by rw [HT.out, ea]; simp), hT1⟩
end Go.Proofs.Ytdcceppednngjaa
