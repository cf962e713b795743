/-
  The program's points: contracts (2): Turn, PointOf, SamePoint.
-/
import Derived.Test.YtdagomikjblgiaaPtI
import Derived.Deep.RegionHeld3
import Derived.Deep.CutRange
import Derived.Sort.AtCall
namespace Go.Proofs.Ytdagomikjblgiaa
open Go.RowKit
set_option linter.unusedVariables false
def turnI (ax ay bx b_y cx cy : Int) : Int := if vecB ax ay && (vecB bx b_y && vecB cx cy) then (bx - ax) * (cy - ay) - (b_y - ay) * (cx - ax) else 0
theorem vecB_bounds {x y : Int} (h : vecB x y = true) : -1000 ≤ x ∧ x ≤ 1000 ∧ -1000 ≤ y ∧ y ≤ 1000 := by
  unfold vecB at h; simp at h; omega
theorem mul_bounds {a b : Int} (ha : -2000 ≤ a ∧ a ≤ 2000) (hb : -2000 ≤ b ∧ b ≤ 2000) : -4000000 ≤ a * b ∧ a * b ≤ 4000000 := by
  have h : (a * b).natAbs ≤ 2000 * 2000 := by
    rw [Int.natAbs_mul]
    exact Nat.mul_le_mul (by omega) (by omega)
  omega
set_option maxRecDepth 100000 in
set_option maxHeartbeats 1600000 in
theorem impl_Turn (w : World) (ax ay : Int) (hax : (Lit.int .i64 ax).wf = true) (hay : (Lit.int .i64 ay).wf = true) (bx b_y : Int) (hbx : (Lit.int .i64 bx).wf = true) (hb_y : (Lit.int .i64 b_y).wf = true) (cx cy : Int) (hcx : (Lit.int .i64 cx).wf = true) (hcy : (Lit.int .i64 cy).wf = true) :
    Calls Try.prog 57 #[.agg #[.int .i64 ax, .int .i64 ay], .agg #[.int .i64 bx, .int .i64 b_y], .agg #[.int .i64 cx, .int .i64 cy]] w fun e w' => e = .returned (.int .i64 (turnI ax ay bx b_y cx cy)) ∧ Below w.heap.size w w' := by
  have HCA := hide (fun (W : World) => impl_IsValidVec W ax ay hax hay)
  have HCB := hide (fun (W : World) => impl_IsValidVec W bx b_y hbx hb_y)
  have HCC := hide (fun (W : World) => impl_IsValidVec W cx cy hcx hcy)
  have HT : Hid (turnI ax ay bx b_y cx cy = if vecB ax ay && (vecB bx b_y && vecB cx cy) then (bx - ax) * (cy - ay) - (b_y - ay) * (cx - ax) else 0) := rfl
  generalize turnI ax ay bx b_y cx cy = T at HT ⊢
  obtain ⟨ma1, ma2⟩ := bounds_i64 hax
  obtain ⟨ma3, ma4⟩ := bounds_i64 hay
  obtain ⟨mb1, mb2⟩ := bounds_i64 hbx
  obtain ⟨mb3, mb4⟩ := bounds_i64 hb_y
  obtain ⟨mc1, mc2⟩ := bounds_i64 hcx
  obtain ⟨mc3, mc4⟩ := bounds_i64 hcy
  obtain ⟨W0, hW0⟩ : ∃ W0, W0 = (((w.alloc (.cells #[.int .i64 ax, .int .i64 ay] 32)).alloc (.cells #[.int .i64 bx, .int .i64 b_y] 32)).alloc (.cells #[.int .i64 cx, .int .i64 cy] 32)) := ⟨_, rfl⟩
  have hT0 : Below w.heap.size w W0 := by rw [hW0]; exact below_alloc (below_alloc (below_new _ _) _) _
  have ka : Box W0 (w.heap.size) 32 #[.int .i64 ax, .int .i64 ay] := by rw [hW0]; exact ((Box.last _ _ _ rfl).alloc _).alloc _
  have kb : Box W0 (w.heap.size + 1) 32 #[.int .i64 bx, .int .i64 b_y] := by rw [hW0]; exact (Box.last _ _ _ (alloc_size _ _).symm).alloc _
  have kc : Box W0 (w.heap.size + 2) 32 #[.int .i64 cx, .int .i64 cy] := by rw [hW0]; exact Box.last _ _ _ (by rw [alloc_size, alloc_size])
  have hs0 : W0.heap.size = w.heap.size + 3 := by rw [hW0, alloc_size, alloc_size, alloc_size]
  go_enter Try.func57, Try.ntmps57
  go_upto_region 1 with fail
  rw [← hW0]
  clear hW0
  obtain ⟨ya0, ya1⟩ := ka.cells2
  go_wp2_with fail
  refine (HCA.out _).mono ?_
  rintro e w1 ⟨rfl, hb1⟩
  clear ya0 ya1
  have hs1 := hb1.size
  have hT1 := below_then hT0 hb1
  have ka := ka.below hb1 ka.lt
  have kb := kb.below hb1 kb.lt
  have kc := kc.below hb1 kc.lt
  clear hT0
  clear hb1
  by_cases ea : vecB ax ay = true
  · rw [ea]
    obtain ⟨yb0, yb1⟩ := kb.cells2
    go_wp2_with fail
    refine (HCB.out _).mono ?_
    rintro e w2 ⟨rfl, hb2⟩
    clear yb0 yb1
    have hs2 := hb2.size
    have hT2 := below_then hT1 hb2
    have ka := ka.below hb2 ka.lt
    have kb := kb.below hb2 kb.lt
    have kc := kc.below hb2 kc.lt
    clear hT1
    clear hb2
    by_cases eb : vecB bx b_y = true
    · rw [eb]
      obtain ⟨yc0, yc1⟩ := kc.cells2
      go_wp2_with fail
      refine (HCC.out _).mono ?_
      rintro e w3 ⟨rfl, hb3⟩
      clear yc0 yc1
      have hs3 := hb3.size
      have hT3 := below_then hT2 hb3
      have ka := ka.below hb3 ka.lt
      have kb := kb.below hb3 kb.lt
      have kc := kc.below hb3 kc.lt
      clear hT2
      clear hb3
      by_cases ec : vecB cx cy = true
      · rw [ec]
        have ga := vecB_bounds ea
        have gb := vecB_bounds eb
        have gc := vecB_bounds ec
        have hm1 := mul_bounds (a := bx - ax) (b := cy - ay) (by omega) (by omega)
        have hm2 := mul_bounds (a := b_y - ay) (b := cx - ax) (by omega) (by omega)
        obtain ⟨ya0, ya1⟩ := ka.cells2
        obtain ⟨yb0, yb1⟩ := kb.cells2
        obtain ⟨yc0, yc1⟩ := kc.cells2
        go_wp2_with fail
        go_ret
        exact ⟨ret_int (by rw [HT.out, ea, eb, ec]; rfl), hT3⟩
      · have ec : vecB cx cy = false := by simpa using ec
        rw [ec]
        go_wp2_with fail
        go_ret
        exact ⟨ret_int (a := 0) (by rw [HT.out, ec]; simp), hT3⟩
    · have eb : vecB bx b_y = false := by simpa using eb
      rw [eb]
      go_wp2_with fail
      go_ret
      exact ⟨ret_int (a := 0) (by rw [HT.out, eb]; simp), hT2⟩
  · have ea : vecB ax ay = false := by simpa using ea
    rw [ea]
    go_wp2_with fail
    go_ret
    exact ⟨ret_int (a := 0) (by rw [HT.out, ea]; simp), hT1⟩
end Go.Proofs.Ytdagomikjblgiaa
