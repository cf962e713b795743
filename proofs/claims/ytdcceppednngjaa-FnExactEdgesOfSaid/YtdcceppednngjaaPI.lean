/-
  The texts PtI, PtI2, put together; each has its own heading below. No condition of ours.
-/
import Derived.Test.YtdcceppednngjaaPtM
import Derived.Test.YtdcceppednngjaaPB
import Derived.Test.YtdcceppednngjaaIA
import Derived.Deep.RegionHeld3
import Derived.Test.YtdcceppednngjaaIC
import Derived.Deep.CutRange
import Derived.Test.YtdcceppednngjaaIB
import Derived.Sort.AtCall
import Derived.Test.YtdcceppednngjaaMem
import Derived.Test.YtdcceppednngjaaRL
import Derived.Test.YtdcceppednngjaaBigR
import Derived.Test.YtdcceppednngjaaRA
import Derived.Test.YtdcceppednngjaaLB
import Derived.Test.YtdcceppednngjaaPtB
import Derived.Laws.StructEq
/-
  The program's points: contracts (1): clamped, IsValidVec, IsValidPoint, Turn, PointOf, SamePoint.
-/







namespace Go.Proofs.Ytdcceppednngjaa
open Go.RowKit
set_option linter.unusedVariables false
def clampI (m n : Int) : Int := if n < -m then -m else if m < n then m else n
theorem impl_clamped (w : World) (n m : Int) (hn : (Lit.int .i64 n).wf = true) (hm : 0 ≤ m ∧ m ≤ 1000000) :
    Calls Try.prog 100 #[.int .i64 n, .int .i64 m] w fun e w' => e = .returned (.int .i64 (clampI m n)) ∧ Below w.heap.size w w' := by
  obtain ⟨h1, h2⟩ := bounds_i64 hn
  obtain ⟨h3, h4⟩ := hm
  go_enter Try.func100, Try.ntmps100
  go_wp2_with fail
  all_goals
    go_ret
    refine ⟨ret_int ?_, Below.refl _ _⟩
    unfold clampI
    repeat' split
    all_goals omega
/-- both coordinates from -m to m -/
def inB (m x y : Int) : Bool := decide (-m ≤ x ∧ x ≤ m) && decide (-m ≤ y ∧ y ≤ m)
theorem inB_vec (x y : Int) : inB 1000 x y = vecB x y := rfl
theorem inB_clamp (m x y : Int) (hm : 0 ≤ m) : ((x == clampI m x) && (y == clampI m y)) = inB m x y := by
  have h : ∀ n : Int, (n == clampI m n) = decide (-m ≤ n ∧ n ≤ m) := fun n => by
    rw [Bool.eq_iff_iff]; simp only [beq_iff_eq, decide_eq_true_eq]; unfold clampI
    split
    · omega
    · split <;> omega
  rw [h, h]; rfl
set_option maxRecDepth 100000 in
set_option maxHeartbeats 1600000 in
theorem impl_isWithin (w : World) (px py m : Int) (hpx : (Lit.int .i64 px).wf = true) (hpy : (Lit.int .i64 py).wf = true) (hm : 0 ≤ m ∧ m ≤ 1000000) :
    Calls Try.prog 69 #[.agg #[.int .i64 px, .int .i64 py], .int .i64 m] w fun e w' => e = .returned (.bool (inB m px py)) ∧ Below w.heap.size w w' := by
  have HC1 := hide (fun (W : World) => impl_clamped W px m hpx hm)
  have HC2 := hide (fun (W : World) => impl_clamped W py m hpy hm)
  have HV := hide (inB_clamp m px py hm.1)
  obtain ⟨hp1, hp2⟩ := bounds_i64 hpx
  obtain ⟨hp3, hp4⟩ := bounds_i64 hpy
  generalize inB m px py = V at HV ⊢
  generalize clampI m px = cx at HC1 HV
  generalize clampI m py = cy at HC2 HV
  obtain ⟨W0, hW0⟩ : ∃ W0, W0 = (w.alloc (.cells #[.int .i64 px, .int .i64 py] 27)) := ⟨_, rfl⟩
  have hT0 : Below w.heap.size w W0 := by rw [hW0]; exact below_new _ _
  have kp : Box W0 (w.heap.size) 27 #[.int .i64 px, .int .i64 py] := by rw [hW0]; exact Box.last _ _ _ rfl
  have hs0 : W0.heap.size = w.heap.size + 1 := by rw [hW0, alloc_size]
  go_enter Try.func69, Try.ntmps69
  go_upto_region 1 with fail
  rw [← hW0]
  clear hW0
  by_cases e1 : px = cx
  · subst e1
    by_cases e2 : py = cy
    · subst e2
      have HBp := hide kp
      have HS0 : Hid (Below W0.heap.size W0 W0.drew) := (Below.refl _ _).drew
      have HKS := hide (fun (W : World) (hq : Below W0.heap.size W0 W) => (⟨(HBp.out.below hq HBp.out.lt).cell 0, (HBp.out.below hq HBp.out.lt).cell 1⟩ : W.cell? ⟨w.heap.size, 0, none⟩ = some (.int .i64 px) ∧ W.cell? ⟨w.heap.size, 1, none⟩ = some (.int .i64 py)))
      obtain ⟨yp0, yp1⟩ := kp.cells2
      go_region_held3 (fun w' => w'.cell? ⟨w.heap.size, 0, none⟩ = some (.int .i64 px) ∧ w'.cell? ⟨w.heap.size, 1, none⟩ = some (.int .i64 py))
          (first | (with_reducible exact HKS.out _ HS2.out) | (with_reducible exact HKS.out _ HS1.out) | (with_reducible exact HKS.out _ HS0.out))
          (first
            | (go_at_call 100; have HX := HS1.out; refine (HC2.out _).mono ?_; rintro e u2 ⟨rfl, hb2⟩; have hz2 : u1.heap.size ≤ u2.heap.size := hb2.size; have HS2 := hide (below_then HX hb2); clear HX)
            | (go_at_call 100; have HX := HS0.out; refine (HC1.out _).mono ?_; rintro e u1 ⟨rfl, hb1⟩; have hz1 : W0.heap.size ≤ u1.heap.size := hb1.size; have HS1 := hide (below_then HX hb1); clear HX))
      have hT := below_then hT0 HS2.out
      go_wp2_with fail
      go_ret
      exact ⟨ret_bool (by rw [← HV.out]; simp), hT⟩
    ·
      skip
      have HBp := hide kp
      have HS0 : Hid (Below W0.heap.size W0 W0.drew) := (Below.refl _ _).drew
      have HKS := hide (fun (W : World) (hq : Below W0.heap.size W0 W) => (⟨(HBp.out.below hq HBp.out.lt).cell 0, (HBp.out.below hq HBp.out.lt).cell 1⟩ : W.cell? ⟨w.heap.size, 0, none⟩ = some (.int .i64 px) ∧ W.cell? ⟨w.heap.size, 1, none⟩ = some (.int .i64 py)))
      obtain ⟨yp0, yp1⟩ := kp.cells2
      go_region_held3 (fun w' => w'.cell? ⟨w.heap.size, 0, none⟩ = some (.int .i64 px) ∧ w'.cell? ⟨w.heap.size, 1, none⟩ = some (.int .i64 py))
          (first | (with_reducible exact HKS.out _ HS2.out) | (with_reducible exact HKS.out _ HS1.out) | (with_reducible exact HKS.out _ HS0.out))
          (first
            | (go_at_call 100; have HX := HS1.out; refine (HC2.out _).mono ?_; rintro e u2 ⟨rfl, hb2⟩; have hz2 : u1.heap.size ≤ u2.heap.size := hb2.size; have HS2 := hide (below_then HX hb2); clear HX)
            | (go_at_call 100; have HX := HS0.out; refine (HC1.out _).mono ?_; rintro e u1 ⟨rfl, hb1⟩; have hz1 : W0.heap.size ≤ u1.heap.size := hb1.size; have HS1 := hide (below_then HX hb1); clear HX))
      have hT := below_then hT0 HS2.out
      go_wp2_with fail
      go_ret
      exact ⟨ret_bool (by rw [← HV.out]; simp [e2]), hT⟩
  ·
    skip
    by_cases e2 : py = cy
    · subst e2
      have HBp := hide kp
      have HS0 : Hid (Below W0.heap.size W0 W0.drew) := (Below.refl _ _).drew
      have HKS := hide (fun (W : World) (hq : Below W0.heap.size W0 W) => (⟨(HBp.out.below hq HBp.out.lt).cell 0, (HBp.out.below hq HBp.out.lt).cell 1⟩ : W.cell? ⟨w.heap.size, 0, none⟩ = some (.int .i64 px) ∧ W.cell? ⟨w.heap.size, 1, none⟩ = some (.int .i64 py)))
      obtain ⟨yp0, yp1⟩ := kp.cells2
      go_region_held3 (fun w' => w'.cell? ⟨w.heap.size, 0, none⟩ = some (.int .i64 px) ∧ w'.cell? ⟨w.heap.size, 1, none⟩ = some (.int .i64 py))
          (first | (with_reducible exact HKS.out _ HS2.out) | (with_reducible exact HKS.out _ HS1.out) | (with_reducible exact HKS.out _ HS0.out))
          (first
            | (go_at_call 100; have HX := HS1.out; refine (HC2.out _).mono ?_; rintro e u2 ⟨rfl, hb2⟩; have hz2 : u1.heap.size ≤ u2.heap.size := hb2.size; have HS2 := hide (below_then HX hb2); clear HX)
            | (go_at_call 100; have HX := HS0.out; refine (HC1.out _).mono ?_; rintro e u1 ⟨rfl, hb1⟩; have hz1 : W0.heap.size ≤ u1.heap.size := hb1.size; have HS1 := hide (below_then HX hb1); clear HX))
      have hT := below_then hT0 HS2.out
      go_wp2_with fail
      go_ret
      exact ⟨ret_bool (by rw [← HV.out]; simp [e1]), hT⟩
    ·
      skip
      have HBp := hide kp
      have HS0 : Hid (Below W0.heap.size W0 W0.drew) := (Below.refl _ _).drew
      have HKS := hide (fun (W : World) (hq : Below W0.heap.size W0 W) => (⟨(HBp.out.below hq HBp.out.lt).cell 0, (HBp.out.below hq HBp.out.lt).cell 1⟩ : W.cell? ⟨w.heap.size, 0, none⟩ = some (.int .i64 px) ∧ W.cell? ⟨w.heap.size, 1, none⟩ = some (.int .i64 py)))
      obtain ⟨yp0, yp1⟩ := kp.cells2
      go_region_held3 (fun w' => w'.cell? ⟨w.heap.size, 0, none⟩ = some (.int .i64 px) ∧ w'.cell? ⟨w.heap.size, 1, none⟩ = some (.int .i64 py))
          (first | (with_reducible exact HKS.out _ HS2.out) | (with_reducible exact HKS.out _ HS1.out) | (with_reducible exact HKS.out _ HS0.out))
          (first
            | (go_at_call 100; have HX := HS1.out; refine (HC2.out _).mono ?_; rintro e u2 ⟨rfl, hb2⟩; have hz2 : u1.heap.size ≤ u2.heap.size := hb2.size; have HS2 := hide (below_then HX hb2); clear HX)
            | (go_at_call 100; have HX := HS0.out; refine (HC1.out _).mono ?_; rintro e u1 ⟨rfl, hb1⟩; have hz1 : W0.heap.size ≤ u1.heap.size := hb1.size; have HS1 := hide (below_then HX hb1); clear HX))
      have hT := below_then hT0 HS2.out
      go_wp2_with fail
      go_ret
      exact ⟨ret_bool (by rw [← HV.out]; simp [e1, e2]), hT⟩
set_option maxHeartbeats 1600000 in
theorem impl_IsValidVec (w : World) (px py : Int) (hpx : (Lit.int .i64 px).wf = true) (hpy : (Lit.int .i64 py).wf = true) :
    Calls Try.prog 30 #[.agg #[.int .i64 px, .int .i64 py]] w fun e w' => e = .returned (.bool (vecB px py)) ∧ Below w.heap.size w w' := by
  have HI := hide (fun (W : World) => impl_isWithin W px py 1000 hpx hpy (by omega))
  rw [inB_vec] at HI
  generalize vecB px py = V at HI ⊢
  obtain ⟨W0, hW0⟩ : ∃ W0, W0 = (w.alloc (.cells #[.int .i64 px, .int .i64 py] 27)) := ⟨_, rfl⟩
  have hT0 : Below w.heap.size w W0 := by rw [hW0]; exact below_new _ _
  have kp : Box W0 (w.heap.size) 27 #[.int .i64 px, .int .i64 py] := by rw [hW0]; exact Box.last _ _ _ rfl
  go_enter Try.func30, Try.ntmps30
  go_upto_region 1 with fail
  rw [← hW0]
  clear hW0
  obtain ⟨yp0, yp1⟩ := kp.cells2
  go_wp2_with fail
  refine (HI.out _).mono ?_
  rintro e w1 ⟨rfl, hb1⟩
  go_wp2_with fail
  go_ret
  exact ⟨rfl, below_then hT0 hb1⟩
end Go.Proofs.Ytdcceppednngjaa

/-
  The program's points: contracts (2): Turn, PointOf, SamePoint.
-/




namespace Go.Proofs.Ytdcceppednngjaa
open Go.RowKit
set_option linter.unusedVariables false
def turnI (ax ay bx b_y cx cy : Int) : Int := if vecB ax ay && (vecB bx b_y && vecB cx cy) then (bx - ax) * (cy - ay) - (b_y - ay) * (cx - ax) else 0
theorem vecB_bounds {x y : Int} (h : vecB x y = true) : -1000 ≤ x ∧ x ≤ 1000 ∧ -1000 ≤ y ∧ y ≤ 1000 := by
  unfold vecB at h; simp at h; omega
theorem mul_bounds {a b : Int} (ha : -2000 ≤ a ∧ a ≤ 2000) (hb : -2000 ≤ b ∧ b ≤ 2000) : -4000000 ≤ a * b ∧ a * b ≤ 4000000 := by
  have h : (a * b).natAbs ≤ 2000 * 2000 := by
    rw [Int.natAbs_mul]
    exact Nat.mul_le_mul (by omega) (by omega)
  omega
set_option maxRecDepth 100000 in
set_option maxHeartbeats 1600000 in
theorem impl_Turn (w : World) (ax ay : Int) (hax : (Lit.int .i64 ax).wf = true) (hay : (Lit.int .i64 ay).wf = true) (bx b_y : Int) (hbx : (Lit.int .i64 bx).wf = true) (hb_y : (Lit.int .i64 b_y).wf = true) (cx cy : Int) (hcx : (Lit.int .i64 cx).wf = true) (hcy : (Lit.int .i64 cy).wf = true) :
    Calls Try.prog 71 #[.agg #[.int .i64 ax, .int .i64 ay], .agg #[.int .i64 bx, .int .i64 b_y], .agg #[.int .i64 cx, .int .i64 cy]] w fun e w' => e = .returned (.int .i64 (turnI ax ay bx b_y cx cy)) ∧ Below w.heap.size w w' := by
  have HCA := hide (fun (W : World) => impl_IsValidVec W ax ay hax hay)
  have HCB := hide (fun (W : World) => impl_IsValidVec W bx b_y hbx hb_y)
  have HCC := hide (fun (W : World) => impl_IsValidVec W cx cy hcx hcy)
  have HT : Hid (turnI ax ay bx b_y cx cy = if vecB ax ay && (vecB bx b_y && vecB cx cy) then (bx - ax) * (cy - ay) - (b_y - ay) * (cx - ax) else 0) := rfl
  generalize turnI ax ay bx b_y cx cy = T at HT ⊢
  obtain ⟨ma1, ma2⟩ := bounds_i64 hax
  obtain ⟨ma3, ma4⟩ := bounds_i64 hay
  obtain ⟨mb1, mb2⟩ := bounds_i64 hbx
  obtain ⟨mb3, mb4⟩ := bounds_i64 hb_y
  obtain ⟨mc1, mc2⟩ := bounds_i64 hcx
  obtain ⟨mc3, mc4⟩ := bounds_i64 hcy
  obtain ⟨W0, hW0⟩ : ∃ W0, W0 = (((w.alloc (.cells #[.int .i64 ax, .int .i64 ay] 27)).alloc (.cells #[.int .i64 bx, .int .i64 b_y] 27)).alloc (.cells #[.int .i64 cx, .int .i64 cy] 27)) := ⟨_, rfl⟩
  have hT0 : Below w.heap.size w W0 := by rw [hW0]; exact below_alloc (below_alloc (below_new _ _) _) _
  have ka : Box W0 (w.heap.size) 27 #[.int .i64 ax, .int .i64 ay] := by rw [hW0]; exact ((Box.last _ _ _ rfl).alloc _).alloc _
  have kb : Box W0 (w.heap.size + 1) 27 #[.int .i64 bx, .int .i64 b_y] := by rw [hW0]; exact (Box.last _ _ _ (alloc_size _ _).symm).alloc _
  have kc : Box W0 (w.heap.size + 2) 27 #[.int .i64 cx, .int .i64 cy] := by rw [hW0]; exact Box.last _ _ _ (by rw [alloc_size, alloc_size])
  have hs0 : W0.heap.size = w.heap.size + 3 := by rw [hW0, alloc_size, alloc_size, alloc_size]
  go_enter Try.func71, Try.ntmps71
  go_upto_region 1 with fail
  rw [← hW0]
  clear hW0
  obtain ⟨ya0, ya1⟩ := ka.cells2
  go_wp2_with fail
  refine (HCA.out _).mono ?_
  rintro e w1 ⟨rfl, hb1⟩
  clear ya0 ya1
  have hs1 := hb1.size
  have hT1 := below_then hT0 hb1
  have ka := ka.below hb1 ka.lt
  have kb := kb.below hb1 kb.lt
  have kc := kc.below hb1 kc.lt
  clear hT0
  clear hb1
  by_cases ea : vecB ax ay = true
  · rw [ea]
    obtain ⟨yb0, yb1⟩ := kb.cells2
    go_wp2_with fail
    refine (HCB.out _).mono ?_
    rintro e w2 ⟨rfl, hb2⟩
    clear yb0 yb1
    have hs2 := hb2.size
    have hT2 := below_then hT1 hb2
    have ka := ka.below hb2 ka.lt
    have kb := kb.below hb2 kb.lt
    have kc := kc.below hb2 kc.lt
    clear hT1
    clear hb2
    by_cases eb : vecB bx b_y = true
    · rw [eb]
      obtain ⟨yc0, yc1⟩ := kc.cells2
      go_wp2_with fail
      refine (HCC.out _).mono ?_
      rintro e w3 ⟨rfl, hb3⟩
      clear yc0 yc1
      have hs3 := hb3.size
      have hT3 := below_then hT2 hb3
      have ka := ka.below hb3 ka.lt
      have kb := kb.below hb3 kb.lt
      have kc := kc.below hb3 kc.lt
      clear hT2
      clear hb3
      by_cases ec : vecB cx cy = true
      · rw [ec]
        have ga := vecB_bounds ea
        have gb := vecB_bounds eb
        have gc := vecB_bounds ec
        have hm1 := mul_bounds (a := bx - ax) (b := cy - ay) (by omega) (by omega)
        have hm2 := mul_bounds (a := b_y - ay) (b := cx - ax) (by omega) (by omega)
        obtain ⟨ya0, ya1⟩ := ka.cells2
        obtain ⟨yb0, yb1⟩ := kb.cells2
        obtain ⟨yc0, yc1⟩ := kc.cells2
        go_wp2_with fail
        go_ret
        exact ⟨ret_int (by rw [HT.out, ea, eb, ec]; rfl), hT3⟩
      · have ec : vecB cx cy = false := by simpa using ec
        rw [ec]
        go_wp2_with fail
        go_ret
        exact ⟨ret_int (a := 0) (by rw [HT.out, ec]; simp), hT3⟩
    · have eb : vecB bx b_y = false := by simpa using eb
      rw [eb]
      go_wp2_with fail
      go_ret
      exact ⟨ret_int (a := 0) (by rw [HT.out, eb]; simp), hT2⟩
  · have ea : vecB ax ay = false := by simpa using ea
    rw [ea]
    go_wp2_with fail
    go_ret
    exact ⟨ret_int (a := 0) (by rw [HT.out, ea]; simp), hT1⟩
end Go.Proofs.Ytdcceppednngjaa
