/-
  The texts PtI, PtI2, put together; each has its own heading below. No condition of ours.
-/
import Derived.Test.YtocllmaikngoaaaGreatDoorPT
import Derived.Test.YtocllmaikngoaaaGreatDoorLB
import Derived.Test.YtocllmaikngoaaaGreatDoorPtB
import Derived.Deep.RegionHeld3
import Derived.Deep.CutRange
import Derived.Sort.AtCall
import Derived.Laws.StructEq
/-
  The program's points: contracts (1): clamped, IsValidVec, IsValidPoint, Turn, PointOf, SamePoint.
-/







namespace Go.Proofs.YtocllmaikngoaaaGreatDoor
open Go.RowKit
set_option linter.unusedVariables false
def clampI (m n : Int) : Int := if n < -m then -m else if m < n then m else n
theorem impl_clamped (w : World) (n m : Int) (hn : (Lit.int .i64 n).wf = true) (hm : 0 ≤ m ∧ m ≤ 1000000) :
    Calls Tryz.prog 137 #[.int .i64 n, .int .i64 m] w fun e w' => e = .returned (.int .i64 (clampI m n)) ∧ Below w.heap.size w w' := by
  obtain ⟨h1, h2⟩ := bounds_i64 hn
  obtain ⟨h3, h4⟩ := hm
  go_enter Tryz.func137, Tryz.ntmps137
  go_wp2_with fail
  all_goals
    go_ret
    refine ⟨ret_int ?_, Below.refl _ _⟩
    unfold clampI
    repeat' split
    all_goals omega
/-- both coordinates from -m to m -/
def inB (m x y : Int) : Bool := decide (-m ≤ x ∧ x ≤ m) && decide (-m ≤ y ∧ y ≤ m)
theorem inB_vec (x y : Int) : inB 1000 x y = vecB x y := rfl
theorem inB_clamp (m x y : Int) (hm : 0 ≤ m) : ((x == clampI m x) && (y == clampI m y)) = inB m x y := by
  have h : ∀ n : Int, (n == clampI m n) = decide (-m ≤ n ∧ n ≤ m) := fun n => by
    rw [Bool.eq_iff_iff]; simp only [beq_iff_eq, decide_eq_true_eq]; unfold clampI
    split
    · omega
    · split <;> omega
  rw [h, h]; rfl
set_option maxRecDepth 100000 in
set_option maxHeartbeats 1600000 in
theorem impl_isWithin (w : World) (px py m : Int) (hpx : (Lit.int .i64 px).wf = true) (hpy : (Lit.int .i64 py).wf = true) (hm : 0 ≤ m ∧ m ≤ 1000000) :
    Calls Tryz.prog 95 #[.agg #[.int .i64 px, .int .i64 py], .int .i64 m] w fun e w' => e = .returned (.bool (inB m px py)) ∧ Below w.heap.size w w' := by
  have HC1 := hide (fun (W : World) => impl_clamped W px m hpx hm)
  have HC2 := hide (fun (W : World) => impl_clamped W py m hpy hm)
  have HV := hide (inB_clamp m px py hm.1)
  obtain ⟨hp1, hp2⟩ := bounds_i64 hpx
  obtain ⟨hp3, hp4⟩ := bounds_i64 hpy
  generalize inB m px py = V at HV ⊢
  generalize clampI m px = cx at HC1 HV
  generalize clampI m py = cy at HC2 HV
  obtain ⟨W0, hW0⟩ : ∃ W0, W0 = (w.alloc (.cells #[.int .i64 px, .int .i64 py] 39)) := ⟨_, rfl⟩
  have hT0 : Below w.heap.size w W0 := by rw [hW0]; exact below_new _ _
  have kp : Box W0 (w.heap.size) 39 #[.int .i64 px, .int .i64 py] := by rw [hW0]; exact Box.last _ _ _ rfl
  have hs0 : W0.heap.size = w.heap.size + 1 := by rw [hW0, alloc_size]
  go_enter Tryz.func95, Tryz.ntmps95
  go_upto_region 1 with fail
  rw [← hW0]
  clear hW0
  by_cases e1 : px = cx
  · subst e1
    by_cases e2 : py = cy
    · subst e2
      have HBp := hide kp
      have HS0 : Hid (Below W0.heap.size W0 W0.drew) := (Below.refl _ _).drew
      have HKS := hide (fun (W : World) (hq : Below W0.heap.size W0 W) => (⟨(HBp.out.below hq HBp.out.lt).cell 0, (HBp.out.below hq HBp.out.lt).cell 1⟩ : W.cell? ⟨w.heap.size, 0, none⟩ = some (.int .i64 px) ∧ W.cell? ⟨w.heap.size, 1, none⟩ = some (.int .i64 py)))
      obtain ⟨yp0, yp1⟩ := kp.cells2
      go_region_held3 (fun w' => w'.cell? ⟨w.heap.size, 0, none⟩ = some (.int .i64 px) ∧ w'.cell? ⟨w.heap.size, 1, none⟩ = some (.int .i64 py))
          (first | (with_reducible exact HKS.out _ HS2.out) | (with_reducible exact HKS.out _ HS1.out) | (with_reducible exact HKS.out _ HS0.out))
          (first
            | (go_at_call 137; have HX := HS1.out; refine (HC2.out _).mono ?_; rintro e u2 ⟨rfl, hb2⟩; have hz2 : u1.heap.size ≤ u2.heap.size := hb2.size; have HS2 := hide (below_then HX hb2); clear HX)
            | (go_at_call 137; have HX := HS0.out; refine (HC1.out _).mono ?_; rintro e u1 ⟨rfl, hb1⟩; have hz1 : W0.heap.size ≤ u1.heap.size := hb1.size; have HS1 := hide (below_then HX hb1); clear HX))
      have hT := below_then hT0 HS2.out
      go_wp2_with fail
      go_ret
      exact ⟨ret_bool (by rw [← HV.out]; simp), hT⟩
    ·
      skip
      have HBp := hide kp
      have HS0 : Hid (Below W0.heap.size W0 W0.drew) := (Below.refl _ _).drew
      have HKS := hide (fun (W : World) (hq : Below W0.heap.size W0 W) => (⟨(HBp.out.below hq HBp.out.lt).cell 0, (HBp.out.below hq HBp.out.lt).cell 1⟩ : W.cell? ⟨w.heap.size, 0, none⟩ = some (.int .i64 px) ∧ W.cell? ⟨w.heap.size, 1, none⟩ = some (.int .i64 py)))
      obtain ⟨yp0, yp1⟩ := kp.cells2
      go_region_held3 (fun w' => w'.cell? ⟨w.heap.size, 0, none⟩ = some (.int .i64 px) ∧ w'.cell? ⟨w.heap.size, 1, none⟩ = some (.int .i64 py))
          (first | (with_reducible exact HKS.out _ HS2.out) | (with_reducible exact HKS.out _ HS1.out) | (with_reducible exact HKS.out _ HS0.out))
          (first
            | (go_at_call 137; have HX := HS1.out; refine (HC2.out _).mono ?_; rintro e u2 ⟨rfl, hb2⟩; have hz2 : u1.heap.size ≤ u2.heap.size := hb2.size; have HS2 := hide (below_then HX hb2); clear HX)
            | (go_at_call 137; have HX := HS0.out; refine (HC1.out _).mono ?_; rintro e u1 ⟨rfl, hb1⟩; have hz1 : W0.heap.size ≤ u1.heap.size := hb1.size; have HS1 := hide (below_then HX hb1); clear HX))
      have hT := below_then hT0 HS2.out
      go_wp2_with fail
      go_ret
      exact ⟨ret_bool (by rw [← HV.out]; simp [e2]), hT⟩
  ·
    skip
    by_cases e2 : py = cy
    · subst e2
      have HBp := hide kp
      have HS0 : Hid (Below W0.heap.size W0 W0.drew) := (Below.refl _ _).drew
      have HKS := hide (fun (W : World) (hq : Below W0.heap.size W0 W) => (⟨(HBp.out.below hq HBp.out.lt).cell 0, (HBp.out.below hq HBp.out.lt).cell 1⟩ : W.cell? ⟨w.heap.size, 0, none⟩ = some (.int .i64 px) ∧ W.cell? ⟨w.heap.size, 1, none⟩ = some (.int .i64 py)))
      obtain ⟨yp0, yp1⟩ := kp.cells2
      go_region_held3 (fun w' => w'.cell? ⟨w.heap.size, 0, none⟩ = some (.int .i64 px) ∧ w'.cell? ⟨w.heap.size, 1, none⟩ = some (.int .i64 py))
          (first | (with_reducible exact HKS.out _ HS2.out) | (with_reducible exact HKS.out _ HS1.out) | (with_reducible exact HKS.out _ HS0.out))
          (first
            | (go_at_call 137; have HX := HS1.out; refine (HC2.out _).mono ?_; rintro e u2 ⟨rfl, hb2⟩; have hz2 : u1.heap.size ≤ u2.heap.size := hb2.size; have HS2 := hide (below_then HX hb2); clear HX)
            | (go_at_call 137; have HX := HS0.out; refine (HC1.out _).mono ?_; rintro e u1 ⟨rfl, hb1⟩; have hz1 : W0.heap.size ≤ u1.heap.size := hb1.size; have HS1 := hide (below_then HX hb1); clear HX))
      have hT := below_then hT0 HS2.out
      go_wp2_with fail
      go_ret
      exact ⟨ret_bool (by rw [← HV.out]; simp [e1]), hT⟩
    ·
      skip
      have HBp := hide kp
      have HS0 : Hid (Below W0.heap.size W0 W0.drew) := (Below.refl _ _).drew
      have HKS := hide (fun (W : World) (hq : Below W0.heap.size W0 W) => (⟨(HBp.out.below hq HBp.out.lt).cell 0, (HBp.out.below hq HBp.out.lt).cell 1⟩ : W.cell? ⟨w.heap.size, 0, none⟩ = some (.int .i64 px) ∧ W.cell? ⟨w.heap.size, 1, none⟩ = some (.int .i64 py)))
      obtain ⟨yp0, yp1⟩ := kp.cells2
      go_region_held3 (fun w' => w'.cell? ⟨w.heap.size, 0, none⟩ = some (.int .i64 px) ∧ w'.cell? ⟨w.heap.size, 1, none⟩ = some (.int .i64 py))
          (first | (with_reducible exact HKS.out _ HS2.out) | (with_reducible exact HKS.out _ HS1.out) | (with_reducible exact HKS.out _ HS0.out))
          (first
            | (go_at_call 137; have HX := HS1.out; refine (HC2.out _).mono ?_; rintro e u2 ⟨rfl, hb2⟩; have hz2 : u1.heap.size ≤ u2.heap.size := hb2.size; have HS2 := hide (below_then HX hb2); clear HX)
            | (go_at_call 137; have HX := HS0.out; refine (HC1.out _).mono ?_; rintro e u1 ⟨rfl, hb1⟩; have hz1 : W0.heap.size ≤ u1.heap.size := hb1.size; have HS1 := hide (below_then HX hb1); clear HX))
      have hT := below_then hT0 HS2.out
      go_wp2_with fail
      go_ret
      exact ⟨ret_bool (by rw [← HV.out]; simp [e1, e2]), hT⟩
set_option maxHeartbeats 1600000 in
theorem impl_IsValidVec (w : World) (px py : Int) (hpx : (Lit.int .i64 px).wf = true) (hpy : (Lit.int .i64 py).wf = true) :
    Calls Tryz.prog 55 #[.agg #[.int .i64 px, .int .i64 py]] w fun e w' => e = .returned (.bool (vecB px py)) ∧ Below w.heap.size w w' := by
  have HI := hide (fun (W : World) => impl_isWithin W px py 1000 hpx hpy (by omega))
  rw [inB_vec] at HI
  generalize vecB px py = V at HI ⊢
  obtain ⟨W0, hW0⟩ : ∃ W0, W0 = (w.alloc (.cells #[.int .i64 px, .int .i64 py] 39)) := ⟨_, rfl⟩
  have hT0 : Below w.heap.size w W0 := by rw [hW0]; exact below_new _ _
  have kp : Box W0 (w.heap.size) 39 #[.int .i64 px, .int .i64 py] := by rw [hW0]; exact Box.last _ _ _ rfl
  go_enter Tryz.func55, Tryz.ntmps55
  go_upto_region 1 with fail
  rw [← hW0]
  clear hW0
  obtain ⟨yp0, yp1⟩ := kp.cells2
  go_wp2_with fail
  refine (HI.out _).mono ?_
  rintro e w1 ⟨rfl, hb1⟩
  go_wp2_with fail
  go_ret
  exact ⟨rfl, below_then hT0 hb1⟩
set_option maxRecDepth 100000 in
set_option maxHeartbeats 1600000 in
theorem impl_IsValidPoint (w : World) (B : Nat) (hB : B ≤ w.heap.size) {p0 p1 p2 p3 p4 p5 : Value} {pZ : PQ} (hp : PIn w B p0 p1 p2 p3 p4 p5 pZ) :
    Calls Tryz.prog 41 #[.agg #[p0, p1, p2, p3, p4, p5]] w fun e w' => e = .returned (.bool (ratQ pZ.1 && ratQ pZ.2)) ∧ Below w.heap.size w w' := by
  obtain ⟨W0, hW0⟩ : ∃ W0, W0 = (w.alloc (.cells #[p0, p1, p2, p3, p4, p5] 49)) := ⟨_, rfl⟩
  have hT0 : Below w.heap.size w W0 := by rw [hW0]; exact below_new _ _
  have kp : Box W0 (w.heap.size) 49 #[p0, p1, p2, p3, p4, p5] := by rw [hW0]; exact Box.last _ _ _ rfl
  have hs0 : W0.heap.size = w.heap.size + 1 := by rw [hW0, alloc_size]
  have hp := hp.below (hT0.mono hB)
  go_enter Tryz.func41, Tryz.ntmps41
  go_upto_region 1 with fail
  rw [← hW0]
  clear hW0
  obtain ⟨yp0, yp1, yp2, yp3, yp4, yp5⟩ := kp.cells6
  go_wp2_with fail
  refine (impl_ratQ W0 B (by omega) hp.1).mono ?_
  rintro e w1 ⟨rfl, hb1⟩
  clear yp0 yp1 yp2 yp3 yp4 yp5
  have hs1 := hb1.size
  have hT1 := below_then hT0 hb1
  have kp := kp.below hb1 kp.lt
  have hp := hp.below (hb1.mono (by omega))
  clear hT0
  clear hb1
  by_cases hr : ratQ pZ.1 = true
  · rw [hr]
    obtain ⟨yp0, yp1, yp2, yp3, yp4, yp5⟩ := kp.cells6
    go_wp2_with fail
    refine (impl_ratQ w1 B (by omega) hp.2).mono ?_
    rintro e w2 ⟨rfl, hb2⟩
    clear yp0 yp1 yp2 yp3 yp4 yp5
    have hs2 := hb2.size
    have hT2 := below_then hT1 hb2
    have kp := kp.below hb2 kp.lt
    have hp := hp.below (hb2.mono (by omega))
    clear hT1
    clear hb2
    go_wp2_with fail
    go_ret
    exact ⟨ret_bool (a := ratQ pZ.2) (by rw [hr]; rfl), hT2⟩
  · have hr : ratQ pZ.1 = false := by simpa using hr
    rw [hr]
    go_wp2_with fail
    go_ret
    exact ⟨ret_bool (a := false) (by rw [hr]; rfl), hT1⟩
end Go.Proofs.YtocllmaikngoaaaGreatDoor

/-
  The program's points: contracts (2): Turn, PointOf, SamePoint.
-/




namespace Go.Proofs.YtocllmaikngoaaaGreatDoor
open Go.RowKit
set_option linter.unusedVariables false
def turnI (ax ay bx b_y cx cy : Int) : Int := if vecB ax ay && (vecB bx b_y && vecB cx cy) then (bx - ax) * (cy - ay) - (b_y - ay) * (cx - ax) else 0
theorem vecB_bounds {x y : Int} (h : vecB x y = true) : -1000 ≤ x ∧ x ≤ 1000 ∧ -1000 ≤ y ∧ y ≤ 1000 := by
  unfold vecB at h; simp at h; omega
theorem mul_bounds {a b : Int} (ha : -2000 ≤ a ∧ a ≤ 2000) (hb : -2000 ≤ b ∧ b ≤ 2000) : -4000000 ≤ a * b ∧ a * b ≤ 4000000 := by
  have h : (a * b).natAbs ≤ 2000 * 2000 := by
    rw [Int.natAbs_mul]
    exact Nat.mul_le_mul (by omega) (by omega)
  omega
set_option maxRecDepth 100000 in
set_option maxHeartbeats 1600000 in
theorem impl_Turn (w : World) (ax ay : Int) (hax : (Lit.int .i64 ax).wf = true) (hay : (Lit.int .i64 ay).wf = true) (bx b_y : Int) (hbx : (Lit.int .i64 bx).wf = true) (hb_y : (Lit.int .i64 b_y).wf = true) (cx cy : Int) (hcx : (Lit.int .i64 cx).wf = true) (hcy : (Lit.int .i64 cy).wf = true) :
    Calls Tryz.prog 62 #[.agg #[.int .i64 ax, .int .i64 ay], .agg #[.int .i64 bx, .int .i64 b_y], .agg #[.int .i64 cx, .int .i64 cy]] w fun e w' => e = .returned (.int .i64 (turnI ax ay bx b_y cx cy)) ∧ Below w.heap.size w w' := by
  have HCA := hide (fun (W : World) => impl_IsValidVec W ax ay hax hay)
  have HCB := hide (fun (W : World) => impl_IsValidVec W bx b_y hbx hb_y)
  have HCC := hide (fun (W : World) => impl_IsValidVec W cx cy hcx hcy)
  have HT : Hid (turnI ax ay bx b_y cx cy = if vecB ax ay && (vecB bx b_y && vecB cx cy) then (bx - ax) * (cy - ay) - (b_y - ay) * (cx - ax) else 0) := rfl
  generalize turnI ax ay bx b_y cx cy = T at HT ⊢
  obtain ⟨ma1, ma2⟩ := bounds_i64 hax
  obtain ⟨ma3, ma4⟩ := bounds_i64 hay
  obtain ⟨mb1, mb2⟩ := bounds_i64 hbx
  obtain ⟨mb3, mb4⟩ := bounds_i64 hb_y
  obtain ⟨mc1, mc2⟩ := bounds_i64 hcx
  obtain ⟨mc3, mc4⟩ := bounds_i64 hcy
  obtain ⟨W0, hW0⟩ : ∃ W0, W0 = (((w.alloc (.cells #[.int .i64 ax, .int .i64 ay] 39)).alloc (.cells #[.int .i64 bx, .int .i64 b_y] 39)).alloc (.cells #[.int .i64 cx, .int .i64 cy] 39)) := ⟨_, rfl⟩
  have hT0 : Below w.heap.size w W0 := by rw [hW0]; exact below_alloc (below_alloc (below_new _ _) _) _
  have ka : Box W0 (w.heap.size) 39 #[.int .i64 ax, .int .i64 ay] := by rw [hW0]; exact ((Box.last _ _ _ rfl).alloc _).alloc _
  have kb : Box W0 (w.heap.size + 1) 39 #[.int .i64 bx, .int .i64 b_y] := by rw [hW0]; exact (Box.last _ _ _ (alloc_size _ _).symm).alloc _
  have kc : Box W0 (w.heap.size + 2) 39 #[.int .i64 cx, .int .i64 cy] := by rw [hW0]; exact Box.last _ _ _ (by rw [alloc_size, alloc_size])
  have hs0 : W0.heap.size = w.heap.size + 3 := by rw [hW0, alloc_size, alloc_size, alloc_size]
  go_enter Tryz.func62, Tryz.ntmps62
  go_upto_region 1 with fail
  rw [← hW0]
  clear hW0
  obtain ⟨ya0, ya1⟩ := ka.cells2
  go_wp2_with fail
  refine (HCA.out _).mono ?_
  rintro e w1 ⟨rfl, hb1⟩
  clear ya0 ya1
  have hs1 := hb1.size
  have hT1 := below_then hT0 hb1
  have ka := ka.below hb1 ka.lt
  have kb := kb.below hb1 kb.lt
  have kc := kc.below hb1 kc.lt
  clear hT0
  clear hb1
  by_cases ea : vecB ax ay = true
  · rw [ea]
    obtain ⟨yb0, yb1⟩ := kb.cells2
    go_wp2_with fail
    refine (HCB.out _).mono ?_
    rintro e w2 ⟨rfl, hb2⟩
    clear yb0 yb1
    have hs2 := hb2.size
    have hT2 := below_then hT1 hb2
    have ka := ka.below hb2 ka.lt
    have kb := kb.below hb2 kb.lt
    have kc := kc.below hb2 kc.lt
    clear hT1
    clear hb2
    by_cases eb : vecB bx b_y = true
    · rw [eb]
      obtain ⟨yc0, yc1⟩ := kc.cells2
      go_wp2_with fail
      refine (HCC.out _).mono ?_
      rintro e w3 ⟨rfl, hb3⟩
      clear yc0 yc1
      have hs3 := hb3.size
      have hT3 := below_then hT2 hb3
      have ka := ka.below hb3 ka.lt
      have kb := kb.below hb3 kb.lt
      have kc := kc.below hb3 kc.lt
      clear hT2
      clear hb3
      by_cases ec : vecB cx cy = true
      · rw [ec]
        have ga := vecB_bounds ea
        have gb := vecB_bounds eb
        have gc := vecB_bounds ec
        have hm1 := mul_bounds (a := bx - ax) (b := cy - ay) (by omega) (by omega)
        have hm2 := mul_bounds (a := b_y - ay) (b := cx - ax) (by omega) (by omega)
        obtain ⟨ya0, ya1⟩ := ka.cells2
        obtain ⟨yb0, yb1⟩ := kb.cells2
        obtain ⟨yc0, yc1⟩ := kc.cells2
        go_wp2_with fail
        go_ret
        exact ⟨ret_int (by rw [HT.out, ea, eb, ec]; rfl), hT3⟩
      · have ec : vecB cx cy = false := by simpa using ec
        rw [ec]
        go_wp2_with fail
        go_ret
        exact ⟨ret_int (a := 0) (by rw [HT.out, ec]; simp), hT3⟩
    · have eb : vecB bx b_y = false := by simpa using eb
      rw [eb]
      go_wp2_with fail
      go_ret
      exact ⟨ret_int (a := 0) (by rw [HT.out, eb]; simp), hT2⟩
  · have ea : vecB ax ay = false := by simpa using ea
    rw [ea]
    go_wp2_with fail
    go_ret
    exact ⟨ret_int (a := 0) (by rw [HT.out, ea]; simp), hT1⟩
set_option maxRecDepth 100000 in
set_option maxHeartbeats 1600000 in
theorem impl_PointOf (w : World) (px py : Int) (hpx : (Lit.int .i64 px).wf = true) (hpy : (Lit.int .i64 py).wf = true) :
    Calls Tryz.prog 26 #[.agg #[.int .i64 px, .int .i64 py]] w fun e w' => PRes 3 w w' e (vecP px py) := by
  obtain ⟨W0, hW0⟩ : ∃ W0, W0 = ((w.alloc (.cells #[.int .i64 px, .int .i64 py] 39)).alloc (.cells #[.bool false, .slice none 0 0, .slice none 0 0, .bool false, .slice none 0 0, .slice none 0 0] 49)) := ⟨_, rfl⟩
  have hT0 : Below w.heap.size w W0 := by rw [hW0]; exact below_alloc (below_new _ _) _
  have kp : Box W0 (w.heap.size) 39 #[.int .i64 px, .int .i64 py] := by rw [hW0]; exact (Box.last _ _ _ rfl).alloc _
  have kr : Box W0 (w.heap.size + 1) 49 #[.bool false, .slice none 0 0, .slice none 0 0, .bool false, .slice none 0 0, .slice none 0 0] := by rw [hW0]; exact Box.last _ _ _ (alloc_size _ _).symm
  have hs0 : W0.heap.size = w.heap.size + 2 := by rw [hW0, alloc_size, alloc_size]
  go_enter Tryz.func26, Tryz.ntmps26
  go_upto_region 1 with fail
  rw [← hW0]
  clear hW0
  have HC1 := hide (fun (W : World) => impl_intQ W px hpx)
  have HC2 := hide (fun (W : World) => impl_intQ W py hpy)
  have HBp := hide kp
  have HS0 : Hid (Below W0.heap.size W0 W0.drew) := (Below.refl _ _).drew
  have HKS := hide (fun (W : World) (hq : Below W0.heap.size W0 W) => (⟨(HBp.out.below hq HBp.out.lt).cell 0, (HBp.out.below hq HBp.out.lt).cell 1⟩ : W.cell? ⟨w.heap.size, 0, none⟩ = some (.int .i64 px) ∧ W.cell? ⟨w.heap.size, 1, none⟩ = some (.int .i64 py)))
  have HRr := hide kr
  have HKT0 := hide (fun (W : World) (hq : Below W0.heap.size W0 W) (x0 x1 x2 x3 x4 x5 : Value) => (⟨(((((((HBp.out.below hq HBp.out.lt).setv (show w.heap.size ≠ w.heap.size + 1 by omega) 0 x0).setv (show w.heap.size ≠ w.heap.size + 1 by omega) 1 x1).setv (show w.heap.size ≠ w.heap.size + 1 by omega) 2 x2).setv (show w.heap.size ≠ w.heap.size + 1 by omega) 3 x3).setv (show w.heap.size ≠ w.heap.size + 1 by omega) 4 x4).setv (show w.heap.size ≠ w.heap.size + 1 by omega) 5 x5).cell 0, (((((((HBp.out.below hq HBp.out.lt).setv (show w.heap.size ≠ w.heap.size + 1 by omega) 0 x0).setv (show w.heap.size ≠ w.heap.size + 1 by omega) 1 x1).setv (show w.heap.size ≠ w.heap.size + 1 by omega) 2 x2).setv (show w.heap.size ≠ w.heap.size + 1 by omega) 3 x3).setv (show w.heap.size ≠ w.heap.size + 1 by omega) 4 x4).setv (show w.heap.size ≠ w.heap.size + 1 by omega) 5 x5).cell 1⟩ : ((((((W.setCell ⟨w.heap.size + 1, 0, none⟩ x0).setCell ⟨w.heap.size + 1, 1, none⟩ x1).setCell ⟨w.heap.size + 1, 2, none⟩ x2).setCell ⟨w.heap.size + 1, 3, none⟩ x3).setCell ⟨w.heap.size + 1, 4, none⟩ x4).setCell ⟨w.heap.size + 1, 5, none⟩ x5).cell? ⟨w.heap.size, 0, none⟩ = some (.int .i64 px) ∧ ((((((W.setCell ⟨w.heap.size + 1, 0, none⟩ x0).setCell ⟨w.heap.size + 1, 1, none⟩ x1).setCell ⟨w.heap.size + 1, 2, none⟩ x2).setCell ⟨w.heap.size + 1, 3, none⟩ x3).setCell ⟨w.heap.size + 1, 4, none⟩ x4).setCell ⟨w.heap.size + 1, 5, none⟩ x5).cell? ⟨w.heap.size, 1, none⟩ = some (.int .i64 py)))
  obtain ⟨yp0, yp1⟩ := kp.cells2
  go_region_held3 (fun w' => w'.cell? ⟨w.heap.size, 0, none⟩ = some (.int .i64 px) ∧ w'.cell? ⟨w.heap.size, 1, none⟩ = some (.int .i64 py))
      (first | (with_reducible exact HKT0.out _ HS2.out _ _ _ _ _ _) | (with_reducible exact HKS.out _ HS2.out) | (with_reducible exact HKS.out _ HS1.out) | (with_reducible exact HKS.out _ HS0.out))
      (first
        | (go_at_call 66; have HX := HS1.out; refine (HC2.out _).mono ?_; rintro e u2 ⟨y0, y1, y2, rfl, oy, hb2⟩; obtain ⟨yb, yA, yn, yc, yD, ym, yk, rfl, rfl, rfl⟩ := oy.cut; have oy : QOwn u2 u1.heap.size u2.heap.size 3 (.bool yb) (.slice yA yn yc) (.slice yD ym yk) (intQ py) := oy; have qy := oy.in_ (intQ_fit py) (Nat.le_refl _); have qx := qx.up hb2; have ox := ox.below hb2 (by omega); have hz2 : u1.heap.size ≤ u2.heap.size := hb2.size; have HS2 := hide (below_then HX hb2); clear HX; have hTT := below_then hT0 HS2.out; have kR := HRr.out.below HS2.out HRr.out.lt; obtain ⟨⟨tr0, tr1, tr2, tr3, tr4, tr5⟩, fr0, fr1, fr2, fr3, fr4, fr5⟩ := kR.facts6)
        | (go_at_call 66; have HX := HS0.out; refine (HC1.out _).mono ?_; rintro e u1 ⟨x0, x1, x2, rfl, ox, hb1⟩; obtain ⟨xb, xA, xn, xc, xD, xm, xk, rfl, rfl, rfl⟩ := ox.cut; have ox : QOwn u1 W0.heap.size u1.heap.size 3 (.bool xb) (.slice xA xn xc) (.slice xD xm xk) (intQ px) := ox; have qx := ox.in_ (intQ_fit px) (Nat.le_refl _); have hz1 : W0.heap.size ≤ u1.heap.size := hb1.size; have HS1 := hide (below_then HX hb1); clear HX))
  have OP : POwn u2 W0.heap.size u2.heap.size 3 (.bool xb) (.slice xA xn xc) (.slice xD xm xk) (.bool yb) (.slice yA yn yc) (.slice yD ym yk) (vecP px py) := ⟨_, _, _, _, ox, oy, by omega, by omega, by omega, by omega, .inl (by omega)⟩
  have HO := hide (ret_pt kR OP hTT (by omega) (by omega) (Nat.le_refl _) (.inl (by omega)))
  clear OP kR ox oy qx qy hTT hb1 hb2
  go_wp2_with fail
  refine bodyPost_ret (results_cell_row rfl _ _ (w.heap.size + 1) _ #[.bool xb, .slice xA xn xc, .slice xD xm xk, .bool yb, .slice yA yn yc, .slice yD ym yk] (0, 0) _ rfl HO.out.1 Tryz.underlying49 rfl Tryz.sizePoint) rfl ?_
  exact ⟨_, _, _, _, _, _, rfl, HO.out.2.1, HO.out.2.2⟩
end Go.Proofs.YtocllmaikngoaaaGreatDoor
