/-
  The texts PtI, put together; each has its own heading below. No condition of ours.
-/
import Derived.Test.YtdcceppednngjabPT
import Derived.Test.YtdcceppednngjabLB
import Derived.Test.YtdcceppednngjabPtB
import Derived.Deep.RegionHeld3
import Derived.Deep.CutRange
import Derived.Sort.AtCall
import Derived.Laws.StructEq
/-
  The program's points: contracts (1): clamped, IsValidVec, IsValidPoint, Turn, PointOf, SamePoint.
-/







namespace Go.Proofs.Ytdcceppednngjab
open Go.RowKit
set_option linter.unusedVariables false
def clampI (m n : Int) : Int := if n < -m then -m else if m < n then m else n
theorem impl_clamped (w : World) (n m : Int) (hn : (Lit.int .i64 n).wf = true) (hm : 0 ≤ m ∧ m ≤ 1000000) :
    Calls Try.prog 64 #[.int .i64 n, .int .i64 m] w fun e w' => e = .returned (.int .i64 (clampI m n)) ∧ Below w.heap.size w w' := by
  obtain ⟨h1, h2⟩ := bounds_i64 hn
  obtain ⟨h3, h4⟩ := hm
  go_enter Try.func64, Try.ntmps64
  go_wp2_with fail
  all_goals
    go_ret
    refine ⟨ret_int ?_, Below.refl _ _⟩
    unfold clampI
    repeat' split
    all_goals omega
/-- both coordinates from -m to m -/
def inB (m x y : Int) : Bool := decide (-m ≤ x ∧ x ≤ m) && decide (-m ≤ y ∧ y ≤ m)
theorem inB_vec (x y : Int) : inB 1000 x y = vecB x y := rfl
theorem inB_clamp (m x y : Int) (hm : 0 ≤ m) : ((x == clampI m x) && (y == clampI m y)) = inB m x y := by
  have h : ∀ n : Int, (n == clampI m n) = decide (-m ≤ n ∧ n ≤ m) := fun n => by
    rw [Bool.eq_iff_iff]; simp only [beq_iff_eq, decide_eq_true_eq]; unfold clampI
    split
    · omega
    · split <;> omega
  rw [h, h]; rfl
set_option maxRecDepth 100000 in
set_option maxHeartbeats 1600000 in
theorem impl_isWithin (w : World) (px py m : Int) (hpx : (Lit.int .i64 px).wf = true) (hpy : (Lit.int .i64 py).wf = true) (hm : 0 ≤ m ∧ m ≤ 1000000) :
    Calls Try.prog 47 #[.agg #[.int .i64 px, .int .i64 py], .int .i64 m] w fun e w' => e = .returned (.bool (inB m px py)) ∧ Below w.heap.size w w' := by
  have HC1 := hide (fun (W : World) => impl_clamped W px m hpx hm)
  have HC2 := hide (fun (W : World) => impl_clamped W py m hpy hm)
  have HV := hide (inB_clamp m px py hm.1)
  obtain ⟨hp1, hp2⟩ := bounds_i64 hpx
  obtain ⟨hp3, hp4⟩ := bounds_i64 hpy
  generalize inB m px py = V at HV ⊢
  generalize clampI m px = cx at HC1 HV
  generalize clampI m py = cy at HC2 HV
  obtain ⟨W0, hW0⟩ : ∃ W0, W0 = (w.alloc (.cells #[.int .i64 px, .int .i64 py] 24)) := ⟨_, rfl⟩
  have hT0 : Below w.heap.size w W0 := by rw [hW0]; exact below_new _ _
  have kp : Box W0 (w.heap.size) 24 #[.int .i64 px, .int .i64 py] := by rw [hW0]; exact Box.last _ _ _ rfl
  have hs0 : W0.heap.size = w.heap.size + 1 := by rw [hW0, alloc_size]
  go_enter Try.func47, Try.ntmps47
  go_upto_region 1 with fail
  rw [← hW0]
  clear hW0
  by_cases e1 : px = cx
  · subst e1
    by_cases e2 : py = cy
    · subst e2
      have HBp := hide kp
      have HS0 : Hid (Below W0.heap.size W0 W0.drew) := (Below.refl _ _).drew
      have HKS := hide (fun (W : World) (hq : Below W0.heap.size W0 W) => (⟨(HBp.out.below hq HBp.out.lt).cell 0, (HBp.out.below hq HBp.out.lt).cell 1⟩ : W.cell? ⟨w.heap.size, 0, none⟩ = some (.int .i64 px) ∧ W.cell? ⟨w.heap.size, 1, none⟩ = some (.int .i64 py)))
      obtain ⟨yp0, yp1⟩ := kp.cells2
      go_region_held3 (fun w' => w'.cell? ⟨w.heap.size, 0, none⟩ = some (.int .i64 px) ∧ w'.cell? ⟨w.heap.size, 1, none⟩ = some (.int .i64 py))
          (first | (with_reducible exact HKS.out _ HS2.out) | (with_reducible exact HKS.out _ HS1.out) | (with_reducible exact HKS.out _ HS0.out))
          (first
            | (go_at_call 64; have HX := HS1.out; refine (HC2.out _).mono ?_; rintro e u2 ⟨rfl, hb2⟩; have hz2 : u1.heap.size ≤ u2.heap.size := hb2.size; have HS2 := hide (below_then HX hb2); clear HX)
            | (go_at_call 64; have HX := HS0.out; refine (HC1.out _).mono ?_; rintro e u1 ⟨rfl, hb1⟩; have hz1 : W0.heap.size ≤ u1.heap.size := hb1.size; have HS1 := hide (below_then HX hb1); clear HX))
      have hT := below_then hT0 HS2.out
      go_wp2_with fail
      go_ret
      exact ⟨ret_bool (by rw [← HV.out]; simp), hT⟩
    ·
      skip
      have HBp := hide kp
      have HS0 : Hid (Below W0.heap.size W0 W0.drew) := (Below.refl _ _).drew
      have HKS := hide (fun (W : World) (hq : Below W0.heap.size W0 W) => (⟨(HBp.out.below hq HBp.out.lt).cell 0, (HBp.out.below hq HBp.out.lt).cell 1⟩ : W.cell? ⟨w.heap.size, 0, none⟩ = some (.int .i64 px) ∧ W.cell? ⟨w.heap.size, 1, none⟩ = some (.int .i64 py)))
      obtain ⟨yp0, yp1⟩ := kp.cells2
      go_region_held3 (fun w' => w'.cell? ⟨w.heap.size, 0, none⟩ = some (.int .i64 px) ∧ w'.cell? ⟨w.heap.size, 1, none⟩ = some (.int .i64 py))
          (first | (with_reducible exact HKS.out _ HS2.out) | (with_reducible exact HKS.out _ HS1.out) | (with_reducible exact HKS.out _ HS0.out))
          (first
            | (go_at_call 64; have HX := HS1.out; refine (HC2.out _).mono ?_; rintro e u2 ⟨rfl, hb2⟩; have hz2 : u1.heap.size ≤ u2.heap.size := hb2.size; have HS2 := hide (below_then HX hb2); clear HX)
            | (go_at_call 64; have HX := HS0.out; refine (HC1.out _).mono ?_; rintro e u1 ⟨rfl, hb1⟩; have hz1 : W0.heap.size ≤ u1.heap.size := hb1.size; have HS1 := hide (below_then HX hb1); clear HX))
      have hT := below_then hT0 HS2.out
      go_wp2_with fail
      go_ret
      exact ⟨ret_bool (by rw [← HV.out]; simp [e2]), hT⟩
  ·
    skip
    by_cases e2 : py = cy
    · subst e2
      have HBp := hide kp
      have HS0 : Hid (Below W0.heap.size W0 W0.drew) := (Below.refl _ _).drew
      have HKS := hide (fun (W : World) (hq : Below W0.heap.size W0 W) => (⟨(HBp.out.below hq HBp.out.lt).cell 0, (HBp.out.below hq HBp.out.lt).cell 1⟩ : W.cell? ⟨w.heap.size, 0, none⟩ = some (.int .i64 px) ∧ W.cell? ⟨w.heap.size, 1, none⟩ = some (.int .i64 py)))
      obtain ⟨yp0, yp1⟩ := kp.cells2
      go_region_held3 (fun w' => w'.cell? ⟨w.heap.size, 0, none⟩ = some (.int .i64 px) ∧ w'.cell? ⟨w.heap.size, 1, none⟩ = some (.int .i64 py))
          (first | (with_reducible exact HKS.out _ HS2.out) | (with_reducible exact HKS.out _ HS1.out) | (with_reducible exact HKS.out _ HS0.out))
          (first
            | (go_at_call 64; have HX := HS1.out; refine (HC2.out _).mono ?_; rintro e u2 ⟨rfl, hb2⟩; have hz2 : u1.heap.size ≤ u2.heap.size := hb2.size; have HS2 := hide (below_then HX hb2); clear HX)
            | (go_at_call 64; have HX := HS0.out; refine (HC1.out _).mono ?_; rintro e u1 ⟨rfl, hb1⟩; have hz1 : W0.heap.size ≤ u1.heap.size := hb1.size; have HS1 := hide (below_then HX hb1); clear HX))
      have hT := below_then hT0 HS2.out
      go_wp2_with fail
      go_ret
      exact ⟨ret_bool (by rw [← HV.out]; simp [e1]), hT⟩
    ·
      skip
      have HBp := hide kp
      have HS0 : Hid (Below W0.heap.size W0 W0.drew) := (Below.refl _ _).drew
      have HKS := hide (fun (W : World) (hq : Below W0.heap.size W0 W) => (⟨(HBp.out.below hq HBp.out.lt).cell 0, (HBp.out.below hq HBp.out.lt).cell 1⟩ : W.cell? ⟨w.heap.size, 0, none⟩ = some (.int .i64 px) ∧ W.cell? ⟨w.heap.size, 1, none⟩ = some (.int .i64 py)))
      obtain ⟨yp0, yp1⟩ := kp.cells2
      go_region_held3 (fun w' => w'.cell? ⟨w.heap.size, 0, none⟩ = some (.int .i64 px) ∧ w'.cell? ⟨w.heap.size, 1, none⟩ = some (.int .i64 py))
          (first | (with_reducible exact HKS.out _ HS2.out) | (with_reducible exact HKS.out _ HS1.out) | (with_reducible exact HKS.out _ HS0.out))
          (first
            | (go_at_call 64; have HX := HS1.out; refine (HC2.out _).mono ?_; rintro e u2 ⟨rfl, hb2⟩; have hz2 : u1.heap.size ≤ u2.heap.size := hb2.size; have HS2 := hide (below_then HX hb2); clear HX)
            | (go_at_call 64; have HX := HS0.out; refine (HC1.out _).mono ?_; rintro e u1 ⟨rfl, hb1⟩; have hz1 : W0.heap.size ≤ u1.heap.size := hb1.size; have HS1 := hide (below_then HX hb1); clear HX))
      have hT := below_then hT0 HS2.out
      go_wp2_with fail
      go_ret
      exact ⟨ret_bool (by rw [← HV.out]; simp [e1, e2]), hT⟩
set_option maxHeartbeats 1600000 in
theorem impl_IsValidVec (w : World) (px py : Int) (hpx : (Lit.int .i64 px).wf = true) (hpy : (Lit.int .i64 py).wf = true) :
    Calls Try.prog 24 #[.agg #[.int .i64 px, .int .i64 py]] w fun e w' => e = .returned (.bool (vecB px py)) ∧ Below w.heap.size w w' := by
  have HI := hide (fun (W : World) => impl_isWithin W px py 1000 hpx hpy (by omega))
  rw [inB_vec] at HI
  generalize vecB px py = V at HI ⊢
  obtain ⟨W0, hW0⟩ : ∃ W0, W0 = (w.alloc (.cells #[.int .i64 px, .int .i64 py] 24)) := ⟨_, rfl⟩
  have hT0 : Below w.heap.size w W0 := by rw [hW0]; exact below_new _ _
  have kp : Box W0 (w.heap.size) 24 #[.int .i64 px, .int .i64 py] := by rw [hW0]; exact Box.last _ _ _ rfl
  go_enter Try.func24, Try.ntmps24
  go_upto_region 1 with fail
  rw [← hW0]
  clear hW0
  obtain ⟨yp0, yp1⟩ := kp.cells2
  go_wp2_with fail
  refine (HI.out _).mono ?_
  rintro e w1 ⟨rfl, hb1⟩
  go_wp2_with fail
  go_ret
  exact ⟨rfl, below_then hT0 hb1⟩
end Go.Proofs.Ytdcceppednngjab
