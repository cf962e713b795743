/-
  The program's points: contracts (1): clamped, IsValidVec, IsValidPoint, Turn, PointOf, SamePoint.
-/
import Derived.Test.YtdagomikjblgiaaPtM
import Derived.Test.YtdagomikjblgiaaPB
import Derived.Test.YtdagomikjblgiaaIA
import Derived.Deep.RegionHeld3
import Derived.Test.YtdagomikjblgiaaIC
import Derived.Deep.CutRange
import Derived.Test.YtdagomikjblgiaaNatI8
import Derived.Test.YtdagomikjblgiaaBigI5
import Derived.Sort.AtCall
import Derived.Test.YtdagomikjblgiaaMem
import Derived.Test.YtdagomikjblgiaaRatR4
import Derived.Test.YtdagomikjblgiaaBigR
import Derived.Test.YtdagomikjblgiaaRA
import Derived.Test.YtdagomikjblgiaaPtL
import Derived.Test.YtdagomikjblgiaaPtB
import Derived.Laws.StructEq
namespace Go.Proofs.Ytdagomikjblgiaa
open Go.RowKit
set_option linter.unusedVariables false
def clampI (n : Int) : Int := if n < -1000 then -1000 else if 1000 < n then 1000 else n
theorem impl_clamped (w : World) (n : Int) (hn : (Lit.int .i64 n).wf = true) :
    Calls Try.prog 92 #[.int .i64 n] w fun e w' => e = .returned (.int .i64 (clampI n)) ∧ Below w.heap.size w w' := by
  obtain ⟨h1, h2⟩ := bounds_i64 hn
  go_enter Try.func92, Try.ntmps92
  go_wp2_with fail
  all_goals
    go_ret
    refine ⟨ret_int ?_, Below.refl _ _⟩
    unfold clampI
    repeat' split
    all_goals omega
theorem vecB_clamp (x y : Int) : ((x == clampI x) && (y == clampI y)) = vecB x y := by
  have h : ∀ n : Int, (n == clampI n) = decide (-1000 ≤ n ∧ n ≤ 1000) := fun n => by
    rw [Bool.eq_iff_iff]; simp only [beq_iff_eq, decide_eq_true_eq]; unfold clampI
    split
    · omega
    · split <;> omega
  rw [h, h]; rfl
set_option maxRecDepth 100000 in
set_option maxHeartbeats 1600000 in
theorem impl_IsValidVec (w : World) (px py : Int) (hpx : (Lit.int .i64 px).wf = true) (hpy : (Lit.int .i64 py).wf = true) :
    Calls Try.prog 74 #[.agg #[.int .i64 px, .int .i64 py]] w fun e w' => e = .returned (.bool (vecB px py)) ∧ Below w.heap.size w w' := by
  have HC1 := hide (fun (W : World) => impl_clamped W px hpx)
  have HC2 := hide (fun (W : World) => impl_clamped W py hpy)
  have HV := hide (vecB_clamp px py)
  obtain ⟨hp1, hp2⟩ := bounds_i64 hpx
  obtain ⟨hp3, hp4⟩ := bounds_i64 hpy
  generalize vecB px py = V at HV ⊢
  generalize clampI px = cx at HC1 HV
  generalize clampI py = cy at HC2 HV
  obtain ⟨W0, hW0⟩ : ∃ W0, W0 = (w.alloc (.cells #[.int .i64 px, .int .i64 py] 32)) := ⟨_, rfl⟩
  have hT0 : Below w.heap.size w W0 := by rw [hW0]; exact below_new _ _
  have kp : Box W0 (w.heap.size) 32 #[.int .i64 px, .int .i64 py] := by rw [hW0]; exact Box.last _ _ _ rfl
  have hs0 : W0.heap.size = w.heap.size + 1 := by rw [hW0, alloc_size]
  go_enter Try.func74, Try.ntmps74
  go_upto_region 1 with fail
  rw [← hW0]
  clear hW0
  by_cases e1 : px = cx
  · subst e1
    by_cases e2 : py = cy
    · subst e2
      have HBp := hide kp
      have HS0 : Hid (Below W0.heap.size W0 W0.drew) := (Below.refl _ _).drew
      have HKS := hide (fun (W : World) (hq : Below W0.heap.size W0 W) => (⟨(HBp.out.below hq HBp.out.lt).cell 0, (HBp.out.below hq HBp.out.lt).cell 1⟩ : W.cell? ⟨w.heap.size, 0, none⟩ = some (.int .i64 px) ∧ W.cell? ⟨w.heap.size, 1, none⟩ = some (.int .i64 py)))
      obtain ⟨yp0, yp1⟩ := kp.cells2
      go_region_held3 (fun w' => w'.cell? ⟨w.heap.size, 0, none⟩ = some (.int .i64 px) ∧ w'.cell? ⟨w.heap.size, 1, none⟩ = some (.int .i64 py))
          (first | (with_reducible exact HKS.out _ HS2.out) | (with_reducible exact HKS.out _ HS1.out) | (with_reducible exact HKS.out _ HS0.out))
          (first
            | (go_at_call 92; have HX := HS1.out; refine (HC2.out _).mono ?_; rintro e u2 ⟨rfl, hb2⟩; have hz2 : u1.heap.size ≤ u2.heap.size := hb2.size; have HS2 := hide (below_then HX hb2); clear HX)
            | (go_at_call 92; have HX := HS0.out; refine (HC1.out _).mono ?_; rintro e u1 ⟨rfl, hb1⟩; have hz1 : W0.heap.size ≤ u1.heap.size := hb1.size; have HS1 := hide (below_then HX hb1); clear HX))
      have hT := below_then hT0 HS2.out
      go_wp2_with fail
      go_ret
      exact ⟨ret_bool (by rw [← HV.out]; simp), hT⟩
    ·
      skip
      have HBp := hide kp
      have HS0 : Hid (Below W0.heap.size W0 W0.drew) := (Below.refl _ _).drew
      have HKS := hide (fun (W : World) (hq : Below W0.heap.size W0 W) => (⟨(HBp.out.below hq HBp.out.lt).cell 0, (HBp.out.below hq HBp.out.lt).cell 1⟩ : W.cell? ⟨w.heap.size, 0, none⟩ = some (.int .i64 px) ∧ W.cell? ⟨w.heap.size, 1, none⟩ = some (.int .i64 py)))
      obtain ⟨yp0, yp1⟩ := kp.cells2
      go_region_held3 (fun w' => w'.cell? ⟨w.heap.size, 0, none⟩ = some (.int .i64 px) ∧ w'.cell? ⟨w.heap.size, 1, none⟩ = some (.int .i64 py))
          (first | (with_reducible exact HKS.out _ HS2.out) | (with_reducible exact HKS.out _ HS1.out) | (with_reducible exact HKS.out _ HS0.out))
          (first
            | (go_at_call 92; have HX := HS1.out; refine (HC2.out _).mono ?_; rintro e u2 ⟨rfl, hb2⟩; have hz2 : u1.heap.size ≤ u2.heap.size := hb2.size; have HS2 := hide (below_then HX hb2); clear HX)
            | (go_at_call 92; have HX := HS0.out; refine (HC1.out _).mono ?_; rintro e u1 ⟨rfl, hb1⟩; have hz1 : W0.heap.size ≤ u1.heap.size := hb1.size; have HS1 := hide (below_then HX hb1); clear HX))
      have hT := below_then hT0 HS2.out
      go_wp2_with fail
      go_ret
      exact ⟨ret_bool (by rw [← HV.out]; simp [e2]), hT⟩
  ·
    skip
    by_cases e2 : py = cy
    · subst e2
      have HBp := hide kp
      have HS0 : Hid (Below W0.heap.size W0 W0.drew) := (Below.refl _ _).drew
      have HKS := hide (fun (W : World) (hq : Below W0.heap.size W0 W) => (⟨(HBp.out.below hq HBp.out.lt).cell 0, (HBp.out.below hq HBp.out.lt).cell 1⟩ : W.cell? ⟨w.heap.size, 0, none⟩ = some (.int .i64 px) ∧ W.cell? ⟨w.heap.size, 1, none⟩ = some (.int .i64 py)))
      obtain ⟨yp0, yp1⟩ := kp.cells2
      go_region_held3 (fun w' => w'.cell? ⟨w.heap.size, 0, none⟩ = some (.int .i64 px) ∧ w'.cell? ⟨w.heap.size, 1, none⟩ = some (.int .i64 py))
          (first | (with_reducible exact HKS.out _ HS2.out) | (with_reducible exact HKS.out _ HS1.out) | (with_reducible exact HKS.out _ HS0.out))
          (first
            | (go_at_call 92; have HX := HS1.out; refine (HC2.out _).mono ?_; rintro e u2 ⟨rfl, hb2⟩; have hz2 : u1.heap.size ≤ u2.heap.size := hb2.size; have HS2 := hide (below_then HX hb2); clear HX)
            | (go_at_call 92; have HX := HS0.out; refine (HC1.out _).mono ?_; rintro e u1 ⟨rfl, hb1⟩; have hz1 : W0.heap.size ≤ u1.heap.size := hb1.size; have HS1 := hide (below_then HX hb1); clear HX))
      have hT := below_then hT0 HS2.out
      go_wp2_with fail
      go_ret
      exact ⟨ret_bool (by rw [← HV.out]; simp [e1]), hT⟩
    ·
      skip
      have HBp := hide kp
      have HS0 : Hid (Below W0.heap.size W0 W0.drew) := (Below.refl _ _).drew
      have HKS := hide (fun (W : World) (hq : Below W0.heap.size W0 W) => (⟨(HBp.out.below hq HBp.out.lt).cell 0, (HBp.out.below hq HBp.out.lt).cell 1⟩ : W.cell? ⟨w.heap.size, 0, none⟩ = some (.int .i64 px) ∧ W.cell? ⟨w.heap.size, 1, none⟩ = some (.int .i64 py)))
      obtain ⟨yp0, yp1⟩ := kp.cells2
      go_region_held3 (fun w' => w'.cell? ⟨w.heap.size, 0, none⟩ = some (.int .i64 px) ∧ w'.cell? ⟨w.heap.size, 1, none⟩ = some (.int .i64 py))
          (first | (with_reducible exact HKS.out _ HS2.out) | (with_reducible exact HKS.out _ HS1.out) | (with_reducible exact HKS.out _ HS0.out))
          (first
            | (go_at_call 92; have HX := HS1.out; refine (HC2.out _).mono ?_; rintro e u2 ⟨rfl, hb2⟩; have hz2 : u1.heap.size ≤ u2.heap.size := hb2.size; have HS2 := hide (below_then HX hb2); clear HX)
            | (go_at_call 92; have HX := HS0.out; refine (HC1.out _).mono ?_; rintro e u1 ⟨rfl, hb1⟩; have hz1 : W0.heap.size ≤ u1.heap.size := hb1.size; have HS1 := hide (below_then HX hb1); clear HX))
      have hT := below_then hT0 HS2.out
      go_wp2_with fail
      go_ret
      exact ⟨ret_bool (by rw [← HV.out]; simp [e1, e2]), hT⟩
end Go.Proofs.Ytdagomikjblgiaa
