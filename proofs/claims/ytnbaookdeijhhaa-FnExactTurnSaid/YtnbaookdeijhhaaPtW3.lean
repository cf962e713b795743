/-
  The walk of the exact law of Turn.
-/
import Derived.Test.YtnbaookdeijhhaaPtS
import Derived.Test.YtnbaookdeijhhaaPtR
import Derived.Deep.RegionHeld3
import Derived.Deep.CutRange
import Derived.Sort.AtCall
namespace Go.Proofs.Ytnbaookdeijhhaa
open Go.RowKit
set_option linter.unusedVariables false
set_option maxRecDepth 100000 in
set_option maxHeartbeats 16000000 in
theorem FnExactTurn_walk (w : World) (ax ay : Int) (hax : (Lit.int .i64 ax).wf = true) (hay : (Lit.int .i64 ay).wf = true) (cx cy : Int) (hcx : (Lit.int .i64 cx).wf = true) (hcy : (Lit.int .i64 cy).wf = true) (dx dy : Int) (hdx : (Lit.int .i64 dx).wf = true) (hdy : (Lit.int .i64 dy).wf = true) :
    Calls Try.prog 5 #[.agg #[.int .i64 ax, .int .i64 ay], .agg #[.int .i64 cx, .int .i64 cy], .agg #[.int .i64 dx, .int .i64 dy]] w fun e w' => e = .returned (.bool true) ∧ Below w.heap.size w w' := by
  obtain ⟨W0, hW0⟩ : ∃ W0, W0 = (((w.alloc (.cells #[.int .i64 ax, .int .i64 ay] 23)).alloc (.cells #[.int .i64 cx, .int .i64 cy] 23)).alloc (.cells #[.int .i64 dx, .int .i64 dy] 23)) := ⟨_, rfl⟩
  have hT0 : Below w.heap.size w W0 := by rw [hW0]; exact below_alloc (below_alloc (below_new _ _) _) _
  have ka : Box W0 (w.heap.size) 23 #[.int .i64 ax, .int .i64 ay] := by rw [hW0]; exact ((Box.last _ _ _ rfl).alloc _).alloc _
  have kc : Box W0 (w.heap.size + 1) 23 #[.int .i64 cx, .int .i64 cy] := by rw [hW0]; exact (Box.last _ _ _ (alloc_size _ _).symm).alloc _
  have kd : Box W0 (w.heap.size + 2) 23 #[.int .i64 dx, .int .i64 dy] := by rw [hW0]; exact Box.last _ _ _ (by rw [alloc_size, alloc_size])
  have hs0 : W0.heap.size = w.heap.size + 3 := by rw [hW0, alloc_size, alloc_size, alloc_size]
  go_enter Try.func5, Try.ntmps5
  go_upto_region 1 with fail
  rw [← hW0]
  clear hW0
  go_upto_region 1 with fail
  have HCa := hide (fun (W : World) => toVec_any W ax ay hax hay)
  have HCc := hide (fun (W : World) => toVec_any W cx cy hcx hcy)
  have HCd := hide (fun (W : World) => toVec_any W dx dy hdx hdy)
  have HBa := hide ka
  have HBc := hide kc
  have HBd := hide kd
  have HS0 : Hid (Below W0.heap.size W0 W0.drew) := (Below.refl _ _).drew
  have HKS := hide (fun (W : World) (hq : Below W0.heap.size W0 W) => (⟨(HBa.out.below hq HBa.out.lt).cell 0, (HBa.out.below hq HBa.out.lt).cell 1, (HBc.out.below hq HBc.out.lt).cell 0, (HBc.out.below hq HBc.out.lt).cell 1, (HBd.out.below hq HBd.out.lt).cell 0, (HBd.out.below hq HBd.out.lt).cell 1⟩ : W.cell? ⟨w.heap.size, 0, none⟩ = some (.int .i64 ax) ∧ W.cell? ⟨w.heap.size, 1, none⟩ = some (.int .i64 ay) ∧ W.cell? ⟨w.heap.size + 1, 0, none⟩ = some (.int .i64 cx) ∧ W.cell? ⟨w.heap.size + 1, 1, none⟩ = some (.int .i64 cy) ∧ W.cell? ⟨w.heap.size + 2, 0, none⟩ = some (.int .i64 dx) ∧ W.cell? ⟨w.heap.size + 2, 1, none⟩ = some (.int .i64 dy)))
  obtain ⟨ya0, ya1⟩ := ka.cells2
  obtain ⟨yc0, yc1⟩ := kc.cells2
  obtain ⟨yd0, yd1⟩ := kd.cells2
  go_region_held3 (fun w' => w'.cell? ⟨w.heap.size, 0, none⟩ = some (.int .i64 ax) ∧ w'.cell? ⟨w.heap.size, 1, none⟩ = some (.int .i64 ay) ∧ w'.cell? ⟨w.heap.size + 1, 0, none⟩ = some (.int .i64 cx) ∧ w'.cell? ⟨w.heap.size + 1, 1, none⟩ = some (.int .i64 cy) ∧ w'.cell? ⟨w.heap.size + 2, 0, none⟩ = some (.int .i64 dx) ∧ w'.cell? ⟨w.heap.size + 2, 1, none⟩ = some (.int .i64 dy))
      (first | (with_reducible exact HKS.out _ HS4.out) | (with_reducible exact HKS.out _ HS3.out) | (with_reducible exact HKS.out _ HS2.out) | (with_reducible exact HKS.out _ HS1.out) | (with_reducible exact HKS.out _ HS0.out))
      (first
        | (go_at_call 19; have HX := HS3.out; refine (spec_Turn u3 ax ay hax hay cx cy hcx hcy dx dy hdx hdy).mono ?_; rintro e u4 ⟨rfl, hb4⟩; have hz4 : u3.heap.size ≤ u4.heap.size := hb4.size; have HS4 := hide (below_then HX hb4); clear HX)
        | (go_at_call 12; have HX := HS2.out; refine (HCd.out _).mono ?_; rintro e u3 ⟨rfl, hb3⟩; have hz3 : u2.heap.size ≤ u3.heap.size := hb3.size; have HS3 := hide (below_then HX hb3); clear HX)
        | (go_at_call 12; have HX := HS1.out; refine (HCc.out _).mono ?_; rintro e u2 ⟨rfl, hb2⟩; have hz2 : u1.heap.size ≤ u2.heap.size := hb2.size; have HS2 := hide (below_then HX hb2); clear HX)
        | (go_at_call 12; have HX := HS0.out; refine (HCa.out _).mono ?_; rintro e u1 ⟨rfl, hb1⟩; have hz1 : W0.heap.size ≤ u1.heap.size := hb1.size; have HS1 := hide (below_then HX hb1); clear HX))
  have hb1z := HS4.out
  obtain ⟨w1, hw1⟩ : ∃ x, x = u4 := ⟨_, rfl⟩
  subst hw1
  clear HKS HS0 HS1 HS2 HS3 HS4 hb1 hb2 hb3 hb4 hz1 hz2 hz3 hz4 HBa HBc HBd  HCa HCc HCd
  clear ya0 ya1 yc0 yc1 yd0 yd1
  have hs1 := hb1z.size
  have hT1 := below_then hT0 hb1z
  have ka := ka.below hb1z ka.lt
  have kc := kc.below hb1z kc.lt
  have kd := kd.below hb1z kd.lt
  clear hT0
  clear hb1z
  go_upto_region 2 with fail
  have HCa := hide (fun (W : World) => toVec_any W ax ay hax hay)
  have HCc := hide (fun (W : World) => toVec_any W cx cy hcx hcy)
  have HCd := hide (fun (W : World) => toVec_any W dx dy hdx hdy)
  have HBa := hide ka
  have HBc := hide kc
  have HBd := hide kd
  have HS0 : Hid (Below w1.heap.size w1 w1.drew) := (Below.refl _ _).drew
  have HKS := hide (fun (W : World) (hq : Below w1.heap.size w1 W) => (⟨(HBa.out.below hq HBa.out.lt).cell 0, (HBa.out.below hq HBa.out.lt).cell 1, (HBc.out.below hq HBc.out.lt).cell 0, (HBc.out.below hq HBc.out.lt).cell 1, (HBd.out.below hq HBd.out.lt).cell 0, (HBd.out.below hq HBd.out.lt).cell 1⟩ : W.cell? ⟨w.heap.size, 0, none⟩ = some (.int .i64 ax) ∧ W.cell? ⟨w.heap.size, 1, none⟩ = some (.int .i64 ay) ∧ W.cell? ⟨w.heap.size + 1, 0, none⟩ = some (.int .i64 cx) ∧ W.cell? ⟨w.heap.size + 1, 1, none⟩ = some (.int .i64 cy) ∧ W.cell? ⟨w.heap.size + 2, 0, none⟩ = some (.int .i64 dx) ∧ W.cell? ⟨w.heap.size + 2, 1, none⟩ = some (.int .i64 dy)))
  obtain ⟨ya0, ya1⟩ := ka.cells2
  obtain ⟨yc0, yc1⟩ := kc.cells2
  obtain ⟨yd0, yd1⟩ := kd.cells2
  go_region_held3 (fun w' => w'.cell? ⟨w.heap.size, 0, none⟩ = some (.int .i64 ax) ∧ w'.cell? ⟨w.heap.size, 1, none⟩ = some (.int .i64 ay) ∧ w'.cell? ⟨w.heap.size + 1, 0, none⟩ = some (.int .i64 cx) ∧ w'.cell? ⟨w.heap.size + 1, 1, none⟩ = some (.int .i64 cy) ∧ w'.cell? ⟨w.heap.size + 2, 0, none⟩ = some (.int .i64 dx) ∧ w'.cell? ⟨w.heap.size + 2, 1, none⟩ = some (.int .i64 dy))
      (first | (with_reducible exact HKS.out _ HS4.out) | (with_reducible exact HKS.out _ HS3.out) | (with_reducible exact HKS.out _ HS2.out) | (with_reducible exact HKS.out _ HS1.out) | (with_reducible exact HKS.out _ HS0.out))
      (first
        | (go_at_call 20; have HX := HS3.out; refine (impl_Turn u3 ax ay hax hay cx cy hcx hcy dx dy hdx hdy).mono ?_; rintro e u4 ⟨rfl, hb4⟩; have hz4 : u3.heap.size ≤ u4.heap.size := hb4.size; have HS4 := hide (below_then HX hb4); clear HX)
        | (go_at_call 12; have HX := HS2.out; refine (HCd.out _).mono ?_; rintro e u3 ⟨rfl, hb3⟩; have hz3 : u2.heap.size ≤ u3.heap.size := hb3.size; have HS3 := hide (below_then HX hb3); clear HX)
        | (go_at_call 12; have HX := HS1.out; refine (HCc.out _).mono ?_; rintro e u2 ⟨rfl, hb2⟩; have hz2 : u1.heap.size ≤ u2.heap.size := hb2.size; have HS2 := hide (below_then HX hb2); clear HX)
        | (go_at_call 12; have HX := HS0.out; refine (HCa.out _).mono ?_; rintro e u1 ⟨rfl, hb1⟩; have hz1 : w1.heap.size ≤ u1.heap.size := hb1.size; have HS1 := hide (below_then HX hb1); clear HX))
  have hb2z := HS4.out
  obtain ⟨w2, hw2⟩ : ∃ x, x = u4 := ⟨_, rfl⟩
  subst hw2
  clear HKS HS0 HS1 HS2 HS3 HS4 hb1 hb2 hb3 hb4 hz1 hz2 hz3 hz4 HBa HBc HBd  HCa HCc HCd
  clear ya0 ya1 yc0 yc1 yd0 yd1
  have hs2 := hb2z.size
  have hT2 := below_then hT1 hb2z
  have ka := ka.below hb2z ka.lt
  have kc := kc.below hb2z kc.lt
  have kd := kd.below hb2z kd.lt
  clear hT1
  clear hb2z
  go_wp2
  go_ret
  exact ⟨rfl, hT2⟩
end Go.Proofs.Ytnbaookdeijhhaa
