/-
  The reference's free placements: contracts: RobotAt.
-/
import Derived.Test.YtocllmaikngoaaaGreatDoorFC
import Derived.Test.YtocllmaikngoaaaGreatDoorScnR
import Derived.Test.YtocllmaikngoaaaGreatDoorHedR
namespace Go.Proofs.YtocllmaikngoaaaGreatDoor
open Go.RowKit
set_option linter.unusedVariables false
set_option maxRecDepth 100000 in
set_option maxHeartbeats 3200000 in
theorem spec_RobotAt (w : World) (B : Nat) (hB : B ≤ w.heap.size) {v0 v1 v2 v3 v4 v5 v6 : Value} {S : Scn} (h : SIn w B v0 v1 v2 v3 v4 v5 v6 S) (k : Int) (fk : (Lit.int .i64 k).wf = true) :
    Calls Tryz.prog 33 #[.agg #[v0, v1, v2, v3, v4, v5, v6], .int .i64 k] w fun e w' => ∃ v, e = .returned v ∧ OwnV w' w.heap.size w'.heap.size 39 v (robL S k).length (robL S k) ∧ Below w.heap.size w w' ∧ (v = .slice none 0 0 ∨ robL S k ≠ []) := by
  have h' := h
  obtain ⟨RA, rc, OA, oc, TA, tc, os, ⟨rfl, rfl, rfl, rfl, rfl, rfl, rfl⟩, hR, hO, hT, hwf⟩ := h
  clear hO hT hwf
  have HV := hide (fun (W : World) (hb : Below w.heap.size w W) => spec_IsValidScene W B (Nat.le_trans hB hb.size) (h'.below (hb.mono hB)))
  have HH := hide (fun (W : World) => l01In_all k 0 3 W (hdgB k) rfl)
  have HT := hide (fun (W : World) (hb : Below w.heap.size w W) => spec_TurnPolygon W B (Nat.le_trans hB hb.size) RA S.r.length rc S.r (hR.below (hb.mono hB)) k fk)
  obtain ⟨W0, hW0⟩ : ∃ W0, W0 = w.alloc (.cells #[.int .i64 S.lx, .int .i64 S.ly, .int .i64 S.hx, .int .i64 S.hy, .slice RA S.r.length rc, .slice OA S.o.length oc, .slice TA S.t.length tc] 43) := ⟨_, rfl⟩
  have hT0 : Below w.heap.size w W0 := by rw [hW0]; exact below_new _ _
  have k0 : Box W0 w.heap.size 43 #[.int .i64 S.lx, .int .i64 S.ly, .int .i64 S.hx, .int .i64 S.hy, .slice RA S.r.length rc, .slice OA S.o.length oc, .slice TA S.t.length tc] := by rw [hW0]; exact Box.last _ _ _ rfl
  clear h' hR fk
  cases hv : scnB S with
  | false =>
    have HN : Hid (robL S k = []) := robL_no (by rw [hv]; rfl)
    rw [hv] at HV
    clear HH HT
    go_enter Tryz.func33, Tryz.ntmps33
    go_upto_region 1 with fail
    rw [← hW0]
    clear hW0
    obtain ⟨y0, y1, y2, y3, y4, y5, y6⟩ := k0.cells7
    go_wp2_with fail
    refine (HV.out _ hT0).mono ?_
    rintro e w1 ⟨rfl, hb1⟩
    clear y0 y1 y2 y3 y4 y5 y6
    have k0 := k0.below hb1 k0.lt
    have hT1 := below_then hT0 hb1
    clear hb1 hT0
    obtain ⟨y0, y1, y2, y3, y4, y5, y6⟩ := k0.cells7
    go_wp2_with fail
    go_ret
    exact ⟨_, rfl, by rw [HN.out]; exact OwnV.nil _ _ _ _, hT1, .inl rfl⟩
  | true =>
  cases hk : hdgB k with
  | false =>
    have HN : Hid (robL S k = []) := robL_no (by rw [hv, hk]; rfl)
    rw [hv] at HV
    rw [hk] at HH
    clear HT
    go_enter Tryz.func33, Tryz.ntmps33
    go_upto_region 1 with fail
    rw [← hW0]
    clear hW0
    obtain ⟨y0, y1, y2, y3, y4, y5, y6⟩ := k0.cells7
    go_wp2_with fail
    refine (HV.out _ hT0).mono ?_
    rintro e w1 ⟨rfl, hb1⟩
    clear y0 y1 y2 y3 y4 y5 y6
    have k0 := k0.below hb1 k0.lt
    have hT1 := below_then hT0 hb1
    clear hb1 hT0
    obtain ⟨y0, y1, y2, y3, y4, y5, y6⟩ := k0.cells7
    go_wp2_with fail
    refine (HH.out _).mono ?_
    rintro e w2 ⟨rfl, rfl⟩
    go_wp2_with fail
    go_ret
    exact ⟨_, rfl, by rw [HN.out]; exact OwnV.nil _ _ _ _, hT1, .inl rfl⟩
  | true =>
    have HN : Hid (robL S k = turnL S.r k) := robL_is hv hk
    have HNE : Hid (robL S k ≠ []) := robL_ne hv hk
    rw [hv] at HV
    rw [hk] at HH
    rw [← HN.out] at HT
    clear HN
    generalize robL S k = rl at *
    clear hv hk
    go_enter Tryz.func33, Tryz.ntmps33
    go_upto_region 1 with fail
    rw [← hW0]
    clear hW0
    obtain ⟨y0, y1, y2, y3, y4, y5, y6⟩ := k0.cells7
    go_wp2_with fail
    refine (HV.out _ hT0).mono ?_
    rintro e w1 ⟨rfl, hb1⟩
    clear y0 y1 y2 y3 y4 y5 y6
    have k0 := k0.below hb1 k0.lt
    have hT1 := below_then hT0 hb1
    clear hb1 hT0
    obtain ⟨y0, y1, y2, y3, y4, y5, y6⟩ := k0.cells7
    go_wp2_with fail
    refine (HH.out _).mono ?_
    rintro e w2 ⟨rfl, rfl⟩
    go_wp2_with fail
    refine (HT.out _ hT1).mono ?_
    rintro e w3 ⟨v, rfl, o, hb3⟩
    have hT3 := below_then hT1 hb3
    have o3 := o.wider (lo' := w.heap.size) (hi' := w3.heap.size) hT1.size (Nat.le_refl _)
    clear y0 y1 y2 y3 y4 y5 y6 o hb3
    go_wp2_with fail
    go_ret
    exact ⟨_, rfl, o3, hT3, .inr HNE.out⟩
end Go.Proofs.YtocllmaikngoaaaGreatDoor
