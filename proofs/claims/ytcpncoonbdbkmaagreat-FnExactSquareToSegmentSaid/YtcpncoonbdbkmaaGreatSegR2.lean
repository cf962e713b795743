/-
  The reference's segments: contracts (2): SquareToSegment.
-/
import Derived.Test.YtcpncoonbdbkmaaGreatSegR
import Derived.Test.YtcpncoonbdbkmaaGreatSegE
import Derived.Test.YtcpncoonbdbkmaaGreatPV
import Derived.Deep.RegionHeld3
import Derived.Deep.CutRange
import Derived.Sort.AtCall
namespace Go.Proofs.YtcpncoonbdbkmaaGreat
open Go.RowKit
set_option linter.unusedVariables false
set_option maxRecDepth 100000 in
set_option maxHeartbeats 12800000 in
theorem spec_SquareToSegment (w : World) (B : Nat) (hB : B ≤ w.heap.size) {p0 p1 p2 p3 p4 p5 : Value} {pZ : PQ} (hp : PIn w B p0 p1 p2 p3 p4 p5 pZ) {q0 q1 q2 q3 q4 q5 : Value} {qZ : PQ} (hq : PIn w B q0 q1 q2 q3 q4 q5 qZ) {m0 m1 m2 m3 m4 m5 : Value} {mZ : PQ} (hm : PIn w B m0 m1 m2 m3 m4 m5 mZ) :
    Calls Tryz.prog 23 #[.agg #[p0, p1, p2, p3, p4, p5], .agg #[q0, q1, q2, q3, q4, q5], .agg #[m0, m1, m2, m3, m4, m5]] w fun e w' => QRes 3 w w' e (sqP pZ qZ mZ) := by
  rw [← sqR_eq]
  have HT := hide (show signQ (distP qZ mZ) = 0 → sqR pZ qZ mZ = addQ (mulQ (distP qZ mZ) (distP qZ mZ)) (distP pZ qZ) from fun h => if_pos h)
  have HF := hide (show ¬ signQ (distP qZ mZ) = 0 → sqR pZ qZ mZ = distP pZ (wayP qZ mZ (minQ (maxQ (divQ (innP qZ mZ pZ) (distP qZ mZ)) (intQ 0)) (intQ 1))) from fun h => if_neg h)
  generalize sqR pZ qZ mZ = ZZ at HT HF ⊢
  obtain ⟨W0, hW0⟩ : ∃ W0, W0 = ((((w.alloc (.cells #[p0, p1, p2, p3, p4, p5] 29)).alloc (.cells #[q0, q1, q2, q3, q4, q5] 29)).alloc (.cells #[m0, m1, m2, m3, m4, m5] 29)).alloc (.cells #[.bool false, .slice none 0 0, .slice none 0 0] 27)) := ⟨_, rfl⟩
  have hT0 : Below w.heap.size w W0 := by rw [hW0]; exact below_alloc (below_alloc (below_alloc (below_new _ _) _) _) _
  have kp : Box W0 (w.heap.size) 29 #[p0, p1, p2, p3, p4, p5] := by rw [hW0]; exact (((Box.last _ _ _ rfl).alloc _).alloc _).alloc _
  have kq : Box W0 (w.heap.size + 1) 29 #[q0, q1, q2, q3, q4, q5] := by rw [hW0]; exact ((Box.last _ _ _ (alloc_size _ _).symm).alloc _).alloc _
  have km : Box W0 (w.heap.size + 2) 29 #[m0, m1, m2, m3, m4, m5] := by rw [hW0]; exact (Box.last _ _ _ (by rw [alloc_size, alloc_size])).alloc _
  have kr : Box W0 (w.heap.size + 3) 27 #[.bool false, .slice none 0 0, .slice none 0 0] := by rw [hW0]; exact Box.last _ _ _ (by rw [alloc_size, alloc_size, alloc_size])
  have hs0 : W0.heap.size = w.heap.size + 4 := by rw [hW0, alloc_size, alloc_size, alloc_size, alloc_size]
  have hp := hp.below (hT0.mono hB)
  have hq := hq.below (hT0.mono hB)
  have hm := hm.below (hT0.mono hB)
  go_enter Tryz.func23, Tryz.ntmps23
  go_upto_region 1 with fail
  rw [← hW0]
  clear hW0
  obtain ⟨yq0, yq1, yq2, yq3, yq4, yq5⟩ := kq.cells6
  obtain ⟨ym0, ym1, ym2, ym3, ym4, ym5⟩ := km.cells6
  go_wp2_with fail
  refine (spec_SquareDistance W0 B (by omega) hq hm).mono ?_
  rintro e w1 ⟨d0, d1, d2, rfl, od, hb1⟩
  clear yq0 yq1 yq2 yq3 yq4 yq5 ym0 ym1 ym2 ym3 ym4 ym5
  obtain ⟨db, dA, dn, dc, dD, dm, dk, rfl, rfl, rfl⟩ := od.cut
  have hs1 := hb1.size
  have hT1 := below_then hT0 hb1
  have kp := kp.below hb1 kp.lt
  have kq := kq.below hb1 kq.lt
  have km := km.below hb1 km.lt
  have kr := kr.below hb1 kr.lt
  have hp := hp.below (hb1.mono (by omega))
  have hq := hq.below (hb1.mono (by omega))
  have hm := hm.below (hb1.mono (by omega))
  clear hT0
  clear hb1
  obtain ⟨w2, hw2⟩ : ∃ xw, xw = (w1.alloc (.cells #[.bool db, .slice dA dn dc, .slice dD dm dk] 27)) := ⟨_, rfl⟩
  have hb2 : Below w1.heap.size w1 w2 := by rw [hw2]; exact below_new _ _
  have hq2 : w2.heap.size = w1.heap.size + 1 := by rw [hw2, alloc_size]
  have kd : Box w2 (w1.heap.size) 27 #[.bool db, .slice dA dn dc, .slice dD dm dk] := by rw [hw2]; exact Box.last _ _ _ (by omega)
  have hs2 := hb2.size
  have hT2 := below_then hT1 hb2
  have kp := kp.below hb2 kp.lt
  have kq := kq.below hb2 kq.lt
  have km := km.below hb2 km.lt
  have kr := kr.below hb2 kr.lt
  have hp := hp.below (hb2.mono (by omega))
  have hq := hq.below (hb2.mono (by omega))
  have hm := hm.below (hb2.mono (by omega))
  have od := od.below hb2 (by omega)
  clear hT1
  go_upto_region 2 with fail
  rw [← hw2]
  clear hw2 hb2
  have hd : QIn w2 w2.heap.size (.bool db) (.slice dA dn dc) (.slice dD dm dk) (distP qZ mZ) := od.in_ (distP_fit _ _) (by omega)
  obtain ⟨yd0, yd1, yd2⟩ := kd.cells3
  go_wp2_with fail
  refine (spec_signQ w2 w2.heap.size (Nat.le_refl _) hd).mono ?_
  rintro e w3 ⟨rfl, hb3⟩
  clear yd0 yd1 yd2
  clear hd
  have hs3 := hb3.size
  have hT3 := below_then hT2 hb3
  have kp := kp.below hb3 kp.lt
  have kq := kq.below hb3 kq.lt
  have km := km.below hb3 km.lt
  have kr := kr.below hb3 kr.lt
  have kd := kd.below hb3 kd.lt
  have hp := hp.below (hb3.mono (by omega))
  have hq := hq.below (hb3.mono (by omega))
  have hm := hm.below (hb3.mono (by omega))
  have od := od.below hb3 (by omega)
  clear hT2
  clear hb3
  obtain ⟨sg, hsg⟩ : ∃ sg, sg = signQ (distP qZ mZ) := ⟨_, rfl⟩
  rw [← hsg] at HT HF ⊢
  have HSG := hide hsg
  clear hsg
  by_cases hs0 : sg = 0
  · have hE := HT.out hs0
    subst hE
    subst hs0
    clear HT HF
    go_upto_region 3 with fail
    have hd : QIn w3 w3.heap.size (.bool db) (.slice dA dn dc) (.slice dD dm dk) (distP qZ mZ) := od.in_ (distP_fit _ _) (by omega)
    have HC1 := hide (fun (W : World) (h : Below w3.heap.size w3 W) => spec_mulQ W w3.heap.size h.size (hd.below h) (hd.below h))
    have HC2 := hide (fun (W : World) (h : Below w3.heap.size w3 W) => spec_SquareDistance W B (by have := h.size; omega) (hp.below (h.mono (by omega))) (hq.below (h.mono (by omega))))
    clear hd od hp hq hm
    have HBp := hide kp
    have HBq := hide kq
    have HBd := hide kd
    have HBr := hide kr
    have HS0 : Hid (Below w3.heap.size w3 w3.drew) := (Below.refl _ _).drew
    have HKS := hide (fun (W : World) (hq : Below w3.heap.size w3 W) => (⟨(HBp.out.below hq HBp.out.lt).cell 0, (HBp.out.below hq HBp.out.lt).cell 1, (HBp.out.below hq HBp.out.lt).cell 2, (HBp.out.below hq HBp.out.lt).cell 3, (HBp.out.below hq HBp.out.lt).cell 4, (HBp.out.below hq HBp.out.lt).cell 5, (HBq.out.below hq HBq.out.lt).cell 0, (HBq.out.below hq HBq.out.lt).cell 1, (HBq.out.below hq HBq.out.lt).cell 2, (HBq.out.below hq HBq.out.lt).cell 3, (HBq.out.below hq HBq.out.lt).cell 4, (HBq.out.below hq HBq.out.lt).cell 5, (HBd.out.below hq HBd.out.lt).cell 0, (HBd.out.below hq HBd.out.lt).cell 1, (HBd.out.below hq HBd.out.lt).cell 2⟩ : W.cell? ⟨w.heap.size, 0, none⟩ = some (p0) ∧ W.cell? ⟨w.heap.size, 1, none⟩ = some (p1) ∧ W.cell? ⟨w.heap.size, 2, none⟩ = some (p2) ∧ W.cell? ⟨w.heap.size, 3, none⟩ = some (p3) ∧ W.cell? ⟨w.heap.size, 4, none⟩ = some (p4) ∧ W.cell? ⟨w.heap.size, 5, none⟩ = some (p5) ∧ W.cell? ⟨w.heap.size + 1, 0, none⟩ = some (q0) ∧ W.cell? ⟨w.heap.size + 1, 1, none⟩ = some (q1) ∧ W.cell? ⟨w.heap.size + 1, 2, none⟩ = some (q2) ∧ W.cell? ⟨w.heap.size + 1, 3, none⟩ = some (q3) ∧ W.cell? ⟨w.heap.size + 1, 4, none⟩ = some (q4) ∧ W.cell? ⟨w.heap.size + 1, 5, none⟩ = some (q5) ∧ W.cell? ⟨w1.heap.size, 0, none⟩ = some (.bool db) ∧ W.cell? ⟨w1.heap.size, 1, none⟩ = some (.slice dA dn dc) ∧ W.cell? ⟨w1.heap.size, 2, none⟩ = some (.slice dD dm dk)))
    have HKT := hide (fun (W : World) (hq : Below w3.heap.size w3 W) (x0 x1 x2 : Value) => (⟨((((HBp.out.below hq HBp.out.lt).setv (show w.heap.size ≠ w.heap.size + 3 by omega) 0 x0).setv (show w.heap.size ≠ w.heap.size + 3 by omega) 1 x1).setv (show w.heap.size ≠ w.heap.size + 3 by omega) 2 x2).cell 0, ((((HBp.out.below hq HBp.out.lt).setv (show w.heap.size ≠ w.heap.size + 3 by omega) 0 x0).setv (show w.heap.size ≠ w.heap.size + 3 by omega) 1 x1).setv (show w.heap.size ≠ w.heap.size + 3 by omega) 2 x2).cell 1, ((((HBp.out.below hq HBp.out.lt).setv (show w.heap.size ≠ w.heap.size + 3 by omega) 0 x0).setv (show w.heap.size ≠ w.heap.size + 3 by omega) 1 x1).setv (show w.heap.size ≠ w.heap.size + 3 by omega) 2 x2).cell 2, ((((HBp.out.below hq HBp.out.lt).setv (show w.heap.size ≠ w.heap.size + 3 by omega) 0 x0).setv (show w.heap.size ≠ w.heap.size + 3 by omega) 1 x1).setv (show w.heap.size ≠ w.heap.size + 3 by omega) 2 x2).cell 3, ((((HBp.out.below hq HBp.out.lt).setv (show w.heap.size ≠ w.heap.size + 3 by omega) 0 x0).setv (show w.heap.size ≠ w.heap.size + 3 by omega) 1 x1).setv (show w.heap.size ≠ w.heap.size + 3 by omega) 2 x2).cell 4, ((((HBp.out.below hq HBp.out.lt).setv (show w.heap.size ≠ w.heap.size + 3 by omega) 0 x0).setv (show w.heap.size ≠ w.heap.size + 3 by omega) 1 x1).setv (show w.heap.size ≠ w.heap.size + 3 by omega) 2 x2).cell 5, ((((HBq.out.below hq HBq.out.lt).setv (show w.heap.size + 1 ≠ w.heap.size + 3 by omega) 0 x0).setv (show w.heap.size + 1 ≠ w.heap.size + 3 by omega) 1 x1).setv (show w.heap.size + 1 ≠ w.heap.size + 3 by omega) 2 x2).cell 0, ((((HBq.out.below hq HBq.out.lt).setv (show w.heap.size + 1 ≠ w.heap.size + 3 by omega) 0 x0).setv (show w.heap.size + 1 ≠ w.heap.size + 3 by omega) 1 x1).setv (show w.heap.size + 1 ≠ w.heap.size + 3 by omega) 2 x2).cell 1, ((((HBq.out.below hq HBq.out.lt).setv (show w.heap.size + 1 ≠ w.heap.size + 3 by omega) 0 x0).setv (show w.heap.size + 1 ≠ w.heap.size + 3 by omega) 1 x1).setv (show w.heap.size + 1 ≠ w.heap.size + 3 by omega) 2 x2).cell 2, ((((HBq.out.below hq HBq.out.lt).setv (show w.heap.size + 1 ≠ w.heap.size + 3 by omega) 0 x0).setv (show w.heap.size + 1 ≠ w.heap.size + 3 by omega) 1 x1).setv (show w.heap.size + 1 ≠ w.heap.size + 3 by omega) 2 x2).cell 3, ((((HBq.out.below hq HBq.out.lt).setv (show w.heap.size + 1 ≠ w.heap.size + 3 by omega) 0 x0).setv (show w.heap.size + 1 ≠ w.heap.size + 3 by omega) 1 x1).setv (show w.heap.size + 1 ≠ w.heap.size + 3 by omega) 2 x2).cell 4, ((((HBq.out.below hq HBq.out.lt).setv (show w.heap.size + 1 ≠ w.heap.size + 3 by omega) 0 x0).setv (show w.heap.size + 1 ≠ w.heap.size + 3 by omega) 1 x1).setv (show w.heap.size + 1 ≠ w.heap.size + 3 by omega) 2 x2).cell 5, ((((HBd.out.below hq HBd.out.lt).setv (show w1.heap.size ≠ w.heap.size + 3 by omega) 0 x0).setv (show w1.heap.size ≠ w.heap.size + 3 by omega) 1 x1).setv (show w1.heap.size ≠ w.heap.size + 3 by omega) 2 x2).cell 0, ((((HBd.out.below hq HBd.out.lt).setv (show w1.heap.size ≠ w.heap.size + 3 by omega) 0 x0).setv (show w1.heap.size ≠ w.heap.size + 3 by omega) 1 x1).setv (show w1.heap.size ≠ w.heap.size + 3 by omega) 2 x2).cell 1, ((((HBd.out.below hq HBd.out.lt).setv (show w1.heap.size ≠ w.heap.size + 3 by omega) 0 x0).setv (show w1.heap.size ≠ w.heap.size + 3 by omega) 1 x1).setv (show w1.heap.size ≠ w.heap.size + 3 by omega) 2 x2).cell 2⟩ : (((W.setCell ⟨w.heap.size + 3, 0, none⟩ x0).setCell ⟨w.heap.size + 3, 1, none⟩ x1).setCell ⟨w.heap.size + 3, 2, none⟩ x2).cell? ⟨w.heap.size, 0, none⟩ = some (p0) ∧ (((W.setCell ⟨w.heap.size + 3, 0, none⟩ x0).setCell ⟨w.heap.size + 3, 1, none⟩ x1).setCell ⟨w.heap.size + 3, 2, none⟩ x2).cell? ⟨w.heap.size, 1, none⟩ = some (p1) ∧ (((W.setCell ⟨w.heap.size + 3, 0, none⟩ x0).setCell ⟨w.heap.size + 3, 1, none⟩ x1).setCell ⟨w.heap.size + 3, 2, none⟩ x2).cell? ⟨w.heap.size, 2, none⟩ = some (p2) ∧ (((W.setCell ⟨w.heap.size + 3, 0, none⟩ x0).setCell ⟨w.heap.size + 3, 1, none⟩ x1).setCell ⟨w.heap.size + 3, 2, none⟩ x2).cell? ⟨w.heap.size, 3, none⟩ = some (p3) ∧ (((W.setCell ⟨w.heap.size + 3, 0, none⟩ x0).setCell ⟨w.heap.size + 3, 1, none⟩ x1).setCell ⟨w.heap.size + 3, 2, none⟩ x2).cell? ⟨w.heap.size, 4, none⟩ = some (p4) ∧ (((W.setCell ⟨w.heap.size + 3, 0, none⟩ x0).setCell ⟨w.heap.size + 3, 1, none⟩ x1).setCell ⟨w.heap.size + 3, 2, none⟩ x2).cell? ⟨w.heap.size, 5, none⟩ = some (p5) ∧ (((W.setCell ⟨w.heap.size + 3, 0, none⟩ x0).setCell ⟨w.heap.size + 3, 1, none⟩ x1).setCell ⟨w.heap.size + 3, 2, none⟩ x2).cell? ⟨w.heap.size + 1, 0, none⟩ = some (q0) ∧ (((W.setCell ⟨w.heap.size + 3, 0, none⟩ x0).setCell ⟨w.heap.size + 3, 1, none⟩ x1).setCell ⟨w.heap.size + 3, 2, none⟩ x2).cell? ⟨w.heap.size + 1, 1, none⟩ = some (q1) ∧ (((W.setCell ⟨w.heap.size + 3, 0, none⟩ x0).setCell ⟨w.heap.size + 3, 1, none⟩ x1).setCell ⟨w.heap.size + 3, 2, none⟩ x2).cell? ⟨w.heap.size + 1, 2, none⟩ = some (q2) ∧ (((W.setCell ⟨w.heap.size + 3, 0, none⟩ x0).setCell ⟨w.heap.size + 3, 1, none⟩ x1).setCell ⟨w.heap.size + 3, 2, none⟩ x2).cell? ⟨w.heap.size + 1, 3, none⟩ = some (q3) ∧ (((W.setCell ⟨w.heap.size + 3, 0, none⟩ x0).setCell ⟨w.heap.size + 3, 1, none⟩ x1).setCell ⟨w.heap.size + 3, 2, none⟩ x2).cell? ⟨w.heap.size + 1, 4, none⟩ = some (q4) ∧ (((W.setCell ⟨w.heap.size + 3, 0, none⟩ x0).setCell ⟨w.heap.size + 3, 1, none⟩ x1).setCell ⟨w.heap.size + 3, 2, none⟩ x2).cell? ⟨w.heap.size + 1, 5, none⟩ = some (q5) ∧ (((W.setCell ⟨w.heap.size + 3, 0, none⟩ x0).setCell ⟨w.heap.size + 3, 1, none⟩ x1).setCell ⟨w.heap.size + 3, 2, none⟩ x2).cell? ⟨w1.heap.size, 0, none⟩ = some (.bool db) ∧ (((W.setCell ⟨w.heap.size + 3, 0, none⟩ x0).setCell ⟨w.heap.size + 3, 1, none⟩ x1).setCell ⟨w.heap.size + 3, 2, none⟩ x2).cell? ⟨w1.heap.size, 1, none⟩ = some (.slice dA dn dc) ∧ (((W.setCell ⟨w.heap.size + 3, 0, none⟩ x0).setCell ⟨w.heap.size + 3, 1, none⟩ x1).setCell ⟨w.heap.size + 3, 2, none⟩ x2).cell? ⟨w1.heap.size, 2, none⟩ = some (.slice dD dm dk)))
    obtain ⟨yp0, yp1, yp2, yp3, yp4, yp5⟩ := kp.cells6
    obtain ⟨yq0, yq1, yq2, yq3, yq4, yq5⟩ := kq.cells6
    obtain ⟨yd0, yd1, yd2⟩ := kd.cells3
    go_region_held3 (fun w' => w'.cell? ⟨w.heap.size, 0, none⟩ = some (p0) ∧ w'.cell? ⟨w.heap.size, 1, none⟩ = some (p1) ∧ w'.cell? ⟨w.heap.size, 2, none⟩ = some (p2) ∧ w'.cell? ⟨w.heap.size, 3, none⟩ = some (p3) ∧ w'.cell? ⟨w.heap.size, 4, none⟩ = some (p4) ∧ w'.cell? ⟨w.heap.size, 5, none⟩ = some (p5) ∧ w'.cell? ⟨w.heap.size + 1, 0, none⟩ = some (q0) ∧ w'.cell? ⟨w.heap.size + 1, 1, none⟩ = some (q1) ∧ w'.cell? ⟨w.heap.size + 1, 2, none⟩ = some (q2) ∧ w'.cell? ⟨w.heap.size + 1, 3, none⟩ = some (q3) ∧ w'.cell? ⟨w.heap.size + 1, 4, none⟩ = some (q4) ∧ w'.cell? ⟨w.heap.size + 1, 5, none⟩ = some (q5) ∧ w'.cell? ⟨w1.heap.size, 0, none⟩ = some (.bool db) ∧ w'.cell? ⟨w1.heap.size, 1, none⟩ = some (.slice dA dn dc) ∧ w'.cell? ⟨w1.heap.size, 2, none⟩ = some (.slice dD dm dk))
        (first | (with_reducible exact HKT.out _ HS3.out _ _ _) | (with_reducible exact HKS.out _ HS3.out) | (with_reducible exact HKS.out _ HS2.out) | (with_reducible exact HKS.out _ HS1.out) | (with_reducible exact HKS.out _ HS0.out))
        (first
          | (go_at_call 64; have HX := HS2.out; (with_reducible refine Calls.mono (spec_addQ u2 u2.heap.size (Nat.le_refl _) qx qy) ?_); rintro e u3 ⟨z0, z1, z2, rfl, oz, hb3⟩; obtain ⟨zb, zA, zn, zc, zD, zm, zk, rfl, rfl, rfl⟩ := oz.cut; have qz := oz.in_ (addQ_fit _ _) (Nat.le_refl _); have qx := qx.up hb3; have qy := qy.up hb3; have hz3 : u2.heap.size ≤ u3.heap.size := hb3.size; have HS3 := hide (below_then HX hb3); clear HX; have hTT := below_then hT3 HS3.out; have kRr3 := HBr.out.below HS3.out HBr.out.lt; obtain ⟨tr0_3, tr1_3, tr2_3, fr0_3, fr1_3, fr2_3⟩ := kRr3.facts3; have kR := kRr3)
          | (go_at_call 62; have HX := HS1.out; (with_reducible refine Calls.mono (HC2.out _ HS1.out) ?_); rintro e u2 ⟨y0, y1, y2, rfl, oy, hb2⟩; obtain ⟨yb, yA, yn, yc, yD, ym, yk, rfl, rfl, rfl⟩ := oy.cut; have qy := oy.in_ (distP_fit _ _) (Nat.le_refl _); have qx := qx.up hb2; have hz2 : u1.heap.size ≤ u2.heap.size := hb2.size; have HS2 := hide (below_then HX hb2); clear HX)
          | (go_at_call 65; have HX := HS0.out; (with_reducible refine Calls.mono (HC1.out _ HS0.out) ?_); rintro e u1 ⟨x0, x1, x2, rfl, ox, hb1⟩; obtain ⟨xb, xA, xn, xc, xD, xm, xk, rfl, rfl, rfl⟩ := ox.cut; have qx := ox.in_ (mulQ_fit _ _) (Nat.le_refl _); have hz1 : w3.heap.size ≤ u1.heap.size := hb1.size; have HS1 := hide (below_then HX hb1); clear HX))
    have HO := hide (ret_q kR oz hTT (by omega) (by omega) (Nat.le_refl _) (.inl (by omega)))
    clear kR hTT
    go_wp2_with fail
    refine bodyPost_ret (results_cell_row rfl _ _ (w.heap.size + 3) _ #[.bool zb, .slice zA zn zc, .slice zD zm zk] (0, 0) _ rfl HO.out.1 Tryz.underlying27 rfl Tryz.sizeRat) rfl ?_
    exact ⟨_, _, _, rfl, HO.out.2.1, HO.out.2.2⟩
  · have hE := HF.out hs0
    subst hE
    have hs0 : (sg == 0) = false := by simpa using hs0
    clear HT HF
    go_upto_region 4 with fail
    have hd : QIn w3 w3.heap.size (.bool db) (.slice dA dn dc) (.slice dD dm dk) (distP qZ mZ) := od.in_ (distP_fit _ _) (by omega)
    have HC1 := hide (fun (W : World) (h : Below w3.heap.size w3 W) => spec_InnerProduct W B (by have := h.size; omega) (hq.below (h.mono (by omega))) (hm.below (h.mono (by omega))) (hp.below (h.mono (by omega))))
    have HC2 := hide (fun (W : World) (h : Below w3.heap.size w3 W) => (hd.below h).wider h.size)
    clear hd od
    have Ehs0 := hide hs0
    clear hs0
    have Ehq2 := hide hq2
    clear hq2
    have HBp := hide kp
    have HBq := hide kq
    have HBm := hide km
    have HBd := hide kd
    have HS0 : Hid (Below w3.heap.size w3 w3.drew) := (Below.refl _ _).drew
    have HS0a : Hid (Below w3.heap.size w3 (w3.alloc (.cells #[.bool false, .slice none 0 0, .slice none 0 0] 27)).drew) := (below_new _ _).drew
    have HKS := hide (fun (W : World) (hq : Below w3.heap.size w3 W) => (⟨(HBp.out.below hq HBp.out.lt).cell 0, (HBp.out.below hq HBp.out.lt).cell 1, (HBp.out.below hq HBp.out.lt).cell 2, (HBp.out.below hq HBp.out.lt).cell 3, (HBp.out.below hq HBp.out.lt).cell 4, (HBp.out.below hq HBp.out.lt).cell 5, (HBq.out.below hq HBq.out.lt).cell 0, (HBq.out.below hq HBq.out.lt).cell 1, (HBq.out.below hq HBq.out.lt).cell 2, (HBq.out.below hq HBq.out.lt).cell 3, (HBq.out.below hq HBq.out.lt).cell 4, (HBq.out.below hq HBq.out.lt).cell 5, (HBm.out.below hq HBm.out.lt).cell 0, (HBm.out.below hq HBm.out.lt).cell 1, (HBm.out.below hq HBm.out.lt).cell 2, (HBm.out.below hq HBm.out.lt).cell 3, (HBm.out.below hq HBm.out.lt).cell 4, (HBm.out.below hq HBm.out.lt).cell 5, (HBd.out.below hq HBd.out.lt).cell 0, (HBd.out.below hq HBd.out.lt).cell 1, (HBd.out.below hq HBd.out.lt).cell 2⟩ : W.cell? ⟨w.heap.size, 0, none⟩ = some (p0) ∧ W.cell? ⟨w.heap.size, 1, none⟩ = some (p1) ∧ W.cell? ⟨w.heap.size, 2, none⟩ = some (p2) ∧ W.cell? ⟨w.heap.size, 3, none⟩ = some (p3) ∧ W.cell? ⟨w.heap.size, 4, none⟩ = some (p4) ∧ W.cell? ⟨w.heap.size, 5, none⟩ = some (p5) ∧ W.cell? ⟨w.heap.size + 1, 0, none⟩ = some (q0) ∧ W.cell? ⟨w.heap.size + 1, 1, none⟩ = some (q1) ∧ W.cell? ⟨w.heap.size + 1, 2, none⟩ = some (q2) ∧ W.cell? ⟨w.heap.size + 1, 3, none⟩ = some (q3) ∧ W.cell? ⟨w.heap.size + 1, 4, none⟩ = some (q4) ∧ W.cell? ⟨w.heap.size + 1, 5, none⟩ = some (q5) ∧ W.cell? ⟨w.heap.size + 2, 0, none⟩ = some (m0) ∧ W.cell? ⟨w.heap.size + 2, 1, none⟩ = some (m1) ∧ W.cell? ⟨w.heap.size + 2, 2, none⟩ = some (m2) ∧ W.cell? ⟨w.heap.size + 2, 3, none⟩ = some (m3) ∧ W.cell? ⟨w.heap.size + 2, 4, none⟩ = some (m4) ∧ W.cell? ⟨w.heap.size + 2, 5, none⟩ = some (m5) ∧ W.cell? ⟨w1.heap.size, 0, none⟩ = some (.bool db) ∧ W.cell? ⟨w1.heap.size, 1, none⟩ = some (.slice dA dn dc) ∧ W.cell? ⟨w1.heap.size, 2, none⟩ = some (.slice dD dm dk)))
    obtain ⟨yp0, yp1, yp2, yp3, yp4, yp5⟩ := kp.cells6
    obtain ⟨yq0, yq1, yq2, yq3, yq4, yq5⟩ := kq.cells6
    obtain ⟨ym0, ym1, ym2, ym3, ym4, ym5⟩ := km.cells6
    obtain ⟨yd0, yd1, yd2⟩ := kd.cells3
    go_cut [8] from 23 to 57 (fun sx wx => VarQ w3 wx sx (divQ (innP qZ mZ pZ) (distP qZ mZ)) 27 3)
    case first =>
      go_region_held3 (fun w' => w'.cell? ⟨w.heap.size, 0, none⟩ = some (p0) ∧ w'.cell? ⟨w.heap.size, 1, none⟩ = some (p1) ∧ w'.cell? ⟨w.heap.size, 2, none⟩ = some (p2) ∧ w'.cell? ⟨w.heap.size, 3, none⟩ = some (p3) ∧ w'.cell? ⟨w.heap.size, 4, none⟩ = some (p4) ∧ w'.cell? ⟨w.heap.size, 5, none⟩ = some (p5) ∧ w'.cell? ⟨w.heap.size + 1, 0, none⟩ = some (q0) ∧ w'.cell? ⟨w.heap.size + 1, 1, none⟩ = some (q1) ∧ w'.cell? ⟨w.heap.size + 1, 2, none⟩ = some (q2) ∧ w'.cell? ⟨w.heap.size + 1, 3, none⟩ = some (q3) ∧ w'.cell? ⟨w.heap.size + 1, 4, none⟩ = some (q4) ∧ w'.cell? ⟨w.heap.size + 1, 5, none⟩ = some (q5) ∧ w'.cell? ⟨w.heap.size + 2, 0, none⟩ = some (m0) ∧ w'.cell? ⟨w.heap.size + 2, 1, none⟩ = some (m1) ∧ w'.cell? ⟨w.heap.size + 2, 2, none⟩ = some (m2) ∧ w'.cell? ⟨w.heap.size + 2, 3, none⟩ = some (m3) ∧ w'.cell? ⟨w.heap.size + 2, 4, none⟩ = some (m4) ∧ w'.cell? ⟨w.heap.size + 2, 5, none⟩ = some (m5) ∧ w'.cell? ⟨w1.heap.size, 0, none⟩ = some (.bool db) ∧ w'.cell? ⟨w1.heap.size, 1, none⟩ = some (.slice dA dn dc) ∧ w'.cell? ⟨w1.heap.size, 2, none⟩ = some (.slice dD dm dk))
          (first | (with_reducible exact HKS.out _ (below_set3 HS2.out HS1.out.size _ _ _)) | (with_reducible exact HKS.out _ (below_set3 HS2.out (Nat.le_refl _) _ _ _)) | (with_reducible exact HKS.out _ HS2.out) | (with_reducible exact HKS.out _ (below_alloc HS2.out _)) | (with_reducible exact HKS.out _ HS1.out) | (with_reducible exact HKS.out _ (below_alloc HS1.out _)) | (with_reducible exact HKS.out _ HS0.out) | (with_reducible exact HKS.out _ HS0a.out))
          (first
            | (go_at_call 66; have HX := HS1.out; (first | (with_reducible refine Calls.mono (spec_divQ _ _ (Nat.le_refl _) qx (HC2.out _ HX)) ?_) | (with_reducible refine Calls.mono (spec_divQ _ _ (Nat.le_refl _) (qx.up (below_new _ _)) (HC2.out _ (below_alloc HX _))) ?_)); rintro e u2 ⟨z0, z1, z2, rfl, oz, hb2⟩; obtain ⟨zb, zA, zn, zc, zD, zm, zk, rfl, rfl, rfl⟩ := oz.cut; (first | (have hu2 := (show Below u1.heap.size u1 u2 from hb2)) | (have hu2 := (below_then (below_new u1 _) hb2))); have hz2 : u1.heap.size ≤ u2.heap.size := hu2.size; have qx := qx.up hu2; have HS2 := hide (below_then HX hu2); clear HX; have hy2 := hb2.size; (first | (have kz := kz_new hb2) | (have kz := kz.below hu2 kz.lt) | skip); (first | (obtain ⟨t0, t1, t2, f0, f1, f2⟩ := kz.facts3) | skip))
            | (go_at_call 67; have HX := HS0.out; (first | (with_reducible refine Calls.mono (HC1.out _ HS0.out) ?_) | (with_reducible refine Calls.mono (HC1.out _ HS0a.out) ?_)); rintro e u1 ⟨x0, x1, x2, rfl, ox, hb1⟩; obtain ⟨xb, xA, xn, xc, xD, xm, xk, rfl, rfl, rfl⟩ := ox.cut; have qx := ox.in_ (innP_fit _ _ _) (Nat.le_refl _); (first | (have HS1 := hide (below_then HS0.out hb1)) | (have HS1 := hide (below_then HS0a.out hb1))); have hz1 : w3.heap.size ≤ u1.heap.size := HS1.out.size; clear HX; have hy1 := hb1.size; (first | (have kz := kz_drew hb1) | skip)))
      all_goals
        go_wp2_with fail
        go_meet
        case rel =>
          try simp only [drew_size, alloc_size] at hy1 hy2
          have HL := HS2.out
          first
            | ((with_reducible refine varq_set kz HL oz ?_ (Nat.le_refl _) ?_ ?_) <;> ((try simp only [alloc_size]); omega))
            | ((with_reducible refine varq_last HL oz ?_ (Nat.le_refl _)) <;> ((try simp only [alloc_size]); omega))
    case rest =>
      have hs0 := Ehs0.out
      clear Ehs0
      have hq2 := Ehq2.out
      clear Ehq2
      obtain ⟨gf, f0, f1, f2, lof, hif, rfl, bn, on, hlof, hhif, hggf, hglf, hb4⟩ := hcut
      obtain ⟨fb, fA, fn, fc, fD, fm, fk, rfl, rfl, rfl⟩ := on.cut
      obtain ⟨w4, hw4⟩ : ∃ xw, xw = wc := ⟨_, rfl⟩
      subst hw4
      clear HKS HS0 HS0a HBp HBq HBm HBd
      clear yp0 yp1 yp2 yp3 yp4 yp5 yq0 yq1 yq2 yq3 yq4 yq5 ym0 ym1 ym2 ym3 ym4 ym5 yd0 yd1 yd2
      have hs4 := hb4.size
      have hT4 := below_then hT3 hb4
      have kp := kp.below hb4 kp.lt
      have kq := kq.below hb4 kq.lt
      have km := km.below hb4 km.lt
      have kr := kr.below hb4 kr.lt
      have kd := kd.below hb4 kd.lt
      have hp := hp.below (hb4.mono (by omega))
      have hq := hq.below (hb4.mono (by omega))
      have hm := hm.below (hb4.mono (by omega))
      clear hT3
      clear hb4
      have kf := bn
      have lf := bn.lt
      have of := on
      clear bn on
      clear HC1 HC2
      clear kd
      go_upto_region 5 with fail
      have hfq : QIn w4 w4.heap.size (.bool fb) (.slice fA fn fc) (.slice fD fm fk) (divQ (innP qZ mZ pZ) (distP qZ mZ)) := of.in_ (divQ_fit _ _) (by omega)
      have HC1 := hide (fun (W : World) => spec_intQ W 0 (by decide))
      have HC2 := hide (fun (W : World) => spec_intQ W 1 (by decide))
      have HC3 := hide (fun (W : World) (h : Below w4.heap.size w4 W) => (hfq.below h).wider h.size)
      clear hfq
      have Ehs0 := hide hs0
      clear hs0
      have Ehq2 := hide hq2
      clear hq2
      go_cut [] from 29 to 57 (fun wx => VarT w4 wx gf (minQ (maxQ (divQ (innP qZ mZ pZ) (distP qZ mZ)) (intQ 0)) (intQ 1)) 27 3)
      case first =>
        have HBf := hide kf
        have HS0 : Hid (Below w4.heap.size w4 w4.drew) := (Below.refl _ _).drew
        obtain ⟨yf0, yf1, yf2⟩ := kf.cells3
        go_region_with
            (first
              | (go_at_call 68; have HX := HS3.out; (with_reducible refine Calls.mono (spec_minQ u3 u3.heap.size (Nat.le_refl _) qv qy) ?_); rintro e u4 ⟨z0, z1, z2, rfl, oz, hb4⟩; obtain ⟨zb, zA, zn, zc, zD, zm, zk, rfl, rfl, rfl⟩ := oz.cut; have qz := oz.in_ (minQ_fit _ _) (Nat.le_refl _); have qx := qx.up hb4; have qv := qv.up hb4; have qy := qy.up hb4; have hz4 : u3.heap.size ≤ u4.heap.size := hb4.size; have HS4 := hide (below_then HX hb4); clear HX; have hTT := below_then hT4 HS4.out; have kRf4 := HBf.out.below HS4.out HBf.out.lt; obtain ⟨tf0_4, tf1_4, tf2_4, ff0_4, ff1_4, ff2_4⟩ := kRf4.facts3; have kR := kRf4)
              | (go_at_call 70; have HX := HS2.out; (with_reducible refine Calls.mono (HC2.out _) ?_); rintro e u3 ⟨y0, y1, y2, rfl, oy, hb3⟩; obtain ⟨yb, yA, yn, yc, yD, ym, yk, rfl, rfl, rfl⟩ := oy.cut; have qy := oy.in_ (intQ_fit _) (Nat.le_refl _); have qx := qx.up hb3; have qv := qv.up hb3; have hz3 : u2.heap.size ≤ u3.heap.size := hb3.size; have HS3 := hide (below_then HX hb3); clear HX; have kRf3 := HBf.out.below HS3.out HBf.out.lt; obtain ⟨tf0_3, tf1_3, tf2_3, ff0_3, ff1_3, ff2_3⟩ := kRf3.facts3)
              | (go_at_call 69; have HX := HS1.out; (with_reducible refine Calls.mono (spec_maxQ u1 u1.heap.size (Nat.le_refl _) (HC3.out _ HS1.out) qx) ?_); rintro e u2 ⟨v0, v1, v2, rfl, ov, hb2⟩; obtain ⟨vb, vA, vn, vc, vD, vm, vk, rfl, rfl, rfl⟩ := ov.cut; have qv := ov.in_ (maxQ_fit _ _) (Nat.le_refl _); have qx := qx.up hb2; have hz2 : u1.heap.size ≤ u2.heap.size := hb2.size; have HS2 := hide (below_then HX hb2); clear HX; have kRf2 := HBf.out.below HS2.out HBf.out.lt; obtain ⟨tf0_2, tf1_2, tf2_2, ff0_2, ff1_2, ff2_2⟩ := kRf2.facts3)
              | (go_at_call 70; have HX := HS0.out; (with_reducible refine Calls.mono (HC1.out _) ?_); rintro e u1 ⟨x0, x1, x2, rfl, ox, hb1⟩; obtain ⟨xb, xA, xn, xc, xD, xm, xk, rfl, rfl, rfl⟩ := ox.cut; have qx := ox.in_ (intQ_fit _) (Nat.le_refl _); have hz1 : w4.heap.size ≤ u1.heap.size := hb1.size; have HS1 := hide (below_then HX hb1); clear HX; have kRf1 := HBf.out.below HS1.out HBf.out.lt; obtain ⟨tf0_1, tf1_1, tf2_1, ff0_1, ff1_1, ff2_1⟩ := kRf1.facts3))
        all_goals
          have HL := HS4.out
          have HV := hide (vart_set kR HL oz (minQ_fit _ _) (by omega) (Nat.le_refl _))
          clear kR oz
          go_wp2_with fail
          go_meet
          case rel => exact HV.out
      case rest =>
        have hs0 := Ehs0.out
        clear Ehs0
        have hq2 := Ehq2.out
        clear Ehq2
        obtain ⟨z0, z1, z2, kn, hqz, hnb⟩ := hcut
        obtain ⟨zb, zA, zn, zc, zD, zm, zk, rfl, rfl, rfl⟩ := hqz.cut
        obtain ⟨w5, hw5⟩ : ∃ xw, xw = wc := ⟨_, rfl⟩
        subst hw5
        clear kf
        clear of
        have hs5 := hnb.size
        have hT5 := hT4.trans (Aside.below hnb (by omega) (by omega))
        have kp := kp.aside hnb (by omega)
        have kq := kq.aside hnb (by omega)
        have km := km.aside hnb (by omega)
        have kr := kr.aside hnb (by omega)
        have hp := hp.below (Aside.below hnb (by omega) (by omega))
        have hq := hq.below (Aside.below hnb (by omega) (by omega))
        have hm := hm.below (Aside.below hnb (by omega) (by omega))
        clear hT4 hnb
        have kf := kn
        clear HC1 HC2 HC3
        go_upto_region 6 with fail
        have HC1 := hide (fun (W : World) (h : Below w5.heap.size w5 W) => spec_subQ W B (by have := h.size; omega) (hm.1.below (h.mono (by omega))) (hq.1.below (h.mono (by omega))))
        have HC4 := hide (fun (W : World) (h : Below w5.heap.size w5 W) => spec_subQ W B (by have := h.size; omega) (hm.2.below (h.mono (by omega))) (hq.2.below (h.mono (by omega))))
        have HC2 := hide (fun (W : World) (h : Below w5.heap.size w5 W) => (hqz.below h).wider h.size)
        have HC3 := hide (fun (W : World) (h : Below w5.heap.size w5 W) => (hq.1.wider (show B ≤ w5.heap.size by omega)).below h |>.wider h.size)
        have HC5 := hide (fun (W : World) (h : Below w5.heap.size w5 W) => (hq.2.wider (show B ≤ w5.heap.size by omega)).below h |>.wider h.size)
        clear hqz
        have Ehs0 := hide hs0
        clear hs0
        have Ehq2 := hide hq2
        clear hq2
        have HBq := hide kq
        have HBm := hide km
        have HBf := hide kf
        have HS0 : Hid (Below w5.heap.size w5 w5.drew) := (Below.refl _ _).drew
        have HS0a : Hid (Below w5.heap.size w5 (w5.alloc (.cells #[.bool false, .slice none 0 0, .slice none 0 0, .bool false, .slice none 0 0, .slice none 0 0] 29)).drew) := (below_new _ _).drew
        have HKS := hide (fun (W : World) (hq : Below w5.heap.size w5 W) => (⟨(HBq.out.below hq HBq.out.lt).cell 0, (HBq.out.below hq HBq.out.lt).cell 1, (HBq.out.below hq HBq.out.lt).cell 2, (HBq.out.below hq HBq.out.lt).cell 3, (HBq.out.below hq HBq.out.lt).cell 4, (HBq.out.below hq HBq.out.lt).cell 5, (HBm.out.below hq HBm.out.lt).cell 0, (HBm.out.below hq HBm.out.lt).cell 1, (HBm.out.below hq HBm.out.lt).cell 2, (HBm.out.below hq HBm.out.lt).cell 3, (HBm.out.below hq HBm.out.lt).cell 4, (HBm.out.below hq HBm.out.lt).cell 5, (HBf.out.below hq HBf.out.lt).cell 0, (HBf.out.below hq HBf.out.lt).cell 1, (HBf.out.below hq HBf.out.lt).cell 2⟩ : W.cell? ⟨w.heap.size + 1, 0, none⟩ = some (q0) ∧ W.cell? ⟨w.heap.size + 1, 1, none⟩ = some (q1) ∧ W.cell? ⟨w.heap.size + 1, 2, none⟩ = some (q2) ∧ W.cell? ⟨w.heap.size + 1, 3, none⟩ = some (q3) ∧ W.cell? ⟨w.heap.size + 1, 4, none⟩ = some (q4) ∧ W.cell? ⟨w.heap.size + 1, 5, none⟩ = some (q5) ∧ W.cell? ⟨w.heap.size + 2, 0, none⟩ = some (m0) ∧ W.cell? ⟨w.heap.size + 2, 1, none⟩ = some (m1) ∧ W.cell? ⟨w.heap.size + 2, 2, none⟩ = some (m2) ∧ W.cell? ⟨w.heap.size + 2, 3, none⟩ = some (m3) ∧ W.cell? ⟨w.heap.size + 2, 4, none⟩ = some (m4) ∧ W.cell? ⟨w.heap.size + 2, 5, none⟩ = some (m5) ∧ W.cell? ⟨gf, 0, none⟩ = some (.bool zb) ∧ W.cell? ⟨gf, 1, none⟩ = some (.slice zA zn zc) ∧ W.cell? ⟨gf, 2, none⟩ = some (.slice zD zm zk)))
        obtain ⟨yq0, yq1, yq2, yq3, yq4, yq5⟩ := kq.cells6
        obtain ⟨ym0, ym1, ym2, ym3, ym4, ym5⟩ := km.cells6
        obtain ⟨yf0, yf1, yf2⟩ := kf.cells3
        go_cut [9] from 34 to 57 (fun sx wx => VarJ w5 wx sx ((addQ qZ.1 (mulQ (minQ (maxQ (divQ (innP qZ mZ pZ) (distP qZ mZ)) (intQ 0)) (intQ 1)) (subQ mZ.1 qZ.1)), addQ qZ.2 (mulQ (minQ (maxQ (divQ (innP qZ mZ pZ) (distP qZ mZ)) (intQ 0)) (intQ 1)) (subQ mZ.2 qZ.2)))) 29 3)
        case first =>
          go_region_held3 (fun w' => w'.cell? ⟨w.heap.size + 1, 0, none⟩ = some (q0) ∧ w'.cell? ⟨w.heap.size + 1, 1, none⟩ = some (q1) ∧ w'.cell? ⟨w.heap.size + 1, 2, none⟩ = some (q2) ∧ w'.cell? ⟨w.heap.size + 1, 3, none⟩ = some (q3) ∧ w'.cell? ⟨w.heap.size + 1, 4, none⟩ = some (q4) ∧ w'.cell? ⟨w.heap.size + 1, 5, none⟩ = some (q5) ∧ w'.cell? ⟨w.heap.size + 2, 0, none⟩ = some (m0) ∧ w'.cell? ⟨w.heap.size + 2, 1, none⟩ = some (m1) ∧ w'.cell? ⟨w.heap.size + 2, 2, none⟩ = some (m2) ∧ w'.cell? ⟨w.heap.size + 2, 3, none⟩ = some (m3) ∧ w'.cell? ⟨w.heap.size + 2, 4, none⟩ = some (m4) ∧ w'.cell? ⟨w.heap.size + 2, 5, none⟩ = some (m5) ∧ w'.cell? ⟨gf, 0, none⟩ = some (.bool zb) ∧ w'.cell? ⟨gf, 1, none⟩ = some (.slice zA zn zc) ∧ w'.cell? ⟨gf, 2, none⟩ = some (.slice zD zm zk))
              (first | (with_reducible exact HKS.out _ (below_set6 HS6.out HS5.out.size _ _ _ _ _ _)) | (with_reducible exact HKS.out _ (below_set6 HS6.out HS4.out.size _ _ _ _ _ _)) | (with_reducible exact HKS.out _ (below_set6 HS6.out HS3.out.size _ _ _ _ _ _)) | (with_reducible exact HKS.out _ (below_set6 HS6.out HS2.out.size _ _ _ _ _ _)) | (with_reducible exact HKS.out _ (below_set6 HS6.out HS1.out.size _ _ _ _ _ _)) | (with_reducible exact HKS.out _ (below_set6 HS6.out (Nat.le_refl _) _ _ _ _ _ _)) | (with_reducible exact HKS.out _ HS6.out) | (with_reducible exact HKS.out _ (below_alloc HS6.out _)) | (with_reducible exact HKS.out _ HS5.out) | (with_reducible exact HKS.out _ (below_alloc HS5.out _)) | (with_reducible exact HKS.out _ HS4.out) | (with_reducible exact HKS.out _ (below_alloc HS4.out _)) | (with_reducible exact HKS.out _ HS3.out) | (with_reducible exact HKS.out _ (below_alloc HS3.out _)) | (with_reducible exact HKS.out _ HS2.out) | (with_reducible exact HKS.out _ (below_alloc HS2.out _)) | (with_reducible exact HKS.out _ HS1.out) | (with_reducible exact HKS.out _ (below_alloc HS1.out _)) | (with_reducible exact HKS.out _ HS0.out) | (with_reducible exact HKS.out _ HS0a.out))
              (first
                | (go_at_call 64; have HX := HS5.out; (first | (with_reducible refine Calls.mono (spec_addQ _ _ (Nat.le_refl _) (HC5.out _ HX) qy) ?_) | (with_reducible refine Calls.mono (spec_addQ _ _ (Nat.le_refl _) (HC5.out _ (below_alloc HX _)) (qy.up (below_new _ _))) ?_)); rintro e u6 ⟨z0, z1, z2, rfl, oz, hb6⟩; obtain ⟨zb, zA, zn, zc, zD, zm, zk, rfl, rfl, rfl⟩ := oz.cut; (first | (have hu6 := (show Below u5.heap.size u5 u6 from hb6)) | (have hu6 := (below_then (below_new u5 _) hb6))); have hz6 : u5.heap.size ≤ u6.heap.size := hu6.size; have qa := qa.up hu6; have qx := qx.up hu6; have qv := qv.up hu6; have ov := ov.below hu6 (by omega); have qc := qc.up hu6; have qy := qy.up hu6; have HS6 := hide (below_then HX hu6); clear HX; have hy6 := hb6.size; (first | (have kz := kz_new hb6) | (have kz := kz.below hu6 kz.lt) | skip); (first | (obtain ⟨⟨t0, t1, t2, t3, t4, t5⟩, f0, f1, f2, f3, f4, f5⟩ := kz.facts6) | skip))
                | (go_at_call 65; have HX := HS4.out; (first | (with_reducible refine Calls.mono (spec_mulQ _ _ (Nat.le_refl _) (HC2.out _ HX) qc) ?_) | (with_reducible refine Calls.mono (spec_mulQ _ _ (Nat.le_refl _) (HC2.out _ (below_alloc HX _)) (qc.up (below_new _ _))) ?_)); rintro e u5 ⟨y0, y1, y2, rfl, oy, hb5⟩; obtain ⟨yb, yA, yn, yc, yD, ym, yk, rfl, rfl, rfl⟩ := oy.cut; have qy := oy.in_ (mulQ_fit _ _) (Nat.le_refl _); (first | (have hu5 := (show Below u4.heap.size u4 u5 from hb5)) | (have hu5 := (below_then (below_new u4 _) hb5))); have hz5 : u4.heap.size ≤ u5.heap.size := hu5.size; have qa := qa.up hu5; have qx := qx.up hu5; have qv := qv.up hu5; have ov := ov.below hu5 (by omega); have qc := qc.up hu5; have HS5 := hide (below_then HX hu5); clear HX; have hy5 := hb5.size; (first | (have kz := kz_new hb5) | (have kz := kz.below hu5 kz.lt) | skip))
                | (go_at_call 71; have HX := HS3.out; (first | (with_reducible refine Calls.mono (HC4.out _ HX) ?_) | (with_reducible refine Calls.mono (HC4.out _ (below_alloc HX _)) ?_)); rintro e u4 ⟨c0, c1, c2, rfl, oc, hb4⟩; obtain ⟨cb, cA, cn, cc, cD, cm, ck, rfl, rfl, rfl⟩ := oc.cut; have qc := oc.in_ (subQ_fit _ _) (Nat.le_refl _); (first | (have hu4 := (show Below u3.heap.size u3 u4 from hb4)) | (have hu4 := (below_then (below_new u3 _) hb4))); have hz4 : u3.heap.size ≤ u4.heap.size := hu4.size; have qa := qa.up hu4; have qx := qx.up hu4; have qv := qv.up hu4; have ov := ov.below hu4 (by omega); have HS4 := hide (below_then HX hu4); clear HX; have hy4 := hb4.size; (first | (have kz := kz_new hb4) | (have kz := kz.below hu4 kz.lt) | skip))
                | (go_at_call 64; have HX := HS2.out; (first | (with_reducible refine Calls.mono (spec_addQ _ _ (Nat.le_refl _) (HC3.out _ HX) qx) ?_) | (with_reducible refine Calls.mono (spec_addQ _ _ (Nat.le_refl _) (HC3.out _ (below_alloc HX _)) (qx.up (below_new _ _))) ?_)); rintro e u3 ⟨v0, v1, v2, rfl, ov, hb3⟩; obtain ⟨vb, vA, vn, vc, vD, vm, vk, rfl, rfl, rfl⟩ := ov.cut; have qv := ov.in_ (addQ_fit _ _) (Nat.le_refl _); (first | (have hu3 := (show Below u2.heap.size u2 u3 from hb3)) | (have hu3 := (below_then (below_new u2 _) hb3))); have hz3 : u2.heap.size ≤ u3.heap.size := hu3.size; have qa := qa.up hu3; have qx := qx.up hu3; have HS3 := hide (below_then HX hu3); clear HX; have hy3 := hb3.size; (first | (have kz := kz_new hb3) | (have kz := kz.below hu3 kz.lt) | skip))
                | (go_at_call 65; have HX := HS1.out; (first | (with_reducible refine Calls.mono (spec_mulQ _ _ (Nat.le_refl _) (HC2.out _ HX) qa) ?_) | (with_reducible refine Calls.mono (spec_mulQ _ _ (Nat.le_refl _) (HC2.out _ (below_alloc HX _)) (qa.up (below_new _ _))) ?_)); rintro e u2 ⟨x0, x1, x2, rfl, ox, hb2⟩; obtain ⟨xb, xA, xn, xc, xD, xm, xk, rfl, rfl, rfl⟩ := ox.cut; have qx := ox.in_ (mulQ_fit _ _) (Nat.le_refl _); (first | (have hu2 := (show Below u1.heap.size u1 u2 from hb2)) | (have hu2 := (below_then (below_new u1 _) hb2))); have hz2 : u1.heap.size ≤ u2.heap.size := hu2.size; have qa := qa.up hu2; have HS2 := hide (below_then HX hu2); clear HX; have hy2 := hb2.size; (first | (have kz := kz_new hb2) | (have kz := kz.below hu2 kz.lt) | skip))
                | (go_at_call 71; have HX := HS0.out; (first | (with_reducible refine Calls.mono (HC1.out _ HS0.out) ?_) | (with_reducible refine Calls.mono (HC1.out _ HS0a.out) ?_)); rintro e u1 ⟨a0, a1, a2, rfl, oa, hb1⟩; obtain ⟨ab, aA, an, ac, aD, am, ak, rfl, rfl, rfl⟩ := oa.cut; have qa := oa.in_ (subQ_fit _ _) (Nat.le_refl _); (first | (have HS1 := hide (below_then HS0.out hb1)) | (have HS1 := hide (below_then HS0a.out hb1))); have hz1 : w5.heap.size ≤ u1.heap.size := HS1.out.size; clear HX; have hy1 := hb1.size; (first | (have kz := kz_drew hb1) | skip)))
          all_goals
            go_wp2_with fail
            go_meet
            case rel =>
              try simp only [drew_size, alloc_size] at hy1 hy2 hy3 hy4 hy5 hy6
              have HL := HS6.out
              first
                | ((with_reducible refine varj_set kz HL ov oz (qv) (oz.in_ (addQ_fit _ _) (Nat.le_refl _)) ?_ ?_ ?_) <;> ((try simp only [alloc_size]); omega))
                | (with_reducible exact varj_last HL (qv) (oz.in_ (addQ_fit _ _) (Nat.le_refl _)))
        case rest =>
          have hs0 := Ehs0.out
          clear Ehs0
          have hq2 := Ehq2.out
          clear Ehq2
          obtain ⟨gj, j0, j1, j2, j3, j4, j5, rfl, bn, on, hggj, hb6⟩ := hcut
          obtain ⟨jb, jA, jn, jc, jD, jm, jk, jyb, jyA, jyn, jyc, jyD, jym, jyk, rfl, rfl, rfl, rfl, rfl, rfl⟩ := on.cut
          obtain ⟨w6, hw6⟩ : ∃ xw, xw = wc := ⟨_, rfl⟩
          subst hw6
          clear HKS HS0 HS0a HBq HBm HBf
          clear yq0 yq1 yq2 yq3 yq4 yq5 ym0 ym1 ym2 ym3 ym4 ym5 yf0 yf1 yf2
          have hs6 := hb6.size
          have hT6 := below_then hT5 hb6
          have kp := kp.below hb6 kp.lt
          have kq := kq.below hb6 kq.lt
          have km := km.below hb6 km.lt
          have kr := kr.below hb6 kr.lt
          have kf := kf.below hb6 kf.lt
          have hp := hp.below (hb6.mono (by omega))
          have hq := hq.below (hb6.mono (by omega))
          have hm := hm.below (hb6.mono (by omega))
          clear hT5
          clear hb6
          have kj := bn
          have lj := bn.lt
          have oj := on
          clear bn on
          clear HC1 HC2 HC3 HC4 HC5
          obtain ⟨yp0, yp1, yp2, yp3, yp4, yp5⟩ := kp.cells6
          obtain ⟨yj0, yj1, yj2, yj3, yj4, yj5⟩ := kj.cells6
          obtain ⟨yr0, yr1, yr2, zr0, zr1, zr2⟩ := kr.facts3
          go_wp2_with fail
          refine (spec_SquareDistance w6 w6.heap.size (Nat.le_refl _) (hp.wider (by omega)) oj).mono ?_
          rintro e w9 ⟨z0, z1, z2, rfl, oz, hb9⟩
          obtain ⟨zb, zA, zn, zc, zD, zm, zk, rfl, rfl, rfl⟩ := oz.cut
          clear yr0 yr1 yr2 zr0 zr1 zr2
          have kR := kr.below hb9 kr.lt
          have hs9 := hb9.size
          have hTT := below_then hT6 hb9
          obtain ⟨yr0, yr1, yr2, zr0, zr1, zr2⟩ := kR.facts3
          have HO := hide (ret_q kR oz hTT (by omega) (by omega) (Nat.le_refl _) (.inl (by omega)))
          clear kR oz hTT hb9
          go_wp2_with fail
          refine bodyPost_ret (results_cell_row rfl _ _ (w.heap.size + 3) _ #[.bool zb, .slice zA zn zc, .slice zD zm zk] (0, 0) _ rfl HO.out.1 Tryz.underlying27 rfl Tryz.sizeRat) rfl ?_
          exact ⟨_, _, _, rfl, HO.out.2.1, HO.out.2.2⟩
end Go.Proofs.YtcpncoonbdbkmaaGreat
