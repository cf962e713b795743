/-
  The program's headings: contracts: a matrix turned.
-/
import Derived.Test.YtafhhemojdblpaaDoorHedI2
namespace Go.Proofs.YtafhhemojdblpaaDoor
open Go.RowKit
set_option linter.unusedVariables false
theorem Box.cells4 {w : World} {g : Nat} {E : TypeId} {a b c d : Value} (h : Box w g E #[a, b, c, d]) : w.cell? ⟨g, 0, none⟩ = some a ∧ w.cell? ⟨g, 1, none⟩ = some b ∧ w.cell? ⟨g, 2, none⟩ = some c ∧ w.cell? ⟨g, 3, none⟩ = some d := ⟨h.cell 0, h.cell 1, h.cell 2, h.cell 3⟩
theorem Box.set4 {w : World} {g : Nat} {E : TypeId} {a b c d : Value} (h : Box w g E #[a, b, c, d]) (x y z u : Value) : Box ((((w.setCell ⟨g, 0, none⟩ x).setCell ⟨g, 1, none⟩ y).setCell ⟨g, 2, none⟩ z).setCell ⟨g, 3, none⟩ u) g E #[x, y, z, u] := (((h.set 0 x).set 1 y).set 2 z).set 3 u
theorem below_set4 {w W : World} {g : Nat} (hb : Below w.heap.size w W) (hg : w.heap.size ≤ g) (x y z u : Value) : Below w.heap.size w ((((W.setCell ⟨g, 0, none⟩ x).setCell ⟨g, 1, none⟩ y).setCell ⟨g, 2, none⟩ z).setCell ⟨g, 3, none⟩ u) :=
  (below_set2 hb hg x y).setCell (p := ⟨g, 2, none⟩) hg z |>.setCell (p := ⟨g, 3, none⟩) hg u
theorem Tryd.sizeMat : (Tryd.prog.info? 52).map (·.size) = some 4 := by kernel_rfl
set_option maxRecDepth 100000 in
set_option maxHeartbeats 1600000 in
theorem impl_mturned (w : World) (a b c d k : Int) (hQ : QTab w) :
    Calls Tryd.prog 29 #[.agg #[.int .i64 a, .int .i64 b, .int .i64 c, .int .i64 d], .int .i64 k] w fun e w' => e = .returned (.agg #[.int .i64 (rotW (hd k) (a, b)).1, .int .i64 (rotW (hd k) (a, b)).2, .int .i64 (rotW (hd k) (c, d)).1, .int .i64 (rotW (hd k) (c, d)).2]) ∧ Below w.heap.size w w' := by
  obtain ⟨W0, hW0⟩ : ∃ W0, W0 = (w.alloc (.cells #[.int .i64 a, .int .i64 b, .int .i64 c, .int .i64 d] 52)).alloc (.cells #[.int .i64 0, .int .i64 0, .int .i64 0, .int .i64 0] 52) := ⟨_, rfl⟩
  have hT0 : Below w.heap.size w W0 := by rw [hW0]; exact below_alloc (below_new _ _) _
  have ka : Box W0 w.heap.size 52 #[.int .i64 a, .int .i64 b, .int .i64 c, .int .i64 d] := by rw [hW0]; exact (Box.last _ _ _ rfl).alloc _
  have kr : Box W0 (w.heap.size + 1) 52 #[.int .i64 0, .int .i64 0, .int .i64 0, .int .i64 0] := by rw [hW0]; exact Box.last _ _ _ (alloc_size _ _).symm
  have h4 := hd_lt k
  have HH := hide (impl_headingAfter W0 k)
  have HM1 := hide (fun W => impl_mtimesQ W (hd k) h4 a b)
  have HM2 := hide (fun W => impl_mtimesQ W (hd k) h4 c d)
  obtain ⟨hg, hq⟩ := hQ.below hT0 (Nat.le_refl _)
  obtain ⟨c0, c1, c2, c3⟩ := hq (hd k) h4
  generalize (rotW (hd k) (a, b)).1 = u0 at *
  generalize (rotW (hd k) (a, b)).2 = u1 at *
  generalize (rotW (hd k) (c, d)).1 = u2 at *
  generalize (rotW (hd k) (c, d)).2 = u3 at *
  generalize hd k = q at *
  generalize (qx q).1 = q0 at *
  generalize (qx q).2 = q1 at *
  generalize (qy q).1 = q2 at *
  generalize (qy q).2 = q3 at *
  have h5 : (0 : Int) ≤ (q : Int) := Int.natCast_nonneg _
  have h6 : (q : Int) < 4 := by omega
  clear hq hQ
  go_enter Tryd.func29, Tryd.ntmps29
  go_upto_region 1 with fail
  rw [← hW0]
  clear hW0
  go_wp2_with fail
  refine HH.out.mono ?_
  rintro e w9 ⟨rfl, rfl⟩
  obtain ⟨W2, hW2⟩ : ∃ W2, W2 = W0.alloc (.cells #[.int .i64 q0, .int .i64 q1, .int .i64 q2, .int .i64 q3] 52) := ⟨_, rfl⟩
  have hb2 : Below W0.heap.size W0 W2 := by rw [hW2]; exact below_new _ _
  have HKQ : Hid (Box W2 W0.heap.size 52 #[.int .i64 q0, .int .i64 q1, .int .i64 q2, .int .i64 q3]) := by rw [hW2]; exact Box.last _ _ _ rfl
  have HKA := hide (ka.below hb2 ka.lt)
  have HKR := hide (kr.below hb2 kr.lt)
  have hs1 : w.heap.size + 2 ≤ W0.heap.size := by have := kr.lt; omega
  have HT2 := hide (below_then hT0 hb2)
  clear HH ka kr
  go_upto_region 2 with fail
  rw [← hW2]
  clear hW2 hb2 hT0 c0 c1 c2 c3
  have HS0 : Hid (Below W2.heap.size W2 W2.drew) := (Below.refl _ _).drew
  have HKS := hide (fun (W : World) (hq : Below W2.heap.size W2 W) => (⟨(HKA.out.below hq HKA.out.lt).cell 0, (HKA.out.below hq HKA.out.lt).cell 1, (HKA.out.below hq HKA.out.lt).cell 2, (HKA.out.below hq HKA.out.lt).cell 3, (HKQ.out.below hq HKQ.out.lt).cell 0, (HKQ.out.below hq HKQ.out.lt).cell 1, (HKQ.out.below hq HKQ.out.lt).cell 2, (HKQ.out.below hq HKQ.out.lt).cell 3⟩ : W.cell? ⟨w.heap.size, 0, none⟩ = some (.int .i64 a) ∧ W.cell? ⟨w.heap.size, 1, none⟩ = some (.int .i64 b) ∧ W.cell? ⟨w.heap.size, 2, none⟩ = some (.int .i64 c) ∧ W.cell? ⟨w.heap.size, 3, none⟩ = some (.int .i64 d) ∧ W.cell? ⟨W0.heap.size, 0, none⟩ = some (.int .i64 q0) ∧ W.cell? ⟨W0.heap.size, 1, none⟩ = some (.int .i64 q1) ∧ W.cell? ⟨W0.heap.size, 2, none⟩ = some (.int .i64 q2) ∧ W.cell? ⟨W0.heap.size, 3, none⟩ = some (.int .i64 q3)))
  have HKF := hide (fun (W : World) (hq : Below W2.heap.size W2 W) => (⟨(HKR.out.below hq HKR.out.lt).cell 0, (HKR.out.below hq HKR.out.lt).cell 1, (HKR.out.below hq HKR.out.lt).cell 2, (HKR.out.below hq HKR.out.lt).cell 3, (HKR.out.below hq HKR.out.lt).frozen 0, (HKR.out.below hq HKR.out.lt).frozen 1, (HKR.out.below hq HKR.out.lt).frozen 2, (HKR.out.below hq HKR.out.lt).frozen 3⟩ : W.cell? ⟨w.heap.size + 1, 0, none⟩ = some (.int .i64 0) ∧ W.cell? ⟨w.heap.size + 1, 1, none⟩ = some (.int .i64 0) ∧ W.cell? ⟨w.heap.size + 1, 2, none⟩ = some (.int .i64 0) ∧ W.cell? ⟨w.heap.size + 1, 3, none⟩ = some (.int .i64 0) ∧ W.frozen? ⟨w.heap.size + 1, 0, none⟩ = false ∧ W.frozen? ⟨w.heap.size + 1, 1, none⟩ = false ∧ W.frozen? ⟨w.heap.size + 1, 2, none⟩ = false ∧ W.frozen? ⟨w.heap.size + 1, 3, none⟩ = false))
  have HKT := hide (fun (W : World) (hq : Below W2.heap.size W2 W) (r0 r1 r2 r3 : Value) => (⟨(((((HKA.out.below hq HKA.out.lt).setv (show w.heap.size ≠ w.heap.size + 1 by omega) 0 r0).setv (show w.heap.size ≠ w.heap.size + 1 by omega) 1 r1).setv (show w.heap.size ≠ w.heap.size + 1 by omega) 2 r2).setv (show w.heap.size ≠ w.heap.size + 1 by omega) 3 r3).cell 0, (((((HKA.out.below hq HKA.out.lt).setv (show w.heap.size ≠ w.heap.size + 1 by omega) 0 r0).setv (show w.heap.size ≠ w.heap.size + 1 by omega) 1 r1).setv (show w.heap.size ≠ w.heap.size + 1 by omega) 2 r2).setv (show w.heap.size ≠ w.heap.size + 1 by omega) 3 r3).cell 1, (((((HKA.out.below hq HKA.out.lt).setv (show w.heap.size ≠ w.heap.size + 1 by omega) 0 r0).setv (show w.heap.size ≠ w.heap.size + 1 by omega) 1 r1).setv (show w.heap.size ≠ w.heap.size + 1 by omega) 2 r2).setv (show w.heap.size ≠ w.heap.size + 1 by omega) 3 r3).cell 2, (((((HKA.out.below hq HKA.out.lt).setv (show w.heap.size ≠ w.heap.size + 1 by omega) 0 r0).setv (show w.heap.size ≠ w.heap.size + 1 by omega) 1 r1).setv (show w.heap.size ≠ w.heap.size + 1 by omega) 2 r2).setv (show w.heap.size ≠ w.heap.size + 1 by omega) 3 r3).cell 3, (((((HKQ.out.below hq HKQ.out.lt).setv (show W0.heap.size ≠ w.heap.size + 1 by omega) 0 r0).setv (show W0.heap.size ≠ w.heap.size + 1 by omega) 1 r1).setv (show W0.heap.size ≠ w.heap.size + 1 by omega) 2 r2).setv (show W0.heap.size ≠ w.heap.size + 1 by omega) 3 r3).cell 0, (((((HKQ.out.below hq HKQ.out.lt).setv (show W0.heap.size ≠ w.heap.size + 1 by omega) 0 r0).setv (show W0.heap.size ≠ w.heap.size + 1 by omega) 1 r1).setv (show W0.heap.size ≠ w.heap.size + 1 by omega) 2 r2).setv (show W0.heap.size ≠ w.heap.size + 1 by omega) 3 r3).cell 1, (((((HKQ.out.below hq HKQ.out.lt).setv (show W0.heap.size ≠ w.heap.size + 1 by omega) 0 r0).setv (show W0.heap.size ≠ w.heap.size + 1 by omega) 1 r1).setv (show W0.heap.size ≠ w.heap.size + 1 by omega) 2 r2).setv (show W0.heap.size ≠ w.heap.size + 1 by omega) 3 r3).cell 2, (((((HKQ.out.below hq HKQ.out.lt).setv (show W0.heap.size ≠ w.heap.size + 1 by omega) 0 r0).setv (show W0.heap.size ≠ w.heap.size + 1 by omega) 1 r1).setv (show W0.heap.size ≠ w.heap.size + 1 by omega) 2 r2).setv (show W0.heap.size ≠ w.heap.size + 1 by omega) 3 r3).cell 3⟩ : ((((W.setCell ⟨w.heap.size + 1, 0, none⟩ r0).setCell ⟨w.heap.size + 1, 1, none⟩ r1).setCell ⟨w.heap.size + 1, 2, none⟩ r2).setCell ⟨w.heap.size + 1, 3, none⟩ r3).cell? ⟨w.heap.size, 0, none⟩ = some (.int .i64 a) ∧ ((((W.setCell ⟨w.heap.size + 1, 0, none⟩ r0).setCell ⟨w.heap.size + 1, 1, none⟩ r1).setCell ⟨w.heap.size + 1, 2, none⟩ r2).setCell ⟨w.heap.size + 1, 3, none⟩ r3).cell? ⟨w.heap.size, 1, none⟩ = some (.int .i64 b) ∧ ((((W.setCell ⟨w.heap.size + 1, 0, none⟩ r0).setCell ⟨w.heap.size + 1, 1, none⟩ r1).setCell ⟨w.heap.size + 1, 2, none⟩ r2).setCell ⟨w.heap.size + 1, 3, none⟩ r3).cell? ⟨w.heap.size, 2, none⟩ = some (.int .i64 c) ∧ ((((W.setCell ⟨w.heap.size + 1, 0, none⟩ r0).setCell ⟨w.heap.size + 1, 1, none⟩ r1).setCell ⟨w.heap.size + 1, 2, none⟩ r2).setCell ⟨w.heap.size + 1, 3, none⟩ r3).cell? ⟨w.heap.size, 3, none⟩ = some (.int .i64 d) ∧ ((((W.setCell ⟨w.heap.size + 1, 0, none⟩ r0).setCell ⟨w.heap.size + 1, 1, none⟩ r1).setCell ⟨w.heap.size + 1, 2, none⟩ r2).setCell ⟨w.heap.size + 1, 3, none⟩ r3).cell? ⟨W0.heap.size, 0, none⟩ = some (.int .i64 q0) ∧ ((((W.setCell ⟨w.heap.size + 1, 0, none⟩ r0).setCell ⟨w.heap.size + 1, 1, none⟩ r1).setCell ⟨w.heap.size + 1, 2, none⟩ r2).setCell ⟨w.heap.size + 1, 3, none⟩ r3).cell? ⟨W0.heap.size, 1, none⟩ = some (.int .i64 q1) ∧ ((((W.setCell ⟨w.heap.size + 1, 0, none⟩ r0).setCell ⟨w.heap.size + 1, 1, none⟩ r1).setCell ⟨w.heap.size + 1, 2, none⟩ r2).setCell ⟨w.heap.size + 1, 3, none⟩ r3).cell? ⟨W0.heap.size, 2, none⟩ = some (.int .i64 q2) ∧ ((((W.setCell ⟨w.heap.size + 1, 0, none⟩ r0).setCell ⟨w.heap.size + 1, 1, none⟩ r1).setCell ⟨w.heap.size + 1, 2, none⟩ r2).setCell ⟨w.heap.size + 1, 3, none⟩ r3).cell? ⟨W0.heap.size, 3, none⟩ = some (.int .i64 q3)))
  have HKE := hide (fun (W : World) (hq : Below W2.heap.size W2 W) => HKR.out.below hq HKR.out.lt)
  go_region_held3 (fun w' => w'.cell? ⟨w.heap.size, 0, none⟩ = some (.int .i64 a) ∧ w'.cell? ⟨w.heap.size, 1, none⟩ = some (.int .i64 b) ∧ w'.cell? ⟨w.heap.size, 2, none⟩ = some (.int .i64 c) ∧ w'.cell? ⟨w.heap.size, 3, none⟩ = some (.int .i64 d) ∧ w'.cell? ⟨W0.heap.size, 0, none⟩ = some (.int .i64 q0) ∧ w'.cell? ⟨W0.heap.size, 1, none⟩ = some (.int .i64 q1) ∧ w'.cell? ⟨W0.heap.size, 2, none⟩ = some (.int .i64 q2) ∧ w'.cell? ⟨W0.heap.size, 3, none⟩ = some (.int .i64 q3))
    (first | (with_reducible exact HKT.out _ HS2.out _ _ _ _) | (with_reducible exact HKS.out _ HS2.out) | (with_reducible exact HKS.out _ HS1.out) | (with_reducible exact HKS.out _ HS0.out))
    (first
      | (go_at_call 32; (with_reducible refine Calls.mono (HM2.out _) ?_); rintro e w4 ⟨rfl, hb4⟩; have HS2 := hide (below_then HS1.out hb4); obtain ⟨t0, t1, t2, t3, z0, z1, z2, z3⟩ := HKF.out _ HS2.out)
      | (go_at_call 32; (with_reducible refine Calls.mono (HM1.out _) ?_); rintro e w3 ⟨rfl, hb3⟩; have HS1 := hide (below_then HS0.out hb3)))
  all_goals
    go_wp2_with fail
    refine bodyPost_ret (results_cell_row rfl _ _ (w.heap.size + 1) _ #[.int .i64 u0, .int .i64 u1, .int .i64 u2, .int .i64 u3] (0, 0) _ rfl (show Box _ _ 52 #[.int .i64 u0, .int .i64 u1, .int .i64 u2, .int .i64 u3] from (HKE.out _ HS2.out).set4 _ _ _ _) Tryd.underlying52 rfl Tryd.sizeMat) rfl ?_
    exact ⟨rfl, below_set4 (below_then HT2.out HS2.out) (Nat.le_succ _) _ _ _ _⟩
end Go.Proofs.YtafhhemojdblpaaDoor
