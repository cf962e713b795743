/-
  The program's headings: contracts: TurnVec.
-/
import Derived.Test.YtafhhemojdblpaaDoorHedI2
namespace Go.Proofs.YtafhhemojdblpaaDoor
open Go.RowKit
set_option linter.unusedVariables false
set_option maxRecDepth 100000 in
set_option maxHeartbeats 1600000 in
theorem impl_TurnVec (w : World) (x y k : Int) (hx : (Lit.int .i64 x).wf = true) (hy : (Lit.int .i64 y).wf = true) (hQ : QTab w) :
    Calls Tryd.prog 17 #[.agg #[.int .i64 x, .int .i64 y], .int .i64 k] w fun e w' => e = .returned (.agg #[.int .i64 (turnV (x, y) k).1, .int .i64 (turnV (x, y) k).2]) ∧ Below w.heap.size w w' := by
  obtain ⟨W0, hW0⟩ : ∃ W0, W0 = (w.alloc (.cells #[.int .i64 x, .int .i64 y] 36)).alloc (.cells #[.int .i64 0, .int .i64 0] 36) := ⟨_, rfl⟩
  have hT0 : Below w.heap.size w W0 := by rw [hW0]; exact below_alloc (below_new _ _) _
  have kx : Box W0 w.heap.size 36 #[.int .i64 x, .int .i64 y] := by rw [hW0]; exact (Box.last _ _ _ rfl).alloc _
  have kr : Box W0 (w.heap.size + 1) 36 #[.int .i64 0, .int .i64 0] := by rw [hW0]; exact Box.last _ _ _ (alloc_size _ _).symm
  have HI := hide (impl_IsValidVec W0 x y hx hy)
  by_cases ev : vecB x y = true
  case neg =>
    have ev : vecB x y = false := by simpa using ev
    have HN : Hid (turnV (x, y) k = (0, 0)) := turnV_no (v := (x, y)) ev k
    rw [ev] at HI
    obtain ⟨x0, x1⟩ := kx.cells2
    clear hQ hx hy
    go_enter Tryd.func17, Tryd.ntmps17
    go_upto_region 1 with fail
    rw [← hW0]
    clear hW0
    go_wp2_with fail
    refine HI.out.mono ?_
    rintro e w1 ⟨rfl, hb1⟩
    have kr1 := kr.below hb1 kr.lt
    have HK := hide kr1
    obtain ⟨a0, a1, a2, a3⟩ := kr1.facts
    have hT1 := below_then hT0 hb1
    clear HI kr kr1 kx x0 x1 hb1 hT0
    go_wp2_with fail
    rw [HN.out]
    refine bodyPost_ret (results_cell_row rfl _ _ (w.heap.size + 1) _ #[.int .i64 0, .int .i64 0] (0, 0) _ rfl (show Box _ _ 36 #[.int .i64 0, .int .i64 0] from HK.out.set2 _ _) Tryd.underlying36 rfl Tryd.sizeVec) rfl ?_
    exact ⟨rfl, below_set2 hT1 (Nat.le_succ _) _ _⟩
  have HN : Hid (turnV (x, y) k = rotW (hd k) (x, y)) := (turnV_yes (v := (x, y)) ev k).trans ((rotW_vec (v := (x, y)) (hd_lt k) hx hy).2 ev).symm
  rw [ev] at HI
  have h4 := hd_lt k
  have HH := hide (fun W => impl_headingAfter W k)
  have HM := hide (fun W => impl_mtimesQ W (hd k) h4 x y)
  rw [← HN.out] at HM
  have HG := hide (fun (W : World) (hb : Below w.heap.size w W) => (hQ.below hb (Nat.le_refl _)).2 (hd k) h4)
  have hg := hQ.1
  generalize (turnV (x, y) k).1 = u at *
  generalize (turnV (x, y) k).2 = v at *
  generalize hd k = q at *
  generalize (qx q).1 = q0 at *
  generalize (qx q).2 = q1 at *
  generalize (qy q).1 = q2 at *
  generalize (qy q).2 = q3 at *
  have h5 : (0 : Int) ≤ (q : Int) := Int.natCast_nonneg _
  have h6 : (q : Int) < 4 := by omega
  obtain ⟨x0, x1⟩ := kx.cells2
  clear hQ hx hy HN ev
  go_enter Tryd.func17, Tryd.ntmps17
  go_upto_region 1 with fail
  rw [← hW0]
  clear hW0
  go_wp2_with fail
  refine HI.out.mono ?_
  rintro e w1 ⟨rfl, hb1⟩
  have HKR := hide (kr.below hb1 kr.lt)
  have HKX := hide (kx.below hb1 kx.lt)
  have hT1 := below_then hT0 hb1
  have hs1 : w.heap.size + 2 ≤ w1.heap.size := by have := HKR.out.lt; omega
  clear HI kr kx x0 x1 hb1 hT0
  have HT1 := hide hT1
  have HS0 : Hid (Below w1.heap.size w1 w1.drew) := (Below.refl _ _).drew
  have HKS := hide (fun (W : World) (hq : Below w1.heap.size w1 W) => (⟨(HKX.out.below hq HKX.out.lt).cell 0, (HKX.out.below hq HKX.out.lt).cell 1, HG.out W (below_then HT1.out hq)⟩ : W.cell? ⟨w.heap.size, 0, none⟩ = some (.int .i64 x) ∧ W.cell? ⟨w.heap.size, 1, none⟩ = some (.int .i64 y) ∧ W.cell? ⟨0, q * 4, none⟩ = some (.int .i64 q0) ∧ W.cell? ⟨0, q * 4 + 1, none⟩ = some (.int .i64 q1) ∧ W.cell? ⟨0, q * 4 + 2, none⟩ = some (.int .i64 q2) ∧ W.cell? ⟨0, q * 4 + 3, none⟩ = some (.int .i64 q3)))
  have HKF := hide (fun (W : World) (hq : Below w1.heap.size w1 W) => (⟨(HKR.out.below hq HKR.out.lt).cell 0, (HKR.out.below hq HKR.out.lt).cell 1, (HKR.out.below hq HKR.out.lt).frozen 0, (HKR.out.below hq HKR.out.lt).frozen 1⟩ : W.cell? ⟨w.heap.size + 1, 0, none⟩ = some (.int .i64 0) ∧ W.cell? ⟨w.heap.size + 1, 1, none⟩ = some (.int .i64 0) ∧ W.frozen? ⟨w.heap.size + 1, 0, none⟩ = false ∧ W.frozen? ⟨w.heap.size + 1, 1, none⟩ = false))
  have HKT := hide (fun (W : World) (hq : Below w1.heap.size w1 W) (a b : Value) => (⟨((HKX.out.below hq HKX.out.lt).setv (show w.heap.size ≠ w.heap.size + 1 by omega) 0 a).setv (show w.heap.size ≠ w.heap.size + 1 by omega) 1 b |>.cell 0, ((HKX.out.below hq HKX.out.lt).setv (show w.heap.size ≠ w.heap.size + 1 by omega) 0 a).setv (show w.heap.size ≠ w.heap.size + 1 by omega) 1 b |>.cell 1, HG.out _ (below_set2 (below_then HT1.out hq) (Nat.le_succ _) a b)⟩ : ((W.setCell ⟨w.heap.size + 1, 0, none⟩ a).setCell ⟨w.heap.size + 1, 1, none⟩ b).cell? ⟨w.heap.size, 0, none⟩ = some (.int .i64 x) ∧ ((W.setCell ⟨w.heap.size + 1, 0, none⟩ a).setCell ⟨w.heap.size + 1, 1, none⟩ b).cell? ⟨w.heap.size, 1, none⟩ = some (.int .i64 y) ∧ ((W.setCell ⟨w.heap.size + 1, 0, none⟩ a).setCell ⟨w.heap.size + 1, 1, none⟩ b).cell? ⟨0, q * 4, none⟩ = some (.int .i64 q0) ∧ ((W.setCell ⟨w.heap.size + 1, 0, none⟩ a).setCell ⟨w.heap.size + 1, 1, none⟩ b).cell? ⟨0, q * 4 + 1, none⟩ = some (.int .i64 q1) ∧ ((W.setCell ⟨w.heap.size + 1, 0, none⟩ a).setCell ⟨w.heap.size + 1, 1, none⟩ b).cell? ⟨0, q * 4 + 2, none⟩ = some (.int .i64 q2) ∧ ((W.setCell ⟨w.heap.size + 1, 0, none⟩ a).setCell ⟨w.heap.size + 1, 1, none⟩ b).cell? ⟨0, q * 4 + 3, none⟩ = some (.int .i64 q3)))
  have HKE := hide (fun (W : World) (hq : Below w1.heap.size w1 W) => HKR.out.below hq HKR.out.lt)
  go_wp2_with fail
  go_region_held3 (fun w' => w'.cell? ⟨w.heap.size, 0, none⟩ = some (.int .i64 x) ∧ w'.cell? ⟨w.heap.size, 1, none⟩ = some (.int .i64 y) ∧ w'.cell? ⟨0, q * 4, none⟩ = some (.int .i64 q0) ∧ w'.cell? ⟨0, q * 4 + 1, none⟩ = some (.int .i64 q1) ∧ w'.cell? ⟨0, q * 4 + 2, none⟩ = some (.int .i64 q2) ∧ w'.cell? ⟨0, q * 4 + 3, none⟩ = some (.int .i64 q3))
    (first | (with_reducible exact HKT.out _ HS2.out _ _) | (with_reducible exact HKS.out _ HS2.out) | (with_reducible exact HKS.out _ HS1.out) | (with_reducible exact HKS.out _ HS0.out))
    (first
      | (go_at_call 30; refine (HH.out _).mono ?_; rintro e w2 ⟨rfl, rfl⟩; have HS1 := hide HS0.out)
      | (go_at_call 32; refine (HM.out _).mono ?_; rintro e w3 ⟨rfl, hb3⟩; have HS2 := hide (below_then HS1.out hb3); obtain ⟨t0, t1, z0, z1⟩ := HKF.out _ HS2.out))
  all_goals
    go_wp2_with fail
    refine bodyPost_ret (results_cell_row rfl _ _ (w.heap.size + 1) _ #[.int .i64 u, .int .i64 v] (0, 0) _ rfl (show Box _ _ 36 #[.int .i64 u, .int .i64 v] from (HKE.out _ HS2.out).set2 _ _) Tryd.underlying36 rfl Tryd.sizeVec) rfl ?_
    exact ⟨rfl, below_set2 (below_then HT1.out HS2.out) (Nat.le_succ _) _ _⟩
end Go.Proofs.YtafhhemojdblpaaDoor
