/-
  The reference's free placements: contracts: LimitsOf.
-/
import Derived.Test.YtocllmaikngoaaaDoorFreR
import Derived.Test.YtocllmaikngoaaaDoorFI
import Derived.Test.YtocllmaikngoaaaDoorMinR2
namespace Go.Proofs.YtocllmaikngoaaaDoor
open Go.RowKit
set_option linter.unusedVariables false
set_option maxRecDepth 100000 in
set_option maxHeartbeats 6400000 in
theorem spec_LimitsOf (w : World) (B : Nat) (hB : B ≤ w.heap.size) {v0 v1 v2 v3 v4 v5 v6 : Value} {S : Scn} (h : SIn w B v0 v1 v2 v3 v4 v5 v6 S) (k : Int) (fk : (Lit.int .i64 k).wf = true) :
    Calls Tryd.prog 15 #[.agg #[v0, v1, v2, v3, v4, v5, v6], .int .i64 k] w fun e w' => e = .returned (.tuple #[.agg #[.int .i64 (limX S k).lx, .int .i64 (limX S k).ly, .int .i64 (limX S k).hx, .int .i64 (limX S k).hy], .bool (limB S k)]) ∧ Below w.heap.size w w' := by
  have h' := h
  obtain ⟨RA, rc, OA, oc, TA, tc, os, ⟨rfl, rfl, rfl, rfl, rfl, rfl, rfl⟩, hR, hO, hT, ⟨hlx, hly⟩, hhx, hhy⟩ := h
  clear hR hO hT
  have HR := hide (fun (W : World) (hb : Below w.heap.size w W) => spec_RobotAt W B (Nat.le_trans hB hb.size) (h'.below (hb.mono hB)) k fk)
  have hrl := robL_len S k
  have HRW := hide (robL_wf S k)
  obtain ⟨hR0, hR1, hR2, hR3⟩ := lim_i64 (S := S) (k := k) ⟨⟨hlx, hly⟩, hhx, hhy⟩
  have HLB := hide (show limB S k = (polyB (robL S k) && (decide (S.lx - (loB (robL S k)).1 < S.hx - (hiB (robL S k)).1) && decide (S.ly - (loB (robL S k)).2 < S.hy - (hiB (robL S k)).2)) ) from rfl)
  have HLX := hide (show limX S k = if limB S k = true then ⟨S.lx - (loB (robL S k)).1, S.ly - (loB (robL S k)).2, S.hx - (hiB (robL S k)).1, S.hy - (hiB (robL S k)).2⟩ else ⟨0, 0, 0, 0⟩ from rfl)
  generalize robL S k = rl at *
  generalize limB S k = lb at *
  generalize limX S k = lx at *
  obtain ⟨x0, y0, x1, y1⟩ := lx
  have hlx := bounds_i64 hlx
  have hly := bounds_i64 hly
  have hhx := bounds_i64 hhx
  have hhy := bounds_i64 hhy
  obtain ⟨W0, hW0⟩ : ∃ W0, W0 = (w.alloc (.cells #[.int .i64 S.lx, .int .i64 S.ly, .int .i64 S.hx, .int .i64 S.hy, .slice RA S.r.length rc, .slice OA S.o.length oc, .slice TA S.t.length tc] 34)).alloc (.cells #[.int .i64 0, .int .i64 0, .int .i64 0, .int .i64 0] 42) := ⟨_, rfl⟩
  have hT0 : Below w.heap.size w W0 := by rw [hW0]; exact below_alloc (below_new _ _) _
  have k0 : Box W0 w.heap.size 34 #[.int .i64 S.lx, .int .i64 S.ly, .int .i64 S.hx, .int .i64 S.hy, .slice RA S.r.length rc, .slice OA S.o.length oc, .slice TA S.t.length tc] := by rw [hW0]; exact (Box.last _ _ _ rfl).alloc _
  have kr : Box W0 (w.heap.size + 1) 42 #[.int .i64 0, .int .i64 0, .int .i64 0, .int .i64 0] := by rw [hW0]; exact Box.last _ _ _ (alloc_size _ _).symm
  have hs0 : w.heap.size + 2 ≤ W0.heap.size := by rw [hW0, alloc_size, alloc_size]; omega
  clear h' fk
  generalize S.lx = sx0 at *
  generalize S.ly = sy0 at *
  generalize S.hx = sx1 at *
  generalize S.hy = sy1 at *
  generalize S.r.length = rn0 at *
  generalize S.o.length = on at *
  generalize S.t.length = tn at *
  go_enter Tryd.func15, Tryd.ntmps15
  go_upto_region 1 with fail
  rw [← hW0]
  clear hW0
  obtain ⟨z0, z1, z2, z3, z4, z5, z6⟩ := k0.cells7
  go_wp2_with fail
  refine (HR.out _ hT0).mono ?_
  rintro e w1 ⟨v, rfl, o, hb1, -⟩
  obtain ⟨VA, vc, rfl⟩ := o.form
  clear z0 z1 z2 z3 z4 z5 z6 HR
  have k0 := k0.below hb1 k0.lt
  have kr := kr.below hb1 kr.lt
  have hT1 := below_then hT0 hb1
  have hs1 := hb1.size
  have HW := hide (spec_WidthOf w1 w1.heap.size (Nat.le_refl _) VA rl.length vc rl ⟨rfl, o.rd, by omega, HRW.out⟩)
  clear hb1 hT0 o HRW
  generalize polyB rl = pb at *
  generalize (loB rl).1 = a0 at *
  generalize (loB rl).2 = b0 at *
  generalize (hiB rl).1 = a1 at *
  generalize (hiB rl).2 = b1 at *
  generalize rl.length = rln at *
  go_wp2_with fail
  refine HW.out.mono ?_
  rintro e w2 ⟨rfl, hb2⟩
  have k0 := k0.below hb2 k0.lt
  have kr := kr.below hb2 kr.lt
  have hT2 := below_then hT1 hb2
  have hs2 := hb2.size
  clear hb2 hT1 HW
  obtain ⟨W3, hW3⟩ : ∃ W3, W3 = (w2.alloc (.cells #[.int .i64 a0, .int .i64 b0] 31)).alloc (.cells #[.int .i64 a1, .int .i64 b1] 31) := ⟨_, rfl⟩
  have hb3 : Below w2.heap.size w2 W3 := by rw [hW3]; exact below_alloc (below_new _ _) _
  have kl : Box W3 w2.heap.size 31 #[.int .i64 a0, .int .i64 b0] := by rw [hW3]; exact (Box.last _ _ _ rfl).alloc _
  have kh : Box W3 (w2.heap.size + 1) 31 #[.int .i64 a1, .int .i64 b1] := by rw [hW3]; exact Box.last _ _ _ (alloc_size _ _).symm
  have k0 := k0.below hb3 k0.lt
  have kr := kr.below hb3 kr.lt
  have hT3 := below_then hT2 hb3
  have hs3 := hb3.size
  clear hb3 hT2
  go_upto_region 2 with fail
  rw [← hW3]
  clear hW3
  cases pb with
  | false =>
    obtain rfl : lb = false := by rw [HLB.out]; rfl
    have HE := hide (show x0 = 0 ∧ y0 = 0 ∧ x1 = 0 ∧ y1 = 0 from by
      have h := HLX.out
      simpa using h)
    obtain ⟨rfl, rfl, rfl, rfl⟩ := HE.out
    clear HLB HLX HE k0 kl kh hR0 hR1 hR2 hR3
    have HKR := hide kr
    obtain ⟨r0, r1, r2, r3⟩ := kr.cells4
    obtain ⟨f0, f1, f2, f3⟩ := kr.frz4
    clear kr
    go_wp2_with fail
    refine bodyPost_ret (results_cell_tmp rfl _ _ (w.heap.size + 1) _ #[.int .i64 0, .int .i64 0, .int .i64 0, .int .i64 0] (0, 0) _ rfl (show Box _ _ 42 #[.int .i64 0, .int .i64 0, .int .i64 0, .int .i64 0] from HKR.out.set4) Tryd.underlying42 rfl Tryd.sizeBox) rfl ?_
    exact ⟨rfl, set4_below hT3 (Nat.le_succ _) _ _ _ _⟩
  | true =>
    rw [Bool.true_and] at HLB
    obtain ⟨z0, z1, z2, z3, z4, z5, z6⟩ := k0.cells7
    obtain ⟨l0, l1⟩ := kl.cells2
    obtain ⟨h0, h1⟩ := kh.cells2
    obtain ⟨W4, hW4⟩ : ∃ W4, W4 = W3.alloc (.cells #[.int .i64 (sx0 - a0), .int .i64 (sy0 - b0), .int .i64 (sx1 - a1), .int .i64 (sy1 - b1)] 42) := ⟨_, rfl⟩
    have hb4 : Below W3.heap.size W3 W4 := by rw [hW4]; exact below_new _ _
    have kb : Box W4 W3.heap.size 42 #[.int .i64 (sx0 - a0), .int .i64 (sy0 - b0), .int .i64 (sx1 - a1), .int .i64 (sy1 - b1)] := by rw [hW4]; exact Box.last _ _ _ rfl
    have kr := kr.below hb4 kr.lt
    have hT4 := below_then hT3 hb4
    go_upto_region 5 with fail
    rw [← hW4]
    clear hW4 z0 z1 z2 z3 z4 z5 z6 l0 l1 h0 h1 k0 kl kh hT3 hb4
    obtain ⟨v0, v1, v2, v3⟩ := kb.cells4
    have HLX2 := hide HLX.out
    clear HLX hR0 hR1 hR2 hR3
    generalize sx0 - a0 = d0 at *
    generalize sy0 - b0 = d1 at *
    generalize sx1 - a1 = d2 at *
    generalize sy1 - b1 = d3 at *
    by_cases c1 : d0 < d2
    · by_cases c2 : d1 < d3
      · obtain rfl : lb = true := by rw [HLB.out, decide_eq_true c1, decide_eq_true c2]; rfl
        have HE := hide (show x0 = d0 ∧ y0 = d1 ∧ x1 = d2 ∧ y1 = d3 from by
          have h := HLX2.out
          rw [if_pos rfl] at h
          injection h with e1 e2 e3 e4
          exact ⟨e1, e2, e3, e4⟩)
        obtain ⟨rfl, rfl, rfl, rfl⟩ := HE.out
        clear HLB HLX2 HE
        have HKR := hide kr
        obtain ⟨r0, r1, r2, r3⟩ := kr.cells4
        obtain ⟨f0, f1, f2, f3⟩ := kr.frz4
        clear kr
        go_wp2_with fail
        refine bodyPost_ret (results_cell_tmp rfl _ _ (w.heap.size + 1) _ #[.int .i64 x0, .int .i64 y0, .int .i64 x1, .int .i64 y1] (0, 0) _ rfl (show Box _ _ 42 #[.int .i64 x0, .int .i64 y0, .int .i64 x1, .int .i64 y1] from HKR.out.set4) Tryd.underlying42 rfl Tryd.sizeBox) rfl ?_
        exact ⟨rfl, set4_below hT4 (Nat.le_succ _) _ _ _ _⟩
      · obtain rfl : lb = false := by rw [HLB.out, decide_eq_false c2, Bool.and_false]
        have HE := hide (show x0 = 0 ∧ y0 = 0 ∧ x1 = 0 ∧ y1 = 0 from by
          have h := HLX2.out
          simpa using h)
        obtain ⟨rfl, rfl, rfl, rfl⟩ := HE.out
        clear HLB HLX2 HE
        have HKR := hide kr
        obtain ⟨r0, r1, r2, r3⟩ := kr.cells4
        obtain ⟨f0, f1, f2, f3⟩ := kr.frz4
        clear kr
        go_wp2_with fail
        refine bodyPost_ret (results_cell_tmp rfl _ _ (w.heap.size + 1) _ #[.int .i64 0, .int .i64 0, .int .i64 0, .int .i64 0] (0, 0) _ rfl (show Box _ _ 42 #[.int .i64 0, .int .i64 0, .int .i64 0, .int .i64 0] from HKR.out.set4) Tryd.underlying42 rfl Tryd.sizeBox) rfl ?_
        exact ⟨rfl, set4_below hT4 (Nat.le_succ _) _ _ _ _⟩
    · obtain rfl : lb = false := by rw [HLB.out, decide_eq_false c1, Bool.false_and]
      have HE := hide (show x0 = 0 ∧ y0 = 0 ∧ x1 = 0 ∧ y1 = 0 from by
        have h := HLX2.out
        simpa using h)
      obtain ⟨rfl, rfl, rfl, rfl⟩ := HE.out
      clear HLB HLX2 HE
      have HKR := hide kr
      obtain ⟨r0, r1, r2, r3⟩ := kr.cells4
      obtain ⟨f0, f1, f2, f3⟩ := kr.frz4
      clear kr
      go_wp2_with fail
      refine bodyPost_ret (results_cell_tmp rfl _ _ (w.heap.size + 1) _ #[.int .i64 0, .int .i64 0, .int .i64 0, .int .i64 0] (0, 0) _ rfl (show Box _ _ 42 #[.int .i64 0, .int .i64 0, .int .i64 0, .int .i64 0] from HKR.out.set4) Tryd.underlying42 rfl Tryd.sizeBox) rfl ?_
      exact ⟨rfl, set4_below hT4 (Nat.le_succ _) _ _ _ _⟩
end Go.Proofs.YtocllmaikngoaaaDoor
