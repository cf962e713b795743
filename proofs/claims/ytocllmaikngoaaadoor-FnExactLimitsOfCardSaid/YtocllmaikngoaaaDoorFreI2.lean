/-
  The program's free placements: contracts: differenceOf, LimitsOf.
-/
import Derived.Test.YtocllmaikngoaaaDoorFreI
import Derived.Test.YtocllmaikngoaaaDoorFI
import Derived.Test.YtocllmaikngoaaaDoorMinI3
namespace Go.Proofs.YtocllmaikngoaaaDoor
open Go.RowKit
set_option linter.unusedVariables false
set_option maxHeartbeats 1600000 in
theorem impl_differenceOf (w : World) (x y u v : Int) (h1 : -9223372036854775808 ≤ x - u ∧ x - u ≤ 9223372036854775807) (h2 : -9223372036854775808 ≤ y - v ∧ y - v ≤ 9223372036854775807) :
    Calls Tryd.prog 37 #[.agg #[.int .i64 x, .int .i64 y], .agg #[.int .i64 u, .int .i64 v]] w fun e w' => e = .returned (.agg #[.int .i64 (x - u), .int .i64 (y - v)]) ∧ Below w.heap.size w w' := by
  go_enter Tryd.func37, Tryd.ntmps37
  go_wp2_with fail
  refine bodyPost_ret (results_cell_row rfl _ _ (w.heap.size + 2) _ #[.int .i64 (x - u), .int .i64 (y - v)] (0, 0) _ rfl (show Box _ _ 31 #[.int .i64 (x - u), .int .i64 (y - v)] from Box.last _ _ _ (by rw [alloc_size, alloc_size])) Tryd.underlying31 rfl Tryd.sizeVec) rfl ?_
  exact ⟨rfl, below_alloc (below_alloc (below_new _ _) _) _⟩
set_option maxRecDepth 100000 in
set_option maxHeartbeats 6400000 in
theorem impl_LimitsOf (w : World) (B : Nat) (hB : B ≤ w.heap.size) {v0 v1 v2 v3 v4 v5 v6 : Value} {S : Scn} (h : SIn w B v0 v1 v2 v3 v4 v5 v6 S) (k : Int) (fk : (Lit.int .i64 k).wf = true) (hQ : QTab w) :
    Calls Tryd.prog 16 #[.agg #[v0, v1, v2, v3, v4, v5, v6], .int .i64 k] w fun e w' => e = .returned (.tuple #[.agg #[.int .i64 (limX S k).lx, .int .i64 (limX S k).ly, .int .i64 (limX S k).hx, .int .i64 (limX S k).hy], .bool (limB S k)]) ∧ Below w.heap.size w w' := by
  have h' := h
  obtain ⟨RA, rc, OA, oc, TA, tc, os, ⟨rfl, rfl, rfl, rfl, rfl, rfl, rfl⟩, hR, hO, hT, ⟨hlx, hly⟩, hhx, hhy⟩ := h
  clear hR hO hT
  have HR := hide (fun (W : World) (hb : Below w.heap.size w W) => impl_RobotAt W B (Nat.le_trans hB hb.size) (h'.below (hb.mono hB)) k fk (hQ.below hb (Nat.le_refl _)))
  have hrl := robL_len S k
  have HRW := hide (robL_wf S k)
  obtain ⟨hR0, hR1, hR2, hR3⟩ := lim_i64 (S := S) (k := k) ⟨⟨hlx, hly⟩, hhx, hhy⟩
  have HLB := hide (show limB S k = (polyB (robL S k) && (decide (S.lx - (loB (robL S k)).1 < S.hx - (hiB (robL S k)).1) && decide (S.ly - (loB (robL S k)).2 < S.hy - (hiB (robL S k)).2)) ) from rfl)
  have HLX := hide (show limX S k = if limB S k = true then ⟨S.lx - (loB (robL S k)).1, S.ly - (loB (robL S k)).2, S.hx - (hiB (robL S k)).1, S.hy - (hiB (robL S k)).2⟩ else ⟨0, 0, 0, 0⟩ from rfl)
  generalize robL S k = rl at *
  generalize limB S k = lb at *
  generalize limX S k = lx at *
  obtain ⟨x0, y0, x1, y1⟩ := lx
  have hlx := bounds_i64 hlx
  have hly := bounds_i64 hly
  have hhx := bounds_i64 hhx
  have hhy := bounds_i64 hhy
  obtain ⟨W0, hW0⟩ : ∃ W0, W0 = (w.alloc (.cells #[.int .i64 S.lx, .int .i64 S.ly, .int .i64 S.hx, .int .i64 S.hy, .slice RA S.r.length rc, .slice OA S.o.length oc, .slice TA S.t.length tc] 34)).alloc (.cells #[.int .i64 0, .int .i64 0, .int .i64 0, .int .i64 0] 42) := ⟨_, rfl⟩
  have hT0 : Below w.heap.size w W0 := by rw [hW0]; exact below_alloc (below_new _ _) _
  have k0 : Box W0 w.heap.size 34 #[.int .i64 S.lx, .int .i64 S.ly, .int .i64 S.hx, .int .i64 S.hy, .slice RA S.r.length rc, .slice OA S.o.length oc, .slice TA S.t.length tc] := by rw [hW0]; exact (Box.last _ _ _ rfl).alloc _
  have kr : Box W0 (w.heap.size + 1) 42 #[.int .i64 0, .int .i64 0, .int .i64 0, .int .i64 0] := by rw [hW0]; exact Box.last _ _ _ (alloc_size _ _).symm
  have hs0 : w.heap.size + 2 ≤ W0.heap.size := by rw [hW0, alloc_size, alloc_size]; omega
  clear h' fk hQ
  generalize S.lx = sx0 at *
  generalize S.ly = sy0 at *
  generalize S.hx = sx1 at *
  generalize S.hy = sy1 at *
  generalize S.r.length = rn0 at *
  generalize S.o.length = on at *
  generalize S.t.length = tn at *
  go_enter Tryd.func16, Tryd.ntmps16
  go_upto_region 1 with fail
  rw [← hW0]
  clear hW0
  obtain ⟨z0, z1, z2, z3, z4, z5, z6⟩ := k0.cells7
  go_wp2_with fail
  refine (HR.out _ hT0).mono ?_
  rintro e w1 ⟨v, rfl, o, hb1, -⟩
  obtain ⟨VA, vc, rfl⟩ := o.form
  clear z0 z1 z2 z3 z4 z5 z6 HR
  have k0 := k0.below hb1 k0.lt
  have kr := kr.below hb1 kr.lt
  have hT1 := below_then hT0 hb1
  have hs1 := hb1.size
  have HW := hide (impl_WidthOf w1 w1.heap.size (Nat.le_refl _) VA rl.length vc rl ⟨rfl, o.rd, by omega, HRW.out⟩)
  clear hb1 hT0 o HRW
  generalize polyB rl = pb at *
  generalize (loB rl).1 = a0 at *
  generalize (loB rl).2 = b0 at *
  generalize (hiB rl).1 = a1 at *
  generalize (hiB rl).2 = b1 at *
  generalize rl.length = rln at *
  go_wp2_with fail
  refine HW.out.mono ?_
  rintro e w2 ⟨rfl, hb2⟩
  have k0 := k0.below hb2 k0.lt
  have kr := kr.below hb2 kr.lt
  have hT2 := below_then hT1 hb2
  have hs2 := hb2.size
  clear hb2 hT1 HW
  obtain ⟨W3, hW3⟩ : ∃ W3, W3 = (w2.alloc (.cells #[.int .i64 a0, .int .i64 b0] 31)).alloc (.cells #[.int .i64 a1, .int .i64 b1] 31) := ⟨_, rfl⟩
  have hb3 : Below w2.heap.size w2 W3 := by rw [hW3]; exact below_alloc (below_new _ _) _
  have kl : Box W3 w2.heap.size 31 #[.int .i64 a0, .int .i64 b0] := by rw [hW3]; exact (Box.last _ _ _ rfl).alloc _
  have kh : Box W3 (w2.heap.size + 1) 31 #[.int .i64 a1, .int .i64 b1] := by rw [hW3]; exact Box.last _ _ _ (alloc_size _ _).symm
  have k0 := k0.below hb3 k0.lt
  have kr := kr.below hb3 kr.lt
  have hT3 := below_then hT2 hb3
  have hs3 := hb3.size
  clear hb3 hT2
  go_upto_region 2 with fail
  rw [← hW3]
  clear hW3
  have HB0 := hide k0
  have HBl := hide kl
  have HBh := hide kh
  have HD1 := hide (fun (W : World) => impl_differenceOf W sx0 sy0 a0 b0 hR0 hR1)
  have HD2 := hide (fun (W : World) => impl_differenceOf W sx1 sy1 a1 b1 hR2 hR3)
  have HE1 : Hid (lb = (pb && (decide (sx0 - a0 < sx1 - a1) && decide (sy0 - b0 < sy1 - b1)))) := HLB
  clear HLB hR0 hR1 hR2 hR3
  have HLX2 : Hid ((⟨x0, y0, x1, y1⟩ : Bx) = if lb = true then ⟨sx0 - a0, sy0 - b0, sx1 - a1, sy1 - b1⟩ else ⟨0, 0, 0, 0⟩) := HLX
  clear HLX
  generalize sx0 - a0 = d0 at *
  generalize sy0 - b0 = d1 at *
  generalize sx1 - a1 = d2 at *
  generalize sy1 - b1 = d3 at *
  have HS0 : Hid (Below W3.heap.size W3 W3.drew) := (Below.refl _ _).drew
  have HS0a : Hid (Below W3.heap.size W3 (W3.alloc (.cells #[.int .i64 0, .int .i64 0, .int .i64 0, .int .i64 0] 42)).drew) := (below_new _ _).drew
  have HKS := hide (fun (W : World) (hq : Below W3.heap.size W3 W) => (⟨(HB0.out.below hq HB0.out.lt).cell 0, (HB0.out.below hq HB0.out.lt).cell 1, (HB0.out.below hq HB0.out.lt).cell 2, (HB0.out.below hq HB0.out.lt).cell 3, (HBl.out.below hq HBl.out.lt).cell 0, (HBl.out.below hq HBl.out.lt).cell 1, (HBh.out.below hq HBh.out.lt).cell 0, (HBh.out.below hq HBh.out.lt).cell 1⟩ : W.cell? ⟨w.heap.size, 0, none⟩ = some (.int .i64 sx0) ∧ W.cell? ⟨w.heap.size, 1, none⟩ = some (.int .i64 sy0) ∧ W.cell? ⟨w.heap.size, 2, none⟩ = some (.int .i64 sx1) ∧ W.cell? ⟨w.heap.size, 3, none⟩ = some (.int .i64 sy1) ∧ W.cell? ⟨w2.heap.size, 0, none⟩ = some (.int .i64 a0) ∧ W.cell? ⟨w2.heap.size, 1, none⟩ = some (.int .i64 b0) ∧ W.cell? ⟨w2.heap.size + 1, 0, none⟩ = some (.int .i64 a1) ∧ W.cell? ⟨w2.heap.size + 1, 1, none⟩ = some (.int .i64 b1)))
  obtain ⟨z0, z1, z2, z3, z4, z5, z6⟩ := k0.cells7
  obtain ⟨l0, l1⟩ := kl.cells2
  obtain ⟨h0, h1⟩ := kh.cells2
  clear k0 kl kh
  go_cut [9] from 18 to 26 (fun sx wx => VarB W3 wx sx (.int .i64 d0) (.int .i64 d1) (.int .i64 d2) (.int .i64 d3) 42)
  case first =>
    go_region_held3 (fun w' => w'.cell? ⟨w.heap.size, 0, none⟩ = some (.int .i64 sx0) ∧ w'.cell? ⟨w.heap.size, 1, none⟩ = some (.int .i64 sy0) ∧ w'.cell? ⟨w.heap.size, 2, none⟩ = some (.int .i64 sx1) ∧ w'.cell? ⟨w.heap.size, 3, none⟩ = some (.int .i64 sy1) ∧ w'.cell? ⟨w2.heap.size, 0, none⟩ = some (.int .i64 a0) ∧ w'.cell? ⟨w2.heap.size, 1, none⟩ = some (.int .i64 b0) ∧ w'.cell? ⟨w2.heap.size + 1, 0, none⟩ = some (.int .i64 a1) ∧ w'.cell? ⟨w2.heap.size + 1, 1, none⟩ = some (.int .i64 b1))
      (first | (with_reducible exact HKS.out _ (set4_belowK HS2.out HS1.out.size _ _ _ _)) | (with_reducible exact HKS.out _ (set4_belowK HS2.out (Nat.le_refl _) _ _ _ _)) | (with_reducible exact HKS.out _ HS2.out) | (with_reducible exact HKS.out _ (below_alloc HS2.out _)) | (with_reducible exact HKS.out _ HS1.out) | (with_reducible exact HKS.out _ (below_alloc HS1.out _)) | (with_reducible exact HKS.out _ HS0.out) | (with_reducible exact HKS.out _ HS0a.out))
      (first
        | (go_at_call 37; have HX := HS1.out; refine (HD2.out _).mono ?_; rintro e u2 ⟨rfl, hb2⟩; (first | (have hu2 := (show Below u1.heap.size u1 u2 from hb2)) | (have hu2 := (below_then (below_new u1 _) hb2))); have hz2 : u1.heap.size ≤ u2.heap.size := hu2.size; have HS2 := hide (below_then HX hu2); clear HX; have hy2 := hb2.size; (first | (have kz := kz_new hb2) | (have kz := kz.below hu2 kz.lt) | skip); (first | (obtain ⟨t0, t1, t2, t3⟩ := kz.cells4; obtain ⟨f0, f1, f2, f3⟩ := kz.frz4) | skip))
        | (go_at_call 37; refine (HD1.out _).mono ?_; rintro e u1 ⟨rfl, hb1⟩; (first | (have HS1 := hide (below_then HS0.out hb1)) | (have HS1 := hide (below_then HS0a.out hb1))); have hz1 : W3.heap.size ≤ u1.heap.size := HS1.out.size; have hy1 := hb1.size; (first | (have kz := kz_drew hb1) | skip)))
    all_goals
      go_wp2_with fail
      go_meet
      case rel =>
        try simp only [drew_size, alloc_size] at hy1 hy2
        have HL := HS2.out
        first
          | ((with_reducible refine varb_set kz HL ?_) <;> ((try simp only [alloc_size]); omega))
          | (exact varb_last HL)
  case rest =>
    obtain ⟨gb, rfl, kb, hgb, hb4⟩ := hcut
    obtain ⟨w4, hw4⟩ : ∃ xw, xw = wc := ⟨_, rfl⟩
    subst hw4
    clear z0 z1 z2 z3 z4 z5 z6 l0 l1 h0 h1 HKS HS0 HS0a HB0 HBl HBh HD1 HD2
    have kr := kr.below hb4 kr.lt
    have hT4 := below_then hT3 hb4
    have hs4 := hb4.size
    clear hT3 hb4
    obtain ⟨v0, v1, v2, v3⟩ := kb.cells4
    have HI := hide (fun (W : World) => impl_isLowerLeftOf W d0 d1 d2 d3)
    cases pb with
    | false =>
      obtain rfl : lb = false := by rw [HE1.out]; rfl
      have HE := hide (show x0 = 0 ∧ y0 = 0 ∧ x1 = 0 ∧ y1 = 0 from by
        have h := HLX2.out
        simpa using h)
      obtain ⟨rfl, rfl, rfl, rfl⟩ := HE.out
      clear HE1 HLX2 HE HI
      have HKR := hide kr
      obtain ⟨r0, r1, r2, r3⟩ := kr.cells4
      obtain ⟨f0, f1, f2, f3⟩ := kr.frz4
      clear kr
      go_wp2_with fail
      refine bodyPost_ret (results_cell_tmp rfl _ _ (w.heap.size + 1) _ #[.int .i64 0, .int .i64 0, .int .i64 0, .int .i64 0] (0, 0) _ rfl (show Box _ _ 42 #[.int .i64 0, .int .i64 0, .int .i64 0, .int .i64 0] from HKR.out.set4) Tryd.underlying42 rfl Tryd.sizeBox) rfl ?_
      exact ⟨rfl, set4_below hT4 (Nat.le_succ _) _ _ _ _⟩
    | true =>
      rw [Bool.true_and] at HE1
      rw [← HE1.out] at HI
      go_wp2_with fail
      refine (HI.out _).mono ?_
      rintro e w5 ⟨rfl, hb5⟩
      clear v0 v1 v2 v3
      have kb := kb.below hb5 kb.lt
      have kr := kr.below hb5 kr.lt
      have hT5 := below_then hT4 hb5
      obtain ⟨v0, v1, v2, v3⟩ := kb.cells4
      have HGN : Hid (gb ≠ w.heap.size + 1) := by show _ ≠ _; omega
      clear hb5 hT4 HE1 HI
      cases lb with
      | false =>
        have HE := hide (show x0 = 0 ∧ y0 = 0 ∧ x1 = 0 ∧ y1 = 0 from by
          have h := HLX2.out
          simpa using h)
        obtain ⟨rfl, rfl, rfl, rfl⟩ := HE.out
        clear HLX2 HE
        have HKR := hide kr
        obtain ⟨r0, r1, r2, r3⟩ := kr.cells4
        obtain ⟨f0, f1, f2, f3⟩ := kr.frz4
        clear kr
        go_wp2_with fail
        refine bodyPost_ret (results_cell_tmp rfl _ _ (w.heap.size + 1) _ #[.int .i64 0, .int .i64 0, .int .i64 0, .int .i64 0] (0, 0) _ rfl (show Box _ _ 42 #[.int .i64 0, .int .i64 0, .int .i64 0, .int .i64 0] from HKR.out.set4) Tryd.underlying42 rfl Tryd.sizeBox) rfl ?_
        exact ⟨rfl, set4_below hT5 (Nat.le_succ _) _ _ _ _⟩
      | true =>
        have HE := hide (show x0 = d0 ∧ y0 = d1 ∧ x1 = d2 ∧ y1 = d3 from by
          have h := HLX2.out
          rw [if_pos rfl] at h
          injection h with e1 e2 e3 e4
          exact ⟨e1, e2, e3, e4⟩)
        obtain ⟨rfl, rfl, rfl, rfl⟩ := HE.out
        clear HLX2 HE
        have HKR := hide kr
        obtain ⟨r0, r1, r2, r3⟩ := kr.cells4
        obtain ⟨f0, f1, f2, f3⟩ := kr.frz4
        clear kr
        go_wp2_with fail
        refine bodyPost_ret (results_cell_tmp rfl _ _ (w.heap.size + 1) _ #[.int .i64 x0, .int .i64 y0, .int .i64 x1, .int .i64 y1] (0, 0) _ rfl (show Box _ _ 42 #[.int .i64 x0, .int .i64 y0, .int .i64 x1, .int .i64 y1] from HKR.out.set4) Tryd.underlying42 rfl Tryd.sizeBox) rfl ?_
        exact ⟨rfl, set4_below hT5 (Nat.le_succ _) _ _ _ _⟩
end Go.Proofs.YtocllmaikngoaaaDoor
