/-
  The law FnRats: its mathematics, its walk.
-/
import Derived.Test.YtnbaookdeijhhaaGreatDoorRatD
import Derived.Test.YtnbaookdeijhhaaGreatDoorRatX
import Derived.Deep.RegionHeld3
import Derived.Deep.CutRange
import Derived.Sort.AtCall
namespace Go.Proofs.YtnbaookdeijhhaaGreatDoor
open Go.RowKit
set_option linter.unusedVariables false
theorem minQ_fit {Z Y : RQ} (h : QFit Z) (k : QFit Y) : QFit (minQ Z Y) := fit_ite (fit_ite h k) noR_fit
theorem maxQ_fit {Z Y : RQ} (h : QFit Z) (k : QFit Y) : QFit (maxQ Z Y) := fit_ite (fit_ite h k) noR_fit
theorem rats_math (a b : Int) (m k : Nat) (ha : a.natAbs ≤ 10 ∧ 1 ≤ m ∧ m ≤ 3) (hb : b.natAbs ≤ 10 ∧ 1 ≤ k ∧ k ≤ 3) :
    ratB (lowR a m).1.1 (lowR a m).1.2 (lowR a m).2 = true ∧ ∃ (S D M N V : RQ) (C sg : Int), (addQ (lowR a m) (lowR b k) = S ∧ subQ S (lowR b k) = lowR a m ∧ cmpQ (lowR a m) (lowR b k) = C ∧ subQ (lowR a m) (lowR b k) = D ∧ signQ D = C ∧ minQ (lowR a m) (lowR b k) = M ∧ maxQ (lowR a m) (lowR b k) = N ∧ addQ M N = S ∧ signQ (lowR b k) = sg) ∧ (QFit S ∧ QFit D ∧ QFit M ∧ QFit N ∧ QFit V) ∧ (sg = 0 ∨ (sg ≠ 0 ∧ divQ (lowR a m) (lowR b k) = V ∧ mulQ V (lowR b k) = lowR a m)) := by
  obtain ⟨ha1, ha2, ha3⟩ := ha
  obtain ⟨hb1, hb2, hb3⟩ := hb
  obtain ⟨i1, i2, i3, i4, i5⟩ := small_is (z := a) (y := b) (d := m) (e := k) (by omega) (by omega) (by omega) (by omega) (by omega) (by omega)
  have e2 : addQ (lowR a m) (lowR b k) = lowR (a * k + b * m) (m * k) := addR_is i1 i2
  have e6 : subQ (lowR a m) (lowR b k) = lowR (a * k - b * m) (m * k) := subR_is i1 i2
  have fz := lowR_fit a m
  have fy := lowR_fit b k
  refine ⟨i1.2.1, lowR (a * k + b * m) (m * k), lowR (a * k - b * m) (m * k), minQ (lowR a m) (lowR b k), maxQ (lowR a m) (lowR b k), if b = 0 then noR else lowR (a * k * (if b < 0 then -1 else 1)) (b.natAbs * m), cmpQ (lowR a m) (lowR b k), signQ (lowR b k), ⟨e2, rat_sub_add i1 i2 i3, rfl, e6, (rat_cmp_sub i1 i2 i4).symm, rfl, rfl, (rat_min_max i1 i2 rfl rfl).trans e2, rfl⟩, ⟨lowR_fit _ _, lowR_fit _ _, minQ_fit fz fy, maxQ_fit fz fy, fit_ite noR_fit (lowR_fit _ _)⟩, ?_⟩
  by_cases h : b = 0
  · exact .inl ((signR_zero i2).2 h)
  · rw [if_neg h]
    exact .inr ⟨fun e => h ((signR_zero i2).1 e), divR_is i1 i2 h, rat_mul_div i1 i2 h (i5 h)⟩
theorem MakeRat0 (n c B : Nat) (A : Option Addr) (w : World) (hn : n ≤ 1099511627776) (hb : Bytes w B A n) (hB : B ≤ w.heap.size) :
    Calls Tryz.prog 7 #[.slice A n c, .int .i64 0] w fun e w' => FewRes 3 w w' e :=
  MakeRat_any n c B A 0 (by omega) w hn hb hB
theorem MakeRat1 (n c B : Nat) (A : Option Addr) (w : World) (hn : n ≤ 1099511627776) (hb : Bytes w B A n) (hB : B ≤ w.heap.size) :
    Calls Tryz.prog 7 #[.slice A n c, .int .i64 1] w fun e w' => FewRes 3 w w' e :=
  MakeRat_any n c B A 1 (by omega) w hn hb hB
theorem takeT {P : Program} {ops : Array Oper} {Q : Exit → Act → World → Prop} {md : Region.Mode} {S : World → Prop} {i t : Nat} {oi : Oper} {v : Value} {fuel : Nat} {listed : Array Bool} {a : Act} {w : World} (hi : ops[i]? = some oi)
    (hs : Region.noSelect ops = true) (hf : Region.free md ops listed i = true) (hr : (Region.ready md ops listed).contains i = true)
    (hQ : ∀ c a w, Q (.panic c) (a.put oi.dst v) w → Q (.panic c) a w) (hd : oi.dst = some t) (hw : Region.wanted oi (yielded ops a.tmps) = true) (hy : ∀ w, S w → (execOp a.eval oi).run P w = .ok (.value v) w) (hS : S w)
    (h : wpAnyH P md ops Q S fuel (listed.setIfInBounds i true) { a with tmps := a.tmps.setIfInBounds t v } w) : wpAnyH P md ops Q S (fuel + 1) listed a w :=
  wpAnyH_take hi hs hf hr hQ (.inl ⟨hw, hy⟩) hS (by rw [hd]; exact h)
theorem skipT {P : Program} {ops : Array Oper} {Q : Exit → Act → World → Prop} {md : Region.Mode} {S : World → Prop} {i t : Nat} {oi : Oper} {fuel : Nat} {listed : Array Bool} {a : Act} {w : World} (hi : ops[i]? = some oi)
    (hs : Region.noSelect ops = true) (hf : Region.free md ops listed i = true) (hr : (Region.ready md ops listed).contains i = true)
    (hQ : ∀ c a w, Q (.panic c) (a.put oi.dst undef) w → Q (.panic c) a w) (hd : oi.dst = some t) (hw : Region.wanted oi (yielded ops a.tmps) = false) (hS : S w)
    (h : wpAnyH P md ops Q S fuel (listed.setIfInBounds i true) { a with tmps := a.tmps.setIfInBounds t undef } w) : wpAnyH P md ops Q S (fuel + 1) listed a w :=
  wpAnyH_take hi hs hf hr hQ (.inr ⟨hw, rfl⟩) hS (by rw [hd]; exact h)
theorem skipC {P : Program} {ops : Array Oper} {Q : Exit → Act → World → Prop} {md : Region.Mode} {S : World → Prop} {i t : Nat} {oi : Oper} {fuel : Nat} {listed : Array Bool} {a : Act} {w : World} (hr : Region.ready md ops listed = [i]) (hi : ops[i]? = some oi) (hd : oi.dst = some t) (hw : Region.wanted oi (yielded ops a.tmps) = false) (hS : S w)
    (h : wpAnyH P md ops Q S fuel (listed.setIfInBounds i true) { a with tmps := a.tmps.setIfInBounds t undef } w) : wpAnyH P md ops Q S (fuel + 1) listed a w := by
  refine wpAnyH_ready hr (by simp) (AllReadyH.cons hi (fun K hK => ?_) AllReadyH.nil)
  rw [if_neg (by rw [hw]; simp), hd]
  exact hK.out _ _ hS (fun _ => h)
set_option maxRecDepth 100000 in
set_option maxHeartbeats 16000000 in
theorem FnRats_walk (w : World) (a0 : Option Addr) (len0 cap0 : Nat) (z0 : List Int) (h0 : IsRow .u8 w a0 len0 cap0 z0) (hPT : PowTab w) (ml : Int) (hML : w.cell? ⟨0, 0, none⟩ = some (.int .i64 ml)) (hg0 : 0 < w.heap.size) :
    Calls Tryz.prog 3 #[.slice a0 len0 cap0] w fun e w' => e = .returned (.bool true) ∧ Below w.heap.size w w' := by
  obtain ⟨hby, hlm⟩ := h0.bytes
  clear h0
  unfold maxLen at hlm
  by_cases h : 1048576 < len0
  · clear hPT hML hby
    go_enter Tryz.func3, Tryz.ntmps3
    go_wp2_with fail
    go_ret
    exact ⟨rfl, Below.refl _ _⟩
  have hl : len0 ≤ 1048576 := by omega
  clear h hlm
  have hT0 : Below w.heap.size w w := Below.refl _ _
  have PL := hPT.lt
  have HPT := hide hPT
  have HML := hide hML
  have HBY := hide hby
  clear hPT hML hby
  go_enter Tryz.func3, Tryz.ntmps3
  go_wp2_with fail
  refine (MakeRat0 len0 cap0 w.heap.size a0 w (by omega) (HBY.out.below hT0) hT0.size).mono ?_
  rintro e w1 ⟨a, m, r0, r1, r2, rfl, or, HrB, hb1⟩
  have HrB := hide HrB
  obtain ⟨rb, rA, rn, rc, rD, rm, rk, rfl, rfl, rfl⟩ := or.cut
  have hs1 := hb1.size
  have hT1 := below_then hT0 hb1
  clear hT0
  clear hb1
  obtain ⟨w2, hw2⟩ : ∃ xw, xw = (w1.alloc (.cells #[.bool rb, .slice rA rn rc, .slice rD rm rk] 27)) := ⟨_, rfl⟩
  have hb2 : Below w1.heap.size w1 w2 := by rw [hw2]; exact below_new _ _
  have hq2 : w2.heap.size = w1.heap.size + 1 := by rw [hw2, alloc_size]
  have kr : Box w2 (w1.heap.size) 27 #[.bool rb, .slice rA rn rc, .slice rD rm rk] := by rw [hw2]; exact Box.last _ _ _ (by omega)
  have hs2 := hb2.size
  have hT2 := below_then hT1 hb2
  have or := or.below hb2 (by omega)
  clear hT1
  go_upto_region 4 with fail
  rw [← hw2]
  clear hw2 hb2
  go_wp2_with fail
  refine (MakeRat1 len0 cap0 w.heap.size a0 w2 (by omega) (HBY.out.below hT2) hT2.size).mono ?_
  rintro e w3 ⟨b, k, s0, s1, s2, rfl, os, HsB, hb3⟩
  have HsB := hide HsB
  obtain ⟨sb, sA, sn, sc, sD, sm, sk, rfl, rfl, rfl⟩ := os.cut
  have hs3 := hb3.size
  have hT3 := below_then hT2 hb3
  have kr := kr.below hb3 kr.lt
  have or := or.below hb3 (by omega)
  clear hT2
  clear hb3
  obtain ⟨w4, hw4⟩ : ∃ xw, xw = (w3.alloc (.cells #[.bool sb, .slice sA sn sc, .slice sD sm sk] 27)) := ⟨_, rfl⟩
  have hb4 : Below w3.heap.size w3 w4 := by rw [hw4]; exact below_new _ _
  have hq4 : w4.heap.size = w3.heap.size + 1 := by rw [hw4, alloc_size]
  have ks : Box w4 (w3.heap.size) 27 #[.bool sb, .slice sA sn sc, .slice sD sm sk] := by rw [hw4]; exact Box.last _ _ _ (by omega)
  have hs4 := hb4.size
  have hT4 := below_then hT3 hb4
  have kr := kr.below hb4 kr.lt
  have or := or.below hb4 (by omega)
  have os := os.below hb4 (by omega)
  clear hT3
  go_upto_region 5 with fail
  rw [← hw4]
  clear hw4 hb4
  obtain ⟨hrat, S, D, M, N, V, C, sg, ⟨e1, e2, e3, e4, e5, e6, e7, e8, e9⟩, ⟨fS, fD, fM, fN, fV⟩, hsg⟩ := rats_math a b m k HrB.out HsB.out
  have fZ := lowR_fit a m
  have fY := lowR_fit b k
  clear HrB HsB
  have E1 := hide e1
  have E2 := hide e2
  have E3 := hide e3
  have E4 := hide e4
  have E5 := hide e5
  have E6 := hide e6
  have E7 := hide e7
  have E8 := hide e8
  have E9 := hide e9
  have HSG := hide hsg
  have HRT := hide hrat
  clear e1 e2 e3 e4 e5 e6 e7 e8 e9 hsg hrat
  generalize lowR a m = Z at *
  generalize lowR b k = Y at *
  obtain ⟨yr0, yr1, yr2⟩ := kr.cells3
  go_wp2_with fail
  refine (is_fmtQ w4 w4.heap.size (Nat.le_refl _) (or.in_ fZ (by omega)) (HPT.out.below hT4 PL)).mono ?_
  rintro e w5 ⟨rfl, hb5⟩
  clear yr0 yr1 yr2
  have hs5 := hb5.size
  have hT5 := below_then hT4 hb5
  have kr := kr.below hb5 kr.lt
  have ks := ks.below hb5 ks.lt
  have or := or.below hb5 (by omega)
  have os := os.below hb5 (by omega)
  clear hT4
  clear hb5
  go_wp2_with fail
  refine (is_parQ w5 w5.heap.size (Nat.le_refl _) HRT.out (HPT.out.below hT5 PL) ml ((hT5.cell hg0).trans HML.out) (Nat.lt_of_lt_of_le hg0 hT5.size)).mono ?_
  rintro e w6 ⟨x0, x1, x2, rfl, ox, hb6⟩
  obtain ⟨xb, xA, xn, xc, xD, xm, xk, rfl, rfl, rfl⟩ := ox.cut
  have hs6 := hb6.size
  have hT6 := below_then hT5 hb6
  have kr := kr.below hb6 kr.lt
  have ks := ks.below hb6 ks.lt
  have or := or.below hb6 (by omega)
  have os := os.below hb6 (by omega)
  clear hT5
  clear hb6
  obtain ⟨w7, hw7⟩ : ∃ xw, xw = (w6.alloc (.cells #[.bool xb, .slice xA xn xc, .slice xD xm xk] 27)) := ⟨_, rfl⟩
  have hb7 : Below w6.heap.size w6 w7 := by rw [hw7]; exact below_new _ _
  have hq7 : w7.heap.size = w6.heap.size + 1 := by rw [hw7, alloc_size]
  have kx : Box w7 (w6.heap.size) 27 #[.bool xb, .slice xA xn xc, .slice xD xm xk] := by rw [hw7]; exact Box.last _ _ _ (by omega)
  have hs7 := hb7.size
  have hT7 := below_then hT6 hb7
  have kr := kr.below hb7 kr.lt
  have ks := ks.below hb7 ks.lt
  have or := or.below hb7 (by omega)
  have os := os.below hb7 (by omega)
  have ox := ox.below hb7 (by omega)
  clear hT6
  go_upto_region 6 with fail
  rw [← hw7]
  clear hw7 hb7
  have HQr := hide (fun (W : World) (h : Below w7.heap.size w7 W) => ((or.in_ fZ (show _ ≤ w7.heap.size by omega)).below h).wider h.size)
  have HQs := hide (fun (W : World) (h : Below w7.heap.size w7 W) => ((os.in_ fY (show _ ≤ w7.heap.size by omega)).below h).wider h.size)
  have HQx := hide (fun (W : World) (h : Below w7.heap.size w7 W) => ((ox.in_ fZ (show _ ≤ w7.heap.size by omega)).below h).wider h.size)
  clear or os ox
  rcases HSG.out with hz | ⟨hz, e10, e11⟩
  · subst hz
    clear HSG
    have HBx := hide kx
    have HBr := hide kr
    have HBs := hide ks
    have HS0 : Hid (Below w7.heap.size w7 w7.drew) := (Below.refl _ _).drew
    have HKS := hide (fun (W : World) (hq : Below w7.heap.size w7 W) => (⟨(HBx.out.below hq HBx.out.lt).cell 0, (HBx.out.below hq HBx.out.lt).cell 1, (HBx.out.below hq HBx.out.lt).cell 2, (HBr.out.below hq HBr.out.lt).cell 0, (HBr.out.below hq HBr.out.lt).cell 1, (HBr.out.below hq HBr.out.lt).cell 2, (HBs.out.below hq HBs.out.lt).cell 0, (HBs.out.below hq HBs.out.lt).cell 1, (HBs.out.below hq HBs.out.lt).cell 2⟩ : W.cell? ⟨w6.heap.size, 0, none⟩ = some (.bool xb) ∧ W.cell? ⟨w6.heap.size, 1, none⟩ = some (.slice xA xn xc) ∧ W.cell? ⟨w6.heap.size, 2, none⟩ = some (.slice xD xm xk) ∧ W.cell? ⟨w1.heap.size, 0, none⟩ = some (.bool rb) ∧ W.cell? ⟨w1.heap.size, 1, none⟩ = some (.slice rA rn rc) ∧ W.cell? ⟨w1.heap.size, 2, none⟩ = some (.slice rD rm rk) ∧ W.cell? ⟨w3.heap.size, 0, none⟩ = some (.bool sb) ∧ W.cell? ⟨w3.heap.size, 1, none⟩ = some (.slice sA sn sc) ∧ W.cell? ⟨w3.heap.size, 2, none⟩ = some (.slice sD sm sk)))
    obtain ⟨yx0, yx1, yx2⟩ := kx.cells3
    obtain ⟨yr0, yr1, yr2⟩ := kr.cells3
    obtain ⟨ys0, ys1, ys2⟩ := ks.cells3
    refine wp_region_held_drew (S := (fun w' => w'.cell? ⟨w6.heap.size, 0, none⟩ = some (.bool xb) ∧ w'.cell? ⟨w6.heap.size, 1, none⟩ = some (.slice xA xn xc) ∧ w'.cell? ⟨w6.heap.size, 2, none⟩ = some (.slice xD xm xk) ∧ w'.cell? ⟨w1.heap.size, 0, none⟩ = some (.bool rb) ∧ w'.cell? ⟨w1.heap.size, 1, none⟩ = some (.slice rA rn rc) ∧ w'.cell? ⟨w1.heap.size, 2, none⟩ = some (.slice rD rm rk) ∧ w'.cell? ⟨w3.heap.size, 0, none⟩ = some (.bool sb) ∧ w'.cell? ⟨w3.heap.size, 1, none⟩ = some (.slice sA sn sc) ∧ w'.cell? ⟨w3.heap.size, 2, none⟩ = some (.slice sD sm sk))) (by kernel_rfl) (HKS.out _ HS0.out) (fun hHeld => ?_)
    show wpAnyH _ _ _ _ _ 53 _ _ _
    refine takeT (i := 0) (t := 20) (v := ?_) rfl (by kernel_rfl) (by kernel_rfl) (by kernel_rfl) (fun _ _ _ h => h) rfl (by rfl) ?_ hHeld ?_
    rotate_left 1
    · intro w hSw; (try dsimp only at hSw); go_simp; try (with_reducible rfl)
    simp only [List.setIfInBounds_toArray, List.set_cons_zero, List.set_cons_succ]
    refine takeT (i := 1) (t := 21) (v := ?_) rfl (by kernel_rfl) (by kernel_rfl) (by kernel_rfl) (fun _ _ _ h => h) rfl (by rfl) ?_ hHeld ?_
    rotate_left 1
    · intro w hSw; (try dsimp only at hSw); go_simp; try (with_reducible rfl)
    simp only [List.setIfInBounds_toArray, List.set_cons_zero, List.set_cons_succ]
    refine takeT (i := 2) (t := 22) (v := ?_) rfl (by kernel_rfl) (by kernel_rfl) (by kernel_rfl) (fun _ _ _ h => h) rfl (by rfl) ?_ hHeld ?_
    rotate_left 1
    · intro w hSw; (try dsimp only at hSw); go_simp; try (with_reducible rfl)
    simp only [List.setIfInBounds_toArray, List.set_cons_zero, List.set_cons_succ]
    refine takeT (i := 3) (t := 23) (v := ?_) rfl (by kernel_rfl) (by kernel_rfl) (by kernel_rfl) (fun _ _ _ h => h) rfl (by rfl) ?_ hHeld ?_
    rotate_left 1
    · intro w hSw; (try dsimp only at hSw); go_simp; try (with_reducible rfl)
    simp only [List.setIfInBounds_toArray, List.set_cons_zero, List.set_cons_succ]
    refine wpAnyH_ready (rs := [4]) (by kernel_rfl) (by simp) ?_
    refine AllReadyH.cons rfl (fun K hK => ?_) AllReadyH.nil
    simp only [List.getElem_toArray, List.getElem_cons_succ, List.getElem_cons_zero]
    go_simp
    (go_at_call 10; have HX := HS0.out; refine (is_sameQ _ _ (Nat.le_refl _) (HQx.out _ HS0.out) (HQr.out _ HS0.out)).mono ?_; rintro e u1 ⟨rfl, hb1⟩; have hz1 : w7.heap.size ≤ u1.heap.size := hb1.size; have HS1 := hide (below_then HX hb1); clear HX)
    go_wp2_with fail
    refine hK.out _ _ (HKS.out _ HS1.out) (fun hHeld => ?_)
    clear hK K
    refine takeT (i := 5) (t := 25) (v := ?_) rfl (by kernel_rfl) (by kernel_rfl) (by kernel_rfl) (fun _ _ _ h => h) rfl (by rfl) ?_ hHeld ?_
    rotate_left 1
    · intro w hSw; (try dsimp only at hSw); go_simp; try (with_reducible rfl)
    simp only [List.setIfInBounds_toArray, List.set_cons_zero, List.set_cons_succ]
    refine takeT (i := 6) (t := 26) (v := ?_) rfl (by kernel_rfl) (by kernel_rfl) (by kernel_rfl) (fun _ _ _ h => h) rfl (by rfl) ?_ hHeld ?_
    rotate_left 1
    · intro w hSw; (try dsimp only at hSw); go_simp; try (with_reducible rfl)
    simp only [List.setIfInBounds_toArray, List.set_cons_zero, List.set_cons_succ]
    refine takeT (i := 7) (t := 27) (v := ?_) rfl (by kernel_rfl) (by kernel_rfl) (by kernel_rfl) (fun _ _ _ h => h) rfl (by rfl) ?_ hHeld ?_
    rotate_left 1
    · intro w hSw; (try dsimp only at hSw); go_simp; try (with_reducible rfl)
    simp only [List.setIfInBounds_toArray, List.set_cons_zero, List.set_cons_succ]
    refine takeT (i := 8) (t := 28) (v := ?_) rfl (by kernel_rfl) (by kernel_rfl) (by kernel_rfl) (fun _ _ _ h => h) rfl (by rfl) ?_ hHeld ?_
    rotate_left 1
    · intro w hSw; (try dsimp only at hSw); go_simp; try (with_reducible rfl)
    simp only [List.setIfInBounds_toArray, List.set_cons_zero, List.set_cons_succ]
    refine takeT (i := 10) (t := 30) (v := ?_) rfl (by kernel_rfl) (by kernel_rfl) (by kernel_rfl) (fun _ _ _ h => h) rfl (by rfl) ?_ hHeld ?_
    rotate_left 1
    · intro w hSw; (try dsimp only at hSw); go_simp; try (with_reducible rfl)
    simp only [List.setIfInBounds_toArray, List.set_cons_zero, List.set_cons_succ]
    refine takeT (i := 12) (t := 32) (v := ?_) rfl (by kernel_rfl) (by kernel_rfl) (by kernel_rfl) (fun _ _ _ h => h) rfl (by rfl) ?_ hHeld ?_
    rotate_left 1
    · intro w hSw; (try dsimp only at hSw); go_simp; try (with_reducible rfl)
    simp only [List.setIfInBounds_toArray, List.set_cons_zero, List.set_cons_succ]
    refine wpAnyH_ready (rs := [9]) (by kernel_rfl) (by simp) ?_
    refine AllReadyH.cons rfl (fun K hK => ?_) AllReadyH.nil
    simp only [List.getElem_toArray, List.getElem_cons_succ, List.getElem_cons_zero]
    go_simp
    (go_at_call 12; have HX := HS1.out; refine (is_addQ _ _ (Nat.le_refl _) (HQr.out _ HS1.out) (HQs.out _ HS1.out) E1.out).mono ?_; rintro e u2 ⟨da0, da1, da2, rfl, oda, hb2⟩; obtain ⟨dab, daA, dan, dac, daD, dam, dak, rfl, rfl, rfl⟩ := oda.cut; have oda : QOwn u2 u1.heap.size u2.heap.size 3 (.bool dab) (.slice daA dan dac) (.slice daD dam dak) (S) := oda; have qda := oda.in_ (fS) (Nat.le_refl _); have hz2 : u1.heap.size ≤ u2.heap.size := hb2.size; have HS2 := hide (below_then HX hb2); clear HX)
    go_wp2_with fail
    refine hK.out _ _ (HKS.out _ HS2.out) (fun hHeld => ?_)
    clear hK K
    refine wpAnyH_ready (rs := [11]) (by kernel_rfl) (by simp) ?_
    refine AllReadyH.cons rfl (fun K hK => ?_) AllReadyH.nil
    simp only [List.getElem_toArray, List.getElem_cons_succ, List.getElem_cons_zero]
    go_simp
    (go_at_call 11; have HX := HS2.out; refine (is_subQ _ _ (Nat.le_refl _) qda (HQs.out _ HS2.out) E2.out).mono ?_; rintro e u3 ⟨db0, db1, db2, rfl, odb, hb3⟩; obtain ⟨dbb, dbA, dbn, dbc, dbD, dbm, dbk, rfl, rfl, rfl⟩ := odb.cut; have odb : QOwn u3 u2.heap.size u3.heap.size 3 (.bool dbb) (.slice dbA dbn dbc) (.slice dbD dbm dbk) (Z) := odb; have qdb := odb.in_ (fZ) (Nat.le_refl _); have qda := qda.up hb3; have oda := oda.below hb3 (by omega); have hz3 : u2.heap.size ≤ u3.heap.size := hb3.size; have HS3 := hide (below_then HX hb3); clear HX)
    go_wp2_with fail
    refine hK.out _ _ (HKS.out _ HS3.out) (fun hHeld => ?_)
    clear hK K
    refine wpAnyH_ready (rs := [13]) (by kernel_rfl) (by simp) ?_
    refine AllReadyH.cons rfl (fun K hK => ?_) AllReadyH.nil
    simp only [List.getElem_toArray, List.getElem_cons_succ, List.getElem_cons_zero]
    go_simp
    (go_at_call 10; have HX := HS3.out; refine (is_sameQ _ _ (Nat.le_refl _) qdb (HQr.out _ HS3.out)).mono ?_; rintro e u4 ⟨rfl, hb4⟩; have qda := qda.up hb4; have oda := oda.below hb4 (by omega); have qdb := qdb.up hb4; have odb := odb.below hb4 (by omega); have hz4 : u3.heap.size ≤ u4.heap.size := hb4.size; have HS4 := hide (below_then HX hb4); clear HX)
    go_wp2_with fail
    refine hK.out _ _ (HKS.out _ HS4.out) (fun hHeld => ?_)
    clear hK K
    refine takeT (i := 14) (t := 34) (v := ?_) rfl (by kernel_rfl) (by kernel_rfl) (by kernel_rfl) (fun _ _ _ h => h) rfl (by rfl) ?_ hHeld ?_
    rotate_left 1
    · intro w hSw; (try dsimp only at hSw); go_simp; try (with_reducible rfl)
    simp only [List.setIfInBounds_toArray, List.set_cons_zero, List.set_cons_succ]
    refine takeT (i := 15) (t := 35) (v := ?_) rfl (by kernel_rfl) (by kernel_rfl) (by kernel_rfl) (fun _ _ _ h => h) rfl (by rfl) ?_ hHeld ?_
    rotate_left 1
    · intro w hSw; (try dsimp only at hSw); go_simp; try (with_reducible rfl)
    simp only [List.setIfInBounds_toArray, List.set_cons_zero, List.set_cons_succ]
    refine takeT (i := 16) (t := 36) (v := ?_) rfl (by kernel_rfl) (by kernel_rfl) (by kernel_rfl) (fun _ _ _ h => h) rfl (by rfl) ?_ hHeld ?_
    rotate_left 1
    · intro w hSw; (try dsimp only at hSw); go_simp; try (with_reducible rfl)
    simp only [List.setIfInBounds_toArray, List.set_cons_zero, List.set_cons_succ]
    refine takeT (i := 17) (t := 37) (v := ?_) rfl (by kernel_rfl) (by kernel_rfl) (by kernel_rfl) (fun _ _ _ h => h) rfl (by rfl) ?_ hHeld ?_
    rotate_left 1
    · intro w hSw; (try dsimp only at hSw); go_simp; try (with_reducible rfl)
    simp only [List.setIfInBounds_toArray, List.set_cons_zero, List.set_cons_succ]
    refine takeT (i := 19) (t := 39) (v := ?_) rfl (by kernel_rfl) (by kernel_rfl) (by kernel_rfl) (fun _ _ _ h => h) rfl (by rfl) ?_ hHeld ?_
    rotate_left 1
    · intro w hSw; (try dsimp only at hSw); go_simp; try (with_reducible rfl)
    simp only [List.setIfInBounds_toArray, List.set_cons_zero, List.set_cons_succ]
    refine takeT (i := 20) (t := 40) (v := ?_) rfl (by kernel_rfl) (by kernel_rfl) (by kernel_rfl) (fun _ _ _ h => h) rfl (by rfl) ?_ hHeld ?_
    rotate_left 1
    · intro w hSw; (try dsimp only at hSw); go_simp; try (with_reducible rfl)
    simp only [List.setIfInBounds_toArray, List.set_cons_zero, List.set_cons_succ]
    refine wpAnyH_ready (rs := [18]) (by kernel_rfl) (by simp) ?_
    refine AllReadyH.cons rfl (fun K hK => ?_) AllReadyH.nil
    simp only [List.getElem_toArray, List.getElem_cons_succ, List.getElem_cons_zero]
    go_simp
    (go_at_call 13; have HX := HS4.out; refine (is_cmpQ _ _ (Nat.le_refl _) (HQr.out _ HS4.out) (HQs.out _ HS4.out) E3.out).mono ?_; rintro e u5 ⟨rfl, hb5⟩; have qda := qda.up hb5; have oda := oda.below hb5 (by omega); have qdb := qdb.up hb5; have odb := odb.below hb5 (by omega); have hz5 : u4.heap.size ≤ u5.heap.size := hb5.size; have HS5 := hide (below_then HX hb5); clear HX)
    go_wp2_with fail
    refine hK.out _ _ (HKS.out _ HS5.out) (fun hHeld => ?_)
    clear hK K
    refine wpAnyH_ready (rs := [21]) (by kernel_rfl) (by simp) ?_
    refine AllReadyH.cons rfl (fun K hK => ?_) AllReadyH.nil
    simp only [List.getElem_toArray, List.getElem_cons_succ, List.getElem_cons_zero]
    go_simp
    (go_at_call 11; have HX := HS5.out; refine (is_subQ _ _ (Nat.le_refl _) (HQr.out _ HS5.out) (HQs.out _ HS5.out) E4.out).mono ?_; rintro e u6 ⟨dc0, dc1, dc2, rfl, odc, hb6⟩; obtain ⟨dcb, dcA, dcn, dcc, dcD, dcm, dck, rfl, rfl, rfl⟩ := odc.cut; have odc : QOwn u6 u5.heap.size u6.heap.size 3 (.bool dcb) (.slice dcA dcn dcc) (.slice dcD dcm dck) (D) := odc; have qdc := odc.in_ (fD) (Nat.le_refl _); have qda := qda.up hb6; have oda := oda.below hb6 (by omega); have qdb := qdb.up hb6; have odb := odb.below hb6 (by omega); have hz6 : u5.heap.size ≤ u6.heap.size := hb6.size; have HS6 := hide (below_then HX hb6); clear HX)
    go_wp2_with fail
    refine hK.out _ _ (HKS.out _ HS6.out) (fun hHeld => ?_)
    clear hK K
    refine wpAnyH_ready (rs := [22]) (by kernel_rfl) (by simp) ?_
    refine AllReadyH.cons rfl (fun K hK => ?_) AllReadyH.nil
    simp only [List.getElem_toArray, List.getElem_cons_succ, List.getElem_cons_zero]
    go_simp
    (go_at_call 14; have HX := HS6.out; refine (is_signQ _ _ (Nat.le_refl _) qdc E5.out).mono ?_; rintro e u7 ⟨rfl, hb7⟩; have qda := qda.up hb7; have oda := oda.below hb7 (by omega); have qdb := qdb.up hb7; have odb := odb.below hb7 (by omega); have qdc := qdc.up hb7; have odc := odc.below hb7 (by omega); have hz7 : u6.heap.size ≤ u7.heap.size := hb7.size; have HS7 := hide (below_then HX hb7); clear HX)
    go_wp2_with fail
    refine hK.out _ _ (HKS.out _ HS7.out) (fun hHeld => ?_)
    clear hK K
    refine takeT (i := 23) (t := 43) (v := ?_) rfl (by kernel_rfl) (by kernel_rfl) (by kernel_rfl) (fun _ _ _ h => h) rfl (by rfl) ?_ hHeld ?_
    rotate_left 1
    · intro w hSw; (try dsimp only at hSw); go_simp; try (with_reducible rfl)
    simp only [List.setIfInBounds_toArray, List.set_cons_zero, List.set_cons_succ]
    refine takeT (i := 24) (t := 44) (v := ?_) rfl (by kernel_rfl) (by kernel_rfl) (by kernel_rfl) (fun _ _ _ h => h) rfl (by rfl) ?_ hHeld ?_
    rotate_left 1
    · intro w hSw; (try dsimp only at hSw); go_simp; try (with_reducible rfl)
    simp only [List.setIfInBounds_toArray, List.set_cons_zero, List.set_cons_succ]
    refine takeT (i := 25) (t := 45) (v := ?_) rfl (by kernel_rfl) (by kernel_rfl) (by kernel_rfl) (fun _ _ _ h => h) rfl (by rfl) ?_ hHeld ?_
    rotate_left 1
    · intro w hSw; (try dsimp only at hSw); go_simp; try (with_reducible rfl)
    simp only [List.setIfInBounds_toArray, List.set_cons_zero, List.set_cons_succ]
    refine takeT (i := 26) (t := 46) (v := ?_) rfl (by kernel_rfl) (by kernel_rfl) (by kernel_rfl) (fun _ _ _ h => h) rfl (by rfl) ?_ hHeld ?_
    rotate_left 1
    · intro w hSw; (try dsimp only at hSw); go_simp; try (with_reducible rfl)
    simp only [List.setIfInBounds_toArray, List.set_cons_zero, List.set_cons_succ]
    refine takeT (i := 27) (t := 47) (v := ?_) rfl (by kernel_rfl) (by kernel_rfl) (by kernel_rfl) (fun _ _ _ h => h) rfl (by rfl) ?_ hHeld ?_
    rotate_left 1
    · intro w hSw; (try dsimp only at hSw); go_simp; try (with_reducible rfl)
    simp only [List.setIfInBounds_toArray, List.set_cons_zero, List.set_cons_succ]
    refine takeT (i := 29) (t := 49) (v := ?_) rfl (by kernel_rfl) (by kernel_rfl) (by kernel_rfl) (fun _ _ _ h => h) rfl (by rfl) ?_ hHeld ?_
    rotate_left 1
    · intro w hSw; (try dsimp only at hSw); go_simp; try (with_reducible rfl)
    simp only [List.setIfInBounds_toArray, List.set_cons_zero, List.set_cons_succ]
    refine takeT (i := 30) (t := 50) (v := ?_) rfl (by kernel_rfl) (by kernel_rfl) (by kernel_rfl) (fun _ _ _ h => h) rfl (by rfl) ?_ hHeld ?_
    rotate_left 1
    · intro w hSw; (try dsimp only at hSw); go_simp; try (with_reducible rfl)
    simp only [List.setIfInBounds_toArray, List.set_cons_zero, List.set_cons_succ]
    refine takeT (i := 33) (t := 53) (v := ?_) rfl (by kernel_rfl) (by kernel_rfl) (by kernel_rfl) (fun _ _ _ h => h) rfl (by rfl) ?_ hHeld ?_
    rotate_left 1
    · intro w hSw; (try dsimp only at hSw); go_simp; try (with_reducible rfl)
    simp only [List.setIfInBounds_toArray, List.set_cons_zero, List.set_cons_succ]
    refine takeT (i := 34) (t := 54) (v := ?_) rfl (by kernel_rfl) (by kernel_rfl) (by kernel_rfl) (fun _ _ _ h => h) rfl (by rfl) ?_ hHeld ?_
    rotate_left 1
    · intro w hSw; (try dsimp only at hSw); go_simp; try (with_reducible rfl)
    simp only [List.setIfInBounds_toArray, List.set_cons_zero, List.set_cons_succ]
    refine wpAnyH_ready (rs := [28]) (by kernel_rfl) (by simp) ?_
    refine AllReadyH.cons rfl (fun K hK => ?_) AllReadyH.nil
    simp only [List.getElem_toArray, List.getElem_cons_succ, List.getElem_cons_zero]
    go_simp
    (go_at_call 15; have HX := HS7.out; refine (is_minQ _ _ (Nat.le_refl _) (HQr.out _ HS7.out) (HQs.out _ HS7.out) E6.out).mono ?_; rintro e u8 ⟨dd0, dd1, dd2, rfl, odd, hb8⟩; obtain ⟨ddb, ddA, ddn, ddc, ddD, ddm, ddk, rfl, rfl, rfl⟩ := odd.cut; have odd : QOwn u8 u7.heap.size u8.heap.size 3 (.bool ddb) (.slice ddA ddn ddc) (.slice ddD ddm ddk) (M) := odd; have qdd := odd.in_ (fM) (Nat.le_refl _); have qda := qda.up hb8; have oda := oda.below hb8 (by omega); have qdb := qdb.up hb8; have odb := odb.below hb8 (by omega); have qdc := qdc.up hb8; have odc := odc.below hb8 (by omega); have hz8 : u7.heap.size ≤ u8.heap.size := hb8.size; have HS8 := hide (below_then HX hb8); clear HX)
    go_wp2_with fail
    refine hK.out _ _ (HKS.out _ HS8.out) (fun hHeld => ?_)
    clear hK K
    refine wpAnyH_ready (rs := [31]) (by kernel_rfl) (by simp) ?_
    refine AllReadyH.cons rfl (fun K hK => ?_) AllReadyH.nil
    simp only [List.getElem_toArray, List.getElem_cons_succ, List.getElem_cons_zero]
    go_simp
    (go_at_call 16; have HX := HS8.out; refine (is_maxQ _ _ (Nat.le_refl _) (HQr.out _ HS8.out) (HQs.out _ HS8.out) E7.out).mono ?_; rintro e u9 ⟨de0, de1, de2, rfl, ode, hb9⟩; obtain ⟨deb, deA, den, dec, deD, dem, dek, rfl, rfl, rfl⟩ := ode.cut; have ode : QOwn u9 u8.heap.size u9.heap.size 3 (.bool deb) (.slice deA den dec) (.slice deD dem dek) (N) := ode; have qde := ode.in_ (fN) (Nat.le_refl _); have qda := qda.up hb9; have oda := oda.below hb9 (by omega); have qdb := qdb.up hb9; have odb := odb.below hb9 (by omega); have qdc := qdc.up hb9; have odc := odc.below hb9 (by omega); have qdd := qdd.up hb9; have odd := odd.below hb9 (by omega); have hz9 : u8.heap.size ≤ u9.heap.size := hb9.size; have HS9 := hide (below_then HX hb9); clear HX)
    go_wp2_with fail
    refine hK.out _ _ (HKS.out _ HS9.out) (fun hHeld => ?_)
    clear hK K
    refine wpAnyH_ready (rs := [32]) (by kernel_rfl) (by simp) ?_
    refine AllReadyH.cons rfl (fun K hK => ?_) AllReadyH.nil
    simp only [List.getElem_toArray, List.getElem_cons_succ, List.getElem_cons_zero]
    go_simp
    (go_at_call 12; have HX := HS9.out; refine (is_addQ _ _ (Nat.le_refl _) qdd qde E8.out).mono ?_; rintro e u10 ⟨df0, df1, df2, rfl, odf, hb10⟩; obtain ⟨dfb, dfA, dfn, dfc, dfD, dfm, dfk, rfl, rfl, rfl⟩ := odf.cut; have odf : QOwn u10 u9.heap.size u10.heap.size 3 (.bool dfb) (.slice dfA dfn dfc) (.slice dfD dfm dfk) (S) := odf; have qdf := odf.in_ (fS) (Nat.le_refl _); have qda := qda.up hb10; have oda := oda.below hb10 (by omega); have qdb := qdb.up hb10; have odb := odb.below hb10 (by omega); have qdc := qdc.up hb10; have odc := odc.below hb10 (by omega); have qdd := qdd.up hb10; have odd := odd.below hb10 (by omega); have qde := qde.up hb10; have ode := ode.below hb10 (by omega); have hz10 : u9.heap.size ≤ u10.heap.size := hb10.size; have HS10 := hide (below_then HX hb10); clear HX)
    go_wp2_with fail
    refine hK.out _ _ (HKS.out _ HS10.out) (fun hHeld => ?_)
    clear hK K
    refine wpAnyH_ready (rs := [35]) (by kernel_rfl) (by simp) ?_
    refine AllReadyH.cons rfl (fun K hK => ?_) AllReadyH.nil
    simp only [List.getElem_toArray, List.getElem_cons_succ, List.getElem_cons_zero]
    go_simp
    (go_at_call 12; have HX := HS10.out; refine (is_addQ _ _ (Nat.le_refl _) (HQr.out _ HS10.out) (HQs.out _ HS10.out) E1.out).mono ?_; rintro e u11 ⟨dg0, dg1, dg2, rfl, odg, hb11⟩; obtain ⟨dgb, dgA, dgn, dgc, dgD, dgm, dgk, rfl, rfl, rfl⟩ := odg.cut; have odg : QOwn u11 u10.heap.size u11.heap.size 3 (.bool dgb) (.slice dgA dgn dgc) (.slice dgD dgm dgk) (S) := odg; have qdg := odg.in_ (fS) (Nat.le_refl _); have qda := qda.up hb11; have oda := oda.below hb11 (by omega); have qdb := qdb.up hb11; have odb := odb.below hb11 (by omega); have qdc := qdc.up hb11; have odc := odc.below hb11 (by omega); have qdd := qdd.up hb11; have odd := odd.below hb11 (by omega); have qde := qde.up hb11; have ode := ode.below hb11 (by omega); have qdf := qdf.up hb11; have odf := odf.below hb11 (by omega); have hz11 : u10.heap.size ≤ u11.heap.size := hb11.size; have HS11 := hide (below_then HX hb11); clear HX)
    go_wp2_with fail
    refine hK.out _ _ (HKS.out _ HS11.out) (fun hHeld => ?_)
    clear hK K
    refine wpAnyH_ready (rs := [36]) (by kernel_rfl) (by simp) ?_
    refine AllReadyH.cons rfl (fun K hK => ?_) AllReadyH.nil
    simp only [List.getElem_toArray, List.getElem_cons_succ, List.getElem_cons_zero]
    go_simp
    (go_at_call 10; have HX := HS11.out; refine (is_sameQ _ _ (Nat.le_refl _) qdf qdg).mono ?_; rintro e u12 ⟨rfl, hb12⟩; have qda := qda.up hb12; have oda := oda.below hb12 (by omega); have qdb := qdb.up hb12; have odb := odb.below hb12 (by omega); have qdc := qdc.up hb12; have odc := odc.below hb12 (by omega); have qdd := qdd.up hb12; have odd := odd.below hb12 (by omega); have qde := qde.up hb12; have ode := ode.below hb12 (by omega); have qdf := qdf.up hb12; have odf := odf.below hb12 (by omega); have qdg := qdg.up hb12; have odg := odg.below hb12 (by omega); have hz12 : u11.heap.size ≤ u12.heap.size := hb12.size; have HS12 := hide (below_then HX hb12); clear HX)
    go_wp2_with fail
    refine hK.out _ _ (HKS.out _ HS12.out) (fun hHeld => ?_)
    clear hK K
    refine takeT (i := 37) (t := 57) (v := ?_) rfl (by kernel_rfl) (by kernel_rfl) (by kernel_rfl) (fun _ _ _ h => h) rfl (by rfl) ?_ hHeld ?_
    rotate_left 1
    · intro w hSw; (try dsimp only at hSw); go_simp; try (with_reducible rfl)
    simp only [List.setIfInBounds_toArray, List.set_cons_zero, List.set_cons_succ]
    refine takeT (i := 38) (t := 58) (v := ?_) rfl (by kernel_rfl) (by kernel_rfl) (by kernel_rfl) (fun _ _ _ h => h) rfl (by rfl) ?_ hHeld ?_
    rotate_left 1
    · intro w hSw; (try dsimp only at hSw); go_simp; try (with_reducible rfl)
    simp only [List.setIfInBounds_toArray, List.set_cons_zero, List.set_cons_succ]
    refine takeT (i := 39) (t := 59) (v := ?_) rfl (by kernel_rfl) (by kernel_rfl) (by kernel_rfl) (fun _ _ _ h => h) rfl (by rfl) ?_ hHeld ?_
    rotate_left 1
    · intro w hSw; (try dsimp only at hSw); go_simp; try (with_reducible rfl)
    simp only [List.setIfInBounds_toArray, List.set_cons_zero, List.set_cons_succ]
    refine wpAnyH_ready (rs := [40]) (by kernel_rfl) (by simp) ?_
    refine AllReadyH.cons rfl (fun K hK => ?_) AllReadyH.nil
    simp only [List.getElem_toArray, List.getElem_cons_succ, List.getElem_cons_zero]
    go_simp
    (go_at_call 14; have HX := HS12.out; refine (is_signQ _ _ (Nat.le_refl _) (HQs.out _ HS12.out) E9.out).mono ?_; rintro e u13 ⟨rfl, hb13⟩; have qda := qda.up hb13; have oda := oda.below hb13 (by omega); have qdb := qdb.up hb13; have odb := odb.below hb13 (by omega); have qdc := qdc.up hb13; have odc := odc.below hb13 (by omega); have qdd := qdd.up hb13; have odd := odd.below hb13 (by omega); have qde := qde.up hb13; have ode := ode.below hb13 (by omega); have qdf := qdf.up hb13; have odf := odf.below hb13 (by omega); have qdg := qdg.up hb13; have odg := odg.below hb13 (by omega); have hz13 : u12.heap.size ≤ u13.heap.size := hb13.size; have HS13 := hide (below_then HX hb13); clear HX)
    go_wp2_with fail
    refine hK.out _ _ (HKS.out _ HS13.out) (fun hHeld => ?_)
    clear hK K
    refine takeT (i := 41) (t := 61) (v := ?_) rfl (by kernel_rfl) (by kernel_rfl) (by kernel_rfl) (fun _ _ _ h => h) rfl (by rfl) ?_ hHeld ?_
    rotate_left 1
    · intro w hSw; (try dsimp only at hSw); go_simp; try (with_reducible rfl)
    simp only [List.setIfInBounds_toArray, List.set_cons_zero, List.set_cons_succ]
    refine takeT (i := 42) (t := 62) (v := ?_) rfl (by kernel_rfl) (by kernel_rfl) (by kernel_rfl) (fun _ _ _ h => h) rfl (by rfl) ?_ hHeld ?_
    rotate_left 1
    · intro w hSw; (try dsimp only at hSw); go_simp; try (with_reducible rfl)
    simp only [List.setIfInBounds_toArray, List.set_cons_zero, List.set_cons_succ]
    refine skipT (i := 43) (t := 63) rfl (by kernel_rfl) (by kernel_rfl) (by kernel_rfl) (fun _ _ _ h => h) rfl (by rfl) hHeld ?_
    simp only [List.setIfInBounds_toArray, List.set_cons_zero, List.set_cons_succ]
    refine skipT (i := 44) (t := 64) rfl (by kernel_rfl) (by kernel_rfl) (by kernel_rfl) (fun _ _ _ h => h) rfl (by rfl) hHeld ?_
    simp only [List.setIfInBounds_toArray, List.set_cons_zero, List.set_cons_succ]
    refine skipT (i := 46) (t := 66) rfl (by kernel_rfl) (by kernel_rfl) (by kernel_rfl) (fun _ _ _ h => h) rfl (by rfl) hHeld ?_
    simp only [List.setIfInBounds_toArray, List.set_cons_zero, List.set_cons_succ]
    refine skipT (i := 48) (t := 68) rfl (by kernel_rfl) (by kernel_rfl) (by kernel_rfl) (fun _ _ _ h => h) rfl (by rfl) hHeld ?_
    simp only [List.setIfInBounds_toArray, List.set_cons_zero, List.set_cons_succ]
    refine skipC (i := 45) (t := 65) (by kernel_rfl) rfl rfl (by rfl) hHeld ?_
    simp only [List.setIfInBounds_toArray, List.set_cons_zero, List.set_cons_succ]
    refine skipC (i := 47) (t := 67) (by kernel_rfl) rfl rfl (by rfl) hHeld ?_
    simp only [List.setIfInBounds_toArray, List.set_cons_zero, List.set_cons_succ]
    refine skipC (i := 49) (t := 69) (by kernel_rfl) rfl rfl (by rfl) hHeld ?_
    simp only [List.setIfInBounds_toArray, List.set_cons_zero, List.set_cons_succ]
    refine takeT (i := 50) (t := 70) (v := ?_) rfl (by kernel_rfl) (by kernel_rfl) (by kernel_rfl) (fun _ _ _ h => h) rfl (by rfl) ?_ hHeld ?_
    rotate_left 1
    · intro w hSw; (try dsimp only at hSw); go_simp; try (with_reducible rfl)
    simp only [List.setIfInBounds_toArray, List.set_cons_zero, List.set_cons_succ]
    refine takeT (i := 51) (t := 71) (v := ?_) rfl (by kernel_rfl) (by kernel_rfl) (by kernel_rfl) (fun _ _ _ h => h) rfl (by rfl) ?_ hHeld ?_
    rotate_left 1
    · intro w hSw; (try dsimp only at hSw); go_simp; try (with_reducible rfl)
    simp only [List.setIfInBounds_toArray, List.set_cons_zero, List.set_cons_succ]
    refine takeT (i := 52) (t := 2) (v := ?_) rfl (by kernel_rfl) (by kernel_rfl) (by kernel_rfl) (fun _ _ _ h => h) rfl (by rfl) ?_ hHeld ?_
    rotate_left 1
    · intro w hSw; (try dsimp only at hSw); go_simp; try (with_reducible rfl)
    simp only [List.setIfInBounds_toArray, List.set_cons_zero, List.set_cons_succ]
    refine wpAnyH_done (by kernel_rfl) ?_ _
    have hTT := below_then hT7 HS13.out
    go_wp2_with fail
    go_ret
    exact ⟨rfl, hTT⟩
  · have E10 := hide e10
    have E11 := hide e11
    have hz1 : (sg == 0) = false := by rw [beq_eq_false_iff_ne]; exact hz
    clear e10 e11
    clear HSG
    have HBx := hide kx
    have HBr := hide kr
    have HBs := hide ks
    have HS0 : Hid (Below w7.heap.size w7 w7.drew) := (Below.refl _ _).drew
    have HKS := hide (fun (W : World) (hq : Below w7.heap.size w7 W) => (⟨(HBx.out.below hq HBx.out.lt).cell 0, (HBx.out.below hq HBx.out.lt).cell 1, (HBx.out.below hq HBx.out.lt).cell 2, (HBr.out.below hq HBr.out.lt).cell 0, (HBr.out.below hq HBr.out.lt).cell 1, (HBr.out.below hq HBr.out.lt).cell 2, (HBs.out.below hq HBs.out.lt).cell 0, (HBs.out.below hq HBs.out.lt).cell 1, (HBs.out.below hq HBs.out.lt).cell 2⟩ : W.cell? ⟨w6.heap.size, 0, none⟩ = some (.bool xb) ∧ W.cell? ⟨w6.heap.size, 1, none⟩ = some (.slice xA xn xc) ∧ W.cell? ⟨w6.heap.size, 2, none⟩ = some (.slice xD xm xk) ∧ W.cell? ⟨w1.heap.size, 0, none⟩ = some (.bool rb) ∧ W.cell? ⟨w1.heap.size, 1, none⟩ = some (.slice rA rn rc) ∧ W.cell? ⟨w1.heap.size, 2, none⟩ = some (.slice rD rm rk) ∧ W.cell? ⟨w3.heap.size, 0, none⟩ = some (.bool sb) ∧ W.cell? ⟨w3.heap.size, 1, none⟩ = some (.slice sA sn sc) ∧ W.cell? ⟨w3.heap.size, 2, none⟩ = some (.slice sD sm sk)))
    obtain ⟨yx0, yx1, yx2⟩ := kx.cells3
    obtain ⟨yr0, yr1, yr2⟩ := kr.cells3
    obtain ⟨ys0, ys1, ys2⟩ := ks.cells3
    go_region_held3 (fun w' => w'.cell? ⟨w6.heap.size, 0, none⟩ = some (.bool xb) ∧ w'.cell? ⟨w6.heap.size, 1, none⟩ = some (.slice xA xn xc) ∧ w'.cell? ⟨w6.heap.size, 2, none⟩ = some (.slice xD xm xk) ∧ w'.cell? ⟨w1.heap.size, 0, none⟩ = some (.bool rb) ∧ w'.cell? ⟨w1.heap.size, 1, none⟩ = some (.slice rA rn rc) ∧ w'.cell? ⟨w1.heap.size, 2, none⟩ = some (.slice rD rm rk) ∧ w'.cell? ⟨w3.heap.size, 0, none⟩ = some (.bool sb) ∧ w'.cell? ⟨w3.heap.size, 1, none⟩ = some (.slice sA sn sc) ∧ w'.cell? ⟨w3.heap.size, 2, none⟩ = some (.slice sD sm sk))
        (first | (with_reducible exact HKS.out _ HS16.out) | (with_reducible exact HKS.out _ HS15.out) | (with_reducible exact HKS.out _ HS14.out) | (with_reducible exact HKS.out _ HS13.out) | (with_reducible exact HKS.out _ HS12.out) | (with_reducible exact HKS.out _ HS11.out) | (with_reducible exact HKS.out _ HS10.out) | (with_reducible exact HKS.out _ HS9.out) | (with_reducible exact HKS.out _ HS8.out) | (with_reducible exact HKS.out _ HS7.out) | (with_reducible exact HKS.out _ HS6.out) | (with_reducible exact HKS.out _ HS5.out) | (with_reducible exact HKS.out _ HS4.out) | (with_reducible exact HKS.out _ HS3.out) | (with_reducible exact HKS.out _ HS2.out) | (with_reducible exact HKS.out _ HS1.out) | (with_reducible exact HKS.out _ HS0.out))
        (first
          | (go_at_call 10; have HX := HS15.out; refine (is_sameQ _ _ (Nat.le_refl _) qdi (HQr.out _ HS15.out)).mono ?_; rintro e u16 ⟨rfl, hb16⟩; have qda := qda.up hb16; have oda := oda.below hb16 (by omega); have qdb := qdb.up hb16; have odb := odb.below hb16 (by omega); have qdc := qdc.up hb16; have odc := odc.below hb16 (by omega); have qdd := qdd.up hb16; have odd := odd.below hb16 (by omega); have qde := qde.up hb16; have ode := ode.below hb16 (by omega); have qdf := qdf.up hb16; have odf := odf.below hb16 (by omega); have qdg := qdg.up hb16; have odg := odg.below hb16 (by omega); have qdh := qdh.up hb16; have odh := odh.below hb16 (by omega); have qdi := qdi.up hb16; have odi := odi.below hb16 (by omega); have hz16 : u15.heap.size ≤ u16.heap.size := hb16.size; have HS16 := hide (below_then HX hb16); clear HX)
          | (go_at_call 17; have HX := HS14.out; refine (is_mulQ _ _ (Nat.le_refl _) qdh (HQs.out _ HS14.out) E11.out).mono ?_; rintro e u15 ⟨di0, di1, di2, rfl, odi, hb15⟩; obtain ⟨dib, diA, din, dic, diD, dim, dik, rfl, rfl, rfl⟩ := odi.cut; have odi : QOwn u15 u14.heap.size u15.heap.size 3 (.bool dib) (.slice diA din dic) (.slice diD dim dik) (Z) := odi; have qdi := odi.in_ (fZ) (Nat.le_refl _); have qda := qda.up hb15; have oda := oda.below hb15 (by omega); have qdb := qdb.up hb15; have odb := odb.below hb15 (by omega); have qdc := qdc.up hb15; have odc := odc.below hb15 (by omega); have qdd := qdd.up hb15; have odd := odd.below hb15 (by omega); have qde := qde.up hb15; have ode := ode.below hb15 (by omega); have qdf := qdf.up hb15; have odf := odf.below hb15 (by omega); have qdg := qdg.up hb15; have odg := odg.below hb15 (by omega); have qdh := qdh.up hb15; have odh := odh.below hb15 (by omega); have hz15 : u14.heap.size ≤ u15.heap.size := hb15.size; have HS15 := hide (below_then HX hb15); clear HX)
          | (go_at_call 18; have HX := HS13.out; refine (is_divQ _ _ (Nat.le_refl _) (HQr.out _ HS13.out) (HQs.out _ HS13.out) E10.out).mono ?_; rintro e u14 ⟨dh0, dh1, dh2, rfl, odh, hb14⟩; obtain ⟨dhb, dhA, dhn, dhc, dhD, dhm, dhk, rfl, rfl, rfl⟩ := odh.cut; have odh : QOwn u14 u13.heap.size u14.heap.size 3 (.bool dhb) (.slice dhA dhn dhc) (.slice dhD dhm dhk) (V) := odh; have qdh := odh.in_ (fV) (Nat.le_refl _); have qda := qda.up hb14; have oda := oda.below hb14 (by omega); have qdb := qdb.up hb14; have odb := odb.below hb14 (by omega); have qdc := qdc.up hb14; have odc := odc.below hb14 (by omega); have qdd := qdd.up hb14; have odd := odd.below hb14 (by omega); have qde := qde.up hb14; have ode := ode.below hb14 (by omega); have qdf := qdf.up hb14; have odf := odf.below hb14 (by omega); have qdg := qdg.up hb14; have odg := odg.below hb14 (by omega); have hz14 : u13.heap.size ≤ u14.heap.size := hb14.size; have HS14 := hide (below_then HX hb14); clear HX)
          | (go_at_call 14; have HX := HS12.out; refine (is_signQ _ _ (Nat.le_refl _) (HQs.out _ HS12.out) E9.out).mono ?_; rintro e u13 ⟨rfl, hb13⟩; have qda := qda.up hb13; have oda := oda.below hb13 (by omega); have qdb := qdb.up hb13; have odb := odb.below hb13 (by omega); have qdc := qdc.up hb13; have odc := odc.below hb13 (by omega); have qdd := qdd.up hb13; have odd := odd.below hb13 (by omega); have qde := qde.up hb13; have ode := ode.below hb13 (by omega); have qdf := qdf.up hb13; have odf := odf.below hb13 (by omega); have qdg := qdg.up hb13; have odg := odg.below hb13 (by omega); have hz13 : u12.heap.size ≤ u13.heap.size := hb13.size; have HS13 := hide (below_then HX hb13); clear HX)
          | (go_at_call 10; have HX := HS11.out; refine (is_sameQ _ _ (Nat.le_refl _) qdf qdg).mono ?_; rintro e u12 ⟨rfl, hb12⟩; have qda := qda.up hb12; have oda := oda.below hb12 (by omega); have qdb := qdb.up hb12; have odb := odb.below hb12 (by omega); have qdc := qdc.up hb12; have odc := odc.below hb12 (by omega); have qdd := qdd.up hb12; have odd := odd.below hb12 (by omega); have qde := qde.up hb12; have ode := ode.below hb12 (by omega); have qdf := qdf.up hb12; have odf := odf.below hb12 (by omega); have qdg := qdg.up hb12; have odg := odg.below hb12 (by omega); have hz12 : u11.heap.size ≤ u12.heap.size := hb12.size; have HS12 := hide (below_then HX hb12); clear HX)
          | (go_at_call 12; have HX := HS10.out; refine (is_addQ _ _ (Nat.le_refl _) (HQr.out _ HS10.out) (HQs.out _ HS10.out) E1.out).mono ?_; rintro e u11 ⟨dg0, dg1, dg2, rfl, odg, hb11⟩; obtain ⟨dgb, dgA, dgn, dgc, dgD, dgm, dgk, rfl, rfl, rfl⟩ := odg.cut; have odg : QOwn u11 u10.heap.size u11.heap.size 3 (.bool dgb) (.slice dgA dgn dgc) (.slice dgD dgm dgk) (S) := odg; have qdg := odg.in_ (fS) (Nat.le_refl _); have qda := qda.up hb11; have oda := oda.below hb11 (by omega); have qdb := qdb.up hb11; have odb := odb.below hb11 (by omega); have qdc := qdc.up hb11; have odc := odc.below hb11 (by omega); have qdd := qdd.up hb11; have odd := odd.below hb11 (by omega); have qde := qde.up hb11; have ode := ode.below hb11 (by omega); have qdf := qdf.up hb11; have odf := odf.below hb11 (by omega); have hz11 : u10.heap.size ≤ u11.heap.size := hb11.size; have HS11 := hide (below_then HX hb11); clear HX)
          | (go_at_call 12; have HX := HS9.out; refine (is_addQ _ _ (Nat.le_refl _) qdd qde E8.out).mono ?_; rintro e u10 ⟨df0, df1, df2, rfl, odf, hb10⟩; obtain ⟨dfb, dfA, dfn, dfc, dfD, dfm, dfk, rfl, rfl, rfl⟩ := odf.cut; have odf : QOwn u10 u9.heap.size u10.heap.size 3 (.bool dfb) (.slice dfA dfn dfc) (.slice dfD dfm dfk) (S) := odf; have qdf := odf.in_ (fS) (Nat.le_refl _); have qda := qda.up hb10; have oda := oda.below hb10 (by omega); have qdb := qdb.up hb10; have odb := odb.below hb10 (by omega); have qdc := qdc.up hb10; have odc := odc.below hb10 (by omega); have qdd := qdd.up hb10; have odd := odd.below hb10 (by omega); have qde := qde.up hb10; have ode := ode.below hb10 (by omega); have hz10 : u9.heap.size ≤ u10.heap.size := hb10.size; have HS10 := hide (below_then HX hb10); clear HX)
          | (go_at_call 16; have HX := HS8.out; refine (is_maxQ _ _ (Nat.le_refl _) (HQr.out _ HS8.out) (HQs.out _ HS8.out) E7.out).mono ?_; rintro e u9 ⟨de0, de1, de2, rfl, ode, hb9⟩; obtain ⟨deb, deA, den, dec, deD, dem, dek, rfl, rfl, rfl⟩ := ode.cut; have ode : QOwn u9 u8.heap.size u9.heap.size 3 (.bool deb) (.slice deA den dec) (.slice deD dem dek) (N) := ode; have qde := ode.in_ (fN) (Nat.le_refl _); have qda := qda.up hb9; have oda := oda.below hb9 (by omega); have qdb := qdb.up hb9; have odb := odb.below hb9 (by omega); have qdc := qdc.up hb9; have odc := odc.below hb9 (by omega); have qdd := qdd.up hb9; have odd := odd.below hb9 (by omega); have hz9 : u8.heap.size ≤ u9.heap.size := hb9.size; have HS9 := hide (below_then HX hb9); clear HX)
          | (go_at_call 15; have HX := HS7.out; refine (is_minQ _ _ (Nat.le_refl _) (HQr.out _ HS7.out) (HQs.out _ HS7.out) E6.out).mono ?_; rintro e u8 ⟨dd0, dd1, dd2, rfl, odd, hb8⟩; obtain ⟨ddb, ddA, ddn, ddc, ddD, ddm, ddk, rfl, rfl, rfl⟩ := odd.cut; have odd : QOwn u8 u7.heap.size u8.heap.size 3 (.bool ddb) (.slice ddA ddn ddc) (.slice ddD ddm ddk) (M) := odd; have qdd := odd.in_ (fM) (Nat.le_refl _); have qda := qda.up hb8; have oda := oda.below hb8 (by omega); have qdb := qdb.up hb8; have odb := odb.below hb8 (by omega); have qdc := qdc.up hb8; have odc := odc.below hb8 (by omega); have hz8 : u7.heap.size ≤ u8.heap.size := hb8.size; have HS8 := hide (below_then HX hb8); clear HX)
          | (go_at_call 14; have HX := HS6.out; refine (is_signQ _ _ (Nat.le_refl _) qdc E5.out).mono ?_; rintro e u7 ⟨rfl, hb7⟩; have qda := qda.up hb7; have oda := oda.below hb7 (by omega); have qdb := qdb.up hb7; have odb := odb.below hb7 (by omega); have qdc := qdc.up hb7; have odc := odc.below hb7 (by omega); have hz7 : u6.heap.size ≤ u7.heap.size := hb7.size; have HS7 := hide (below_then HX hb7); clear HX)
          | (go_at_call 11; have HX := HS5.out; refine (is_subQ _ _ (Nat.le_refl _) (HQr.out _ HS5.out) (HQs.out _ HS5.out) E4.out).mono ?_; rintro e u6 ⟨dc0, dc1, dc2, rfl, odc, hb6⟩; obtain ⟨dcb, dcA, dcn, dcc, dcD, dcm, dck, rfl, rfl, rfl⟩ := odc.cut; have odc : QOwn u6 u5.heap.size u6.heap.size 3 (.bool dcb) (.slice dcA dcn dcc) (.slice dcD dcm dck) (D) := odc; have qdc := odc.in_ (fD) (Nat.le_refl _); have qda := qda.up hb6; have oda := oda.below hb6 (by omega); have qdb := qdb.up hb6; have odb := odb.below hb6 (by omega); have hz6 : u5.heap.size ≤ u6.heap.size := hb6.size; have HS6 := hide (below_then HX hb6); clear HX)
          | (go_at_call 13; have HX := HS4.out; refine (is_cmpQ _ _ (Nat.le_refl _) (HQr.out _ HS4.out) (HQs.out _ HS4.out) E3.out).mono ?_; rintro e u5 ⟨rfl, hb5⟩; have qda := qda.up hb5; have oda := oda.below hb5 (by omega); have qdb := qdb.up hb5; have odb := odb.below hb5 (by omega); have hz5 : u4.heap.size ≤ u5.heap.size := hb5.size; have HS5 := hide (below_then HX hb5); clear HX)
          | (go_at_call 10; have HX := HS3.out; refine (is_sameQ _ _ (Nat.le_refl _) qdb (HQr.out _ HS3.out)).mono ?_; rintro e u4 ⟨rfl, hb4⟩; have qda := qda.up hb4; have oda := oda.below hb4 (by omega); have qdb := qdb.up hb4; have odb := odb.below hb4 (by omega); have hz4 : u3.heap.size ≤ u4.heap.size := hb4.size; have HS4 := hide (below_then HX hb4); clear HX)
          | (go_at_call 11; have HX := HS2.out; refine (is_subQ _ _ (Nat.le_refl _) qda (HQs.out _ HS2.out) E2.out).mono ?_; rintro e u3 ⟨db0, db1, db2, rfl, odb, hb3⟩; obtain ⟨dbb, dbA, dbn, dbc, dbD, dbm, dbk, rfl, rfl, rfl⟩ := odb.cut; have odb : QOwn u3 u2.heap.size u3.heap.size 3 (.bool dbb) (.slice dbA dbn dbc) (.slice dbD dbm dbk) (Z) := odb; have qdb := odb.in_ (fZ) (Nat.le_refl _); have qda := qda.up hb3; have oda := oda.below hb3 (by omega); have hz3 : u2.heap.size ≤ u3.heap.size := hb3.size; have HS3 := hide (below_then HX hb3); clear HX)
          | (go_at_call 12; have HX := HS1.out; refine (is_addQ _ _ (Nat.le_refl _) (HQr.out _ HS1.out) (HQs.out _ HS1.out) E1.out).mono ?_; rintro e u2 ⟨da0, da1, da2, rfl, oda, hb2⟩; obtain ⟨dab, daA, dan, dac, daD, dam, dak, rfl, rfl, rfl⟩ := oda.cut; have oda : QOwn u2 u1.heap.size u2.heap.size 3 (.bool dab) (.slice daA dan dac) (.slice daD dam dak) (S) := oda; have qda := oda.in_ (fS) (Nat.le_refl _); have hz2 : u1.heap.size ≤ u2.heap.size := hb2.size; have HS2 := hide (below_then HX hb2); clear HX)
          | (go_at_call 10; have HX := HS0.out; refine (is_sameQ _ _ (Nat.le_refl _) (HQx.out _ HS0.out) (HQr.out _ HS0.out)).mono ?_; rintro e u1 ⟨rfl, hb1⟩; have hz1 : w7.heap.size ≤ u1.heap.size := hb1.size; have HS1 := hide (below_then HX hb1); clear HX))
    have hTT := below_then hT7 HS16.out
    go_wp2_with fail
    go_ret
    exact ⟨rfl, hTT⟩
end Go.Proofs.YtnbaookdeijhhaaGreatDoor
