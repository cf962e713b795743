/-
  The reference's edges: contracts: LevelX.
-/
import Derived.Test.YtdcceppednngjaaGreatEdgD
import Derived.Deep.RegionHeld3
import Derived.Deep.CutRange
import Derived.Sort.AtCall
namespace Go.Proofs.YtdcceppednngjaaGreat
open Go.RowKit
set_option linter.unusedVariables false
theorem lvl_none {a b c d y : Int} (h : edgeB a b c d = true → b = d ∨ ¬(-1000 ≤ y ∧ y ≤ 1000)) : lvlB a b c d y = false ∧ lvlQ a b c d y = noR := by
  have e : lvlB a b c d y = false := by
    cases hh : edgeB a b c d with
    | false => exact crs_bad (.inl hh)
    | true =>
      cases hk : edgeB a y c y with
      | false => exact crs_bad (.inr hk)
      | true =>
        rcases h hh with h0 | h0
        · exact crs_par hh hk ((lvl_D hh).2 h0)
        · exact absurd (edge_iff.1 hk).1.2 h0
  exact ⟨e, by unfold lvlQ crossQ; rw [show crsB a b c d a y c y = false from e]; rfl⟩
theorem lvl_some {a b c d y : Int} {X : RQ} (h : edgeB a b c d = true) (hy : -1000 ≤ y ∧ y ≤ 1000) (h0 : b ≠ d) (hX : X = rlvX a b c d y) : lvlB a b c d y = spanB a b c d X X ∧ lvlQ a b c d y = (if spanB a b c d X X = true then X else noR) := by
  have e : X = crsX a b c d a y c y := by rw [hX]; exact rlv_eq h hy h0
  have f : lvlB a b c d y = spanB a b c d X X := by
    rw [e]; exact lvl_span h hy _
  refine ⟨f, ?_⟩
  unfold lvlQ crossQ
  rw [show crsB a b c d a y c y = spanB a b c d X X from f, ← e]
set_option maxRecDepth 100000 in
set_option maxHeartbeats 12800000 in
theorem spec_LevelX (w : World) (ex ey eu ev ek : Int) (el : Bool) (hex : (Lit.int .i64 ex).wf = true) (hey : (Lit.int .i64 ey).wf = true) (heu : (Lit.int .i64 eu).wf = true) (hev : (Lit.int .i64 ev).wf = true) (y : Int) (hy : (Lit.int .i64 y).wf = true) :
    Calls Tryz.prog 11 #[.agg #[.int .i64 ex, .int .i64 ey, .int .i64 eu, .int .i64 ev, .int .i64 ek, .bool el], .int .i64 y] w fun e w' => XRes 3 w w' e (lvlQ ex ey eu ev y) (lvlB ex ey eu ev y) := by
  have HV := hide (fun (W : World) => spec_IsValidEdge W ex ey eu ev ek el hex hey heu hev)
  have HI := hide (fun (W : World) => spec_intQ W ex hex)
  obtain ⟨O, hO⟩ : ∃ O, O = ofQ (IntKind.i64.wrap (IntKind.i64.wrap (y - ey) * IntKind.i64.wrap (eu - ex))) (IntKind.i64.wrap (ev - ey)) := ⟨_, rfl⟩
  have HOF := hide (fun (W : World) => spec_ofQ W (IntKind.i64.wrap (IntKind.i64.wrap (y - ey) * IntKind.i64.wrap (eu - ex))) (IntKind.i64.wrap (ev - ey)) (iw_wf _) (iw_wf _))
  rw [← hO] at HOF
  have HFO : Hid (QFit O) := by show _; rw [hO]; exact ofQ_fit _ _
  have HL := hide (fun (W : World) (b : Bool) (h : Hid (b = decide (-1000 ≤ y ∧ y ≤ 1000))) => l01In_all y (-1000) 1000 W b h)
  obtain ⟨X, hX⟩ : ∃ X, X = addQ (intQ ex) O := ⟨_, rfl⟩
  have HXF : Hid (QFit X) := by show _; rw [hX]; exact addQ_fit _ _
  have HW := hide (fun (W : World) (v0 v1 v2 : Value) (r : QIn W W.heap.size v0 v1 v2 X) => spec_SpansX W W.heap.size (Nat.le_refl _) ex ey eu ev ek el hex hey heu hev r r)
  have HNo : Hid ((edgeB ex ey eu ev = true → ey = ev ∨ ¬(-1000 ≤ y ∧ y ≤ 1000)) → lvlB ex ey eu ev y = false ∧ lvlQ ex ey eu ev y = noR) := lvl_none
  have HSo : Hid (edgeB ex ey eu ev = true → (-1000 ≤ y ∧ y ≤ 1000) → ey ≠ ev → lvlB ex ey eu ev y = spanB ex ey eu ev X X ∧ lvlQ ex ey eu ev y = (if spanB ex ey eu ev X X = true then X else noR)) := fun h k h0 => by
    refine lvl_some h k h0 ?_
    have h' := edge_iff.1 h
    have m := ab_mul (a := y - ey) (b := eu - ex) (B := 2000) (C := 2000) (by omega) (by omega)
    rw [hX, hO, iw_eq, iw_eq, iw_eq, iw_eq, w64_inD (z := y - ey) (by omega), w64_inD (z := eu - ex) (by omega), w64_inD (z := (y - ey) * (eu - ex)) (by omega), w64_inD (z := ev - ey) (by omega)]
    rfl
  generalize spanB ex ey eu ev X X = b2 at *
  generalize edgeB ex ey eu ev = b1 at *
  generalize lvlB ex ey eu ev y = RB at *
  generalize lvlQ ex ey eu ev y = RZ at *
  have HXE := hide hX
  clear hX hO hex hey heu hev
  obtain ⟨W0, hW0⟩ : ∃ W0, W0 = ((w.alloc (.cells #[.int .i64 ex, .int .i64 ey, .int .i64 eu, .int .i64 ev, .int .i64 ek, .bool el] 35)).alloc (.cells #[.bool false, .slice none 0 0, .slice none 0 0] 30)) := ⟨_, rfl⟩
  have hT0 : Below w.heap.size w W0 := by rw [hW0]; exact below_alloc (below_new _ _) _
  have ke : Box W0 (w.heap.size) 35 #[.int .i64 ex, .int .i64 ey, .int .i64 eu, .int .i64 ev, .int .i64 ek, .bool el] := by rw [hW0]; exact (Box.last _ _ _ rfl).alloc _
  have kr : Box W0 (w.heap.size + 1) 30 #[.bool false, .slice none 0 0, .slice none 0 0] := by rw [hW0]; exact Box.last _ _ _ (alloc_size _ _).symm
  have hs0 : W0.heap.size = w.heap.size + 2 := by rw [hW0, alloc_size, alloc_size]
  go_enter Tryz.func11, Tryz.ntmps11
  go_upto_region 1 with fail
  rw [← hW0]
  clear hW0
  obtain ⟨ye0, ye1, ye2, ye3, ye4, ye5⟩ := ke.cells6
  go_wp2_with fail
  refine (HV.out W0).mono ?_
  rintro e w1 ⟨rfl, hb1⟩
  clear ye0 ye1 ye2 ye3 ye4 ye5
  have hs1 := hb1.size
  have hT1 := below_then hT0 hb1
  have ke := ke.below hb1 ke.lt
  have kr := kr.below hb1 kr.lt
  clear hT0
  clear hb1
  cases b1 with
  | false =>
    have hN := HNo.out (fun h => absurd h (by decide))
    have hB := hN.1
    have hQ := hN.2
    clear hN
    have HO := hide (ret_q kr (QOwn.zero w1 w1.heap.size w1.heap.size 3 (Nat.le_refl _)) hT1 (by omega) (by omega) (by omega) (.inl (by omega)))
    obtain ⟨yr0, yr1, yr2, zr0, zr1, zr2⟩ := kr.facts3
    clear kr
    go_wp2_with fail
    refine bodyPost_ret (results_cell_tmp rfl _ _ (w.heap.size + 1) _ #[.bool false, .slice none 0 0, .slice none 0 0] (0, 0) _ rfl HO.out.1 Tryz.underlying30 rfl Tryz.sizeRat) rfl ?_
    exact ⟨_, _, _, by rw [hB]; rfl, by rw [hQ]; exact HO.out.2.1, HO.out.2.2⟩
  | true =>
    by_cases c0 : ey = ev
    · have hN := HNo.out (fun _ => .inl c0)
      have hB := hN.1
      have hQ := hN.2
      clear hN HNo HSo HW
      have hd1 : decide (ey = ev) = true := decide_eq_true c0
      have he1 : (ey = ev) = True := eq_true c0
      obtain ⟨ye0, ye1, ye2, ye3, ye4, ye5⟩ := ke.cells6
      have HO := hide (ret_q kr (QOwn.zero w1 w1.heap.size w1.heap.size 3 (Nat.le_refl _)) hT1 (by omega) (by omega) (by omega) (.inl (by omega)))
      obtain ⟨yr0, yr1, yr2, zr0, zr1, zr2⟩ := kr.facts3
      clear kr
      go_wp2_with fail
      refine bodyPost_ret (results_cell_tmp rfl _ _ (w.heap.size + 1) _ #[.bool false, .slice none 0 0, .slice none 0 0] (0, 0) _ rfl HO.out.1 Tryz.underlying30 rfl Tryz.sizeRat) rfl ?_
      exact ⟨_, _, _, by rw [hB]; rfl, by rw [hQ]; exact HO.out.2.1, HO.out.2.2⟩
    · have hd1 : decide (ey = ev) = false := decide_eq_false c0
      have he1 : (ey = ev) = False := eq_false c0
      obtain ⟨b3, h3⟩ : ∃ b, b = decide (-1000 ≤ y ∧ y ≤ 1000) := ⟨_, rfl⟩
      have D3 := hide h3
      clear h3
      obtain ⟨ye0, ye1, ye2, ye3, ye4, ye5⟩ := ke.cells6
      go_wp2_with fail
      refine (HL.out _ _ D3).mono ?_
      rintro e w9 ⟨rfl, rfl⟩
      clear ye0 ye1 ye2 ye3 ye4 ye5
      cases b3 with
      | false =>
        have hN := HNo.out (fun _ => .inr (of_decide_eq_false D3.out.symm))
        have hB := hN.1
        have hQ := hN.2
        clear hN
        have HO := hide (ret_q kr (QOwn.zero w1 w1.heap.size w1.heap.size 3 (Nat.le_refl _)) hT1 (by omega) (by omega) (by omega) (.inl (by omega)))
        obtain ⟨yr0, yr1, yr2, zr0, zr1, zr2⟩ := kr.facts3
        clear kr
        go_wp2_with fail
        refine bodyPost_ret (results_cell_tmp rfl _ _ (w.heap.size + 1) _ #[.bool false, .slice none 0 0, .slice none 0 0] (0, 0) _ rfl HO.out.1 Tryz.underlying30 rfl Tryz.sizeRat) rfl ?_
        exact ⟨_, _, _, by rw [hB]; rfl, by rw [hQ]; exact HO.out.2.1, HO.out.2.2⟩
      | true =>
        have hS := HSo.out (by trivial) (of_decide_eq_true D3.out.symm) c0
        have HRB := hide hS.1
        have HRZ := hide hS.2
        clear hS HSo HNo HL
        have hbq : (ey == ev) = false := beq_eq_false_iff_ne.2 c0
        go_upto_region 3 with fail
        try simp only [hbq]
        clear hd1 he1 c0 hbq
        have Ehs0 := hide hs0
        clear hs0
        go_cut [6] from 25 to 50 (fun sx wx => VarQ w1 wx sx (addQ (intQ ex) O) 30 3)
        case first =>
          have HBe := hide ke
          have HS0 : Hid (Below w1.heap.size w1 w1.drew) := (Below.refl _ _).drew
          have HKS := hide (fun (W : World) (hq : Below w1.heap.size w1 W) => (⟨(HBe.out.below hq HBe.out.lt).cell 0, (HBe.out.below hq HBe.out.lt).cell 1, (HBe.out.below hq HBe.out.lt).cell 2, (HBe.out.below hq HBe.out.lt).cell 3, (HBe.out.below hq HBe.out.lt).cell 4, (HBe.out.below hq HBe.out.lt).cell 5⟩ : W.cell? ⟨w.heap.size, 0, none⟩ = some (.int .i64 ex) ∧ W.cell? ⟨w.heap.size, 1, none⟩ = some (.int .i64 ey) ∧ W.cell? ⟨w.heap.size, 2, none⟩ = some (.int .i64 eu) ∧ W.cell? ⟨w.heap.size, 3, none⟩ = some (.int .i64 ev) ∧ W.cell? ⟨w.heap.size, 4, none⟩ = some (.int .i64 ek) ∧ W.cell? ⟨w.heap.size, 5, none⟩ = some (.bool el)))
          obtain ⟨ye0, ye1, ye2, ye3, ye4, ye5⟩ := ke.cells6
          refine wp_region_held_drew (S := (fun w' => w'.cell? ⟨w.heap.size, 0, none⟩ = some (.int .i64 ex) ∧ w'.cell? ⟨w.heap.size, 1, none⟩ = some (.int .i64 ey) ∧ w'.cell? ⟨w.heap.size, 2, none⟩ = some (.int .i64 eu) ∧ w'.cell? ⟨w.heap.size, 3, none⟩ = some (.int .i64 ev) ∧ w'.cell? ⟨w.heap.size, 4, none⟩ = some (.int .i64 ek) ∧ w'.cell? ⟨w.heap.size, 5, none⟩ = some (.bool el))) (by kernel_rfl) (HKS.out _ HS0.out) (fun hHeld => ?_)
          show wpAnyH _ _ _ _ _ 28 _ _ _
          refine takeTF (i := 0) (t := 25) (v := ?_) rfl (by kernel_rfl) (by kernel_rfl) (by kernel_rfl) (fun _ _ _ h => h) rfl (by rfl) ?_ hHeld ?_
          rotate_left 1
          · intro w hSw; (try dsimp only at hSw); go_simp; with_reducible rfl
          simp only [List.setIfInBounds_toArray, List.set_cons_zero, List.set_cons_succ]
          refine takeTF (i := 1) (t := 26) (v := ?_) rfl (by kernel_rfl) (by kernel_rfl) (by kernel_rfl) (fun _ _ _ h => h) rfl (by rfl) ?_ hHeld ?_
          rotate_left 1
          · intro w hSw; (try dsimp only at hSw); go_simp; with_reducible rfl
          simp only [List.setIfInBounds_toArray, List.set_cons_zero, List.set_cons_succ]
          refine takeTF (i := 2) (t := 27) (v := ?_) rfl (by kernel_rfl) (by kernel_rfl) (by kernel_rfl) (fun _ _ _ h => h) rfl (by rfl) ?_ hHeld ?_
          rotate_left 1
          · intro w hSw; (try dsimp only at hSw); go_simp; with_reducible rfl
          simp only [List.setIfInBounds_toArray, List.set_cons_zero, List.set_cons_succ]
          refine takeTF (i := 4) (t := 29) (v := ?_) rfl (by kernel_rfl) (by kernel_rfl) (by kernel_rfl) (fun _ _ _ h => h) rfl (by rfl) ?_ hHeld ?_
          rotate_left 1
          · intro w hSw; (try dsimp only at hSw); go_simp; with_reducible rfl
          simp only [List.setIfInBounds_toArray, List.set_cons_zero, List.set_cons_succ]
          refine takeTF (i := 5) (t := 30) (v := ?_) rfl (by kernel_rfl) (by kernel_rfl) (by kernel_rfl) (fun _ _ _ h => h) rfl (by rfl) ?_ hHeld ?_
          rotate_left 1
          · intro w hSw; (try dsimp only at hSw); go_simp; with_reducible rfl
          simp only [List.setIfInBounds_toArray, List.set_cons_zero, List.set_cons_succ]
          refine takeTF (i := 6) (t := 31) (v := ?_) rfl (by kernel_rfl) (by kernel_rfl) (by kernel_rfl) (fun _ _ _ h => h) rfl (by rfl) ?_ hHeld ?_
          rotate_left 1
          · intro w hSw; (try dsimp only at hSw); go_simp; with_reducible rfl
          simp only [List.setIfInBounds_toArray, List.set_cons_zero, List.set_cons_succ]
          refine takeTF (i := 7) (t := 32) (v := ?_) rfl (by kernel_rfl) (by kernel_rfl) (by kernel_rfl) (fun _ _ _ h => h) rfl (by rfl) ?_ hHeld ?_
          rotate_left 1
          · intro w hSw; (try dsimp only at hSw); go_simp; with_reducible rfl
          simp only [List.setIfInBounds_toArray, List.set_cons_zero, List.set_cons_succ]
          refine takeTF (i := 8) (t := 33) (v := ?_) rfl (by kernel_rfl) (by kernel_rfl) (by kernel_rfl) (fun _ _ _ h => h) rfl (by rfl) ?_ hHeld ?_
          rotate_left 1
          · intro w hSw; (try dsimp only at hSw); go_simp; with_reducible rfl
          simp only [List.setIfInBounds_toArray, List.set_cons_zero, List.set_cons_succ]
          refine takeTF (i := 9) (t := 34) (v := ?_) rfl (by kernel_rfl) (by kernel_rfl) (by kernel_rfl) (fun _ _ _ h => h) rfl (by rfl) ?_ hHeld ?_
          rotate_left 1
          · intro w hSw; (try dsimp only at hSw); go_simp; with_reducible rfl
          simp only [List.setIfInBounds_toArray, List.set_cons_zero, List.set_cons_succ]
          refine takeTF (i := 10) (t := 35) (v := ?_) rfl (by kernel_rfl) (by kernel_rfl) (by kernel_rfl) (fun _ _ _ h => h) rfl (by rfl) ?_ hHeld ?_
          rotate_left 1
          · intro w hSw; (try dsimp only at hSw); go_simp; with_reducible rfl
          simp only [List.setIfInBounds_toArray, List.set_cons_zero, List.set_cons_succ]
          refine takeTF (i := 11) (t := 36) (v := ?_) rfl (by kernel_rfl) (by kernel_rfl) (by kernel_rfl) (fun _ _ _ h => h) rfl (by rfl) ?_ hHeld ?_
          rotate_left 1
          · intro w hSw; (try dsimp only at hSw); go_simp; with_reducible rfl
          simp only [List.setIfInBounds_toArray, List.set_cons_zero, List.set_cons_succ]
          refine takeTF (i := 12) (t := 37) (v := ?_) rfl (by kernel_rfl) (by kernel_rfl) (by kernel_rfl) (fun _ _ _ h => h) rfl (by rfl) ?_ hHeld ?_
          rotate_left 1
          · intro w hSw; (try dsimp only at hSw); go_simp; with_reducible rfl
          simp only [List.setIfInBounds_toArray, List.set_cons_zero, List.set_cons_succ]
          refine takeTF (i := 13) (t := 38) (v := ?_) rfl (by kernel_rfl) (by kernel_rfl) (by kernel_rfl) (fun _ _ _ h => h) rfl (by rfl) ?_ hHeld ?_
          rotate_left 1
          · intro w hSw; (try dsimp only at hSw); go_simp; with_reducible rfl
          simp only [List.setIfInBounds_toArray, List.set_cons_zero, List.set_cons_succ]
          refine takeTF (i := 14) (t := 39) (v := ?_) rfl (by kernel_rfl) (by kernel_rfl) (by kernel_rfl) (fun _ _ _ h => h) rfl (by rfl) ?_ hHeld ?_
          rotate_left 1
          · intro w hSw; (try dsimp only at hSw); go_simp; with_reducible rfl
          simp only [List.setIfInBounds_toArray, List.set_cons_zero, List.set_cons_succ]
          refine takeTF (i := 15) (t := 40) (v := ?_) rfl (by kernel_rfl) (by kernel_rfl) (by kernel_rfl) (fun _ _ _ h => h) rfl (by rfl) ?_ hHeld ?_
          rotate_left 1
          · intro w hSw; (try dsimp only at hSw); go_simp; with_reducible rfl
          simp only [List.setIfInBounds_toArray, List.set_cons_zero, List.set_cons_succ]
          refine takeTF (i := 16) (t := 41) (v := ?_) rfl (by kernel_rfl) (by kernel_rfl) (by kernel_rfl) (fun _ _ _ h => h) rfl (by rfl) ?_ hHeld ?_
          rotate_left 1
          · intro w hSw; (try dsimp only at hSw); go_simp; with_reducible rfl
          simp only [List.setIfInBounds_toArray, List.set_cons_zero, List.set_cons_succ]
          refine takeTF (i := 17) (t := 42) (v := ?_) rfl (by kernel_rfl) (by kernel_rfl) (by kernel_rfl) (fun _ _ _ h => h) rfl (by rfl) ?_ hHeld ?_
          rotate_left 1
          · intro w hSw; (try dsimp only at hSw); go_simp; with_reducible rfl
          simp only [List.setIfInBounds_toArray, List.set_cons_zero, List.set_cons_succ]
          refine takeTF (i := 18) (t := 43) (v := ?_) rfl (by kernel_rfl) (by kernel_rfl) (by kernel_rfl) (fun _ _ _ h => h) rfl (by rfl) ?_ hHeld ?_
          rotate_left 1
          · intro w hSw; (try dsimp only at hSw); go_simp; with_reducible rfl
          simp only [List.setIfInBounds_toArray, List.set_cons_zero, List.set_cons_succ]
          refine takeTF (i := 19) (t := 44) (v := ?_) rfl (by kernel_rfl) (by kernel_rfl) (by kernel_rfl) (fun _ _ _ h => h) rfl (by rfl) ?_ hHeld ?_
          rotate_left 1
          · intro w hSw; (try dsimp only at hSw); go_simp; with_reducible rfl
          simp only [List.setIfInBounds_toArray, List.set_cons_zero, List.set_cons_succ]
          refine takeTF (i := 20) (t := 45) (v := ?_) rfl (by kernel_rfl) (by kernel_rfl) (by kernel_rfl) (fun _ _ _ h => h) rfl (by rfl) ?_ hHeld ?_
          rotate_left 1
          · intro w hSw; (try dsimp only at hSw); go_simp; with_reducible rfl
          simp only [List.setIfInBounds_toArray, List.set_cons_zero, List.set_cons_succ]
          refine takeTF (i := 21) (t := 46) (v := ?_) rfl (by kernel_rfl) (by kernel_rfl) (by kernel_rfl) (fun _ _ _ h => h) rfl (by rfl) ?_ hHeld ?_
          rotate_left 1
          · intro w hSw; (try dsimp only at hSw); go_simp; with_reducible rfl
          simp only [List.setIfInBounds_toArray, List.set_cons_zero, List.set_cons_succ]
          refine takeTF (i := 22) (t := 47) (v := ?_) rfl (by kernel_rfl) (by kernel_rfl) (by kernel_rfl) (fun _ _ _ h => h) rfl (by rfl) ?_ hHeld ?_
          rotate_left 1
          · intro w hSw; (try dsimp only at hSw); go_simp; with_reducible rfl
          simp only [List.setIfInBounds_toArray, List.set_cons_zero, List.set_cons_succ]
          refine takeTF (i := 23) (t := 48) (v := ?_) rfl (by kernel_rfl) (by kernel_rfl) (by kernel_rfl) (fun _ _ _ h => h) rfl (by rfl) ?_ hHeld ?_
          rotate_left 1
          · intro w hSw; (try dsimp only at hSw); go_simp; with_reducible rfl
          simp only [List.setIfInBounds_toArray, List.set_cons_zero, List.set_cons_succ]
          clear ye0 ye1 ye2 ye3 ye4 ye5
          refine wpAnyH_ready (rs := [3, 26]) (by kernel_rfl) (by simp) ?_
          refine (AllReadyH.cons rfl (fun K hK => ?_) (AllReadyH.cons rfl (fun K hK => ?_) AllReadyH.nil))
          · simp only [List.getElem_toArray, List.getElem_cons_succ, List.getElem_cons_zero]
            go_simp
            (with_reducible refine Calls.mono (HI.out _) ?_)
            rintro e V1 ⟨g0, g1, g2, rfl, og, bV1⟩
            obtain ⟨gb, gA, gn, gc, gD, gm, gk, rfl, rfl, rfl⟩ := og.cut
            have og : QOwn V1 w1.heap.size V1.heap.size 3 (.bool gb) (.slice gA gn gc) (.slice gD gm gk) (intQ ex) := og
            have qg := og.in_ (intQ_fit _) (Nat.le_refl _)
            have zV1 : w1.heap.size ≤ V1.heap.size := bV1.size
            have HV1x := hide (below_then HS0.out bV1)
            go_wp2_with fail
            refine hK.out _ _ (HKS.out _ HV1x.out) (fun hHeld => ?_)
            clear hK K bV1
            refine wpAnyH_ready (rs := [24, 26]) (by kernel_rfl) (by simp) ?_
            refine (AllReadyH.cons rfl (fun K hK => ?_) (AllReadyH.cons rfl (fun K hK => ?_) AllReadyH.nil))
            · simp only [List.getElem_toArray, List.getElem_cons_succ, List.getElem_cons_zero]
              go_simp
              (with_reducible refine Calls.mono (HOF.out V1) ?_)
              rintro e V2 ⟨d0, d1, d2, rfl, od, bV2⟩
              obtain ⟨db, dA, dn, dc, dD, dm, dk, rfl, rfl, rfl⟩ := od.cut
              have od : QOwn V2 V1.heap.size V2.heap.size 3 (.bool db) (.slice dA dn dc) (.slice dD dm dk) (O) := od
              have qd := od.in_ (HFO.out) (Nat.le_refl _)
              have zV2 : V1.heap.size ≤ V2.heap.size := bV2.size
              have HV2x := hide (below_then HV1x.out bV2)
              have qg := qg.up bV2
              have og := og.below bV2 (by omega)
              go_wp2_with fail
              refine hK.out _ _ (HKS.out _ HV2x.out) (fun hHeld => ?_)
              clear hK K bV2
              refine wpAnyH_ready (rs := [25, 26]) (by kernel_rfl) (by simp) ?_
              refine (AllReadyH.cons rfl (fun K hK => ?_) (AllReadyH.cons rfl (fun K hK => ?_) AllReadyH.nil))
              · simp only [List.getElem_toArray, List.getElem_cons_succ, List.getElem_cons_zero]
                go_simp
                (with_reducible refine Calls.mono (spec_addQ V2 V2.heap.size (Nat.le_refl _) qg qd) ?_)
                rintro e V3 ⟨z0, z1, z2, rfl, oz, bV3⟩
                obtain ⟨zb, zA, zn, zc, zD, zm, zk, rfl, rfl, rfl⟩ := oz.cut
                have oz : QOwn V3 V2.heap.size V3.heap.size 3 (.bool zb) (.slice zA zn zc) (.slice zD zm zk) (addQ (intQ ex) O) := oz
                have qz := oz.in_ (addQ_fit _ _) (Nat.le_refl _)
                have zV3 : V2.heap.size ≤ V3.heap.size := bV3.size
                have HV3x := hide (below_then HV2x.out bV3)
                have qg := qg.up bV3
                have og := og.below bV3 (by omega)
                have qd := qd.up bV3
                have od := od.below bV3 (by omega)
                go_wp2_with fail
                refine hK.out _ _ (HKS.out _ HV3x.out) (fun hHeld => ?_)
                clear hK K bV3
                refine wpAnyH_ready (rs := [26]) (by kernel_rfl) (by simp) ?_
                refine (AllReadyH.cons rfl (fun K hK => ?_) AllReadyH.nil)
                simp only [List.getElem_toArray, List.getElem_cons_succ, List.getElem_cons_zero]
                go_wp2_with fail
                obtain ⟨V4, hV4⟩ : ∃ x, x = V3.alloc (.cells #[.bool false, .slice none 0 0, .slice none 0 0] 30) := ⟨_, rfl⟩
                have bV4 : Below V3.heap.size V3 V4 := by rw [hV4]; exact below_new _ _
                have kV4 : Box V4 V3.heap.size 30 #[.bool false, .slice none 0 0, .slice none 0 0] := by rw [hV4]; exact Box.last _ _ _ rfl
                have zV4 : V4.heap.size ≤ V3.heap.size + 1 ∧ V3.heap.size + 1 ≤ V4.heap.size := by rw [hV4, alloc_size]; exact ⟨Nat.le_refl _, Nat.le_refl _⟩
                have HV4x := hide (below_then HV3x.out bV4)
                have qg := qg.up bV4
                have og := og.below bV4 (by omega)
                have qd := qd.up bV4
                have od := od.below bV4 (by omega)
                have qz := qz.up bV4
                have oz := oz.below bV4 (by omega)
                have knewv := kV4
                rw [← hV4]
                refine hK.out _ _ (HKS.out _ HV4x.out) (fun hHeld => ?_)
                clear hK K hV4 bV4 kV4
                have lnewv := knewv.lt
                obtain ⟨t0, t1, t2, f0, f1, f2⟩ := knewv.facts3
                refine wpAnyH_ready (rs := [27]) (by kernel_rfl) (by simp) ?_
                refine AllReadyH.cons rfl (fun K hK => ?_) AllReadyH.nil
                simp only [List.getElem_toArray, List.getElem_cons_succ, List.getElem_cons_zero]
                go_wp2_with fail
                clear t0 t1 t2 f0 f1 f2
                obtain ⟨V5, hV5⟩ : ∃ x, x = set3E V4 (V3.heap.size) (.bool zb) (.slice zA zn zc) (.slice zD zm zk) := ⟨_, rfl⟩
                have zV5 : V5.heap.size ≤ V4.heap.size ∧ V4.heap.size ≤ V5.heap.size := by rw [hV5, set3E_size]; exact ⟨Nat.le_refl _, Nat.le_refl _⟩
                have HV5 : Hid (Below w1.heap.size w1 V5) := by rw [hV5]; exact set3E_below HV4x.out (by omega) _ _ _
                have knewv : Box V5 (V3.heap.size) 30 #[.bool zb, .slice zA zn zc, .slice zD zm zk] := by rw [hV5]; exact knewv.set3E
                have oz : QOwn V5 (V2.heap.size) (V3.heap.size) 3 (.bool zb) (.slice zA zn zc) (.slice zD zm zk) (addQ (intQ ex) O) := by rw [hV5]; exact (((oz.setv (by omega) 0 _).setv (by omega) 1 _).setv (by omega) 2 _)
                have hV5' := hV5
                unfold set3E at hV5'
                rw [← hV5']
                refine hK.out _ _ (HKS.out _ HV5.out) (fun hHeld => ?_)
                clear hK K hV5 hV5'
                refine wpAnyH_done (by kernel_rfl) ?_ _
                go_wp2_with fail
                go_meet
                case rel => exact ⟨_, _, _, _, _, _, rfl, knewv, oz, by omega, by omega, by omega, by omega, HV5.out⟩
              · simp only [List.getElem_toArray, List.getElem_cons_succ, List.getElem_cons_zero]
                go_wp2_with fail
                obtain ⟨V6, hV6⟩ : ∃ x, x = V2.alloc (.cells #[.bool false, .slice none 0 0, .slice none 0 0] 30) := ⟨_, rfl⟩
                have bV6 : Below V2.heap.size V2 V6 := by rw [hV6]; exact below_new _ _
                have kV6 : Box V6 V2.heap.size 30 #[.bool false, .slice none 0 0, .slice none 0 0] := by rw [hV6]; exact Box.last _ _ _ rfl
                have zV6 : V6.heap.size ≤ V2.heap.size + 1 ∧ V2.heap.size + 1 ≤ V6.heap.size := by rw [hV6, alloc_size]; exact ⟨Nat.le_refl _, Nat.le_refl _⟩
                have HV6x := hide (below_then HV2x.out bV6)
                have qg := qg.up bV6
                have og := og.below bV6 (by omega)
                have qd := qd.up bV6
                have od := od.below bV6 (by omega)
                have knewv := kV6
                rw [← hV6]
                refine hK.out _ _ (HKS.out _ HV6x.out) (fun hHeld => ?_)
                clear hK K hV6 bV6 kV6
                refine wpAnyH_ready (rs := [25]) (by kernel_rfl) (by simp) ?_
                refine (AllReadyH.cons rfl (fun K hK => ?_) AllReadyH.nil)
                simp only [List.getElem_toArray, List.getElem_cons_succ, List.getElem_cons_zero]
                go_simp
                (with_reducible refine Calls.mono (spec_addQ V6 V6.heap.size (Nat.le_refl _) qg qd) ?_)
                rintro e V7 ⟨z0, z1, z2, rfl, oz, bV7⟩
                obtain ⟨zb, zA, zn, zc, zD, zm, zk, rfl, rfl, rfl⟩ := oz.cut
                have oz : QOwn V7 V6.heap.size V7.heap.size 3 (.bool zb) (.slice zA zn zc) (.slice zD zm zk) (addQ (intQ ex) O) := oz
                have qz := oz.in_ (addQ_fit _ _) (Nat.le_refl _)
                have zV7 : V6.heap.size ≤ V7.heap.size := bV7.size
                have HV7x := hide (below_then HV6x.out bV7)
                have knewv := knewv.below bV7 knewv.lt
                have qg := qg.up bV7
                have og := og.below bV7 (by omega)
                have qd := qd.up bV7
                have od := od.below bV7 (by omega)
                go_wp2_with fail
                refine hK.out _ _ (HKS.out _ HV7x.out) (fun hHeld => ?_)
                clear hK K bV7
                have lnewv := knewv.lt
                obtain ⟨t0, t1, t2, f0, f1, f2⟩ := knewv.facts3
                refine wpAnyH_ready (rs := [27]) (by kernel_rfl) (by simp) ?_
                refine AllReadyH.cons rfl (fun K hK => ?_) AllReadyH.nil
                simp only [List.getElem_toArray, List.getElem_cons_succ, List.getElem_cons_zero]
                go_wp2_with fail
                clear t0 t1 t2 f0 f1 f2
                obtain ⟨V8, hV8⟩ : ∃ x, x = set3E V7 (V2.heap.size) (.bool zb) (.slice zA zn zc) (.slice zD zm zk) := ⟨_, rfl⟩
                have zV8 : V8.heap.size ≤ V7.heap.size ∧ V7.heap.size ≤ V8.heap.size := by rw [hV8, set3E_size]; exact ⟨Nat.le_refl _, Nat.le_refl _⟩
                have HV8 : Hid (Below w1.heap.size w1 V8) := by rw [hV8]; exact set3E_below HV7x.out (by omega) _ _ _
                have knewv : Box V8 (V2.heap.size) 30 #[.bool zb, .slice zA zn zc, .slice zD zm zk] := by rw [hV8]; exact knewv.set3E
                have oz : QOwn V8 (V6.heap.size) (V7.heap.size) 3 (.bool zb) (.slice zA zn zc) (.slice zD zm zk) (addQ (intQ ex) O) := by rw [hV8]; exact (((oz.setv (by omega) 0 _).setv (by omega) 1 _).setv (by omega) 2 _)
                have hV8' := hV8
                unfold set3E at hV8'
                rw [← hV8']
                refine hK.out _ _ (HKS.out _ HV8.out) (fun hHeld => ?_)
                clear hK K hV8 hV8'
                refine wpAnyH_done (by kernel_rfl) ?_ _
                go_wp2_with fail
                go_meet
                case rel => exact ⟨_, _, _, _, _, _, rfl, knewv, oz, by omega, by omega, by omega, by omega, HV8.out⟩
            · simp only [List.getElem_toArray, List.getElem_cons_succ, List.getElem_cons_zero]
              go_wp2_with fail
              obtain ⟨V9, hV9⟩ : ∃ x, x = V1.alloc (.cells #[.bool false, .slice none 0 0, .slice none 0 0] 30) := ⟨_, rfl⟩
              have bV9 : Below V1.heap.size V1 V9 := by rw [hV9]; exact below_new _ _
              have kV9 : Box V9 V1.heap.size 30 #[.bool false, .slice none 0 0, .slice none 0 0] := by rw [hV9]; exact Box.last _ _ _ rfl
              have zV9 : V9.heap.size ≤ V1.heap.size + 1 ∧ V1.heap.size + 1 ≤ V9.heap.size := by rw [hV9, alloc_size]; exact ⟨Nat.le_refl _, Nat.le_refl _⟩
              have HV9x := hide (below_then HV1x.out bV9)
              have qg := qg.up bV9
              have og := og.below bV9 (by omega)
              have knewv := kV9
              rw [← hV9]
              refine hK.out _ _ (HKS.out _ HV9x.out) (fun hHeld => ?_)
              clear hK K hV9 bV9 kV9
              refine wpAnyH_ready (rs := [24]) (by kernel_rfl) (by simp) ?_
              refine (AllReadyH.cons rfl (fun K hK => ?_) AllReadyH.nil)
              simp only [List.getElem_toArray, List.getElem_cons_succ, List.getElem_cons_zero]
              go_simp
              (with_reducible refine Calls.mono (HOF.out V9) ?_)
              rintro e V10 ⟨d0, d1, d2, rfl, od, bV10⟩
              obtain ⟨db, dA, dn, dc, dD, dm, dk, rfl, rfl, rfl⟩ := od.cut
              have od : QOwn V10 V9.heap.size V10.heap.size 3 (.bool db) (.slice dA dn dc) (.slice dD dm dk) (O) := od
              have qd := od.in_ (HFO.out) (Nat.le_refl _)
              have zV10 : V9.heap.size ≤ V10.heap.size := bV10.size
              have HV10x := hide (below_then HV9x.out bV10)
              have knewv := knewv.below bV10 knewv.lt
              have qg := qg.up bV10
              have og := og.below bV10 (by omega)
              go_wp2_with fail
              refine hK.out _ _ (HKS.out _ HV10x.out) (fun hHeld => ?_)
              clear hK K bV10
              refine wpAnyH_ready (rs := [25]) (by kernel_rfl) (by simp) ?_
              refine (AllReadyH.cons rfl (fun K hK => ?_) AllReadyH.nil)
              simp only [List.getElem_toArray, List.getElem_cons_succ, List.getElem_cons_zero]
              go_simp
              (with_reducible refine Calls.mono (spec_addQ V10 V10.heap.size (Nat.le_refl _) qg qd) ?_)
              rintro e V11 ⟨z0, z1, z2, rfl, oz, bV11⟩
              obtain ⟨zb, zA, zn, zc, zD, zm, zk, rfl, rfl, rfl⟩ := oz.cut
              have oz : QOwn V11 V10.heap.size V11.heap.size 3 (.bool zb) (.slice zA zn zc) (.slice zD zm zk) (addQ (intQ ex) O) := oz
              have qz := oz.in_ (addQ_fit _ _) (Nat.le_refl _)
              have zV11 : V10.heap.size ≤ V11.heap.size := bV11.size
              have HV11x := hide (below_then HV10x.out bV11)
              have knewv := knewv.below bV11 knewv.lt
              have qg := qg.up bV11
              have og := og.below bV11 (by omega)
              have qd := qd.up bV11
              have od := od.below bV11 (by omega)
              go_wp2_with fail
              refine hK.out _ _ (HKS.out _ HV11x.out) (fun hHeld => ?_)
              clear hK K bV11
              have lnewv := knewv.lt
              obtain ⟨t0, t1, t2, f0, f1, f2⟩ := knewv.facts3
              refine wpAnyH_ready (rs := [27]) (by kernel_rfl) (by simp) ?_
              refine AllReadyH.cons rfl (fun K hK => ?_) AllReadyH.nil
              simp only [List.getElem_toArray, List.getElem_cons_succ, List.getElem_cons_zero]
              go_wp2_with fail
              clear t0 t1 t2 f0 f1 f2
              obtain ⟨V12, hV12⟩ : ∃ x, x = set3E V11 (V1.heap.size) (.bool zb) (.slice zA zn zc) (.slice zD zm zk) := ⟨_, rfl⟩
              have zV12 : V12.heap.size ≤ V11.heap.size ∧ V11.heap.size ≤ V12.heap.size := by rw [hV12, set3E_size]; exact ⟨Nat.le_refl _, Nat.le_refl _⟩
              have HV12 : Hid (Below w1.heap.size w1 V12) := by rw [hV12]; exact set3E_below HV11x.out (by omega) _ _ _
              have knewv : Box V12 (V1.heap.size) 30 #[.bool zb, .slice zA zn zc, .slice zD zm zk] := by rw [hV12]; exact knewv.set3E
              have oz : QOwn V12 (V10.heap.size) (V11.heap.size) 3 (.bool zb) (.slice zA zn zc) (.slice zD zm zk) (addQ (intQ ex) O) := by rw [hV12]; exact (((oz.setv (by omega) 0 _).setv (by omega) 1 _).setv (by omega) 2 _)
              have hV12' := hV12
              unfold set3E at hV12'
              rw [← hV12']
              refine hK.out _ _ (HKS.out _ HV12.out) (fun hHeld => ?_)
              clear hK K hV12 hV12'
              refine wpAnyH_done (by kernel_rfl) ?_ _
              go_wp2_with fail
              go_meet
              case rel => exact ⟨_, _, _, _, _, _, rfl, knewv, oz, by omega, by omega, by omega, by omega, HV12.out⟩
          · simp only [List.getElem_toArray, List.getElem_cons_succ, List.getElem_cons_zero]
            go_wp2_with fail
            obtain ⟨V13, hV13⟩ : ∃ x, x = (w1.alloc (.cells #[.bool false, .slice none 0 0, .slice none 0 0] 30)).drew := ⟨_, rfl⟩
            have bV13 : Below w1.heap.size w1 V13 := by rw [hV13]; exact (below_new _ _).drew
            have kV13 : Box V13 w1.heap.size 30 #[.bool false, .slice none 0 0, .slice none 0 0] := by rw [hV13]; exact (Box.last _ _ _ rfl).drew
            have zV13 : V13.heap.size ≤ w1.heap.size + 1 ∧ w1.heap.size + 1 ≤ V13.heap.size := by rw [hV13, drew_size, alloc_size]; exact ⟨Nat.le_refl _, Nat.le_refl _⟩
            have HV13x := hide bV13
            have knewv := kV13
            rw [← hV13]
            refine hK.out _ _ (HKS.out _ HV13x.out) (fun hHeld => ?_)
            clear hK K hV13 bV13 kV13
            refine wpAnyH_ready (rs := [3]) (by kernel_rfl) (by simp) ?_
            refine (AllReadyH.cons rfl (fun K hK => ?_) AllReadyH.nil)
            simp only [List.getElem_toArray, List.getElem_cons_succ, List.getElem_cons_zero]
            go_simp
            (with_reducible refine Calls.mono (HI.out V13) ?_)
            rintro e V14 ⟨g0, g1, g2, rfl, og, bV14⟩
            obtain ⟨gb, gA, gn, gc, gD, gm, gk, rfl, rfl, rfl⟩ := og.cut
            have og : QOwn V14 V13.heap.size V14.heap.size 3 (.bool gb) (.slice gA gn gc) (.slice gD gm gk) (intQ ex) := og
            have qg := og.in_ (intQ_fit _) (Nat.le_refl _)
            have zV14 : V13.heap.size ≤ V14.heap.size := bV14.size
            have HV14x := hide (below_then HV13x.out bV14)
            have knewv := knewv.below bV14 knewv.lt
            go_wp2_with fail
            refine hK.out _ _ (HKS.out _ HV14x.out) (fun hHeld => ?_)
            clear hK K bV14
            refine wpAnyH_ready (rs := [24]) (by kernel_rfl) (by simp) ?_
            refine (AllReadyH.cons rfl (fun K hK => ?_) AllReadyH.nil)
            simp only [List.getElem_toArray, List.getElem_cons_succ, List.getElem_cons_zero]
            go_simp
            (with_reducible refine Calls.mono (HOF.out V14) ?_)
            rintro e V15 ⟨d0, d1, d2, rfl, od, bV15⟩
            obtain ⟨db, dA, dn, dc, dD, dm, dk, rfl, rfl, rfl⟩ := od.cut
            have od : QOwn V15 V14.heap.size V15.heap.size 3 (.bool db) (.slice dA dn dc) (.slice dD dm dk) (O) := od
            have qd := od.in_ (HFO.out) (Nat.le_refl _)
            have zV15 : V14.heap.size ≤ V15.heap.size := bV15.size
            have HV15x := hide (below_then HV14x.out bV15)
            have knewv := knewv.below bV15 knewv.lt
            have qg := qg.up bV15
            have og := og.below bV15 (by omega)
            go_wp2_with fail
            refine hK.out _ _ (HKS.out _ HV15x.out) (fun hHeld => ?_)
            clear hK K bV15
            refine wpAnyH_ready (rs := [25]) (by kernel_rfl) (by simp) ?_
            refine (AllReadyH.cons rfl (fun K hK => ?_) AllReadyH.nil)
            simp only [List.getElem_toArray, List.getElem_cons_succ, List.getElem_cons_zero]
            go_simp
            (with_reducible refine Calls.mono (spec_addQ V15 V15.heap.size (Nat.le_refl _) qg qd) ?_)
            rintro e V16 ⟨z0, z1, z2, rfl, oz, bV16⟩
            obtain ⟨zb, zA, zn, zc, zD, zm, zk, rfl, rfl, rfl⟩ := oz.cut
            have oz : QOwn V16 V15.heap.size V16.heap.size 3 (.bool zb) (.slice zA zn zc) (.slice zD zm zk) (addQ (intQ ex) O) := oz
            have qz := oz.in_ (addQ_fit _ _) (Nat.le_refl _)
            have zV16 : V15.heap.size ≤ V16.heap.size := bV16.size
            have HV16x := hide (below_then HV15x.out bV16)
            have knewv := knewv.below bV16 knewv.lt
            have qg := qg.up bV16
            have og := og.below bV16 (by omega)
            have qd := qd.up bV16
            have od := od.below bV16 (by omega)
            go_wp2_with fail
            refine hK.out _ _ (HKS.out _ HV16x.out) (fun hHeld => ?_)
            clear hK K bV16
            have lnewv := knewv.lt
            obtain ⟨t0, t1, t2, f0, f1, f2⟩ := knewv.facts3
            refine wpAnyH_ready (rs := [27]) (by kernel_rfl) (by simp) ?_
            refine AllReadyH.cons rfl (fun K hK => ?_) AllReadyH.nil
            simp only [List.getElem_toArray, List.getElem_cons_succ, List.getElem_cons_zero]
            go_wp2_with fail
            clear t0 t1 t2 f0 f1 f2
            obtain ⟨V17, hV17⟩ : ∃ x, x = set3E V16 (w1.heap.size) (.bool zb) (.slice zA zn zc) (.slice zD zm zk) := ⟨_, rfl⟩
            have zV17 : V17.heap.size ≤ V16.heap.size ∧ V16.heap.size ≤ V17.heap.size := by rw [hV17, set3E_size]; exact ⟨Nat.le_refl _, Nat.le_refl _⟩
            have HV17 : Hid (Below w1.heap.size w1 V17) := by rw [hV17]; exact set3E_below HV16x.out (by omega) _ _ _
            have knewv : Box V17 (w1.heap.size) 30 #[.bool zb, .slice zA zn zc, .slice zD zm zk] := by rw [hV17]; exact knewv.set3E
            have oz : QOwn V17 (V15.heap.size) (V16.heap.size) 3 (.bool zb) (.slice zA zn zc) (.slice zD zm zk) (addQ (intQ ex) O) := by rw [hV17]; exact (((oz.setv (by omega) 0 _).setv (by omega) 1 _).setv (by omega) 2 _)
            have hV17' := hV17
            unfold set3E at hV17'
            rw [← hV17']
            refine hK.out _ _ (HKS.out _ HV17.out) (fun hHeld => ?_)
            clear hK K hV17 hV17'
            refine wpAnyH_done (by kernel_rfl) ?_ _
            go_wp2_with fail
            go_meet
            case rel => exact ⟨_, _, _, _, _, _, rfl, knewv, oz, by omega, by omega, by omega, by omega, HV17.out⟩
        case rest =>
          have hs0 := Ehs0.out
          clear Ehs0
          obtain ⟨gx, x0, x1, x2, lox, hix, rfl, bn, on, hlox, hhix, hggx, hglx, hb2⟩ := hcut
          obtain ⟨xb, xA, xn, xc, xD, xm, xk, rfl, rfl, rfl⟩ := on.cut
          obtain ⟨w2, hw2⟩ : ∃ xw, xw = wc := ⟨_, rfl⟩
          subst hw2
          have hs2 := hb2.size
          have hT2 := below_then hT1 hb2
          have ke := ke.below hb2 ke.lt
          have kr := kr.below hb2 kr.lt
          clear hT1
          clear hb2
          have kx := bn
          have lx := bn.lt
          have ox := on
          clear bn on
          rw [← HXE.out] at ox
          go_upto_region 4 with fail
          obtain ⟨ye0, ye1, ye2, ye3, ye4, ye5⟩ := ke.cells6
          obtain ⟨yx0, yx1, yx2⟩ := kx.cells3
          go_wp2_with fail
          refine (HW.out w2 _ _ _ (ox.in_ HXF.out (by omega))).mono ?_
          rintro e w3 ⟨rfl, hb3⟩
          clear ye0 ye1 ye2 ye3 ye4 ye5 yx0 yx1 yx2
          have hs3 := hb3.size
          have hT3 := below_then hT2 hb3
          have ke := ke.below hb3 ke.lt
          have kr := kr.below hb3 kr.lt
          have kx := kx.below hb3 kx.lt
          have ox := ox.below hb3 (by omega)
          clear hT2
          clear hb3
          cases b2 with
          | false =>
            have HO := hide (ret_q kr (QOwn.zero w3 w3.heap.size w3.heap.size 3 (Nat.le_refl _)) hT3 (by omega) (by omega) (by omega) (.inl (by omega)))
            obtain ⟨yr0, yr1, yr2, zr0, zr1, zr2⟩ := kr.facts3
            clear kr
            go_wp2_with fail
            refine bodyPost_ret (results_cell_tmp rfl _ _ (w.heap.size + 1) _ #[.bool false, .slice none 0 0, .slice none 0 0] (0, 0) _ rfl HO.out.1 Tryz.underlying30 rfl Tryz.sizeRat) rfl ?_
            exact ⟨_, _, _, by rw [HRB.out]; rfl, by rw [HRZ.out]; exact HO.out.2.1, HO.out.2.2⟩
          | true =>
            have HO := hide (ret_q kr ox hT3 (by omega) (by omega) (by omega) (.inl (by omega)))
            obtain ⟨yr0, yr1, yr2, zr0, zr1, zr2⟩ := kr.facts3
            obtain ⟨yx0, yx1, yx2⟩ := kx.cells3
            clear kr
            go_wp2_with fail
            refine bodyPost_ret (results_cell_tmp rfl _ _ (w.heap.size + 1) _ #[.bool xb, .slice xA xn xc, .slice xD xm xk] (0, 0) _ rfl HO.out.1 Tryz.underlying30 rfl Tryz.sizeRat) rfl ?_
            exact ⟨_, _, _, by rw [HRB.out]; rfl, by rw [HRZ.out]; exact HO.out.2.1, HO.out.2.2⟩
end Go.Proofs.YtdcceppednngjaaGreat
