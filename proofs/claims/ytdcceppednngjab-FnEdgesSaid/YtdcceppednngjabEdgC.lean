/-
  The program's edges: contracts: the line, CrossingX, LevelX.
-/
import Derived.Test.YtdcceppednngjabEdgI
import Derived.Test.YtdcceppednngjabED
import Derived.Test.YtdcceppednngjabPT
import Derived.Deep.RegionHeld3
import Derived.Deep.CutRange
import Derived.Sort.AtCall
namespace Go.Proofs.Ytdcceppednngjab
open Go.RowKit
set_option linter.unusedVariables false
theorem w64_in {z : Int} (h : z.natAbs ≤ 1000000000000) : wrap64 z = z := by unfold wrap64; omega
/-- the program's numbers: in range where both edges are valid, and of no matter elsewhere -/
theorem crs_prog (a b c d p q r s : Int) (X : RQ) (hX : X = ofQ (wrap64 (wrap64 (wrap64 (wrap64 (q * r) - wrap64 (p * s)) * wrap64 (c - a)) - wrap64 (wrap64 (wrap64 (b * c) - wrap64 (a * d)) * wrap64 (r - p)))) (wrap64 (wrap64 (wrap64 (d - b) * wrap64 (r - p)) - wrap64 (wrap64 (s - q) * wrap64 (c - a))))) :
    crsB a b c d p q r s = (spanB a b c d X X && spanB p q r s X X) ∧ crossQ a b c d p q r s = (if (spanB a b c d X X && spanB p q r s X X) = true then X else noR) := by
  by_cases h : edgeB a b c d = true
  · by_cases k : edgeB p q r s = true
    · have h' := edge_iff.1 h
      have k' := edge_iff.1 k
      have m : ∀ {x y : Int} {B C : Nat}, x.natAbs ≤ B → y.natAbs ≤ C → (x * y).natAbs ≤ B * C := fun hx hy => ab_mul hx hy
      have m1 := m (x := q) (y := r) (B := 1000) (C := 1000) (by omega) (by omega)
      have m2 := m (x := p) (y := s) (B := 1000) (C := 1000) (by omega) (by omega)
      have m3 := m (x := b) (y := c) (B := 1000) (C := 1000) (by omega) (by omega)
      have m4 := m (x := a) (y := d) (B := 1000) (C := 1000) (by omega) (by omega)
      have n1 := m (x := q * r - p * s) (y := c - a) (B := 2000000) (C := 2000) (by omega) (by omega)
      have n2 := m (x := b * c - a * d) (y := r - p) (B := 2000000) (C := 2000) (by omega) (by omega)
      have n3 := m (x := d - b) (y := r - p) (B := 2000) (C := 2000) (by omega) (by omega)
      have n4 := m (x := s - q) (y := c - a) (B := 2000) (C := 2000) (by omega) (by omega)
      have e : X = crsX a b c d p q r s := by
        rw [hX]
        unfold crsX crsN crsD
        rw [w64_in (z := q * r) (by omega), w64_in (z := p * s) (by omega), w64_in (z := b * c) (by omega), w64_in (z := a * d) (by omega), w64_in (z := q * r - p * s) (by omega), w64_in (z := b * c - a * d) (by omega), w64_in (z := c - a) (by omega), w64_in (z := r - p) (by omega), w64_in (z := d - b) (by omega), w64_in (z := s - q) (by omega)]
        rw [w64_in (z := (q * r - p * s) * (c - a)) (by omega), w64_in (z := (b * c - a * d) * (r - p)) (by omega), w64_in (z := (d - b) * (r - p)) (by omega), w64_in (z := (s - q) * (c - a)) (by omega), w64_in (by omega), w64_in (by omega)]
      rw [e]
      exact ⟨rfl, rfl⟩
    · have k' : edgeB p q r s = false := by simpa using k
      rw [crossQ, crs_bad (.inr k'), span_bad k', Bool.and_false]
      exact ⟨rfl, rfl⟩
  · have h' : edgeB a b c d = false := by simpa using h
    rw [crossQ, crs_bad (.inl h'), span_bad h', Bool.false_and]
    exact ⟨rfl, rfl⟩
/-- two variables that hold lines -/
def TwoN (w wx : World) (sx sy : Value) (T : TypeId) (cs ds : Array Value) : Prop := ∃ g h : Nat, sx = .pointer (some ⟨g, 0, none⟩) ∧ sy = .pointer (some ⟨h, 0, none⟩) ∧ Box wx g T cs ∧ Box wx h T ds ∧ w.heap.size ≤ g ∧ w.heap.size ≤ h ∧ Below w.heap.size w wx
set_option maxRecDepth 100000 in
set_option maxHeartbeats 3200000 in
theorem impl_line (w : World) (ex ey eu ev ek : Int) (el : Bool) (hex : (Lit.int .i64 ex).wf = true) (hey : (Lit.int .i64 ey).wf = true) (heu : (Lit.int .i64 eu).wf = true) (hev : (Lit.int .i64 ev).wf = true) :
    Calls Try.prog 14 #[.agg #[.int .i64 ex, .int .i64 ey, .int .i64 eu, .int .i64 ev, .int .i64 ek, .bool el]] w fun e w' => e = .returned (.agg #[.int .i64 (wrap64 (ev - ey)), .int .i64 (wrap64 (eu - ex)), .int .i64 (wrap64 (wrap64 (ey * eu) - wrap64 (ex * ev)))]) ∧ Below w.heap.size w w' := by
  obtain ⟨W0, hW0⟩ : ∃ W0, W0 = ((w.alloc (.cells #[.int .i64 ex, .int .i64 ey, .int .i64 eu, .int .i64 ev, .int .i64 ek, .bool el] 26)).alloc (.cells #[.int .i64 0, .int .i64 0, .int .i64 0] 46)) := ⟨_, rfl⟩
  have hT0 : Below w.heap.size w W0 := by rw [hW0]; exact below_alloc (below_new _ _) _
  have ke : Box W0 (w.heap.size) 26 #[.int .i64 ex, .int .i64 ey, .int .i64 eu, .int .i64 ev, .int .i64 ek, .bool el] := by rw [hW0]; exact (Box.last _ _ _ rfl).alloc _
  have kr : Box W0 (w.heap.size + 1) 46 #[.int .i64 0, .int .i64 0, .int .i64 0] := by rw [hW0]; exact Box.last _ _ _ (alloc_size _ _).symm
  have hs0 : W0.heap.size = w.heap.size + 2 := by rw [hW0, alloc_size, alloc_size]
  go_enter Try.func14, Try.ntmps14
  go_upto_region 1 with fail
  rw [← hW0]
  clear hW0
  have HR := hide kr
  obtain ⟨ye0, ye1, ye2, ye3, ye4, ye5⟩ := ke.cells6
  obtain ⟨yr0, yr1, yr2, zr0, zr1, zr2⟩ := kr.facts3
  clear ke kr
  go_wp2_with fail
  refine bodyPost_ret (results_cell_row rfl _ _ (w.heap.size + 1) _ #[.int .i64 (wrap64 (ev - ey)), .int .i64 (wrap64 (eu - ex)), .int .i64 (wrap64 (wrap64 (ey * eu) - wrap64 (ex * ev)))] (0, 0) _ rfl (show Box _ _ 46 #[.int .i64 (wrap64 (ev - ey)), .int .i64 (wrap64 (eu - ex)), .int .i64 (wrap64 (wrap64 (ey * eu) - wrap64 (ex * ev)))] from HR.out.set3E) Try.underlying46 rfl Try.sizeLine) rfl ?_
  exact ⟨rfl, set3E_below hT0 (Nat.le_succ _) _ _ _⟩
set_option maxRecDepth 100000 in
set_option maxHeartbeats 12800000 in
theorem impl_CrossingX (w : World) (ex ey eu ev ek : Int) (el : Bool) (hex : (Lit.int .i64 ex).wf = true) (hey : (Lit.int .i64 ey).wf = true) (heu : (Lit.int .i64 eu).wf = true) (hev : (Lit.int .i64 ev).wf = true) (fx fy fu fv fk : Int) (fl : Bool) (hfx : (Lit.int .i64 fx).wf = true) (hfy : (Lit.int .i64 fy).wf = true) (hfu : (Lit.int .i64 fu).wf = true) (hfv : (Lit.int .i64 fv).wf = true) :
    Calls Try.prog 5 #[.agg #[.int .i64 ex, .int .i64 ey, .int .i64 eu, .int .i64 ev, .int .i64 ek, .bool el], .agg #[.int .i64 fx, .int .i64 fy, .int .i64 fu, .int .i64 fv, .int .i64 fk, .bool fl]] w fun e w' => XRes 3 w w' e (crossQ ex ey eu ev fx fy fu fv) (crsB ex ey eu ev fx fy fu fv) := by
  obtain ⟨x0, ex0⟩ : ∃ z, z = wrap64 (ev - ey) := ⟨_, rfl⟩
  obtain ⟨x1, ex1⟩ : ∃ z, z = wrap64 (eu - ex) := ⟨_, rfl⟩
  obtain ⟨x2, ex2⟩ : ∃ z, z = wrap64 (wrap64 (ey * eu) - wrap64 (ex * ev)) := ⟨_, rfl⟩
  have HC1 := hide (fun (W : World) => impl_line W ex ey eu ev ek el hex hey heu hev)
  rw [← ex0, ← ex1, ← ex2] at HC1
  obtain ⟨y0, ey0⟩ : ∃ z, z = wrap64 (fv - fy) := ⟨_, rfl⟩
  obtain ⟨y1, ey1⟩ : ∃ z, z = wrap64 (fu - fx) := ⟨_, rfl⟩
  obtain ⟨y2, ey2⟩ : ∃ z, z = wrap64 (wrap64 (fy * fu) - wrap64 (fx * fv)) := ⟨_, rfl⟩
  have HC2 := hide (fun (W : World) => impl_line W fx fy fu fv fk fl hfx hfy hfu hfv)
  rw [← ey0, ← ey1, ← ey2] at HC2
  obtain ⟨X, hX⟩ : ∃ X, X = ofQ (wrap64 (wrap64 (y2 * x1) - wrap64 (x2 * y1))) (wrap64 (wrap64 (x0 * y1) - wrap64 (y0 * x1))) := ⟨_, rfl⟩
  have HP := crs_prog ex ey eu ev fx fy fu fv X (by rw [hX, ex0, ex1, ex2, ey0, ey1, ey2])
  have HOF := hide (fun (W : World) => impl_ofQ W (wrap64 (wrap64 (y2 * x1) - wrap64 (x2 * y1))) (wrap64 (wrap64 (x0 * y1) - wrap64 (y0 * x1))) (wrap64_wf _) (wrap64_wf _))
  rw [← hX] at HOF
  have HFX : Hid (QFit X) := by show _; rw [hX]; exact ofQ_fit _ _
  have HV1 := hide (fun (W : World) (v0 v1 v2 : Value) (r : QIn W W.heap.size v0 v1 v2 X) => impl_SpansX W W.heap.size (Nat.le_refl _) ex ey eu ev ek el hex hey heu hev r r)
  have HV2 := hide (fun (W : World) (v0 v1 v2 : Value) (r : QIn W W.heap.size v0 v1 v2 X) => impl_SpansX W W.heap.size (Nat.le_refl _) fx fy fu fv fk fl hfx hfy hfu hfv r r)
  generalize spanB ex ey eu ev X X = b1 at *
  generalize spanB fx fy fu fv X X = b2 at *
  generalize crsB ex ey eu ev fx fy fu fv = RB at *
  generalize crossQ ex ey eu ev fx fy fu fv = RZ at *
  have HRB := hide HP.1
  have HRZ := hide HP.2
  clear HP hX ex0 ex1 ex2 ey0 ey1 ey2 hex hey heu hev hfx hfy hfu hfv
  obtain ⟨W0, hW0⟩ : ∃ W0, W0 = (((w.alloc (.cells #[.int .i64 ex, .int .i64 ey, .int .i64 eu, .int .i64 ev, .int .i64 ek, .bool el] 26)).alloc (.cells #[.int .i64 fx, .int .i64 fy, .int .i64 fu, .int .i64 fv, .int .i64 fk, .bool fl] 26)).alloc (.cells #[.bool false, .slice none 0 0, .slice none 0 0] 32)) := ⟨_, rfl⟩
  have hT0 : Below w.heap.size w W0 := by rw [hW0]; exact below_alloc (below_alloc (below_new _ _) _) _
  have ke : Box W0 (w.heap.size) 26 #[.int .i64 ex, .int .i64 ey, .int .i64 eu, .int .i64 ev, .int .i64 ek, .bool el] := by rw [hW0]; exact ((Box.last _ _ _ rfl).alloc _).alloc _
  have kf : Box W0 (w.heap.size + 1) 26 #[.int .i64 fx, .int .i64 fy, .int .i64 fu, .int .i64 fv, .int .i64 fk, .bool fl] := by rw [hW0]; exact (Box.last _ _ _ (alloc_size _ _).symm).alloc _
  have kr : Box W0 (w.heap.size + 2) 32 #[.bool false, .slice none 0 0, .slice none 0 0] := by rw [hW0]; exact Box.last _ _ _ (by rw [alloc_size, alloc_size])
  have hs0 : W0.heap.size = w.heap.size + 3 := by rw [hW0, alloc_size, alloc_size, alloc_size]
  go_enter Try.func5, Try.ntmps5
  go_upto_region 1 with fail
  rw [← hW0]
  clear hW0
  have HBe := hide ke
  have HBf := hide kf
  have HS0 : Hid (Below W0.heap.size W0 W0.drew) := (Below.refl _ _).drew
  have HKS := hide (fun (W : World) (hq : Below W0.heap.size W0 W) => (⟨(HBe.out.below hq HBe.out.lt).cell 0, (HBe.out.below hq HBe.out.lt).cell 1, (HBe.out.below hq HBe.out.lt).cell 2, (HBe.out.below hq HBe.out.lt).cell 3, (HBe.out.below hq HBe.out.lt).cell 4, (HBe.out.below hq HBe.out.lt).cell 5, (HBf.out.below hq HBf.out.lt).cell 0, (HBf.out.below hq HBf.out.lt).cell 1, (HBf.out.below hq HBf.out.lt).cell 2, (HBf.out.below hq HBf.out.lt).cell 3, (HBf.out.below hq HBf.out.lt).cell 4, (HBf.out.below hq HBf.out.lt).cell 5⟩ : W.cell? ⟨w.heap.size, 0, none⟩ = some (.int .i64 ex) ∧ W.cell? ⟨w.heap.size, 1, none⟩ = some (.int .i64 ey) ∧ W.cell? ⟨w.heap.size, 2, none⟩ = some (.int .i64 eu) ∧ W.cell? ⟨w.heap.size, 3, none⟩ = some (.int .i64 ev) ∧ W.cell? ⟨w.heap.size, 4, none⟩ = some (.int .i64 ek) ∧ W.cell? ⟨w.heap.size, 5, none⟩ = some (.bool el) ∧ W.cell? ⟨w.heap.size + 1, 0, none⟩ = some (.int .i64 fx) ∧ W.cell? ⟨w.heap.size + 1, 1, none⟩ = some (.int .i64 fy) ∧ W.cell? ⟨w.heap.size + 1, 2, none⟩ = some (.int .i64 fu) ∧ W.cell? ⟨w.heap.size + 1, 3, none⟩ = some (.int .i64 fv) ∧ W.cell? ⟨w.heap.size + 1, 4, none⟩ = some (.int .i64 fk) ∧ W.cell? ⟨w.heap.size + 1, 5, none⟩ = some (.bool fl)))
  have Ehs0 := hide hs0
  clear hs0
  obtain ⟨ye0, ye1, ye2, ye3, ye4, ye5⟩ := ke.cells6
  obtain ⟨yf0, yf1, yf2, yf3, yf4, yf5⟩ := kf.cells6
  go_cut [6, 7] from 9 to 12 (fun sx sy wx => TwoN W0 wx sx sy 46 #[.int .i64 x0, .int .i64 x1, .int .i64 x2] #[.int .i64 y0, .int .i64 y1, .int .i64 y2])
  case first =>
    refine wp_region_held_drew (S := (fun w' => w'.cell? ⟨w.heap.size, 0, none⟩ = some (.int .i64 ex) ∧ w'.cell? ⟨w.heap.size, 1, none⟩ = some (.int .i64 ey) ∧ w'.cell? ⟨w.heap.size, 2, none⟩ = some (.int .i64 eu) ∧ w'.cell? ⟨w.heap.size, 3, none⟩ = some (.int .i64 ev) ∧ w'.cell? ⟨w.heap.size, 4, none⟩ = some (.int .i64 ek) ∧ w'.cell? ⟨w.heap.size, 5, none⟩ = some (.bool el) ∧ w'.cell? ⟨w.heap.size + 1, 0, none⟩ = some (.int .i64 fx) ∧ w'.cell? ⟨w.heap.size + 1, 1, none⟩ = some (.int .i64 fy) ∧ w'.cell? ⟨w.heap.size + 1, 2, none⟩ = some (.int .i64 fu) ∧ w'.cell? ⟨w.heap.size + 1, 3, none⟩ = some (.int .i64 fv) ∧ w'.cell? ⟨w.heap.size + 1, 4, none⟩ = some (.int .i64 fk) ∧ w'.cell? ⟨w.heap.size + 1, 5, none⟩ = some (.bool fl))) (by kernel_rfl) (HKS.out _ HS0.out) (fun hHeld => ?_)
    show wpAnyH _ _ _ _ _ 8 _ _ _
    refine takeTF (i := 0) (t := 9) (v := ?_) rfl (by kernel_rfl) (by kernel_rfl) (by kernel_rfl) (fun _ _ _ h => h) rfl (by rfl) ?_ hHeld ?_
    rotate_left 1
    · intro w hSw; (try dsimp only at hSw); go_simp; with_reducible rfl
    refine takeTF (i := 2) (t := 11) (v := ?_) rfl (by kernel_rfl) (by kernel_rfl) (by kernel_rfl) (fun _ _ _ h => h) rfl (by rfl) ?_ hHeld ?_
    rotate_left 1
    · intro w hSw; (try dsimp only at hSw); go_simp; with_reducible rfl
    clear ye0 ye1 ye2 ye3 ye4 ye5 yf0 yf1 yf2 yf3 yf4 yf5
    refine wpAnyH_ready (rs := [1, 4, 5]) (by kernel_rfl) (by simp) ?_
    refine (AllReadyH.cons rfl (fun K hK => ?_) (AllReadyH.cons rfl (fun K hK => ?_) (AllReadyH.cons rfl (fun K hK => ?_) AllReadyH.nil)))
    · simp only [List.getElem_toArray, List.getElem_cons_succ, List.getElem_cons_zero]
      go_simp
      (with_reducible refine Calls.mono (HC1.out _) ?_)
      rintro e V1 ⟨rfl, bV1⟩
      have zV1 : W0.heap.size ≤ V1.heap.size := bV1.size
      have HV1x := hide (below_then HS0.out bV1)
      go_wp2_with fail
      refine hK.out _ _ (HKS.out _ HV1x.out) (fun hHeld => ?_)
      clear hK K bV1
      refine wpAnyH_ready (rs := [3, 4, 5]) (by kernel_rfl) (by simp) ?_
      refine (AllReadyH.cons rfl (fun K hK => ?_) (AllReadyH.cons rfl (fun K hK => ?_) (AllReadyH.cons rfl (fun K hK => ?_) AllReadyH.nil)))
      · simp only [List.getElem_toArray, List.getElem_cons_succ, List.getElem_cons_zero]
        go_simp
        (with_reducible refine Calls.mono (HC2.out _) ?_)
        rintro e V2 ⟨rfl, bV2⟩
        have zV2 : V1.heap.size ≤ V2.heap.size := bV2.size
        have HV2x := hide (below_then HV1x.out bV2)
        go_wp2_with fail
        refine hK.out _ _ (HKS.out _ HV2x.out) (fun hHeld => ?_)
        clear hK K bV2
        refine wpAnyH_ready (rs := [4, 5]) (by kernel_rfl) (by simp) ?_
        refine (AllReadyH.cons rfl (fun K hK => ?_) (AllReadyH.cons rfl (fun K hK => ?_) AllReadyH.nil))
        · simp only [List.getElem_toArray, List.getElem_cons_succ, List.getElem_cons_zero]
          go_wp2_with fail
          obtain ⟨V3, hV3⟩ : ∃ x, x = V2.alloc (.cells #[.int .i64 0, .int .i64 0, .int .i64 0] 46) := ⟨_, rfl⟩
          have bV3 : Below V2.heap.size V2 V3 := by rw [hV3]; exact below_new _ _
          have kV3 : Box V3 V2.heap.size 46 #[.int .i64 0, .int .i64 0, .int .i64 0] := by rw [hV3]; exact Box.last _ _ _ rfl
          have zV3 : V3.heap.size ≤ V2.heap.size + 1 ∧ V2.heap.size + 1 ≤ V3.heap.size := by rw [hV3, alloc_size]; exact ⟨Nat.le_refl _, Nat.le_refl _⟩
          have HV3x := hide (below_then HV2x.out bV3)
          have kA := kV3
          rw [← hV3]
          refine hK.out _ _ (HKS.out _ HV3x.out) (fun hHeld => ?_)
          clear hK K hV3 bV3 kV3
          refine wpAnyH_ready (rs := [5]) (by kernel_rfl) (by simp) ?_
          refine (AllReadyH.cons rfl (fun K hK => ?_) AllReadyH.nil)
          · simp only [List.getElem_toArray, List.getElem_cons_succ, List.getElem_cons_zero]
            go_wp2_with fail
            obtain ⟨V4, hV4⟩ : ∃ x, x = V3.alloc (.cells #[.int .i64 0, .int .i64 0, .int .i64 0] 46) := ⟨_, rfl⟩
            have bV4 : Below V3.heap.size V3 V4 := by rw [hV4]; exact below_new _ _
            have kV4 : Box V4 V3.heap.size 46 #[.int .i64 0, .int .i64 0, .int .i64 0] := by rw [hV4]; exact Box.last _ _ _ rfl
            have zV4 : V4.heap.size ≤ V3.heap.size + 1 ∧ V3.heap.size + 1 ≤ V4.heap.size := by rw [hV4, alloc_size]; exact ⟨Nat.le_refl _, Nat.le_refl _⟩
            have HV4x := hide (below_then HV3x.out bV4)
            have kA := kA.below bV4 kA.lt
            have kB := kV4
            rw [← hV4]
            refine hK.out _ _ (HKS.out _ HV4x.out) (fun hHeld => ?_)
            clear hK K hV4 bV4 kV4
            have lA := kA.lt
            have lB := kB.lt
            obtain ⟨t0, t1, t2, f0, f1, f2⟩ := kA.facts3
            refine wpAnyH_ready (rs := [6]) (by kernel_rfl) (by simp) ?_
            refine AllReadyH.cons rfl (fun K hK => ?_) AllReadyH.nil
            simp only [List.getElem_toArray, List.getElem_cons_succ, List.getElem_cons_zero]
            go_wp2_with fail
            clear t0 t1 t2 f0 f1 f2
            obtain ⟨V5, hV5⟩ : ∃ x, x = set3E V4 (V2.heap.size) (.int .i64 x0) (.int .i64 x1) (.int .i64 x2) := ⟨_, rfl⟩
            have zV5 : V5.heap.size ≤ V4.heap.size ∧ V4.heap.size ≤ V5.heap.size := by rw [hV5, set3E_size]; exact ⟨Nat.le_refl _, Nat.le_refl _⟩
            have HV5 : Hid (Below W0.heap.size W0 V5) := by rw [hV5]; exact set3E_below HV4x.out (by omega) _ _ _
            have kA : Box V5 (V2.heap.size) 46 #[.int .i64 x0, .int .i64 x1, .int .i64 x2] := by rw [hV5]; exact kA.set3E
            have kB : Box V5 (V3.heap.size) 46 #[.int .i64 0, .int .i64 0, .int .i64 0] := by rw [hV5]; exact kB.setv3E (by omega) _ _ _
            have hV5' := hV5
            unfold set3E at hV5'
            rw [← hV5']
            refine hK.out _ _ (HKS.out _ HV5.out) (fun hHeld => ?_)
            clear hK K hV5 hV5'
            obtain ⟨t0, t1, t2, f0, f1, f2⟩ := kB.facts3
            refine wpAnyH_ready (rs := [7]) (by kernel_rfl) (by simp) ?_
            refine AllReadyH.cons rfl (fun K hK => ?_) AllReadyH.nil
            simp only [List.getElem_toArray, List.getElem_cons_succ, List.getElem_cons_zero]
            go_wp2_with fail
            clear t0 t1 t2 f0 f1 f2
            obtain ⟨V6, hV6⟩ : ∃ x, x = set3E V5 (V3.heap.size) (.int .i64 y0) (.int .i64 y1) (.int .i64 y2) := ⟨_, rfl⟩
            have zV6 : V6.heap.size ≤ V5.heap.size ∧ V5.heap.size ≤ V6.heap.size := by rw [hV6, set3E_size]; exact ⟨Nat.le_refl _, Nat.le_refl _⟩
            have HV6 : Hid (Below W0.heap.size W0 V6) := by rw [hV6]; exact set3E_below HV5.out (by omega) _ _ _
            have kB : Box V6 (V3.heap.size) 46 #[.int .i64 y0, .int .i64 y1, .int .i64 y2] := by rw [hV6]; exact kB.set3E
            have kA : Box V6 (V2.heap.size) 46 #[.int .i64 x0, .int .i64 x1, .int .i64 x2] := by rw [hV6]; exact kA.setv3E (by omega) _ _ _
            have hV6' := hV6
            unfold set3E at hV6'
            rw [← hV6']
            refine hK.out _ _ (HKS.out _ HV6.out) (fun hHeld => ?_)
            clear hK K hV6 hV6'
            refine wpAnyH_done (by kernel_rfl) ?_ _
            go_wp2_with fail
            go_meet
            case rel => exact ⟨_, _, rfl, rfl, kA, kB, by omega, by omega, HV6.out⟩
        · simp only [List.getElem_toArray, List.getElem_cons_succ, List.getElem_cons_zero]
          go_wp2_with fail
          obtain ⟨V7, hV7⟩ : ∃ x, x = V2.alloc (.cells #[.int .i64 0, .int .i64 0, .int .i64 0] 46) := ⟨_, rfl⟩
          have bV7 : Below V2.heap.size V2 V7 := by rw [hV7]; exact below_new _ _
          have kV7 : Box V7 V2.heap.size 46 #[.int .i64 0, .int .i64 0, .int .i64 0] := by rw [hV7]; exact Box.last _ _ _ rfl
          have zV7 : V7.heap.size ≤ V2.heap.size + 1 ∧ V2.heap.size + 1 ≤ V7.heap.size := by rw [hV7, alloc_size]; exact ⟨Nat.le_refl _, Nat.le_refl _⟩
          have HV7x := hide (below_then HV2x.out bV7)
          have kB := kV7
          rw [← hV7]
          refine hK.out _ _ (HKS.out _ HV7x.out) (fun hHeld => ?_)
          clear hK K hV7 bV7 kV7
          refine wpAnyH_ready (rs := [4]) (by kernel_rfl) (by simp) ?_
          refine (AllReadyH.cons rfl (fun K hK => ?_) AllReadyH.nil)
          · simp only [List.getElem_toArray, List.getElem_cons_succ, List.getElem_cons_zero]
            go_wp2_with fail
            obtain ⟨V8, hV8⟩ : ∃ x, x = V7.alloc (.cells #[.int .i64 0, .int .i64 0, .int .i64 0] 46) := ⟨_, rfl⟩
            have bV8 : Below V7.heap.size V7 V8 := by rw [hV8]; exact below_new _ _
            have kV8 : Box V8 V7.heap.size 46 #[.int .i64 0, .int .i64 0, .int .i64 0] := by rw [hV8]; exact Box.last _ _ _ rfl
            have zV8 : V8.heap.size ≤ V7.heap.size + 1 ∧ V7.heap.size + 1 ≤ V8.heap.size := by rw [hV8, alloc_size]; exact ⟨Nat.le_refl _, Nat.le_refl _⟩
            have HV8x := hide (below_then HV7x.out bV8)
            have kB := kB.below bV8 kB.lt
            have kA := kV8
            rw [← hV8]
            refine hK.out _ _ (HKS.out _ HV8x.out) (fun hHeld => ?_)
            clear hK K hV8 bV8 kV8
            have lA := kA.lt
            have lB := kB.lt
            obtain ⟨t0, t1, t2, f0, f1, f2⟩ := kA.facts3
            refine wpAnyH_ready (rs := [6]) (by kernel_rfl) (by simp) ?_
            refine AllReadyH.cons rfl (fun K hK => ?_) AllReadyH.nil
            simp only [List.getElem_toArray, List.getElem_cons_succ, List.getElem_cons_zero]
            go_wp2_with fail
            clear t0 t1 t2 f0 f1 f2
            obtain ⟨V9, hV9⟩ : ∃ x, x = set3E V8 (V7.heap.size) (.int .i64 x0) (.int .i64 x1) (.int .i64 x2) := ⟨_, rfl⟩
            have zV9 : V9.heap.size ≤ V8.heap.size ∧ V8.heap.size ≤ V9.heap.size := by rw [hV9, set3E_size]; exact ⟨Nat.le_refl _, Nat.le_refl _⟩
            have HV9 : Hid (Below W0.heap.size W0 V9) := by rw [hV9]; exact set3E_below HV8x.out (by omega) _ _ _
            have kA : Box V9 (V7.heap.size) 46 #[.int .i64 x0, .int .i64 x1, .int .i64 x2] := by rw [hV9]; exact kA.set3E
            have kB : Box V9 (V2.heap.size) 46 #[.int .i64 0, .int .i64 0, .int .i64 0] := by rw [hV9]; exact kB.setv3E (by omega) _ _ _
            have hV9' := hV9
            unfold set3E at hV9'
            rw [← hV9']
            refine hK.out _ _ (HKS.out _ HV9.out) (fun hHeld => ?_)
            clear hK K hV9 hV9'
            obtain ⟨t0, t1, t2, f0, f1, f2⟩ := kB.facts3
            refine wpAnyH_ready (rs := [7]) (by kernel_rfl) (by simp) ?_
            refine AllReadyH.cons rfl (fun K hK => ?_) AllReadyH.nil
            simp only [List.getElem_toArray, List.getElem_cons_succ, List.getElem_cons_zero]
            go_wp2_with fail
            clear t0 t1 t2 f0 f1 f2
            obtain ⟨V10, hV10⟩ : ∃ x, x = set3E V9 (V2.heap.size) (.int .i64 y0) (.int .i64 y1) (.int .i64 y2) := ⟨_, rfl⟩
            have zV10 : V10.heap.size ≤ V9.heap.size ∧ V9.heap.size ≤ V10.heap.size := by rw [hV10, set3E_size]; exact ⟨Nat.le_refl _, Nat.le_refl _⟩
            have HV10 : Hid (Below W0.heap.size W0 V10) := by rw [hV10]; exact set3E_below HV9.out (by omega) _ _ _
            have kB : Box V10 (V2.heap.size) 46 #[.int .i64 y0, .int .i64 y1, .int .i64 y2] := by rw [hV10]; exact kB.set3E
            have kA : Box V10 (V7.heap.size) 46 #[.int .i64 x0, .int .i64 x1, .int .i64 x2] := by rw [hV10]; exact kA.setv3E (by omega) _ _ _
            have hV10' := hV10
            unfold set3E at hV10'
            rw [← hV10']
            refine hK.out _ _ (HKS.out _ HV10.out) (fun hHeld => ?_)
            clear hK K hV10 hV10'
            refine wpAnyH_done (by kernel_rfl) ?_ _
            go_wp2_with fail
            go_meet
            case rel => exact ⟨_, _, rfl, rfl, kA, kB, by omega, by omega, HV10.out⟩
      · simp only [List.getElem_toArray, List.getElem_cons_succ, List.getElem_cons_zero]
        go_wp2_with fail
        obtain ⟨V11, hV11⟩ : ∃ x, x = V1.alloc (.cells #[.int .i64 0, .int .i64 0, .int .i64 0] 46) := ⟨_, rfl⟩
        have bV11 : Below V1.heap.size V1 V11 := by rw [hV11]; exact below_new _ _
        have kV11 : Box V11 V1.heap.size 46 #[.int .i64 0, .int .i64 0, .int .i64 0] := by rw [hV11]; exact Box.last _ _ _ rfl
        have zV11 : V11.heap.size ≤ V1.heap.size + 1 ∧ V1.heap.size + 1 ≤ V11.heap.size := by rw [hV11, alloc_size]; exact ⟨Nat.le_refl _, Nat.le_refl _⟩
        have HV11x := hide (below_then HV1x.out bV11)
        have kA := kV11
        rw [← hV11]
        refine hK.out _ _ (HKS.out _ HV11x.out) (fun hHeld => ?_)
        clear hK K hV11 bV11 kV11
        refine wpAnyH_ready (rs := [3, 5]) (by kernel_rfl) (by simp) ?_
        refine (AllReadyH.cons rfl (fun K hK => ?_) (AllReadyH.cons rfl (fun K hK => ?_) AllReadyH.nil))
        · simp only [List.getElem_toArray, List.getElem_cons_succ, List.getElem_cons_zero]
          go_simp
          (with_reducible refine Calls.mono (HC2.out _) ?_)
          rintro e V12 ⟨rfl, bV12⟩
          have zV12 : V11.heap.size ≤ V12.heap.size := bV12.size
          have HV12x := hide (below_then HV11x.out bV12)
          have kA := kA.below bV12 kA.lt
          go_wp2_with fail
          refine hK.out _ _ (HKS.out _ HV12x.out) (fun hHeld => ?_)
          clear hK K bV12
          refine wpAnyH_ready (rs := [5]) (by kernel_rfl) (by simp) ?_
          refine (AllReadyH.cons rfl (fun K hK => ?_) AllReadyH.nil)
          · simp only [List.getElem_toArray, List.getElem_cons_succ, List.getElem_cons_zero]
            go_wp2_with fail
            obtain ⟨V13, hV13⟩ : ∃ x, x = V12.alloc (.cells #[.int .i64 0, .int .i64 0, .int .i64 0] 46) := ⟨_, rfl⟩
            have bV13 : Below V12.heap.size V12 V13 := by rw [hV13]; exact below_new _ _
            have kV13 : Box V13 V12.heap.size 46 #[.int .i64 0, .int .i64 0, .int .i64 0] := by rw [hV13]; exact Box.last _ _ _ rfl
            have zV13 : V13.heap.size ≤ V12.heap.size + 1 ∧ V12.heap.size + 1 ≤ V13.heap.size := by rw [hV13, alloc_size]; exact ⟨Nat.le_refl _, Nat.le_refl _⟩
            have HV13x := hide (below_then HV12x.out bV13)
            have kA := kA.below bV13 kA.lt
            have kB := kV13
            rw [← hV13]
            refine hK.out _ _ (HKS.out _ HV13x.out) (fun hHeld => ?_)
            clear hK K hV13 bV13 kV13
            have lA := kA.lt
            have lB := kB.lt
            obtain ⟨t0, t1, t2, f0, f1, f2⟩ := kA.facts3
            refine wpAnyH_ready (rs := [6]) (by kernel_rfl) (by simp) ?_
            refine AllReadyH.cons rfl (fun K hK => ?_) AllReadyH.nil
            simp only [List.getElem_toArray, List.getElem_cons_succ, List.getElem_cons_zero]
            go_wp2_with fail
            clear t0 t1 t2 f0 f1 f2
            obtain ⟨V14, hV14⟩ : ∃ x, x = set3E V13 (V1.heap.size) (.int .i64 x0) (.int .i64 x1) (.int .i64 x2) := ⟨_, rfl⟩
            have zV14 : V14.heap.size ≤ V13.heap.size ∧ V13.heap.size ≤ V14.heap.size := by rw [hV14, set3E_size]; exact ⟨Nat.le_refl _, Nat.le_refl _⟩
            have HV14 : Hid (Below W0.heap.size W0 V14) := by rw [hV14]; exact set3E_below HV13x.out (by omega) _ _ _
            have kA : Box V14 (V1.heap.size) 46 #[.int .i64 x0, .int .i64 x1, .int .i64 x2] := by rw [hV14]; exact kA.set3E
            have kB : Box V14 (V12.heap.size) 46 #[.int .i64 0, .int .i64 0, .int .i64 0] := by rw [hV14]; exact kB.setv3E (by omega) _ _ _
            have hV14' := hV14
            unfold set3E at hV14'
            rw [← hV14']
            refine hK.out _ _ (HKS.out _ HV14.out) (fun hHeld => ?_)
            clear hK K hV14 hV14'
            obtain ⟨t0, t1, t2, f0, f1, f2⟩ := kB.facts3
            refine wpAnyH_ready (rs := [7]) (by kernel_rfl) (by simp) ?_
            refine AllReadyH.cons rfl (fun K hK => ?_) AllReadyH.nil
            simp only [List.getElem_toArray, List.getElem_cons_succ, List.getElem_cons_zero]
            go_wp2_with fail
            clear t0 t1 t2 f0 f1 f2
            obtain ⟨V15, hV15⟩ : ∃ x, x = set3E V14 (V12.heap.size) (.int .i64 y0) (.int .i64 y1) (.int .i64 y2) := ⟨_, rfl⟩
            have zV15 : V15.heap.size ≤ V14.heap.size ∧ V14.heap.size ≤ V15.heap.size := by rw [hV15, set3E_size]; exact ⟨Nat.le_refl _, Nat.le_refl _⟩
            have HV15 : Hid (Below W0.heap.size W0 V15) := by rw [hV15]; exact set3E_below HV14.out (by omega) _ _ _
            have kB : Box V15 (V12.heap.size) 46 #[.int .i64 y0, .int .i64 y1, .int .i64 y2] := by rw [hV15]; exact kB.set3E
            have kA : Box V15 (V1.heap.size) 46 #[.int .i64 x0, .int .i64 x1, .int .i64 x2] := by rw [hV15]; exact kA.setv3E (by omega) _ _ _
            have hV15' := hV15
            unfold set3E at hV15'
            rw [← hV15']
            refine hK.out _ _ (HKS.out _ HV15.out) (fun hHeld => ?_)
            clear hK K hV15 hV15'
            refine wpAnyH_done (by kernel_rfl) ?_ _
            go_wp2_with fail
            go_meet
            case rel => exact ⟨_, _, rfl, rfl, kA, kB, by omega, by omega, HV15.out⟩
        · simp only [List.getElem_toArray, List.getElem_cons_succ, List.getElem_cons_zero]
          go_wp2_with fail
          obtain ⟨V16, hV16⟩ : ∃ x, x = V11.alloc (.cells #[.int .i64 0, .int .i64 0, .int .i64 0] 46) := ⟨_, rfl⟩
          have bV16 : Below V11.heap.size V11 V16 := by rw [hV16]; exact below_new _ _
          have kV16 : Box V16 V11.heap.size 46 #[.int .i64 0, .int .i64 0, .int .i64 0] := by rw [hV16]; exact Box.last _ _ _ rfl
          have zV16 : V16.heap.size ≤ V11.heap.size + 1 ∧ V11.heap.size + 1 ≤ V16.heap.size := by rw [hV16, alloc_size]; exact ⟨Nat.le_refl _, Nat.le_refl _⟩
          have HV16x := hide (below_then HV11x.out bV16)
          have kA := kA.below bV16 kA.lt
          have kB := kV16
          rw [← hV16]
          refine hK.out _ _ (HKS.out _ HV16x.out) (fun hHeld => ?_)
          clear hK K hV16 bV16 kV16
          refine wpAnyH_ready (rs := [3]) (by kernel_rfl) (by simp) ?_
          refine (AllReadyH.cons rfl (fun K hK => ?_) AllReadyH.nil)
          · simp only [List.getElem_toArray, List.getElem_cons_succ, List.getElem_cons_zero]
            go_simp
            (with_reducible refine Calls.mono (HC2.out _) ?_)
            rintro e V17 ⟨rfl, bV17⟩
            have zV17 : V16.heap.size ≤ V17.heap.size := bV17.size
            have HV17x := hide (below_then HV16x.out bV17)
            have kA := kA.below bV17 kA.lt
            have kB := kB.below bV17 kB.lt
            go_wp2_with fail
            refine hK.out _ _ (HKS.out _ HV17x.out) (fun hHeld => ?_)
            clear hK K bV17
            have lA := kA.lt
            have lB := kB.lt
            obtain ⟨t0, t1, t2, f0, f1, f2⟩ := kA.facts3
            refine wpAnyH_ready (rs := [6]) (by kernel_rfl) (by simp) ?_
            refine AllReadyH.cons rfl (fun K hK => ?_) AllReadyH.nil
            simp only [List.getElem_toArray, List.getElem_cons_succ, List.getElem_cons_zero]
            go_wp2_with fail
            clear t0 t1 t2 f0 f1 f2
            obtain ⟨V18, hV18⟩ : ∃ x, x = set3E V17 (V1.heap.size) (.int .i64 x0) (.int .i64 x1) (.int .i64 x2) := ⟨_, rfl⟩
            have zV18 : V18.heap.size ≤ V17.heap.size ∧ V17.heap.size ≤ V18.heap.size := by rw [hV18, set3E_size]; exact ⟨Nat.le_refl _, Nat.le_refl _⟩
            have HV18 : Hid (Below W0.heap.size W0 V18) := by rw [hV18]; exact set3E_below HV17x.out (by omega) _ _ _
            have kA : Box V18 (V1.heap.size) 46 #[.int .i64 x0, .int .i64 x1, .int .i64 x2] := by rw [hV18]; exact kA.set3E
            have kB : Box V18 (V11.heap.size) 46 #[.int .i64 0, .int .i64 0, .int .i64 0] := by rw [hV18]; exact kB.setv3E (by omega) _ _ _
            have hV18' := hV18
            unfold set3E at hV18'
            rw [← hV18']
            refine hK.out _ _ (HKS.out _ HV18.out) (fun hHeld => ?_)
            clear hK K hV18 hV18'
            obtain ⟨t0, t1, t2, f0, f1, f2⟩ := kB.facts3
            refine wpAnyH_ready (rs := [7]) (by kernel_rfl) (by simp) ?_
            refine AllReadyH.cons rfl (fun K hK => ?_) AllReadyH.nil
            simp only [List.getElem_toArray, List.getElem_cons_succ, List.getElem_cons_zero]
            go_wp2_with fail
            clear t0 t1 t2 f0 f1 f2
            obtain ⟨V19, hV19⟩ : ∃ x, x = set3E V18 (V11.heap.size) (.int .i64 y0) (.int .i64 y1) (.int .i64 y2) := ⟨_, rfl⟩
            have zV19 : V19.heap.size ≤ V18.heap.size ∧ V18.heap.size ≤ V19.heap.size := by rw [hV19, set3E_size]; exact ⟨Nat.le_refl _, Nat.le_refl _⟩
            have HV19 : Hid (Below W0.heap.size W0 V19) := by rw [hV19]; exact set3E_below HV18.out (by omega) _ _ _
            have kB : Box V19 (V11.heap.size) 46 #[.int .i64 y0, .int .i64 y1, .int .i64 y2] := by rw [hV19]; exact kB.set3E
            have kA : Box V19 (V1.heap.size) 46 #[.int .i64 x0, .int .i64 x1, .int .i64 x2] := by rw [hV19]; exact kA.setv3E (by omega) _ _ _
            have hV19' := hV19
            unfold set3E at hV19'
            rw [← hV19']
            refine hK.out _ _ (HKS.out _ HV19.out) (fun hHeld => ?_)
            clear hK K hV19 hV19'
            refine wpAnyH_done (by kernel_rfl) ?_ _
            go_wp2_with fail
            go_meet
            case rel => exact ⟨_, _, rfl, rfl, kA, kB, by omega, by omega, HV19.out⟩
      · simp only [List.getElem_toArray, List.getElem_cons_succ, List.getElem_cons_zero]
        go_wp2_with fail
        obtain ⟨V20, hV20⟩ : ∃ x, x = V1.alloc (.cells #[.int .i64 0, .int .i64 0, .int .i64 0] 46) := ⟨_, rfl⟩
        have bV20 : Below V1.heap.size V1 V20 := by rw [hV20]; exact below_new _ _
        have kV20 : Box V20 V1.heap.size 46 #[.int .i64 0, .int .i64 0, .int .i64 0] := by rw [hV20]; exact Box.last _ _ _ rfl
        have zV20 : V20.heap.size ≤ V1.heap.size + 1 ∧ V1.heap.size + 1 ≤ V20.heap.size := by rw [hV20, alloc_size]; exact ⟨Nat.le_refl _, Nat.le_refl _⟩
        have HV20x := hide (below_then HV1x.out bV20)
        have kB := kV20
        rw [← hV20]
        refine hK.out _ _ (HKS.out _ HV20x.out) (fun hHeld => ?_)
        clear hK K hV20 bV20 kV20
        refine wpAnyH_ready (rs := [3, 4]) (by kernel_rfl) (by simp) ?_
        refine (AllReadyH.cons rfl (fun K hK => ?_) (AllReadyH.cons rfl (fun K hK => ?_) AllReadyH.nil))
        · simp only [List.getElem_toArray, List.getElem_cons_succ, List.getElem_cons_zero]
          go_simp
          (with_reducible refine Calls.mono (HC2.out _) ?_)
          rintro e V21 ⟨rfl, bV21⟩
          have zV21 : V20.heap.size ≤ V21.heap.size := bV21.size
          have HV21x := hide (below_then HV20x.out bV21)
          have kB := kB.below bV21 kB.lt
          go_wp2_with fail
          refine hK.out _ _ (HKS.out _ HV21x.out) (fun hHeld => ?_)
          clear hK K bV21
          refine wpAnyH_ready (rs := [4]) (by kernel_rfl) (by simp) ?_
          refine (AllReadyH.cons rfl (fun K hK => ?_) AllReadyH.nil)
          · simp only [List.getElem_toArray, List.getElem_cons_succ, List.getElem_cons_zero]
            go_wp2_with fail
            obtain ⟨V22, hV22⟩ : ∃ x, x = V21.alloc (.cells #[.int .i64 0, .int .i64 0, .int .i64 0] 46) := ⟨_, rfl⟩
            have bV22 : Below V21.heap.size V21 V22 := by rw [hV22]; exact below_new _ _
            have kV22 : Box V22 V21.heap.size 46 #[.int .i64 0, .int .i64 0, .int .i64 0] := by rw [hV22]; exact Box.last _ _ _ rfl
            have zV22 : V22.heap.size ≤ V21.heap.size + 1 ∧ V21.heap.size + 1 ≤ V22.heap.size := by rw [hV22, alloc_size]; exact ⟨Nat.le_refl _, Nat.le_refl _⟩
            have HV22x := hide (below_then HV21x.out bV22)
            have kB := kB.below bV22 kB.lt
            have kA := kV22
            rw [← hV22]
            refine hK.out _ _ (HKS.out _ HV22x.out) (fun hHeld => ?_)
            clear hK K hV22 bV22 kV22
            have lA := kA.lt
            have lB := kB.lt
            obtain ⟨t0, t1, t2, f0, f1, f2⟩ := kA.facts3
            refine wpAnyH_ready (rs := [6]) (by kernel_rfl) (by simp) ?_
            refine AllReadyH.cons rfl (fun K hK => ?_) AllReadyH.nil
            simp only [List.getElem_toArray, List.getElem_cons_succ, List.getElem_cons_zero]
            go_wp2_with fail
            clear t0 t1 t2 f0 f1 f2
            obtain ⟨V23, hV23⟩ : ∃ x, x = set3E V22 (V21.heap.size) (.int .i64 x0) (.int .i64 x1) (.int .i64 x2) := ⟨_, rfl⟩
            have zV23 : V23.heap.size ≤ V22.heap.size ∧ V22.heap.size ≤ V23.heap.size := by rw [hV23, set3E_size]; exact ⟨Nat.le_refl _, Nat.le_refl _⟩
            have HV23 : Hid (Below W0.heap.size W0 V23) := by rw [hV23]; exact set3E_below HV22x.out (by omega) _ _ _
            have kA : Box V23 (V21.heap.size) 46 #[.int .i64 x0, .int .i64 x1, .int .i64 x2] := by rw [hV23]; exact kA.set3E
            have kB : Box V23 (V1.heap.size) 46 #[.int .i64 0, .int .i64 0, .int .i64 0] := by rw [hV23]; exact kB.setv3E (by omega) _ _ _
            have hV23' := hV23
            unfold set3E at hV23'
            rw [← hV23']
            refine hK.out _ _ (HKS.out _ HV23.out) (fun hHeld => ?_)
            clear hK K hV23 hV23'
            obtain ⟨t0, t1, t2, f0, f1, f2⟩ := kB.facts3
            refine wpAnyH_ready (rs := [7]) (by kernel_rfl) (by simp) ?_
            refine AllReadyH.cons rfl (fun K hK => ?_) AllReadyH.nil
            simp only [List.getElem_toArray, List.getElem_cons_succ, List.getElem_cons_zero]
            go_wp2_with fail
            clear t0 t1 t2 f0 f1 f2
            obtain ⟨V24, hV24⟩ : ∃ x, x = set3E V23 (V1.heap.size) (.int .i64 y0) (.int .i64 y1) (.int .i64 y2) := ⟨_, rfl⟩
            have zV24 : V24.heap.size ≤ V23.heap.size ∧ V23.heap.size ≤ V24.heap.size := by rw [hV24, set3E_size]; exact ⟨Nat.le_refl _, Nat.le_refl _⟩
            have HV24 : Hid (Below W0.heap.size W0 V24) := by rw [hV24]; exact set3E_below HV23.out (by omega) _ _ _
            have kB : Box V24 (V1.heap.size) 46 #[.int .i64 y0, .int .i64 y1, .int .i64 y2] := by rw [hV24]; exact kB.set3E
            have kA : Box V24 (V21.heap.size) 46 #[.int .i64 x0, .int .i64 x1, .int .i64 x2] := by rw [hV24]; exact kA.setv3E (by omega) _ _ _
            have hV24' := hV24
            unfold set3E at hV24'
            rw [← hV24']
            refine hK.out _ _ (HKS.out _ HV24.out) (fun hHeld => ?_)
            clear hK K hV24 hV24'
            refine wpAnyH_done (by kernel_rfl) ?_ _
            go_wp2_with fail
            go_meet
            case rel => exact ⟨_, _, rfl, rfl, kA, kB, by omega, by omega, HV24.out⟩
        · simp only [List.getElem_toArray, List.getElem_cons_succ, List.getElem_cons_zero]
          go_wp2_with fail
          obtain ⟨V25, hV25⟩ : ∃ x, x = V20.alloc (.cells #[.int .i64 0, .int .i64 0, .int .i64 0] 46) := ⟨_, rfl⟩
          have bV25 : Below V20.heap.size V20 V25 := by rw [hV25]; exact below_new _ _
          have kV25 : Box V25 V20.heap.size 46 #[.int .i64 0, .int .i64 0, .int .i64 0] := by rw [hV25]; exact Box.last _ _ _ rfl
          have zV25 : V25.heap.size ≤ V20.heap.size + 1 ∧ V20.heap.size + 1 ≤ V25.heap.size := by rw [hV25, alloc_size]; exact ⟨Nat.le_refl _, Nat.le_refl _⟩
          have HV25x := hide (below_then HV20x.out bV25)
          have kB := kB.below bV25 kB.lt
          have kA := kV25
          rw [← hV25]
          refine hK.out _ _ (HKS.out _ HV25x.out) (fun hHeld => ?_)
          clear hK K hV25 bV25 kV25
          refine wpAnyH_ready (rs := [3]) (by kernel_rfl) (by simp) ?_
          refine (AllReadyH.cons rfl (fun K hK => ?_) AllReadyH.nil)
          · simp only [List.getElem_toArray, List.getElem_cons_succ, List.getElem_cons_zero]
            go_simp
            (with_reducible refine Calls.mono (HC2.out _) ?_)
            rintro e V26 ⟨rfl, bV26⟩
            have zV26 : V25.heap.size ≤ V26.heap.size := bV26.size
            have HV26x := hide (below_then HV25x.out bV26)
            have kA := kA.below bV26 kA.lt
            have kB := kB.below bV26 kB.lt
            go_wp2_with fail
            refine hK.out _ _ (HKS.out _ HV26x.out) (fun hHeld => ?_)
            clear hK K bV26
            have lA := kA.lt
            have lB := kB.lt
            obtain ⟨t0, t1, t2, f0, f1, f2⟩ := kA.facts3
            refine wpAnyH_ready (rs := [6]) (by kernel_rfl) (by simp) ?_
            refine AllReadyH.cons rfl (fun K hK => ?_) AllReadyH.nil
            simp only [List.getElem_toArray, List.getElem_cons_succ, List.getElem_cons_zero]
            go_wp2_with fail
            clear t0 t1 t2 f0 f1 f2
            obtain ⟨V27, hV27⟩ : ∃ x, x = set3E V26 (V20.heap.size) (.int .i64 x0) (.int .i64 x1) (.int .i64 x2) := ⟨_, rfl⟩
            have zV27 : V27.heap.size ≤ V26.heap.size ∧ V26.heap.size ≤ V27.heap.size := by rw [hV27, set3E_size]; exact ⟨Nat.le_refl _, Nat.le_refl _⟩
            have HV27 : Hid (Below W0.heap.size W0 V27) := by rw [hV27]; exact set3E_below HV26x.out (by omega) _ _ _
            have kA : Box V27 (V20.heap.size) 46 #[.int .i64 x0, .int .i64 x1, .int .i64 x2] := by rw [hV27]; exact kA.set3E
            have kB : Box V27 (V1.heap.size) 46 #[.int .i64 0, .int .i64 0, .int .i64 0] := by rw [hV27]; exact kB.setv3E (by omega) _ _ _
            have hV27' := hV27
            unfold set3E at hV27'
            rw [← hV27']
            refine hK.out _ _ (HKS.out _ HV27.out) (fun hHeld => ?_)
            clear hK K hV27 hV27'
            obtain ⟨t0, t1, t2, f0, f1, f2⟩ := kB.facts3
            refine wpAnyH_ready (rs := [7]) (by kernel_rfl) (by simp) ?_
            refine AllReadyH.cons rfl (fun K hK => ?_) AllReadyH.nil
            simp only [List.getElem_toArray, List.getElem_cons_succ, List.getElem_cons_zero]
            go_wp2_with fail
            clear t0 t1 t2 f0 f1 f2
            obtain ⟨V28, hV28⟩ : ∃ x, x = set3E V27 (V1.heap.size) (.int .i64 y0) (.int .i64 y1) (.int .i64 y2) := ⟨_, rfl⟩
            have zV28 : V28.heap.size ≤ V27.heap.size ∧ V27.heap.size ≤ V28.heap.size := by rw [hV28, set3E_size]; exact ⟨Nat.le_refl _, Nat.le_refl _⟩
            have HV28 : Hid (Below W0.heap.size W0 V28) := by rw [hV28]; exact set3E_below HV27.out (by omega) _ _ _
            have kB : Box V28 (V1.heap.size) 46 #[.int .i64 y0, .int .i64 y1, .int .i64 y2] := by rw [hV28]; exact kB.set3E
            have kA : Box V28 (V20.heap.size) 46 #[.int .i64 x0, .int .i64 x1, .int .i64 x2] := by rw [hV28]; exact kA.setv3E (by omega) _ _ _
            have hV28' := hV28
            unfold set3E at hV28'
            rw [← hV28']
            refine hK.out _ _ (HKS.out _ HV28.out) (fun hHeld => ?_)
            clear hK K hV28 hV28'
            refine wpAnyH_done (by kernel_rfl) ?_ _
            go_wp2_with fail
            go_meet
            case rel => exact ⟨_, _, rfl, rfl, kA, kB, by omega, by omega, HV28.out⟩
    · simp only [List.getElem_toArray, List.getElem_cons_succ, List.getElem_cons_zero]
      go_wp2_with fail
      obtain ⟨V29, hV29⟩ : ∃ x, x = (W0.alloc (.cells #[.int .i64 0, .int .i64 0, .int .i64 0] 46)).drew := ⟨_, rfl⟩
      have bV29 : Below W0.heap.size W0 V29 := by rw [hV29]; exact (below_new _ _).drew
      have kV29 : Box V29 W0.heap.size 46 #[.int .i64 0, .int .i64 0, .int .i64 0] := by rw [hV29]; exact (Box.last _ _ _ rfl).drew
      have zV29 : V29.heap.size ≤ W0.heap.size + 1 ∧ W0.heap.size + 1 ≤ V29.heap.size := by rw [hV29, drew_size, alloc_size]; exact ⟨Nat.le_refl _, Nat.le_refl _⟩
      have HV29x := hide bV29
      have kA := kV29
      rw [← hV29]
      refine hK.out _ _ (HKS.out _ HV29x.out) (fun hHeld => ?_)
      clear hK K hV29 bV29 kV29
      refine wpAnyH_ready (rs := [1, 5]) (by kernel_rfl) (by simp) ?_
      refine (AllReadyH.cons rfl (fun K hK => ?_) (AllReadyH.cons rfl (fun K hK => ?_) AllReadyH.nil))
      · simp only [List.getElem_toArray, List.getElem_cons_succ, List.getElem_cons_zero]
        go_simp
        (with_reducible refine Calls.mono (HC1.out _) ?_)
        rintro e V30 ⟨rfl, bV30⟩
        have zV30 : V29.heap.size ≤ V30.heap.size := bV30.size
        have HV30x := hide (below_then HV29x.out bV30)
        have kA := kA.below bV30 kA.lt
        go_wp2_with fail
        refine hK.out _ _ (HKS.out _ HV30x.out) (fun hHeld => ?_)
        clear hK K bV30
        refine wpAnyH_ready (rs := [3, 5]) (by kernel_rfl) (by simp) ?_
        refine (AllReadyH.cons rfl (fun K hK => ?_) (AllReadyH.cons rfl (fun K hK => ?_) AllReadyH.nil))
        · simp only [List.getElem_toArray, List.getElem_cons_succ, List.getElem_cons_zero]
          go_simp
          (with_reducible refine Calls.mono (HC2.out _) ?_)
          rintro e V31 ⟨rfl, bV31⟩
          have zV31 : V30.heap.size ≤ V31.heap.size := bV31.size
          have HV31x := hide (below_then HV30x.out bV31)
          have kA := kA.below bV31 kA.lt
          go_wp2_with fail
          refine hK.out _ _ (HKS.out _ HV31x.out) (fun hHeld => ?_)
          clear hK K bV31
          refine wpAnyH_ready (rs := [5]) (by kernel_rfl) (by simp) ?_
          refine (AllReadyH.cons rfl (fun K hK => ?_) AllReadyH.nil)
          · simp only [List.getElem_toArray, List.getElem_cons_succ, List.getElem_cons_zero]
            go_wp2_with fail
            obtain ⟨V32, hV32⟩ : ∃ x, x = V31.alloc (.cells #[.int .i64 0, .int .i64 0, .int .i64 0] 46) := ⟨_, rfl⟩
            have bV32 : Below V31.heap.size V31 V32 := by rw [hV32]; exact below_new _ _
            have kV32 : Box V32 V31.heap.size 46 #[.int .i64 0, .int .i64 0, .int .i64 0] := by rw [hV32]; exact Box.last _ _ _ rfl
            have zV32 : V32.heap.size ≤ V31.heap.size + 1 ∧ V31.heap.size + 1 ≤ V32.heap.size := by rw [hV32, alloc_size]; exact ⟨Nat.le_refl _, Nat.le_refl _⟩
            have HV32x := hide (below_then HV31x.out bV32)
            have kA := kA.below bV32 kA.lt
            have kB := kV32
            rw [← hV32]
            refine hK.out _ _ (HKS.out _ HV32x.out) (fun hHeld => ?_)
            clear hK K hV32 bV32 kV32
            have lA := kA.lt
            have lB := kB.lt
            obtain ⟨t0, t1, t2, f0, f1, f2⟩ := kA.facts3
            refine wpAnyH_ready (rs := [6]) (by kernel_rfl) (by simp) ?_
            refine AllReadyH.cons rfl (fun K hK => ?_) AllReadyH.nil
            simp only [List.getElem_toArray, List.getElem_cons_succ, List.getElem_cons_zero]
            go_wp2_with fail
            clear t0 t1 t2 f0 f1 f2
            obtain ⟨V33, hV33⟩ : ∃ x, x = set3E V32 (W0.heap.size) (.int .i64 x0) (.int .i64 x1) (.int .i64 x2) := ⟨_, rfl⟩
            have zV33 : V33.heap.size ≤ V32.heap.size ∧ V32.heap.size ≤ V33.heap.size := by rw [hV33, set3E_size]; exact ⟨Nat.le_refl _, Nat.le_refl _⟩
            have HV33 : Hid (Below W0.heap.size W0 V33) := by rw [hV33]; exact set3E_below HV32x.out (by omega) _ _ _
            have kA : Box V33 (W0.heap.size) 46 #[.int .i64 x0, .int .i64 x1, .int .i64 x2] := by rw [hV33]; exact kA.set3E
            have kB : Box V33 (V31.heap.size) 46 #[.int .i64 0, .int .i64 0, .int .i64 0] := by rw [hV33]; exact kB.setv3E (by omega) _ _ _
            have hV33' := hV33
            unfold set3E at hV33'
            rw [← hV33']
            refine hK.out _ _ (HKS.out _ HV33.out) (fun hHeld => ?_)
            clear hK K hV33 hV33'
            obtain ⟨t0, t1, t2, f0, f1, f2⟩ := kB.facts3
            refine wpAnyH_ready (rs := [7]) (by kernel_rfl) (by simp) ?_
            refine AllReadyH.cons rfl (fun K hK => ?_) AllReadyH.nil
            simp only [List.getElem_toArray, List.getElem_cons_succ, List.getElem_cons_zero]
            go_wp2_with fail
            clear t0 t1 t2 f0 f1 f2
            obtain ⟨V34, hV34⟩ : ∃ x, x = set3E V33 (V31.heap.size) (.int .i64 y0) (.int .i64 y1) (.int .i64 y2) := ⟨_, rfl⟩
            have zV34 : V34.heap.size ≤ V33.heap.size ∧ V33.heap.size ≤ V34.heap.size := by rw [hV34, set3E_size]; exact ⟨Nat.le_refl _, Nat.le_refl _⟩
            have HV34 : Hid (Below W0.heap.size W0 V34) := by rw [hV34]; exact set3E_below HV33.out (by omega) _ _ _
            have kB : Box V34 (V31.heap.size) 46 #[.int .i64 y0, .int .i64 y1, .int .i64 y2] := by rw [hV34]; exact kB.set3E
            have kA : Box V34 (W0.heap.size) 46 #[.int .i64 x0, .int .i64 x1, .int .i64 x2] := by rw [hV34]; exact kA.setv3E (by omega) _ _ _
            have hV34' := hV34
            unfold set3E at hV34'
            rw [← hV34']
            refine hK.out _ _ (HKS.out _ HV34.out) (fun hHeld => ?_)
            clear hK K hV34 hV34'
            refine wpAnyH_done (by kernel_rfl) ?_ _
            go_wp2_with fail
            go_meet
            case rel => exact ⟨_, _, rfl, rfl, kA, kB, by omega, by omega, HV34.out⟩
        · simp only [List.getElem_toArray, List.getElem_cons_succ, List.getElem_cons_zero]
          go_wp2_with fail
          obtain ⟨V35, hV35⟩ : ∃ x, x = V30.alloc (.cells #[.int .i64 0, .int .i64 0, .int .i64 0] 46) := ⟨_, rfl⟩
          have bV35 : Below V30.heap.size V30 V35 := by rw [hV35]; exact below_new _ _
          have kV35 : Box V35 V30.heap.size 46 #[.int .i64 0, .int .i64 0, .int .i64 0] := by rw [hV35]; exact Box.last _ _ _ rfl
          have zV35 : V35.heap.size ≤ V30.heap.size + 1 ∧ V30.heap.size + 1 ≤ V35.heap.size := by rw [hV35, alloc_size]; exact ⟨Nat.le_refl _, Nat.le_refl _⟩
          have HV35x := hide (below_then HV30x.out bV35)
          have kA := kA.below bV35 kA.lt
          have kB := kV35
          rw [← hV35]
          refine hK.out _ _ (HKS.out _ HV35x.out) (fun hHeld => ?_)
          clear hK K hV35 bV35 kV35
          refine wpAnyH_ready (rs := [3]) (by kernel_rfl) (by simp) ?_
          refine (AllReadyH.cons rfl (fun K hK => ?_) AllReadyH.nil)
          · simp only [List.getElem_toArray, List.getElem_cons_succ, List.getElem_cons_zero]
            go_simp
            (with_reducible refine Calls.mono (HC2.out _) ?_)
            rintro e V36 ⟨rfl, bV36⟩
            have zV36 : V35.heap.size ≤ V36.heap.size := bV36.size
            have HV36x := hide (below_then HV35x.out bV36)
            have kA := kA.below bV36 kA.lt
            have kB := kB.below bV36 kB.lt
            go_wp2_with fail
            refine hK.out _ _ (HKS.out _ HV36x.out) (fun hHeld => ?_)
            clear hK K bV36
            have lA := kA.lt
            have lB := kB.lt
            obtain ⟨t0, t1, t2, f0, f1, f2⟩ := kA.facts3
            refine wpAnyH_ready (rs := [6]) (by kernel_rfl) (by simp) ?_
            refine AllReadyH.cons rfl (fun K hK => ?_) AllReadyH.nil
            simp only [List.getElem_toArray, List.getElem_cons_succ, List.getElem_cons_zero]
            go_wp2_with fail
            clear t0 t1 t2 f0 f1 f2
            obtain ⟨V37, hV37⟩ : ∃ x, x = set3E V36 (W0.heap.size) (.int .i64 x0) (.int .i64 x1) (.int .i64 x2) := ⟨_, rfl⟩
            have zV37 : V37.heap.size ≤ V36.heap.size ∧ V36.heap.size ≤ V37.heap.size := by rw [hV37, set3E_size]; exact ⟨Nat.le_refl _, Nat.le_refl _⟩
            have HV37 : Hid (Below W0.heap.size W0 V37) := by rw [hV37]; exact set3E_below HV36x.out (by omega) _ _ _
            have kA : Box V37 (W0.heap.size) 46 #[.int .i64 x0, .int .i64 x1, .int .i64 x2] := by rw [hV37]; exact kA.set3E
            have kB : Box V37 (V30.heap.size) 46 #[.int .i64 0, .int .i64 0, .int .i64 0] := by rw [hV37]; exact kB.setv3E (by omega) _ _ _
            have hV37' := hV37
            unfold set3E at hV37'
            rw [← hV37']
            refine hK.out _ _ (HKS.out _ HV37.out) (fun hHeld => ?_)
            clear hK K hV37 hV37'
            obtain ⟨t0, t1, t2, f0, f1, f2⟩ := kB.facts3
            refine wpAnyH_ready (rs := [7]) (by kernel_rfl) (by simp) ?_
            refine AllReadyH.cons rfl (fun K hK => ?_) AllReadyH.nil
            simp only [List.getElem_toArray, List.getElem_cons_succ, List.getElem_cons_zero]
            go_wp2_with fail
            clear t0 t1 t2 f0 f1 f2
            obtain ⟨V38, hV38⟩ : ∃ x, x = set3E V37 (V30.heap.size) (.int .i64 y0) (.int .i64 y1) (.int .i64 y2) := ⟨_, rfl⟩
            have zV38 : V38.heap.size ≤ V37.heap.size ∧ V37.heap.size ≤ V38.heap.size := by rw [hV38, set3E_size]; exact ⟨Nat.le_refl _, Nat.le_refl _⟩
            have HV38 : Hid (Below W0.heap.size W0 V38) := by rw [hV38]; exact set3E_below HV37.out (by omega) _ _ _
            have kB : Box V38 (V30.heap.size) 46 #[.int .i64 y0, .int .i64 y1, .int .i64 y2] := by rw [hV38]; exact kB.set3E
            have kA : Box V38 (W0.heap.size) 46 #[.int .i64 x0, .int .i64 x1, .int .i64 x2] := by rw [hV38]; exact kA.setv3E (by omega) _ _ _
            have hV38' := hV38
            unfold set3E at hV38'
            rw [← hV38']
            refine hK.out _ _ (HKS.out _ HV38.out) (fun hHeld => ?_)
            clear hK K hV38 hV38'
            refine wpAnyH_done (by kernel_rfl) ?_ _
            go_wp2_with fail
            go_meet
            case rel => exact ⟨_, _, rfl, rfl, kA, kB, by omega, by omega, HV38.out⟩
      · simp only [List.getElem_toArray, List.getElem_cons_succ, List.getElem_cons_zero]
        go_wp2_with fail
        obtain ⟨V39, hV39⟩ : ∃ x, x = V29.alloc (.cells #[.int .i64 0, .int .i64 0, .int .i64 0] 46) := ⟨_, rfl⟩
        have bV39 : Below V29.heap.size V29 V39 := by rw [hV39]; exact below_new _ _
        have kV39 : Box V39 V29.heap.size 46 #[.int .i64 0, .int .i64 0, .int .i64 0] := by rw [hV39]; exact Box.last _ _ _ rfl
        have zV39 : V39.heap.size ≤ V29.heap.size + 1 ∧ V29.heap.size + 1 ≤ V39.heap.size := by rw [hV39, alloc_size]; exact ⟨Nat.le_refl _, Nat.le_refl _⟩
        have HV39x := hide (below_then HV29x.out bV39)
        have kA := kA.below bV39 kA.lt
        have kB := kV39
        rw [← hV39]
        refine hK.out _ _ (HKS.out _ HV39x.out) (fun hHeld => ?_)
        clear hK K hV39 bV39 kV39
        refine wpAnyH_ready (rs := [1]) (by kernel_rfl) (by simp) ?_
        refine (AllReadyH.cons rfl (fun K hK => ?_) AllReadyH.nil)
        · simp only [List.getElem_toArray, List.getElem_cons_succ, List.getElem_cons_zero]
          go_simp
          (with_reducible refine Calls.mono (HC1.out _) ?_)
          rintro e V40 ⟨rfl, bV40⟩
          have zV40 : V39.heap.size ≤ V40.heap.size := bV40.size
          have HV40x := hide (below_then HV39x.out bV40)
          have kA := kA.below bV40 kA.lt
          have kB := kB.below bV40 kB.lt
          go_wp2_with fail
          refine hK.out _ _ (HKS.out _ HV40x.out) (fun hHeld => ?_)
          clear hK K bV40
          refine wpAnyH_ready (rs := [3]) (by kernel_rfl) (by simp) ?_
          refine (AllReadyH.cons rfl (fun K hK => ?_) AllReadyH.nil)
          · simp only [List.getElem_toArray, List.getElem_cons_succ, List.getElem_cons_zero]
            go_simp
            (with_reducible refine Calls.mono (HC2.out _) ?_)
            rintro e V41 ⟨rfl, bV41⟩
            have zV41 : V40.heap.size ≤ V41.heap.size := bV41.size
            have HV41x := hide (below_then HV40x.out bV41)
            have kA := kA.below bV41 kA.lt
            have kB := kB.below bV41 kB.lt
            go_wp2_with fail
            refine hK.out _ _ (HKS.out _ HV41x.out) (fun hHeld => ?_)
            clear hK K bV41
            have lA := kA.lt
            have lB := kB.lt
            obtain ⟨t0, t1, t2, f0, f1, f2⟩ := kA.facts3
            refine wpAnyH_ready (rs := [6]) (by kernel_rfl) (by simp) ?_
            refine AllReadyH.cons rfl (fun K hK => ?_) AllReadyH.nil
            simp only [List.getElem_toArray, List.getElem_cons_succ, List.getElem_cons_zero]
            go_wp2_with fail
            clear t0 t1 t2 f0 f1 f2
            obtain ⟨V42, hV42⟩ : ∃ x, x = set3E V41 (W0.heap.size) (.int .i64 x0) (.int .i64 x1) (.int .i64 x2) := ⟨_, rfl⟩
            have zV42 : V42.heap.size ≤ V41.heap.size ∧ V41.heap.size ≤ V42.heap.size := by rw [hV42, set3E_size]; exact ⟨Nat.le_refl _, Nat.le_refl _⟩
            have HV42 : Hid (Below W0.heap.size W0 V42) := by rw [hV42]; exact set3E_below HV41x.out (by omega) _ _ _
            have kA : Box V42 (W0.heap.size) 46 #[.int .i64 x0, .int .i64 x1, .int .i64 x2] := by rw [hV42]; exact kA.set3E
            have kB : Box V42 (V29.heap.size) 46 #[.int .i64 0, .int .i64 0, .int .i64 0] := by rw [hV42]; exact kB.setv3E (by omega) _ _ _
            have hV42' := hV42
            unfold set3E at hV42'
            rw [← hV42']
            refine hK.out _ _ (HKS.out _ HV42.out) (fun hHeld => ?_)
            clear hK K hV42 hV42'
            obtain ⟨t0, t1, t2, f0, f1, f2⟩ := kB.facts3
            refine wpAnyH_ready (rs := [7]) (by kernel_rfl) (by simp) ?_
            refine AllReadyH.cons rfl (fun K hK => ?_) AllReadyH.nil
            simp only [List.getElem_toArray, List.getElem_cons_succ, List.getElem_cons_zero]
            go_wp2_with fail
            clear t0 t1 t2 f0 f1 f2
            obtain ⟨V43, hV43⟩ : ∃ x, x = set3E V42 (V29.heap.size) (.int .i64 y0) (.int .i64 y1) (.int .i64 y2) := ⟨_, rfl⟩
            have zV43 : V43.heap.size ≤ V42.heap.size ∧ V42.heap.size ≤ V43.heap.size := by rw [hV43, set3E_size]; exact ⟨Nat.le_refl _, Nat.le_refl _⟩
            have HV43 : Hid (Below W0.heap.size W0 V43) := by rw [hV43]; exact set3E_below HV42.out (by omega) _ _ _
            have kB : Box V43 (V29.heap.size) 46 #[.int .i64 y0, .int .i64 y1, .int .i64 y2] := by rw [hV43]; exact kB.set3E
            have kA : Box V43 (W0.heap.size) 46 #[.int .i64 x0, .int .i64 x1, .int .i64 x2] := by rw [hV43]; exact kA.setv3E (by omega) _ _ _
            have hV43' := hV43
            unfold set3E at hV43'
            rw [← hV43']
            refine hK.out _ _ (HKS.out _ HV43.out) (fun hHeld => ?_)
            clear hK K hV43 hV43'
            refine wpAnyH_done (by kernel_rfl) ?_ _
            go_wp2_with fail
            go_meet
            case rel => exact ⟨_, _, rfl, rfl, kA, kB, by omega, by omega, HV43.out⟩
    · simp only [List.getElem_toArray, List.getElem_cons_succ, List.getElem_cons_zero]
      go_wp2_with fail
      obtain ⟨V44, hV44⟩ : ∃ x, x = (W0.alloc (.cells #[.int .i64 0, .int .i64 0, .int .i64 0] 46)).drew := ⟨_, rfl⟩
      have bV44 : Below W0.heap.size W0 V44 := by rw [hV44]; exact (below_new _ _).drew
      have kV44 : Box V44 W0.heap.size 46 #[.int .i64 0, .int .i64 0, .int .i64 0] := by rw [hV44]; exact (Box.last _ _ _ rfl).drew
      have zV44 : V44.heap.size ≤ W0.heap.size + 1 ∧ W0.heap.size + 1 ≤ V44.heap.size := by rw [hV44, drew_size, alloc_size]; exact ⟨Nat.le_refl _, Nat.le_refl _⟩
      have HV44x := hide bV44
      have kB := kV44
      rw [← hV44]
      refine hK.out _ _ (HKS.out _ HV44x.out) (fun hHeld => ?_)
      clear hK K hV44 bV44 kV44
      refine wpAnyH_ready (rs := [1, 4]) (by kernel_rfl) (by simp) ?_
      refine (AllReadyH.cons rfl (fun K hK => ?_) (AllReadyH.cons rfl (fun K hK => ?_) AllReadyH.nil))
      · simp only [List.getElem_toArray, List.getElem_cons_succ, List.getElem_cons_zero]
        go_simp
        (with_reducible refine Calls.mono (HC1.out _) ?_)
        rintro e V45 ⟨rfl, bV45⟩
        have zV45 : V44.heap.size ≤ V45.heap.size := bV45.size
        have HV45x := hide (below_then HV44x.out bV45)
        have kB := kB.below bV45 kB.lt
        go_wp2_with fail
        refine hK.out _ _ (HKS.out _ HV45x.out) (fun hHeld => ?_)
        clear hK K bV45
        refine wpAnyH_ready (rs := [3, 4]) (by kernel_rfl) (by simp) ?_
        refine (AllReadyH.cons rfl (fun K hK => ?_) (AllReadyH.cons rfl (fun K hK => ?_) AllReadyH.nil))
        · simp only [List.getElem_toArray, List.getElem_cons_succ, List.getElem_cons_zero]
          go_simp
          (with_reducible refine Calls.mono (HC2.out _) ?_)
          rintro e V46 ⟨rfl, bV46⟩
          have zV46 : V45.heap.size ≤ V46.heap.size := bV46.size
          have HV46x := hide (below_then HV45x.out bV46)
          have kB := kB.below bV46 kB.lt
          go_wp2_with fail
          refine hK.out _ _ (HKS.out _ HV46x.out) (fun hHeld => ?_)
          clear hK K bV46
          refine wpAnyH_ready (rs := [4]) (by kernel_rfl) (by simp) ?_
          refine (AllReadyH.cons rfl (fun K hK => ?_) AllReadyH.nil)
          · simp only [List.getElem_toArray, List.getElem_cons_succ, List.getElem_cons_zero]
            go_wp2_with fail
            obtain ⟨V47, hV47⟩ : ∃ x, x = V46.alloc (.cells #[.int .i64 0, .int .i64 0, .int .i64 0] 46) := ⟨_, rfl⟩
            have bV47 : Below V46.heap.size V46 V47 := by rw [hV47]; exact below_new _ _
            have kV47 : Box V47 V46.heap.size 46 #[.int .i64 0, .int .i64 0, .int .i64 0] := by rw [hV47]; exact Box.last _ _ _ rfl
            have zV47 : V47.heap.size ≤ V46.heap.size + 1 ∧ V46.heap.size + 1 ≤ V47.heap.size := by rw [hV47, alloc_size]; exact ⟨Nat.le_refl _, Nat.le_refl _⟩
            have HV47x := hide (below_then HV46x.out bV47)
            have kB := kB.below bV47 kB.lt
            have kA := kV47
            rw [← hV47]
            refine hK.out _ _ (HKS.out _ HV47x.out) (fun hHeld => ?_)
            clear hK K hV47 bV47 kV47
            have lA := kA.lt
            have lB := kB.lt
            obtain ⟨t0, t1, t2, f0, f1, f2⟩ := kA.facts3
            refine wpAnyH_ready (rs := [6]) (by kernel_rfl) (by simp) ?_
            refine AllReadyH.cons rfl (fun K hK => ?_) AllReadyH.nil
            simp only [List.getElem_toArray, List.getElem_cons_succ, List.getElem_cons_zero]
            go_wp2_with fail
            clear t0 t1 t2 f0 f1 f2
            obtain ⟨V48, hV48⟩ : ∃ x, x = set3E V47 (V46.heap.size) (.int .i64 x0) (.int .i64 x1) (.int .i64 x2) := ⟨_, rfl⟩
            have zV48 : V48.heap.size ≤ V47.heap.size ∧ V47.heap.size ≤ V48.heap.size := by rw [hV48, set3E_size]; exact ⟨Nat.le_refl _, Nat.le_refl _⟩
            have HV48 : Hid (Below W0.heap.size W0 V48) := by rw [hV48]; exact set3E_below HV47x.out (by omega) _ _ _
            have kA : Box V48 (V46.heap.size) 46 #[.int .i64 x0, .int .i64 x1, .int .i64 x2] := by rw [hV48]; exact kA.set3E
            have kB : Box V48 (W0.heap.size) 46 #[.int .i64 0, .int .i64 0, .int .i64 0] := by rw [hV48]; exact kB.setv3E (by omega) _ _ _
            have hV48' := hV48
            unfold set3E at hV48'
            rw [← hV48']
            refine hK.out _ _ (HKS.out _ HV48.out) (fun hHeld => ?_)
            clear hK K hV48 hV48'
            obtain ⟨t0, t1, t2, f0, f1, f2⟩ := kB.facts3
            refine wpAnyH_ready (rs := [7]) (by kernel_rfl) (by simp) ?_
            refine AllReadyH.cons rfl (fun K hK => ?_) AllReadyH.nil
            simp only [List.getElem_toArray, List.getElem_cons_succ, List.getElem_cons_zero]
            go_wp2_with fail
            clear t0 t1 t2 f0 f1 f2
            obtain ⟨V49, hV49⟩ : ∃ x, x = set3E V48 (W0.heap.size) (.int .i64 y0) (.int .i64 y1) (.int .i64 y2) := ⟨_, rfl⟩
            have zV49 : V49.heap.size ≤ V48.heap.size ∧ V48.heap.size ≤ V49.heap.size := by rw [hV49, set3E_size]; exact ⟨Nat.le_refl _, Nat.le_refl _⟩
            have HV49 : Hid (Below W0.heap.size W0 V49) := by rw [hV49]; exact set3E_below HV48.out (by omega) _ _ _
            have kB : Box V49 (W0.heap.size) 46 #[.int .i64 y0, .int .i64 y1, .int .i64 y2] := by rw [hV49]; exact kB.set3E
            have kA : Box V49 (V46.heap.size) 46 #[.int .i64 x0, .int .i64 x1, .int .i64 x2] := by rw [hV49]; exact kA.setv3E (by omega) _ _ _
            have hV49' := hV49
            unfold set3E at hV49'
            rw [← hV49']
            refine hK.out _ _ (HKS.out _ HV49.out) (fun hHeld => ?_)
            clear hK K hV49 hV49'
            refine wpAnyH_done (by kernel_rfl) ?_ _
            go_wp2_with fail
            go_meet
            case rel => exact ⟨_, _, rfl, rfl, kA, kB, by omega, by omega, HV49.out⟩
        · simp only [List.getElem_toArray, List.getElem_cons_succ, List.getElem_cons_zero]
          go_wp2_with fail
          obtain ⟨V50, hV50⟩ : ∃ x, x = V45.alloc (.cells #[.int .i64 0, .int .i64 0, .int .i64 0] 46) := ⟨_, rfl⟩
          have bV50 : Below V45.heap.size V45 V50 := by rw [hV50]; exact below_new _ _
          have kV50 : Box V50 V45.heap.size 46 #[.int .i64 0, .int .i64 0, .int .i64 0] := by rw [hV50]; exact Box.last _ _ _ rfl
          have zV50 : V50.heap.size ≤ V45.heap.size + 1 ∧ V45.heap.size + 1 ≤ V50.heap.size := by rw [hV50, alloc_size]; exact ⟨Nat.le_refl _, Nat.le_refl _⟩
          have HV50x := hide (below_then HV45x.out bV50)
          have kB := kB.below bV50 kB.lt
          have kA := kV50
          rw [← hV50]
          refine hK.out _ _ (HKS.out _ HV50x.out) (fun hHeld => ?_)
          clear hK K hV50 bV50 kV50
          refine wpAnyH_ready (rs := [3]) (by kernel_rfl) (by simp) ?_
          refine (AllReadyH.cons rfl (fun K hK => ?_) AllReadyH.nil)
          · simp only [List.getElem_toArray, List.getElem_cons_succ, List.getElem_cons_zero]
            go_simp
            (with_reducible refine Calls.mono (HC2.out _) ?_)
            rintro e V51 ⟨rfl, bV51⟩
            have zV51 : V50.heap.size ≤ V51.heap.size := bV51.size
            have HV51x := hide (below_then HV50x.out bV51)
            have kA := kA.below bV51 kA.lt
            have kB := kB.below bV51 kB.lt
            go_wp2_with fail
            refine hK.out _ _ (HKS.out _ HV51x.out) (fun hHeld => ?_)
            clear hK K bV51
            have lA := kA.lt
            have lB := kB.lt
            obtain ⟨t0, t1, t2, f0, f1, f2⟩ := kA.facts3
            refine wpAnyH_ready (rs := [6]) (by kernel_rfl) (by simp) ?_
            refine AllReadyH.cons rfl (fun K hK => ?_) AllReadyH.nil
            simp only [List.getElem_toArray, List.getElem_cons_succ, List.getElem_cons_zero]
            go_wp2_with fail
            clear t0 t1 t2 f0 f1 f2
            obtain ⟨V52, hV52⟩ : ∃ x, x = set3E V51 (V45.heap.size) (.int .i64 x0) (.int .i64 x1) (.int .i64 x2) := ⟨_, rfl⟩
            have zV52 : V52.heap.size ≤ V51.heap.size ∧ V51.heap.size ≤ V52.heap.size := by rw [hV52, set3E_size]; exact ⟨Nat.le_refl _, Nat.le_refl _⟩
            have HV52 : Hid (Below W0.heap.size W0 V52) := by rw [hV52]; exact set3E_below HV51x.out (by omega) _ _ _
            have kA : Box V52 (V45.heap.size) 46 #[.int .i64 x0, .int .i64 x1, .int .i64 x2] := by rw [hV52]; exact kA.set3E
            have kB : Box V52 (W0.heap.size) 46 #[.int .i64 0, .int .i64 0, .int .i64 0] := by rw [hV52]; exact kB.setv3E (by omega) _ _ _
            have hV52' := hV52
            unfold set3E at hV52'
            rw [← hV52']
            refine hK.out _ _ (HKS.out _ HV52.out) (fun hHeld => ?_)
            clear hK K hV52 hV52'
            obtain ⟨t0, t1, t2, f0, f1, f2⟩ := kB.facts3
            refine wpAnyH_ready (rs := [7]) (by kernel_rfl) (by simp) ?_
            refine AllReadyH.cons rfl (fun K hK => ?_) AllReadyH.nil
            simp only [List.getElem_toArray, List.getElem_cons_succ, List.getElem_cons_zero]
            go_wp2_with fail
            clear t0 t1 t2 f0 f1 f2
            obtain ⟨V53, hV53⟩ : ∃ x, x = set3E V52 (W0.heap.size) (.int .i64 y0) (.int .i64 y1) (.int .i64 y2) := ⟨_, rfl⟩
            have zV53 : V53.heap.size ≤ V52.heap.size ∧ V52.heap.size ≤ V53.heap.size := by rw [hV53, set3E_size]; exact ⟨Nat.le_refl _, Nat.le_refl _⟩
            have HV53 : Hid (Below W0.heap.size W0 V53) := by rw [hV53]; exact set3E_below HV52.out (by omega) _ _ _
            have kB : Box V53 (W0.heap.size) 46 #[.int .i64 y0, .int .i64 y1, .int .i64 y2] := by rw [hV53]; exact kB.set3E
            have kA : Box V53 (V45.heap.size) 46 #[.int .i64 x0, .int .i64 x1, .int .i64 x2] := by rw [hV53]; exact kA.setv3E (by omega) _ _ _
            have hV53' := hV53
            unfold set3E at hV53'
            rw [← hV53']
            refine hK.out _ _ (HKS.out _ HV53.out) (fun hHeld => ?_)
            clear hK K hV53 hV53'
            refine wpAnyH_done (by kernel_rfl) ?_ _
            go_wp2_with fail
            go_meet
            case rel => exact ⟨_, _, rfl, rfl, kA, kB, by omega, by omega, HV53.out⟩
      · simp only [List.getElem_toArray, List.getElem_cons_succ, List.getElem_cons_zero]
        go_wp2_with fail
        obtain ⟨V54, hV54⟩ : ∃ x, x = V44.alloc (.cells #[.int .i64 0, .int .i64 0, .int .i64 0] 46) := ⟨_, rfl⟩
        have bV54 : Below V44.heap.size V44 V54 := by rw [hV54]; exact below_new _ _
        have kV54 : Box V54 V44.heap.size 46 #[.int .i64 0, .int .i64 0, .int .i64 0] := by rw [hV54]; exact Box.last _ _ _ rfl
        have zV54 : V54.heap.size ≤ V44.heap.size + 1 ∧ V44.heap.size + 1 ≤ V54.heap.size := by rw [hV54, alloc_size]; exact ⟨Nat.le_refl _, Nat.le_refl _⟩
        have HV54x := hide (below_then HV44x.out bV54)
        have kB := kB.below bV54 kB.lt
        have kA := kV54
        rw [← hV54]
        refine hK.out _ _ (HKS.out _ HV54x.out) (fun hHeld => ?_)
        clear hK K hV54 bV54 kV54
        refine wpAnyH_ready (rs := [1]) (by kernel_rfl) (by simp) ?_
        refine (AllReadyH.cons rfl (fun K hK => ?_) AllReadyH.nil)
        · simp only [List.getElem_toArray, List.getElem_cons_succ, List.getElem_cons_zero]
          go_simp
          (with_reducible refine Calls.mono (HC1.out _) ?_)
          rintro e V55 ⟨rfl, bV55⟩
          have zV55 : V54.heap.size ≤ V55.heap.size := bV55.size
          have HV55x := hide (below_then HV54x.out bV55)
          have kA := kA.below bV55 kA.lt
          have kB := kB.below bV55 kB.lt
          go_wp2_with fail
          refine hK.out _ _ (HKS.out _ HV55x.out) (fun hHeld => ?_)
          clear hK K bV55
          refine wpAnyH_ready (rs := [3]) (by kernel_rfl) (by simp) ?_
          refine (AllReadyH.cons rfl (fun K hK => ?_) AllReadyH.nil)
          · simp only [List.getElem_toArray, List.getElem_cons_succ, List.getElem_cons_zero]
            go_simp
            (with_reducible refine Calls.mono (HC2.out _) ?_)
            rintro e V56 ⟨rfl, bV56⟩
            have zV56 : V55.heap.size ≤ V56.heap.size := bV56.size
            have HV56x := hide (below_then HV55x.out bV56)
            have kA := kA.below bV56 kA.lt
            have kB := kB.below bV56 kB.lt
            go_wp2_with fail
            refine hK.out _ _ (HKS.out _ HV56x.out) (fun hHeld => ?_)
            clear hK K bV56
            have lA := kA.lt
            have lB := kB.lt
            obtain ⟨t0, t1, t2, f0, f1, f2⟩ := kA.facts3
            refine wpAnyH_ready (rs := [6]) (by kernel_rfl) (by simp) ?_
            refine AllReadyH.cons rfl (fun K hK => ?_) AllReadyH.nil
            simp only [List.getElem_toArray, List.getElem_cons_succ, List.getElem_cons_zero]
            go_wp2_with fail
            clear t0 t1 t2 f0 f1 f2
            obtain ⟨V57, hV57⟩ : ∃ x, x = set3E V56 (V44.heap.size) (.int .i64 x0) (.int .i64 x1) (.int .i64 x2) := ⟨_, rfl⟩
            have zV57 : V57.heap.size ≤ V56.heap.size ∧ V56.heap.size ≤ V57.heap.size := by rw [hV57, set3E_size]; exact ⟨Nat.le_refl _, Nat.le_refl _⟩
            have HV57 : Hid (Below W0.heap.size W0 V57) := by rw [hV57]; exact set3E_below HV56x.out (by omega) _ _ _
            have kA : Box V57 (V44.heap.size) 46 #[.int .i64 x0, .int .i64 x1, .int .i64 x2] := by rw [hV57]; exact kA.set3E
            have kB : Box V57 (W0.heap.size) 46 #[.int .i64 0, .int .i64 0, .int .i64 0] := by rw [hV57]; exact kB.setv3E (by omega) _ _ _
            have hV57' := hV57
            unfold set3E at hV57'
            rw [← hV57']
            refine hK.out _ _ (HKS.out _ HV57.out) (fun hHeld => ?_)
            clear hK K hV57 hV57'
            obtain ⟨t0, t1, t2, f0, f1, f2⟩ := kB.facts3
            refine wpAnyH_ready (rs := [7]) (by kernel_rfl) (by simp) ?_
            refine AllReadyH.cons rfl (fun K hK => ?_) AllReadyH.nil
            simp only [List.getElem_toArray, List.getElem_cons_succ, List.getElem_cons_zero]
            go_wp2_with fail
            clear t0 t1 t2 f0 f1 f2
            obtain ⟨V58, hV58⟩ : ∃ x, x = set3E V57 (W0.heap.size) (.int .i64 y0) (.int .i64 y1) (.int .i64 y2) := ⟨_, rfl⟩
            have zV58 : V58.heap.size ≤ V57.heap.size ∧ V57.heap.size ≤ V58.heap.size := by rw [hV58, set3E_size]; exact ⟨Nat.le_refl _, Nat.le_refl _⟩
            have HV58 : Hid (Below W0.heap.size W0 V58) := by rw [hV58]; exact set3E_below HV57.out (by omega) _ _ _
            have kB : Box V58 (W0.heap.size) 46 #[.int .i64 y0, .int .i64 y1, .int .i64 y2] := by rw [hV58]; exact kB.set3E
            have kA : Box V58 (V44.heap.size) 46 #[.int .i64 x0, .int .i64 x1, .int .i64 x2] := by rw [hV58]; exact kA.setv3E (by omega) _ _ _
            have hV58' := hV58
            unfold set3E at hV58'
            rw [← hV58']
            refine hK.out _ _ (HKS.out _ HV58.out) (fun hHeld => ?_)
            clear hK K hV58 hV58'
            refine wpAnyH_done (by kernel_rfl) ?_ _
            go_wp2_with fail
            go_meet
            case rel => exact ⟨_, _, rfl, rfl, kA, kB, by omega, by omega, HV58.out⟩
  case rest =>
    have hs0 := Ehs0.out
    clear Ehs0
    obtain ⟨gm, gn, rfl, rfl, km, kn, hgm, hgn, hb1⟩ := hcut
    obtain ⟨w1, hw1⟩ : ∃ xw, xw = wc := ⟨_, rfl⟩
    subst hw1
    clear HKS HS0 HBe HBf HC1 HC2
    clear ye0 ye1 ye2 ye3 ye4 ye5 yf0 yf1 yf2 yf3 yf4 yf5
    have hs1 := hb1.size
    have hT1 := below_then hT0 hb1
    have ke := ke.below hb1 ke.lt
    have kf := kf.below hb1 kf.lt
    have kr := kr.below hb1 kr.lt
    clear hT0
    clear hb1
    have lkm := km.lt
    have lkn := kn.lt
    go_upto_region 2 with fail
    obtain ⟨ym0, ym1, ym2⟩ := km.cells3
    obtain ⟨yn0, yn1, yn2⟩ := kn.cells3
    go_wp2_with fail
    refine (HOF.out w1).mono ?_
    rintro e w2 ⟨z0, z1, z2, rfl, oz, hb2⟩
    clear ym0 ym1 ym2 yn0 yn1 yn2
    obtain ⟨zb, zA, zn, zc, zD, zm, zk, rfl, rfl, rfl⟩ := oz.cut
    have hs2 := hb2.size
    have hT2 := below_then hT1 hb2
    have ke := ke.below hb2 ke.lt
    have kf := kf.below hb2 kf.lt
    have kr := kr.below hb2 kr.lt
    have km := km.below hb2 km.lt
    have kn := kn.below hb2 kn.lt
    clear hT1
    clear hb2
    clear km
    clear kn
    obtain ⟨w3, hw3⟩ : ∃ xw, xw = (w2.alloc (.cells #[.bool zb, .slice zA zn zc, .slice zD zm zk] 32)) := ⟨_, rfl⟩
    have hb3 : Below w2.heap.size w2 w3 := by rw [hw3]; exact below_new _ _
    have hq3 : w3.heap.size = w2.heap.size + 1 := by rw [hw3, alloc_size]
    have kz : Box w3 (w2.heap.size) 32 #[.bool zb, .slice zA zn zc, .slice zD zm zk] := by rw [hw3]; exact Box.last _ _ _ (by omega)
    have hs3 := hb3.size
    have hT3 := below_then hT2 hb3
    have ke := ke.below hb3 ke.lt
    have kf := kf.below hb3 kf.lt
    have kr := kr.below hb3 kr.lt
    have oz := oz.below hb3 (by omega)
    clear hT2
    go_upto_region 3 with fail
    rw [← hw3]
    clear hw3 hb3
    obtain ⟨ye0, ye1, ye2, ye3, ye4, ye5⟩ := ke.cells6
    obtain ⟨yz0, yz1, yz2⟩ := kz.cells3
    go_wp2_with fail
    refine (HV1.out w3 _ _ _ (oz.in_ HFX.out (by omega))).mono ?_
    rintro e w4 ⟨rfl, hb4⟩
    clear ye0 ye1 ye2 ye3 ye4 ye5 yz0 yz1 yz2
    have hs4 := hb4.size
    have hT4 := below_then hT3 hb4
    have ke := ke.below hb4 ke.lt
    have kf := kf.below hb4 kf.lt
    have kr := kr.below hb4 kr.lt
    have kz := kz.below hb4 kz.lt
    have oz := oz.below hb4 (by omega)
    clear hT3
    clear hb4
    cases b1 with
    | false =>
      have HO := hide (ret_q kr (QOwn.zero w4 w4.heap.size w4.heap.size 3 (Nat.le_refl _)) hT4 (by omega) (by omega) (by omega) (.inl (by omega)))
      obtain ⟨yr0, yr1, yr2, zr0, zr1, zr2⟩ := kr.facts3
      clear kr
      go_wp2_with fail
      refine bodyPost_ret (results_cell_tmp rfl _ _ (w.heap.size + 2) _ #[.bool false, .slice none 0 0, .slice none 0 0] (0, 0) _ rfl HO.out.1 Try.underlying32 rfl Try.sizeRat) rfl ?_
      exact ⟨_, _, _, by rw [HRB.out]; rfl, by rw [HRZ.out]; exact HO.out.2.1, HO.out.2.2⟩
    | true =>
      obtain ⟨yf0, yf1, yf2, yf3, yf4, yf5⟩ := kf.cells6
      obtain ⟨yz0, yz1, yz2⟩ := kz.cells3
      go_wp2_with fail
      refine (HV2.out w4 _ _ _ (oz.in_ HFX.out (by omega))).mono ?_
      rintro e w5 ⟨rfl, hb5⟩
      clear yf0 yf1 yf2 yf3 yf4 yf5 yz0 yz1 yz2
      have hs5 := hb5.size
      have hT5 := below_then hT4 hb5
      have ke := ke.below hb5 ke.lt
      have kf := kf.below hb5 kf.lt
      have kr := kr.below hb5 kr.lt
      have kz := kz.below hb5 kz.lt
      have oz := oz.below hb5 (by omega)
      clear hT4
      clear hb5
      cases b2 with
      | false =>
        have HO := hide (ret_q kr (QOwn.zero w5 w5.heap.size w5.heap.size 3 (Nat.le_refl _)) hT5 (by omega) (by omega) (by omega) (.inl (by omega)))
        obtain ⟨yr0, yr1, yr2, zr0, zr1, zr2⟩ := kr.facts3
        clear kr
        go_wp2_with fail
        refine bodyPost_ret (results_cell_tmp rfl _ _ (w.heap.size + 2) _ #[.bool false, .slice none 0 0, .slice none 0 0] (0, 0) _ rfl HO.out.1 Try.underlying32 rfl Try.sizeRat) rfl ?_
        exact ⟨_, _, _, by rw [HRB.out]; rfl, by rw [HRZ.out]; exact HO.out.2.1, HO.out.2.2⟩
      | true =>
        obtain ⟨yz0, yz1, yz2⟩ := kz.cells3
        have HO := hide (ret_q kr oz hT5 (by omega) (by omega) (by omega) (.inl (by omega)))
        obtain ⟨yr0, yr1, yr2, zr0, zr1, zr2⟩ := kr.facts3
        clear kr
        go_wp2_with fail
        refine bodyPost_ret (results_cell_tmp rfl _ _ (w.heap.size + 2) _ #[.bool zb, .slice zA zn zc, .slice zD zm zk] (0, 0) _ rfl HO.out.1 Try.underlying32 rfl Try.sizeRat) rfl ?_
        exact ⟨_, _, _, by rw [HRB.out]; rfl, by rw [HRZ.out]; exact HO.out.2.1, HO.out.2.2⟩
set_option maxRecDepth 100000 in
set_option maxHeartbeats 6400000 in
theorem impl_LevelX (w : World) (ex ey eu ev ek : Int) (el : Bool) (hex : (Lit.int .i64 ex).wf = true) (hey : (Lit.int .i64 ey).wf = true) (heu : (Lit.int .i64 eu).wf = true) (hev : (Lit.int .i64 ev).wf = true) (y : Int) (hy : (Lit.int .i64 y).wf = true) :
    Calls Try.prog 9 #[.agg #[.int .i64 ex, .int .i64 ey, .int .i64 eu, .int .i64 ev, .int .i64 ek, .bool el], .int .i64 y] w fun e w' => XRes 3 w w' e (lvlQ ex ey eu ev y) (lvlB ex ey eu ev y) := by
  have HC := hide (fun (W : World) => impl_CrossingX W ex ey eu ev ek el hex hey heu hev ex y eu y 0 false hex hy heu hy)
  have HRB : Hid (lvlB ex ey eu ev y = crsB ex ey eu ev ex y eu y) := rfl
  have HRZ : Hid (lvlQ ex ey eu ev y = crossQ ex ey eu ev ex y eu y) := rfl
  rw [HRB.out, HRZ.out]
  clear HRB HRZ
  generalize crsB ex ey eu ev ex y eu y = RB at *
  generalize crossQ ex ey eu ev ex y eu y = RZ at *
  obtain ⟨W0, hW0⟩ : ∃ W0, W0 = ((w.alloc (.cells #[.int .i64 ex, .int .i64 ey, .int .i64 eu, .int .i64 ev, .int .i64 ek, .bool el] 26)).alloc (.cells #[.bool false, .slice none 0 0, .slice none 0 0] 32)) := ⟨_, rfl⟩
  have hT0 : Below w.heap.size w W0 := by rw [hW0]; exact below_alloc (below_new _ _) _
  have ke : Box W0 (w.heap.size) 26 #[.int .i64 ex, .int .i64 ey, .int .i64 eu, .int .i64 ev, .int .i64 ek, .bool el] := by rw [hW0]; exact (Box.last _ _ _ rfl).alloc _
  have kr : Box W0 (w.heap.size + 1) 32 #[.bool false, .slice none 0 0, .slice none 0 0] := by rw [hW0]; exact Box.last _ _ _ (alloc_size _ _).symm
  have hs0 : W0.heap.size = w.heap.size + 2 := by rw [hW0, alloc_size, alloc_size]
  go_enter Try.func9, Try.ntmps9
  go_upto_region 1 with fail
  rw [← hW0]
  clear hW0
  obtain ⟨ye0, ye1, ye2, ye3, ye4, ye5⟩ := ke.cells6
  go_wp2_with fail
  refine (HC.out _).mono ?_
  rintro e w1 ⟨z0, z1, z2, rfl, oz, hb1⟩
  obtain ⟨zb, zA, zn, zc, zD, zm, zk, rfl, rfl, rfl⟩ := oz.cut
  clear ye0 ye1 ye2 ye3 ye4 ye5
  have hs1 := hb1.size
  have hT1 := below_then hT0 hb1
  have ke := ke.below hb1 ke.lt
  have kr := kr.below hb1 kr.lt
  clear hT0
  clear hb1
  have HO := hide (ret_q kr oz hT1 (by omega) (by omega) (by omega) (.inl (by omega)))
  obtain ⟨yr0, yr1, yr2, zr0, zr1, zr2⟩ := kr.facts3
  clear kr
  go_wp2_with fail
  refine bodyPost_ret (results_cell_tmp rfl _ _ (w.heap.size + 1) _ #[.bool zb, .slice zA zn zc, .slice zD zm zk] (0, 0) _ rfl HO.out.1 Try.underlying32 rfl Try.sizeRat) rfl ?_
  exact ⟨_, _, _, rfl, HO.out.2.1, HO.out.2.2⟩
end Go.Proofs.Ytdcceppednngjab
