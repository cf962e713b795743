/-
  The reference's headings: contracts: TurnVec, TurnPolygon.
-/
import Derived.Test.YtocllmaikngoaaaGreatDoorHP
import Derived.Test.YtocllmaikngoaaaGreatDoorPtR
import Derived.Test.YtocllmaikngoaaaGreatDoorHM
namespace Go.Proofs.YtocllmaikngoaaaGreatDoor
open Go.RowKit
set_option linter.unusedVariables false
set_option maxRecDepth 100000 in
set_option maxHeartbeats 1600000 in
theorem spec_TurnVec (w : World) (x y k : Int) (hx : (Lit.int .i64 x).wf = true) (hy : (Lit.int .i64 y).wf = true) (hk : (Lit.int .i64 k).wf = true) :
    Calls Tryz.prog 124 #[.agg #[.int .i64 x, .int .i64 y], .int .i64 k] w fun e w' => e = .returned (.agg #[.int .i64 (turnV (x, y) k).1, .int .i64 (turnV (x, y) k).2]) ∧ Below w.heap.size w w' := by
  have bk := bounds_i64 hk
  have h4 := tmod4_range k
  obtain ⟨W0, hW0⟩ : ∃ W0, W0 = (w.alloc (.cells #[.int .i64 x, .int .i64 y] 39)).alloc (.cells #[.int .i64 0, .int .i64 0] 39) := ⟨_, rfl⟩
  have hT0 : Below w.heap.size w W0 := by rw [hW0]; exact below_alloc (below_new _ _) _
  have kx : Box W0 w.heap.size 39 #[.int .i64 x, .int .i64 y] := by rw [hW0]; exact (Box.last _ _ _ rfl).alloc _
  have kr : Box W0 (w.heap.size + 1) 39 #[.int .i64 0, .int .i64 0] := by rw [hW0]; exact Box.last _ _ _ (alloc_size _ _).symm
  have HI := hide (spec_IsValidVec W0 x y hx hy)
  clear hx hy hk
  by_cases ev : vecB x y = true
  case neg =>
    have ev : vecB x y = false := by simpa using ev
    have HN : Hid (turnV (x, y) k = (0, 0)) := turnV_no (v := (x, y)) ev k
    rw [ev] at HI
    obtain ⟨x0, x1⟩ := kx.cells2
    go_enter Tryz.func124, Tryz.ntmps124
    go_upto_region 1 with fail
    rw [← hW0]
    clear hW0
    go_wp2_with fail
    refine HI.out.mono ?_
    rintro e w1 ⟨rfl, hb1⟩
    have kr1 := kr.below hb1 kr.lt
    have HK := hide kr1
    obtain ⟨a0, a1, a2, a3⟩ := kr1.facts
    have hT1 := below_then hT0 hb1
    clear HI kr kr1 kx x0 x1 hb1 hT0
    go_wp2_with fail
    rw [HN.out]
    refine bodyPost_ret (results_cell_row rfl _ _ (w.heap.size + 1) _ #[.int .i64 0, .int .i64 0] (0, 0) _ rfl (show Box _ _ 39 #[.int .i64 0, .int .i64 0] from HK.out.set2 _ _) Tryz.underlying39 rfl Tryz.sizeVec) rfl ?_
    exact ⟨rfl, below_set2 hT1 (Nat.le_succ _) _ _⟩
  have HN : Hid (turnV (x, y) k = rotK (hd k) (x, y)) := turnV_yes (v := (x, y)) ev k
  have hv := (vecB_iff x y).1 ev
  rw [ev] at HI
  obtain ⟨x0, x1⟩ := kx.cells2
  have q4 := hd_lt k
  by_cases hn : k.tmod 4 < 0
  · have hq := hd_neg hn
    generalize hd k = q at *
    go_enter Tryz.func124, Tryz.ntmps124
    go_upto_region 1 with fail
    rw [← hW0]
    clear hW0
    go_wp2_with fail
    refine HI.out.mono ?_
    rintro e w1 ⟨rfl, hb1⟩
    have kr1 := kr.below hb1 kr.lt
    have kx1 := kx.below hb1 kx.lt
    have hT1 := below_then hT0 hb1
    clear HI kr kx x0 x1 hb1 hT0
    go_wp2_with fail
    go_loopw [1] (fun i wr => ∃ (j : Nat) (u v : Int), i = .int .i64 j ∧ j ≤ q ∧ (-1000 ≤ u ∧ u ≤ 1000) ∧ (-1000 ≤ v ∧ v ≤ 1000) ∧ Box wr w.heap.size 39 #[.int .i64 u, .int .i64 v] ∧ Box wr (w.heap.size + 1) 39 #[.int .i64 0, .int .i64 0] ∧ Hid (rotK j (u, v) = rotK q (x, y)) ∧ Below w.heap.size w wr) (fun i _ => (intOf i).toNat)
    case atStart => exact ⟨q, x, y, by first | rfl | rw [← hq], Nat.le_refl _, hv.1, hv.2, kx1, kr1, rfl, hT1⟩
    case round =>
      clear kx1 kr1 hT1
      obtain ⟨j, u, v, rfl, hj, hu, hvv, kx2, kr2, HR, hbel⟩ := hrel
      obtain ⟨c0, c1, c2, c3⟩ := kx2.facts
      obtain ⟨d0, d1, d2, d3⟩ := kr2.facts
      by_cases hz : 0 < j
      · obtain ⟨i, rfl⟩ : ∃ i, j = i + 1 := ⟨j - 1, by omega⟩
        have HR2 : Hid (rotK i (-v, u) = rotK q (x, y)) := HR.out
        have hi : (0 : Int) < (i : Int) + 1 := by omega
        clear HR
        go_wp2_with fail
        go_roundw
        case rel => exact ⟨i, -v, u, by go_num, by omega, by omega, by omega, kx2.set2 _ _, (kr2.setv (by omega) _ _).setv (by omega) _ _, HR2, below_set2 hbel (Nat.le_refl _) _ _⟩
        case measure => simp [intOf]
      · obtain rfl : j = 0 := by omega
        have HE : Hid ((u, v) = turnV (x, y) k) := by show _ = _; rw [HN.out]; exact HR.out
        have HK := hide kr2
        clear HR
        go_wp2_with fail
        rw [← HE.out]
        refine bodyPost_ret (results_cell_row rfl _ _ (w.heap.size + 1) _ #[.int .i64 u, .int .i64 v] (0, 0) _ rfl (show Box _ _ 39 #[.int .i64 u, .int .i64 v] from HK.out.set2 _ _) Tryz.underlying39 rfl Tryz.sizeVec) rfl ?_
        exact ⟨rfl, below_set2 hbel (Nat.le_succ _) _ _⟩
  · have hq := hd_pos hn
    generalize hd k = q at *
    rw [hq] at hn h4
    go_enter Tryz.func124, Tryz.ntmps124
    go_upto_region 1 with fail
    rw [← hW0]
    clear hW0
    go_wp2_with fail
    refine HI.out.mono ?_
    rintro e w1 ⟨rfl, hb1⟩
    have kr1 := kr.below hb1 kr.lt
    have kx1 := kx.below hb1 kx.lt
    have hT1 := below_then hT0 hb1
    clear HI kr kx x0 x1 hb1 hT0
    go_wp2_with fail
    go_loopw [1] (fun i wr => ∃ (j : Nat) (u v : Int), i = .int .i64 j ∧ j ≤ q ∧ (-1000 ≤ u ∧ u ≤ 1000) ∧ (-1000 ≤ v ∧ v ≤ 1000) ∧ Box wr w.heap.size 39 #[.int .i64 u, .int .i64 v] ∧ Box wr (w.heap.size + 1) 39 #[.int .i64 0, .int .i64 0] ∧ Hid (rotK j (u, v) = rotK q (x, y)) ∧ Below w.heap.size w wr) (fun i _ => (intOf i).toNat)
    case atStart => exact ⟨q, x, y, rfl, Nat.le_refl _, hv.1, hv.2, kx1, kr1, rfl, hT1⟩
    case round =>
      clear kx1 kr1 hT1
      obtain ⟨j, u, v, rfl, hj, hu, hvv, kx2, kr2, HR, hbel⟩ := hrel
      obtain ⟨c0, c1, c2, c3⟩ := kx2.facts
      obtain ⟨d0, d1, d2, d3⟩ := kr2.facts
      by_cases hz : 0 < j
      · obtain ⟨i, rfl⟩ : ∃ i, j = i + 1 := ⟨j - 1, by omega⟩
        have HR2 : Hid (rotK i (-v, u) = rotK q (x, y)) := HR.out
        have hi : (0 : Int) < (i : Int) + 1 := by omega
        clear HR
        go_wp2_with fail
        go_roundw
        case rel => exact ⟨i, -v, u, by go_num, by omega, by omega, by omega, kx2.set2 _ _, (kr2.setv (by omega) _ _).setv (by omega) _ _, HR2, below_set2 hbel (Nat.le_refl _) _ _⟩
        case measure => simp [intOf]
      · obtain rfl : j = 0 := by omega
        have HE : Hid ((u, v) = turnV (x, y) k) := by show _ = _; rw [HN.out]; exact HR.out
        have HK := hide kr2
        clear HR
        go_wp2_with fail
        rw [← HE.out]
        refine bodyPost_ret (results_cell_row rfl _ _ (w.heap.size + 1) _ #[.int .i64 u, .int .i64 v] (0, 0) _ rfl (show Box _ _ 39 #[.int .i64 u, .int .i64 v] from HK.out.set2 _ _) Tryz.underlying39 rfl Tryz.sizeVec) rfl ?_
        exact ⟨rfl, below_set2 hbel (Nat.le_succ _) _ _⟩
set_option maxRecDepth 100000 in
set_option maxHeartbeats 1600000 in
theorem spec_TurnPolygon (w : World) (B : Nat) (hB : B ≤ w.heap.size) (A : Option Addr) (n c : Nat) (l : List V2) (R : RdV w B A n l) (kk : Int) (hkk : (Lit.int .i64 kk).wf = true) :
    Calls Tryz.prog 80 #[.slice A n c, .int .i64 kk] w fun e w' => ∃ v, e = .returned v ∧ OwnV w' w.heap.size w'.heap.size 39 v (turnL l kk).length (turnL l kk) ∧ Below w.heap.size w w' := by
  obtain ⟨hn, hx, hl, hwf⟩ := R
  have ho0 : (w.alloc (.cells #[] 39)).ownsRow w.heap.size 39 2 (.slice (some ⟨w.heap.size, 0, none⟩) 0 0) 0 [] := World.ownsRow_made w #[] 0 (Nat.le_refl _) (by unfold maxLen; omega) rfl
  obtain ⟨f, hf⟩ : ∃ f, f = fun v : V2 => turnV v kk := ⟨_, rfl⟩
  go_enter Tryz.func80, Tryz.ntmps80
  go_wp2_with fail
  go_loopw [5, 11] (fun v i wr => ∃ k : Nat, k ≤ n ∧ i = .int .i64 k ∧ Hid (∀ j (h : j < l.length), j < k → vecV l[j] = true) ∧ wr.ownsRow w.heap.size 39 2 v k (fl ((l.take k).map f)) ∧ Below w.heap.size w wr) (fun _ i _ => n - (intOf i).toNat)
  case atStart => exact ⟨0, Nat.zero_le _, rfl, fun j _ h => absurd h (Nat.not_lt_zero _), by simpa [fl] using ho0, below_new _ _⟩
  case round =>
    clear ho0
    obtain ⟨k, hk, rfl, H, hown, hbel⟩ := hrel
    by_cases hlt : k < n
    · obtain ⟨ad, hA, hb1, hc1, hc2⟩ := (hx.below (hbel.mono hB)).vec (k := k) (by omega)
      have hkl : k < l.length := by omega
      obtain ⟨f1, f2⟩ := wfV_at hwf hkl
      have HV := hide (fun (W : World) => spec_IsValidVec W l[k].1 l[k].2 f1 f2)
      have HT := hide (fun (W : World) => spec_TurnVec W l[k].1 l[k].2 kk f1 f2 hkk)
      have hbs := hbel.size
      subst hA
      generalize hv : l[k] = v0 at *
      obtain ⟨x0, y0⟩ := v0
      obtain ⟨W0, hW0⟩ : ∃ W0, W0 = wr.alloc (.cells #[.int .i64 x0, .int .i64 y0] 39) := ⟨_, rfl⟩
      have ka : Box W0 wr.heap.size 39 #[.int .i64 x0, .int .i64 y0] := by rw [hW0]; exact Box.last _ _ _ rfl
      have hT : Below wr.heap.size wr W0 := by rw [hW0]; exact below_new _ _
      go_upto_region 5 with fail
      rw [← hW0]
      clear hW0 hc1 hc2
      obtain ⟨ya0, ya1⟩ := ka.cells2
      go_wp2_with fail
      refine (HV.out _).mono ?_
      rintro e w1 ⟨rfl, hb1⟩
      clear ya0 ya1 HV
      have kb := ka.below hb1 ka.lt
      have hT2 := hT.trans (hb1.mono hT.size)
      have hown2 := own_grown hown hT2
      have hbel2 := hbel.trans (hT2.mono hbs)
      clear hown hT hT2 hb1
      by_cases ev : vecB x0 y0 = true
      case neg =>
        have ev : vecB x0 y0 = false := by simpa using ev
        have HN : Hid (turnL l kk = []) := turnL_no (allV_no hkl (by rw [hv]; exact ev)) kk
        rw [ev]
        go_wp2_with fail
        go_ret
        exact ⟨_, rfl, by rw [HN.out]; exact OwnV.nil _ _ _ _, hbel2⟩
      rw [ev]
      obtain ⟨yb0, yb1⟩ := kb.cells2
      have hbs2 := hbel2.size
      have HM := hide (map_take_snoc f hkl)
      have HN : Hid (∀ j (h : j < l.length), j < k + 1 → vecV l[j] = true) := fun j h hj => by
        by_cases e : j = k
        · subst e; rw [hv]; exact ev
        · exact H.out j h (by omega)
      have HM2 : Hid (f l[k] = ((turnV (x0, y0) kk).1, (turnV (x0, y0) kk).2)) := by show _ = _; rw [hf, hv]
      generalize (turnV (x0, y0) kk).1 = x1 at *
      generalize (turnV (x0, y0) kk).2 = y1 at *
      clear H
      go_wp2_with fail
      refine (HT.out _).mono ?_
      rintro e w2 ⟨rfl, hb2⟩
      have hown3 := own_grown hown2 (hb2.mono (Nat.le_refl _))
      have hbel3 := hbel2.trans (hb2.mono hbs2)
      have hbs3 := hbel3.size
      clear HT yb0 yb1 hown2 hb2 kb ka
      go_wp2_with (at_builtin; refine wpList_append1 Tryz.sliceVec rfl _ _ rfl w2 w.heap.size _ _ _ hown3 rfl #[.int .i64 x1, .int .i64 y1] 1 rfl rfl (by simp [Value.oneCell']) (by omega) (by omega) (by omega) ?_; intro v' w3 hown4 hb3)
      go_roundw
      case rel => exact ⟨k + 1, by omega, by go_num, HN, by rw [HM.out, fl_append, HM2.out]; exact hown4, hbel3.trans hb3⟩
      case measure => simp [intOf]; omega
    · obtain rfl : k = n := by omega
      have HN : Hid (turnL l kk = (l.take k).map f) := by
        show _ = _
        have ha : allV l = true := List.all_eq_true.2 fun v hv => by obtain ⟨j, hj, rfl⟩ := List.getElem_of_mem hv; exact H.out j hj (by omega)
        rw [turnL_yes ha, List.take_of_length_le (by omega), hf]
        exact List.map_congr_left fun v hv => (turnV_yes (List.all_eq_true.1 ha v hv) kk).symm
      have hL : Hid ((turnL l kk).length = k) := by show _ = _; rw [HN.out, List.length_map, List.length_take]; omega
      clear hx H
      go_wp2_with fail
      go_ret
      exact ⟨_, rfl, by rw [hL.out, HN.out]; exact OwnV.of hown, hbel⟩
end Go.Proofs.YtocllmaikngoaaaGreatDoor
