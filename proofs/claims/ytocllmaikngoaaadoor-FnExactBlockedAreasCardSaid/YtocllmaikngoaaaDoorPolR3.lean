/-
  The reference's polygons: contracts: NegatePolygon.
-/
import Derived.Test.YtocllmaikngoaaaDoorHM
import Derived.Test.YtocllmaikngoaaaDoorPtR
namespace Go.Proofs.YtocllmaikngoaaaDoor
open Go.RowKit
set_option linter.unusedVariables false
set_option maxRecDepth 100000 in
set_option maxHeartbeats 1600000 in
theorem spec_NegatePolygon (w : World) (B : Nat) (hB : B ≤ w.heap.size) (A : Option Addr) (n c : Nat) (l : List V2) (R : RdV w B A n l) :
    Calls Tryd.prog 57 #[.slice A n c] w fun e w' => ∃ v, e = .returned v ∧ OwnV w' w.heap.size w'.heap.size 31 v (negL l).length (negL l) ∧ Below w.heap.size w w' := by
  obtain ⟨hn, hx, hl, hwf⟩ := R
  have ho0 : (w.alloc (.cells #[] 31)).ownsRow w.heap.size 31 2 (.slice (some ⟨w.heap.size, 0, none⟩) 0 0) 0 [] := World.ownsRow_made w #[] 0 (Nat.le_refl _) (by unfold maxLen; omega) rfl
  go_enter Tryd.func57, Tryd.ntmps57
  go_wp2_with fail
  go_loopw [3, 9] (fun v i wr => ∃ k : Nat, k ≤ n ∧ i = .int .i64 k ∧ Hid (∀ j (h : j < l.length), j < k → vecV l[j] = true) ∧ wr.ownsRow w.heap.size 31 2 v k (fl ((l.take k).map ng)) ∧ Below w.heap.size w wr) (fun _ i _ => n - (intOf i).toNat)
  case atStart => exact ⟨0, Nat.zero_le _, rfl, fun j _ h => absurd h (Nat.not_lt_zero _), by simpa [fl] using ho0, below_new _ _⟩
  case round =>
    clear ho0
    obtain ⟨k, hk, rfl, H, hown, hbel⟩ := hrel
    by_cases hlt : k < n
    · obtain ⟨ad, hA, hb1, hc1, hc2⟩ := (hx.below (hbel.mono hB)).vec (k := k) (by omega)
      have hkl : k < l.length := by omega
      obtain ⟨f1, f2⟩ := wfV_at hwf hkl
      have HV := hide (fun (W : World) => spec_IsValidVec W l[k].1 l[k].2 f1 f2)
      have hg1 := bounds_i64 f1
      have hg2 := bounds_i64 f2
      have hbs := hbel.size
      subst hA
      generalize hv : l[k] = v0 at *
      obtain ⟨x0, y0⟩ := v0
      obtain ⟨W0, hW0⟩ : ∃ W0, W0 = wr.alloc (.cells #[.int .i64 x0, .int .i64 y0] 31) := ⟨_, rfl⟩
      have ka : Box W0 wr.heap.size 31 #[.int .i64 x0, .int .i64 y0] := by rw [hW0]; exact Box.last _ _ _ rfl
      have hT : Below wr.heap.size wr W0 := by rw [hW0]; exact below_new _ _
      go_upto_region 5 with fail
      rw [← hW0]
      clear hW0 hc1 hc2
      obtain ⟨ya0, ya1⟩ := ka.cells2
      go_wp2_with fail
      refine (HV.out _).mono ?_
      rintro e w1 ⟨rfl, hb1⟩
      clear ya0 ya1 HV
      have kb := ka.below hb1 ka.lt
      have hT2 := hT.trans (hb1.mono hT.size)
      have hown2 := own_grown hown hT2
      have hbel2 := hbel.trans (hT2.mono hbs)
      clear hown hT hT2 hb1
      by_cases ev : vecB x0 y0 = true
      case neg =>
        have ev : vecB x0 y0 = false := by simpa using ev
        have HN : Hid (negL l = []) := by
          show _ = _
          unfold negL
          rw [allV_no hkl (by rw [hv]; exact ev)]; rfl
        rw [ev]
        go_wp2_with fail
        go_ret
        exact ⟨_, rfl, by rw [HN.out]; exact OwnV.nil _ _ _ _, hbel2⟩
      have hg := vecB_bounds ev
      rw [ev]
      obtain ⟨yb0, yb1⟩ := kb.cells2
      have hbs2 := hbel2.size
      have HM := hide (map_take_snoc ng hkl)
      have HN : Hid (∀ j (h : j < l.length), j < k + 1 → vecV l[j] = true) := fun j h hj => by
        by_cases e : j = k
        · subst e; rw [hv]; exact ev
        · exact H.out j h (by omega)
      clear H
      go_wp2_with (at_builtin; refine wpList_append1 Tryd.sliceVec rfl _ _ rfl w1 w.heap.size _ _ _ hown2 rfl #[.int .i64 (-x0), .int .i64 (-y0)] 1 rfl rfl (by simp [Value.oneCell']) (by omega) (by omega) (by omega) ?_; intro v' w2 hown3 hb2)
      go_roundw
      case rel => exact ⟨k + 1, by omega, by go_num, HN, by rw [HM.out, fl_append, hv]; exact hown3, hbel2.trans hb2⟩
      case measure => simp [intOf]; omega
    · obtain rfl : k = n := by omega
      have HN : Hid (negL l = (l.take k).map ng) := by
        show _ = _
        unfold negL
        rw [if_pos (show allV l = true from List.all_eq_true.2 fun v hv => by obtain ⟨j, hj, rfl⟩ := List.getElem_of_mem hv; exact H.out j hj (by omega)), List.take_of_length_le (by omega)]
      have hL : Hid ((negL l).length = k) := by show _ = _; rw [HN.out, List.length_map, List.length_take]; omega
      clear hx H
      go_wp2_with fail
      go_ret
      exact ⟨_, rfl, by rw [hL.out, HN.out]; exact OwnV.of hown, hbel⟩
end Go.Proofs.YtocllmaikngoaaaDoor
