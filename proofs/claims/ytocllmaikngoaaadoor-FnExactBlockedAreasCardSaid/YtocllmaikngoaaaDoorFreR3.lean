/-
  The reference's free placements: contracts: BlockedAreas.
-/
import Derived.Test.YtocllmaikngoaaaDoorFreR
import Derived.Test.YtocllmaikngoaaaDoorSB
import Derived.Test.YtocllmaikngoaaaDoorSumR
namespace Go.Proofs.YtocllmaikngoaaaDoor
open Go.RowKit
set_option linter.unusedVariables false
set_option maxRecDepth 100000 in
set_option maxHeartbeats 6400000 in
theorem spec_BlockedAreas (w : World) (B : Nat) (hB : B ≤ w.heap.size) {v0 v1 v2 v3 v4 v5 v6 : Value} {S : Scn} (h : SIn w B v0 v1 v2 v3 v4 v5 v6 S) (k : Int) (fk : (Lit.int .i64 k).wf = true) :
    Calls Tryd.prog 18 #[.agg #[v0, v1, v2, v3, v4, v5, v6], .int .i64 k] w fun e w' => ∃ v tt, e = .returned v ∧ OwnSS w' w.heap.size w'.heap.size 29 31 v (arsL S k).length tt ∧ cont tt = arsL S k ∧ Below w.heap.size w w' := by
  have h' := h
  obtain ⟨RA, rc, OA, oc, TA, tc, os, ⟨rfl, rfl, rfl, rfl, rfl, rfl, rfl⟩, hR, ⟨hO, hc⟩, hT, hwf⟩ := h
  clear hR hT hwf
  have HR := hide (fun (W : World) (hb : Below w.heap.size w W) => spec_RobotAt W B (Nat.le_trans hB hb.size) (h'.below (hb.mono hB)) k fk)
  obtain ⟨W0, hW0⟩ : ∃ W0, W0 = w.alloc (.cells #[.int .i64 S.lx, .int .i64 S.ly, .int .i64 S.hx, .int .i64 S.hy, .slice RA S.r.length rc, .slice OA S.o.length oc, .slice TA S.t.length tc] 34) := ⟨_, rfl⟩
  have hT0 : Below w.heap.size w W0 := by rw [hW0]; exact below_new _ _
  have k0 : Box W0 w.heap.size 34 #[.int .i64 S.lx, .int .i64 S.ly, .int .i64 S.hx, .int .i64 S.hy, .slice RA S.r.length rc, .slice OA S.o.length oc, .slice TA S.t.length tc] := by rw [hW0]; exact Box.last _ _ _ rfl
  have HNO : Hid (robL S k = [] → arsL S k = []) := fun h => arsL_no h
  have HIS : Hid (robL S k ≠ [] → arsL S k = S.o.map fun o => obsL (robL S k) o) := fun h => arsL_is h
  have hrl := robL_len S k
  have HRW := hide (robL_wf S k)
  generalize robL S k = rl at *
  generalize arsL S k = al at *
  clear h' fk
  obtain ⟨hol, hx, hon, hs⟩ := hO
  obtain ⟨on, hone⟩ : ∃ on, on = S.o.length := ⟨_, rfl⟩
  rw [← hone] at hol hon
  have HON := hide hone
  go_enter Tryd.func18, Tryd.ntmps18
  go_upto_region 1 with fail
  rw [← hW0]
  clear hW0
  have hown0 : (W0.alloc (.cells #[] 29)).ownsRow w.heap.size 29 1 (.slice (some ⟨W0.heap.size, 0, none⟩) 0 0) 0 [] := World.ownsRow_made W0 #[] 0 hT0.size (by unfold maxLen; omega) rfl
  have hb0 : Below W0.heap.size W0 (W0.alloc (.cells #[] 29)) := below_new _ _
  obtain ⟨W1, hW1⟩ : ∃ W1, W1 = W0.alloc (.cells #[] 29) := ⟨_, rfl⟩
  have hq1 : W0.heap.size < W1.heap.size := by rw [hW1, alloc_size]; omega
  rw [← hW1] at hown0 hb0
  have k0 := k0.below hb0 k0.lt
  have hT0 := below_then hT0 hb0
  clear hb0
  go_upto_region 2 with fail
  rw [← hW1]
  clear hW1
  obtain ⟨y0, y1, y2, y3, y4, y5, y6⟩ := k0.cells7
  go_wp2_with fail
  refine (HR.out _ hT0).mono ?_
  rintro e w1 ⟨v, rfl, o, hb1, hnil⟩
  clear y0 y1 y2 y3 y4 y5 y6 HR
  have k0 := k0.below hb1 k0.lt
  have hT1 := below_then hT0 hb1
  have hown1 := own_grown hown0 hb1
  clear hown0
  have hs1 := hT1.size
  have orob := o.wider (lo' := w.heap.size) (hi' := w1.heap.size) hT0.size (Nat.le_refl _)
  clear o hb1 hT0
  by_cases e0 : rl = []
  · obtain rfl : v = .slice none 0 0 := by
      rcases hnil with h | h
      · exact h
      · exact absurd e0 h
    have HN := hide (HNO.out e0)
    clear HNO HIS
    go_wp2_with fail
    go_ret
    exact ⟨_, [], rfl, by rw [HN.out]; exact OwnSS.nil _ _ _ _ _, by rw [HN.out]; rfl, hT1⟩
  have HL := hide (HIS.out e0)
  obtain ⟨rn, hrn⟩ : ∃ rn, rn = rl.length := ⟨_, rfl⟩
  have hr1 : 0 < rn := by rw [hrn]; exact List.length_pos_iff.2 e0
  rw [← hrn] at orob hrl
  have HRN := hide hrn
  obtain ⟨rg, rc', rfl⟩ : ∃ g c, v = .slice (some ⟨g, 0, none⟩) rn c := by
    rcases own_form orob.1 with ⟨_, h0, _⟩ | ⟨g, c, hv, _⟩
    · omega
    · exact ⟨g, c, hv⟩
  clear hnil HNO HIS e0 hrn hone
  have HLL : Hid (∀ (j : Nat) (hj : j < os.length), al.take (j + 1) = al.take j ++ [obsL rl os[j].vs]) := fun j hj => by
    rw [HL.out, ← hc]
    rw [List.take_succ_eq_append_getElem (by rw [List.length_map, cont_len]; exact hj), List.getElem_map, cont_at hj]
  have HLN : Hid (al.length = on) := by show _ = _; rw [HL.out, List.length_map]; exact HON.out.symm
  clear HL hc
  obtain ⟨y0, y1, y2, y3, y4, y5, y6⟩ := k0.cells7
  rw [← HON.out] at y5
  clear k0
  go_wp2_with fail
  clear y0 y1 y2 y3 y4 y5 y6
  go_loopw [5, 19] (fun v i wr => ∃ (j : Nat) (tt : List Sl), j ≤ on ∧ i = .int .i64 j ∧ tt.length = j ∧ cont tt = al.take j ∧ wr.ownsRow w.heap.size 29 1 v j (slv tt) ∧ ElsV wr w.heap.size wr.heap.size 31 tt ∧ OwnV wr w.heap.size w1.heap.size 31 (.slice (some ⟨rg, 0, none⟩) rn rc') rn rl ∧ Below w.heap.size w wr ∧ w1.heap.size ≤ wr.heap.size) (fun _ i _ => on - (intOf i).toNat)
  case atStart => exact ⟨0, [], Nat.zero_le _, rfl, rfl, by simp [cont], hown1, ElsV.nil _ _ _ _, orob.wider (Nat.le_refl _) (by omega), hT1, Nat.le_refl _⟩
  case round =>
    clear hown1 orob hT1
    obtain ⟨j, tt, hj, rfl, htl, hct, hown, hels, orob, hbel, hws⟩ := hrel
    obtain ⟨VA, vc, rfl⟩ := own_shape hown
    by_cases hlt : j < on
    · have hjl : j < os.length := by omega
      obtain ⟨ad, hA, hb1, hc1⟩ := (hx.below (hbel.mono hB)).sl hjl
      have RS := (hs _ (List.getElem_mem hjl)).below (hbel.mono hB)
      have hbs := hbel.size
      have HC := hide (HLL.out j hjl)
      have HOB := hide (spec_ObstacleFor wr wr.heap.size (Nat.le_refl _) (some ⟨rg, 0, none⟩) rn rc' rl ⟨HRN.out.symm, orob.rd, by omega, HRW.out⟩ os[j].a os[j].vs.length os[j].c os[j].vs (RS.wider (by omega)))
      generalize os[j].vs = vs at *
      generalize os[j].a = A1 at *
      generalize os[j].c = c1 at *
      generalize obsL rl vs = ol at *
      generalize vs.length = vn at *
      have HPR : Hid (∀ (w2 w5 : World) (A2 : Option Addr) (c2 : Nat) (v5 : Value), OwnV w2 wr.heap.size w2.heap.size 31 (.slice A2 ol.length c2) ol.length ol → Below wr.heap.size wr w2 → w2.ownsRow w.heap.size 29 1 (.slice VA j vc) j (slv tt) → w5.ownsRow w.heap.size 29 1 v5 (j + 1) (slv tt ++ (#[Value.slice A2 ol.length c2] : Array Value).toList) → Below w.heap.size w2 w5 → w2.grownBy w5 (Value.slice VA j vc).ownBlock →
          w5.ownsRow w.heap.size 29 1 v5 (j + 1) (slv (tt ++ [⟨A2, c2, ol⟩])) ∧ ElsV w5 w.heap.size w5.heap.size 31 (tt ++ [⟨A2, c2, ol⟩]) ∧ OwnV w5 w.heap.size w1.heap.size 31 (.slice (some ⟨rg, 0, none⟩) rn rc') rn rl ∧ Below w.heap.size w w5 ∧ w1.heap.size ≤ w5.heap.size) := by
        intro w2 w5 A2 c2 v5 o2 hb2 h2 h5 hb5 hg5
        have z2 := hb2.size
        have z5 := hb5.size
        have e5 : slv (tt ++ [⟨A2, c2, ol⟩]) = slv tt ++ (#[Value.slice A2 ol.length c2] : Array Value).toList := by rw [slv_append]; rfl
        have els2 := (hels.below hb2 (Nat.le_refl _)).snoc (s := ⟨A2, c2, ol⟩) (hi' := w2.heap.size) o2 hbs z2
        have rob2 := orob.below hb2 hws
        refine ⟨by rw [e5]; exact h5, (els2.grown hg5 h2 Tryd.types_ne).wider (Nat.le_refl _) z5, ?_, (hbel.trans (hb2.mono hbs)).trans hb5, by omega⟩
        exact rob2.kept fun g hg => hg5.block g (rob2.1.lt g hg).2 fun e => own_types h2 rob2.1 Tryd.types_ne e.symm hg rfl
      have HGR : Hid (∀ w2, Below wr.heap.size wr w2 → w2.ownsRow w.heap.size 29 1 (.slice VA j vc) j (slv tt)) := fun w2 hb2 => own_grown hown hb2
      clear hown hels hx RS hs orob hbel
      subst hA
      go_wp2_with fail
      refine HOB.out.mono ?_
      rintro e w2 ⟨v2, rfl, o2, hb2⟩
      obtain ⟨A2, c2, rfl⟩ := o2.form
      have hown2 := HGR.out w2 hb2
      have hz2 := hb2.size
      have HP := hide (fun v5 w5 h5 hb5 hg5 => HPR.out w2 w5 A2 c2 v5 o2 hb2 hown2 h5 hb5 hg5)
      clear HPR HGR HOB o2 hb2 hc1
      go_wp2_with (at_builtin; refine wpList_append1K Tryd.sliceVecS rfl _ _ rfl w2 w.heap.size _ _ _ hown2 rfl #[.slice A2 ol.length c2] 1 rfl rfl (by simp [Value.oneCell']) (by omega) (by omega) (by omega) ?_; intro v5 w5 hown5 hb5 hg5; have HEE := hide (HP.out v5 w5 hown5 hb5 hg5))
      go_roundw
      case rel => (first | exact ⟨_, _, .int .i64 ((j + 1 : Nat) : Int), ⟨j + 1, by omega, rfl, tt ++ [⟨A2, c2, ol⟩], by simp [htl], by rw [HC.out, ← hct]; simp [cont], HEE.out.1, HEE.out.2.1, HEE.out.2.2.1, HEE.out.2.2.2.1, HEE.out.2.2.2.2⟩, rfl, rfl, by go_num⟩ | exact ⟨j + 1, tt ++ [⟨A2, c2, ol⟩], by omega, by go_num, by simp [htl], by rw [HC.out, ← hct]; simp [cont], HEE.out.1, HEE.out.2.1, HEE.out.2.2.1, HEE.out.2.2.2.1, HEE.out.2.2.2.2⟩ | exact ⟨j + 1, by omega, by go_num, tt ++ [⟨A2, c2, ol⟩], by simp [htl], by rw [HC.out, ← hct]; simp [cont], HEE.out.1, HEE.out.2.1, HEE.out.2.2.1, HEE.out.2.2.2.1, HEE.out.2.2.2.2⟩)
      case measure => simp [intOf]; omega
    · obtain rfl : j = on := by omega
      have e2 : cont tt = al := by rw [hct, List.take_of_length_le (by rw [HLN.out]; omega)]
      have HO := hide (OwnSS.mk' (OwnR.of_row hown (Nat.le_refl _)) hels Tryd.types_ne)
      clear hown hels hx hs orob
      go_wp2_with fail
      go_ret
      exact ⟨_, tt, rfl, by rw [HLN.out]; exact HO.out, e2, hbel⟩
end Go.Proofs.YtocllmaikngoaaaDoor
