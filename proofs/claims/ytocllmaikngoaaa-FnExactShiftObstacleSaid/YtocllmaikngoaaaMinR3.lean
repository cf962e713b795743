/-
  The reference's sums of polygons: contracts: MovePolygon of valid corners, MoveToOrigin.
-/
import Derived.Test.YtocllmaikngoaaaSP
import Derived.Test.YtocllmaikngoaaaPolI
import Derived.Test.YtocllmaikngoaaaLB
import Derived.Test.YtocllmaikngoaaaPolI3
import Derived.Test.YtocllmaikngoaaaPolR
namespace Go.Proofs.Ytocllmaikngoaaa
open Go.RowKit
set_option linter.unusedVariables false
set_option maxRecDepth 100000 in
set_option maxHeartbeats 3200000 in
theorem spec_MovePolygon (w : World) (B : Nat) (hB : B ≤ w.heap.size) (A : Option Addr) (n c : Nat) (l : List V2) (R : RdV w B A n l) (hV : allV l = true) (x y : Int) (hv : vecB x y = true) :
    Calls Try.prog 48 #[.slice A n c, .agg #[.int .i64 x, .int .i64 y]] w fun e w' => ∃ r, e = .returned r ∧ OwnV w' w.heap.size w'.heap.size 29 r (mvL l (x, y)).length (mvL l (x, y)) ∧ Below w.heap.size w w' := by
  obtain ⟨hn, hx, hl, hwf⟩ := R
  have hvb := vecB_bounds hv
  obtain ⟨W0, hW0⟩ : ∃ W0, W0 = (w.alloc (.cells #[.int .i64 x, .int .i64 y] 29)).alloc (.cells #[] 29) := ⟨_, rfl⟩
  have hT0 : Below w.heap.size w W0 := by rw [hW0]; exact below_alloc (below_new _ _) _
  have kv : Box W0 w.heap.size 29 #[.int .i64 x, .int .i64 y] := by rw [hW0]; exact (Box.last _ _ _ rfl).alloc _
  obtain ⟨g0, hg0⟩ : ∃ g0, g0 = w.heap.size + 1 := ⟨_, rfl⟩
  have ho0 : W0.ownsRow g0 29 2 (.slice (some ⟨g0, 0, none⟩) 0 0) 0 [] := by
    have h := World.ownsRow_made (w.alloc (.cells #[.int .i64 x, .int .i64 y] 29)) (e := 29) (size := 2) #[] 0 (Nat.le_refl _) (by unfold maxLen; omega) rfl
    rw [alloc_size] at h
    rw [hW0, hg0]; exact h
  have HI := hide (spec_IsValidVec W0 x y (WalkArith.wf_i64 ⟨by omega, by omega⟩) (WalkArith.wf_i64 ⟨by omega, by omega⟩))
  rw [hv] at HI
  obtain ⟨v0, v1⟩ := kv.cells2
  go_enter Try.func48, Try.ntmps48
  go_upto_region 2 with fail
  rw [← hW0, ← hg0]
  have hga : w.heap.size < g0 := by omega
  have hgb : g0 ≤ w.heap.size + 1 := by omega
  clear hW0 hg0
  go_wp2_with fail
  refine HI.out.mono ?_
  rintro e w1 ⟨rfl, hb1⟩
  have kv1 := kv.below hb1 kv.lt
  have ho1 := own_grown ho0 hb1
  have hT1 := below_then hT0 hb1
  have hgw : g0 ≤ w1.heap.size := by have h1 := hT1.size; have h2 := kv.lt; have := hb1.size; have h3 : w.heap.size + 1 ≤ W0.heap.size := h2; omega
  clear HI v0 v1 kv ho0 hb1 hT0
  go_wp2_with fail
  go_loopw [5, 14] (fun r i wr => ∃ k : Nat, k ≤ n ∧ i = .int .i64 k ∧ Hid (∀ j (h : j < l.length), j < k → vecV (addV l[j] (x, y)) = true) ∧ wr.ownsRow g0 29 2 r k (fl ((l.take k).map fun p => addV p (x, y))) ∧ Box wr w.heap.size 29 #[.int .i64 x, .int .i64 y] ∧ Below w.heap.size w wr ∧ g0 ≤ wr.heap.size) (fun _ i _ => n - (intOf i).toNat)
  case atStart => exact ⟨0, Nat.zero_le _, rfl, fun j _ h => absurd h (Nat.not_lt_zero _), by simpa [fl] using ho1, kv1, hT1, hgw⟩
  case round =>
    clear ho1 kv1 hT1 hgw
    obtain ⟨k, hk, rfl, H, hown, kv1, hbel, hgw⟩ := hrel
    by_cases hlt : k < n
    · obtain ⟨ad, hA, hb1, hc1, hc2⟩ := (hx.below (hbel.mono hB)).vec (k := k) (by omega)
      have hkl : k < l.length := by omega
      have hpv := List.all_eq_true.1 hV l[k] (List.getElem_mem hkl)
      have hpb := vecB_bounds hpv
      have HE1 := hide (fun (W : World) => spec_IsValidVec W l[k].1 l[k].2 (WalkArith.wf_i64 ⟨by omega, by omega⟩) (WalkArith.wf_i64 ⟨by omega, by omega⟩))
      have HE2 := hide (fun (W : World) => spec_IsValidVec W (l[k].1 + x) (l[k].2 + y) (WalkArith.wf_i64 ⟨by omega, by omega⟩) (WalkArith.wf_i64 ⟨by omega, by omega⟩))
      unfold vecV at hpv
      rw [hpv] at HE1
      have HM := hide (map_take_snoc (fun p => addV p (x, y)) hkl)
      have HM2 : Hid (addV l[k] (x, y) = (l[k].1 + x, l[k].2 + y)) := rfl
      have HVV : Hid (vecV (addV l[k] (x, y)) = vecB (l[k].1 + x) (l[k].2 + y)) := rfl
      have hbs := hbel.size
      generalize l[k].1 = x0 at *
      generalize l[k].2 = y0 at *
      clear hpv
      obtain ⟨W0, hW0⟩ : ∃ W0, W0 = wr.alloc (.cells #[.int .i64 x0, .int .i64 y0] 29) := ⟨_, rfl⟩
      have ka : Box W0 wr.heap.size 29 #[.int .i64 x0, .int .i64 y0] := by rw [hW0]; exact Box.last _ _ _ rfl
      have kv2 : Box W0 w.heap.size 29 #[.int .i64 x, .int .i64 y] := by rw [hW0]; exact kv1.alloc _
      have hT : Below wr.heap.size wr W0 := by rw [hW0]; exact below_new _ _
      clear kv1
      subst hA
      go_upto_region 7 with fail
      rw [← hW0]
      clear hW0 hc1 hc2
      obtain ⟨ya0, ya1⟩ := ka.cells2
      go_wp2_with fail
      refine (HE1.out _).mono ?_
      rintro e w1 ⟨rfl, hb1⟩
      clear ya0 ya1 HE1
      have ka1 := ka.below hb1 ka.lt
      have kv3 := kv2.below hb1 kv2.lt
      have hT2 := below_then hT hb1
      obtain ⟨ya0, ya1⟩ := ka1.cells2
      obtain ⟨yv0, yv1⟩ := kv3.cells2
      clear ka kv2 hT hb1
      go_wp2_with fail
      refine (HE2.out _).mono ?_
      rintro e w2 ⟨rfl, hb2⟩
      clear ya0 ya1 yv0 yv1 HE2
      have ka2 := ka1.below hb2 ka1.lt
      have kv4 := kv3.below hb2 kv3.lt
      have hT3 := below_then hT2 hb2
      have hown2 := own_grown hown hT3
      have hbel2 := hbel.trans (hT3.mono hbs)
      have hbs2 := hbel2.size
      have hgw2 := Nat.le_trans hgw hT3.size
      clear ka1 kv3 hT2 hb2 hown hbel hgw hT3
      by_cases ev : vecB (x0 + x) (y0 + y) = true
      case neg =>
        have ev : vecB (x0 + x) (y0 + y) = false := by simpa using ev
        have HN : Hid (mvL l (x, y) = []) := by
          show _ = _
          unfold mvL
          rw [if_neg]
          intro h
          have := List.all_eq_true.1 h.2 _ (List.mem_map_of_mem (List.getElem_mem hkl))
          rw [HVV.out, ev] at this
          cases this
        rw [ev]
        clear ka2 kv4
        go_wp2_with fail
        go_ret
        exact ⟨_, rfl, by rw [HN.out]; exact OwnV.nil _ _ _ _, hbel2⟩
      rw [ev]
      have HKV := hide kv4
      have hgvl := kv4.lt
      obtain ⟨ya0, ya1⟩ := ka2.cells2
      obtain ⟨yv0, yv1⟩ := kv4.cells2
      have HN : Hid (∀ j (h : j < l.length), j < k + 1 → vecV (addV l[j] (x, y)) = true) := fun j h hj => by
        by_cases e : j = k
        · subst e; rw [HVV.out]; exact ev
        · exact H.out j h (by omega)
      clear H ka2 kv4 HVV ev
      go_wp2_with (at_builtin; refine wpList_append1 Try.sliceVec rfl _ _ rfl w2 g0 _ _ _ hown2 rfl #[.int .i64 (x0 + x), .int .i64 (y0 + y)] 1 rfl rfl (by simp [Value.oneCell']) (by omega) (by omega) (by omega) ?_; intro v' w3 hown3 hb3)
      go_roundw
      case rel => exact ⟨k + 1, by omega, by go_num, HN, by rw [HM.out, fl_append, HM2.out]; exact hown3, HKV.out.below hb3 (by omega), hbel2.trans (hb3.mono (by omega)), Nat.le_trans hgw2 (by have := hb3.size; omega)⟩
      case measure => simp [intOf]; omega
    · obtain rfl : k = n := by omega
      have HN : Hid (mvL l (x, y) = (l.take k).map fun p => addV p (x, y)) := by
        show _ = _
        unfold mvL
        rw [if_pos ⟨hv, List.all_eq_true.2 fun u hu => by obtain ⟨p, hp, rfl⟩ := List.mem_map.1 hu; obtain ⟨j, hj, rfl⟩ := List.getElem_of_mem hp; exact H.out j hj (by omega)⟩, List.take_of_length_le (by omega)]
      have hL : Hid ((mvL l (x, y)).length = k) := by show _ = _; rw [HN.out, List.length_map, List.length_take]; omega
      have o : OwnV wr w.heap.size wr.heap.size 29 _ k _ := (OwnV.of_row hown (Nat.le_refl _)).wider (by omega) (Nat.le_refl _)
      clear hx H kv1
      go_wp2_with fail
      go_ret
      exact ⟨_, rfl, by rw [hL.out, HN.out]; exact o, hbel⟩
end Go.Proofs.Ytocllmaikngoaaa
