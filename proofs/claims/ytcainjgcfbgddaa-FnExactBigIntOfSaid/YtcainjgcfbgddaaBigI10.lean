/-
  The program's big integers: contracts (10): FloorDiv.
-/
import Derived.Test.YtcainjgcfbgddaaBigI3
import Derived.Test.YtcainjgcfbgddaaBigF
import Derived.Test.YtcainjgcfbgddaaNatI8
namespace Go.Proofs.Ytcainjgcfbgddaa
open Go.RowKit
set_option linter.unusedVariables false

theorem limbs_one : limbs (Int.toNat 1) = [1] := by
  show limbs 1 = [1]
  rw [limbs_pos (by omega)]
  show [_] ++ limbs 0 = _
  rw [limbs_zero]; rfl
set_option maxHeartbeats 3200000 in
theorem impl_BigIntFloorDiv (w : World) (B : Nat) (hB : B ≤ w.heap.size) (s : Bool) (A : Option Addr) (n c : Nat) (xs : List Int) (Rx : RdI w B A n xs) (A' : Option Addr) (m c' : Nat) (ys : List Int) (Ry : RdI w B A' m ys) :
    Calls Try.prog 38 #[.agg #[.bool s, .slice A n c], .slice A' m c'] w fun e w' => ∃ v1 v2, e = .returned (.tuple #[.agg #[.bool (floorZ s xs ys).1, v1], v2]) ∧ Two w w' 3 v1 (floorZ s xs ys).2 v2 (restZ s xs ys) ∧ Below w.heap.size w w' := by
  obtain ⟨W0, hW0⟩ : ∃ W0, W0 = (w.alloc (.cells #[.bool s, .slice A n c] 27)).alloc (.cells #[.bool false, .slice none 0 0] 27) := ⟨_, rfl⟩
  have hb0 : Below w.heap.size w W0 := by rw [hW0]; exact below_alloc (below_new _ _) _
  have k0 : Box W0 (w.heap.size + 1) 27 #[.bool false, .slice none 0 0] := by rw [hW0]; exact Box.last _ _ _ (alloc_size _ _).symm
  have kx : Box W0 w.heap.size 27 #[.bool s, .slice A n c] := by rw [hW0]; exact (Box.last _ _ _ rfl).alloc _
  have hs0 : W0.heap.size = w.heap.size + 2 := by rw [hW0, alloc_size, alloc_size]
  have x0 := kx.cell 0
  have x1 := kx.cell 1
  simp only [List.getElem?_toArray, List.getElem?_cons_zero, List.getElem?_cons_succ] at x0 x1
  have HNO := hide (floor_no (s := s) (xs := xs) (ys := ys))
  have HOKP := hide (floor_pos (s := s) (xs := xs) (ys := ys))
  have HOKN := hide (fun (h : s = true) => by subst h; exact floor_neg (xs := xs) (ys := ys) : s = true → bigB s xs = true → natB ys = true → ys.isEmpty = false → remL xs ys ≠ [] → (s && !(addL (quoL xs ys) [1]).isEmpty, addL (quoL xs ys) [1]) = floorZ s xs ys ∧ subL ys (remL xs ys) = restZ s xs ys)
  generalize floorZ s xs ys = Z at HNO HOKP HOKN ⊢
  generalize restZ s xs ys = V at HNO HOKP HOKN ⊢
  have hym := Ry.1
  have hml := Ry.2.2.1
  go_enter Try.func38, Try.ntmps38
  go_wp2_with fail
  rw [← hW0]
  clear hW0 kx
  refine (impl_signedOf _ s A n c).mono ?_
  rintro e w1 ⟨rfl, hb1⟩
  have hb1' := below_then hb0 hb1
  have k1 := Box.last w1 52 #[.slice A n c, .bool s] rfl
  have r1 := (k0.below hb1 (by omega)).alloc (.cells #[.slice A n c, .bool s] 52)
  have hs1 := hb1.size
  have hbW := below_alloc hb1' (.cells #[.slice A n c, .bool s] 52)
  have hsW := hbW.size
  have RW := Rx.below (hbW.mono hB)
  clear x0 x1 k0
  go_wp2_with fail
  refine (impl_isValid _ B (by omega) s A n c xs RW).mono ?_
  rintro e w2 ⟨rfl, hb2⟩
  have k2 := k1.below hb2 k1.lt
  have r2 := r1.below hb2 r1.lt
  have hs2x := hb2.size
  rw [alloc_size] at hs2x
  have hb2' := below_then hbW hb2
  have hs2 := hb2'.size
  have R2x := Rx.below (hb2'.mono hB)
  have R2y := Ry.below (hb2'.mono hB)
  have d0 := k2.cell 0
  have d1 := k2.cell 1
  have z0 := r2.frozen 0
  have z1 := r2.frozen 1
  have t0 := r2.cell 0
  have t1 := r2.cell 1
  simp only [List.getElem?_toArray, List.getElem?_cons_zero, List.getElem?_cons_succ] at d0 d1 t0 t1
  clear hb0 hb1 hb1' k1 hbW hsW RW hb2 r1
  by_cases hv : bigB s xs = true
  · rw [hv]
    go_wp2_with fail
    refine (impl_NatOk w2 B (by omega) A' m c' ys R2y).mono ?_
    rintro e w3 ⟨rfl, rfl⟩
    by_cases hy : natB ys = true
    · rw [hy]
      by_cases hm0 : m = 0
      · have hye : ys.isEmpty = true := by rw [isEmpty_len hym, hm0]; rfl
        subst hm0
        have HO := hide (ret_big0 (x := .bool false) (v := .slice none 0 0) r2 hb2' (show w.heap.size ≤ w.heap.size + 1 by omega))
        obtain ⟨hz1, hz2⟩ := HNO.out (.inr (.inr hye))
        clear HNO HOKP HOKN r2 hb2' Rx Ry
        go_wp2_with fail
        refine bodyPost_ret (results_cell_tmp rfl _ _ (w.heap.size + 1) _ #[.bool false, .slice none 0 0] (0, 0) _ rfl HO.out.1 Try.underlying27 rfl Try.sizeBig) rfl ?_
        exact ⟨_, _, ret_vv (by rw [hz1]; rfl) rfl, by rw [hz1, hz2]; exact ⟨_, _, _, _, Own.nil _ w.heap.size w.heap.size _, Own.nil _ w.heap.size w.heap.size _, Nat.le_refl _, Nat.le_refl _, HO.out.2.size, HO.out.2.size, .inl (Nat.le_refl _)⟩, HO.out.2⟩
      · have hye : ys.isEmpty = false := by rw [isEmpty_len hym]; simp; omega
        have hmz : ((m : Int) == 0) = false := by simp; omega
        have hym' := hide hym
        clear hym
        have hq60 := quoL_60 (bigB_nat hv) hy
        have hr60 := remL_60 (bigB_nat hv) hy
        go_wp2_with fail
        refine (impl_NatDiv w2 B (by omega) A n c xs R2x A' m c' ys R2y).mono ?_
        rintro e w4 ⟨v1, v2, rfl, ⟨l1, h1, l2, h2, o1, o2, hl1, hl2, hh1, hh2, hdis⟩, hb4⟩
        obtain ⟨A1, c1, rfl⟩ := o1.form
        obtain ⟨A2, c2, rfl⟩ := o2.form
        have k4 := k2.below hb4 k2.lt
        have r4 := r2.below hb4 r2.lt
        have hs4 := hb4.size
        have hb4' := below_then hb2' hb4
        have R4y := Ry.below (hb4'.mono hB)
        clear d0 d1 z0 z1 t0 t1 k2 r2 hb2' hb4 R2x R2y
        have d0 := k4.cell 0
        have d1 := k4.cell 1
        simp only [List.getElem?_toArray, List.getElem?_cons_zero, List.getElem?_cons_succ] at d0 d1
        by_cases hneg : s = true ∧ remL xs ys ≠ []
        · obtain ⟨hs, hr⟩ := hneg
          have hpair := HOKN.out hs hv hy hye hr
          clear HNO HOKP HOKN
          subst hs
          have hrl : 0 < (remL xs ys).length := List.length_pos_iff.2 hr
          have b1 := quoL_limbs xs ys (bigB_nat hv)
          have b2 := remL_limbs xs ys
          have HP := hide hpair
          clear hpair hv hy hr Rx Ry
          generalize quoL xs ys = Q at *
          generalize remL xs ys = V2 at *
          go_wp2_with fail
          refine (impl_NatOf w4 w4.heap.size (Nat.le_refl _) 1 (by decide)).mono ?_
          rintro e w5 ⟨v5, rfl, o5, hb5⟩
          rw [limbs_one] at o5
          obtain ⟨A5, c5, rfl⟩ := o5.form
          have hs5 := hb5.size
          have k5 := k4.below hb5 k4.lt
          have r5 := r4.below hb5 r4.lt
          have hb5' := below_then hb4' hb5
          have R5y := R4y.below (hb5.mono (by omega))
          have p1 := o1.below hb5 hh1
          have p2 := o2.below hb5 hh2
          clear d0 d1 k4 r4 hb4' hb5 R4y o1 o2
          go_wp2_with fail
          refine (impl_NatAdd w5 w5.heap.size (Nat.le_refl _) A1 _ c1 _ (RdI.of_own p1 (by omega) b1) A5 _ c5 _ (RdI.of_own o5 (by simp) (fun d hd => by simp at hd; omega))).mono ?_
          rintro e w6 ⟨v6, rfl, o6, hb6⟩
          obtain ⟨A6, c6, rfl⟩ := o6.form
          have hs6 := hb6.size
          have k6 := k5.below hb6 k5.lt
          have r6 := r5.below hb6 r5.lt
          have hb6' := below_then hb5' hb6
          have R6y := R5y.below (hb6.mono (by omega))
          have p2' := p2.below hb6 (by omega)
          clear k5 r5 hb5' hb6 R5y p1 p2 o5
          go_wp2_with fail
          refine (impl_NatSub w6 w6.heap.size (Nat.le_refl _) A' m c' ys (R6y.at_ (Rd.wider R6y.2.1 (by omega))) A2 _ c2 _ (RdI.of_own p2' (by omega) b2)).mono ?_
          rintro e w7 ⟨v7, rfl, o7, hb7⟩
          have hs7 := hb7.size
          have k7 := k6.below hb7 k6.lt
          have r7 := r6.below hb7 r6.lt
          have hb7' := below_then hb6' hb7
          have p6 := o6.below hb7 (Nat.le_refl _)
          clear k6 r6 hb6' hb7 R6y p2' o6
          have d0 := k7.cell 0
          have d1 := k7.cell 1
          simp only [List.getElem?_toArray, List.getElem?_cons_zero, List.getElem?_cons_succ] at d0 d1
          have HQ := hide p6
          have HRS := hide o7
          clear p6 o7
          go_wp2_with fail
          refine (impl_bigInt w7 true A6 _ c6 (addL Q [1]) rfl).mono ?_
          rintro e w9 ⟨rfl, hb9⟩
          have kr9 := r7.below hb9 r7.lt
          have hb9' := below_then hb7' hb9
          have z0 := kr9.frozen 0
          have z1 := kr9.frozen 1
          have t0 := kr9.cell 0
          have t1 := kr9.cell 1
          simp only [List.getElem?_toArray, List.getElem?_cons_zero, List.getElem?_cons_succ] at t0 t1
          have hs9 := hb9.size
          have HO := hide (fl_end true kr9 (HQ.out.below hb9 (by omega)) (HRS.out.below hb9 (by omega)) hb9' (show w.heap.size ≤ w.heap.size + 1 by omega) (by omega) (by omega) (by omega) (by omega) (by omega))
          clear kr9 hb9 hb9' r7 k7 hb7'
          go_wp2_with fail
          refine bodyPost_ret (results_cell_tmp rfl _ _ (w.heap.size + 1) _ #[.bool (true && !(addL Q [1]).isEmpty), .slice A6 (addL Q [1]).length c6] (0, 0) _ rfl HO.out.1 Try.underlying27 rfl Try.sizeBig) rfl ?_
          exact ⟨_, _, ret_vv (congrArg (fun z : Bool × List Int => Value.agg #[.bool z.1, .slice A6 (addL Q [1]).length c6]) HP.out.1) rfl, by rw [← HP.out.1, ← HP.out.2]; exact HO.out.2.1, HO.out.2.2⟩
        · have hrs : s = true → remL xs ys = [] := fun h => by
            by_cases hr : remL xs ys = []
            · exact hr
            · exact absurd ⟨h, hr⟩ hneg
          have hpair := HOKP.out hv hy hye hrs
          clear HNO HOKP HOKN hneg
          have HP := hide hpair
          have HRE := hide hrs
          clear hpair hv hy Rx Ry hrs
          generalize quoL xs ys = Q at *
          generalize remL xs ys = V2 at *
          cases s
          · have HQ := hide o1
            have HRS := hide o2
            clear o1 o2
            go_wp2_with fail
            refine (impl_bigInt w4 false A1 _ c1 (Q) rfl).mono ?_
            rintro e w9 ⟨rfl, hb9⟩
            have kr9 := r4.below hb9 r4.lt
            have hb9' := below_then hb4' hb9
            have z0 := kr9.frozen 0
            have z1 := kr9.frozen 1
            have t0 := kr9.cell 0
            have t1 := kr9.cell 1
            simp only [List.getElem?_toArray, List.getElem?_cons_zero, List.getElem?_cons_succ] at t0 t1
            have hs9 := hb9.size
            have HO := hide (fl_end false kr9 (HQ.out.below hb9 (by omega)) (HRS.out.below hb9 (by omega)) hb9' (show w.heap.size ≤ w.heap.size + 1 by omega) (by omega) (by omega) (by omega) (by omega) (by omega))
            clear kr9 hb9 hb9' r4 k4 hb4'
            go_wp2_with fail
            refine bodyPost_ret (results_cell_tmp rfl _ _ (w.heap.size + 1) _ #[.bool (false && !(Q).isEmpty), .slice A1 (Q).length c1] (0, 0) _ rfl HO.out.1 Try.underlying27 rfl Try.sizeBig) rfl ?_
            exact ⟨_, _, ret_vv (congrArg (fun z : Bool × List Int => Value.agg #[.bool z.1, .slice A1 (Q).length c1]) HP.out.1) rfl, by rw [← HP.out.1, ← HP.out.2]; exact HO.out.2.1, HO.out.2.2⟩
          · have hv2 := HRE.out rfl
            subst hv2
            clear HRE
            have HQ := hide o1
            have HRS := hide o2
            clear o1 o2
            go_wp2_with fail
            refine (impl_bigInt w4 true A1 _ c1 (Q) rfl).mono ?_
            rintro e w9 ⟨rfl, hb9⟩
            have kr9 := r4.below hb9 r4.lt
            have hb9' := below_then hb4' hb9
            have z0 := kr9.frozen 0
            have z1 := kr9.frozen 1
            have t0 := kr9.cell 0
            have t1 := kr9.cell 1
            simp only [List.getElem?_toArray, List.getElem?_cons_zero, List.getElem?_cons_succ] at t0 t1
            have hs9 := hb9.size
            have HO := hide (fl_end true kr9 (HQ.out.below hb9 (by omega)) (HRS.out.below hb9 (by omega)) hb9' (show w.heap.size ≤ w.heap.size + 1 by omega) (by omega) (by omega) (by omega) (by omega) (by omega))
            clear kr9 hb9 hb9' r4 k4 hb4'
            go_wp2_with fail
            refine bodyPost_ret (results_cell_tmp rfl _ _ (w.heap.size + 1) _ #[.bool (true && !(Q).isEmpty), .slice A1 (Q).length c1] (0, 0) _ rfl HO.out.1 Try.underlying27 rfl Try.sizeBig) rfl ?_
            exact ⟨_, _, ret_vv (congrArg (fun z : Bool × List Int => Value.agg #[.bool z.1, .slice A1 (Q).length c1]) HP.out.1) rfl, by rw [← HP.out.1, ← HP.out.2]; exact HO.out.2.1, HO.out.2.2⟩
    · have hy : natB ys = false := by simpa using hy
      have HO := hide (ret_big0 (x := .bool false) (v := .slice none 0 0) r2 hb2' (show w.heap.size ≤ w.heap.size + 1 by omega))
      obtain ⟨hz1, hz2⟩ := HNO.out (.inr (.inl hy))
      clear HNO HOKP HOKN r2 hb2' Rx Ry
      rw [hy]
      go_wp2_with fail
      refine bodyPost_ret (results_cell_tmp rfl _ _ (w.heap.size + 1) _ #[.bool false, .slice none 0 0] (0, 0) _ rfl HO.out.1 Try.underlying27 rfl Try.sizeBig) rfl ?_
      exact ⟨_, _, ret_vv (by rw [hz1]; rfl) rfl, by rw [hz1, hz2]; exact ⟨_, _, _, _, Own.nil _ w.heap.size w.heap.size _, Own.nil _ w.heap.size w.heap.size _, Nat.le_refl _, Nat.le_refl _, HO.out.2.size, HO.out.2.size, .inl (Nat.le_refl _)⟩, HO.out.2⟩
  · have hv : bigB s xs = false := by simpa using hv
    have HO := hide (ret_big0 (x := .bool false) (v := .slice none 0 0) r2 hb2' (show w.heap.size ≤ w.heap.size + 1 by omega))
    obtain ⟨hz1, hz2⟩ := HNO.out (.inl hv)
    clear HNO HOKP HOKN r2 hb2' Rx Ry
    rw [hv]
    go_wp2_with fail
    refine bodyPost_ret (results_cell_tmp rfl _ _ (w.heap.size + 1) _ #[.bool false, .slice none 0 0] (0, 0) _ rfl HO.out.1 Try.underlying27 rfl Try.sizeBig) rfl ?_
    exact ⟨_, _, ret_vv (by rw [hz1]; rfl) rfl, by rw [hz1, hz2]; exact ⟨_, _, _, _, Own.nil _ w.heap.size w.heap.size _, Own.nil _ w.heap.size w.heap.size _, Nat.le_refl _, Nat.le_refl _, HO.out.2.size, HO.out.2.size, .inl (Nat.le_refl _)⟩, HO.out.2⟩
end Go.Proofs.Ytcainjgcfbgddaa
