/-
  The reference's big integers: contracts (7): FloorDiv.
-/
import Derived.Test.YtcainjgcfbgddaaBigR3
import Derived.Test.YtcainjgcfbgddaaBigF
import Derived.Test.YtcainjgcfbgddaaNatR8
namespace Go.Proofs.Ytcainjgcfbgddaa
open Go.RowKit
set_option linter.unusedVariables false

theorem capT_norm {xs : List Int} (h : Canon xs) (hl : xs.length ≤ 60) : capT xs = xs := by
  have e : trim xs = xs := by
    have h2 := trim_eq h.1 (n := (val xs).toNat) (by have := val_nonneg h.1; omega)
    rw [h2, limbs_val h]
  rw [capT, e, if_pos hl]
theorem quo_eq {xs ys : List Int} (hx : natB xs = true) (hy : natB ys = true) (h0 : ys.isEmpty = false) : limbs (val xs / val ys).toNat = quoL xs ys ∧ limbs (val xs % val ys).toNat = remL xs ys := by
  have h1 := natV_val hx
  have h2 := natV_val hy
  rw [quoL, remL, hx, hy, h0, ← h1, ← h2]
  exact ⟨rfl, rfl⟩
theorem quoL_canon (a b : List Int) : Canon (quoL a b) := by rw [quoL]; split; exact limbs_canon _; exact Canon.nil
theorem remL_canon (a b : List Int) : Canon (remL a b) := by rw [remL]; split; exact limbs_canon _; exact Canon.nil
theorem remL_lt {a b : List Int} (ha : natB a = true) (hb : natB b = true) (h0 : b.isEmpty = false) : val (remL a b) ≤ val b := by
  have hY : natV b ≠ 0 := by intro e; have := natB_zero hb; rw [e, h0] at this; simp at this
  rw [remL, ha, hb, h0]
  show val (limbs _) ≤ _
  rw [val_limbs, ← natV_val hb]
  have := Nat.mod_lt (natV a) (show 0 < natV b by omega)
  omega
theorem add_one_cap {xs ys acc : List Int} (hx : natB xs = true) (hy : natB ys = true) (hl : Limbs acc) (hv : val acc = val (quoL xs ys) + 1) : capT acc = addL (quoL xs ys) [1] := by
  have b1 : natB (quoL xs ys) = true := (natB_iff _).2 ⟨quoL_canon _ _, quoL_60 hx hy⟩
  have h1 := natV_val b1
  rw [capT_capL hl (n := natV (quoL xs ys) + 1) (by omega), addL, b1, show natB [1] = true by decide]
  rfl
theorem sub_rem {xs ys : List Int} (hx : natB xs = true) (hy : natB ys = true) : limbs (val ys - val (remL xs ys)).toNat = subL ys (remL xs ys) := by
  rw [subL_ok hy ((natB_iff _).2 ⟨remL_canon _ _, remL_60 hx hy⟩)]
theorem floor_noR {s : Bool} {xs ys : List Int} (h : bigB s xs = false ∨ natB ys = false ∨ ys.isEmpty = true) : floorZ s xs ys = noZ ∧ restZ s xs ys = [] := floor_no h
set_option maxHeartbeats 3200000 in
theorem spec_BigIntFloorDiv (w : World) (B : Nat) (hB : B ≤ w.heap.size) (s : Bool) (A : Option Addr) (n c : Nat) (xs : List Int) (Rx : RdI w B A n xs) (A' : Option Addr) (m c' : Nat) (ys : List Int) (Ry : RdI w B A' m ys) :
    Calls Try.prog 36 #[.agg #[.bool s, .slice A n c], .slice A' m c'] w fun e w' => ∃ v1 v2, e = .returned (.tuple #[.agg #[.bool (floorZ s xs ys).1, v1], v2]) ∧ Two w w' 3 v1 (floorZ s xs ys).2 v2 (restZ s xs ys) ∧ Below w.heap.size w w' := by
  obtain ⟨W0, hW0⟩ : ∃ W0, W0 = (w.alloc (.cells #[.bool s, .slice A n c] 27)).alloc (.cells #[.bool false, .slice none 0 0] 27) := ⟨_, rfl⟩
  have hb0 : Below w.heap.size w W0 := by rw [hW0]; exact below_alloc (below_new _ _) _
  have kr : Box W0 (w.heap.size + 1) 27 #[.bool false, .slice none 0 0] := by rw [hW0]; exact Box.last _ _ _ (alloc_size _ _).symm
  have kx : Box W0 w.heap.size 27 #[.bool s, .slice A n c] := by rw [hW0]; exact (Box.last _ _ _ rfl).alloc _
  have hs0 : W0.heap.size = w.heap.size + 2 := by rw [hW0, alloc_size, alloc_size]
  obtain ⟨x0, x1, _, _⟩ := kx.facts
  have R0x := Rx.below (hb0.mono hB)
  have R0y := Ry.below (hb0.mono hB)
  have HNO := hide (floor_noR (s := s) (xs := xs) (ys := ys))
  have HOKP := hide (floor_pos (s := s) (xs := xs) (ys := ys))
  have HOKN := hide (fun (h : s = true) => by subst h; exact floor_neg (xs := xs) (ys := ys) : s = true → bigB s xs = true → natB ys = true → ys.isEmpty = false → remL xs ys ≠ [] → (s && !(addL (quoL xs ys) [1]).isEmpty, addL (quoL xs ys) [1]) = floorZ s xs ys ∧ subL ys (remL xs ys) = restZ s xs ys)
  generalize floorZ s xs ys = Z at HNO HOKP HOKN ⊢
  generalize restZ s xs ys = V at HNO HOKP HOKN ⊢
  have hym := Ry.1
  have hml := Ry.2.2.1
  go_enter Try.func36, Try.ntmps36
  go_wp2_with fail
  rw [← hW0]
  clear hW0
  refine (spec_BigIntOk W0 B (by omega) s A n c xs R0x).mono ?_
  rintro e w2 ⟨rfl, hb2⟩
  have k2 := kx.below hb2 kx.lt
  have r2 := kr.below hb2 kr.lt
  have hs2x := hb2.size
  have hb2' := below_then hb0 hb2
  have hs2 := hb2'.size
  have R2x := Rx.below (hb2'.mono hB)
  have R2y := Ry.below (hb2'.mono hB)
  clear hb0 kx kr hb2 R0x R0y x0 x1
  obtain ⟨d0, d1, _, _⟩ := k2.facts
  obtain ⟨t0, t1, z0, z1⟩ := r2.facts
  by_cases hv : bigB s xs = true
  · rw [hv]
    go_wp2_with fail
    refine (spec_NatOk w2 B (by omega) A' m c' ys R2y).mono ?_
    rintro e w3 ⟨rfl, rfl⟩
    by_cases hy : natB ys = true
    · rw [hy]
      by_cases hm0 : m = 0
      · have hye : ys.isEmpty = true := by rw [isEmpty_len hym, hm0]; rfl
        subst hm0
        have HO := hide (ret_big0 (x := .bool false) (v := .slice none 0 0) r2 hb2' (show w.heap.size ≤ w.heap.size + 1 by omega))
        obtain ⟨hz1, hz2⟩ := HNO.out (.inr (.inr hye))
        clear HNO HOKP HOKN r2 hb2' Rx Ry
        go_wp2_with fail
        refine bodyPost_ret (results_cell_tmp rfl _ _ (w.heap.size + 1) _ #[.bool false, .slice none 0 0] (0, 0) _ rfl HO.out.1 Try.underlying27 rfl Try.sizeBig) rfl ?_
        exact ⟨_, _, ret_vv (by rw [hz1]; rfl) rfl, by rw [hz1, hz2]; exact ⟨_, _, _, _, Own.nil _ w.heap.size w.heap.size _, Own.nil _ w.heap.size w.heap.size _, Nat.le_refl _, Nat.le_refl _, HO.out.2.size, HO.out.2.size, .inl (Nat.le_refl _)⟩, HO.out.2⟩
      · have hye : ys.isEmpty = false := by rw [isEmpty_len hym]; simp; omega
        have hmz : ((m : Int) == 0) = false := by simp; omega
        have hq60 := quoL_60 (bigB_nat hv) hy
        have hr60 := remL_60 (bigB_nat hv) hy
        have hxc := ((natB_iff xs).1 (bigB_nat hv))
        have hyc := ((natB_iff ys).1 hy)
        have HD := hide (spec_DivC w2 B (by omega) A A' n m c c' xs ys R2x.1 R2y.1 R2x.2.1 R2y.2.1 (by have := R2x.1; omega) (by have := R2y.1; omega) hxc.1 hyc.1 (by omega))
        rw [(quo_eq (bigB_nat hv) hy hye).1, (quo_eq (bigB_nat hv) hy hye).2] at HD
        have hym' := hide hym
        have HXC := hide hxc
        have HYC := hide hyc
        clear hym hxc hyc
        go_wp2_with fail
        refine HD.out.mono ?_
        rintro e w4 ⟨v1, v2, rfl, ⟨l1, h1, l2, h2, o1, o2, hl1, hl2, hh1, hh2, hdis⟩, hb4, hcap⟩
        obtain ⟨A1, c1, rfl⟩ := o1.form
        obtain ⟨A2, c2, rfl⟩ := o2.form
        obtain ⟨A1', n1', c1', he, hc1, hcm1⟩ := hcap
        injection he with he1 he2 he3
        have HC1 : Hid ((quoL xs ys).length ≤ c1) := by show _ ≤ _; omega
        have HCM : Hid (c1 ≤ maxLen) := by show _ ≤ _; omega
        clear he1 he2 he3 hc1 hcm1 HD
        have k4 := k2.below hb4 k2.lt
        have r4 := r2.below hb4 r2.lt
        have hs4 := hb4.size
        have hb4' := below_then hb2' hb4
        have R4y := Ry.below (hb4'.mono hB)
        clear d0 d1 z0 z1 t0 t1 k2 r2 hb2' hb4 R2x R2y
        obtain ⟨d0, d1, _, _⟩ := k4.facts
        by_cases hneg : s = true ∧ remL xs ys ≠ []
        · obtain ⟨hs, hr⟩ := hneg
          have hpair := HOKN.out hs hv hy hye hr
          have HACC := hide (fun acc => add_one_cap (xs := xs) (ys := ys) (acc := acc) (bigB_nat hv) hy)
          have HSR := hide (sub_rem (xs := xs) (ys := ys) (bigB_nat hv) hy)
          have HLE := hide (remL_lt (bigB_nat hv) hy hye)
          clear HNO HOKP HOKN
          subst hs
          have hrl : 0 < (remL xs ys).length := List.length_pos_iff.2 hr
          have hrl' : 0 < ((remL xs ys).length : Int) := by omega
          have HQ := hide (quoL_canon xs ys)
          have HR := hide (remL_canon xs ys)
          have HP := hide hpair
          clear hpair hv hy hr Rx Ry
          generalize quoL xs ys = Q at *
          generalize remL xs ys = V2 at *
          have hone := own_one w4 3 (.int .i64 1)
          have hrd1 := own_rd hone
          have hs5 := alloc_size w4 (.cells #[.int .i64 1] 3)
          have HA := hide (spec_Add (w4.alloc (.cells #[.int .i64 1] 3)) _ (Nat.le_refl _) A1 (some ⟨w4.heap.size, 0, none⟩) Q.length 1 c1 1 Q [1] rfl rfl (Rd.wider (o1.rd.alloc (Nat.le_refl _) _) (by omega)) hrd1 (by omega) (by omega) HQ.out.1 (fun d hd => by simp at hd; omega))
          have k5 := k4.alloc (.cells #[.int .i64 1] 3)
          have r5 := r4.alloc (.cells #[.int .i64 1] 3)
          have hb5' := below_alloc hb4' (.cells #[.int .i64 1] 3)
          have R5y := R4y.below (((Below.refl w4.heap.size w4).alloc (Nat.le_refl _) (.cells #[.int .i64 1] 3)).mono (show B ≤ w4.heap.size by omega))
          have p2 := o2.below ((Below.refl w4.heap.size w4).alloc (Nat.le_refl _) (.cells #[.int .i64 1] 3)) hh2
          clear k4 r4 hb4' R4y o1 o2 hone hrd1
          go_wp2_with fail
          refine HA.out.mono ?_
          rintro e w6 ⟨v6, acc, rfl, q6, hlim, hval, hlen, hb6⟩
          have hacc := HACC.out acc hlim (by rw [hval]; simp [val])
          obtain ⟨A6, c6, rfl, _, _, _⟩ := own_reads q6
          have HM := hide (spec_Make w6 w6.heap.size (Nat.le_refl _) true A6 acc.length c6 acc rfl (own_rd q6) (own_nilcap q6).2.1 (own_nilcap q6).2.2)
          rw [hacc] at HM
          have hs6 := hb6.size
          have k6 := k5.below hb6 k5.lt
          have r6 := r5.below hb6 r5.lt
          have hb6' := below_then hb5' hb6
          have R6y := R5y.below (hb6.mono (by omega))
          have p2' := p2.below hb6 (by omega)
          clear k5 r5 hb5' hb6 R5y p2 q6 hacc hlim hval hlen HA HACC d0 d1
          go_wp2_with fail
          refine HM.out.mono ?_
          rintro e w7 ⟨v7, rfl, o7, hb7⟩
          obtain ⟨A7, c7, rfl⟩ := o7.form
          have hs7 := hb7.size
          have k7 := k6.below hb7 k6.lt
          have r7 := r6.below hb7 r6.lt
          have hb7' := below_then hb6' hb7
          have R7y := R6y.below (hb7.mono (by omega))
          have p7 := p2'.below hb7 (by omega)
          have HS := hide (spec_Sub w7 w7.heap.size (Nat.le_refl _) A' A2 m V2.length c' c2 ys V2 hym'.out rfl (Rd.wider R7y.2.1 (by omega)) p7.rd (by omega) HYC.out.1 HR.out HLE.out)
          rw [HSR.out] at HS
          clear k6 r6 hb6' hb7 R6y p2' HM R7y p7
          go_wp2_with fail
          refine HS.out.mono ?_
          rintro e w8 ⟨v8, rfl, q8, hb8⟩
          have o8 := Own.of_row q8 (Nat.le_refl _)
          have hs8 := hb8.size
          have k8 := k7.below hb8 k7.lt
          have r8 := r7.below hb8 r7.lt
          have hb8' := below_then hb7' hb8
          have p6 := o7.below hb8 (Nat.le_refl _)
          clear k7 r7 hb7' hb8 q8 o7 HS
          obtain ⟨t0, t1, z0, z1⟩ := r8.facts
          have HO := hide (fl_end true r8 p6 o8 hb8' (show w.heap.size ≤ w.heap.size + 1 by omega) (by omega) (by omega) (Nat.le_of_lt_succ (by omega)) (Nat.le_refl _) (.inl (Nat.le_refl _)))
          clear r8 p6 o8 hb8' k8
          go_wp2_with fail
          refine bodyPost_ret (results_cell_tmp rfl _ _ (w.heap.size + 1) _ #[.bool (true && !(addL Q [1]).isEmpty), .slice A7 (addL Q [1]).length c7] (0, 0) _ rfl HO.out.1 Try.underlying27 rfl Try.sizeBig) rfl ?_
          exact ⟨_, _, ret_vv (congrArg (fun z : Bool × List Int => Value.agg #[.bool z.1, .slice A7 (addL Q [1]).length c7]) HP.out.1) rfl, by rw [← HP.out.1, ← HP.out.2]; exact HO.out.2.1, HO.out.2.2⟩
        · have hrs : s = true → remL xs ys = [] := fun h => by
            by_cases hr : remL xs ys = []
            · exact hr
            · exact absurd ⟨h, hr⟩ hneg
          have hpair := HOKP.out hv hy hye hrs
          have HQC := hide (capT_norm (quoL_canon xs ys) hq60)
          clear HNO HOKP HOKN hneg
          have HP := hide hpair
          have HRE := hide hrs
          clear hpair hv hy Rx Ry hrs
          generalize quoL xs ys = Q at *
          generalize remL xs ys = V2 at *
          have HM := hide (spec_Make w4 w4.heap.size (Nat.le_refl _) s A1 Q.length c1 Q rfl o1.rd HC1.out HCM.out)
          rw [HQC.out] at HM
          clear o1
          cases s
          · go_wp2_with fail
            refine HM.out.mono ?_
            rintro e w7 ⟨v7, rfl, o7, hb7⟩
            obtain ⟨A7, c7, rfl⟩ := o7.form
            have r7 := r4.below hb7 r4.lt
            have hs7 := hb7.size
            have hb7' := below_then hb4' hb7
            have p2 := o2.below hb7 hh2
            clear k4 r4 hb4' o2 hb7 HM R4y
            obtain ⟨t0, t1, z0, z1⟩ := r7.facts
            have HO := hide (fl_end false r7 o7 p2 hb7' (show w.heap.size ≤ w.heap.size + 1 by omega) (by omega) (by omega) (Nat.le_refl _) (by omega) (.inr hh2))
            clear r7 o7 p2 hb7'
            go_wp2_with fail
            refine bodyPost_ret (results_cell_tmp rfl _ _ (w.heap.size + 1) _ #[.bool (false && !Q.isEmpty), .slice A7 Q.length c7] (0, 0) _ rfl HO.out.1 Try.underlying27 rfl Try.sizeBig) rfl ?_
            exact ⟨_, _, ret_vv (congrArg (fun z : Bool × List Int => Value.agg #[.bool z.1, .slice A7 Q.length c7]) HP.out.1) rfl, by rw [← HP.out.1, ← HP.out.2]; exact HO.out.2.1, HO.out.2.2⟩
          · have hv2 := HRE.out rfl
            subst hv2
            clear HRE
            go_wp2_with fail
            refine HM.out.mono ?_
            rintro e w7 ⟨v7, rfl, o7, hb7⟩
            obtain ⟨A7, c7, rfl⟩ := o7.form
            have r7 := r4.below hb7 r4.lt
            have hs7 := hb7.size
            have hb7' := below_then hb4' hb7
            have p2 := o2.below hb7 hh2
            clear k4 r4 hb4' o2 hb7 HM R4y
            obtain ⟨t0, t1, z0, z1⟩ := r7.facts
            have HO := hide (fl_end true r7 o7 p2 hb7' (show w.heap.size ≤ w.heap.size + 1 by omega) (by omega) (by omega) (Nat.le_refl _) (by omega) (.inr hh2))
            clear r7 o7 p2 hb7'
            go_wp2_with fail
            refine bodyPost_ret (results_cell_tmp rfl _ _ (w.heap.size + 1) _ #[.bool (true && !Q.isEmpty), .slice A7 Q.length c7] (0, 0) _ rfl HO.out.1 Try.underlying27 rfl Try.sizeBig) rfl ?_
            exact ⟨_, _, ret_vv (congrArg (fun z : Bool × List Int => Value.agg #[.bool z.1, .slice A7 Q.length c7]) HP.out.1) rfl, by rw [← HP.out.1, ← HP.out.2]; exact HO.out.2.1, HO.out.2.2⟩
    · have hy : natB ys = false := by simpa using hy
      have HO := hide (ret_big0 (x := .bool false) (v := .slice none 0 0) r2 hb2' (show w.heap.size ≤ w.heap.size + 1 by omega))
      obtain ⟨hz1, hz2⟩ := HNO.out (.inr (.inl hy))
      clear HNO HOKP HOKN r2 hb2' Rx Ry
      rw [hy]
      go_wp2_with fail
      refine bodyPost_ret (results_cell_tmp rfl _ _ (w.heap.size + 1) _ #[.bool false, .slice none 0 0] (0, 0) _ rfl HO.out.1 Try.underlying27 rfl Try.sizeBig) rfl ?_
      exact ⟨_, _, ret_vv (by rw [hz1]; rfl) rfl, by rw [hz1, hz2]; exact ⟨_, _, _, _, Own.nil _ w.heap.size w.heap.size _, Own.nil _ w.heap.size w.heap.size _, Nat.le_refl _, Nat.le_refl _, HO.out.2.size, HO.out.2.size, .inl (Nat.le_refl _)⟩, HO.out.2⟩
  · have hv : bigB s xs = false := by simpa using hv
    have HO := hide (ret_big0 (x := .bool false) (v := .slice none 0 0) r2 hb2' (show w.heap.size ≤ w.heap.size + 1 by omega))
    obtain ⟨hz1, hz2⟩ := HNO.out (.inl hv)
    clear HNO HOKP HOKN r2 hb2' Rx Ry
    rw [hv]
    go_wp2_with fail
    refine bodyPost_ret (results_cell_tmp rfl _ _ (w.heap.size + 1) _ #[.bool false, .slice none 0 0] (0, 0) _ rfl HO.out.1 Try.underlying27 rfl Try.sizeBig) rfl ?_
    exact ⟨_, _, ret_vv (by rw [hz1]; rfl) rfl, by rw [hz1, hz2]; exact ⟨_, _, _, _, Own.nil _ w.heap.size w.heap.size _, Own.nil _ w.heap.size w.heap.size _, Nat.le_refl _, Nat.le_refl _, HO.out.2.size, HO.out.2.size, .inl (Nat.le_refl _)⟩, HO.out.2⟩
end Go.Proofs.Ytcainjgcfbgddaa
