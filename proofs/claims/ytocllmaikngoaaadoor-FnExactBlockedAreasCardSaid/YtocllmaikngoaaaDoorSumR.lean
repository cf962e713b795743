/-
  The reference's sums of polygons: contracts: SumPolygons, ObstacleFor.
-/
import Derived.Test.YtocllmaikngoaaaDoorRG
import Derived.Test.YtocllmaikngoaaaDoorHulR2
import Derived.Test.YtocllmaikngoaaaDoorPolR
import Derived.Test.YtocllmaikngoaaaDoorPolR3
namespace Go.Proofs.YtocllmaikngoaaaDoor
open Go.RowKit
set_option linter.unusedVariables false
set_option maxRecDepth 100000 in
set_option maxHeartbeats 3200000 in
theorem spec_SumPolygons (w : World) (B : Nat) (hB : B ≤ w.heap.size) (A : Option Addr) (n c : Nat) (a : List V2) (R : RdV w B A n a) (D : Option Addr) (m d : Nat) (b : List V2) (S : RdV w B D m b) :
    Calls Tryd.prog 56 #[.slice A n c, .slice D m d] w fun e w' => ∃ v, e = .returned v ∧ OwnV w' w.heap.size w'.heap.size 31 v (sumL a b).length (sumL a b) ∧ Below w.heap.size w w' := by
  have HP := hide (spec_IsPolygon w B hB A n c a R)
  have HP2 := hide (fun (W : World) (h : Below w.heap.size w W) => spec_IsPolygon W B (Nat.le_trans hB h.size) D m d b (S.below (h.mono hB)))
  obtain ⟨hna, hxa, hla, hwa⟩ := R
  obtain ⟨hnb, hxb, hlb, hwb⟩ := S
  cases ep : polyB a with
  | false =>
    have HN := hide (sumL_a (b := b) ep)
    rw [ep] at HP
    clear hxa hxb ep
    go_enter Tryd.func56, Tryd.ntmps56
    go_wp2_with fail
    refine HP.out.mono ?_
    rintro e w1 ⟨rfl, hb1⟩
    go_wp2_with fail
    go_ret
    exact ⟨_, rfl, by rw [HN.out]; exact OwnV.nil _ _ _ _, hb1⟩
  | true =>
  cases eq : polyB b with
  | false =>
    have HN := hide (sumL_b (a := a) eq)
    rw [ep] at HP
    rw [eq] at HP2
    clear hxa hxb ep eq
    go_enter Tryd.func56, Tryd.ntmps56
    go_wp2_with fail
    refine HP.out.mono ?_
    rintro e w1 ⟨rfl, hb1⟩
    go_wp2_with fail
    refine (HP2.out _ hb1).mono ?_
    rintro e w2 ⟨rfl, hb2⟩
    go_wp2_with fail
    go_ret
    exact ⟨_, rfl, by rw [HN.out]; exact OwnV.nil _ _ _ _, below_then hb1 hb2⟩
  | true =>
  have hpa := polyB_iff.1 ep
  have hpb := polyB_iff.1 eq
  have h16 : n ≤ 16 := by have := hpa.2.1; omega
  have h16' : m ≤ 16 := by have := hpb.2.1; omega
  have hmul : ((n : Int) * (m : Int)) = ((n * m : Nat) : Int) := (Int.natCast_mul n m).symm
  have hmul2 : n * m ≤ 256 := Nat.le_trans (Nat.mul_le_mul h16 h16') (by omega)
  have hLs : (sumV a b).length ≤ 256 := by rw [sumV_len, hna, hnb]; exact hmul2
  have HLs : Hid ((sumV a b).length = n * m) := by show _ = _; rw [sumV_len, hna, hnb]
  have HIS := hide (fun h => sumL_is ep eq h)
  rw [ep] at HP
  rw [eq] at HP2
  clear ep eq
  have hm1 : 0 ≤ (n : Int) * (m : Int) := by rw [hmul]; omega
  have hm2 : (n : Int) * (m : Int) ≤ 256 := by rw [hmul]; omega
  by_cases h64 : 64 < n * m
  · have HN : Hid (sumL a b = []) := sumL_no (by rw [hullV_long (by rw [HLs.out]; exact h64)]; exact polyB_nil)
    have hgt : 64 < (n : Int) * (m : Int) := by rw [hmul]; omega
    clear hxa hxb hmul
    go_enter Tryd.func56, Tryd.ntmps56
    go_wp2_with fail
    refine HP.out.mono ?_
    rintro e w1 ⟨rfl, hb1⟩
    go_wp2_with fail
    refine (HP2.out _ hb1).mono ?_
    rintro e w2 ⟨rfl, hb2⟩
    go_wp2_with fail
    go_ret
    exact ⟨_, rfl, by rw [HN.out]; exact OwnV.nil _ _ _ _, below_then hb1 hb2⟩
  have hgt : ¬ 64 < (n : Int) * (m : Int) := by rw [hmul]; omega
  have hva : allV a = true := List.all_eq_true.2 fun x hx => by obtain ⟨i, hi, rfl⟩ := mem_at hx; exact poly_vec hpa hi
  have hvb : allV b = true := List.all_eq_true.2 fun x hx => by obtain ⟨i, hi, rfl⟩ := mem_at hx; exact poly_vec hpb hi
  have hwS := wfV_sum hpa hpb
  clear hmul hpa hpb
  go_enter Tryd.func56, Tryd.ntmps56
  go_wp2_with fail
  refine HP.out.mono ?_
  rintro e w1 ⟨rfl, hb1⟩
  go_wp2_with fail
  refine (HP2.out _ hb1).mono ?_
  rintro e w2 ⟨rfl, hb2⟩
  have hT2 := below_then hb1 hb2
  clear HP HP2 hb1 hb2
  have ho0 : (w2.alloc (.cells #[] 31)).ownsRow w.heap.size 31 2 (.slice (some ⟨w2.heap.size, 0, none⟩) 0 0) 0 [] := own_lower (World.ownsRow_made w2 #[] 0 (Nat.le_refl _) (by unfold maxLen; omega) rfl) hT2.size
  have hT3 : Below w.heap.size w (w2.alloc (.cells #[] 31)) := below_alloc hT2 _
  go_wp2_with fail
  go_loopw [5, 30] (fun r i wr => ∃ k : Nat, k ≤ n ∧ i = .int .i64 k ∧ wr.ownsRow w.heap.size 31 2 r (sumN a b k 0).length (fl (sumN a b k 0)) ∧ Hid ((sumN a b k 0).length = 0 → ∃ o, r = .slice o 0 0) ∧ Below w.heap.size w wr) (fun _ i _ => n - (intOf i).toNat)
  case atStart => exact ⟨0, Nat.zero_le _, rfl, by simpa [fl, sumN, sumV] using ho0, fun _ => ⟨_, rfl⟩, hT3⟩
  case round =>
    clear ho0 hT2 hT3
    obtain ⟨k, hk, rfl, hown, H0, hbel⟩ := hrel
    by_cases hlt : k < n
    · obtain ⟨ad, hA, hb1, hc1, hc2⟩ := (hxa.below (hbel.mono hB)).vec (k := k) (by omega)
      have hkl : k < a.length := by omega
      have hpv := vecB_bounds (allV_at hva hkl)
      have HAT : Hid (addV (atV a k) = addV (a[k].1, a[k].2)) := by show _ = _; rw [atV_eq hkl]
      generalize a[k].1 = x0 at *
      generalize a[k].2 = y0 at *
      obtain ⟨wo, ewo⟩ : ∃ x, x = wr := ⟨_, rfl⟩
      subst ewo
      obtain ⟨W0, hW0⟩ : ∃ W0, W0 = wo.alloc (.cells #[.int .i64 x0, .int .i64 y0] 31) := ⟨_, rfl⟩
      have ka : Box W0 wo.heap.size 31 #[.int .i64 x0, .int .i64 y0] := by rw [hW0]; exact Box.last _ _ _ rfl
      have ho0 := hown.alloc (.cells #[.int .i64 x0, .int .i64 y0] 31)
      rw [← hW0] at ho0
      have hT0 : Below w.heap.size w W0 := by rw [hW0]; exact below_alloc hbel _
      clear hown hbel
      subst hA
      go_wp2_with fail
      rw [← hW0]
      clear hW0 hc1 hc2
      go_loopw [5, 36] (fun r j wi => ∃ q : Nat, q ≤ m ∧ j = .int .i64 q ∧ wi.ownsRow w.heap.size 31 2 r (sumN a b k q).length (fl (sumN a b k q)) ∧ Hid ((sumN a b k q).length = 0 → ∃ o, r = .slice o 0 0) ∧ Box wi wo.heap.size 31 #[.int .i64 x0, .int .i64 y0] ∧ Below w.heap.size w wi) (fun _ j _ => m - (intOf j).toNat)
      case atStart => exact ⟨0, Nat.zero_le _, rfl, ho0, H0, ka, hT0⟩
      case round =>
        clear ho0 ka hT0 H0
        obtain ⟨q, hq, rfl, hown, H0, ka, hbel⟩ := hrel
        by_cases hqt : q < m
        · obtain ⟨ae, hE, hb5, hc5, hc6⟩ := (hxb.below (hbel.mono hB)).vec (k := q) (by omega)
          have hql : q < b.length := by omega
          have hqv := vecB_bounds (allV_at hvb hql)
          have HS : Hid (sumN a b k (q + 1) = sumN a b k q ++ [(x0 + b[q].1, y0 + b[q].2)]) := by show _ = _; rw [sumN_next hql, HAT.out]; rfl
          have hL := sumN_lt (a := a) hkl hql
          generalize b[q].1 = x1 at *
          generalize b[q].2 = y1 at *
          obtain ⟨W1, hW1⟩ : ∃ W1, W1 = wr.alloc (.cells #[.int .i64 x1, .int .i64 y1] 31) := ⟨_, rfl⟩
          have kb : Box W1 wr.heap.size 31 #[.int .i64 x1, .int .i64 y1] := by rw [hW1]; exact Box.last _ _ _ rfl
          have ka1 : Box W1 wo.heap.size 31 #[.int .i64 x0, .int .i64 y0] := by rw [hW1]; exact ka.alloc _
          have ho1 := hown.alloc (.cells #[.int .i64 x1, .int .i64 y1] 31)
          rw [← hW1] at ho1
          have hT1 : Below w.heap.size w W1 := by rw [hW1]; exact below_alloc hbel _
          clear hown hbel ka
          cases hE
          go_upto_region 10 with fail
          rw [← hW1]
          clear hW1 hc5 hc6
          have hs1 := hT1.size
          have HKA := hide ka1
          obtain ⟨yb0, yb1⟩ := kb.cells2
          obtain ⟨ya0, ya1⟩ := ka1.cells2
          clear ka1 kb
          go_wp2_with (at_builtin; refine wpList_append_two _ rfl _ _ _ rfl w.heap.size 31 16 Tryd.sliceVec _ _ _ rfl (ho1.alloc _) H0.out ⟨W1.heap.size, 0, none⟩ 1 [.int .i64 (x0 + x1), .int .i64 (y0 + y1)] rfl rfl (cells_new2 _ _ _ _) (by simp [Value.oneCell']) (by unfold maxLen; omega) (by omega) (by rw [alloc_size]; omega) ?_; intro v' w3 hown3 hgrow hk2)
          go_roundw
          case rel =>
            refine ⟨q + 1, by omega, by go_num, ?_, fun h => ?_, box_keep hk2 (HKA.out.alloc _), (below_alloc hT1 _).grown hgrow (by rw [alloc_size]; omega) fun j ej => (ho1.lt j ej).1⟩
            · rw [HS.out, fl_append, List.length_append]; exact hown3
            · rw [HS.out, List.length_append] at h; simp at h
          case measure => simp [intOf]; omega
        · obtain rfl : q = m := by omega
          have hrow := sumN_row (b := b) hkl
          rw [hnb] at hrow
          rw [hrow] at hown H0
          clear ka
          go_wp2_with fail
          go_roundw
          case rel => exact ⟨k + 1, by omega, by go_num, hown, H0, hbel⟩
          case measure => simp [intOf]; omega
    · obtain rfl : k = n := by omega
      have hall := sumN_all a b
      rw [hna] at hall
      rw [hall] at hown
      have o0 := OwnV.of_row hown (Nat.le_refl _)
      obtain ⟨A1, c1, rfl⟩ := o0.form
      have HH := hide (spec_HullOf wr wr.heap.size (Nat.le_refl _) A1 _ c1 _ (o0.rdV (by omega) hwS))
      clear hown hall H0 o0 hxa hxb
      go_wp2_with fail
      refine HH.out.mono ?_
      rintro e w3 ⟨r, rfl, o3, hb3⟩
      clear HH
      obtain ⟨A3, c3, rfl⟩ := o3.form
      have hbL := hullV_len (sumV a b)
      have HI := hide (spec_IsPolygon w3 w3.heap.size (Nat.le_refl _) A3 _ c3 _ (o3.rdV hbL (hullV_wf hwS)))
      have hT3 := hbel.trans (hb3.mono hbel.size)
      have hs3 := hbel.size
      go_wp2_with fail
      refine HI.out.mono ?_
      rintro e w4 ⟨rfl, hb4⟩
      have o4 := (o3.below hb4 (Nat.le_refl _)).wider (lo' := w.heap.size) (hi' := w4.heap.size) hs3 hb4.size
      have hT4 := below_then hT3 hb4
      clear HI o3 hT3 hb3 hb4 hbel
      cases eh : polyB (hullV (sumV a b)) with
      | false =>
        have HN := hide (sumL_no (a := a) (b := b) eh)
        go_wp2_with fail
        go_ret
        exact ⟨_, rfl, by rw [HN.out]; exact OwnV.nil _ _ _ _, hT4⟩
      | true =>
        have HN := hide (HIS.out eh)
        go_wp2_with fail
        go_ret
        exact ⟨_, rfl, by rw [HN.out]; exact o4, hT4⟩
theorem negL_wf2 (l : List V2) : wfV (negL l) := by
  unfold negL
  split
  · rename_i h
    intro v hv
    obtain ⟨u, hu, rfl⟩ := List.mem_map.1 hv
    exact neg_wf (List.all_eq_true.1 h u hu)
  · intro v hv; simp at hv
theorem negL_len2 (l : List V2) : (negL l).length ≤ l.length := by
  unfold negL
  split
  · simp
  · simp
theorem spec_ObstacleFor (w : World) (B : Nat) (hB : B ≤ w.heap.size) (A : Option Addr) (n c : Nat) (a : List V2) (R : RdV w B A n a) (D : Option Addr) (m d : Nat) (b : List V2) (S : RdV w B D m b) :
    Calls Tryd.prog 39 #[.slice A n c, .slice D m d] w fun e w' => ∃ v, e = .returned v ∧ OwnV w' w.heap.size w'.heap.size 31 v (obsL a b).length (obsL a b) ∧ Below w.heap.size w w' := by
  have HN := hide (spec_NegatePolygon w B hB A n c a R)
  have hl : (negL a).length ≤ 1048576 := by have := negL_len2 a; have := R.1; have := R.2.2.1; omega
  go_enter Tryd.func39, Tryd.ntmps39
  go_wp2_with fail
  refine HN.out.mono ?_
  rintro e w1 ⟨v, rfl, o1, hb1⟩
  obtain ⟨A1, c1, rfl⟩ := o1.form
  have HS := hide (spec_SumPolygons w1 w1.heap.size (Nat.le_refl _) D m d b ((S.wider hB).up hb1) A1 _ c1 _ (o1.rdV hl (negL_wf2 a)))
  have hs1 := hb1.size
  clear o1
  go_wp2_with fail
  refine HS.out.mono ?_
  rintro e w2 ⟨v2, rfl, o2, hb2⟩
  have o3 := o2.wider (lo' := w.heap.size) (hi' := w2.heap.size) hs1 (Nat.le_refl _)
  clear o2
  go_wp2_with fail
  go_ret
  exact ⟨_, rfl, o3, below_then hb1 hb2⟩
end Go.Proofs.YtocllmaikngoaaaDoor
